/- Places strewn by a key, as plain lists. -/
import Derived.Test.YtmibiboboekniaaPutl
namespace Go.Proofs.Ytmibiboboekniaa
open Go.RowKit
set_option linter.unusedVariables false

def ints (l : List Int) : List Value := l.map (Value.int .i64)
def swp (l : List Int) (i j : Nat) : List Int := (l.set i (l.getD j 0)).set j (l.getD i 0)
def nx (x : Int) : Int := (x * 1664525 + 1013904223) % 4294967296
def ordF : Nat → Int → List Int → List Int
  | 0, _, l => l
  | i + 1, x, l => ordF i (nx x) (swp l (i + 1) (nx x / 256 % (i + 2)).toNat)
def iot (n : Nat) : List Int := (List.range n).map fun (k : Nat) => (k : Int)
def ordL (n : Nat) (key : Int) : List Int := ordF (n - 1) key (iot n)

theorem ints_len (l : List Int) : (ints l).length = l.length := by simp [ints]
theorem ints_at {l : List Int} {k : Nat} (h : k < l.length) : (ints l)[k]? = some (.int .i64 (l.getD k 0)) := by simp [ints, h, List.getD]
theorem ints_set (l : List Int) (k : Nat) (a : Int) : (ints l).set k (.int .i64 a) = ints (l.set k a) := by simp [ints, List.map_set]
theorem ints_app (l : List Int) (a : Int) : ints l ++ [.int .i64 a] = ints (l ++ [a]) := by simp [ints]
theorem swp_len (l : List Int) (i j : Nat) : (swp l i j).length = l.length := by simp [swp]
theorem swp_perm (l : List Int) (i j : Nat) (hi : i < l.length) (hj : j < l.length) : (swp l i j).Perm l := by
  have h := @Array.swap_perm _ l.toArray i j (by simpa using hi) (by simpa using hj)
  have e : (l.toArray.swap i j (by simpa using hi) (by simpa using hj)).toList = swp l i j := by
    unfold swp
    simp [Array.swap, hi, hj, List.getD]
  have h' := Array.perm_iff_toList_perm.mp h
  rw [e] at h'
  simpa using h'
theorem iot_len (n : Nat) : (iot n).length = n := by simp [iot]
theorem iot_at {n k : Nat} (h : k < n) : (iot n).getD k 0 = k := by simp [iot, h, List.getD]
theorem iot_succ (n : Nat) : iot n ++ [(n : Int)] = iot (n + 1) := by simp [iot, List.range_succ]
theorem nx_range (x : Int) : 0 ≤ nx x ∧ nx x < 4294967296 := by unfold nx; omega
theorem pick_range (x : Int) (i : Nat) : (nx x / 256 % (i + 2)).toNat < i + 2 := by
  have := nx_range x
  have h1 : 0 ≤ nx x / 256 % ((i : Int) + 2) := Int.emod_nonneg _ (by omega)
  have h2 : nx x / 256 % ((i : Int) + 2) < i + 2 := Int.emod_lt_of_pos _ (by omega)
  omega
theorem ordF_perm : ∀ (i : Nat) (x : Int) (l : List Int), i < l.length → (ordF i x l).Perm l
  | 0, _, l, _ => List.Perm.refl l
  | i + 1, x, l, h => by
    have h1 := pick_range x i
    exact (ordF_perm i (nx x) _ (by rw [swp_len]; omega)).trans (swp_perm l _ _ h (by omega))
theorem ordF_len (i : Nat) (x : Int) (l : List Int) : (ordF i x l).length = l.length := by
  induction i generalizing x l with
  | zero => rfl
  | succ i ih => simp only [ordF, ih, swp_len]
theorem ordL_len (n : Nat) (key : Int) : (ordL n key).length = n := by rw [ordL, ordF_len, iot_len]
theorem ordL_perm {n : Nat} (h : 1 ≤ n) (key : Int) : (ordL n key).Perm (iot n) := ordF_perm _ _ _ (by rw [iot_len]; omega)
theorem ordL_four : ordL 4 0 = [1, 2, 0, 3] := by decide
/-- All of a list lie from 0 to below n. -/
def InR (n : Nat) (l : List Int) : Prop := ∀ z ∈ l, 0 ≤ z ∧ z < n
theorem iot_in (n : Nat) : InR n (iot n) := by
  intro z hz
  simp only [iot, List.mem_map, List.mem_range] at hz
  obtain ⟨k, hk, rfl⟩ := hz
  omega
theorem InR.perm {n : Nat} {l m : List Int} (h : InR n l) (p : m.Perm l) : InR n m := fun z hz => h z (p.mem_iff.mp hz)
theorem InR.at {n : Nat} {l : List Int} (h : InR n l) {k : Nat} (hk : k < l.length) : 0 ≤ l.getD k 0 ∧ l.getD k 0 < n := by
  have : l.getD k 0 ∈ l := by simp [List.getD, hk]
  exact h _ this
theorem InR.swp {n : Nat} {l : List Int} (h : InR n l) {i j : Nat} (hi : i < l.length) (hj : j < l.length) : InR n (swp l i j) := h.perm (swp_perm l i j hi hj)
theorem iot_nodup (n : Nat) : (iot n).Nodup := by
  unfold iot
  refine List.Pairwise.map _ ?_ List.nodup_range
  intro a b h hab
  exact h (by omega)
theorem ordL_in {n : Nat} (h : 1 ≤ n) (key : Int) : InR n (ordL n key) := (iot_in n).perm (ordL_perm h key)
theorem ordL_nodup {n : Nat} (h : 1 ≤ n) (key : Int) : (ordL n key).Nodup := (ordL_perm h key).nodup_iff.mpr (iot_nodup n)
end Go.Proofs.Ytmibiboboekniaa
