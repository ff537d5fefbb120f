/- A map from numbers to numbers; where a guest's frames lie, as plain lists. -/
import Derived.Test.YtmibiboboekniaaQref
import Derived.Maps.Own
import Derived.Maps.OwnSet
import Derived.Maps.Views
import Derived.Carry
namespace Go.Proofs.Ytmibiboboekniaa
open Go.RowKit
set_option linter.unusedVariables false
set_option linter.unusedSimpArgs false

abbrev QRV : Value → Option (DataW Value × List MemPlace) := fun v => some (.held v, [])
theorem keyI64 : Maps.Keyed Try.prog 3 := Maps.int_keyed Try.underlying3
theorem zeroI64 (w : World) : (zeroValue 3).run Try.prog w = .ok (.int .i64 0) w := by kernel_rfl
def I64 (k : Int) : Prop := -9223372036854775808 ≤ k ∧ k ≤ 9223372036854775807
theorem keyI (k : Int) (h : I64 k) : keyOf Try.prog 3 (.int .i64 k) = some (.int .i64 k) := Maps.keyOf_int_mk Try.underlying3 (by unfold I64 at h; simp [Lit.wf, IntKind.min, IntKind.max, IntKind.signed, IntKind.bits]; omega)

/-- Block b is a map that knows of every number k what f k says. -/
def MapI (w : World) (b n : Nat) (f : Int → Option Int) : Prop :=
  ∃ D : DataW Value, w.ownsMap Try.prog 3 QRV b n D ∧ ∀ k, I64 k → D.atKey (.int .i64 k) (.held (.int .i64 0)) = .held (.int .i64 ((f k).getD 0)) ∧ Maps.has D (.int .i64 k) = (f k).isSome
theorem MapI.made (w : World) : MapI (w.alloc (.map #[] 0)) w.heap.size 0 (fun _ => none) := ⟨_, World.ownsMap_made w _ _ _, fun k _ => by simp [DataW.atKey, Maps.has]⟩
theorem MapI.put {w w' : World} {b n : Nat} {f : Int → Option Int} {l : List Nat} (h : MapI w b n f) (k : Put l w w') (hl : b ∉ l) : MapI w' b n f := by
  obtain ⟨D, h1, h2⟩ := h
  obtain ⟨es, c, hb, F, hs, hD⟩ := h1
  exact ⟨D, ⟨es, c, k.keeps hb hl, F, hs, hD⟩, h2⟩
theorem MapI.kep {w w' : World} {b n : Nat} {f : Int → Option Int} (h : MapI w b n f) (k : Kep w w') : MapI w' b n f := h.put (l := []) (Put.of_kep k) (by simp)
theorem MapI.lt {w : World} {b n : Nat} {f : Int → Option Int} (h : MapI w b n f) : b < w.heap.size := by
  obtain ⟨D, h1, h2⟩ := h
  exact h1.lt
theorem MapI.ne {w : World} {b n R : Nat} {f : Int → Option Int} {cs : Array Value} {t : TypeId} {fr : Nat × Nat} (h : MapI w b n f) (hr : w.heap[R]? = some (.cells cs t fr)) : b ≠ R := by
  obtain ⟨D, ⟨es, c, hb, _⟩, h2⟩ := h
  rintro rfl
  rw [hb] at hr; cases hr
theorem MapI.look {w : World} {b n : Nat} {f : Int → Option Int} (h : MapI w b n f) (k : Int) (hk : I64 k) :
    (Instr.lookup 39 (.map (some b)) (.int .i64 k) true).run Try.prog w = .ok (.tuple #[.int .i64 ((f k).getD 0), .bool (f k).isSome]) w := by
  obtain ⟨D, g1, g2⟩ := h
  obtain ⟨v, ps, hr, hv⟩ := g1.look_ok keyI64 Try.underlying39 (zeroI64 w) (zd := .held (.int .i64 0)) (zp := []) rfl (keyI k hk)
  rw [(g2 k hk).1] at hv
  simp only [QRV, Option.some.injEq, Prod.mk.injEq, DataW.held.injEq] at hv
  rw [hr, hv.1, (g2 k hk).2]
def putI (f : Int → Option Int) (k v : Int) : Int → Option Int := fun h => if h = k then some v else f h
theorem MapI.store {w : World} {b n : Nat} {f : Int → Option Int} (h : MapI w b n f) (hn : n < maxLen) (k v : Int) (hk : I64 k) :
    ∃ w', (Instr.mapUpdate 39 (.map (some b)) (.int .i64 k) (.int .i64 v)).run Try.prog w = .ok () w' ∧ MapI w' b (n + 1) (putI f k v) ∧ Put [b] w w' := by
  obtain ⟨D, g1, g2⟩ := h
  obtain ⟨w', hr, hm, hg⟩ := g1.update keyI64 Try.underlying39 hn (keyI k hk) (val := .int .i64 v) (d := .held (.int .i64 v)) (ps := []) rfl
  refine ⟨w', hr, ⟨_, hm, fun j hj => ?_⟩, ⟨hg.os, hg.tape, hg.output, hg.size, fun i hi hn => hg.block i hi (by intro e; simp at e hn; exact hn e)⟩⟩
  by_cases hjk : j = k
  · subst hjk
    rw [Maps.atKey_put_same g1.isMap (k := .int .i64 j) trivial, Maps.has_put_same g1.isMap (k := .int .i64 j) trivial]
    simp [putI]
  · rw [Maps.atKey_put_other (by simp; exact hjk), Maps.has_put_other (by simp; exact hjk), (g2 j hj).1, (g2 j hj).2]
    simp [putI, hjk]

/-- The first k of a row, each and f. -/
def adL (l : List Int) (f : Int) (k : Nat) : List Int := (l.take k).map (· + f) ++ l.drop k
theorem adL_len (l : List Int) (f : Int) (k : Nat) : (adL l f k).length = l.length := by simp [adL]; omega
theorem adL_zero (l : List Int) (f : Int) : adL l f 0 = l := by simp [adL]
theorem adL_all (l : List Int) (f : Int) : adL l f l.length = l.map (· + f) := by simp [adL]
theorem adL_at {l : List Int} (f : Int) {k : Nat} (h : k < l.length) : (adL l f k).getD k 0 = l.getD k 0 := by
  have : k - min k l.length = 0 := by omega
  simp [adL, List.getD, List.getElem?_append, h, this, Nat.min_eq_left (Nat.le_of_lt h)]
theorem adL_succ {l : List Int} (f : Int) {k : Nat} (h : k < l.length) : (adL l f k).set k (l.getD k 0 + f) = adL l f (k + 1) := by
  have e : l.drop k = l.getD k 0 :: l.drop (k + 1) := by rw [List.drop_eq_getElem_cons h]; simp [List.getD, h]
  have e2 : l.take (k + 1) = l.take k ++ [l.getD k 0] := by rw [List.take_succ_eq_append_getElem h]; simp [List.getD, h]
  unfold adL
  rw [e, e2, List.set_append]
  simp [Nat.min_eq_left (Nat.le_of_lt h)]
/-- The place of a number among the first k of a row. -/
def gstF (l : List Int) : Nat → Int → Option Int
  | 0 => fun _ => none
  | k + 1 => putI (gstF l k) (l.getD k 0) k
theorem gstF_ext {l m : List Int} : ∀ k, (∀ j, j < k → l.getD j 0 = m.getD j 0) → gstF l k = gstF m k
  | 0, _ => rfl
  | k + 1, h => by
    show putI (gstF l k) (l.getD k 0) k = putI (gstF m k) (m.getD k 0) k
    rw [gstF_ext k (fun j hj => h j (by omega)), h k (by omega)]
theorem gstF_none {l : List Int} {h : Int} : ∀ k, k ≤ l.length → h ∉ l → gstF l k h = none
  | 0, _, _ => rfl
  | k + 1, hk, hm => by
    have : h ≠ l.getD k 0 := by
      intro e
      apply hm
      rw [e]
      simp [List.getD, show k < l.length by omega]
    show (if h = l.getD k 0 then some (k : Int) else gstF l k h) = none
    rw [if_neg this]
    exact gstF_none k (by omega) hm
theorem gstF_some {l : List Int} (hd : l.Nodup) {i : Nat} : ∀ k, k ≤ l.length → i < k → gstF l k (l.getD i 0) = some (i : Int)
  | 0, _, h => by omega
  | k + 1, hk, hi => by
    show (if l.getD i 0 = l.getD k 0 then some (k : Int) else gstF l k (l.getD i 0)) = some (i : Int)
    by_cases e : i = k
    · subst e; rw [if_pos rfl]
    · have hi' : i < k := by omega
      have : l.getD i 0 ≠ l.getD k 0 := by
        have h1 : i < l.length := by omega
        have h2 : k < l.length := by omega
        have := (List.pairwise_iff_getElem.mp hd) i k h1 h2 hi'
        simpa [List.getD, h1, h2] using this
      rw [if_neg this]
      exact gstF_some hd k (by omega) hi'
theorem gstF_range (l : List Int) (h : Int) : ∀ k : Nat, 0 ≤ (gstF l k h).getD 0 ∧ (gstF l k h).getD 0 ≤ k
  | 0 => by simp [gstF]
  | k + 1 => by
    have := gstF_range l h k
    show 0 ≤ (if h = l.getD k 0 then some (k : Int) else gstF l k h).getD 0 ∧ (if h = l.getD k 0 then some (k : Int) else gstF l k h).getD 0 ≤ ((k + 1 : Nat) : Int)
    by_cases e : h = l.getD k 0
    · rw [if_pos e]; simp; omega
    · rw [if_neg e]; omega
end Go.Proofs.Ytmibiboboekniaa
