/- A TLB: a row of slots and two counts. What a page leaves, where it has its place, whether there are slots. -/
import Derived.Test.YtekcknkfpecppaaPutl
namespace Go.Proofs.Ytekcknkfpecppaa
open Go.RowKit
set_option linter.unusedVariables false

/-- What a slot has: nothing, or a page, its bits and its frame. -/
abbrev Sl := Option (Int × Int × Int)
def slV : Sl → List Value
  | none => [.bool false, .int .u32 0, .int .u32 0, .int .i64 0]
  | some (p, b, f) => [.bool true, .int .u32 p, .int .u32 b, .int .i64 f]
theorem slV_len (s : Sl) : (slV s).length = 4 := by rcases s with _ | ⟨p, b, f⟩ <;> rfl
def slots (S : List Sl) : List Value := S.flatMap slV
theorem slots_cons (s : Sl) (S : List Sl) : slots (s :: S) = slV s ++ slots S := rfl
theorem slots_len : ∀ S : List Sl, (slots S).length = 4 * S.length
  | [] => rfl
  | s :: S => by rw [slots_cons, List.length_append, slV_len, slots_len S, List.length_cons]; omega
theorem slots_at : ∀ (S : List Sl) (k : Nat) (s : Sl), S[k]? = some s → ∀ j, j < 4 → (slots S)[4 * k + j]? = (slV s)[j]?
  | [], k, s, h, j, hj => by simp at h
  | x :: S, 0, s, h, j, hj => by
    simp at h; subst h
    rw [slots_cons, List.getElem?_append_left (by rw [slV_len]; omega)]
    simp
  | x :: S, k + 1, s, h, j, hj => by
    rw [slots_cons, List.getElem?_append_right (by rw [slV_len]; omega), slV_len, ← slots_at S k s (by simpa using h) j hj]
    congr 1; omega
theorem slots_set : ∀ (S : List Sl) (k : Nat) (s : Sl), k < S.length → (slots S).take (4 * k) ++ slV s ++ (slots S).drop (4 * k + 4) = slots (S.set k s)
  | [], k, s, h => by simp at h
  | x :: S, 0, s, h => by
    rw [slots_cons, List.set_cons_zero, slots_cons]
    simp [slV_len]
  | x :: S, k + 1, s, h => by
    have ih := slots_set S k s (by simpa using h)
    rw [slots_cons, List.set_cons_succ, slots_cons, ← ih]
    have e1 : (slV x ++ slots S).take (4 * (k + 1)) = slV x ++ (slots S).take (4 * k) := by
      rw [List.take_append, slV_len, List.take_of_length_le (by rw [slV_len]; omega)]
      congr 2
    have e2 : (slV x ++ slots S).drop (4 * (k + 1) + 4) = (slots S).drop (4 * k + 4) := by
      rw [List.drop_append, slV_len, List.drop_eq_nil_of_le (by rw [slV_len]; omega), List.nil_append]
      congr 1
    rw [e1, e2]; simp
theorem slots_none : ∀ n : Nat, slots (List.replicate n none) = (List.replicate n (slV none)).flatten
  | 0 => rfl
  | n + 1 => by rw [List.replicate_succ, slots_cons, slots_none n]; simp [List.replicate_succ]

/-- At p lies a TLB, its slots S in the row R, h true looks and m false ones. -/
structure Tlb (w : World) (p R : Nat) (S : List Sl) (h m : Int) : Prop where
  box : w.heap[p]? = some (.cells #[.slice (some ⟨R, 0, none⟩) S.length S.length, .int .i64 h, .int .i64 m] 49 (0, 0))
  row : w.heap[R]? = some (.cells (slots S).toArray 61 (0, 0))
  ne : p ≠ R
  pos : 1 ≤ S.length
  le : S.length ≤ 64
theorem Tlb.put {w w' : World} {p R : Nat} {S : List Sl} {h m : Int} {l : List Nat} (T : Tlb w p R S h m) (k : Put l w w') (h1 : p ∉ l) (h2 : R ∉ l) : Tlb w' p R S h m := ⟨k.keeps T.box h1, k.keeps T.row h2, T.ne, T.pos, T.le⟩
theorem Tlb.kep {w w' : World} {p R : Nat} {S : List Sl} {h m : Int} (T : Tlb w p R S h m) (k : Kep w w') : Tlb w' p R S h m := T.put (l := []) (Put.of_kep k) (by simp) (by simp)
theorem Tlb.c0 {w : World} {p R : Nat} {S : List Sl} {h m : Int} (T : Tlb w p R S h m) : w.cell? ⟨p, 0, none⟩ = some (.slice (some ⟨R, 0, none⟩) S.length S.length) := by rw [cell_of_block T.box]; rfl
theorem Tlb.c1 {w : World} {p R : Nat} {S : List Sl} {h m : Int} (T : Tlb w p R S h m) : w.cell? ⟨p, 1, none⟩ = some (.int .i64 h) := by rw [cell_of_block T.box]; rfl
theorem Tlb.c2 {w : World} {p R : Nat} {S : List Sl} {h m : Int} (T : Tlb w p R S h m) : w.cell? ⟨p, 2, none⟩ = some (.int .i64 m) := by rw [cell_of_block T.box]; rfl

theorem size_owner : (Try.prog.info? 59).map (·.size) = some 2 := by kernel_rfl
theorem by_any (w : World) (page : Int) :
    Calls Try.prog 21 #[.int .u32 page] w fun e w' => e = .returned (.agg #[.bool true, .int .u32 page]) ∧ w' = w.alloc (.cells #[.bool true, .int .u32 page] 59) := by
  go_enter Try.func21, Try.ntmps21
  go_wp2
  exact bodyPost_ret (results1 rfl _ _ w.heap.size 59 #[.bool true, .int .u32 page] (0, 0) _ rfl (hat _ _ _ rfl) Try.underlying59 rfl size_owner) rfl ⟨rfl, rfl⟩

theorem made_yes (w : World) (p : Nat) (x : Option Addr) (n : Nat) (hn : 1 ≤ n) (hc : w.cell? ⟨p, 0, none⟩ = some (.slice x n n)) :
    Calls Try.prog 17 #[.pointer (some ⟨p, 0, none⟩)] w fun e w' => e = .returned (.bool true) ∧ w' = w := by
  have g : (0 : Int) < n := by omega
  go_enter Try.func17, Try.ntmps17
  go_wp2
  go_ret
  exact ⟨by simp; omega, rfl⟩
theorem made_no (w : World) (v : Value) (h : v = .pointer none ∨ ∃ p : Nat, v = .pointer (some ⟨p, 0, none⟩) ∧ w.cell? ⟨p, 0, none⟩ = some (.slice none 0 0)) :
    Calls Try.prog 17 #[v] w fun e w' => e = .returned (.bool false) ∧ w' = w := by
  rcases h with rfl | ⟨p, rfl, hc⟩
  · go_enter Try.func17, Try.ntmps17
    go_wp2
    go_ret
    exact ⟨rfl, rfl⟩
  · go_enter Try.func17, Try.ntmps17
    go_wp2
    go_ret
    exact ⟨rfl, rfl⟩

theorem place_any (w : World) (p : Nat) (x : Option Addr) (n : Nat) (h1 : 1 ≤ n) (h2 : n ≤ 64) (page : Nat) (hp : (page : Int) < 4294967296) (hc : w.cell? ⟨p, 0, none⟩ = some (.slice x n n)) :
    Calls Try.prog 22 #[.pointer (some ⟨p, 0, none⟩), .int .u32 page] w fun e w' => e = .returned (.int .i64 ((page % n : Nat) : Int)) ∧ w' = w := by
  have g1 : (n : Int) % 4294967296 = n := by omega
  have g2 : ((n : Int) == 0) = false := by simp; omega
  go_enter Try.func22, Try.ntmps22
  go_wp2
  go_ret
  have e : wrap64 ((page : Int) % (n : Int)) = ((page % n : Nat) : Int) := by
    have := Nat.mod_lt page (show 0 < n by omega)
    rw [← Int.natCast_emod]
    generalize page % n = q at this ⊢
    unfold wrap64; omega
  exact ⟨ret_int e, rfl⟩
end Go.Proofs.Ytekcknkfpecppaa
