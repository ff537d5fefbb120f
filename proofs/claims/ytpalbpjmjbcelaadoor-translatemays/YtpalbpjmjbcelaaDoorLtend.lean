/- How a block ends: where its code leads to. -/
import Derived.Test.YtpalbpjmjbcelaaDoorLtplc
import Derived.Test.YtpalbpjmjbcelaaDoorBlkin
namespace Go.Proofs.YtpalbpjmjbcelaaDoor
open Go.RowKit
set_option linter.unusedVariables false
set_option linter.unusedSimpArgs false

/-- At block b lie these places. -/
def Plc (w : World) (b : Nat) (P : List Int) : Prop := ∀ j v, P[j]? = some v → w.cell? ⟨b, j, none⟩ = some (.int .u32 v)
theorem Plc.kep {w w' : World} {b : Nat} {P : List Int} (h : Plc w b P) (k : Kep w w') : Plc w' b P := fun j v hj => (k.cell (World.block_lt_of_cell? w _ (h j v hj))).trans (h j v hj)
def LedOf (e n t : Int) (P : List Int) : Prop := (e = 3 ∧ P = [n, t]) ∨ (e = 2 ∧ P = [t]) ∨ (e ≠ 2 ∧ e ≠ 3 ∧ e ≠ 4 ∧ P = [n])

set_option maxHeartbeats 2000000 in
set_option maxRecDepth 100000 in
theorem ltendof_led {w : World} {xi : Option Addr} {li ci : Nat} {xa : Option Addr} {la ca : Nat} {n t e : Int} {xf : Option Addr} {lf cf : Nat} {xt : Option Addr} {lt ct : Nat} {P : List Int} (hP : LedOf e n t P) :
    Calls Tryd.prog 22 #[.agg (blkX xi li ci xa la ca n t e xf lf cf xt lt ct)] w fun r w' => ∃ b, r = .returned (ledV b P.length) ∧ Plc w' b P ∧ Kep w w' := by
  rcases hP with ⟨rfl, rfl⟩ | ⟨rfl, rfl⟩ | ⟨e2, e3, e4, rfl⟩
  · go_enter Tryd.func22, Tryd.ntmps22
    go_wp2_with fail
    go_ret
    refine ⟨w.heap.size + 1, rfl, ?_, kepA⟩
    intro j v hj
    match j, hj with
    | 0, hj => obtain rfl : n = v := by simpa using hj
               refine (cell_of_block (cs := #[.int .u32 n, .int .u32 t]) (t := 24) (fr := (0, 0)) ?_).trans rfl; exact blkA
    | 1, hj => obtain rfl : t = v := by simpa using hj
               refine (cell_of_block (cs := #[.int .u32 n, .int .u32 t]) (t := 24) (fr := (0, 0)) ?_).trans rfl; exact blkA
    | (j + 2), hj => simp at hj
  · go_enter Tryd.func22, Tryd.ntmps22
    go_wp2_with fail
    go_ret
    refine ⟨w.heap.size + 1, rfl, ?_, kepA⟩
    intro j v hj
    match j, hj with
    | 0, hj => obtain rfl : t = v := by simpa using hj
               refine (cell_of_block (cs := #[.int .u32 t]) (t := 24) (fr := (0, 0)) ?_).trans rfl; exact blkA
    | (j + 1), hj => simp at hj
  · have x2 : (e == 2) = false := by rw [beq_eq_false_iff_ne]; exact e2
    have x3 : (e == 3) = false := by rw [beq_eq_false_iff_ne]; exact e3
    have x4 : (e == 4) = false := by rw [beq_eq_false_iff_ne]; exact e4
    clear e2 e3 e4
    go_enter Tryd.func22, Tryd.ntmps22
    go_wp2_with fail
    go_ret
    refine ⟨w.heap.size + 1, rfl, ?_, kepA⟩
    intro j v hj
    match j, hj with
    | 0, hj => obtain rfl : n = v := by simpa using hj
               refine (cell_of_block (cs := #[.int .u32 n]) (t := 24) (fr := (0, 0)) ?_).trans rfl; exact blkA
    | (j + 1), hj => simp at hj

set_option maxHeartbeats 2000000 in
set_option maxRecDepth 100000 in
theorem ltendof_asked {w : World} {xi : Option Addr} {li ci : Nat} {I : List In4} {xa : Option Addr} {la ca : Nat} {A : List Int} {n t : Int} {xf : Option Addr} {lf cf : Nat} {xt : Option Addr} {lt ct : Nat} (H : BlkIn w xi li ci I xa la ca A n t 4) (hl : 1 ≤ la) :
    Calls Tryd.prog 22 #[.agg (blkX xi li ci xa la ca n t 4 xf lf cf xt lt ct)] w fun r w' => r = .returned (askedV (A.getD (la - 1) 0)) ∧ Kep w w' := by
  have hi : A[la - 1]? = some (A.getD (la - 1) 0) := by rw [List.getD_eq_getElem?_getD, List.getElem?_eq_getElem (by have := H.al; omega)]; rfl
  obtain ⟨ba, oa, hx, hc⟩ := lies_nu19 H.ai hi
  subst hx
  generalize A.getD (la - 1) 0 = p at hc ⊢
  have g1 : (la : Int) ≤ ca := by have := H.ac; omega
  have g2 : (ca : Int) ≤ 9223372036854775807 := H.am
  have g3 : (1 : Int) ≤ la := by omega
  have lb : ba < w.heap.size := World.block_lt_of_cell? w _ hc
  clear H hi hl
  go_enter Tryd.func22, Tryd.ntmps22
  go_wp2_with fail
  go_ret
  exact ⟨rfl, kepA⟩
end Go.Proofs.YtpalbpjmjbcelaaDoor
