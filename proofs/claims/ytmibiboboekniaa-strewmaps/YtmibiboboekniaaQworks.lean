/- Four places, as the laws ask for them. -/
import Derived.Test.YtmibiboboekniaaQord
namespace Go.Proofs.Ytmibiboboekniaa
open Go.RowKit
set_option linter.unusedVariables false
set_option linter.unusedSimpArgs false

set_option maxHeartbeats 1000000 in
theorem works13_any (w : World) : Calls Try.prog 11 #[] w fun e w' => e = .returned (.bool true) ∧ Kep w w' := by
  have H := order_any 4 (by omega) (by omega) 0 (by omega) w
  rw [ordL_four] at H
  have HO : Hid (Calls Try.prog 9 #[.int .i64 4, .int .u32 0] w fun e w' => e = .returned (.slice (some ⟨w.heap.size, 0, none⟩) 4 4) ∧ Kep w w' ∧ w'.heap[w.heap.size]? = some (.cells (ints [1, 2, 0, 3]).toArray 3 (0, 0))) := H
  clear H
  go_enter Try.func11, Try.ntmps11
  go_wp2_with fail
  refine HO.out.mono ?_
  rintro e w1 ⟨rfl, hK, hR⟩
  clear HO
  have hK' : Hid (Kep w w1) := hK
  have c0 : w1.cell? ⟨w.heap.size, 0, none⟩ = some (.int .i64 1) := (cell_of_block hR).trans rfl
  have c1 : w1.cell? ⟨w.heap.size, 1, none⟩ = some (.int .i64 2) := (cell_of_block hR).trans rfl
  have c2 : w1.cell? ⟨w.heap.size, 2, none⟩ = some (.int .i64 0) := (cell_of_block hR).trans rfl
  have c3 : w1.cell? ⟨w.heap.size, 3, none⟩ = some (.int .i64 3) := (cell_of_block hR).trans rfl
  clear hR hK
  go_wp2_with fail
  go_ret
  exact ⟨rfl, hK'.out⟩
end Go.Proofs.Ytmibiboboekniaa
