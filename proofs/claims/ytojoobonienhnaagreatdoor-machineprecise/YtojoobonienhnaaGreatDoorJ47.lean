/- Part of a proof. -/
import Derived.LoopTactic
import Derived.Test.YtojoobonienhnaaGreatDoorJ46
namespace Go.Proofs.YtojoobonienhnaaGreatDoor
open Go.RowKit
set_option linter.unusedVariables false
set_option linter.unusedSimpArgs false
set_option maxHeartbeats 4000000 in
set_option maxRecDepth 100000 in
theorem refMay0 (op a b imm : Int) (host : Bool) (hrow : rowOf op host = 0) (w : World) (h0 : 0 ≤ a) (h1 : 0 ≤ b) (h2 : -2147483648 ≤ imm) (h3 : imm ≤ 2147483647) :
    Calls Tryz.prog 65 #[.agg (insA op a b imm), .bool host] w fun e w' => e = .returned (.bool (mayB 0 a b imm)) ∧ Kep w w' := by
  have em : Hid (∀ a b imm, mayB 0 a b imm = (false && (((decide (a ≤ 0) && decide (b ≤ 0)) && decide (0 ≤ imm)) && decide (imm ≤ 0)))) := fun _ _ _ => rfl
  go_enter Tryz.func65, Tryz.ntmps65
  go_wp2_with fail
  refine (refOf_any op host _).mono ?_
  rintro e w1 ⟨rfl, g1⟩
  rw [hrow]
  have G1 : Hid (Kep w w1) := kep_trans ((Kep.refl _).alloc _) g1
  have d1 := g1.cell (o := 1) (b := w.heap.size) (by simp)
  have d2 := g1.cell (o := 2) (b := w.heap.size) (by simp)
  have d3 := g1.cell (o := 3) (b := w.heap.size) (by simp)
  simp at d1 d2 d3
  have z1 : w.heap.size < w1.heap.size := Nat.lt_of_lt_of_le (by simp) g1.size
  have er : rformA 0 = #[.int .i64 0, .bool false, .bool false, .int .i64 0, .bool false] := rfl
  rw [er]
  clear hrow g1 er
  go_wp2_with fail
  all_goals (try go_wp2_with fail)
  all_goals go_ret
  all_goals exact ⟨ret_bool (by rw [em.out]; clear em d1 d2 d3 z1 G1; first | (simp_all; done) | (simp_all <;> omega) | (simp_all; intros; omega) | (rw [Bool.eq_iff_iff]; simp_all <;> omega) | (rw [Bool.eq_iff_iff]; simp_all; constructor <;> intros <;> omega)), G1.alloc _⟩
set_option maxHeartbeats 4000000 in
set_option maxRecDepth 100000 in
theorem refMay1 (op a b imm : Int) (host : Bool) (hrow : rowOf op host = 1) (w : World) (h0 : 0 ≤ a) (h1 : 0 ≤ b) (h2 : -2147483648 ≤ imm) (h3 : imm ≤ 2147483647) :
    Calls Tryz.prog 65 #[.agg (insA op a b imm), .bool host] w fun e w' => e = .returned (.bool (mayB 1 a b imm)) ∧ Kep w w' := by
  have em : Hid (∀ a b imm, mayB 1 a b imm = (true && (((decide (a ≤ 0) && decide (b ≤ 0)) && decide (0 ≤ imm)) && decide (imm ≤ 0)))) := fun _ _ _ => rfl
  go_enter Tryz.func65, Tryz.ntmps65
  go_wp2_with fail
  refine (refOf_any op host _).mono ?_
  rintro e w1 ⟨rfl, g1⟩
  rw [hrow]
  have G1 : Hid (Kep w w1) := kep_trans ((Kep.refl _).alloc _) g1
  have d1 := g1.cell (o := 1) (b := w.heap.size) (by simp)
  have d2 := g1.cell (o := 2) (b := w.heap.size) (by simp)
  have d3 := g1.cell (o := 3) (b := w.heap.size) (by simp)
  simp at d1 d2 d3
  have z1 : w.heap.size < w1.heap.size := Nat.lt_of_lt_of_le (by simp) g1.size
  have er : rformA 1 = #[.int .i64 1, .bool false, .bool false, .int .i64 0, .bool false] := rfl
  rw [er]
  clear hrow g1 er
  go_wp2_with fail
  all_goals (try go_wp2_with fail)
  all_goals go_ret
  all_goals exact ⟨ret_bool (by rw [em.out]; clear em d1 d2 d3 z1 G1; first | (simp_all; done) | (simp_all <;> omega) | (simp_all; intros; omega) | (rw [Bool.eq_iff_iff]; simp_all <;> omega) | (rw [Bool.eq_iff_iff]; simp_all; constructor <;> intros <;> omega)), G1.alloc _⟩
set_option maxHeartbeats 4000000 in
set_option maxRecDepth 100000 in
theorem refMay2 (op a b imm : Int) (host : Bool) (hrow : rowOf op host = 2) (w : World) (h0 : 0 ≤ a) (h1 : 0 ≤ b) (h2 : -2147483648 ≤ imm) (h3 : imm ≤ 2147483647) :
    Calls Tryz.prog 65 #[.agg (insA op a b imm), .bool host] w fun e w' => e = .returned (.bool (mayB 2 a b imm)) ∧ Kep w w' := by
  have em : Hid (∀ a b imm, mayB 2 a b imm = (true && (((decide (a ≤ 7) && decide (b ≤ 0)) && decide (0 ≤ imm)) && decide (imm ≤ 0)))) := fun _ _ _ => rfl
  go_enter Tryz.func65, Tryz.ntmps65
  go_wp2_with fail
  refine (refOf_any op host _).mono ?_
  rintro e w1 ⟨rfl, g1⟩
  rw [hrow]
  have G1 : Hid (Kep w w1) := kep_trans ((Kep.refl _).alloc _) g1
  have d1 := g1.cell (o := 1) (b := w.heap.size) (by simp)
  have d2 := g1.cell (o := 2) (b := w.heap.size) (by simp)
  have d3 := g1.cell (o := 3) (b := w.heap.size) (by simp)
  simp at d1 d2 d3
  have z1 : w.heap.size < w1.heap.size := Nat.lt_of_lt_of_le (by simp) g1.size
  have er : rformA 2 = #[.int .i64 2, .bool true, .bool false, .int .i64 0, .bool false] := rfl
  rw [er]
  clear hrow g1 er
  go_wp2_with fail
  all_goals (try go_wp2_with fail)
  all_goals go_ret
  all_goals exact ⟨ret_bool (by rw [em.out]; clear em d1 d2 d3 z1 G1; first | (simp_all; done) | (simp_all <;> omega) | (simp_all; intros; omega) | (rw [Bool.eq_iff_iff]; simp_all <;> omega) | (rw [Bool.eq_iff_iff]; simp_all; constructor <;> intros <;> omega)), G1.alloc _⟩
set_option maxHeartbeats 4000000 in
set_option maxRecDepth 100000 in
theorem refMay3 (op a b imm : Int) (host : Bool) (hrow : rowOf op host = 3) (w : World) (h0 : 0 ≤ a) (h1 : 0 ≤ b) (h2 : -2147483648 ≤ imm) (h3 : imm ≤ 2147483647) :
    Calls Tryz.prog 65 #[.agg (insA op a b imm), .bool host] w fun e w' => e = .returned (.bool (mayB 3 a b imm)) ∧ Kep w w' := by
  have em : Hid (∀ a b imm, mayB 3 a b imm = (true && (((decide (a ≤ 7) && decide (b ≤ 7)) && decide (0 ≤ imm)) && decide (imm ≤ 0)))) := fun _ _ _ => rfl
  go_enter Tryz.func65, Tryz.ntmps65
  go_wp2_with fail
  refine (refOf_any op host _).mono ?_
  rintro e w1 ⟨rfl, g1⟩
  rw [hrow]
  have G1 : Hid (Kep w w1) := kep_trans ((Kep.refl _).alloc _) g1
  have d1 := g1.cell (o := 1) (b := w.heap.size) (by simp)
  have d2 := g1.cell (o := 2) (b := w.heap.size) (by simp)
  have d3 := g1.cell (o := 3) (b := w.heap.size) (by simp)
  simp at d1 d2 d3
  have z1 : w.heap.size < w1.heap.size := Nat.lt_of_lt_of_le (by simp) g1.size
  have er : rformA 3 = #[.int .i64 2, .bool true, .bool true, .int .i64 0, .bool false] := rfl
  rw [er]
  clear hrow g1 er
  go_wp2_with fail
  all_goals (try go_wp2_with fail)
  all_goals go_ret
  all_goals exact ⟨ret_bool (by rw [em.out]; clear em d1 d2 d3 z1 G1; first | (simp_all; done) | (simp_all <;> omega) | (simp_all; intros; omega) | (rw [Bool.eq_iff_iff]; simp_all <;> omega) | (rw [Bool.eq_iff_iff]; simp_all; constructor <;> intros <;> omega)), G1.alloc _⟩
set_option maxHeartbeats 4000000 in
set_option maxRecDepth 100000 in
theorem refMay4 (op a b imm : Int) (host : Bool) (hrow : rowOf op host = 4) (w : World) (h0 : 0 ≤ a) (h1 : 0 ≤ b) (h2 : -2147483648 ≤ imm) (h3 : imm ≤ 2147483647) :
    Calls Tryz.prog 65 #[.agg (insA op a b imm), .bool host] w fun e w' => e = .returned (.bool (mayB 4 a b imm)) ∧ Kep w w' := by
  have em : Hid (∀ a b imm, mayB 4 a b imm = (true && (((decide (a ≤ 0) && decide (b ≤ 0)) && decide (0 ≤ imm)) && decide (imm ≤ 255)))) := fun _ _ _ => rfl
  go_enter Tryz.func65, Tryz.ntmps65
  go_wp2_with fail
  refine (refOf_any op host _).mono ?_
  rintro e w1 ⟨rfl, g1⟩
  rw [hrow]
  have G1 : Hid (Kep w w1) := kep_trans ((Kep.refl _).alloc _) g1
  have d1 := g1.cell (o := 1) (b := w.heap.size) (by simp)
  have d2 := g1.cell (o := 2) (b := w.heap.size) (by simp)
  have d3 := g1.cell (o := 3) (b := w.heap.size) (by simp)
  simp at d1 d2 d3
  have z1 : w.heap.size < w1.heap.size := Nat.lt_of_lt_of_le (by simp) g1.size
  have er : rformA 4 = #[.int .i64 2, .bool false, .bool false, .int .i64 1, .bool false] := rfl
  rw [er]
  clear hrow g1 er
  go_wp2_with fail
  all_goals (try go_rounds 2)
  all_goals (try go_wp2_with fail)
  all_goals go_ret
  all_goals exact ⟨ret_bool (by rw [em.out]; clear em d1 d2 d3 z1 G1; first | (simp_all; done) | (simp_all <;> omega) | (simp_all; intros; omega) | (rw [Bool.eq_iff_iff]; simp_all <;> omega) | (rw [Bool.eq_iff_iff]; simp_all; constructor <;> intros <;> omega)), G1.alloc _⟩
set_option maxHeartbeats 4000000 in
set_option maxRecDepth 100000 in
theorem refMay5 (op a b imm : Int) (host : Bool) (hrow : rowOf op host = 5) (w : World) (h0 : 0 ≤ a) (h1 : 0 ≤ b) (h2 : -2147483648 ≤ imm) (h3 : imm ≤ 2147483647) :
    Calls Tryz.prog 65 #[.agg (insA op a b imm), .bool host] w fun e w' => e = .returned (.bool (mayB 5 a b imm)) ∧ Kep w w' := by
  have em : Hid (∀ a b imm, mayB 5 a b imm = (true && (((decide (a ≤ 7) && decide (b ≤ 0)) && decide (-128 ≤ imm)) && decide (imm ≤ 127)))) := fun _ _ _ => rfl
  go_enter Tryz.func65, Tryz.ntmps65
  go_wp2_with fail
  refine (refOf_any op host _).mono ?_
  rintro e w1 ⟨rfl, g1⟩
  rw [hrow]
  have G1 : Hid (Kep w w1) := kep_trans ((Kep.refl _).alloc _) g1
  have d1 := g1.cell (o := 1) (b := w.heap.size) (by simp)
  have d2 := g1.cell (o := 2) (b := w.heap.size) (by simp)
  have d3 := g1.cell (o := 3) (b := w.heap.size) (by simp)
  simp at d1 d2 d3
  have z1 : w.heap.size < w1.heap.size := Nat.lt_of_lt_of_le (by simp) g1.size
  have er : rformA 5 = #[.int .i64 3, .bool true, .bool false, .int .i64 1, .bool true] := rfl
  rw [er]
  clear hrow g1 er
  go_wp2_with fail
  all_goals (try go_rounds 2)
  all_goals (try go_wp2_with fail)
  all_goals go_ret
  all_goals exact ⟨ret_bool (by rw [em.out]; clear em d1 d2 d3 z1 G1; first | (simp_all; done) | (simp_all <;> omega) | (simp_all; intros; omega) | (rw [Bool.eq_iff_iff]; simp_all <;> omega) | (rw [Bool.eq_iff_iff]; simp_all; constructor <;> intros <;> omega)), G1.alloc _⟩
set_option maxHeartbeats 4000000 in
set_option maxRecDepth 100000 in
theorem refMay6 (op a b imm : Int) (host : Bool) (hrow : rowOf op host = 6) (w : World) (h0 : 0 ≤ a) (h1 : 0 ≤ b) (h2 : -2147483648 ≤ imm) (h3 : imm ≤ 2147483647) :
    Calls Tryz.prog 65 #[.agg (insA op a b imm), .bool host] w fun e w' => e = .returned (.bool (mayB 6 a b imm)) ∧ Kep w w' := by
  have em : Hid (∀ a b imm, mayB 6 a b imm = (true && (((decide (a ≤ 7) && decide (b ≤ 7)) && decide (-128 ≤ imm)) && decide (imm ≤ 127)))) := fun _ _ _ => rfl
  go_enter Tryz.func65, Tryz.ntmps65
  go_wp2_with fail
  refine (refOf_any op host _).mono ?_
  rintro e w1 ⟨rfl, g1⟩
  rw [hrow]
  have G1 : Hid (Kep w w1) := kep_trans ((Kep.refl _).alloc _) g1
  have d1 := g1.cell (o := 1) (b := w.heap.size) (by simp)
  have d2 := g1.cell (o := 2) (b := w.heap.size) (by simp)
  have d3 := g1.cell (o := 3) (b := w.heap.size) (by simp)
  simp at d1 d2 d3
  have z1 : w.heap.size < w1.heap.size := Nat.lt_of_lt_of_le (by simp) g1.size
  have er : rformA 6 = #[.int .i64 3, .bool true, .bool true, .int .i64 1, .bool true] := rfl
  rw [er]
  clear hrow g1 er
  go_wp2_with fail
  all_goals (try go_rounds 2)
  all_goals (try go_wp2_with fail)
  all_goals go_ret
  all_goals exact ⟨ret_bool (by rw [em.out]; clear em d1 d2 d3 z1 G1; first | (simp_all; done) | (simp_all <;> omega) | (simp_all; intros; omega) | (rw [Bool.eq_iff_iff]; simp_all <;> omega) | (rw [Bool.eq_iff_iff]; simp_all; constructor <;> intros <;> omega)), G1.alloc _⟩
set_option maxHeartbeats 4000000 in
set_option maxRecDepth 100000 in
theorem refMay7 (op a b imm : Int) (host : Bool) (hrow : rowOf op host = 7) (w : World) (h0 : 0 ≤ a) (h1 : 0 ≤ b) (h2 : -2147483648 ≤ imm) (h3 : imm ≤ 2147483647) :
    Calls Tryz.prog 65 #[.agg (insA op a b imm), .bool host] w fun e w' => e = .returned (.bool (mayB 7 a b imm)) ∧ Kep w w' := by
  have em : Hid (∀ a b imm, mayB 7 a b imm = (true && (((decide (a ≤ 0) && decide (b ≤ 0)) && decide (-32768 ≤ imm)) && decide (imm ≤ 32767)))) := fun _ _ _ => rfl
  go_enter Tryz.func65, Tryz.ntmps65
  go_wp2_with fail
  refine (refOf_any op host _).mono ?_
  rintro e w1 ⟨rfl, g1⟩
  rw [hrow]
  have G1 : Hid (Kep w w1) := kep_trans ((Kep.refl _).alloc _) g1
  have d1 := g1.cell (o := 1) (b := w.heap.size) (by simp)
  have d2 := g1.cell (o := 2) (b := w.heap.size) (by simp)
  have d3 := g1.cell (o := 3) (b := w.heap.size) (by simp)
  simp at d1 d2 d3
  have z1 : w.heap.size < w1.heap.size := Nat.lt_of_lt_of_le (by simp) g1.size
  have er : rformA 7 = #[.int .i64 3, .bool false, .bool false, .int .i64 2, .bool true] := rfl
  rw [er]
  clear hrow g1 er
  go_wp2_with fail
  all_goals (try go_rounds 3)
  all_goals (try go_wp2_with fail)
  all_goals go_ret
  all_goals exact ⟨ret_bool (by rw [em.out]; clear em d1 d2 d3 z1 G1; first | (simp_all; done) | (simp_all <;> omega) | (simp_all; intros; omega) | (rw [Bool.eq_iff_iff]; simp_all <;> omega) | (rw [Bool.eq_iff_iff]; simp_all; constructor <;> intros <;> omega)), G1.alloc _⟩
set_option maxHeartbeats 4000000 in
set_option maxRecDepth 100000 in
theorem refMay8 (op a b imm : Int) (host : Bool) (hrow : rowOf op host = 8) (w : World) (h0 : 0 ≤ a) (h1 : 0 ≤ b) (h2 : -2147483648 ≤ imm) (h3 : imm ≤ 2147483647) :
    Calls Tryz.prog 65 #[.agg (insA op a b imm), .bool host] w fun e w' => e = .returned (.bool (mayB 8 a b imm)) ∧ Kep w w' := by
  have em : Hid (∀ a b imm, mayB 8 a b imm = (true && (((decide (a ≤ 0) && decide (b ≤ 0)) && decide (0 ≤ imm)) && decide (imm ≤ 65535)))) := fun _ _ _ => rfl
  go_enter Tryz.func65, Tryz.ntmps65
  go_wp2_with fail
  refine (refOf_any op host _).mono ?_
  rintro e w1 ⟨rfl, g1⟩
  rw [hrow]
  have G1 : Hid (Kep w w1) := kep_trans ((Kep.refl _).alloc _) g1
  have d1 := g1.cell (o := 1) (b := w.heap.size) (by simp)
  have d2 := g1.cell (o := 2) (b := w.heap.size) (by simp)
  have d3 := g1.cell (o := 3) (b := w.heap.size) (by simp)
  simp at d1 d2 d3
  have z1 : w.heap.size < w1.heap.size := Nat.lt_of_lt_of_le (by simp) g1.size
  have er : rformA 8 = #[.int .i64 3, .bool false, .bool false, .int .i64 2, .bool false] := rfl
  rw [er]
  clear hrow g1 er
  go_wp2_with fail
  all_goals (try go_rounds 3)
  all_goals (try go_wp2_with fail)
  all_goals go_ret
  all_goals exact ⟨ret_bool (by rw [em.out]; clear em d1 d2 d3 z1 G1; first | (simp_all; done) | (simp_all <;> omega) | (simp_all; intros; omega) | (rw [Bool.eq_iff_iff]; simp_all <;> omega) | (rw [Bool.eq_iff_iff]; simp_all; constructor <;> intros <;> omega)), G1.alloc _⟩
set_option maxHeartbeats 4000000 in
set_option maxRecDepth 100000 in
theorem refMay9 (op a b imm : Int) (host : Bool) (hrow : rowOf op host = 9) (w : World) (h0 : 0 ≤ a) (h1 : 0 ≤ b) (h2 : -2147483648 ≤ imm) (h3 : imm ≤ 2147483647) :
    Calls Tryz.prog 65 #[.agg (insA op a b imm), .bool host] w fun e w' => e = .returned (.bool (mayB 9 a b imm)) ∧ Kep w w' := by
  have em : Hid (∀ a b imm, mayB 9 a b imm = (true && (((decide (a ≤ 7) && decide (b ≤ 0)) && decide (-2147483648 ≤ imm)) && decide (imm ≤ 2147483647)))) := fun _ _ _ => rfl
  go_enter Tryz.func65, Tryz.ntmps65
  go_wp2_with fail
  refine (refOf_any op host _).mono ?_
  rintro e w1 ⟨rfl, g1⟩
  rw [hrow]
  have G1 : Hid (Kep w w1) := kep_trans ((Kep.refl _).alloc _) g1
  have d1 := g1.cell (o := 1) (b := w.heap.size) (by simp)
  have d2 := g1.cell (o := 2) (b := w.heap.size) (by simp)
  have d3 := g1.cell (o := 3) (b := w.heap.size) (by simp)
  simp at d1 d2 d3
  have z1 : w.heap.size < w1.heap.size := Nat.lt_of_lt_of_le (by simp) g1.size
  have er : rformA 9 = #[.int .i64 6, .bool true, .bool false, .int .i64 4, .bool true] := rfl
  rw [er]
  clear hrow g1 er
  go_wp2_with fail
  all_goals (try go_rounds 5)
  all_goals (try go_wp2_with fail)
  all_goals go_ret
  all_goals exact ⟨ret_bool (by rw [em.out]; clear em d1 d2 d3 z1 G1; first | (simp_all; done) | (simp_all <;> omega) | (simp_all; intros; omega) | (rw [Bool.eq_iff_iff]; simp_all <;> omega) | (rw [Bool.eq_iff_iff]; simp_all; constructor <;> intros <;> omega)), G1.alloc _⟩
theorem refMay_any (op a b imm : Int) (host : Bool) (w : World) (h0 : 0 ≤ a) (h1 : 0 ≤ b) (h2 : -2147483648 ≤ imm) (h3 : imm ≤ 2147483647) :
    Calls Tryz.prog 65 #[.agg (insA op a b imm), .bool host] w fun e w' => e = .returned (.bool (mayB (rowOf op host) a b imm)) ∧ Kep w w' := by
  have hr := rowOf_lt op host
  generalize hrow : rowOf op host = r at hr
  rcases (by omega : r = 0 ∨ r = 1 ∨ r = 2 ∨ r = 3 ∨ r = 4 ∨ r = 5 ∨ r = 6 ∨ r = 7 ∨ r = 8 ∨ r = 9) with rfl | rfl | rfl | rfl | rfl | rfl | rfl | rfl | rfl | rfl
  · exact refMay0 op a b imm host hrow w h0 h1 h2 h3
  · exact refMay1 op a b imm host hrow w h0 h1 h2 h3
  · exact refMay2 op a b imm host hrow w h0 h1 h2 h3
  · exact refMay3 op a b imm host hrow w h0 h1 h2 h3
  · exact refMay4 op a b imm host hrow w h0 h1 h2 h3
  · exact refMay5 op a b imm host hrow w h0 h1 h2 h3
  · exact refMay6 op a b imm host hrow w h0 h1 h2 h3
  · exact refMay7 op a b imm host hrow w h0 h1 h2 h3
  · exact refMay8 op a b imm host hrow w h0 h1 h2 h3
  · exact refMay9 op a b imm host hrow w h0 h1 h2 h3
abbrev In4 := Int × Int × Int × Int
def inV (i : In4) : List Value := [.int .u8 i.1, .int .u8 i.2.1, .int .u8 i.2.2.1, .int .i32 i.2.2.2]
def inss (C : List In4) : List Value := C.flatMap inV
def In4.Ok (i : In4) : Prop := (0 ≤ i.1 ∧ i.1 < 256) ∧ (0 ≤ i.2.1 ∧ i.2.1 < 256) ∧ (0 ≤ i.2.2.1 ∧ i.2.2.1 < 256) ∧ (-2147483648 ≤ i.2.2.2 ∧ i.2.2.2 ≤ 2147483647)
theorem inss_at (C : List In4) (k : Nat) (i : In4) (h : C[k]? = some i) (j : Nat) (hj : j < 4) : (inss C)[k * 4 + j]? = (inV i)[j]? := by
  induction C generalizing k with
  | nil => simp at h
  | cons a r ih =>
    have hc : inss (a :: r) = inV a ++ inss r := by simp [inss]
    have hl : (inV a).length = 4 := rfl
    rw [hc]
    cases k with
    | zero =>
      obtain rfl : a = i := by simpa using h
      rw [List.getElem?_append_left (by omega)]
      congr 1; omega
    | succ k =>
      rw [List.getElem?_append_right (by omega), hl, ← ih k (by simpa using h)]
      congr 1; omega
def nFr (fr : Int) : Nat := 1 + (fr % 18446744073709551616 % 24).toNat
theorem nFr_range (fr : Int) : 1 ≤ nFr fr ∧ nFr fr ≤ 24 := by unfold nFr; omega
def cpyL (n : Nat) (Z : List Int) (k : Nat) : List Int := (Z.take k).take n ++ List.replicate (n - min k Z.length) 0
def layE (B : List Int) (at_ : Nat) : List Int → List Int
  | [] => B
  | z :: r => layE (if at_ < B.length then B.set at_ z else B) (at_ + 1) r
theorem layE_len : ∀ (zs B : List Int) (a : Nat), (layE B a zs).length = B.length
  | [], B, a => rfl
  | z :: r, B, a => by unfold layE; rw [layE_len r]; split <;> simp
theorem layE_byts : ∀ (zs B : List Int) (a : Nat), Byts B → Byts zs → Byts (layE B a zs)
  | [], B, a, hB, hz => hB
  | z :: r, B, a, hB, hz => by
    unfold layE
    refine layE_byts r _ _ ?_ (fun b hb => hz b (by simp [hb]))
    split
    · intro b hb
      rcases List.mem_or_eq_of_mem_set hb with h | h
      · exact hB b h
      · subst h; exact hz b (by simp)
    · exact hB
theorem layE_snoc : ∀ (zs : List Int) (B : List Int) (a : Nat) (z : Int), layE B a (zs ++ [z]) = if a + zs.length < B.length then (layE B a zs).set (a + zs.length) z else layE B a zs
  | [], B, a, z => by simp [layE]
  | y :: r, B, a, z => by
    show layE _ (a + 1) (r ++ [z]) = _
    rw [layE_snoc r]
    have e : (if a < B.length then B.set a y else B).length = B.length := by split <;> simp
    rw [e]
    have e2 : a + 1 + r.length = a + (y :: r).length := by simp; omega
    rw [e2]
    rfl
def encI (i : In4) : List Int := encL (rowOf i.1 false) i.1 i.2.1 i.2.2.1 i.2.2.2
def codS (x : List Int × Nat) (i : In4) : List Int × Nat := if mayB (rowOf i.1 false) i.2.1 i.2.2.1 i.2.2.2 = true then (layE x.1 x.2 (encI i), x.2 + (encI i).length) else x
def codL (C : List In4) (x : List Int × Nat) : List Int × Nat := C.foldl codS x
def gstL (fr : Int) (Z : List Int) (C : List In4) (en : Int) : List Int := (codL (C.take 200) (cpyL (64 * nFr fr) Z Z.length, en.toNat)).1
theorem codS_len (x : List Int × Nat) (i : In4) : (codS x i).1.length = x.1.length := by
  unfold codS; split
  · exact layE_len _ _ _
  · rfl
theorem codL_len : ∀ (C : List In4) (x : List Int × Nat), (codL C x).1.length = x.1.length
  | [], x => rfl
  | i :: r, x => by show (codL r (codS x i)).1.length = _; rw [codL_len r, codS_len]
theorem cpyL_len (n : Nat) (Z : List Int) (k : Nat) : (cpyL n Z k).length = n := by
  unfold cpyL
  simp only [List.length_append, List.length_take, List.length_replicate]
  omega
theorem gstL_len (fr : Int) (Z : List Int) (C : List In4) (en : Int) : (gstL fr Z C en).length = 64 * nFr fr := by unfold gstL; rw [codL_len, cpyL_len]
theorem cpyL_succ (n : Nat) (Z : List Int) (k : Nat) (hk : k < Z.length) (hn : k < n) : cpyL n Z (k + 1) = (cpyL n Z k).set k (Z.getD k 0) := by
  apply List.ext_getElem?
  intro j
  unfold cpyL
  have e1 : (Z.take (k + 1)).take n = Z.take (k + 1) := List.take_of_length_le (by simp; omega)
  have e2 : (Z.take k).take n = Z.take k := List.take_of_length_le (by simp; omega)
  rw [e1, e2]
  have lk : (Z.take k).length = k := by simp; omega
  have lk1 : (Z.take (k + 1)).length = k + 1 := by simp; omega
  have hz : Z.getD k 0 = Z[k] := by simp [List.getD, hk]
  rw [List.getElem?_set]
  rcases (by omega : j < k ∨ j = k ∨ k < j) with h | h | h
  · rw [List.getElem?_append_left (by omega), if_neg (by omega), List.getElem?_append_left (by omega), List.getElem?_take_of_lt (by omega), List.getElem?_take_of_lt (by omega)]
  · subst h
    rw [List.getElem?_append_left (by omega), if_pos rfl, List.getElem?_take_of_lt (by omega), if_pos (by simp; omega), hz, List.getElem?_eq_getElem hk]
  · rw [List.getElem?_append_right (by omega), if_neg (by omega), List.getElem?_append_right (by omega), lk, lk1, List.getElem?_replicate, List.getElem?_replicate]
    have : (j - (k + 1) < n - min (k + 1) Z.length) ↔ (j - k < n - min k Z.length) := by omega
    simp only [this]
end Go.Proofs.YtojoobonienhnaaGreatDoor
