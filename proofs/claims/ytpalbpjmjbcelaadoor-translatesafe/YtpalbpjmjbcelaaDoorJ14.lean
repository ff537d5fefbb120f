/- Part of a proof. -/
import Derived.Test.YtpalbpjmjbcelaaDoorJ10
namespace Go.Proofs.YtpalbpjmjbcelaaDoor
open Go.RowKit
set_option linter.unusedVariables false
set_option linter.unusedSimpArgs false
set_option maxHeartbeats 4000000 in
set_option maxRecDepth 100000 in
theorem refMay0 (op a b imm : Int) (host : Bool) (hrow : rowOf op host = 0) (w : World) (h0 : 0 ≤ a) (h1 : 0 ≤ b) (h2 : -2147483648 ≤ imm) (h3 : imm ≤ 2147483647) :
    Calls Tryd.prog 19 #[.agg (insA op a b imm), .bool host] w fun e w' => e = .returned (.bool (mayB 0 a b imm)) ∧ Kep w w' := by
  have em : Hid (∀ a b imm, mayB 0 a b imm = (false && (((decide (a ≤ 0) && decide (b ≤ 0)) && decide (0 ≤ imm)) && decide (imm ≤ 0)))) := fun _ _ _ => rfl
  go_enter Tryd.func19, Tryd.ntmps19
  go_wp2_with fail
  refine (refOf_any op host _).mono ?_
  rintro e w1 ⟨rfl, g1⟩
  rw [hrow]
  have G1 : Hid (Kep w w1) := kep_trans ((Kep.refl _).alloc _) g1
  have d1 := g1.cell (o := 1) (b := w.heap.size) (by simp)
  have d2 := g1.cell (o := 2) (b := w.heap.size) (by simp)
  have d3 := g1.cell (o := 3) (b := w.heap.size) (by simp)
  simp at d1 d2 d3
  have z1 : w.heap.size < w1.heap.size := Nat.lt_of_lt_of_le (by simp) g1.size
  have er : rformA 0 = #[.int .i64 0, .bool false, .bool false, .int .i64 0, .bool false] := rfl
  rw [er]
  clear hrow g1 er
  go_wp2_with fail
  all_goals (try go_wp2_with fail)
  all_goals go_ret
  all_goals exact ⟨ret_bool (by rw [em.out]; clear em d1 d2 d3 z1 G1; first | (simp_all; done) | (simp_all <;> omega) | (simp_all; intros; omega) | (rw [Bool.eq_iff_iff]; simp_all <;> omega) | (rw [Bool.eq_iff_iff]; simp_all; constructor <;> intros <;> omega)), G1.alloc _⟩
set_option maxHeartbeats 4000000 in
set_option maxRecDepth 100000 in
theorem refMay1 (op a b imm : Int) (host : Bool) (hrow : rowOf op host = 1) (w : World) (h0 : 0 ≤ a) (h1 : 0 ≤ b) (h2 : -2147483648 ≤ imm) (h3 : imm ≤ 2147483647) :
    Calls Tryd.prog 19 #[.agg (insA op a b imm), .bool host] w fun e w' => e = .returned (.bool (mayB 1 a b imm)) ∧ Kep w w' := by
  have em : Hid (∀ a b imm, mayB 1 a b imm = (true && (((decide (a ≤ 0) && decide (b ≤ 0)) && decide (0 ≤ imm)) && decide (imm ≤ 0)))) := fun _ _ _ => rfl
  go_enter Tryd.func19, Tryd.ntmps19
  go_wp2_with fail
  refine (refOf_any op host _).mono ?_
  rintro e w1 ⟨rfl, g1⟩
  rw [hrow]
  have G1 : Hid (Kep w w1) := kep_trans ((Kep.refl _).alloc _) g1
  have d1 := g1.cell (o := 1) (b := w.heap.size) (by simp)
  have d2 := g1.cell (o := 2) (b := w.heap.size) (by simp)
  have d3 := g1.cell (o := 3) (b := w.heap.size) (by simp)
  simp at d1 d2 d3
  have z1 : w.heap.size < w1.heap.size := Nat.lt_of_lt_of_le (by simp) g1.size
  have er : rformA 1 = #[.int .i64 1, .bool false, .bool false, .int .i64 0, .bool false] := rfl
  rw [er]
  clear hrow g1 er
  go_wp2_with fail
  all_goals (try go_wp2_with fail)
  all_goals go_ret
  all_goals exact ⟨ret_bool (by rw [em.out]; clear em d1 d2 d3 z1 G1; first | (simp_all; done) | (simp_all <;> omega) | (simp_all; intros; omega) | (rw [Bool.eq_iff_iff]; simp_all <;> omega) | (rw [Bool.eq_iff_iff]; simp_all; constructor <;> intros <;> omega)), G1.alloc _⟩
set_option maxHeartbeats 4000000 in
set_option maxRecDepth 100000 in
theorem refMay2 (op a b imm : Int) (host : Bool) (hrow : rowOf op host = 2) (w : World) (h0 : 0 ≤ a) (h1 : 0 ≤ b) (h2 : -2147483648 ≤ imm) (h3 : imm ≤ 2147483647) :
    Calls Tryd.prog 19 #[.agg (insA op a b imm), .bool host] w fun e w' => e = .returned (.bool (mayB 2 a b imm)) ∧ Kep w w' := by
  have em : Hid (∀ a b imm, mayB 2 a b imm = (true && (((decide (a ≤ 7) && decide (b ≤ 0)) && decide (0 ≤ imm)) && decide (imm ≤ 0)))) := fun _ _ _ => rfl
  go_enter Tryd.func19, Tryd.ntmps19
  go_wp2_with fail
  refine (refOf_any op host _).mono ?_
  rintro e w1 ⟨rfl, g1⟩
  rw [hrow]
  have G1 : Hid (Kep w w1) := kep_trans ((Kep.refl _).alloc _) g1
  have d1 := g1.cell (o := 1) (b := w.heap.size) (by simp)
  have d2 := g1.cell (o := 2) (b := w.heap.size) (by simp)
  have d3 := g1.cell (o := 3) (b := w.heap.size) (by simp)
  simp at d1 d2 d3
  have z1 : w.heap.size < w1.heap.size := Nat.lt_of_lt_of_le (by simp) g1.size
  have er : rformA 2 = #[.int .i64 2, .bool true, .bool false, .int .i64 0, .bool false] := rfl
  rw [er]
  clear hrow g1 er
  go_wp2_with fail
  all_goals (try go_wp2_with fail)
  all_goals go_ret
  all_goals exact ⟨ret_bool (by rw [em.out]; clear em d1 d2 d3 z1 G1; first | (simp_all; done) | (simp_all <;> omega) | (simp_all; intros; omega) | (rw [Bool.eq_iff_iff]; simp_all <;> omega) | (rw [Bool.eq_iff_iff]; simp_all; constructor <;> intros <;> omega)), G1.alloc _⟩
set_option maxHeartbeats 4000000 in
set_option maxRecDepth 100000 in
theorem refMay3 (op a b imm : Int) (host : Bool) (hrow : rowOf op host = 3) (w : World) (h0 : 0 ≤ a) (h1 : 0 ≤ b) (h2 : -2147483648 ≤ imm) (h3 : imm ≤ 2147483647) :
    Calls Tryd.prog 19 #[.agg (insA op a b imm), .bool host] w fun e w' => e = .returned (.bool (mayB 3 a b imm)) ∧ Kep w w' := by
  have em : Hid (∀ a b imm, mayB 3 a b imm = (true && (((decide (a ≤ 7) && decide (b ≤ 7)) && decide (0 ≤ imm)) && decide (imm ≤ 0)))) := fun _ _ _ => rfl
  go_enter Tryd.func19, Tryd.ntmps19
  go_wp2_with fail
  refine (refOf_any op host _).mono ?_
  rintro e w1 ⟨rfl, g1⟩
  rw [hrow]
  have G1 : Hid (Kep w w1) := kep_trans ((Kep.refl _).alloc _) g1
  have d1 := g1.cell (o := 1) (b := w.heap.size) (by simp)
  have d2 := g1.cell (o := 2) (b := w.heap.size) (by simp)
  have d3 := g1.cell (o := 3) (b := w.heap.size) (by simp)
  simp at d1 d2 d3
  have z1 : w.heap.size < w1.heap.size := Nat.lt_of_lt_of_le (by simp) g1.size
  have er : rformA 3 = #[.int .i64 2, .bool true, .bool true, .int .i64 0, .bool false] := rfl
  rw [er]
  clear hrow g1 er
  go_wp2_with fail
  all_goals (try go_wp2_with fail)
  all_goals go_ret
  all_goals exact ⟨ret_bool (by rw [em.out]; clear em d1 d2 d3 z1 G1; first | (simp_all; done) | (simp_all <;> omega) | (simp_all; intros; omega) | (rw [Bool.eq_iff_iff]; simp_all <;> omega) | (rw [Bool.eq_iff_iff]; simp_all; constructor <;> intros <;> omega)), G1.alloc _⟩
set_option maxHeartbeats 4000000 in
set_option maxRecDepth 100000 in
theorem refMay4 (op a b imm : Int) (host : Bool) (hrow : rowOf op host = 4) (w : World) (h0 : 0 ≤ a) (h1 : 0 ≤ b) (h2 : -2147483648 ≤ imm) (h3 : imm ≤ 2147483647) :
    Calls Tryd.prog 19 #[.agg (insA op a b imm), .bool host] w fun e w' => e = .returned (.bool (mayB 4 a b imm)) ∧ Kep w w' := by
  have em : Hid (∀ a b imm, mayB 4 a b imm = (true && (((decide (a ≤ 0) && decide (b ≤ 0)) && decide (0 ≤ imm)) && decide (imm ≤ 255)))) := fun _ _ _ => rfl
  go_enter Tryd.func19, Tryd.ntmps19
  go_wp2_with fail
  refine (refOf_any op host _).mono ?_
  rintro e w1 ⟨rfl, g1⟩
  rw [hrow]
  have G1 : Hid (Kep w w1) := kep_trans ((Kep.refl _).alloc _) g1
  have d1 := g1.cell (o := 1) (b := w.heap.size) (by simp)
  have d2 := g1.cell (o := 2) (b := w.heap.size) (by simp)
  have d3 := g1.cell (o := 3) (b := w.heap.size) (by simp)
  simp at d1 d2 d3
  have z1 : w.heap.size < w1.heap.size := Nat.lt_of_lt_of_le (by simp) g1.size
  have er : rformA 4 = #[.int .i64 2, .bool false, .bool false, .int .i64 1, .bool false] := rfl
  rw [er]
  clear hrow g1 er
  go_wp2_with fail
  all_goals (try go_rounds 2)
  all_goals (try go_wp2_with fail)
  all_goals go_ret
  all_goals exact ⟨ret_bool (by rw [em.out]; clear em d1 d2 d3 z1 G1; first | (simp_all; done) | (simp_all <;> omega) | (simp_all; intros; omega) | (rw [Bool.eq_iff_iff]; simp_all <;> omega) | (rw [Bool.eq_iff_iff]; simp_all; constructor <;> intros <;> omega)), G1.alloc _⟩
set_option maxHeartbeats 4000000 in
set_option maxRecDepth 100000 in
theorem refMay5 (op a b imm : Int) (host : Bool) (hrow : rowOf op host = 5) (w : World) (h0 : 0 ≤ a) (h1 : 0 ≤ b) (h2 : -2147483648 ≤ imm) (h3 : imm ≤ 2147483647) :
    Calls Tryd.prog 19 #[.agg (insA op a b imm), .bool host] w fun e w' => e = .returned (.bool (mayB 5 a b imm)) ∧ Kep w w' := by
  have em : Hid (∀ a b imm, mayB 5 a b imm = (true && (((decide (a ≤ 7) && decide (b ≤ 0)) && decide (-128 ≤ imm)) && decide (imm ≤ 127)))) := fun _ _ _ => rfl
  go_enter Tryd.func19, Tryd.ntmps19
  go_wp2_with fail
  refine (refOf_any op host _).mono ?_
  rintro e w1 ⟨rfl, g1⟩
  rw [hrow]
  have G1 : Hid (Kep w w1) := kep_trans ((Kep.refl _).alloc _) g1
  have d1 := g1.cell (o := 1) (b := w.heap.size) (by simp)
  have d2 := g1.cell (o := 2) (b := w.heap.size) (by simp)
  have d3 := g1.cell (o := 3) (b := w.heap.size) (by simp)
  simp at d1 d2 d3
  have z1 : w.heap.size < w1.heap.size := Nat.lt_of_lt_of_le (by simp) g1.size
  have er : rformA 5 = #[.int .i64 3, .bool true, .bool false, .int .i64 1, .bool true] := rfl
  rw [er]
  clear hrow g1 er
  go_wp2_with fail
  all_goals (try go_rounds 2)
  all_goals (try go_wp2_with fail)
  all_goals go_ret
  all_goals exact ⟨ret_bool (by rw [em.out]; clear em d1 d2 d3 z1 G1; first | (simp_all; done) | (simp_all <;> omega) | (simp_all; intros; omega) | (rw [Bool.eq_iff_iff]; simp_all <;> omega) | (rw [Bool.eq_iff_iff]; simp_all; constructor <;> intros <;> omega)), G1.alloc _⟩
set_option maxHeartbeats 4000000 in
set_option maxRecDepth 100000 in
theorem refMay6 (op a b imm : Int) (host : Bool) (hrow : rowOf op host = 6) (w : World) (h0 : 0 ≤ a) (h1 : 0 ≤ b) (h2 : -2147483648 ≤ imm) (h3 : imm ≤ 2147483647) :
    Calls Tryd.prog 19 #[.agg (insA op a b imm), .bool host] w fun e w' => e = .returned (.bool (mayB 6 a b imm)) ∧ Kep w w' := by
  have em : Hid (∀ a b imm, mayB 6 a b imm = (true && (((decide (a ≤ 7) && decide (b ≤ 7)) && decide (-128 ≤ imm)) && decide (imm ≤ 127)))) := fun _ _ _ => rfl
  go_enter Tryd.func19, Tryd.ntmps19
  go_wp2_with fail
  refine (refOf_any op host _).mono ?_
  rintro e w1 ⟨rfl, g1⟩
  rw [hrow]
  have G1 : Hid (Kep w w1) := kep_trans ((Kep.refl _).alloc _) g1
  have d1 := g1.cell (o := 1) (b := w.heap.size) (by simp)
  have d2 := g1.cell (o := 2) (b := w.heap.size) (by simp)
  have d3 := g1.cell (o := 3) (b := w.heap.size) (by simp)
  simp at d1 d2 d3
  have z1 : w.heap.size < w1.heap.size := Nat.lt_of_lt_of_le (by simp) g1.size
  have er : rformA 6 = #[.int .i64 3, .bool true, .bool true, .int .i64 1, .bool true] := rfl
  rw [er]
  clear hrow g1 er
  go_wp2_with fail
  all_goals (try go_rounds 2)
  all_goals (try go_wp2_with fail)
  all_goals go_ret
  all_goals exact ⟨ret_bool (by rw [em.out]; clear em d1 d2 d3 z1 G1; first | (simp_all; done) | (simp_all <;> omega) | (simp_all; intros; omega) | (rw [Bool.eq_iff_iff]; simp_all <;> omega) | (rw [Bool.eq_iff_iff]; simp_all; constructor <;> intros <;> omega)), G1.alloc _⟩
set_option maxHeartbeats 4000000 in
set_option maxRecDepth 100000 in
theorem refMay7 (op a b imm : Int) (host : Bool) (hrow : rowOf op host = 7) (w : World) (h0 : 0 ≤ a) (h1 : 0 ≤ b) (h2 : -2147483648 ≤ imm) (h3 : imm ≤ 2147483647) :
    Calls Tryd.prog 19 #[.agg (insA op a b imm), .bool host] w fun e w' => e = .returned (.bool (mayB 7 a b imm)) ∧ Kep w w' := by
  have em : Hid (∀ a b imm, mayB 7 a b imm = (true && (((decide (a ≤ 0) && decide (b ≤ 0)) && decide (-32768 ≤ imm)) && decide (imm ≤ 32767)))) := fun _ _ _ => rfl
  go_enter Tryd.func19, Tryd.ntmps19
  go_wp2_with fail
  refine (refOf_any op host _).mono ?_
  rintro e w1 ⟨rfl, g1⟩
  rw [hrow]
  have G1 : Hid (Kep w w1) := kep_trans ((Kep.refl _).alloc _) g1
  have d1 := g1.cell (o := 1) (b := w.heap.size) (by simp)
  have d2 := g1.cell (o := 2) (b := w.heap.size) (by simp)
  have d3 := g1.cell (o := 3) (b := w.heap.size) (by simp)
  simp at d1 d2 d3
  have z1 : w.heap.size < w1.heap.size := Nat.lt_of_lt_of_le (by simp) g1.size
  have er : rformA 7 = #[.int .i64 3, .bool false, .bool false, .int .i64 2, .bool true] := rfl
  rw [er]
  clear hrow g1 er
  go_wp2_with fail
  all_goals (try go_rounds 3)
  all_goals (try go_wp2_with fail)
  all_goals go_ret
  all_goals exact ⟨ret_bool (by rw [em.out]; clear em d1 d2 d3 z1 G1; first | (simp_all; done) | (simp_all <;> omega) | (simp_all; intros; omega) | (rw [Bool.eq_iff_iff]; simp_all <;> omega) | (rw [Bool.eq_iff_iff]; simp_all; constructor <;> intros <;> omega)), G1.alloc _⟩
set_option maxHeartbeats 4000000 in
set_option maxRecDepth 100000 in
theorem refMay8 (op a b imm : Int) (host : Bool) (hrow : rowOf op host = 8) (w : World) (h0 : 0 ≤ a) (h1 : 0 ≤ b) (h2 : -2147483648 ≤ imm) (h3 : imm ≤ 2147483647) :
    Calls Tryd.prog 19 #[.agg (insA op a b imm), .bool host] w fun e w' => e = .returned (.bool (mayB 8 a b imm)) ∧ Kep w w' := by
  have em : Hid (∀ a b imm, mayB 8 a b imm = (true && (((decide (a ≤ 0) && decide (b ≤ 0)) && decide (0 ≤ imm)) && decide (imm ≤ 65535)))) := fun _ _ _ => rfl
  go_enter Tryd.func19, Tryd.ntmps19
  go_wp2_with fail
  refine (refOf_any op host _).mono ?_
  rintro e w1 ⟨rfl, g1⟩
  rw [hrow]
  have G1 : Hid (Kep w w1) := kep_trans ((Kep.refl _).alloc _) g1
  have d1 := g1.cell (o := 1) (b := w.heap.size) (by simp)
  have d2 := g1.cell (o := 2) (b := w.heap.size) (by simp)
  have d3 := g1.cell (o := 3) (b := w.heap.size) (by simp)
  simp at d1 d2 d3
  have z1 : w.heap.size < w1.heap.size := Nat.lt_of_lt_of_le (by simp) g1.size
  have er : rformA 8 = #[.int .i64 3, .bool false, .bool false, .int .i64 2, .bool false] := rfl
  rw [er]
  clear hrow g1 er
  go_wp2_with fail
  all_goals (try go_rounds 3)
  all_goals (try go_wp2_with fail)
  all_goals go_ret
  all_goals exact ⟨ret_bool (by rw [em.out]; clear em d1 d2 d3 z1 G1; first | (simp_all; done) | (simp_all <;> omega) | (simp_all; intros; omega) | (rw [Bool.eq_iff_iff]; simp_all <;> omega) | (rw [Bool.eq_iff_iff]; simp_all; constructor <;> intros <;> omega)), G1.alloc _⟩
set_option maxHeartbeats 4000000 in
set_option maxRecDepth 100000 in
theorem refMay9 (op a b imm : Int) (host : Bool) (hrow : rowOf op host = 9) (w : World) (h0 : 0 ≤ a) (h1 : 0 ≤ b) (h2 : -2147483648 ≤ imm) (h3 : imm ≤ 2147483647) :
    Calls Tryd.prog 19 #[.agg (insA op a b imm), .bool host] w fun e w' => e = .returned (.bool (mayB 9 a b imm)) ∧ Kep w w' := by
  have em : Hid (∀ a b imm, mayB 9 a b imm = (true && (((decide (a ≤ 7) && decide (b ≤ 0)) && decide (-2147483648 ≤ imm)) && decide (imm ≤ 2147483647)))) := fun _ _ _ => rfl
  go_enter Tryd.func19, Tryd.ntmps19
  go_wp2_with fail
  refine (refOf_any op host _).mono ?_
  rintro e w1 ⟨rfl, g1⟩
  rw [hrow]
  have G1 : Hid (Kep w w1) := kep_trans ((Kep.refl _).alloc _) g1
  have d1 := g1.cell (o := 1) (b := w.heap.size) (by simp)
  have d2 := g1.cell (o := 2) (b := w.heap.size) (by simp)
  have d3 := g1.cell (o := 3) (b := w.heap.size) (by simp)
  simp at d1 d2 d3
  have z1 : w.heap.size < w1.heap.size := Nat.lt_of_lt_of_le (by simp) g1.size
  have er : rformA 9 = #[.int .i64 6, .bool true, .bool false, .int .i64 4, .bool true] := rfl
  rw [er]
  clear hrow g1 er
  go_wp2_with fail
  all_goals (try go_rounds 5)
  all_goals (try go_wp2_with fail)
  all_goals go_ret
  all_goals exact ⟨ret_bool (by rw [em.out]; clear em d1 d2 d3 z1 G1; first | (simp_all; done) | (simp_all <;> omega) | (simp_all; intros; omega) | (rw [Bool.eq_iff_iff]; simp_all <;> omega) | (rw [Bool.eq_iff_iff]; simp_all; constructor <;> intros <;> omega)), G1.alloc _⟩
theorem refMay_any (op a b imm : Int) (host : Bool) (w : World) (h0 : 0 ≤ a) (h1 : 0 ≤ b) (h2 : -2147483648 ≤ imm) (h3 : imm ≤ 2147483647) :
    Calls Tryd.prog 19 #[.agg (insA op a b imm), .bool host] w fun e w' => e = .returned (.bool (mayB (rowOf op host) a b imm)) ∧ Kep w w' := by
  have hr := rowOf_lt op host
  generalize hrow : rowOf op host = r at hr
  rcases (by omega : r = 0 ∨ r = 1 ∨ r = 2 ∨ r = 3 ∨ r = 4 ∨ r = 5 ∨ r = 6 ∨ r = 7 ∨ r = 8 ∨ r = 9) with rfl | rfl | rfl | rfl | rfl | rfl | rfl | rfl | rfl | rfl
  · exact refMay0 op a b imm host hrow w h0 h1 h2 h3
  · exact refMay1 op a b imm host hrow w h0 h1 h2 h3
  · exact refMay2 op a b imm host hrow w h0 h1 h2 h3
  · exact refMay3 op a b imm host hrow w h0 h1 h2 h3
  · exact refMay4 op a b imm host hrow w h0 h1 h2 h3
  · exact refMay5 op a b imm host hrow w h0 h1 h2 h3
  · exact refMay6 op a b imm host hrow w h0 h1 h2 h3
  · exact refMay7 op a b imm host hrow w h0 h1 h2 h3
  · exact refMay8 op a b imm host hrow w h0 h1 h2 h3
  · exact refMay9 op a b imm host hrow w h0 h1 h2 h3
end Go.Proofs.YtpalbpjmjbcelaaDoor
