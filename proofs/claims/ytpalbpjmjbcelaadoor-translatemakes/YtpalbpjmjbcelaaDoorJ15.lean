/- Part of a proof. -/
import Derived.Test.YtpalbpjmjbcelaaDoorJ13
import Derived.Test.YtpalbpjmjbcelaaDoorJ14
namespace Go.Proofs.YtpalbpjmjbcelaaDoor
open Go.RowKit
set_option linter.unusedVariables false
set_option linter.unusedSimpArgs false
theorem rf_ends (op : Int) (h0 : 0 ≤ op) (h1 : op < 256) : rfE (rfRow op) = bnd op := by
  have := byte_all (p := fun op => decide (rfE (rfRow op) = bnd op)) (by decide +kernel) op h0 h1
  exact of_decide_eq_true this
theorem ltof_any (op : Int) (h0 : 0 ≤ op) (h1 : op < 256) : ∃ X : Rf, ∀ w, Calls Tryd.prog 20 #[.int .u8 op] w fun e w' => e = .returned (.agg #[.int .i64 X.c, .bool X.ra, .bool X.rb, .bool X.wa, .bool X.lk, .bool X.sd, .bool X.st, .bool X.t, .bool X.f, .bool X.s, .bool (bnd op)]) ∧ Kep w w' :=
  ⟨rfRow op, fun w => by have := refOf3_any op h0 h1 w; rw [rf_ends op h0 h1] at this; exact this⟩
theorem rf_field (X : Rf) (E : Bool) (w : World) : (Instr.field 53 (.agg #[.int .i64 X.c, .bool X.ra, .bool X.rb, .bool X.wa, .bool X.lk, .bool X.sd, .bool X.st, .bool X.t, .bool X.f, .bool X.s, .bool E]) 10).run Tryd.prog w = .ok (.bool E) w := by kernel_rfl
set_option maxHeartbeats 4000000 in
set_option maxRecDepth 100000 in
theorem rright_a (op e : Int) (E : Bool) (X : Rf) (c1 : (op == 64) = false) (c2 : (op == 72) = false) (c3 : ¬ 65 ≤ op) (RO : ∀ w, Calls Tryd.prog 20 #[.int .u8 op] w fun e w' => e = .returned (.agg #[.int .i64 X.c, .bool X.ra, .bool X.rb, .bool X.wa, .bool X.lk, .bool X.sd, .bool X.st, .bool X.t, .bool X.f, .bool X.s, .bool E]) ∧ Kep w w') (w : World) :
    Calls Tryd.prog 21 #[.int .u8 op, .int .i64 e] w fun r w' => r = .returned (.bool (decide (e = if E = false then 1 else 4))) ∧ Kep w w' := by
  have RO := hidd RO
  skip
  rcases (by omega : e = 1 ∨ e = 2 ∨ e = 3 ∨ e = 4 ∨ (e ≠ 1 ∧ e ≠ 2 ∧ e ≠ 3 ∧ e ≠ 4)) with rfl | rfl | rfl | rfl | ⟨n1, n2, n3, n4⟩
  all_goals cases E
  · have hfd := rf_field X false
    go_enter Tryd.func21, Tryd.ntmps21
    go_wp2_with fail
    refine (RO.out _).mono ?_
    rintro r w1 ⟨rfl, k1⟩
    have k1 := hidd k1
    go_wp2_with fail
    go_ret
    exact ⟨rfl, k1.out⟩
  · have hfd := rf_field X true
    go_enter Tryd.func21, Tryd.ntmps21
    go_wp2_with fail
    refine (RO.out _).mono ?_
    rintro r w1 ⟨rfl, k1⟩
    have k1 := hidd k1
    go_wp2_with fail
    go_ret
    exact ⟨rfl, k1.out⟩
  · have hfd := rf_field X false
    go_enter Tryd.func21, Tryd.ntmps21
    go_wp2_with fail
    refine (RO.out _).mono ?_
    rintro r w1 ⟨rfl, k1⟩
    have k1 := hidd k1
    go_wp2_with fail
    go_ret
    exact ⟨rfl, k1.out⟩
  · have hfd := rf_field X true
    go_enter Tryd.func21, Tryd.ntmps21
    go_wp2_with fail
    refine (RO.out _).mono ?_
    rintro r w1 ⟨rfl, k1⟩
    have k1 := hidd k1
    go_wp2_with fail
    go_ret
    exact ⟨rfl, k1.out⟩
  · have hfd := rf_field X false
    go_enter Tryd.func21, Tryd.ntmps21
    go_wp2_with fail
    refine (RO.out _).mono ?_
    rintro r w1 ⟨rfl, k1⟩
    have k1 := hidd k1
    go_wp2_with fail
    go_ret
    exact ⟨rfl, k1.out⟩
  · have hfd := rf_field X true
    go_enter Tryd.func21, Tryd.ntmps21
    go_wp2_with fail
    refine (RO.out _).mono ?_
    rintro r w1 ⟨rfl, k1⟩
    have k1 := hidd k1
    go_wp2_with fail
    go_ret
    exact ⟨rfl, k1.out⟩
  · have hfd := rf_field X false
    go_enter Tryd.func21, Tryd.ntmps21
    go_wp2_with fail
    refine (RO.out _).mono ?_
    rintro r w1 ⟨rfl, k1⟩
    have k1 := hidd k1
    go_wp2_with fail
    go_ret
    exact ⟨rfl, k1.out⟩
  · have hfd := rf_field X true
    go_enter Tryd.func21, Tryd.ntmps21
    go_wp2_with fail
    refine (RO.out _).mono ?_
    rintro r w1 ⟨rfl, k1⟩
    have k1 := hidd k1
    go_wp2_with fail
    go_ret
    exact ⟨rfl, k1.out⟩
  · have x1 : (e == 1) = false := by rw [beq_eq_false_iff_ne]; exact n1
    have x2 : (e == 2) = false := by rw [beq_eq_false_iff_ne]; exact n2
    have x3 : (e == 3) = false := by rw [beq_eq_false_iff_ne]; exact n3
    have x4 : (e == 4) = false := by rw [beq_eq_false_iff_ne]; exact n4
    have hd : Hid (decide (e = if false = false then (1:Int) else 4) = false) := decide_eq_false (by show ¬ e = 1; omega)
    rw [hd.out]
    clear n1 n2 n3 n4
    have hfd := rf_field X false
    go_enter Tryd.func21, Tryd.ntmps21
    go_wp2_with fail
    refine (RO.out _).mono ?_
    rintro r w1 ⟨rfl, k1⟩
    have k1 := hidd k1
    go_wp2_with fail
    go_ret
    exact ⟨rfl, k1.out⟩
  · have x1 : (e == 1) = false := by rw [beq_eq_false_iff_ne]; exact n1
    have x2 : (e == 2) = false := by rw [beq_eq_false_iff_ne]; exact n2
    have x3 : (e == 3) = false := by rw [beq_eq_false_iff_ne]; exact n3
    have x4 : (e == 4) = false := by rw [beq_eq_false_iff_ne]; exact n4
    have hd : Hid (decide (e = if true = false then (1:Int) else 4) = false) := decide_eq_false (by show ¬ e = 4; omega)
    rw [hd.out]
    clear n1 n2 n3 n4
    have hfd := rf_field X true
    go_enter Tryd.func21, Tryd.ntmps21
    go_wp2_with fail
    refine (RO.out _).mono ?_
    rintro r w1 ⟨rfl, k1⟩
    have k1 := hidd k1
    go_wp2_with fail
    go_ret
    exact ⟨rfl, k1.out⟩
set_option maxHeartbeats 4000000 in
set_option maxRecDepth 100000 in
theorem rright_b (op e : Int) (E : Bool) (X : Rf) (c1 : (op == 64) = false) (c2 : (op == 72) = false) (c3 : 65 ≤ op) (c4 : ¬ op ≤ 71) (RO : ∀ w, Calls Tryd.prog 20 #[.int .u8 op] w fun e w' => e = .returned (.agg #[.int .i64 X.c, .bool X.ra, .bool X.rb, .bool X.wa, .bool X.lk, .bool X.sd, .bool X.st, .bool X.t, .bool X.f, .bool X.s, .bool E]) ∧ Kep w w') (w : World) :
    Calls Tryd.prog 21 #[.int .u8 op, .int .i64 e] w fun r w' => r = .returned (.bool (decide (e = if E = false then 1 else 4))) ∧ Kep w w' := by
  have RO := hidd RO
  have d71 : Hid (decide (op ≤ 71) = false) := decide_eq_false c4
  rcases (by omega : e = 1 ∨ e = 2 ∨ e = 3 ∨ e = 4 ∨ (e ≠ 1 ∧ e ≠ 2 ∧ e ≠ 3 ∧ e ≠ 4)) with rfl | rfl | rfl | rfl | ⟨n1, n2, n3, n4⟩
  all_goals cases E
  · have hfd := rf_field X false
    go_enter Tryd.func21, Tryd.ntmps21
    go_wp2_with fail
    refine (RO.out _).mono ?_
    rintro r w1 ⟨rfl, k1⟩
    have k1 := hidd k1
    go_wp2_with fail
    go_ret
    first
      | exact ⟨rfl, k1.out⟩
      | exact ⟨by show Ending.returned (.bool (decide (op ≤ 71))) = _; rw [d71.out], k1.out⟩
      | exact ⟨by show Ending.returned (.bool (!decide (op ≤ 71))) = _; rw [d71.out]; rfl, k1.out⟩
  · have hfd := rf_field X true
    go_enter Tryd.func21, Tryd.ntmps21
    go_wp2_with fail
    refine (RO.out _).mono ?_
    rintro r w1 ⟨rfl, k1⟩
    have k1 := hidd k1
    go_wp2_with fail
    go_ret
    first
      | exact ⟨rfl, k1.out⟩
      | exact ⟨by show Ending.returned (.bool (decide (op ≤ 71))) = _; rw [d71.out], k1.out⟩
      | exact ⟨by show Ending.returned (.bool (!decide (op ≤ 71))) = _; rw [d71.out]; rfl, k1.out⟩
  · have hfd := rf_field X false
    go_enter Tryd.func21, Tryd.ntmps21
    go_wp2_with fail
    refine (RO.out _).mono ?_
    rintro r w1 ⟨rfl, k1⟩
    have k1 := hidd k1
    go_wp2_with fail
    go_ret
    first
      | exact ⟨rfl, k1.out⟩
      | exact ⟨by show Ending.returned (.bool (decide (op ≤ 71))) = _; rw [d71.out], k1.out⟩
      | exact ⟨by show Ending.returned (.bool (!decide (op ≤ 71))) = _; rw [d71.out]; rfl, k1.out⟩
  · have hfd := rf_field X true
    go_enter Tryd.func21, Tryd.ntmps21
    go_wp2_with fail
    refine (RO.out _).mono ?_
    rintro r w1 ⟨rfl, k1⟩
    have k1 := hidd k1
    go_wp2_with fail
    go_ret
    first
      | exact ⟨rfl, k1.out⟩
      | exact ⟨by show Ending.returned (.bool (decide (op ≤ 71))) = _; rw [d71.out], k1.out⟩
      | exact ⟨by show Ending.returned (.bool (!decide (op ≤ 71))) = _; rw [d71.out]; rfl, k1.out⟩
  · have hfd := rf_field X false
    go_enter Tryd.func21, Tryd.ntmps21
    go_wp2_with fail
    refine (RO.out _).mono ?_
    rintro r w1 ⟨rfl, k1⟩
    have k1 := hidd k1
    go_wp2_with fail
    go_ret
    first
      | exact ⟨rfl, k1.out⟩
      | exact ⟨by show Ending.returned (.bool (decide (op ≤ 71))) = _; rw [d71.out], k1.out⟩
      | exact ⟨by show Ending.returned (.bool (!decide (op ≤ 71))) = _; rw [d71.out]; rfl, k1.out⟩
  · have hfd := rf_field X true
    go_enter Tryd.func21, Tryd.ntmps21
    go_wp2_with fail
    refine (RO.out _).mono ?_
    rintro r w1 ⟨rfl, k1⟩
    have k1 := hidd k1
    go_wp2_with fail
    go_ret
    first
      | exact ⟨rfl, k1.out⟩
      | exact ⟨by show Ending.returned (.bool (decide (op ≤ 71))) = _; rw [d71.out], k1.out⟩
      | exact ⟨by show Ending.returned (.bool (!decide (op ≤ 71))) = _; rw [d71.out]; rfl, k1.out⟩
  · have hfd := rf_field X false
    go_enter Tryd.func21, Tryd.ntmps21
    go_wp2_with fail
    refine (RO.out _).mono ?_
    rintro r w1 ⟨rfl, k1⟩
    have k1 := hidd k1
    go_wp2_with fail
    go_ret
    first
      | exact ⟨rfl, k1.out⟩
      | exact ⟨by show Ending.returned (.bool (decide (op ≤ 71))) = _; rw [d71.out], k1.out⟩
      | exact ⟨by show Ending.returned (.bool (!decide (op ≤ 71))) = _; rw [d71.out]; rfl, k1.out⟩
  · have hfd := rf_field X true
    go_enter Tryd.func21, Tryd.ntmps21
    go_wp2_with fail
    refine (RO.out _).mono ?_
    rintro r w1 ⟨rfl, k1⟩
    have k1 := hidd k1
    go_wp2_with fail
    go_ret
    first
      | exact ⟨rfl, k1.out⟩
      | exact ⟨by show Ending.returned (.bool (decide (op ≤ 71))) = _; rw [d71.out], k1.out⟩
      | exact ⟨by show Ending.returned (.bool (!decide (op ≤ 71))) = _; rw [d71.out]; rfl, k1.out⟩
  · have x1 : (e == 1) = false := by rw [beq_eq_false_iff_ne]; exact n1
    have x2 : (e == 2) = false := by rw [beq_eq_false_iff_ne]; exact n2
    have x3 : (e == 3) = false := by rw [beq_eq_false_iff_ne]; exact n3
    have x4 : (e == 4) = false := by rw [beq_eq_false_iff_ne]; exact n4
    have hd : Hid (decide (e = if false = false then (1:Int) else 4) = false) := decide_eq_false (by show ¬ e = 1; omega)
    rw [hd.out]
    clear n1 n2 n3 n4
    have hfd := rf_field X false
    go_enter Tryd.func21, Tryd.ntmps21
    go_wp2_with fail
    refine (RO.out _).mono ?_
    rintro r w1 ⟨rfl, k1⟩
    have k1 := hidd k1
    go_wp2_with fail
    go_ret
    first
      | exact ⟨rfl, k1.out⟩
      | exact ⟨by show Ending.returned (.bool (decide (op ≤ 71))) = _; rw [d71.out], k1.out⟩
      | exact ⟨by show Ending.returned (.bool (!decide (op ≤ 71))) = _; rw [d71.out]; rfl, k1.out⟩
  · have x1 : (e == 1) = false := by rw [beq_eq_false_iff_ne]; exact n1
    have x2 : (e == 2) = false := by rw [beq_eq_false_iff_ne]; exact n2
    have x3 : (e == 3) = false := by rw [beq_eq_false_iff_ne]; exact n3
    have x4 : (e == 4) = false := by rw [beq_eq_false_iff_ne]; exact n4
    have hd : Hid (decide (e = if true = false then (1:Int) else 4) = false) := decide_eq_false (by show ¬ e = 4; omega)
    rw [hd.out]
    clear n1 n2 n3 n4
    have hfd := rf_field X true
    go_enter Tryd.func21, Tryd.ntmps21
    go_wp2_with fail
    refine (RO.out _).mono ?_
    rintro r w1 ⟨rfl, k1⟩
    have k1 := hidd k1
    go_wp2_with fail
    go_ret
    first
      | exact ⟨rfl, k1.out⟩
      | exact ⟨by show Ending.returned (.bool (decide (op ≤ 71))) = _; rw [d71.out], k1.out⟩
      | exact ⟨by show Ending.returned (.bool (!decide (op ≤ 71))) = _; rw [d71.out]; rfl, k1.out⟩
set_option maxHeartbeats 4000000 in
set_option maxRecDepth 100000 in
theorem rright_c (e : Int) (X : Rf)  (RO : ∀ w, Calls Tryd.prog 20 #[.int .u8 64] w fun e w' => e = .returned (.agg #[.int .i64 X.c, .bool X.ra, .bool X.rb, .bool X.wa, .bool X.lk, .bool X.sd, .bool X.st, .bool X.t, .bool X.f, .bool X.s, .bool true]) ∧ Kep w w') (w : World) :
    Calls Tryd.prog 21 #[.int .u8 64, .int .i64 e] w fun r w' => r = .returned (.bool (decide (e = 2))) ∧ Kep w w' := by
  have RO := hidd RO
  skip
  rcases (by omega : e = 1 ∨ e = 2 ∨ e = 3 ∨ e = 4 ∨ (e ≠ 1 ∧ e ≠ 2 ∧ e ≠ 3 ∧ e ≠ 4)) with rfl | rfl | rfl | rfl | ⟨n1, n2, n3, n4⟩
  · have hfd := rf_field X true
    go_enter Tryd.func21, Tryd.ntmps21
    go_wp2_with fail
    refine (RO.out _).mono ?_
    rintro r w1 ⟨rfl, k1⟩
    have k1 := hidd k1
    go_wp2_with fail
    go_ret
    exact ⟨rfl, k1.out⟩
  · have hfd := rf_field X true
    go_enter Tryd.func21, Tryd.ntmps21
    go_wp2_with fail
    refine (RO.out _).mono ?_
    rintro r w1 ⟨rfl, k1⟩
    have k1 := hidd k1
    go_wp2_with fail
    go_ret
    exact ⟨rfl, k1.out⟩
  · have hfd := rf_field X true
    go_enter Tryd.func21, Tryd.ntmps21
    go_wp2_with fail
    refine (RO.out _).mono ?_
    rintro r w1 ⟨rfl, k1⟩
    have k1 := hidd k1
    go_wp2_with fail
    go_ret
    exact ⟨rfl, k1.out⟩
  · have hfd := rf_field X true
    go_enter Tryd.func21, Tryd.ntmps21
    go_wp2_with fail
    refine (RO.out _).mono ?_
    rintro r w1 ⟨rfl, k1⟩
    have k1 := hidd k1
    go_wp2_with fail
    go_ret
    exact ⟨rfl, k1.out⟩
  · have x1 : (e == 1) = false := by rw [beq_eq_false_iff_ne]; exact n1
    have x2 : (e == 2) = false := by rw [beq_eq_false_iff_ne]; exact n2
    have x3 : (e == 3) = false := by rw [beq_eq_false_iff_ne]; exact n3
    have x4 : (e == 4) = false := by rw [beq_eq_false_iff_ne]; exact n4
    have hd : Hid (decide (e = 2) = false) := decide_eq_false (by omega)
    rw [hd.out]
    clear n1 n2 n3 n4
    have hfd := rf_field X true
    go_enter Tryd.func21, Tryd.ntmps21
    go_wp2_with fail
    refine (RO.out _).mono ?_
    rintro r w1 ⟨rfl, k1⟩
    have k1 := hidd k1
    go_wp2_with fail
    go_ret
    exact ⟨rfl, k1.out⟩
set_option maxHeartbeats 4000000 in
set_option maxRecDepth 100000 in
theorem rright_d (e : Int) (X : Rf)  (RO : ∀ w, Calls Tryd.prog 20 #[.int .u8 72] w fun e w' => e = .returned (.agg #[.int .i64 X.c, .bool X.ra, .bool X.rb, .bool X.wa, .bool X.lk, .bool X.sd, .bool X.st, .bool X.t, .bool X.f, .bool X.s, .bool true]) ∧ Kep w w') (w : World) :
    Calls Tryd.prog 21 #[.int .u8 72, .int .i64 e] w fun r w' => r = .returned (.bool (decide (e = 2))) ∧ Kep w w' := by
  have RO := hidd RO
  skip
  rcases (by omega : e = 1 ∨ e = 2 ∨ e = 3 ∨ e = 4 ∨ (e ≠ 1 ∧ e ≠ 2 ∧ e ≠ 3 ∧ e ≠ 4)) with rfl | rfl | rfl | rfl | ⟨n1, n2, n3, n4⟩
  · have hfd := rf_field X true
    go_enter Tryd.func21, Tryd.ntmps21
    go_wp2_with fail
    refine (RO.out _).mono ?_
    rintro r w1 ⟨rfl, k1⟩
    have k1 := hidd k1
    go_wp2_with fail
    go_ret
    exact ⟨rfl, k1.out⟩
  · have hfd := rf_field X true
    go_enter Tryd.func21, Tryd.ntmps21
    go_wp2_with fail
    refine (RO.out _).mono ?_
    rintro r w1 ⟨rfl, k1⟩
    have k1 := hidd k1
    go_wp2_with fail
    go_ret
    exact ⟨rfl, k1.out⟩
  · have hfd := rf_field X true
    go_enter Tryd.func21, Tryd.ntmps21
    go_wp2_with fail
    refine (RO.out _).mono ?_
    rintro r w1 ⟨rfl, k1⟩
    have k1 := hidd k1
    go_wp2_with fail
    go_ret
    exact ⟨rfl, k1.out⟩
  · have hfd := rf_field X true
    go_enter Tryd.func21, Tryd.ntmps21
    go_wp2_with fail
    refine (RO.out _).mono ?_
    rintro r w1 ⟨rfl, k1⟩
    have k1 := hidd k1
    go_wp2_with fail
    go_ret
    exact ⟨rfl, k1.out⟩
  · have x1 : (e == 1) = false := by rw [beq_eq_false_iff_ne]; exact n1
    have x2 : (e == 2) = false := by rw [beq_eq_false_iff_ne]; exact n2
    have x3 : (e == 3) = false := by rw [beq_eq_false_iff_ne]; exact n3
    have x4 : (e == 4) = false := by rw [beq_eq_false_iff_ne]; exact n4
    have hd : Hid (decide (e = 2) = false) := decide_eq_false (by omega)
    rw [hd.out]
    clear n1 n2 n3 n4
    have hfd := rf_field X true
    go_enter Tryd.func21, Tryd.ntmps21
    go_wp2_with fail
    refine (RO.out _).mono ?_
    rintro r w1 ⟨rfl, k1⟩
    have k1 := hidd k1
    go_wp2_with fail
    go_ret
    exact ⟨rfl, k1.out⟩
set_option maxHeartbeats 4000000 in
set_option maxRecDepth 100000 in
theorem rright_e (op e : Int) (X : Rf) (c1 : (op == 64) = false) (c2 : (op == 72) = false) (c3 : 65 ≤ op) (c4 : op ≤ 71) (RO : ∀ w, Calls Tryd.prog 20 #[.int .u8 op] w fun e w' => e = .returned (.agg #[.int .i64 X.c, .bool X.ra, .bool X.rb, .bool X.wa, .bool X.lk, .bool X.sd, .bool X.st, .bool X.t, .bool X.f, .bool X.s, .bool true]) ∧ Kep w w') (w : World) :
    Calls Tryd.prog 21 #[.int .u8 op, .int .i64 e] w fun r w' => r = .returned (.bool (decide (e = 3))) ∧ Kep w w' := by
  have RO := hidd RO
  skip
  rcases (by omega : e = 1 ∨ e = 2 ∨ e = 3 ∨ e = 4 ∨ (e ≠ 1 ∧ e ≠ 2 ∧ e ≠ 3 ∧ e ≠ 4)) with rfl | rfl | rfl | rfl | ⟨n1, n2, n3, n4⟩
  · have hfd := rf_field X true
    go_enter Tryd.func21, Tryd.ntmps21
    go_wp2_with fail
    refine (RO.out _).mono ?_
    rintro r w1 ⟨rfl, k1⟩
    have k1 := hidd k1
    go_wp2_with fail
    go_ret
    exact ⟨rfl, k1.out⟩
  · have hfd := rf_field X true
    go_enter Tryd.func21, Tryd.ntmps21
    go_wp2_with fail
    refine (RO.out _).mono ?_
    rintro r w1 ⟨rfl, k1⟩
    have k1 := hidd k1
    go_wp2_with fail
    go_ret
    exact ⟨rfl, k1.out⟩
  · have hfd := rf_field X true
    go_enter Tryd.func21, Tryd.ntmps21
    go_wp2_with fail
    refine (RO.out _).mono ?_
    rintro r w1 ⟨rfl, k1⟩
    have k1 := hidd k1
    go_wp2_with fail
    go_ret
    exact ⟨rfl, k1.out⟩
  · have hfd := rf_field X true
    go_enter Tryd.func21, Tryd.ntmps21
    go_wp2_with fail
    refine (RO.out _).mono ?_
    rintro r w1 ⟨rfl, k1⟩
    have k1 := hidd k1
    go_wp2_with fail
    go_ret
    exact ⟨rfl, k1.out⟩
  · have x1 : (e == 1) = false := by rw [beq_eq_false_iff_ne]; exact n1
    have x2 : (e == 2) = false := by rw [beq_eq_false_iff_ne]; exact n2
    have x3 : (e == 3) = false := by rw [beq_eq_false_iff_ne]; exact n3
    have x4 : (e == 4) = false := by rw [beq_eq_false_iff_ne]; exact n4
    have hd : Hid (decide (e = 3) = false) := decide_eq_false (by omega)
    rw [hd.out]
    clear n1 n2 n3 n4
    have hfd := rf_field X true
    go_enter Tryd.func21, Tryd.ntmps21
    go_wp2_with fail
    refine (RO.out _).mono ?_
    rintro r w1 ⟨rfl, k1⟩
    have k1 := hidd k1
    go_wp2_with fail
    go_ret
    exact ⟨rfl, k1.out⟩
theorem rright_any (op e : Int) (h0 : 0 ≤ op) (h1 : op < 256) (w : World) :
    Calls Tryd.prog 21 #[.int .u8 op, .int .i64 e] w fun r w' => r = .returned (.bool (decide (e = bEnd op))) ∧ Kep w w' := by
  obtain ⟨X, RO⟩ := ltof_any op h0 h1
  by_cases e1 : op = 64
  · subst e1
    have hb : bnd 64 = true := by decide
    have hk : bEnd 64 = 2 := by unfold bEnd; rw [hb]; rfl
    rw [hb] at RO; rw [hk]
    exact rright_c e X RO w
  by_cases e2 : op = 72
  · subst e2
    have hb : bnd 72 = true := by decide
    have hk : bEnd 72 = 2 := by unfold bEnd; rw [hb]; rfl
    rw [hb] at RO; rw [hk]
    exact rright_d e X RO w
  have c1 : (op == 64) = false := by rw [beq_eq_false_iff_ne]; exact e1
  have c2 : (op == 72) = false := by rw [beq_eq_false_iff_ne]; exact e2
  by_cases h3 : 65 ≤ op
  · by_cases h4 : op ≤ 71
    · have hb := bnd_cf op (by omega) (by omega)
      have hk : bEnd op = 3 := by unfold bEnd; rw [hb, if_neg (by simp), if_neg (by omega), if_pos ⟨h3, h4⟩]
      rw [hb] at RO; rw [hk]
      exact rright_e op e X c1 c2 h3 h4 RO w
    · have hk : bEnd op = if bnd op = false then 1 else 4 := by unfold bEnd; rw [if_neg (show ¬ (op = 64 ∨ op = 72) by omega), if_neg (show ¬ (65 ≤ op ∧ op ≤ 71) by omega)]
      rw [hk]
      exact rright_b op e (bnd op) X c1 c2 h3 h4 RO w
  · have hk : bEnd op = if bnd op = false then 1 else 4 := by unfold bEnd; rw [if_neg (show ¬ (op = 64 ∨ op = 72) by omega), if_neg (show ¬ (65 ≤ op ∧ op ≤ 71) by omega)]
    rw [hk]
    exact rright_a op e (bnd op) X c1 c2 h3 RO w
set_option maxHeartbeats 4000000 in
set_option maxRecDepth 100000 in
theorem rmay20_no {w : World} {xi : Option Addr} {li ci : Nat} {I : List In4} {xa : Option Addr} {la ca : Nat} {A : List Int} {n t e : Int} {xf : Option Addr} {lf cf : Nat} {xt : Option Addr} {lt ct : Nat} (H : BlkIn w xi li ci I xa la ca A n t e) (h : fitL li la = false) :
    Calls Tryd.prog 9 #[.agg (blkX xi li ci xa la ca n t e xf lf cf xt lt ct)] w fun r w' => r = .returned (.bool false) ∧ Kep w w' := by
  have hs : (li : Int) < 1 ∨ (¬ (li : Int) < 1 ∧ (32 : Int) < li) ∨ (¬ (li : Int) < 1 ∧ ¬ (32 : Int) < li ∧ ((la : Int) != (li : Int)) = true) := by
    unfold fitL at h
    have := of_decide_eq_false h
    simp only [bne_iff_ne, ne_eq]
    omega
  clear H h
  rcases hs with h | ⟨h1, h2⟩ | ⟨h1, h2, h3⟩
  all_goals
    go_enter Tryd.func9, Tryd.ntmps9
    go_wp2_with fail
    go_ret
    exact ⟨rfl, (Kep.refl _).alloc _⟩
set_option maxHeartbeats 8000000 in
set_option maxRecDepth 100000 in
theorem rmay20_fit {w : World} {xi : Option Addr} {li ci : Nat} {I : List In4} {xa : Option Addr} {la ca : Nat} {A : List Int} {n t e : Int} {xf : Option Addr} {lf cf : Nat} {xt : Option Addr} {lt ct : Nat} (H : BlkIn w xi li ci I xa la ca A n t e) (h : fitL li la = true) :
    Calls Tryd.prog 9 #[.agg (blkX xi li ci xa la ca n t e xf lf cf xt lt ct)] w fun r w' => r = .returned (.bool (mayL I la e)) ∧ Kep w w' := by
  obtain ⟨f1, f2, f3⟩ := of_decide_eq_true (show decide (1 ≤ li ∧ li ≤ 32 ∧ la = li) = true from h)
  subst f3
  have g0 : ¬ (la : Int) < 1 := by omega
  have g2 : ¬ (32 : Int) < (la : Int) := by omega
  have g6 : (1 : Int) ≤ la := by omega
  have g7 : (la : Int) ≤ 32 := by omega
  have g3 : (la : Int) ≤ ci := by have := H.ic; omega
  have g4 : (ci : Int) ≤ 9223372036854775807 := H.im
  have g8 : ((la : Int) != la) = false := by simp
  have H' := hidd H
  have h' := hidd h
  have IL := hidd H.il
  have l1 : Hid (1 ≤ la) := f1
  clear H h f1 f2
  go_enter Tryd.func9, Tryd.ntmps9
  go_upto_region 1 with fail
  obtain ⟨bb, qb⟩ : ∃ i, Hid (i = w.heap.size) := ⟨_, rfl⟩
  rw [← qb.out]
  obtain ⟨W, hW⟩ : ∃ V, Hid (w.alloc (.cells (blkC (.slice xi la ci) (.slice xa la ca) n t e (.slice xf lf cf) (.slice xt lt ct)) 27) = V) := ⟨_, rfl⟩
  rw [hW.out]
  have K1 : Hid (Kep w W) := by rw [Hid, ← hW.out]; exact (Kep.refl _).alloc _
  have Bb : Hid (W.heap[bb]? = some (.cells (blkC (.slice xi la ci) (.slice xa la ca) n t e (.slice xf lf cf) (.slice xt lt ct)) 27 (0, 0))) := by rw [Hid, ← hW.out]; exact hat _ _ _ qb.out
  clear hW qb
  have c0 : W.cell? ⟨bb, 0, none⟩ = some (.slice xi la ci) := cell_of_block Bb.out
  have c1 : W.cell? ⟨bb, 1, none⟩ = some (.slice xa la ca) := cell_of_block Bb.out
  go_wp2_with fail
  clear c0 c1
  go_loopw [4] (fun i wr => ∃ k : Nat, (k : Int) ≤ la ∧ i = .int .i64 k ∧ Hid (k < la → mid (I.take k) = true) ∧ Hid (k = la → mid (I.take (la - 1)) = true ∧ bok (lastI I) = true) ∧ Hid (Kep W wr)) (fun i _ => la - (intOf i).toNat)
  case atStart => exact ⟨0, by omega, rfl, fun _ => (rfl : mid (I.take 0) = true), fun h => by have := l1.out; omega, hidd (Kep.refl _)⟩
  case round =>
    obtain ⟨k, hk, rfl, hm, hmm, KR⟩ := hrel
    by_cases hlt : k < la
    · obtain ⟨i, hi⟩ : ∃ z, I[k]? = some z := ⟨_, List.getElem?_eq_getElem (by have := IL.out; omega)⟩
      obtain ⟨bi, off, hxi, RA⟩ := lies_in19 ((H'.out.ii.kep K1.out).kep KR.out) hi
      subst hxi
      have io := hidd (H'.out.io _ (List.mem_of_getElem? hi))
      have hi' := hidd hi
      obtain ⟨op, a, b, imm⟩ := i
      have e0 : wr.cell? ⟨bi, off + k * 4, none⟩ = some (.int .u8 op) := RA 0 _ rfl
      have e1 : wr.cell? ⟨bi, off + k * 4 + 1, none⟩ = some (.int .u8 a) := RA 1 _ rfl
      have e2 : wr.cell? ⟨bi, off + k * 4 + 2, none⟩ = some (.int .u8 b) := RA 2 _ rfl
      have e3 : wr.cell? ⟨bi, off + k * 4 + 3, none⟩ = some (.int .i32 imm) := RA 3 _ rfl
      have c0 : wr.cell? ⟨bb, 0, none⟩ = some (.slice (some ⟨bi, off, none⟩) la ci) := cell_of_block (KR.out.block Bb.out)
      have MY := hidd (fun w => refMay_any op a b imm false w io.out.2.1.1 io.out.2.2.1.1 io.out.2.2.2.1 io.out.2.2.2.2)
      obtain ⟨X, RO⟩ := ltof_any op io.out.1.1 io.out.1.2
      have RO := hidd RO
      have bokp : Hid (bok (op, a, b, imm) = mayB (rowOf op false) a b imm) := rfl
      have mg : Hid (k < la - 1 → pln (op, a, b, imm) = false → mayL I la e = false) := fun h1 h2 => mayL_mid (mid_no hi'.out (by have := IL.out; omega) h2)
      have ml : Hid (k = la - 1 → bok (op, a, b, imm) = false → mayL I la e = false) := fun h1 h2 => by
        have e : lastI I = (op, a, b, imm) := by
          have := last_at (I := I) (by have := IL.out; omega)
          rw [IL.out, ← h1, hi'.out] at this
          exact (by simpa using this.symm)
        unfold mayL; rw [e, h2]; simp
      clear RA hi
      cases hmy : mayB (rowOf op false) a b imm
      · have fin : Hid (mayL I la e = false) := by
          by_cases h1 : k < la - 1
          · exact mg.out h1 (by unfold pln; rw [bokp.out, hmy]; rfl)
          · exact ml.out (by omega) (by rw [bokp.out, hmy])
        rw [hmy] at MY
        clear hmy bokp mg ml
        go_wp2_with fail
        refine (MY.out _).mono ?_
        rintro r w3 ⟨rfl, k3⟩
        have k3 := hidd k3
        clear e0 e1 e2 e3 c0
        go_wp2_with fail
        go_ret
        exact ⟨by rw [fin.out]; rfl, kep_trans K1.out (kep_trans KR.out k3.out)⟩
      · rw [hmy] at MY
        have bk : Hid (bok (op, a, b, imm) = true) := by rw [Hid, bokp.out, hmy]
        clear hmy bokp ml
        by_cases h1 : (k : Int) < (la : Int) - 1
        · cases hen : bnd op
          · have yes : Hid (pln (op, a, b, imm) = true) := by rw [Hid]; unfold pln; rw [bk.out, hen]; rfl
            rw [hen] at RO
            have hfd := rf_field X false
            clear hen mg
            go_wp2_with fail
            refine (MY.out _).mono ?_
            rintro r w3 ⟨rfl, k3⟩
            have k3 := hidd (kep_trans KR.out k3)
            clear e0 e1 e2 e3 c0
            go_wp2_with fail
            refine (RO.out _).mono ?_
            rintro r w4 ⟨rfl, k4⟩
            have k4 := hidd (kep_trans k3.out k4)
            go_wp2_with fail
            go_roundw
            case rel => exact ⟨k + 1, by omega, by go_num, fun h => by rw [mid_succ hi'.out, hm.out (by omega), yes.out]; rfl, fun h => by omega, k4⟩
            case measure => simp [intOf]; omega
          · have fin : Hid (mayL I la e = false) := mg.out (by omega) (by unfold pln; rw [hen]; simp)
            rw [hen] at RO
            have hfd := rf_field X true
            clear hen mg
            go_wp2_with fail
            refine (MY.out _).mono ?_
            rintro r w3 ⟨rfl, k3⟩
            have k3 := hidd (kep_trans KR.out k3)
            clear e0 e1 e2 e3 c0
            go_wp2_with fail
            refine (RO.out _).mono ?_
            rintro r w4 ⟨rfl, k4⟩
            have k4 := hidd (kep_trans k3.out k4)
            go_wp2_with fail
            go_ret
            exact ⟨by rw [fin.out]; rfl, kep_trans K1.out k4.out⟩
        · have lst : Hid (k = la - 1 ∧ lastI I = (op, a, b, imm)) := by
            have hk1 : k = la - 1 := by omega
            refine ⟨hk1, ?_⟩
            have := last_at (I := I) (by have := IL.out; omega)
            rw [IL.out, ← hk1, hi'.out] at this
            exact (by simpa using this.symm)
          clear mg
          go_wp2_with fail
          refine (MY.out _).mono ?_
          rintro r w3 ⟨rfl, k3⟩
          have k3 := hidd (kep_trans KR.out k3)
          clear e0 e1 e2 e3 c0
          go_wp2_with fail
          go_roundw
          case rel => exact ⟨k + 1, by omega, by go_num, fun h => by have := lst.out.1; omega, fun h => ⟨by rw [← lst.out.1]; exact hm.out hlt, by rw [lst.out.2]; exact bk.out⟩, k3⟩
          case measure => simp [intOf]; omega
    · obtain rfl : k = la := by omega
      have hfin : Hid (mayL I k e = decide (e = bEnd (lastI I).1)) := by
        obtain ⟨m1, m2⟩ := hmm.out rfl
        rw [Hid, mayL_fit (by rw [IL.out]; exact h'.out) (by rw [IL.out]; exact m1), m2, Bool.true_and]
      have L0 := hidd (last_at (I := I) (by have := IL.out; have := l1.out; omega))
      rw [IL.out] at L0
      have LO := hidd (H'.out.io _ (List.mem_of_getElem? L0.out))
      generalize lastI I = z at L0 LO hfin hmm
      obtain ⟨op, a, b, imm⟩ := z
      obtain ⟨bi, off, hxi, RA⟩ := lies_in19 ((H'.out.ii.kep K1.out).kep KR.out) L0.out
      subst hxi
      obtain ⟨q, hq⟩ : ∃ q, Hid (k - 1 = q) := ⟨_, rfl⟩
      rw [hq.out] at RA
      have e0 : Hid (wr.cell? ⟨bi, off + q * 4, none⟩ = some (.int .u8 op)) := RA 0 _ rfl
      have wr1 : Hid (IntKind.i64.wrap ((k : Int) - 1) = (q : Int)) := by have := hq.out; have := l1.out; rw [Hid]; unfold IntKind.wrap; simp [IntKind.signed, IntKind.bits]; omega
      have qk : Hid (q < k) := by have := hq.out; have := l1.out; rw [Hid]; omega
      have lb : Hid (bi < wr.heap.size) := World.block_lt_of_cell? wr _ e0.out
      have B1 := hidd (KR.out.block Bb.out)
      have RI := hidd (fun w => rright_any op e LO.out.1.1 LO.out.1.2 w)
      simp only at hfin
      clear RA hm hmm
      go_upto_region 10 with fail
      refine wp_region_held_drew (S := fun w' => Kep wr w') (by kernel_rfl) ((Kep.refl _).drew) (fun hH => ?_)
      refine wpAnyH_take (i := 0) (v := .pointer (some ⟨bb, 0, none⟩)) rfl (by kernel_rfl) (by kernel_rfl) (by kernel_rfl) (fun _ _ _ h => h) (.inl ⟨by rfl, by intro w hS; go_simp⟩) hH ?_
      (try simp only [jA, jB, jC, Act.put, jD, jE, jF])
      refine wpAnyH_take (i := 1) (v := .slice (some ⟨bi, off, none⟩) k ci) rfl (by kernel_rfl) (by kernel_rfl) (by kernel_rfl) (fun _ _ _ h => h) (.inl ⟨by rfl, by intro w hS; have c : w.cell? ⟨bb, 0, none⟩ = some (.slice (some ⟨bi, off, none⟩) k ci) := cell_of_block (hS.block B1.out); clear hS; go_simp⟩) hH ?_
      (try simp only [jA, jB, jC, Act.put, jD, jE, jF])
      refine wpAnyH_take (i := 2) (v := .int .i64 k) rfl (by kernel_rfl) (by kernel_rfl) (by kernel_rfl) (fun _ _ _ h => h) (.inl ⟨by rfl, by intro w hS; go_simp⟩) hH ?_
      (try simp only [jA, jB, jC, Act.put, jD, jE, jF])
      refine wpAnyH_take (i := 3) (v := .int .i64 q) rfl (by kernel_rfl) (by kernel_rfl) (by kernel_rfl) (fun _ _ _ h => h) (.inl ⟨by rfl, by intro w hS; have hb := wr1.out; clear hS; go_simp⟩) hH ?_
      (try simp only [jA, jB, jC, Act.put, jD, jE, jF])
      refine wpAnyH_take (i := 4) (v := .pointer (some ⟨bi, off + q * 4, none⟩)) rfl (by kernel_rfl) (by kernel_rfl) (by kernel_rfl) (fun _ _ _ h => h) (.inl ⟨by rfl, by intro w hS; have hb := qk.out; clear hS; go_simp⟩) hH ?_
      (try simp only [jA, jB, jC, Act.put, jD, jE, jF])
      refine wpAnyH_take (i := 5) (v := .pointer (some ⟨bi, off + q * 4, none⟩)) rfl (by kernel_rfl) (by kernel_rfl) (by kernel_rfl) (fun _ _ _ h => h) (.inl ⟨by rfl, by intro w hS; go_simp⟩) hH ?_
      (try simp only [jA, jB, jC, Act.put, jD, jE, jF])
      refine wpAnyH_take (i := 6) (v := .int .u8 op) rfl (by kernel_rfl) (by kernel_rfl) (by kernel_rfl) (fun _ _ _ h => h) (.inl ⟨by rfl, by intro w hS; have c : w.cell? ⟨bi, off + q * 4, none⟩ = some (.int .u8 op) := (hS.cell lb.out).trans e0.out; clear hS; go_simp⟩) hH ?_
      (try simp only [jA, jB, jC, Act.put, jD, jE, jF])
      refine wpAnyH_take (i := 7) (v := .pointer (some ⟨bb, 4, none⟩)) rfl (by kernel_rfl) (by kernel_rfl) (by kernel_rfl) (fun _ _ _ h => h) (.inl ⟨by rfl, by intro w hS; go_simp⟩) hH ?_
      (try simp only [jA, jB, jC, Act.put, jD, jE, jF])
      refine wpAnyH_take (i := 8) (v := .int .i64 e) rfl (by kernel_rfl) (by kernel_rfl) (by kernel_rfl) (fun _ _ _ h => h) (.inl ⟨by rfl, by intro w hS; have c : w.cell? ⟨bb, 4, none⟩ = some (.int .i64 e) := cell_of_block (hS.block B1.out); clear hS; go_simp⟩) hH ?_
      (try simp only [jA, jB, jC, Act.put, jD, jE, jF])
      refine wpAnyH_ready (rs := [9]) (by kernel_rfl) (by simp) ?_
      refine AllReadyH.cons rfl (fun K hK => ?_) AllReadyH.nil
      rw [if_pos (by rfl)]
      go_simp
      refine (RI.out _).mono ?_
      rintro x w6 ⟨rfl, k6⟩
      refine hK.out _ _ (kep_trans hH k6) (fun hH => ?_)
      clear k6
      clear hK K
      (try simp only [jA, jB, jC, Act.put, jD, jE, jF])
      refine wpAnyH_take (i := 10) (v := .bool (decide (e = bEnd op))) rfl (by kernel_rfl) (by kernel_rfl) (by kernel_rfl) (fun _ _ _ h => h) (.inl ⟨by rfl, by intro w hS; go_simp⟩) hH ?_
      (try simp only [jA, jB, jC, Act.put, jD, jE, jF])
      refine wpAnyH_done (by kernel_rfl) ?_ _
      go_wp2_with fail
      go_ret
      exact ⟨by rw [hfin.out]; rfl, kep_trans K1.out (kep_trans KR.out hH)⟩
theorem rmay20_any {w : World} {xi : Option Addr} {li ci : Nat} {I : List In4} {xa : Option Addr} {la ca : Nat} {A : List Int} {n t e : Int} {xf : Option Addr} {lf cf : Nat} {xt : Option Addr} {lt ct : Nat} (H : BlkIn w xi li ci I xa la ca A n t e) :
    Calls Tryd.prog 9 #[.agg (blkX xi li ci xa la ca n t e xf lf cf xt lt ct)] w fun r w' => r = .returned (.bool (mayL I la e)) ∧ Kep w w' := by
  cases h : fitL li la
  · rw [mayL_unfit (by rw [H.il]; exact h)]
    exact rmay20_no H h
  · exact rmay20_fit H h
end Go.Proofs.YtpalbpjmjbcelaaDoor
