/- Part of a proof. -/
import Derived.Test.YthimfiihebdchaaDoorJ11
namespace Go.Proofs.YthimfiihebdchaaDoor
open Go.RowKit
set_option linter.unusedVariables false
set_option linter.unusedSimpArgs false
def s00 : Sta := ⟨fun _ => 0, 100, 0, fun _ => 0, false⟩
def s0 : Sta := (s00.reg 1 7).reg 2 2
theorem s0_ok : s0.Ok := Sta.Ok.reg (Sta.Ok.reg ⟨fun _ => by show (0 : Int) ≤ 0 ∧ (0 : Int) < 4294967296; decide, by decide, by decide, fun _ => by show (0 : Int) ≤ 0 ∧ (0 : Int) < 4294967296; decide⟩ 1 7 (by decide) (by decide)) 2 2 (by decide) (by decide)
theorem w0_f : doF s0 18 1 2 0 = (0, 0) := by decide
theorem w0_r : (doS s0 18 1 2 0 0).r 1 = 5 := by decide
theorem w0_pc : (doS s0 18 1 2 0 0).pc = 102 := by decide
set_option maxHeartbeats 1600000 in
set_option maxRecDepth 100000 in
theorem works8_any (w : World) (hT : Tabs w) : Calls Tryd.prog 10 #[] w fun e w' => e = .returned (.bool true) ∧ Kep w w' := by
  have D : Hid (∀ w, Tabs w → Calls Tryd.prog 8 #[.agg s0.v, .agg (insA 18 1 2 0), .int .u32 0] w fun e w' => e = .returned (.tuple #[.agg (doS s0 18 1 2 0 0).v, .agg (fltV (0, 0))]) ∧ Kep w w') := fun w hT => by
    have := do_any s0 18 1 2 0 0 w s0_ok (by decide) (by decide) (by decide) (by decide) (by decide) hT
    rw [w0_f] at this; exact this
  have hr := w0_r
  have hp := w0_pc
  generalize doS s0 18 1 2 0 0 = S at *
  have hT' : Hid (Tabs w) := hT
  clear hT
  go_enter Tryd.func10, Tryd.ntmps10
  go_upto_region 2 with (refine wpList_store_row (by rfl) 25 _ _ (by rfl) w.heap.size s00.v (by rfl) (by rfl) 25 z19 blkA (by exact size_sta) (by rfl) (v_one _) ?_)
  dsimp only [Act.put]
  obtain ⟨W, hW⟩ : ∃ W, Hid (W = (w.alloc (.cells z19 25)).setRow w.heap.size s00.v) := ⟨_, rfl⟩
  rw [← hW.out]
  have AW : At W w.heap.size s00 := by rw [hW.out]; unfold At; (repeat (first | (with_reducible assumption) | (with_reducible exact Hid.out (by assumption)) | (with_reducible refine (hsk _ _ _ (by (first | omega | (simp only [World.size_alloc, World.size_setCell, size_setRow, World.size_drew]; done) | (simp only [World.size_alloc, World.size_setCell, size_setRow, World.size_drew]; omega)))).trans ?_) | (with_reducible refine (hat _ _ _ (by (first | omega | (simp only [World.size_alloc, World.size_setCell, size_setRow, World.size_drew]; done) | (simp only [World.size_alloc, World.size_setCell, size_setRow, World.size_drew]; omega))))) | (with_reducible refine Kep.block (Kep.alloc (Kep.refl _) _) ?_) | (with_reducible refine (heap_setCell_other _ _ _ _ (by (first | omega | (simp only []; omega) | (show _ ≠ _; omega)))).trans ?_) | (with_reducible refine (setRow_other _ _ _ _ (by (first | omega | (simp only []; omega) | (show _ ≠ _; omega)))).trans ?_) | (with_reducible refine (drew_heap _ _).trans ?_) | (with_reducible refine (drewN_heap _ _ _).trans ?_) | (with_reducible refine Kep.block (by assumption) ?_) | (with_reducible exact setRow_heap _ _ _ _ _ _ (by (repeat (first | (with_reducible assumption) | (with_reducible exact Hid.out (by assumption)) | (with_reducible refine (hsk _ _ _ (by (first | omega | (simp only [World.size_alloc, World.size_setCell, size_setRow, World.size_drew]; done) | (simp only [World.size_alloc, World.size_setCell, size_setRow, World.size_drew]; omega)))).trans ?_) | (with_reducible refine (hat _ _ _ (by (first | omega | (simp only [World.size_alloc, World.size_setCell, size_setRow, World.size_drew]; done) | (simp only [World.size_alloc, World.size_setCell, size_setRow, World.size_drew]; omega))))) | (with_reducible refine Kep.block (Kep.alloc (Kep.refl _) _) ?_) | (with_reducible refine (heap_setCell_other _ _ _ _ (by (first | omega | (simp only []; omega) | (show _ ≠ _; omega)))).trans ?_) | (with_reducible refine (setRow_other _ _ _ _ (by (first | omega | (simp only []; omega) | (show _ ≠ _; omega)))).trans ?_) | (with_reducible refine (drew_heap _ _).trans ?_) | (with_reducible refine (drewN_heap _ _ _).trans ?_)))))))
  have GW : Hid (Kep w W) := by rw [hW.out]; show Kep _ _; (repeat (first | (with_reducible assumption) | (with_reducible exact Kep.refl _) | (with_reducible exact Hid.out (by assumption)) | (with_reducible refine Kep.alloc ?_ _) | (with_reducible refine Kep.drew ?_) | (with_reducible refine Kep.drewN ?_ _) | (with_reducible refine Kep.setRow ?_ _ _ (by (first | omega | (simp only [World.size_alloc, World.size_setCell, size_setRow, World.size_drew]; done) | (simp only [World.size_alloc, World.size_setCell, size_setRow, World.size_drew]; omega)))) | (with_reducible refine Kep.setCell ?_ (by first | omega | (simp only []; omega) | (show _ ≤ _; omega)) _)))
  have c1 := AW.reg 1 (by decide)
  have c2 := AW.reg 2 (by decide)
  have zf := row_frozen AW
  have AW' : Hid (At W w.heap.size s00) := AW
  clear AW
  go_wp2_with (refine wpList_load_row (by rfl) 25 _ (by rfl) w.heap.size (by rfl) 25 s0.v (0, 0) _ ((AW'.out.set 1 (by decide) 7).set 2 (by decide) 2) Tryd.underlying25 rfl (by exact size_sta) ?_)
  refine (D.out _ (hT'.out.grown kepA)).mono ?_
  rintro e w1 ⟨rfl, K1⟩
  have G1 : Hid (Kep w w1) := kep_trans kepA K1
  clear K1 c1 c2 zf AW'
  go_upto_region 5 with (first | (refine wpList_store_row (by rfl) 25 _ _ (by rfl) _ _ (by rfl) (by rfl) 25 z19 blkA (by exact size_sta) (by rfl) (v_one _) ?_) | (refine wpList_store_row (by rfl) 29 _ _ (by rfl) _ _ (by rfl) (by rfl) 29 #[.int .i64 0, .int .u32 0] blkA (by exact size_flt) (by rfl) (by simp [Value.oneCell']) ?_))
  dsimp only [Act.put]
  generalize hV : World.setRow (World.setRow (World.alloc (World.alloc w1 _) _) _ _) _ _ = V
  have AV : At V w1.heap.size S := by rw [← hV]; unfold At; (repeat (first | (with_reducible assumption) | (with_reducible exact Hid.out (by assumption)) | (with_reducible refine (hsk _ _ _ (by (first | omega | (simp only [World.size_alloc, World.size_setCell, size_setRow, World.size_drew]; done) | (simp only [World.size_alloc, World.size_setCell, size_setRow, World.size_drew]; omega)))).trans ?_) | (with_reducible refine (hat _ _ _ (by (first | omega | (simp only [World.size_alloc, World.size_setCell, size_setRow, World.size_drew]; done) | (simp only [World.size_alloc, World.size_setCell, size_setRow, World.size_drew]; omega))))) | (with_reducible refine Kep.block (Kep.alloc (Kep.refl _) _) ?_) | (with_reducible refine (heap_setCell_other _ _ _ _ (by (first | omega | (simp only []; omega) | (show _ ≠ _; omega)))).trans ?_) | (with_reducible refine (setRow_other _ _ _ _ (by (first | omega | (simp only []; omega) | (show _ ≠ _; omega)))).trans ?_) | (with_reducible refine (drew_heap _ _).trans ?_) | (with_reducible refine (drewN_heap _ _ _).trans ?_) | (with_reducible refine Kep.block (by assumption) ?_) | (with_reducible exact setRow_heap _ _ _ _ _ _ (by (repeat (first | (with_reducible assumption) | (with_reducible exact Hid.out (by assumption)) | (with_reducible refine (hsk _ _ _ (by (first | omega | (simp only [World.size_alloc, World.size_setCell, size_setRow, World.size_drew]; done) | (simp only [World.size_alloc, World.size_setCell, size_setRow, World.size_drew]; omega)))).trans ?_) | (with_reducible refine (hat _ _ _ (by (first | omega | (simp only [World.size_alloc, World.size_setCell, size_setRow, World.size_drew]; done) | (simp only [World.size_alloc, World.size_setCell, size_setRow, World.size_drew]; omega))))) | (with_reducible refine Kep.block (Kep.alloc (Kep.refl _) _) ?_) | (with_reducible refine (heap_setCell_other _ _ _ _ (by (first | omega | (simp only []; omega) | (show _ ≠ _; omega)))).trans ?_) | (with_reducible refine (setRow_other _ _ _ _ (by (first | omega | (simp only []; omega) | (show _ ≠ _; omega)))).trans ?_) | (with_reducible refine (drew_heap _ _).trans ?_) | (with_reducible refine (drewN_heap _ _ _).trans ?_)))))))
  have FV : V.heap[w1.heap.size + 1]? = some (.cells (fltV (0, 0)) 29 (0, 0)) := by rw [← hV]; (repeat (first | (with_reducible assumption) | (with_reducible exact Hid.out (by assumption)) | (with_reducible refine (hsk _ _ _ (by (first | omega | (simp only [World.size_alloc, World.size_setCell, size_setRow, World.size_drew]; done) | (simp only [World.size_alloc, World.size_setCell, size_setRow, World.size_drew]; omega)))).trans ?_) | (with_reducible refine (hat _ _ _ (by (first | omega | (simp only [World.size_alloc, World.size_setCell, size_setRow, World.size_drew]; done) | (simp only [World.size_alloc, World.size_setCell, size_setRow, World.size_drew]; omega))))) | (with_reducible refine Kep.block (Kep.alloc (Kep.refl _) _) ?_) | (with_reducible refine (heap_setCell_other _ _ _ _ (by (first | omega | (simp only []; omega) | (show _ ≠ _; omega)))).trans ?_) | (with_reducible refine (setRow_other _ _ _ _ (by (first | omega | (simp only []; omega) | (show _ ≠ _; omega)))).trans ?_) | (with_reducible refine (drew_heap _ _).trans ?_) | (with_reducible refine (drewN_heap _ _ _).trans ?_) | (with_reducible refine Kep.block (by assumption) ?_) | (with_reducible exact setRow_heap _ _ _ _ _ _ (by (repeat (first | (with_reducible assumption) | (with_reducible exact Hid.out (by assumption)) | (with_reducible refine (hsk _ _ _ (by (first | omega | (simp only [World.size_alloc, World.size_setCell, size_setRow, World.size_drew]; done) | (simp only [World.size_alloc, World.size_setCell, size_setRow, World.size_drew]; omega)))).trans ?_) | (with_reducible refine (hat _ _ _ (by (first | omega | (simp only [World.size_alloc, World.size_setCell, size_setRow, World.size_drew]; done) | (simp only [World.size_alloc, World.size_setCell, size_setRow, World.size_drew]; omega))))) | (with_reducible refine Kep.block (Kep.alloc (Kep.refl _) _) ?_) | (with_reducible refine (heap_setCell_other _ _ _ _ (by (first | omega | (simp only []; omega) | (show _ ≠ _; omega)))).trans ?_) | (with_reducible refine (setRow_other _ _ _ _ (by (first | omega | (simp only []; omega) | (show _ ≠ _; omega)))).trans ?_) | (with_reducible refine (drew_heap _ _).trans ?_) | (with_reducible refine (drewN_heap _ _ _).trans ?_)))))))
  have GV : Hid (Kep w V) := kep_trans G1.out (by rw [← hV]; (repeat (first | (with_reducible assumption) | (with_reducible exact Kep.refl _) | (with_reducible exact Hid.out (by assumption)) | (with_reducible refine Kep.alloc ?_ _) | (with_reducible refine Kep.drew ?_) | (with_reducible refine Kep.drewN ?_ _) | (with_reducible refine Kep.setRow ?_ _ _ (by (first | omega | (simp only [World.size_alloc, World.size_setCell, size_setRow, World.size_drew]; done) | (simp only [World.size_alloc, World.size_setCell, size_setRow, World.size_drew]; omega)))) | (with_reducible refine Kep.setCell ?_ (by first | omega | (simp only []; omega) | (show _ ≤ _; omega)) _))))
  have d1 := AV.reg 1 (by decide)
  have d8 := AV.pc
  rw [hr] at d1
  rw [hp] at d8
  have f0 : V.cell? ⟨w1.heap.size + 1, 0, none⟩ = some (.int .i64 0) := cell_of_block FV
  clear AV FV hV hW
  go_wp2_with fail
  go_ret
  exact ⟨rfl, GV.out⟩
set_option maxHeartbeats 4000000 in
set_option maxRecDepth 100000 in
theorem refMay0 (op a b imm : Int) (host : Bool) (hrow : rowOf op host = 0) (w : World) (h0 : 0 ≤ a) (h1 : 0 ≤ b) (h2 : -2147483648 ≤ imm) (h3 : imm ≤ 2147483647) :
    Calls Tryd.prog 19 #[.agg (insA op a b imm), .bool host] w fun e w' => e = .returned (.bool (mayB 0 a b imm)) ∧ Kep w w' := by
  have em : Hid (∀ a b imm, mayB 0 a b imm = (false && (((decide (a ≤ 0) && decide (b ≤ 0)) && decide (0 ≤ imm)) && decide (imm ≤ 0)))) := fun _ _ _ => rfl
  go_enter Tryd.func19, Tryd.ntmps19
  go_wp2_with fail
  refine (refOf_any op host _).mono ?_
  rintro e w1 ⟨rfl, g1⟩
  rw [hrow]
  have G1 : Hid (Kep w w1) := kep_trans ((Kep.refl _).alloc _) g1
  have d1 := g1.cell (o := 1) (b := w.heap.size) (by simp)
  have d2 := g1.cell (o := 2) (b := w.heap.size) (by simp)
  have d3 := g1.cell (o := 3) (b := w.heap.size) (by simp)
  simp at d1 d2 d3
  have z1 : w.heap.size < w1.heap.size := Nat.lt_of_lt_of_le (by simp) g1.size
  have er : rformA 0 = #[.int .i64 0, .bool false, .bool false, .int .i64 0, .bool false] := rfl
  rw [er]
  clear hrow g1 er
  go_wp2_with fail
  all_goals (try go_wp2_with fail)
  all_goals go_ret
  all_goals exact ⟨ret_bool (by rw [em.out]; clear em d1 d2 d3 z1 G1; first | (simp_all; done) | (simp_all <;> omega) | (simp_all; intros; omega) | (rw [Bool.eq_iff_iff]; simp_all <;> omega) | (rw [Bool.eq_iff_iff]; simp_all; constructor <;> intros <;> omega)), G1.alloc _⟩
set_option maxHeartbeats 4000000 in
set_option maxRecDepth 100000 in
theorem refMay1 (op a b imm : Int) (host : Bool) (hrow : rowOf op host = 1) (w : World) (h0 : 0 ≤ a) (h1 : 0 ≤ b) (h2 : -2147483648 ≤ imm) (h3 : imm ≤ 2147483647) :
    Calls Tryd.prog 19 #[.agg (insA op a b imm), .bool host] w fun e w' => e = .returned (.bool (mayB 1 a b imm)) ∧ Kep w w' := by
  have em : Hid (∀ a b imm, mayB 1 a b imm = (true && (((decide (a ≤ 0) && decide (b ≤ 0)) && decide (0 ≤ imm)) && decide (imm ≤ 0)))) := fun _ _ _ => rfl
  go_enter Tryd.func19, Tryd.ntmps19
  go_wp2_with fail
  refine (refOf_any op host _).mono ?_
  rintro e w1 ⟨rfl, g1⟩
  rw [hrow]
  have G1 : Hid (Kep w w1) := kep_trans ((Kep.refl _).alloc _) g1
  have d1 := g1.cell (o := 1) (b := w.heap.size) (by simp)
  have d2 := g1.cell (o := 2) (b := w.heap.size) (by simp)
  have d3 := g1.cell (o := 3) (b := w.heap.size) (by simp)
  simp at d1 d2 d3
  have z1 : w.heap.size < w1.heap.size := Nat.lt_of_lt_of_le (by simp) g1.size
  have er : rformA 1 = #[.int .i64 1, .bool false, .bool false, .int .i64 0, .bool false] := rfl
  rw [er]
  clear hrow g1 er
  go_wp2_with fail
  all_goals (try go_wp2_with fail)
  all_goals go_ret
  all_goals exact ⟨ret_bool (by rw [em.out]; clear em d1 d2 d3 z1 G1; first | (simp_all; done) | (simp_all <;> omega) | (simp_all; intros; omega) | (rw [Bool.eq_iff_iff]; simp_all <;> omega) | (rw [Bool.eq_iff_iff]; simp_all; constructor <;> intros <;> omega)), G1.alloc _⟩
set_option maxHeartbeats 4000000 in
set_option maxRecDepth 100000 in
theorem refMay2 (op a b imm : Int) (host : Bool) (hrow : rowOf op host = 2) (w : World) (h0 : 0 ≤ a) (h1 : 0 ≤ b) (h2 : -2147483648 ≤ imm) (h3 : imm ≤ 2147483647) :
    Calls Tryd.prog 19 #[.agg (insA op a b imm), .bool host] w fun e w' => e = .returned (.bool (mayB 2 a b imm)) ∧ Kep w w' := by
  have em : Hid (∀ a b imm, mayB 2 a b imm = (true && (((decide (a ≤ 7) && decide (b ≤ 0)) && decide (0 ≤ imm)) && decide (imm ≤ 0)))) := fun _ _ _ => rfl
  go_enter Tryd.func19, Tryd.ntmps19
  go_wp2_with fail
  refine (refOf_any op host _).mono ?_
  rintro e w1 ⟨rfl, g1⟩
  rw [hrow]
  have G1 : Hid (Kep w w1) := kep_trans ((Kep.refl _).alloc _) g1
  have d1 := g1.cell (o := 1) (b := w.heap.size) (by simp)
  have d2 := g1.cell (o := 2) (b := w.heap.size) (by simp)
  have d3 := g1.cell (o := 3) (b := w.heap.size) (by simp)
  simp at d1 d2 d3
  have z1 : w.heap.size < w1.heap.size := Nat.lt_of_lt_of_le (by simp) g1.size
  have er : rformA 2 = #[.int .i64 2, .bool true, .bool false, .int .i64 0, .bool false] := rfl
  rw [er]
  clear hrow g1 er
  go_wp2_with fail
  all_goals (try go_wp2_with fail)
  all_goals go_ret
  all_goals exact ⟨ret_bool (by rw [em.out]; clear em d1 d2 d3 z1 G1; first | (simp_all; done) | (simp_all <;> omega) | (simp_all; intros; omega) | (rw [Bool.eq_iff_iff]; simp_all <;> omega) | (rw [Bool.eq_iff_iff]; simp_all; constructor <;> intros <;> omega)), G1.alloc _⟩
set_option maxHeartbeats 4000000 in
set_option maxRecDepth 100000 in
theorem refMay3 (op a b imm : Int) (host : Bool) (hrow : rowOf op host = 3) (w : World) (h0 : 0 ≤ a) (h1 : 0 ≤ b) (h2 : -2147483648 ≤ imm) (h3 : imm ≤ 2147483647) :
    Calls Tryd.prog 19 #[.agg (insA op a b imm), .bool host] w fun e w' => e = .returned (.bool (mayB 3 a b imm)) ∧ Kep w w' := by
  have em : Hid (∀ a b imm, mayB 3 a b imm = (true && (((decide (a ≤ 7) && decide (b ≤ 7)) && decide (0 ≤ imm)) && decide (imm ≤ 0)))) := fun _ _ _ => rfl
  go_enter Tryd.func19, Tryd.ntmps19
  go_wp2_with fail
  refine (refOf_any op host _).mono ?_
  rintro e w1 ⟨rfl, g1⟩
  rw [hrow]
  have G1 : Hid (Kep w w1) := kep_trans ((Kep.refl _).alloc _) g1
  have d1 := g1.cell (o := 1) (b := w.heap.size) (by simp)
  have d2 := g1.cell (o := 2) (b := w.heap.size) (by simp)
  have d3 := g1.cell (o := 3) (b := w.heap.size) (by simp)
  simp at d1 d2 d3
  have z1 : w.heap.size < w1.heap.size := Nat.lt_of_lt_of_le (by simp) g1.size
  have er : rformA 3 = #[.int .i64 2, .bool true, .bool true, .int .i64 0, .bool false] := rfl
  rw [er]
  clear hrow g1 er
  go_wp2_with fail
  all_goals (try go_wp2_with fail)
  all_goals go_ret
  all_goals exact ⟨ret_bool (by rw [em.out]; clear em d1 d2 d3 z1 G1; first | (simp_all; done) | (simp_all <;> omega) | (simp_all; intros; omega) | (rw [Bool.eq_iff_iff]; simp_all <;> omega) | (rw [Bool.eq_iff_iff]; simp_all; constructor <;> intros <;> omega)), G1.alloc _⟩
set_option maxHeartbeats 4000000 in
set_option maxRecDepth 100000 in
theorem refMay4 (op a b imm : Int) (host : Bool) (hrow : rowOf op host = 4) (w : World) (h0 : 0 ≤ a) (h1 : 0 ≤ b) (h2 : -2147483648 ≤ imm) (h3 : imm ≤ 2147483647) :
    Calls Tryd.prog 19 #[.agg (insA op a b imm), .bool host] w fun e w' => e = .returned (.bool (mayB 4 a b imm)) ∧ Kep w w' := by
  have em : Hid (∀ a b imm, mayB 4 a b imm = (true && (((decide (a ≤ 0) && decide (b ≤ 0)) && decide (0 ≤ imm)) && decide (imm ≤ 255)))) := fun _ _ _ => rfl
  go_enter Tryd.func19, Tryd.ntmps19
  go_wp2_with fail
  refine (refOf_any op host _).mono ?_
  rintro e w1 ⟨rfl, g1⟩
  rw [hrow]
  have G1 : Hid (Kep w w1) := kep_trans ((Kep.refl _).alloc _) g1
  have d1 := g1.cell (o := 1) (b := w.heap.size) (by simp)
  have d2 := g1.cell (o := 2) (b := w.heap.size) (by simp)
  have d3 := g1.cell (o := 3) (b := w.heap.size) (by simp)
  simp at d1 d2 d3
  have z1 : w.heap.size < w1.heap.size := Nat.lt_of_lt_of_le (by simp) g1.size
  have er : rformA 4 = #[.int .i64 2, .bool false, .bool false, .int .i64 1, .bool false] := rfl
  rw [er]
  clear hrow g1 er
  go_wp2_with fail
  all_goals (try go_rounds 2)
  all_goals (try go_wp2_with fail)
  all_goals go_ret
  all_goals exact ⟨ret_bool (by rw [em.out]; clear em d1 d2 d3 z1 G1; first | (simp_all; done) | (simp_all <;> omega) | (simp_all; intros; omega) | (rw [Bool.eq_iff_iff]; simp_all <;> omega) | (rw [Bool.eq_iff_iff]; simp_all; constructor <;> intros <;> omega)), G1.alloc _⟩
set_option maxHeartbeats 4000000 in
set_option maxRecDepth 100000 in
theorem refMay5 (op a b imm : Int) (host : Bool) (hrow : rowOf op host = 5) (w : World) (h0 : 0 ≤ a) (h1 : 0 ≤ b) (h2 : -2147483648 ≤ imm) (h3 : imm ≤ 2147483647) :
    Calls Tryd.prog 19 #[.agg (insA op a b imm), .bool host] w fun e w' => e = .returned (.bool (mayB 5 a b imm)) ∧ Kep w w' := by
  have em : Hid (∀ a b imm, mayB 5 a b imm = (true && (((decide (a ≤ 7) && decide (b ≤ 0)) && decide (-128 ≤ imm)) && decide (imm ≤ 127)))) := fun _ _ _ => rfl
  go_enter Tryd.func19, Tryd.ntmps19
  go_wp2_with fail
  refine (refOf_any op host _).mono ?_
  rintro e w1 ⟨rfl, g1⟩
  rw [hrow]
  have G1 : Hid (Kep w w1) := kep_trans ((Kep.refl _).alloc _) g1
  have d1 := g1.cell (o := 1) (b := w.heap.size) (by simp)
  have d2 := g1.cell (o := 2) (b := w.heap.size) (by simp)
  have d3 := g1.cell (o := 3) (b := w.heap.size) (by simp)
  simp at d1 d2 d3
  have z1 : w.heap.size < w1.heap.size := Nat.lt_of_lt_of_le (by simp) g1.size
  have er : rformA 5 = #[.int .i64 3, .bool true, .bool false, .int .i64 1, .bool true] := rfl
  rw [er]
  clear hrow g1 er
  go_wp2_with fail
  all_goals (try go_rounds 2)
  all_goals (try go_wp2_with fail)
  all_goals go_ret
  all_goals exact ⟨ret_bool (by rw [em.out]; clear em d1 d2 d3 z1 G1; first | (simp_all; done) | (simp_all <;> omega) | (simp_all; intros; omega) | (rw [Bool.eq_iff_iff]; simp_all <;> omega) | (rw [Bool.eq_iff_iff]; simp_all; constructor <;> intros <;> omega)), G1.alloc _⟩
set_option maxHeartbeats 4000000 in
set_option maxRecDepth 100000 in
theorem refMay6 (op a b imm : Int) (host : Bool) (hrow : rowOf op host = 6) (w : World) (h0 : 0 ≤ a) (h1 : 0 ≤ b) (h2 : -2147483648 ≤ imm) (h3 : imm ≤ 2147483647) :
    Calls Tryd.prog 19 #[.agg (insA op a b imm), .bool host] w fun e w' => e = .returned (.bool (mayB 6 a b imm)) ∧ Kep w w' := by
  have em : Hid (∀ a b imm, mayB 6 a b imm = (true && (((decide (a ≤ 7) && decide (b ≤ 7)) && decide (-128 ≤ imm)) && decide (imm ≤ 127)))) := fun _ _ _ => rfl
  go_enter Tryd.func19, Tryd.ntmps19
  go_wp2_with fail
  refine (refOf_any op host _).mono ?_
  rintro e w1 ⟨rfl, g1⟩
  rw [hrow]
  have G1 : Hid (Kep w w1) := kep_trans ((Kep.refl _).alloc _) g1
  have d1 := g1.cell (o := 1) (b := w.heap.size) (by simp)
  have d2 := g1.cell (o := 2) (b := w.heap.size) (by simp)
  have d3 := g1.cell (o := 3) (b := w.heap.size) (by simp)
  simp at d1 d2 d3
  have z1 : w.heap.size < w1.heap.size := Nat.lt_of_lt_of_le (by simp) g1.size
  have er : rformA 6 = #[.int .i64 3, .bool true, .bool true, .int .i64 1, .bool true] := rfl
  rw [er]
  clear hrow g1 er
  go_wp2_with fail
  all_goals (try go_rounds 2)
  all_goals (try go_wp2_with fail)
  all_goals go_ret
  all_goals exact ⟨ret_bool (by rw [em.out]; clear em d1 d2 d3 z1 G1; first | (simp_all; done) | (simp_all <;> omega) | (simp_all; intros; omega) | (rw [Bool.eq_iff_iff]; simp_all <;> omega) | (rw [Bool.eq_iff_iff]; simp_all; constructor <;> intros <;> omega)), G1.alloc _⟩
set_option maxHeartbeats 4000000 in
set_option maxRecDepth 100000 in
theorem refMay7 (op a b imm : Int) (host : Bool) (hrow : rowOf op host = 7) (w : World) (h0 : 0 ≤ a) (h1 : 0 ≤ b) (h2 : -2147483648 ≤ imm) (h3 : imm ≤ 2147483647) :
    Calls Tryd.prog 19 #[.agg (insA op a b imm), .bool host] w fun e w' => e = .returned (.bool (mayB 7 a b imm)) ∧ Kep w w' := by
  have em : Hid (∀ a b imm, mayB 7 a b imm = (true && (((decide (a ≤ 0) && decide (b ≤ 0)) && decide (-32768 ≤ imm)) && decide (imm ≤ 32767)))) := fun _ _ _ => rfl
  go_enter Tryd.func19, Tryd.ntmps19
  go_wp2_with fail
  refine (refOf_any op host _).mono ?_
  rintro e w1 ⟨rfl, g1⟩
  rw [hrow]
  have G1 : Hid (Kep w w1) := kep_trans ((Kep.refl _).alloc _) g1
  have d1 := g1.cell (o := 1) (b := w.heap.size) (by simp)
  have d2 := g1.cell (o := 2) (b := w.heap.size) (by simp)
  have d3 := g1.cell (o := 3) (b := w.heap.size) (by simp)
  simp at d1 d2 d3
  have z1 : w.heap.size < w1.heap.size := Nat.lt_of_lt_of_le (by simp) g1.size
  have er : rformA 7 = #[.int .i64 3, .bool false, .bool false, .int .i64 2, .bool true] := rfl
  rw [er]
  clear hrow g1 er
  go_wp2_with fail
  all_goals (try go_rounds 3)
  all_goals (try go_wp2_with fail)
  all_goals go_ret
  all_goals exact ⟨ret_bool (by rw [em.out]; clear em d1 d2 d3 z1 G1; first | (simp_all; done) | (simp_all <;> omega) | (simp_all; intros; omega) | (rw [Bool.eq_iff_iff]; simp_all <;> omega) | (rw [Bool.eq_iff_iff]; simp_all; constructor <;> intros <;> omega)), G1.alloc _⟩
set_option maxHeartbeats 4000000 in
set_option maxRecDepth 100000 in
theorem refMay8 (op a b imm : Int) (host : Bool) (hrow : rowOf op host = 8) (w : World) (h0 : 0 ≤ a) (h1 : 0 ≤ b) (h2 : -2147483648 ≤ imm) (h3 : imm ≤ 2147483647) :
    Calls Tryd.prog 19 #[.agg (insA op a b imm), .bool host] w fun e w' => e = .returned (.bool (mayB 8 a b imm)) ∧ Kep w w' := by
  have em : Hid (∀ a b imm, mayB 8 a b imm = (true && (((decide (a ≤ 0) && decide (b ≤ 0)) && decide (0 ≤ imm)) && decide (imm ≤ 65535)))) := fun _ _ _ => rfl
  go_enter Tryd.func19, Tryd.ntmps19
  go_wp2_with fail
  refine (refOf_any op host _).mono ?_
  rintro e w1 ⟨rfl, g1⟩
  rw [hrow]
  have G1 : Hid (Kep w w1) := kep_trans ((Kep.refl _).alloc _) g1
  have d1 := g1.cell (o := 1) (b := w.heap.size) (by simp)
  have d2 := g1.cell (o := 2) (b := w.heap.size) (by simp)
  have d3 := g1.cell (o := 3) (b := w.heap.size) (by simp)
  simp at d1 d2 d3
  have z1 : w.heap.size < w1.heap.size := Nat.lt_of_lt_of_le (by simp) g1.size
  have er : rformA 8 = #[.int .i64 3, .bool false, .bool false, .int .i64 2, .bool false] := rfl
  rw [er]
  clear hrow g1 er
  go_wp2_with fail
  all_goals (try go_rounds 3)
  all_goals (try go_wp2_with fail)
  all_goals go_ret
  all_goals exact ⟨ret_bool (by rw [em.out]; clear em d1 d2 d3 z1 G1; first | (simp_all; done) | (simp_all <;> omega) | (simp_all; intros; omega) | (rw [Bool.eq_iff_iff]; simp_all <;> omega) | (rw [Bool.eq_iff_iff]; simp_all; constructor <;> intros <;> omega)), G1.alloc _⟩
set_option maxHeartbeats 4000000 in
set_option maxRecDepth 100000 in
theorem refMay9 (op a b imm : Int) (host : Bool) (hrow : rowOf op host = 9) (w : World) (h0 : 0 ≤ a) (h1 : 0 ≤ b) (h2 : -2147483648 ≤ imm) (h3 : imm ≤ 2147483647) :
    Calls Tryd.prog 19 #[.agg (insA op a b imm), .bool host] w fun e w' => e = .returned (.bool (mayB 9 a b imm)) ∧ Kep w w' := by
  have em : Hid (∀ a b imm, mayB 9 a b imm = (true && (((decide (a ≤ 7) && decide (b ≤ 0)) && decide (-2147483648 ≤ imm)) && decide (imm ≤ 2147483647)))) := fun _ _ _ => rfl
  go_enter Tryd.func19, Tryd.ntmps19
  go_wp2_with fail
  refine (refOf_any op host _).mono ?_
  rintro e w1 ⟨rfl, g1⟩
  rw [hrow]
  have G1 : Hid (Kep w w1) := kep_trans ((Kep.refl _).alloc _) g1
  have d1 := g1.cell (o := 1) (b := w.heap.size) (by simp)
  have d2 := g1.cell (o := 2) (b := w.heap.size) (by simp)
  have d3 := g1.cell (o := 3) (b := w.heap.size) (by simp)
  simp at d1 d2 d3
  have z1 : w.heap.size < w1.heap.size := Nat.lt_of_lt_of_le (by simp) g1.size
  have er : rformA 9 = #[.int .i64 6, .bool true, .bool false, .int .i64 4, .bool true] := rfl
  rw [er]
  clear hrow g1 er
  go_wp2_with fail
  all_goals (try go_rounds 5)
  all_goals (try go_wp2_with fail)
  all_goals go_ret
  all_goals exact ⟨ret_bool (by rw [em.out]; clear em d1 d2 d3 z1 G1; first | (simp_all; done) | (simp_all <;> omega) | (simp_all; intros; omega) | (rw [Bool.eq_iff_iff]; simp_all <;> omega) | (rw [Bool.eq_iff_iff]; simp_all; constructor <;> intros <;> omega)), G1.alloc _⟩
theorem refMay_any (op a b imm : Int) (host : Bool) (w : World) (h0 : 0 ≤ a) (h1 : 0 ≤ b) (h2 : -2147483648 ≤ imm) (h3 : imm ≤ 2147483647) :
    Calls Tryd.prog 19 #[.agg (insA op a b imm), .bool host] w fun e w' => e = .returned (.bool (mayB (rowOf op host) a b imm)) ∧ Kep w w' := by
  have hr := rowOf_lt op host
  generalize hrow : rowOf op host = r at hr
  rcases (by omega : r = 0 ∨ r = 1 ∨ r = 2 ∨ r = 3 ∨ r = 4 ∨ r = 5 ∨ r = 6 ∨ r = 7 ∨ r = 8 ∨ r = 9) with rfl | rfl | rfl | rfl | rfl | rfl | rfl | rfl | rfl | rfl
  · exact refMay0 op a b imm host hrow w h0 h1 h2 h3
  · exact refMay1 op a b imm host hrow w h0 h1 h2 h3
  · exact refMay2 op a b imm host hrow w h0 h1 h2 h3
  · exact refMay3 op a b imm host hrow w h0 h1 h2 h3
  · exact refMay4 op a b imm host hrow w h0 h1 h2 h3
  · exact refMay5 op a b imm host hrow w h0 h1 h2 h3
  · exact refMay6 op a b imm host hrow w h0 h1 h2 h3
  · exact refMay7 op a b imm host hrow w h0 h1 h2 h3
  · exact refMay8 op a b imm host hrow w h0 h1 h2 h3
  · exact refMay9 op a b imm host hrow w h0 h1 h2 h3
end Go.Proofs.YthimfiihebdchaaDoor
