/- Part of a proof. -/
import Derived.Deep.CutRange
import Derived.Test.YthimfiihebdchaaDoorJ19
import Derived.Test.YthimfiihebdchaaDoorJ20
import Derived.Test.YthimfiihebdchaaDoorJ21
import Derived.Test.YthimfiihebdchaaDoorJ22
import Derived.Test.YthimfiihebdchaaDoorJ23
import Derived.Test.YthimfiihebdchaaDoorJ24
import Derived.Test.YthimfiihebdchaaDoorJ25
import Derived.Test.YthimfiihebdchaaDoorJ26
import Derived.Test.YthimfiihebdchaaDoorJ27
import Derived.Test.YthimfiihebdchaaDoorJ28
import Derived.Test.YthimfiihebdchaaDoorJ29
import Derived.Test.YthimfiihebdchaaDoorJ30
import Derived.Test.YthimfiihebdchaaDoorJ31
namespace Go.Proofs.YthimfiihebdchaaDoor
open Go.RowKit
set_option linter.unusedVariables false
set_option linter.unusedSimpArgs false
set_option maxHeartbeats 4000000 in
set_option maxRecDepth 100000 in
theorem rdo_none_may (s : Sta) (op : Int) (a b : Nat) (imm v : Int) (w : World) (h0 : 0 ≤ op) (h1 : op < 256) (h2 : -2147483648 ≤ imm) (h3 : imm ≤ 2147483647) (hm : mayB (rowOf op false) a b imm = false) :
    Calls Tryd.prog 9 #[.agg s.v, .agg (insA op a b imm), .int .u32 v] w fun e w' => e = .returned (.tuple #[.agg s.v, .agg (fltV (1, s.pc))]) ∧ Kep w w' := by
  have MA : Hid (∀ w, Calls Tryd.prog 19 #[.agg (insA op a b imm), .bool false] w fun e w' => e = .returned (.bool false) ∧ Kep w w') := fun w => by
    have := refMay_any op a b imm false w (by omega) (by omega) h2 h3; rw [hm] at this; exact this
  clear hm h2 h3
  go_enter Tryd.func9, Tryd.ntmps9
  go_wp2_with fail
  refine (MA.out _).mono ?_
  rintro e w1 ⟨rfl, K1⟩
  have G1 : Hid (Kep w w1) := kep_trans kepA K1
  obtain ⟨B0, B1, B2, B3⟩ := five_blocks _ _ _ _ _ _ K1
  have z3 := block_lt B3
  obtain ⟨i0, i1, i2, i3⟩ := ins_at B1
  have H0 : Hid (At w1 w.heap.size s) := B0
  have H2 : Hid (w1.heap[w.heap.size + 1 + 1]? = some (.cells z19 25 (0, 0))) := B2
  have H3 : Hid (w1.heap[w.heap.size + 1 + 1 + 1]? = some (.cells #[.int .i64 0, .int .u32 0] 29 (0, 0))) := B3
  clear B0 B1 B2 B3 K1
  go_upto_region 2 with fail
  refine wp_region_held_drew (S := fun w' => At w' w.heap.size s) (by kernel_rfl) H0.out (fun hH => ?_)
  refine wpAnyH_take (i := 0) (v := .agg s.v) rfl (by kernel_rfl) (by kernel_rfl) (by kernel_rfl) (fun _ _ _ h => h) (yields_row rfl 25 _ rfl (w.heap.size) rfl 25 s.v (0, 0) _ (fun w h => h) Tryd.underlying25 rfl size_sta) hH ?_
  (try simp only [jA, jB, jC, Act.put, jD, jE, jF])
  refine wpAnyH_take (i := 1) (v := .pointer (some ⟨w.heap.size, 8, none⟩)) rfl (by kernel_rfl) (by kernel_rfl) (by kernel_rfl) (fun _ _ _ h => h) (Or.inl ⟨by rfl, by intro w' _; (first | kernel_rfl | (go_simp; done))⟩) hH ?_
  (try simp only [jA, jB, jC, Act.put, jD, jE, jF])
  refine wpAnyH_take (i := 2) (v := .int .u32 s.pc) rfl (by kernel_rfl) (by kernel_rfl) (by kernel_rfl) (fun _ _ _ h => h) (Or.inl ⟨by rfl, by intro w' hS; have c := At.pc hS; clear hS; go_simp⟩) hH ?_
  (try simp only [jA, jB, jC, Act.put, jD, jE, jF])
  refine wpAnyH_take (i := 3) (v := .agg (fltV (1, s.pc))) rfl (by kernel_rfl) (by kernel_rfl) (by kernel_rfl) (fun _ _ _ h => h) (Or.inl ⟨by rfl, by intro w' _; (first | kernel_rfl | (go_simp; done))⟩) hH ?_
  (try simp only [jA, jB, jC, Act.put, jD, jE, jF])
  refine wpAnyH_ready (rs := [4]) (by kernel_rfl) (by simp) ?_
  refine AllReadyH.cons rfl (fun K hK => ?_) AllReadyH.nil
  rw [if_pos (by rfl)]
  refine wp_store_row 25 _ _ rfl (w.heap.size + 1 + 1) s.v rfl rfl 25 z19 blkA size_sta rfl (v_one _) ?_
  refine hK.out _ _ (At.setRow hH (by omega) _) (fun hH => ?_)
  clear hK K
  (try simp only [jA, jB, jC, Act.put, jD, jE, jF])
  refine wpAnyH_ready (rs := [5]) (by kernel_rfl) (by simp) ?_
  refine AllReadyH.cons rfl (fun K hK => ?_) AllReadyH.nil
  rw [if_pos (by rfl)]
  refine wp_store_row 29 _ _ rfl (w.heap.size + 1 + 1 + 1) (fltV (1, s.pc)) rfl rfl 29 #[.int .i64 0, .int .u32 0] blkA size_flt rfl (by simp [Value.oneCell']) ?_
  refine hK.out _ _ (At.setRow hH (by omega) _) (fun hH => ?_)
  clear hK K
  (try simp only [jA, jB, jC, Act.put, jD, jE, jF])
  refine wpAnyH_done (by kernel_rfl) ?_ _
  go_wp2_with fail
  try simp only [Exit.inBlock, Exit.then]
  exact bodyPost_ret (resultsCC rfl _ _ (w.heap.size + 1 + 1) 25 _ (0, 0) _ (w.heap.size + 1 + 1 + 1) 29 _ (0, 0) _ (by rfl) blkA Tryd.underlying25 rfl (by exact size_sta) (by rfl) blkA Tryd.underlying29 rfl (by exact size_flt)) rfl ⟨by rfl, by (repeat (first | (with_reducible assumption) | (with_reducible exact Kep.refl _) | (with_reducible exact Hid.out (by assumption)) | (with_reducible refine Kep.alloc ?_ _) | (with_reducible refine Kep.drew ?_) | (with_reducible refine Kep.drewN ?_ _) | (with_reducible refine Kep.setRow ?_ _ _ (by (first | omega | (simp only [World.size_alloc, World.size_setCell, size_setRow, World.size_drew]; done) | (simp only [World.size_alloc, World.size_setCell, size_setRow, World.size_drew]; omega)))) | (with_reducible refine Kep.setCell ?_ (by first | omega | (simp only []; omega) | (show _ ≤ _; omega)) _)))⟩
set_option maxHeartbeats 4000000 in
set_option maxRecDepth 100000 in
theorem rdo_none_low (s : Sta) (op : Int) (a b : Nat) (imm v : Int) (w : World) (h0 : 0 ≤ op) (h1 : op < 256) (h2 : -2147483648 ≤ imm) (h3 : imm ≤ 2147483647) (hm : mayB (rowOf op false) a b imm = true) (hop : 1 ≤ op ∧ op ≤ 3) :
    Calls Tryd.prog 9 #[.agg s.v, .agg (insA op a b imm), .int .u32 v] w fun e w' => e = .returned (.tuple #[.agg s.v, .agg (fltV (1, s.pc))]) ∧ Kep w w' := by
  have MA : Hid (∀ w, Calls Tryd.prog 19 #[.agg (insA op a b imm), .bool false] w fun e w' => e = .returned (.bool true) ∧ Kep w w') := fun w => by
    have := refMay_any op a b imm false w (by omega) (by omega) h2 h3; rw [hm] at this; exact this
  have t1 : decide (op ≥ 1) = true := by simp; omega
  have t2 : decide (op ≤ 3) = true := by simp; omega
  clear hm h2 h3
  go_enter Tryd.func9, Tryd.ntmps9
  go_wp2_with fail
  refine (MA.out _).mono ?_
  rintro e w1 ⟨rfl, K1⟩
  have G1 : Hid (Kep w w1) := kep_trans kepA K1
  obtain ⟨B0, B1, B2, B3⟩ := five_blocks _ _ _ _ _ _ K1
  have z3 := block_lt B3
  obtain ⟨i0, i1, i2, i3⟩ := ins_at B1
  have H0 : Hid (At w1 w.heap.size s) := B0
  have H2 : Hid (w1.heap[w.heap.size + 1 + 1]? = some (.cells z19 25 (0, 0))) := B2
  have H3 : Hid (w1.heap[w.heap.size + 1 + 1 + 1]? = some (.cells #[.int .i64 0, .int .u32 0] 29 (0, 0))) := B3
  clear B0 B1 B2 B3 K1
  go_upto_region 2 with fail
  refine wp_region_held_drew (S := fun w' => At w' w.heap.size s) (by kernel_rfl) H0.out (fun hH => ?_)
  refine wpAnyH_take (i := 0) (v := .agg s.v) rfl (by kernel_rfl) (by kernel_rfl) (by kernel_rfl) (fun _ _ _ h => h) (yields_row rfl 25 _ rfl (w.heap.size) rfl 25 s.v (0, 0) _ (fun w h => h) Tryd.underlying25 rfl size_sta) hH ?_
  (try simp only [jA, jB, jC, Act.put, jD, jE, jF])
  refine wpAnyH_take (i := 1) (v := .pointer (some ⟨w.heap.size, 8, none⟩)) rfl (by kernel_rfl) (by kernel_rfl) (by kernel_rfl) (fun _ _ _ h => h) (Or.inl ⟨by rfl, by intro w' _; (first | kernel_rfl | (go_simp; done))⟩) hH ?_
  (try simp only [jA, jB, jC, Act.put, jD, jE, jF])
  refine wpAnyH_take (i := 2) (v := .int .u32 s.pc) rfl (by kernel_rfl) (by kernel_rfl) (by kernel_rfl) (fun _ _ _ h => h) (Or.inl ⟨by rfl, by intro w' hS; have c := At.pc hS; clear hS; go_simp⟩) hH ?_
  (try simp only [jA, jB, jC, Act.put, jD, jE, jF])
  refine wpAnyH_take (i := 3) (v := .agg (fltV (1, s.pc))) rfl (by kernel_rfl) (by kernel_rfl) (by kernel_rfl) (fun _ _ _ h => h) (Or.inl ⟨by rfl, by intro w' _; (first | kernel_rfl | (go_simp; done))⟩) hH ?_
  (try simp only [jA, jB, jC, Act.put, jD, jE, jF])
  refine wpAnyH_ready (rs := [4]) (by kernel_rfl) (by simp) ?_
  refine AllReadyH.cons rfl (fun K hK => ?_) AllReadyH.nil
  rw [if_pos (by rfl)]
  refine wp_store_row 25 _ _ rfl (w.heap.size + 1 + 1) s.v rfl rfl 25 z19 blkA size_sta rfl (v_one _) ?_
  refine hK.out _ _ (At.setRow hH (by omega) _) (fun hH => ?_)
  clear hK K
  (try simp only [jA, jB, jC, Act.put, jD, jE, jF])
  refine wpAnyH_ready (rs := [5]) (by kernel_rfl) (by simp) ?_
  refine AllReadyH.cons rfl (fun K hK => ?_) AllReadyH.nil
  rw [if_pos (by rfl)]
  refine wp_store_row 29 _ _ rfl (w.heap.size + 1 + 1 + 1) (fltV (1, s.pc)) rfl rfl 29 #[.int .i64 0, .int .u32 0] blkA size_flt rfl (by simp [Value.oneCell']) ?_
  refine hK.out _ _ (At.setRow hH (by omega) _) (fun hH => ?_)
  clear hK K
  (try simp only [jA, jB, jC, Act.put, jD, jE, jF])
  refine wpAnyH_done (by kernel_rfl) ?_ _
  go_wp2_with fail
  try simp only [Exit.inBlock, Exit.then]
  exact bodyPost_ret (resultsCC rfl _ _ (w.heap.size + 1 + 1) 25 _ (0, 0) _ (w.heap.size + 1 + 1 + 1) 29 _ (0, 0) _ (by rfl) blkA Tryd.underlying25 rfl (by exact size_sta) (by rfl) blkA Tryd.underlying29 rfl (by exact size_flt)) rfl ⟨by rfl, by (repeat (first | (with_reducible assumption) | (with_reducible exact Kep.refl _) | (with_reducible exact Hid.out (by assumption)) | (with_reducible refine Kep.alloc ?_ _) | (with_reducible refine Kep.drew ?_) | (with_reducible refine Kep.drewN ?_ _) | (with_reducible refine Kep.setRow ?_ _ _ (by (first | omega | (simp only [World.size_alloc, World.size_setCell, size_setRow, World.size_drew]; done) | (simp only [World.size_alloc, World.size_setCell, size_setRow, World.size_drew]; omega)))) | (with_reducible refine Kep.setCell ?_ (by first | omega | (simp only []; omega) | (show _ ≤ _; omega)) _)))⟩
set_option maxHeartbeats 4000000 in
set_option maxRecDepth 100000 in
theorem rdo_none_high (s : Sta) (op : Int) (a b : Nat) (imm v : Int) (w : World) (h0 : 0 ≤ op) (h1 : op < 256) (h2 : -2147483648 ≤ imm) (h3 : imm ≤ 2147483647) (hm : mayB (rowOf op false) a b imm = true) (hop : 96 ≤ op) :
    Calls Tryd.prog 9 #[.agg s.v, .agg (insA op a b imm), .int .u32 v] w fun e w' => e = .returned (.tuple #[.agg s.v, .agg (fltV (1, s.pc))]) ∧ Kep w w' := by
  have MA : Hid (∀ w, Calls Tryd.prog 19 #[.agg (insA op a b imm), .bool false] w fun e w' => e = .returned (.bool true) ∧ Kep w w') := fun w => by
    have := refMay_any op a b imm false w (by omega) (by omega) h2 h3; rw [hm] at this; exact this
  have t1 : decide (op ≥ 1) = true := by simp; omega
  have t2 : decide (op ≤ 3) = false := by simp; omega
  have t3 : decide (op ≥ 96) = true := by simp; omega
  clear hm h2 h3
  go_enter Tryd.func9, Tryd.ntmps9
  go_wp2_with fail
  refine (MA.out _).mono ?_
  rintro e w1 ⟨rfl, K1⟩
  have G1 : Hid (Kep w w1) := kep_trans kepA K1
  obtain ⟨B0, B1, B2, B3⟩ := five_blocks _ _ _ _ _ _ K1
  have z3 := block_lt B3
  obtain ⟨i0, i1, i2, i3⟩ := ins_at B1
  have H0 : Hid (At w1 w.heap.size s) := B0
  have H2 : Hid (w1.heap[w.heap.size + 1 + 1]? = some (.cells z19 25 (0, 0))) := B2
  have H3 : Hid (w1.heap[w.heap.size + 1 + 1 + 1]? = some (.cells #[.int .i64 0, .int .u32 0] 29 (0, 0))) := B3
  clear B0 B1 B2 B3 K1
  go_upto_region 2 with fail
  refine wp_region_held_drew (S := fun w' => At w' w.heap.size s) (by kernel_rfl) H0.out (fun hH => ?_)
  refine wpAnyH_take (i := 0) (v := .agg s.v) rfl (by kernel_rfl) (by kernel_rfl) (by kernel_rfl) (fun _ _ _ h => h) (yields_row rfl 25 _ rfl (w.heap.size) rfl 25 s.v (0, 0) _ (fun w h => h) Tryd.underlying25 rfl size_sta) hH ?_
  (try simp only [jA, jB, jC, Act.put, jD, jE, jF])
  refine wpAnyH_take (i := 1) (v := .pointer (some ⟨w.heap.size, 8, none⟩)) rfl (by kernel_rfl) (by kernel_rfl) (by kernel_rfl) (fun _ _ _ h => h) (Or.inl ⟨by rfl, by intro w' _; (first | kernel_rfl | (go_simp; done))⟩) hH ?_
  (try simp only [jA, jB, jC, Act.put, jD, jE, jF])
  refine wpAnyH_take (i := 2) (v := .int .u32 s.pc) rfl (by kernel_rfl) (by kernel_rfl) (by kernel_rfl) (fun _ _ _ h => h) (Or.inl ⟨by rfl, by intro w' hS; have c := At.pc hS; clear hS; go_simp⟩) hH ?_
  (try simp only [jA, jB, jC, Act.put, jD, jE, jF])
  refine wpAnyH_take (i := 3) (v := .agg (fltV (1, s.pc))) rfl (by kernel_rfl) (by kernel_rfl) (by kernel_rfl) (fun _ _ _ h => h) (Or.inl ⟨by rfl, by intro w' _; (first | kernel_rfl | (go_simp; done))⟩) hH ?_
  (try simp only [jA, jB, jC, Act.put, jD, jE, jF])
  refine wpAnyH_ready (rs := [4]) (by kernel_rfl) (by simp) ?_
  refine AllReadyH.cons rfl (fun K hK => ?_) AllReadyH.nil
  rw [if_pos (by rfl)]
  refine wp_store_row 25 _ _ rfl (w.heap.size + 1 + 1) s.v rfl rfl 25 z19 blkA size_sta rfl (v_one _) ?_
  refine hK.out _ _ (At.setRow hH (by omega) _) (fun hH => ?_)
  clear hK K
  (try simp only [jA, jB, jC, Act.put, jD, jE, jF])
  refine wpAnyH_ready (rs := [5]) (by kernel_rfl) (by simp) ?_
  refine AllReadyH.cons rfl (fun K hK => ?_) AllReadyH.nil
  rw [if_pos (by rfl)]
  refine wp_store_row 29 _ _ rfl (w.heap.size + 1 + 1 + 1) (fltV (1, s.pc)) rfl rfl 29 #[.int .i64 0, .int .u32 0] blkA size_flt rfl (by simp [Value.oneCell']) ?_
  refine hK.out _ _ (At.setRow hH (by omega) _) (fun hH => ?_)
  clear hK K
  (try simp only [jA, jB, jC, Act.put, jD, jE, jF])
  refine wpAnyH_done (by kernel_rfl) ?_ _
  go_wp2_with fail
  try simp only [Exit.inBlock, Exit.then]
  exact bodyPost_ret (resultsCC rfl _ _ (w.heap.size + 1 + 1) 25 _ (0, 0) _ (w.heap.size + 1 + 1 + 1) 29 _ (0, 0) _ (by rfl) blkA Tryd.underlying25 rfl (by exact size_sta) (by rfl) blkA Tryd.underlying29 rfl (by exact size_flt)) rfl ⟨by rfl, by (repeat (first | (with_reducible assumption) | (with_reducible exact Kep.refl _) | (with_reducible exact Hid.out (by assumption)) | (with_reducible refine Kep.alloc ?_ _) | (with_reducible refine Kep.drew ?_) | (with_reducible refine Kep.drewN ?_ _) | (with_reducible refine Kep.setRow ?_ _ _ (by (first | omega | (simp only [World.size_alloc, World.size_setCell, size_setRow, World.size_drew]; done) | (simp only [World.size_alloc, World.size_setCell, size_setRow, World.size_drew]; omega)))) | (with_reducible refine Kep.setCell ?_ (by first | omega | (simp only []; omega) | (show _ ≤ _; omega)) _)))⟩
theorem none_ops (op : Int) (a b imm : Int) (h0 : 0 ≤ op) (hm : mayB (rowOf op false) a b imm = true) (hc : cls op = 0) : (1 ≤ op ∧ op ≤ 3) ∨ 96 ≤ op := by
  have hr : rowOf op false ≠ 0 := by
    unfold mayB at hm
    simp only [Bool.and_eq_true, bne_iff_ne] at hm
    exact hm.1
  unfold cls at hc
  unfold rowOf at hr
  clear hm
  simp only [Bool.false_eq_true, and_false, or_false] at hr
  repeat' split at hc
  all_goals first | (exact absurd hc (by decide)) | skip
  repeat' split at hr
  all_goals first | omega | (exact absurd rfl hr) | (exfalso; assumption)
theorem rdo_any (s : Sta) (op : Int) (a b : Nat) (imm v : Int) (w : World) (ok : s.Ok) (h0 : 0 ≤ op) (h1 : op < 256) (h2 : -2147483648 ≤ imm) (h3 : imm ≤ 2147483647) (hv : 0 ≤ v ∧ v < 4294967296) :
    Calls Tryd.prog 9 #[.agg s.v, .agg (insA op a b imm), .int .u32 v] w fun e w' => e = .returned (.tuple #[.agg (doS s op a b imm v).v, .agg (fltV (doF s op a b imm))]) ∧ Kep w w' := by
  cases hm : mayB (rowOf op false) a b imm with
  | false =>
    have e : isIns op a b imm = false := by unfold isIns; rw [hm]; rfl
    have eF : doF s op a b imm = (1, s.pc) := by unfold doF; rw [e]; rfl
    have eS : doS s op a b imm v = s := by unfold doS; rw [eF]; exact if_neg (show ¬ (1 : Int) = 0 by decide)
    rw [eF, eS]
    exact rdo_none_may s op a b imm v w h0 h1 h2 h3 hm
  | true =>
    obtain ⟨ha, hb⟩ := may_reg op false a b imm hm
    have ha : (a : Int) < 8 := by omega
    have hb : (b : Int) < 8 := by omega
    by_cases hc0 : cls op = 0
    · have e : isIns op a b imm = false := by unfold isIns; rw [hm, hc0]; rfl
      have eF : doF s op a b imm = (1, s.pc) := by unfold doF; rw [e]; rfl
      have eS : doS s op a b imm v = s := by unfold doS; rw [eF]; exact if_neg (show ¬ (1 : Int) = 0 by decide)
      rw [eF, eS]
      rcases none_ops op a b imm h0 hm hc0 with hq | hq
      · exact rdo_none_low s op a b imm v w h0 h1 h2 h3 hm hq
      · exact rdo_none_high s op a b imm v w h0 h1 h2 h3 hm hq
    · have e : isIns op a b imm = true := by unfold isIns; rw [hm]; simp [hc0]
      have eF : doF s op a b imm = workF (nextS s op) op a b imm := by unfold doF; rw [e]; rfl
      have S0 : (workF (nextS s op) op a b imm).1 = 0 → doS s op a b imm v = workS (nextS s op) op a b imm v := fun h => by unfold doS; rw [eF, if_pos h]
      have S1 : (workF (nextS s op) op a b imm).1 ≠ 0 → doS s op a b imm v = s := fun h => by unfold doS; rw [eF, if_neg h]
      have Hz := workF_zero (nextS s op) op a b imm
      rw [eF]
      rcases cls_cases op hc0 with rfl | hc | hc | hc | rfl
      · have eW : workF (nextS s 0) 0 a b imm = (0, 0) := by unfold workF; rfl
        rw [S0 (by rw [eW]), eW, workS_nop]
        exact rdo_0 s a b imm v w ok ha hb h2 h3 hv hm
      · have ec : cls op = 2 := by unfold cls; rw [if_neg (show ¬ op = 0 by omega), if_pos hc]
        have eW : workF (nextS s op) op a b imm = if aluIs op (secN (nextS s op) op b imm) then (0, 0) else (3, 0) := by unfold workF; rw [ec]; rfl
        have eR := workS_alu (nextS s op) op a b imm v hc
        by_cases q16 : op = 16
        · subst q16
          have eI : workF (nextS s 16) 16 a b imm = (0, 0) := by rw [eW]; rfl
          rw [S0 (by rw [eI]), eI, eR]
          exact rdo_16 s a b imm v w ok ha hb h2 h3 hv hm
        by_cases q32 : op = 32
        · subst q32
          have eI : workF (nextS s 32) 32 a b imm = (0, 0) := by rw [eW]; rfl
          rw [S0 (by rw [eI]), eI, eR]
          exact rdo_32 s a b imm v w ok ha hb h2 h3 hv hm
        by_cases q33 : op = 33
        · subst q33
          have eI : workF (nextS s 33) 33 a b imm = (0, 0) := by rw [eW]; rfl
          rw [S0 (by rw [eI]), eI, eR]
          exact rdo_33 s a b imm v w ok ha hb h2 h3 hv hm
        have hop : 17 ≤ op ∧ op ≤ 31 := by omega
        have hs : secN (nextS s op) op b imm = s.r b := by unfold secN; exact if_neg (by omega)
        cases hi : aluIs op (s.r b) with
        | false =>
          have eI : workF (nextS s op) op a b imm = (3, 0) := by rw [eW, hs, hi]; rfl
          rw [S1 (by rw [eI]; decide), eI]
          have hq : (op = 25 ∨ op = 30) ∧ s.r b = 0 := by
            unfold aluIs at hi
            have hi' : (¬ op = 25 → op = 30) ∧ s.r b = 0 := by simpa using hi
            exact ⟨(Decidable.em (op = 25)).elim Or.inl (fun h => Or.inr (hi'.1 h)), hi'.2⟩
          exact rdo_alu_no s op a b imm v w ok ha hb h2 h3 hv hm hop hq.1 hq.2
        | true =>
          have eI : workF (nextS s op) op a b imm = (0, 0) := by rw [eW, hs, hi]; rfl
          rw [S0 (by rw [eI]), eI, eR]
          by_cases q26 : op = 26
          · subst q26
            exact rdo_alu_26 s a b imm v w ok ha hb h2 h3 hv hm
          by_cases q31 : op = 31
          · subst q31
            exact rdo_alu_31 s a b imm v w ok ha hb h2 h3 hv hm
          have hk : keepsB op = true := by unfold keepsB; simp [q26, q31]
          have ht : turnsB op = true := by unfold turnsB; simp [q16, q32]
          unfold reckS
          rw [hk, ht, hs]
          exact rdo_alu_put s op a b imm v w ok ha hb h2 h3 hv hm hop hi (by simp [q26]) (by simp [q31])
      · have ec : cls op = 3 := by unfold cls; rw [if_neg (by omega), if_neg (by omega), if_pos hc]
        have eW : workF (nextS s op) op a b imm = wantF s op a b imm := by unfold workF; rw [ec]; rfl
        by_cases hz : (wantF s op a b imm).1 = 0
        · have hq : wantF s op a b imm = (0, 0) := Prod.ext hz (by rw [← eW]; exact Hz (by rw [eW]; exact hz))
          rw [S0 (by rw [eW]; exact hz), eW, hq, workS_mem (nextS s op) op a b imm v hc]
          exact rdo_mem_ok s op a b imm v w ok ha hb h2 h3 hv hm hc hq
        · rw [S1 (by rw [eW]; exact hz), eW]
          exact rdo_mem_no s op a b imm v w ok ha hb h2 h3 hv hm hc (by simpa using hz)
      · have ec : cls op = 4 := by unfold cls; rw [if_neg (by omega), if_neg (by omega), if_neg (by omega), if_pos hc]
        have eW : workF (nextS s op) op a b imm = (0, 0) := by unfold workF; rw [ec]; rfl
        rw [S0 (by rw [eW]), eW, workS_jmp (nextS s op) op a b imm v hc]
        by_cases q72 : op = 72
        · subst q72
          exact rdo_72 s a b imm v w ok ha hb h2 h3 hv hm
        by_cases q73 : op = 73
        · subst q73
          exact rdo_73 s a b imm v w ok ha hb h2 h3 hv hm
        by_cases q74 : op = 74
        · subst q74
          exact rdo_74 s a b imm v w ok ha hb h2 h3 hv hm
        have hop : 64 ≤ op ∧ op ≤ 71 := by omega
        have eg : jgoes op (nextS s op).ps = holdsB (op - 64) s.ps := by
          unfold jgoes; rw [if_neg (by omega), if_neg (by omega)]; rfl
        have et : jto (nextS s op) op a imm = ((nextS s op).pc + imm % 4294967296) % 4294967296 := by
          unfold jto; rw [if_neg (by omega)]
        unfold jmpS
        rw [eg]
        cases hh : holdsB (op - 64) s.ps with
        | true =>
          rw [if_pos rfl]
          unfold linkS
          rw [if_neg (by omega), et]
          exact rdo_jcc_true s op a b imm v w ok ha hb h2 h3 hv hm hop hh
        | false =>
          rw [if_neg (by decide)]
          exact rdo_jcc_false s op a b imm v w ok ha hb h2 h3 hv hm hop hh
      · have eW : workF (nextS s 80) 80 a b imm = (8, imm % 4294967296) := by unfold workF; rfl
        rw [S1 (by rw [eW]; show ¬ (8 : Int) = 0; decide), eW]
        exact rdo_80 s a b imm v w ok ha hb h2 h3 hv hm
end Go.Proofs.YthimfiihebdchaaDoor
