/- Part of a proof. -/
import Derived.Test.YthimfiihebdchaaDoorJ13
namespace Go.Proofs.YthimfiihebdchaaDoor
open Go.RowKit
set_option linter.unusedVariables false
set_option linter.unusedSimpArgs false
set_option maxHeartbeats 16000000 in
set_option maxRecDepth 100000 in
theorem rwant_c_4_2 (s : Sta) (op : Int) (a b : Nat) (imm : Int) (w : World) (ok : s.Ok) (m : 48 ≤ op ∧ op ≤ 58) (ha : (a : Int) < 8) (hb : (b : Int) < 8) (h2 : -2147483648 ≤ imm) (h3 : imm ≤ 2147483647)
    (n1 : op ≠ 56) (n2 : op ≠ 57) (hm : mayB (rowOf op false) a b imm = true) (ek : rK op = 2) (en : rN op = 4) :
    Calls Tryd.prog 24 #[.agg s.v, .agg (insA op a b imm)] w fun e w' => e = .returned (.tuple #[.agg (accV (wantA s op a b imm)), .agg (fltV (wantF s op a b imm))]) ∧ Kep w w' := by
  have RB : Hid (∀ w, Calls Tryd.prog 52 #[.int .u8 op] w fun e w' => e = .returned (.int .i64 4) ∧ w' = w) := fun w => by
    have := refBytes_any op w m; rw [en] at this; exact this
  have RR : Hid (∀ w, Calls Tryd.prog 53 #[.int .u8 op] w fun e w' => e = .returned (.bool ((2 : Int) == 2)) ∧ w' = w) := fun w => by
    have := refReads_any op w m; rw [ek] at this; exact this
  have MA : Hid (∀ w, Calls Tryd.prog 19 #[.agg (insA op a b imm), .bool false] w fun e w' => e = .returned (.bool true) ∧ Kep w w') := fun w => by
    have := refMay_any op a b imm false w (by omega) (by omega) h2 h3; rw [hm] at this; exact this
  have hon : wantOn op a b imm = true := by unfold wantOn; rw [hm, en]; rfl
  have hA : Hid (adr s op b imm % 4 = 0 → wantA s op a b imm = (2, adr s op b imm, 4, if (2 : Int) = 3 then lowI (s.r a) 4 else 0) ∧ wantF s op a b imm = (0, 0)) := fun h => by
    unfold wantA wantF; rw [hon, ek, en]; exact ⟨if_pos ⟨rfl, h⟩, if_neg (fun q => q.2 h)⟩
  have hB : Hid (adr s op b imm % 4 ≠ 0 → wantA s op a b imm = (0, 0, 0, 0) ∧ wantF s op a b imm = (4, adr s op b imm)) := fun h => by
    unfold wantA wantF; rw [hon, en]; exact ⟨if_neg (fun q => h q.2), if_pos ⟨rfl, h⟩⟩
  have hr : 0 ≤ adr s op b imm ∧ adr s op b imm < 4294967296 := by
    have := ok.r 7
    unfold adr
    by_cases q1 : op = 56
    · rw [if_pos q1]; omega
    · rw [if_neg q1]
      by_cases q2 : op = 57
      · rw [if_pos q2]; omega
      · rw [if_neg q2]; omega
  have hd : Hid ((op = 56 → adr s op b imm = (s.r 7 - 4) % 4294967296) ∧ (op = 57 → adr s op b imm = s.r 7) ∧ (op ≠ 56 → op ≠ 57 → adr s op b imm = (s.r b + imm % 4294967296) % 4294967296)) := by
    refine ⟨fun h => ?_, fun h => ?_, fun h h' => ?_⟩
    · unfold adr; rw [if_pos h]
    · unfold adr; rw [if_neg (by omega), if_pos h]
    · unfold adr; rw [if_neg h, if_neg h']
  generalize adr s op b imm = at_ at *
  generalize wantA s op a b imm = qa at *
  generalize wantF s op a b imm = qf at *
  have ra := ok.r a
  have rb := ok.r b
  have r7 := ok.r 7
  have l1 : decide (op < 48) = false := by simp; omega
  have l2 : decide (op > 58) = false := by simp; omega
  clear hm ek en hon ok
  go_enter Tryd.func24, Tryd.ntmps24
  go_wp2_with fail
  refine (MA.out _).mono ?_
  rintro e w1 ⟨rfl, g1⟩
  have G1 : Hid (Kep w w1) := kep_trans (((((Kep.refl _).alloc _).alloc _).alloc _).alloc _) g1
  obtain ⟨B0, B1, B2, B3⟩ := four_blocks w _ _ _ _
  replace B0 := g1.block B0
  replace B1 := g1.block B1
  have Z2 : Hid (w1.heap[w.heap.size + 1 + 1]? = _) := g1.block B2
  have Z3 : Hid (w1.heap[w.heap.size + 1 + 1 + 1]? = _) := g1.block B3
  have z3 := block_lt Z3.out
  obtain ⟨i0, i1, i2, i3⟩ := ins_at B1
  have ca := At.reg (s := s) B0 a (by omega)
  have cb := At.reg (s := s) B0 b (by omega)
  have c7 := At.reg (s := s) B0 7 (by omega)
  clear g1 B0 B1 B2 B3
  go_wp2_with fail
  go_quiet (fail)
  have he := (hd.out.2.2 n1 n2).symm
  have x1 := ne_lit n1
  have x2 := ne_lit n2
  clear hd l1 l2
  go_wp2_with (first
    | (go_at_call 52; refine (RB.out _).mono ?_; rintro e w' ⟨rfl, rfl⟩)
    | (go_at_call 53; refine (RR.out _).mono ?_; rintro e w' ⟨rfl, rfl⟩)
    | (go_at_call 54; refine (refLow_any _ _ _ (by omega) (by omega) (by simp)).mono ?_; rintro e w' ⟨rfl, rfl⟩)
    | (refine wpList_store_row (by rfl) 57 (.tmp 4) _ (by rfl) (w.heap.size + 1 + 1) _ (by rfl) (by rfl) 57 #[.int .i64 0, .int .u32 0, .int .i64 0, .int .u32 0] blkA (by exact size_acc) (by rfl) (by simp [Value.oneCell']) ?_)
    | (refine wpList_store_row (by rfl) 29 (.tmp 5) _ (by rfl) (w.heap.size + 1 + 1 + 1) _ (by rfl) (by rfl) 29 #[.int .i64 0, .int .u32 0] blkA (by exact size_flt) (by rfl) (by simp [Value.oneCell']) ?_))
  all_goals
    try simp only [Exit.inBlock, Exit.then]
    refine bodyPost_ret (resultsCC rfl _ _ (w.heap.size + 1 + 1) 57 _ (0, 0) _ (w.heap.size + 1 + 1 + 1) 29 _ (0, 0) _ (by rfl) blkA Tryd.underlying57 rfl (by exact size_acc) (by rfl) blkA Tryd.underlying29 rfl (by exact size_flt)) rfl ⟨?_, by (repeat (first | (with_reducible assumption) | (with_reducible exact Kep.refl _) | (with_reducible exact Hid.out (by assumption)) | (with_reducible refine Kep.alloc ?_ _) | (with_reducible refine Kep.drew ?_) | (with_reducible refine Kep.drewN ?_ _) | (with_reducible refine Kep.setRow ?_ _ _ (by (first | omega | (simp only [World.size_alloc, World.size_setCell, size_setRow, World.size_drew]; done) | (simp only [World.size_alloc, World.size_setCell, size_setRow, World.size_drew]; omega)))) | (with_reducible refine Kep.setCell ?_ (by first | omega | (simp only []; omega) | (show _ ≤ _; omega)) _)))⟩
    first
      | (obtain ⟨rfl, rfl⟩ := hA.out (by first | omega | (simp_all; done) | (simp_all; omega)); rfl)
      | (obtain ⟨rfl, rfl⟩ := hB.out (by first | omega | (simp_all; done) | (simp_all; omega)); rfl)
set_option maxHeartbeats 16000000 in
set_option maxRecDepth 100000 in
theorem rwant_c_4_3 (s : Sta) (op : Int) (a b : Nat) (imm : Int) (w : World) (ok : s.Ok) (m : 48 ≤ op ∧ op ≤ 58) (ha : (a : Int) < 8) (hb : (b : Int) < 8) (h2 : -2147483648 ≤ imm) (h3 : imm ≤ 2147483647)
    (n1 : op ≠ 56) (n2 : op ≠ 57) (hm : mayB (rowOf op false) a b imm = true) (ek : rK op = 3) (en : rN op = 4) :
    Calls Tryd.prog 24 #[.agg s.v, .agg (insA op a b imm)] w fun e w' => e = .returned (.tuple #[.agg (accV (wantA s op a b imm)), .agg (fltV (wantF s op a b imm))]) ∧ Kep w w' := by
  have RB : Hid (∀ w, Calls Tryd.prog 52 #[.int .u8 op] w fun e w' => e = .returned (.int .i64 4) ∧ w' = w) := fun w => by
    have := refBytes_any op w m; rw [en] at this; exact this
  have RR : Hid (∀ w, Calls Tryd.prog 53 #[.int .u8 op] w fun e w' => e = .returned (.bool ((3 : Int) == 2)) ∧ w' = w) := fun w => by
    have := refReads_any op w m; rw [ek] at this; exact this
  have MA : Hid (∀ w, Calls Tryd.prog 19 #[.agg (insA op a b imm), .bool false] w fun e w' => e = .returned (.bool true) ∧ Kep w w') := fun w => by
    have := refMay_any op a b imm false w (by omega) (by omega) h2 h3; rw [hm] at this; exact this
  have hon : wantOn op a b imm = true := by unfold wantOn; rw [hm, en]; rfl
  have hA : Hid (adr s op b imm % 4 = 0 → wantA s op a b imm = (3, adr s op b imm, 4, if (3 : Int) = 3 then lowI (s.r a) 4 else 0) ∧ wantF s op a b imm = (0, 0)) := fun h => by
    unfold wantA wantF; rw [hon, ek, en]; exact ⟨if_pos ⟨rfl, h⟩, if_neg (fun q => q.2 h)⟩
  have hB : Hid (adr s op b imm % 4 ≠ 0 → wantA s op a b imm = (0, 0, 0, 0) ∧ wantF s op a b imm = (4, adr s op b imm)) := fun h => by
    unfold wantA wantF; rw [hon, en]; exact ⟨if_neg (fun q => h q.2), if_pos ⟨rfl, h⟩⟩
  have hr : 0 ≤ adr s op b imm ∧ adr s op b imm < 4294967296 := by
    have := ok.r 7
    unfold adr
    by_cases q1 : op = 56
    · rw [if_pos q1]; omega
    · rw [if_neg q1]
      by_cases q2 : op = 57
      · rw [if_pos q2]; omega
      · rw [if_neg q2]; omega
  have hd : Hid ((op = 56 → adr s op b imm = (s.r 7 - 4) % 4294967296) ∧ (op = 57 → adr s op b imm = s.r 7) ∧ (op ≠ 56 → op ≠ 57 → adr s op b imm = (s.r b + imm % 4294967296) % 4294967296)) := by
    refine ⟨fun h => ?_, fun h => ?_, fun h h' => ?_⟩
    · unfold adr; rw [if_pos h]
    · unfold adr; rw [if_neg (by omega), if_pos h]
    · unfold adr; rw [if_neg h, if_neg h']
  generalize adr s op b imm = at_ at *
  generalize wantA s op a b imm = qa at *
  generalize wantF s op a b imm = qf at *
  have ra := ok.r a
  have rb := ok.r b
  have r7 := ok.r 7
  have l1 : decide (op < 48) = false := by simp; omega
  have l2 : decide (op > 58) = false := by simp; omega
  clear hm ek en hon ok
  go_enter Tryd.func24, Tryd.ntmps24
  go_wp2_with fail
  refine (MA.out _).mono ?_
  rintro e w1 ⟨rfl, g1⟩
  have G1 : Hid (Kep w w1) := kep_trans (((((Kep.refl _).alloc _).alloc _).alloc _).alloc _) g1
  obtain ⟨B0, B1, B2, B3⟩ := four_blocks w _ _ _ _
  replace B0 := g1.block B0
  replace B1 := g1.block B1
  have Z2 : Hid (w1.heap[w.heap.size + 1 + 1]? = _) := g1.block B2
  have Z3 : Hid (w1.heap[w.heap.size + 1 + 1 + 1]? = _) := g1.block B3
  have z3 := block_lt Z3.out
  obtain ⟨i0, i1, i2, i3⟩ := ins_at B1
  have ca := At.reg (s := s) B0 a (by omega)
  have cb := At.reg (s := s) B0 b (by omega)
  have c7 := At.reg (s := s) B0 7 (by omega)
  clear g1 B0 B1 B2 B3
  go_wp2_with fail
  go_quiet (fail)
  have he := (hd.out.2.2 n1 n2).symm
  have x1 := ne_lit n1
  have x2 := ne_lit n2
  clear hd l1 l2
  go_wp2_with (first
    | (go_at_call 52; refine (RB.out _).mono ?_; rintro e w' ⟨rfl, rfl⟩)
    | (go_at_call 53; refine (RR.out _).mono ?_; rintro e w' ⟨rfl, rfl⟩)
    | (go_at_call 54; refine (refLow_any _ _ _ (by omega) (by omega) (by simp)).mono ?_; rintro e w' ⟨rfl, rfl⟩)
    | (refine wpList_store_row (by rfl) 57 (.tmp 4) _ (by rfl) (w.heap.size + 1 + 1) _ (by rfl) (by rfl) 57 #[.int .i64 0, .int .u32 0, .int .i64 0, .int .u32 0] blkA (by exact size_acc) (by rfl) (by simp [Value.oneCell']) ?_)
    | (refine wpList_store_row (by rfl) 29 (.tmp 5) _ (by rfl) (w.heap.size + 1 + 1 + 1) _ (by rfl) (by rfl) 29 #[.int .i64 0, .int .u32 0] blkA (by exact size_flt) (by rfl) (by simp [Value.oneCell']) ?_))
  all_goals
    try simp only [Exit.inBlock, Exit.then]
    refine bodyPost_ret (resultsCC rfl _ _ (w.heap.size + 1 + 1) 57 _ (0, 0) _ (w.heap.size + 1 + 1 + 1) 29 _ (0, 0) _ (by rfl) blkA Tryd.underlying57 rfl (by exact size_acc) (by rfl) blkA Tryd.underlying29 rfl (by exact size_flt)) rfl ⟨?_, by (repeat (first | (with_reducible assumption) | (with_reducible exact Kep.refl _) | (with_reducible exact Hid.out (by assumption)) | (with_reducible refine Kep.alloc ?_ _) | (with_reducible refine Kep.drew ?_) | (with_reducible refine Kep.drewN ?_ _) | (with_reducible refine Kep.setRow ?_ _ _ (by (first | omega | (simp only [World.size_alloc, World.size_setCell, size_setRow, World.size_drew]; done) | (simp only [World.size_alloc, World.size_setCell, size_setRow, World.size_drew]; omega)))) | (with_reducible refine Kep.setCell ?_ (by first | omega | (simp only []; omega) | (show _ ≤ _; omega)) _)))⟩
    first
      | (obtain ⟨rfl, rfl⟩ := hA.out (by first | omega | (simp_all; done) | (simp_all; omega)); rfl)
      | (obtain ⟨rfl, rfl⟩ := hB.out (by first | omega | (simp_all; done) | (simp_all; omega)); rfl)
set_option maxHeartbeats 16000000 in
set_option maxRecDepth 100000 in
theorem rwant_c_2_2 (s : Sta) (op : Int) (a b : Nat) (imm : Int) (w : World) (ok : s.Ok) (m : 48 ≤ op ∧ op ≤ 58) (ha : (a : Int) < 8) (hb : (b : Int) < 8) (h2 : -2147483648 ≤ imm) (h3 : imm ≤ 2147483647)
    (n1 : op ≠ 56) (n2 : op ≠ 57) (hm : mayB (rowOf op false) a b imm = true) (ek : rK op = 2) (en : rN op = 2) :
    Calls Tryd.prog 24 #[.agg s.v, .agg (insA op a b imm)] w fun e w' => e = .returned (.tuple #[.agg (accV (wantA s op a b imm)), .agg (fltV (wantF s op a b imm))]) ∧ Kep w w' := by
  have RB : Hid (∀ w, Calls Tryd.prog 52 #[.int .u8 op] w fun e w' => e = .returned (.int .i64 2) ∧ w' = w) := fun w => by
    have := refBytes_any op w m; rw [en] at this; exact this
  have RR : Hid (∀ w, Calls Tryd.prog 53 #[.int .u8 op] w fun e w' => e = .returned (.bool ((2 : Int) == 2)) ∧ w' = w) := fun w => by
    have := refReads_any op w m; rw [ek] at this; exact this
  have MA : Hid (∀ w, Calls Tryd.prog 19 #[.agg (insA op a b imm), .bool false] w fun e w' => e = .returned (.bool true) ∧ Kep w w') := fun w => by
    have := refMay_any op a b imm false w (by omega) (by omega) h2 h3; rw [hm] at this; exact this
  have hon : wantOn op a b imm = true := by unfold wantOn; rw [hm, en]; rfl
  have hA : Hid (adr s op b imm % 2 = 0 → wantA s op a b imm = (2, adr s op b imm, 2, if (2 : Int) = 3 then lowI (s.r a) 2 else 0) ∧ wantF s op a b imm = (0, 0)) := fun h => by
    unfold wantA wantF; rw [hon, ek, en]; exact ⟨if_pos ⟨rfl, h⟩, if_neg (fun q => q.2 h)⟩
  have hB : Hid (adr s op b imm % 2 ≠ 0 → wantA s op a b imm = (0, 0, 0, 0) ∧ wantF s op a b imm = (4, adr s op b imm)) := fun h => by
    unfold wantA wantF; rw [hon, en]; exact ⟨if_neg (fun q => h q.2), if_pos ⟨rfl, h⟩⟩
  have hr : 0 ≤ adr s op b imm ∧ adr s op b imm < 4294967296 := by
    have := ok.r 7
    unfold adr
    by_cases q1 : op = 56
    · rw [if_pos q1]; omega
    · rw [if_neg q1]
      by_cases q2 : op = 57
      · rw [if_pos q2]; omega
      · rw [if_neg q2]; omega
  have hd : Hid ((op = 56 → adr s op b imm = (s.r 7 - 4) % 4294967296) ∧ (op = 57 → adr s op b imm = s.r 7) ∧ (op ≠ 56 → op ≠ 57 → adr s op b imm = (s.r b + imm % 4294967296) % 4294967296)) := by
    refine ⟨fun h => ?_, fun h => ?_, fun h h' => ?_⟩
    · unfold adr; rw [if_pos h]
    · unfold adr; rw [if_neg (by omega), if_pos h]
    · unfold adr; rw [if_neg h, if_neg h']
  generalize adr s op b imm = at_ at *
  generalize wantA s op a b imm = qa at *
  generalize wantF s op a b imm = qf at *
  have ra := ok.r a
  have rb := ok.r b
  have r7 := ok.r 7
  have l1 : decide (op < 48) = false := by simp; omega
  have l2 : decide (op > 58) = false := by simp; omega
  clear hm ek en hon ok
  go_enter Tryd.func24, Tryd.ntmps24
  go_wp2_with fail
  refine (MA.out _).mono ?_
  rintro e w1 ⟨rfl, g1⟩
  have G1 : Hid (Kep w w1) := kep_trans (((((Kep.refl _).alloc _).alloc _).alloc _).alloc _) g1
  obtain ⟨B0, B1, B2, B3⟩ := four_blocks w _ _ _ _
  replace B0 := g1.block B0
  replace B1 := g1.block B1
  have Z2 : Hid (w1.heap[w.heap.size + 1 + 1]? = _) := g1.block B2
  have Z3 : Hid (w1.heap[w.heap.size + 1 + 1 + 1]? = _) := g1.block B3
  have z3 := block_lt Z3.out
  obtain ⟨i0, i1, i2, i3⟩ := ins_at B1
  have ca := At.reg (s := s) B0 a (by omega)
  have cb := At.reg (s := s) B0 b (by omega)
  have c7 := At.reg (s := s) B0 7 (by omega)
  clear g1 B0 B1 B2 B3
  go_wp2_with fail
  go_quiet (fail)
  have he := (hd.out.2.2 n1 n2).symm
  have x1 := ne_lit n1
  have x2 := ne_lit n2
  clear hd l1 l2
  go_wp2_with (first
    | (go_at_call 52; refine (RB.out _).mono ?_; rintro e w' ⟨rfl, rfl⟩)
    | (go_at_call 53; refine (RR.out _).mono ?_; rintro e w' ⟨rfl, rfl⟩)
    | (go_at_call 54; refine (refLow_any _ _ _ (by omega) (by omega) (by simp)).mono ?_; rintro e w' ⟨rfl, rfl⟩)
    | (refine wpList_store_row (by rfl) 57 (.tmp 4) _ (by rfl) (w.heap.size + 1 + 1) _ (by rfl) (by rfl) 57 #[.int .i64 0, .int .u32 0, .int .i64 0, .int .u32 0] blkA (by exact size_acc) (by rfl) (by simp [Value.oneCell']) ?_)
    | (refine wpList_store_row (by rfl) 29 (.tmp 5) _ (by rfl) (w.heap.size + 1 + 1 + 1) _ (by rfl) (by rfl) 29 #[.int .i64 0, .int .u32 0] blkA (by exact size_flt) (by rfl) (by simp [Value.oneCell']) ?_))
  all_goals
    try simp only [Exit.inBlock, Exit.then]
    refine bodyPost_ret (resultsCC rfl _ _ (w.heap.size + 1 + 1) 57 _ (0, 0) _ (w.heap.size + 1 + 1 + 1) 29 _ (0, 0) _ (by rfl) blkA Tryd.underlying57 rfl (by exact size_acc) (by rfl) blkA Tryd.underlying29 rfl (by exact size_flt)) rfl ⟨?_, by (repeat (first | (with_reducible assumption) | (with_reducible exact Kep.refl _) | (with_reducible exact Hid.out (by assumption)) | (with_reducible refine Kep.alloc ?_ _) | (with_reducible refine Kep.drew ?_) | (with_reducible refine Kep.drewN ?_ _) | (with_reducible refine Kep.setRow ?_ _ _ (by (first | omega | (simp only [World.size_alloc, World.size_setCell, size_setRow, World.size_drew]; done) | (simp only [World.size_alloc, World.size_setCell, size_setRow, World.size_drew]; omega)))) | (with_reducible refine Kep.setCell ?_ (by first | omega | (simp only []; omega) | (show _ ≤ _; omega)) _)))⟩
    first
      | (obtain ⟨rfl, rfl⟩ := hA.out (by first | omega | (simp_all; done) | (simp_all; omega)); rfl)
      | (obtain ⟨rfl, rfl⟩ := hB.out (by first | omega | (simp_all; done) | (simp_all; omega)); rfl)
end Go.Proofs.YthimfiihebdchaaDoor
