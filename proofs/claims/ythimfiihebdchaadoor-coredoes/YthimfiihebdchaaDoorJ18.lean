/- Part of a proof. -/
import Derived.Deep.RegionWith
import Derived.Laws.Rows
import Derived.Deep.CutRange
import Derived.Deep.RegionHeld3
import Derived.Maps.Own
import Derived.Maps.OwnSet
import Derived.Maps.Views
import Derived.Carry
import Derived.Defers
import Derived.Laws.Pointers
import Derived.Laws.LoneSync
import Derived.RegionTactic
import Derived.RegionCalls
import Derived.ChangeAlike
import Derived.BigQuiet
import Derived.Test.YthimfiihebdchaaDoorJ16
import Derived.Test.YthimfiihebdchaaDoorJ17
namespace Go.Proofs.YthimfiihebdchaaDoor
open Go.RowKit
set_option linter.unusedVariables false
set_option linter.unusedSimpArgs false
set_option maxHeartbeats 16000000 in
set_option maxRecDepth 100000 in
theorem rwant_c_2_3 (s : Sta) (op : Int) (a b : Nat) (imm : Int) (w : World) (ok : s.Ok) (m : 48 ≤ op ∧ op ≤ 58) (ha : (a : Int) < 8) (hb : (b : Int) < 8) (h2 : -2147483648 ≤ imm) (h3 : imm ≤ 2147483647)
    (n1 : op ≠ 56) (n2 : op ≠ 57) (hm : mayB (rowOf op false) a b imm = true) (ek : rK op = 3) (en : rN op = 2) :
    Calls Tryd.prog 24 #[.agg s.v, .agg (insA op a b imm)] w fun e w' => e = .returned (.tuple #[.agg (accV (wantA s op a b imm)), .agg (fltV (wantF s op a b imm))]) ∧ Kep w w' := by
  have RB : Hid (∀ w, Calls Tryd.prog 52 #[.int .u8 op] w fun e w' => e = .returned (.int .i64 2) ∧ w' = w) := fun w => by
    have := refBytes_any op w m; rw [en] at this; exact this
  have RR : Hid (∀ w, Calls Tryd.prog 53 #[.int .u8 op] w fun e w' => e = .returned (.bool ((3 : Int) == 2)) ∧ w' = w) := fun w => by
    have := refReads_any op w m; rw [ek] at this; exact this
  have MA : Hid (∀ w, Calls Tryd.prog 19 #[.agg (insA op a b imm), .bool false] w fun e w' => e = .returned (.bool true) ∧ Kep w w') := fun w => by
    have := refMay_any op a b imm false w (by omega) (by omega) h2 h3; rw [hm] at this; exact this
  have hon : wantOn op a b imm = true := by unfold wantOn; rw [hm, en]; rfl
  have hA : Hid (adr s op b imm % 2 = 0 → wantA s op a b imm = (3, adr s op b imm, 2, if (3 : Int) = 3 then lowI (s.r a) 2 else 0) ∧ wantF s op a b imm = (0, 0)) := fun h => by
    unfold wantA wantF; rw [hon, ek, en]; exact ⟨if_pos ⟨rfl, h⟩, if_neg (fun q => q.2 h)⟩
  have hB : Hid (adr s op b imm % 2 ≠ 0 → wantA s op a b imm = (0, 0, 0, 0) ∧ wantF s op a b imm = (4, adr s op b imm)) := fun h => by
    unfold wantA wantF; rw [hon, en]; exact ⟨if_neg (fun q => h q.2), if_pos ⟨rfl, h⟩⟩
  have hr : 0 ≤ adr s op b imm ∧ adr s op b imm < 4294967296 := by
    have := ok.r 7
    unfold adr
    by_cases q1 : op = 56
    · rw [if_pos q1]; omega
    · rw [if_neg q1]
      by_cases q2 : op = 57
      · rw [if_pos q2]; omega
      · rw [if_neg q2]; omega
  have hd : Hid ((op = 56 → adr s op b imm = (s.r 7 - 4) % 4294967296) ∧ (op = 57 → adr s op b imm = s.r 7) ∧ (op ≠ 56 → op ≠ 57 → adr s op b imm = (s.r b + imm % 4294967296) % 4294967296)) := by
    refine ⟨fun h => ?_, fun h => ?_, fun h h' => ?_⟩
    · unfold adr; rw [if_pos h]
    · unfold adr; rw [if_neg (by omega), if_pos h]
    · unfold adr; rw [if_neg h, if_neg h']
  generalize adr s op b imm = at_ at *
  generalize wantA s op a b imm = qa at *
  generalize wantF s op a b imm = qf at *
  have ra := ok.r a
  have rb := ok.r b
  have r7 := ok.r 7
  have l1 : decide (op < 48) = false := by simp; omega
  have l2 : decide (op > 58) = false := by simp; omega
  clear hm ek en hon ok
  go_enter Tryd.func24, Tryd.ntmps24
  go_wp2_with fail
  refine (MA.out _).mono ?_
  rintro e w1 ⟨rfl, g1⟩
  have G1 : Hid (Kep w w1) := kep_trans (((((Kep.refl _).alloc _).alloc _).alloc _).alloc _) g1
  obtain ⟨B0, B1, B2, B3⟩ := four_blocks w _ _ _ _
  replace B0 := g1.block B0
  replace B1 := g1.block B1
  have Z2 : Hid (w1.heap[w.heap.size + 1 + 1]? = _) := g1.block B2
  have Z3 : Hid (w1.heap[w.heap.size + 1 + 1 + 1]? = _) := g1.block B3
  have z3 := block_lt Z3.out
  obtain ⟨i0, i1, i2, i3⟩ := ins_at B1
  have ca := At.reg (s := s) B0 a (by omega)
  have cb := At.reg (s := s) B0 b (by omega)
  have c7 := At.reg (s := s) B0 7 (by omega)
  clear g1 B0 B1 B2 B3
  go_wp2_with fail
  go_quiet (fail)
  have he := (hd.out.2.2 n1 n2).symm
  have x1 := ne_lit n1
  have x2 := ne_lit n2
  clear hd l1 l2
  go_wp2_with (first
    | (go_at_call 52; refine (RB.out _).mono ?_; rintro e w' ⟨rfl, rfl⟩)
    | (go_at_call 53; refine (RR.out _).mono ?_; rintro e w' ⟨rfl, rfl⟩)
    | (go_at_call 54; refine (refLow_any _ _ _ (by omega) (by omega) (by simp)).mono ?_; rintro e w' ⟨rfl, rfl⟩)
    | (refine wpList_store_row (by rfl) 57 (.tmp 4) _ (by rfl) (w.heap.size + 1 + 1) _ (by rfl) (by rfl) 57 #[.int .i64 0, .int .u32 0, .int .i64 0, .int .u32 0] blkA (by exact size_acc) (by rfl) (by simp [Value.oneCell']) ?_)
    | (refine wpList_store_row (by rfl) 29 (.tmp 5) _ (by rfl) (w.heap.size + 1 + 1 + 1) _ (by rfl) (by rfl) 29 #[.int .i64 0, .int .u32 0] blkA (by exact size_flt) (by rfl) (by simp [Value.oneCell']) ?_))
  all_goals
    try simp only [Exit.inBlock, Exit.then]
    refine bodyPost_ret (resultsCC rfl _ _ (w.heap.size + 1 + 1) 57 _ (0, 0) _ (w.heap.size + 1 + 1 + 1) 29 _ (0, 0) _ (by rfl) blkA Tryd.underlying57 rfl (by exact size_acc) (by rfl) blkA Tryd.underlying29 rfl (by exact size_flt)) rfl ⟨?_, by (repeat (first | (with_reducible assumption) | (with_reducible exact Kep.refl _) | (with_reducible exact Hid.out (by assumption)) | (with_reducible refine Kep.alloc ?_ _) | (with_reducible refine Kep.drew ?_) | (with_reducible refine Kep.drewN ?_ _) | (with_reducible refine Kep.setRow ?_ _ _ (by (first | omega | (simp only [World.size_alloc, World.size_setCell, size_setRow, World.size_drew]; done) | (simp only [World.size_alloc, World.size_setCell, size_setRow, World.size_drew]; omega)))) | (with_reducible refine Kep.setCell ?_ (by first | omega | (simp only []; omega) | (show _ ≤ _; omega)) _)))⟩
    first
      | (obtain ⟨rfl, rfl⟩ := hA.out (by first | omega | (simp_all; done) | (simp_all; omega)); rfl)
      | (obtain ⟨rfl, rfl⟩ := hB.out (by first | omega | (simp_all; done) | (simp_all; omega)); rfl)
set_option maxHeartbeats 16000000 in
set_option maxRecDepth 100000 in
theorem rwant_c_1_2 (s : Sta) (op : Int) (a b : Nat) (imm : Int) (w : World) (ok : s.Ok) (m : 48 ≤ op ∧ op ≤ 58) (ha : (a : Int) < 8) (hb : (b : Int) < 8) (h2 : -2147483648 ≤ imm) (h3 : imm ≤ 2147483647)
    (n1 : op ≠ 56) (n2 : op ≠ 57) (hm : mayB (rowOf op false) a b imm = true) (ek : rK op = 2) (en : rN op = 1) :
    Calls Tryd.prog 24 #[.agg s.v, .agg (insA op a b imm)] w fun e w' => e = .returned (.tuple #[.agg (accV (wantA s op a b imm)), .agg (fltV (wantF s op a b imm))]) ∧ Kep w w' := by
  have RB : Hid (∀ w, Calls Tryd.prog 52 #[.int .u8 op] w fun e w' => e = .returned (.int .i64 1) ∧ w' = w) := fun w => by
    have := refBytes_any op w m; rw [en] at this; exact this
  have RR : Hid (∀ w, Calls Tryd.prog 53 #[.int .u8 op] w fun e w' => e = .returned (.bool ((2 : Int) == 2)) ∧ w' = w) := fun w => by
    have := refReads_any op w m; rw [ek] at this; exact this
  have MA : Hid (∀ w, Calls Tryd.prog 19 #[.agg (insA op a b imm), .bool false] w fun e w' => e = .returned (.bool true) ∧ Kep w w') := fun w => by
    have := refMay_any op a b imm false w (by omega) (by omega) h2 h3; rw [hm] at this; exact this
  have hon : wantOn op a b imm = true := by unfold wantOn; rw [hm, en]; rfl
  have hA : Hid (adr s op b imm % 1 = 0 → wantA s op a b imm = (2, adr s op b imm, 1, if (2 : Int) = 3 then lowI (s.r a) 1 else 0) ∧ wantF s op a b imm = (0, 0)) := fun h => by
    unfold wantA wantF; rw [hon, ek, en]; exact ⟨if_pos ⟨rfl, h⟩, if_neg (fun q => q.2 h)⟩
  have hB : Hid (adr s op b imm % 1 ≠ 0 → wantA s op a b imm = (0, 0, 0, 0) ∧ wantF s op a b imm = (4, adr s op b imm)) := fun h => by
    unfold wantA wantF; rw [hon, en]; exact ⟨if_neg (fun q => h q.2), if_pos ⟨rfl, h⟩⟩
  have hr : 0 ≤ adr s op b imm ∧ adr s op b imm < 4294967296 := by
    have := ok.r 7
    unfold adr
    by_cases q1 : op = 56
    · rw [if_pos q1]; omega
    · rw [if_neg q1]
      by_cases q2 : op = 57
      · rw [if_pos q2]; omega
      · rw [if_neg q2]; omega
  have hd : Hid ((op = 56 → adr s op b imm = (s.r 7 - 4) % 4294967296) ∧ (op = 57 → adr s op b imm = s.r 7) ∧ (op ≠ 56 → op ≠ 57 → adr s op b imm = (s.r b + imm % 4294967296) % 4294967296)) := by
    refine ⟨fun h => ?_, fun h => ?_, fun h h' => ?_⟩
    · unfold adr; rw [if_pos h]
    · unfold adr; rw [if_neg (by omega), if_pos h]
    · unfold adr; rw [if_neg h, if_neg h']
  generalize adr s op b imm = at_ at *
  generalize wantA s op a b imm = qa at *
  generalize wantF s op a b imm = qf at *
  have ra := ok.r a
  have rb := ok.r b
  have r7 := ok.r 7
  have l1 : decide (op < 48) = false := by simp; omega
  have l2 : decide (op > 58) = false := by simp; omega
  clear hm ek en hon ok
  go_enter Tryd.func24, Tryd.ntmps24
  go_wp2_with fail
  refine (MA.out _).mono ?_
  rintro e w1 ⟨rfl, g1⟩
  have G1 : Hid (Kep w w1) := kep_trans (((((Kep.refl _).alloc _).alloc _).alloc _).alloc _) g1
  obtain ⟨B0, B1, B2, B3⟩ := four_blocks w _ _ _ _
  replace B0 := g1.block B0
  replace B1 := g1.block B1
  have Z2 : Hid (w1.heap[w.heap.size + 1 + 1]? = _) := g1.block B2
  have Z3 : Hid (w1.heap[w.heap.size + 1 + 1 + 1]? = _) := g1.block B3
  have z3 := block_lt Z3.out
  obtain ⟨i0, i1, i2, i3⟩ := ins_at B1
  have ca := At.reg (s := s) B0 a (by omega)
  have cb := At.reg (s := s) B0 b (by omega)
  have c7 := At.reg (s := s) B0 7 (by omega)
  clear g1 B0 B1 B2 B3
  go_wp2_with fail
  go_quiet (fail)
  have he := (hd.out.2.2 n1 n2).symm
  have x1 := ne_lit n1
  have x2 := ne_lit n2
  clear hd l1 l2
  go_wp2_with (first
    | (go_at_call 52; refine (RB.out _).mono ?_; rintro e w' ⟨rfl, rfl⟩)
    | (go_at_call 53; refine (RR.out _).mono ?_; rintro e w' ⟨rfl, rfl⟩)
    | (go_at_call 54; refine (refLow_any _ _ _ (by omega) (by omega) (by simp)).mono ?_; rintro e w' ⟨rfl, rfl⟩)
    | (refine wpList_store_row (by rfl) 57 (.tmp 4) _ (by rfl) (w.heap.size + 1 + 1) _ (by rfl) (by rfl) 57 #[.int .i64 0, .int .u32 0, .int .i64 0, .int .u32 0] blkA (by exact size_acc) (by rfl) (by simp [Value.oneCell']) ?_)
    | (refine wpList_store_row (by rfl) 29 (.tmp 5) _ (by rfl) (w.heap.size + 1 + 1 + 1) _ (by rfl) (by rfl) 29 #[.int .i64 0, .int .u32 0] blkA (by exact size_flt) (by rfl) (by simp [Value.oneCell']) ?_))
  all_goals
    try simp only [Exit.inBlock, Exit.then]
    refine bodyPost_ret (resultsCC rfl _ _ (w.heap.size + 1 + 1) 57 _ (0, 0) _ (w.heap.size + 1 + 1 + 1) 29 _ (0, 0) _ (by rfl) blkA Tryd.underlying57 rfl (by exact size_acc) (by rfl) blkA Tryd.underlying29 rfl (by exact size_flt)) rfl ⟨?_, by (repeat (first | (with_reducible assumption) | (with_reducible exact Kep.refl _) | (with_reducible exact Hid.out (by assumption)) | (with_reducible refine Kep.alloc ?_ _) | (with_reducible refine Kep.drew ?_) | (with_reducible refine Kep.drewN ?_ _) | (with_reducible refine Kep.setRow ?_ _ _ (by (first | omega | (simp only [World.size_alloc, World.size_setCell, size_setRow, World.size_drew]; done) | (simp only [World.size_alloc, World.size_setCell, size_setRow, World.size_drew]; omega)))) | (with_reducible refine Kep.setCell ?_ (by first | omega | (simp only []; omega) | (show _ ≤ _; omega)) _)))⟩
    first
      | (obtain ⟨rfl, rfl⟩ := hA.out (by first | omega | (simp_all; done) | (simp_all; omega)); rfl)
      | (obtain ⟨rfl, rfl⟩ := hB.out (by first | omega | (simp_all; done) | (simp_all; omega)); rfl)
set_option maxHeartbeats 16000000 in
set_option maxRecDepth 100000 in
theorem rwant_c_1_3 (s : Sta) (op : Int) (a b : Nat) (imm : Int) (w : World) (ok : s.Ok) (m : 48 ≤ op ∧ op ≤ 58) (ha : (a : Int) < 8) (hb : (b : Int) < 8) (h2 : -2147483648 ≤ imm) (h3 : imm ≤ 2147483647)
    (n1 : op ≠ 56) (n2 : op ≠ 57) (hm : mayB (rowOf op false) a b imm = true) (ek : rK op = 3) (en : rN op = 1) :
    Calls Tryd.prog 24 #[.agg s.v, .agg (insA op a b imm)] w fun e w' => e = .returned (.tuple #[.agg (accV (wantA s op a b imm)), .agg (fltV (wantF s op a b imm))]) ∧ Kep w w' := by
  have RB : Hid (∀ w, Calls Tryd.prog 52 #[.int .u8 op] w fun e w' => e = .returned (.int .i64 1) ∧ w' = w) := fun w => by
    have := refBytes_any op w m; rw [en] at this; exact this
  have RR : Hid (∀ w, Calls Tryd.prog 53 #[.int .u8 op] w fun e w' => e = .returned (.bool ((3 : Int) == 2)) ∧ w' = w) := fun w => by
    have := refReads_any op w m; rw [ek] at this; exact this
  have MA : Hid (∀ w, Calls Tryd.prog 19 #[.agg (insA op a b imm), .bool false] w fun e w' => e = .returned (.bool true) ∧ Kep w w') := fun w => by
    have := refMay_any op a b imm false w (by omega) (by omega) h2 h3; rw [hm] at this; exact this
  have hon : wantOn op a b imm = true := by unfold wantOn; rw [hm, en]; rfl
  have hA : Hid (adr s op b imm % 1 = 0 → wantA s op a b imm = (3, adr s op b imm, 1, if (3 : Int) = 3 then lowI (s.r a) 1 else 0) ∧ wantF s op a b imm = (0, 0)) := fun h => by
    unfold wantA wantF; rw [hon, ek, en]; exact ⟨if_pos ⟨rfl, h⟩, if_neg (fun q => q.2 h)⟩
  have hB : Hid (adr s op b imm % 1 ≠ 0 → wantA s op a b imm = (0, 0, 0, 0) ∧ wantF s op a b imm = (4, adr s op b imm)) := fun h => by
    unfold wantA wantF; rw [hon, en]; exact ⟨if_neg (fun q => h q.2), if_pos ⟨rfl, h⟩⟩
  have hr : 0 ≤ adr s op b imm ∧ adr s op b imm < 4294967296 := by
    have := ok.r 7
    unfold adr
    by_cases q1 : op = 56
    · rw [if_pos q1]; omega
    · rw [if_neg q1]
      by_cases q2 : op = 57
      · rw [if_pos q2]; omega
      · rw [if_neg q2]; omega
  have hd : Hid ((op = 56 → adr s op b imm = (s.r 7 - 4) % 4294967296) ∧ (op = 57 → adr s op b imm = s.r 7) ∧ (op ≠ 56 → op ≠ 57 → adr s op b imm = (s.r b + imm % 4294967296) % 4294967296)) := by
    refine ⟨fun h => ?_, fun h => ?_, fun h h' => ?_⟩
    · unfold adr; rw [if_pos h]
    · unfold adr; rw [if_neg (by omega), if_pos h]
    · unfold adr; rw [if_neg h, if_neg h']
  generalize adr s op b imm = at_ at *
  generalize wantA s op a b imm = qa at *
  generalize wantF s op a b imm = qf at *
  have ra := ok.r a
  have rb := ok.r b
  have r7 := ok.r 7
  have l1 : decide (op < 48) = false := by simp; omega
  have l2 : decide (op > 58) = false := by simp; omega
  clear hm ek en hon ok
  go_enter Tryd.func24, Tryd.ntmps24
  go_wp2_with fail
  refine (MA.out _).mono ?_
  rintro e w1 ⟨rfl, g1⟩
  have G1 : Hid (Kep w w1) := kep_trans (((((Kep.refl _).alloc _).alloc _).alloc _).alloc _) g1
  obtain ⟨B0, B1, B2, B3⟩ := four_blocks w _ _ _ _
  replace B0 := g1.block B0
  replace B1 := g1.block B1
  have Z2 : Hid (w1.heap[w.heap.size + 1 + 1]? = _) := g1.block B2
  have Z3 : Hid (w1.heap[w.heap.size + 1 + 1 + 1]? = _) := g1.block B3
  have z3 := block_lt Z3.out
  obtain ⟨i0, i1, i2, i3⟩ := ins_at B1
  have ca := At.reg (s := s) B0 a (by omega)
  have cb := At.reg (s := s) B0 b (by omega)
  have c7 := At.reg (s := s) B0 7 (by omega)
  clear g1 B0 B1 B2 B3
  go_wp2_with fail
  go_quiet (fail)
  have he := (hd.out.2.2 n1 n2).symm
  have x1 := ne_lit n1
  have x2 := ne_lit n2
  clear hd l1 l2
  go_wp2_with (first
    | (go_at_call 52; refine (RB.out _).mono ?_; rintro e w' ⟨rfl, rfl⟩)
    | (go_at_call 53; refine (RR.out _).mono ?_; rintro e w' ⟨rfl, rfl⟩)
    | (go_at_call 54; refine (refLow_any _ _ _ (by omega) (by omega) (by simp)).mono ?_; rintro e w' ⟨rfl, rfl⟩)
    | (refine wpList_store_row (by rfl) 57 (.tmp 4) _ (by rfl) (w.heap.size + 1 + 1) _ (by rfl) (by rfl) 57 #[.int .i64 0, .int .u32 0, .int .i64 0, .int .u32 0] blkA (by exact size_acc) (by rfl) (by simp [Value.oneCell']) ?_)
    | (refine wpList_store_row (by rfl) 29 (.tmp 5) _ (by rfl) (w.heap.size + 1 + 1 + 1) _ (by rfl) (by rfl) 29 #[.int .i64 0, .int .u32 0] blkA (by exact size_flt) (by rfl) (by simp [Value.oneCell']) ?_))
  all_goals
    try simp only [Exit.inBlock, Exit.then]
    refine bodyPost_ret (resultsCC rfl _ _ (w.heap.size + 1 + 1) 57 _ (0, 0) _ (w.heap.size + 1 + 1 + 1) 29 _ (0, 0) _ (by rfl) blkA Tryd.underlying57 rfl (by exact size_acc) (by rfl) blkA Tryd.underlying29 rfl (by exact size_flt)) rfl ⟨?_, by (repeat (first | (with_reducible assumption) | (with_reducible exact Kep.refl _) | (with_reducible exact Hid.out (by assumption)) | (with_reducible refine Kep.alloc ?_ _) | (with_reducible refine Kep.drew ?_) | (with_reducible refine Kep.drewN ?_ _) | (with_reducible refine Kep.setRow ?_ _ _ (by (first | omega | (simp only [World.size_alloc, World.size_setCell, size_setRow, World.size_drew]; done) | (simp only [World.size_alloc, World.size_setCell, size_setRow, World.size_drew]; omega)))) | (with_reducible refine Kep.setCell ?_ (by first | omega | (simp only []; omega) | (show _ ≤ _; omega)) _)))⟩
    first
      | (obtain ⟨rfl, rfl⟩ := hA.out (by first | omega | (simp_all; done) | (simp_all; omega)); rfl)
      | (obtain ⟨rfl, rfl⟩ := hB.out (by first | omega | (simp_all; done) | (simp_all; omega)); rfl)
set_option maxHeartbeats 16000000 in
set_option maxRecDepth 100000 in
theorem rwant_no (s : Sta) (op : Int) (a b : Nat) (imm : Int) (w : World) (h2 : -2147483648 ≤ imm) (h3 : imm ≤ 2147483647) (hm : wantOn op a b imm = false) :
    Calls Tryd.prog 24 #[.agg s.v, .agg (insA op a b imm)] w fun e w' => e = .returned (.tuple #[.agg (accV (wantA s op a b imm)), .agg (fltV (wantF s op a b imm))]) ∧ Kep w w' := by
  have ea : wantA s op a b imm = (0, 0, 0, 0) := by unfold wantA; rw [hm]; exact if_neg (fun q => Bool.noConfusion q.1)
  have ef : wantF s op a b imm = (0, 0) := by unfold wantF; rw [hm]; exact if_neg (fun q => Bool.noConfusion q.1)
  rw [ea, ef]
  have MA : Hid (∀ w, Calls Tryd.prog 19 #[.agg (insA op a b imm), .bool false] w fun e w' => e = .returned (.bool (mayB (rowOf op false) a b imm)) ∧ Kep w w') := fun w => refMay_any op a b imm false w (by omega) (by omega) h2 h3
  unfold wantOn at hm
  clear ea ef
  by_cases m : 48 ≤ op ∧ op ≤ 58
  · have hn : rN op ≠ 0 := by rcases mem_ops m with rfl | rfl | rfl | rfl | rfl | rfl | rfl | rfl | rfl | rfl | rfl <;> decide
    have hm' : mayB (rowOf op false) a b imm = false := by simpa [hn] using hm
    rw [hm'] at MA
    have l1 : decide (op < 48) = false := by simp; omega
    have l2 : decide (op > 58) = false := by simp; omega
    clear hm' hm hn m
    go_enter Tryd.func24, Tryd.ntmps24
    go_wp2_with fail
    refine (MA.out _).mono ?_
    rintro e w2 ⟨rfl, g1⟩
    have G2 : Hid (Kep w w2) := kep_trans (((((Kep.refl _).alloc _).alloc _).alloc _).alloc _) g1
    obtain ⟨B0, B1, B2, B3⟩ := four_blocks w _ _ _ _
    have Z2 : Hid (w2.heap[w.heap.size + 1 + 1]? = _) := g1.block B2
    have Z3 : Hid (w2.heap[w.heap.size + 1 + 1 + 1]? = _) := g1.block B3
    have z3 := block_lt Z3.out
    clear g1 B0 B1 B2 B3
    go_wp2_with (first
      | (refine wpList_store_row (by rfl) 57 (.tmp 4) _ (by rfl) (w.heap.size + 1 + 1) _ (by rfl) (by rfl) 57 #[.int .i64 0, .int .u32 0, .int .i64 0, .int .u32 0] blkA (by exact size_acc) (by rfl) (by simp [Value.oneCell']) ?_)
      | (refine wpList_store_row (by rfl) 29 (.tmp 5) _ (by rfl) (w.heap.size + 1 + 1 + 1) _ (by rfl) (by rfl) 29 #[.int .i64 0, .int .u32 0] blkA (by exact size_flt) (by rfl) (by simp [Value.oneCell']) ?_))
    try simp only [Exit.inBlock, Exit.then]
    exact bodyPost_ret (resultsCC rfl _ _ (w.heap.size + 1 + 1) 57 _ (0, 0) _ (w.heap.size + 1 + 1 + 1) 29 _ (0, 0) _ (by rfl) blkA Tryd.underlying57 rfl (by exact size_acc) (by rfl) blkA Tryd.underlying29 rfl (by exact size_flt)) rfl ⟨by rfl, by (repeat (first | (with_reducible assumption) | (with_reducible exact Kep.refl _) | (with_reducible exact Hid.out (by assumption)) | (with_reducible refine Kep.alloc ?_ _) | (with_reducible refine Kep.drew ?_) | (with_reducible refine Kep.drewN ?_ _) | (with_reducible refine Kep.setRow ?_ _ _ (by (first | omega | (simp only [World.size_alloc, World.size_setCell, size_setRow, World.size_drew]; done) | (simp only [World.size_alloc, World.size_setCell, size_setRow, World.size_drew]; omega)))) | (with_reducible refine Kep.setCell ?_ (by first | omega | (simp only []; omega) | (show _ ≤ _; omega)) _)))⟩
  · clear MA hm
    by_cases h48 : op < 48
    · have l1 : decide (op < 48) = true := by simp; omega
      go_enter Tryd.func24, Tryd.ntmps24
      go_wp2_with fail
      try simp only [Exit.inBlock, Exit.then]
      exact bodyPost_ret (resultsCC rfl _ _ (w.heap.size + 1 + 1) 57 _ (0, 0) _ (w.heap.size + 1 + 1 + 1) 29 _ (0, 0) _ (by rfl) blkA Tryd.underlying57 rfl (by exact size_acc) (by rfl) blkA Tryd.underlying29 rfl (by exact size_flt)) rfl ⟨by rfl, by (repeat (first | (with_reducible assumption) | (with_reducible exact Kep.refl _) | (with_reducible exact Hid.out (by assumption)) | (with_reducible refine Kep.alloc ?_ _) | (with_reducible refine Kep.drew ?_) | (with_reducible refine Kep.drewN ?_ _) | (with_reducible refine Kep.setRow ?_ _ _ (by (first | omega | (simp only [World.size_alloc, World.size_setCell, size_setRow, World.size_drew]; done) | (simp only [World.size_alloc, World.size_setCell, size_setRow, World.size_drew]; omega)))) | (with_reducible refine Kep.setCell ?_ (by first | omega | (simp only []; omega) | (show _ ≤ _; omega)) _)))⟩
    · have l1 : decide (op < 48) = false := by simp; omega
      have l2 : decide (op > 58) = true := by simp; omega
      clear m
      go_enter Tryd.func24, Tryd.ntmps24
      go_wp2_with fail
      try simp only [Exit.inBlock, Exit.then]
      exact bodyPost_ret (resultsCC rfl _ _ (w.heap.size + 1 + 1) 57 _ (0, 0) _ (w.heap.size + 1 + 1 + 1) 29 _ (0, 0) _ (by rfl) blkA Tryd.underlying57 rfl (by exact size_acc) (by rfl) blkA Tryd.underlying29 rfl (by exact size_flt)) rfl ⟨by rfl, by (repeat (first | (with_reducible assumption) | (with_reducible exact Kep.refl _) | (with_reducible exact Hid.out (by assumption)) | (with_reducible refine Kep.alloc ?_ _) | (with_reducible refine Kep.drew ?_) | (with_reducible refine Kep.drewN ?_ _) | (with_reducible refine Kep.setRow ?_ _ _ (by (first | omega | (simp only [World.size_alloc, World.size_setCell, size_setRow, World.size_drew]; done) | (simp only [World.size_alloc, World.size_setCell, size_setRow, World.size_drew]; omega)))) | (with_reducible refine Kep.setCell ?_ (by first | omega | (simp only []; omega) | (show _ ≤ _; omega)) _)))⟩
theorem rwant_any (s : Sta) (op : Int) (a b : Nat) (imm : Int) (w : World) (ok : s.Ok) (h2 : -2147483648 ≤ imm) (h3 : imm ≤ 2147483647) :
    Calls Tryd.prog 24 #[.agg s.v, .agg (insA op a b imm)] w fun e w' => e = .returned (.tuple #[.agg (accV (wantA s op a b imm)), .agg (fltV (wantF s op a b imm))]) ∧ Kep w w' := by
  cases e : wantOn op a b imm with
  | false => exact rwant_no s op a b imm w h2 h3 e
  | true =>
    have e' := e
    unfold wantOn at e'
    simp only [Bool.and_eq_true, bne_iff_ne, ne_eq] at e'
    obtain ⟨hk, hn⟩ := reach_cases op e'.1
    obtain ⟨ha, hb⟩ := may_reg op false a b imm e'.2
    have m : 48 ≤ op ∧ op ≤ 58 := by
      rcases Classical.em (48 ≤ op ∧ op ≤ 58) with m | m
      · exact m
      · exact absurd (by unfold rN; rw [if_neg (by omega), if_neg (by omega), if_neg (by omega)]) e'.1
    by_cases h56 : op = 56
    · exact rwant_a_4_3 s op a b imm w ok m (by omega) (by omega) h2 h3 h56 e'.2 (by rw [h56]; rfl) (by rw [h56]; rfl)
    by_cases h57 : op = 57
    · exact rwant_b_4_2 s op a b imm w ok m (by omega) (by omega) h2 h3 h57 e'.2 (by rw [h57]; rfl) (by rw [h57]; rfl)
    rcases hk with hk | hk <;> rcases hn with hn | hn | hn
    · exact rwant_c_1_2 s op a b imm w ok m (by omega) (by omega) h2 h3 h56 h57 e'.2 hk hn
    · exact rwant_c_2_2 s op a b imm w ok m (by omega) (by omega) h2 h3 h56 h57 e'.2 hk hn
    · exact rwant_c_4_2 s op a b imm w ok m (by omega) (by omega) h2 h3 h56 h57 e'.2 hk hn
    · exact rwant_c_1_3 s op a b imm w ok m (by omega) (by omega) h2 h3 h56 h57 e'.2 hk hn
    · exact rwant_c_2_3 s op a b imm w ok m (by omega) (by omega) h2 h3 h56 h57 e'.2 hk hn
    · exact rwant_c_4_3 s op a b imm w ok m (by omega) (by omega) h2 h3 h56 h57 e'.2 hk hn
def pA (s : Array UInt8) : Bool := s.toList.contains 97
def pB (s : Array UInt8) : Bool := s.toList.contains 98
def pI (s : Array UInt8) : Int := (if s.toList.contains 115 then 128 else 0) + (if s.toList.contains 108 then 64 else 0)
structure Rw where
  ops : List Int
  cls : Int
  rd : Array UInt8
  wr : Array UInt8
  m : Array UInt8
def mk (c : UInt8) (m : Array UInt8) : Bool := m.toList.contains c
abbrev factV (cls : Int) (rd wr : Array UInt8) (t f s : Bool) : Array Value := #[.int .i64 cls, .bool (pA rd), .bool (pB rd), .int .u8 (pI rd), .bool (pA wr), .bool (pB wr), .int .u8 (pI wr), .bool t, .bool f, .bool s]
abbrev zeroF : Array Value := #[.int .i64 0, .bool false, .bool false, .int .u8 0, .bool false, .bool false, .int .u8 0, .bool false, .bool false, .bool false]
abbrev RV : Value → Option (DataW Value × List MemPlace) := fun v => some (.held v, [])
def gV : Option Rw → Array Value
  | none => zeroF
  | some r => factV r.cls r.rd r.wr (mk 116 r.m) (mk 102 r.m) (mk 115 r.m)
def putF (f : Int → Option Rw) (op : Int) (r : Rw) : Int → Option Rw := fun k => if k = op then some r else f k
def putR (f : Int → Option Rw) (r : Rw) : Int → Option Rw := r.ops.foldl (fun f op => putF f op r) f
def tabl : List Rw := [
  ⟨[0], 1, #[], #[], #[]⟩,
  ⟨[16], 1, #[98], #[97], #[]⟩,
  ⟨[17, 18, 19, 20, 21, 22, 23, 24, 27, 28, 29], 1, #[97, 98], #[97], #[116]⟩,
  ⟨[25, 30], 1, #[97, 98], #[97], #[116, 102]⟩,
  ⟨[26, 31], 1, #[97, 98], #[], #[116]⟩,
  ⟨[32], 1, #[], #[97], #[]⟩,
  ⟨[33], 1, #[97], #[97], #[116]⟩,
  ⟨[48, 50, 52, 54, 55], 2, #[98], #[97], #[102]⟩,
  ⟨[49, 51, 53], 2, #[97, 98], #[], #[102]⟩,
  ⟨[56], 2, #[97, 115], #[115], #[102]⟩,
  ⟨[57], 2, #[115], #[97, 115], #[102]⟩,
  ⟨[58], 2, #[97, 98], #[97], #[102]⟩,
  ⟨[64, 65, 66, 67, 68, 69, 70, 71], 3, #[], #[], #[]⟩,
  ⟨[72], 3, #[], #[108], #[]⟩,
  ⟨[73], 3, #[97], #[], #[]⟩,
  ⟨[74], 3, #[97], #[108], #[]⟩,
  ⟨[80], 3, #[], #[], #[102]⟩,
  ⟨[1], 4, #[], #[], #[102]⟩,
  ⟨[2], 4, #[], #[], #[116, 115]⟩,
  ⟨[3], 4, #[], #[], #[115]⟩,
  ⟨[96], 4, #[], #[97], #[115]⟩,
  ⟨[97], 4, #[97], #[], #[116, 115]⟩,
  ⟨[98], 4, #[], #[97], #[115]⟩,
  ⟨[99], 4, #[97], #[], #[102]⟩,
  ⟨[100], 4, #[], #[97], #[102]⟩,
  ⟨[101], 4, #[97], #[], #[102]⟩,
  ⟨[112, 113], 5, #[], #[], #[]⟩]
def tabF : Int → Option Rw := tabl.foldl putR (fun _ => none)
def MapF (w : World) (b n : Nat) (f : Int → Option Rw) : Prop :=
  ∃ D : DataW Value, w.ownsMap Tryd.prog 5 RV b n D ∧ ∀ k, 0 ≤ k → k < 256 → D.atKey (.int .u8 k) (.held (.agg zeroF)) = .held (.agg (gV (f k)))
structure Stp (o kb : Nat) (w w' : World) : Prop where
  os : w'.os = w.os
  tape : w'.tape = w.tape
  output : w'.output = w.output
  size : w.heap.size ≤ w'.heap.size
  block : ∀ k, k < w.heap.size → k ≠ o → k ≠ kb → w'.heap[k]? = w.heap[k]?
abbrev onceO (d : Int) : Obj := .cells #[.int .u32 d, .int .i32 0, .int .u32 0] 72
abbrev askV (o kb : Nat) : Value := .func (.func 27) #[] #[.pointer (some ⟨o, 0, none⟩), .pointer (some ⟨kb, 0, none⟩)]
def Undone (w : World) (o kb : Nat) : Prop := w.heap[o]? = some (onceO 0) ∧ w.heap[kb]? = some (.cells #[.map none] 73 (0, 0))
def Done (w : World) (o kb : Nat) : Prop := w.heap[o]? = some (onceO 1) ∧ ∃ b n, w.heap[kb]? = some (.cells #[.map (some b)] 73 (0, 0)) ∧ MapF w b n tabF
def Asked (w : World) (o kb : Nat) : Prop := o ≠ kb ∧ (Undone w o kb ∨ Done w o kb)
structure Tb (W w : World) (p o kb : Nat) : Prop where
  tab : w.heap[p]? = some (.cells #[askV o kb] 87 (0, 0))
  asked : Asked w o kb
  po : p ≠ o
  pk : p ≠ kb
  kep : Kep W w
  go : W.heap.size ≤ o
  gk : W.heap.size ≤ kb
structure TW (w w2 : World) (p o kb : Nat) where
  val : World
  tb : Tb w val p o kb
  st : Stp o kb w2 val
theorem workS_alu (s : Sta) (op : Int) (a b : Nat) (imm v : Int) (hc : 16 ≤ op ∧ op ≤ 33) : workS s op a b imm v = reckS s op a b imm := by
  have e : cls op = 2 := by unfold cls; rw [if_neg (by omega), if_pos hc]
  unfold workS; rw [e]; rfl
theorem workS_mem (s : Sta) (op : Int) (a b : Nat) (imm v : Int) (hc : 48 ≤ op ∧ op ≤ 58) : workS s op a b imm v = movS s op a v := by
  have e : cls op = 3 := by unfold cls; rw [if_neg (by omega), if_neg (by omega), if_pos hc]
  unfold workS; rw [e]; rfl
theorem workS_jmp (s : Sta) (op : Int) (a b : Nat) (imm v : Int) (hc : 64 ≤ op ∧ op ≤ 74) : workS s op a b imm v = jmpS s op a imm := by
  have e : cls op = 4 := by unfold cls; rw [if_neg (by omega), if_neg (by omega), if_neg (by omega), if_pos hc]
  unfold workS; rw [e]; rfl
theorem workS_nop (s : Sta) (a b : Nat) (imm v : Int) : workS s 0 a b imm v = s := by unfold workS; rfl
end Go.Proofs.YthimfiihebdchaaDoor
