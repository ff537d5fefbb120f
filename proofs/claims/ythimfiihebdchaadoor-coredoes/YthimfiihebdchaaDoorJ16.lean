/- Part of a proof. -/
import Derived.Test.YthimfiihebdchaaDoorJ14
import Derived.Test.YthimfiihebdchaaDoorJ15
namespace Go.Proofs.YthimfiihebdchaaDoor
open Go.RowKit
set_option linter.unusedVariables false
set_option linter.unusedSimpArgs false
theorem moved_any (s : Sta) (op : Int) (a b : Nat) (imm v : Int) (w : World) (ok : s.Ok) (m : 48 ≤ op ∧ op ≤ 58) (ha : (a : Int) < 8) (hv : 0 ≤ v ∧ v < 4294967296) :
    Calls Tryd.prog 25 #[.agg s.v, .agg (insA op a b imm), .int .u32 v] w fun e w' => e = .returned (.agg (movS s op a v).v) ∧ Kep w w' := by
  rcases mem_ops m with rfl | rfl | rfl | rfl | rfl | rfl | rfl | rfl | rfl | rfl | rfl
  · exact moved_48 s a b imm v w ok ha hv
  · exact moved_49 s a b imm v w ok ha hv
  · exact moved_50 s a b imm v w ok ha hv
  · exact moved_51 s a b imm v w ok ha hv
  · exact moved_52 s a b imm v w ok ha hv
  · exact moved_53 s a b imm v w ok ha hv
  · exact moved_54 s a b imm v w ok ha hv
  · exact moved_55 s a b imm v w ok ha hv
  · exact moved_56 s a b imm v w ok ha hv
  · exact moved_57 s a b imm v w ok ha hv
  · exact moved_58 s a b imm v w ok ha hv
set_option maxHeartbeats 16000000 in
set_option maxRecDepth 100000 in
theorem rmade_any (op : Int) (hop : 17 ≤ op ∧ op ≤ 31) (x y : Int) (hx : 0 ≤ x ∧ x < 4294967296) (hy : 0 ≤ y ∧ y < 4294967296) (hi : aluIs op y = true) (w : World) :
    Calls Tryd.prog 21 #[.int .u8 op, .int .u32 x, .int .u32 y] w fun e w' => e = .returned (.tuple #[.int .u32 (alu op x y).1, .int .u32 (alu op x y).2, .bool true]) ∧ Kep w w' := by
  obtain ⟨m, rfl⟩ : ∃ m : Nat, x = m := ⟨x.toNat, by omega⟩
  have hk : y % 32 = ((y % 32).toNat : Int) := by omega
  obtain ⟨x1, x2, x3⟩ := and_bits (m : Int) y (by omega) (by omega) (by omega) (by omega)
  obtain ⟨y1, y2, y3⟩ := or_bits (m : Int) y (by omega) (by omega) (by omega) (by omega)
  obtain ⟨z1, z2, z3⟩ := xor_bits (m : Int) y (by omega) (by omega) (by omega) (by omega)
  have ex : low ((m : Int).toNat &&& y.toNat) 32 = bits .and .u32 (m : Int) y := by rw [x1]; exact low_all _ x2
  have ey : low ((m : Int).toNat ||| y.toNat) 32 = bits .or .u32 (m : Int) y := by rw [y1]; exact low_all _ y2
  have ez : low ((m : Int).toNat ^^^ y.toNat) 32 = bits .xor .u32 (m : Int) y := by rw [z1]; exact low_all _ z2
  have LA : Hid (∀ w, Calls Tryd.prog 43 #[.int .i64 0, .int .u32 (m : Int), .int .u32 y] w fun e w' => e = .returned (.tuple #[.int .u32 (bits .and .u32 (m : Int) y), .int .u32 (fl (bits .and .u32 (m : Int) y) false false)]) ∧ w' = w) := fun w => by
    have := logic_any 0 (m : Int) y _ w (by omega) (by omega) (by omega) (by omega) (by omega) x3; rw [ex] at this; exact this
  have LO : Hid (∀ w, Calls Tryd.prog 43 #[.int .i64 1, .int .u32 (m : Int), .int .u32 y] w fun e w' => e = .returned (.tuple #[.int .u32 (bits .or .u32 (m : Int) y), .int .u32 (fl (bits .or .u32 (m : Int) y) false false)]) ∧ w' = w) := fun w => by
    have := logic_any 1 (m : Int) y _ w (by omega) (by omega) (by omega) (by omega) (by omega) y3; rw [ey] at this; exact this
  have LX : Hid (∀ w, Calls Tryd.prog 43 #[.int .i64 2, .int .u32 (m : Int), .int .u32 y] w fun e w' => e = .returned (.tuple #[.int .u32 (bits .xor .u32 (m : Int) y), .int .u32 (fl (bits .xor .u32 (m : Int) y) false false)]) ∧ w' = w) := fun w => by
    have := logic_any 2 (m : Int) y _ w (by omega) (by omega) (by omega) (by omega) (by omega) z3; rw [ez] at this; exact this
  clear x1 x2 x3 y1 y2 y3 z1 z2 z3 ex ey ez
  rcases (by omega : op = 17 ∨ op = 18 ∨ op = 19 ∨ op = 20 ∨ op = 21 ∨ op = 22 ∨ op = 23 ∨ op = 24 ∨ op = 25 ∨ op = 26 ∨ op = 27 ∨ op = 28 ∨ op = 29 ∨ op = 30 ∨ op = 31) with rfl | rfl | rfl | rfl | rfl | rfl | rfl | rfl | rfl | rfl | rfl | rfl | rfl | rfl | rfl
  all_goals
    clear hop
    have hnz : (y = 0 → (25 : Int) ≠ 25) ∨ True := Or.inr trivial
    clear hnz
    go_enter Tryd.func21, Tryd.ntmps21
    go_wp2_with fail
    first
      | (go_at_call 23; with_reducible refine (refAdd_any _ _ _ (by omega) (by omega) (by omega) (by omega)).mono ?_)
      | (go_at_call 42; with_reducible refine (refSub_any _ _ _ (by omega) (by omega) (by omega) (by omega)).mono ?_)
      | (go_at_call 43; with_reducible refine (LA.out _).mono ?_)
      | (go_at_call 43; with_reducible refine (LO.out _).mono ?_)
      | (go_at_call 43; with_reducible refine (LX.out _).mono ?_)
      | (go_at_call 47; with_reducible refine (refShl_any m (y % 32).toNat _ _ (by omega) (by omega) (by omega) hk).mono ?_)
      | (go_at_call 47; with_reducible refine (refShr_any m (y % 32).toNat _ _ (by omega) (by omega) (by omega) hk).mono ?_)
      | (go_at_call 48; with_reducible refine (refMul_any _ _ _ (by omega) (by omega) (by omega) (by omega)).mono ?_)
      | (go_at_call 44; with_reducible refine (refRor_any m (y % 32).toNat _ _ (by omega) (by omega) (by omega) hk).mono ?_)
      | (go_at_call 44; with_reducible refine (refSar_any m (y % 32).toNat _ _ (by omega) (by omega) (by omega) hk).mono ?_)
      | (go_at_call 45; with_reducible refine (refMulh_any _ _ _ (by omega) (by omega) (by omega) (by omega)).mono ?_)
      | (go_at_call 49; with_reducible refine (refDiv_any _ _ _ (by omega) (by omega) (by simp [aluIs] at hi; omega)).mono ?_)
      | (go_at_call 46; with_reducible refine (refRem_any _ _ _ (by omega) (by omega) (by simp [aluIs] at hi; omega)).mono ?_)
    rintro e w1 ⟨rfl, K⟩
    have K' : Hid (Kep w w1) := by first | exact K | (rw [K]; exact Kep.refl _)
    clear K hk hx hy hi LA LO LX
    go_wp2_with fail
    go_ret3
    exact ⟨by rfl, K'.out⟩
set_option maxHeartbeats 16000000 in
theorem rmade_no (op : Int) (x : Int) (hop : op = 25 ∨ op = 30) (w : World) :
    Calls Tryd.prog 21 #[.int .u8 op, .int .u32 x, .int .u32 0] w fun e w' => e = .returned (.tuple #[.int .u32 0, .int .u32 0, .bool false]) ∧ Kep w w' := by
  rcases hop with rfl | rfl
  all_goals
    go_enter Tryd.func21, Tryd.ntmps21
    go_wp2_with fail
    first
      | refine (refDiv_no _ _).mono ?_
      | refine (refRem_no _ _).mono ?_
    rintro e w1 ⟨rfl, rfl⟩
    go_wp2_with fail
    go_ret3
    exact ⟨by rfl, Kep.refl _⟩
set_option maxHeartbeats 16000000 in
set_option maxRecDepth 100000 in
theorem rwant_a_4_3 (s : Sta) (op : Int) (a b : Nat) (imm : Int) (w : World) (ok : s.Ok) (m : 48 ≤ op ∧ op ≤ 58) (ha : (a : Int) < 8) (hb : (b : Int) < 8) (h2 : -2147483648 ≤ imm) (h3 : imm ≤ 2147483647)
    (h56 : op = 56) (hm : mayB (rowOf op false) a b imm = true) (ek : rK op = 3) (en : rN op = 4) :
    Calls Tryd.prog 24 #[.agg s.v, .agg (insA op a b imm)] w fun e w' => e = .returned (.tuple #[.agg (accV (wantA s op a b imm)), .agg (fltV (wantF s op a b imm))]) ∧ Kep w w' := by
  have RB : Hid (∀ w, Calls Tryd.prog 52 #[.int .u8 op] w fun e w' => e = .returned (.int .i64 4) ∧ w' = w) := fun w => by
    have := refBytes_any op w m; rw [en] at this; exact this
  have RR : Hid (∀ w, Calls Tryd.prog 53 #[.int .u8 op] w fun e w' => e = .returned (.bool ((3 : Int) == 2)) ∧ w' = w) := fun w => by
    have := refReads_any op w m; rw [ek] at this; exact this
  have MA : Hid (∀ w, Calls Tryd.prog 19 #[.agg (insA op a b imm), .bool false] w fun e w' => e = .returned (.bool true) ∧ Kep w w') := fun w => by
    have := refMay_any op a b imm false w (by omega) (by omega) h2 h3; rw [hm] at this; exact this
  have hon : wantOn op a b imm = true := by unfold wantOn; rw [hm, en]; rfl
  have hA : Hid (adr s op b imm % 4 = 0 → wantA s op a b imm = (3, adr s op b imm, 4, if (3 : Int) = 3 then lowI (s.r a) 4 else 0) ∧ wantF s op a b imm = (0, 0)) := fun h => by
    unfold wantA wantF; rw [hon, ek, en]; exact ⟨if_pos ⟨rfl, h⟩, if_neg (fun q => q.2 h)⟩
  have hB : Hid (adr s op b imm % 4 ≠ 0 → wantA s op a b imm = (0, 0, 0, 0) ∧ wantF s op a b imm = (4, adr s op b imm)) := fun h => by
    unfold wantA wantF; rw [hon, en]; exact ⟨if_neg (fun q => h q.2), if_pos ⟨rfl, h⟩⟩
  have hr : 0 ≤ adr s op b imm ∧ adr s op b imm < 4294967296 := by
    have := ok.r 7
    unfold adr
    by_cases q1 : op = 56
    · rw [if_pos q1]; omega
    · rw [if_neg q1]
      by_cases q2 : op = 57
      · rw [if_pos q2]; omega
      · rw [if_neg q2]; omega
  have hd : Hid ((op = 56 → adr s op b imm = (s.r 7 - 4) % 4294967296) ∧ (op = 57 → adr s op b imm = s.r 7) ∧ (op ≠ 56 → op ≠ 57 → adr s op b imm = (s.r b + imm % 4294967296) % 4294967296)) := by
    refine ⟨fun h => ?_, fun h => ?_, fun h h' => ?_⟩
    · unfold adr; rw [if_pos h]
    · unfold adr; rw [if_neg (by omega), if_pos h]
    · unfold adr; rw [if_neg h, if_neg h']
  generalize adr s op b imm = at_ at *
  generalize wantA s op a b imm = qa at *
  generalize wantF s op a b imm = qf at *
  have ra := ok.r a
  have rb := ok.r b
  have r7 := ok.r 7
  have l1 : decide (op < 48) = false := by simp; omega
  have l2 : decide (op > 58) = false := by simp; omega
  clear hm ek en hon ok
  have H56 : Hid (op = 56) := h56
  clear h56
  go_enter Tryd.func24, Tryd.ntmps24
  go_wp2_with fail
  refine (MA.out _).mono ?_
  rintro e w1 ⟨rfl, g1⟩
  have G1 : Hid (Kep w w1) := kep_trans (((((Kep.refl _).alloc _).alloc _).alloc _).alloc _) g1
  obtain ⟨B0, B1, B2, B3⟩ := four_blocks w _ _ _ _
  replace B0 := g1.block B0
  replace B1 := g1.block B1
  have Z2 : Hid (w1.heap[w.heap.size + 1 + 1]? = _) := g1.block B2
  have Z3 : Hid (w1.heap[w.heap.size + 1 + 1 + 1]? = _) := g1.block B3
  have z3 := block_lt Z3.out
  obtain ⟨i0, i1, i2, i3⟩ := ins_at B1
  have ca := At.reg (s := s) B0 a (by omega)
  have cb := At.reg (s := s) B0 b (by omega)
  have c7 := At.reg (s := s) B0 7 (by omega)
  clear g1 B0 B1 B2 B3
  go_wp2_with fail
  go_quiet (fail)
  have h56 := H56.out
  have he := (hd.out.1 h56).symm
  have x1 : (op == 56) = true := by rw [h56]; rfl
  have x2 : (op == 57) = false := by rw [h56]; rfl
  clear hd l1 l2 h56
  go_wp2_with (first
    | (go_at_call 52; refine (RB.out _).mono ?_; rintro e w' ⟨rfl, rfl⟩)
    | (go_at_call 53; refine (RR.out _).mono ?_; rintro e w' ⟨rfl, rfl⟩)
    | (go_at_call 54; refine (refLow_any _ _ _ (by omega) (by omega) (by simp)).mono ?_; rintro e w' ⟨rfl, rfl⟩)
    | (refine wpList_store_row (by rfl) 57 (.tmp 4) _ (by rfl) (w.heap.size + 1 + 1) _ (by rfl) (by rfl) 57 #[.int .i64 0, .int .u32 0, .int .i64 0, .int .u32 0] blkA (by exact size_acc) (by rfl) (by simp [Value.oneCell']) ?_)
    | (refine wpList_store_row (by rfl) 29 (.tmp 5) _ (by rfl) (w.heap.size + 1 + 1 + 1) _ (by rfl) (by rfl) 29 #[.int .i64 0, .int .u32 0] blkA (by exact size_flt) (by rfl) (by simp [Value.oneCell']) ?_))
  all_goals
    try simp only [Exit.inBlock, Exit.then]
    refine bodyPost_ret (resultsCC rfl _ _ (w.heap.size + 1 + 1) 57 _ (0, 0) _ (w.heap.size + 1 + 1 + 1) 29 _ (0, 0) _ (by rfl) blkA Tryd.underlying57 rfl (by exact size_acc) (by rfl) blkA Tryd.underlying29 rfl (by exact size_flt)) rfl ⟨?_, by (repeat (first | (with_reducible assumption) | (with_reducible exact Kep.refl _) | (with_reducible exact Hid.out (by assumption)) | (with_reducible refine Kep.alloc ?_ _) | (with_reducible refine Kep.drew ?_) | (with_reducible refine Kep.drewN ?_ _) | (with_reducible refine Kep.setRow ?_ _ _ (by (first | omega | (simp only [World.size_alloc, World.size_setCell, size_setRow, World.size_drew]; done) | (simp only [World.size_alloc, World.size_setCell, size_setRow, World.size_drew]; omega)))) | (with_reducible refine Kep.setCell ?_ (by first | omega | (simp only []; omega) | (show _ ≤ _; omega)) _)))⟩
    first
      | (obtain ⟨rfl, rfl⟩ := hA.out (by first | omega | (simp_all; done) | (simp_all; omega)); rfl)
      | (obtain ⟨rfl, rfl⟩ := hB.out (by first | omega | (simp_all; done) | (simp_all; omega)); rfl)
set_option maxHeartbeats 16000000 in
set_option maxRecDepth 100000 in
theorem rwant_b_4_2 (s : Sta) (op : Int) (a b : Nat) (imm : Int) (w : World) (ok : s.Ok) (m : 48 ≤ op ∧ op ≤ 58) (ha : (a : Int) < 8) (hb : (b : Int) < 8) (h2 : -2147483648 ≤ imm) (h3 : imm ≤ 2147483647)
    (h57 : op = 57) (hm : mayB (rowOf op false) a b imm = true) (ek : rK op = 2) (en : rN op = 4) :
    Calls Tryd.prog 24 #[.agg s.v, .agg (insA op a b imm)] w fun e w' => e = .returned (.tuple #[.agg (accV (wantA s op a b imm)), .agg (fltV (wantF s op a b imm))]) ∧ Kep w w' := by
  have RB : Hid (∀ w, Calls Tryd.prog 52 #[.int .u8 op] w fun e w' => e = .returned (.int .i64 4) ∧ w' = w) := fun w => by
    have := refBytes_any op w m; rw [en] at this; exact this
  have RR : Hid (∀ w, Calls Tryd.prog 53 #[.int .u8 op] w fun e w' => e = .returned (.bool ((2 : Int) == 2)) ∧ w' = w) := fun w => by
    have := refReads_any op w m; rw [ek] at this; exact this
  have MA : Hid (∀ w, Calls Tryd.prog 19 #[.agg (insA op a b imm), .bool false] w fun e w' => e = .returned (.bool true) ∧ Kep w w') := fun w => by
    have := refMay_any op a b imm false w (by omega) (by omega) h2 h3; rw [hm] at this; exact this
  have hon : wantOn op a b imm = true := by unfold wantOn; rw [hm, en]; rfl
  have hA : Hid (adr s op b imm % 4 = 0 → wantA s op a b imm = (2, adr s op b imm, 4, if (2 : Int) = 3 then lowI (s.r a) 4 else 0) ∧ wantF s op a b imm = (0, 0)) := fun h => by
    unfold wantA wantF; rw [hon, ek, en]; exact ⟨if_pos ⟨rfl, h⟩, if_neg (fun q => q.2 h)⟩
  have hB : Hid (adr s op b imm % 4 ≠ 0 → wantA s op a b imm = (0, 0, 0, 0) ∧ wantF s op a b imm = (4, adr s op b imm)) := fun h => by
    unfold wantA wantF; rw [hon, en]; exact ⟨if_neg (fun q => h q.2), if_pos ⟨rfl, h⟩⟩
  have hr : 0 ≤ adr s op b imm ∧ adr s op b imm < 4294967296 := by
    have := ok.r 7
    unfold adr
    by_cases q1 : op = 56
    · rw [if_pos q1]; omega
    · rw [if_neg q1]
      by_cases q2 : op = 57
      · rw [if_pos q2]; omega
      · rw [if_neg q2]; omega
  have hd : Hid ((op = 56 → adr s op b imm = (s.r 7 - 4) % 4294967296) ∧ (op = 57 → adr s op b imm = s.r 7) ∧ (op ≠ 56 → op ≠ 57 → adr s op b imm = (s.r b + imm % 4294967296) % 4294967296)) := by
    refine ⟨fun h => ?_, fun h => ?_, fun h h' => ?_⟩
    · unfold adr; rw [if_pos h]
    · unfold adr; rw [if_neg (by omega), if_pos h]
    · unfold adr; rw [if_neg h, if_neg h']
  generalize adr s op b imm = at_ at *
  generalize wantA s op a b imm = qa at *
  generalize wantF s op a b imm = qf at *
  have ra := ok.r a
  have rb := ok.r b
  have r7 := ok.r 7
  have l1 : decide (op < 48) = false := by simp; omega
  have l2 : decide (op > 58) = false := by simp; omega
  clear hm ek en hon ok
  have H57 : Hid (op = 57) := h57
  clear h57
  go_enter Tryd.func24, Tryd.ntmps24
  go_wp2_with fail
  refine (MA.out _).mono ?_
  rintro e w1 ⟨rfl, g1⟩
  have G1 : Hid (Kep w w1) := kep_trans (((((Kep.refl _).alloc _).alloc _).alloc _).alloc _) g1
  obtain ⟨B0, B1, B2, B3⟩ := four_blocks w _ _ _ _
  replace B0 := g1.block B0
  replace B1 := g1.block B1
  have Z2 : Hid (w1.heap[w.heap.size + 1 + 1]? = _) := g1.block B2
  have Z3 : Hid (w1.heap[w.heap.size + 1 + 1 + 1]? = _) := g1.block B3
  have z3 := block_lt Z3.out
  obtain ⟨i0, i1, i2, i3⟩ := ins_at B1
  have ca := At.reg (s := s) B0 a (by omega)
  have cb := At.reg (s := s) B0 b (by omega)
  have c7 := At.reg (s := s) B0 7 (by omega)
  clear g1 B0 B1 B2 B3
  go_wp2_with fail
  go_quiet (fail)
  have h57 := H57.out
  have he := (hd.out.2.1 h57).symm
  have x1 : (op == 56) = false := by rw [h57]; rfl
  have x2 : (op == 57) = true := by rw [h57]; rfl
  clear hd l1 l2 h57
  go_wp2_with (first
    | (go_at_call 52; refine (RB.out _).mono ?_; rintro e w' ⟨rfl, rfl⟩)
    | (go_at_call 53; refine (RR.out _).mono ?_; rintro e w' ⟨rfl, rfl⟩)
    | (go_at_call 54; refine (refLow_any _ _ _ (by omega) (by omega) (by simp)).mono ?_; rintro e w' ⟨rfl, rfl⟩)
    | (refine wpList_store_row (by rfl) 57 (.tmp 4) _ (by rfl) (w.heap.size + 1 + 1) _ (by rfl) (by rfl) 57 #[.int .i64 0, .int .u32 0, .int .i64 0, .int .u32 0] blkA (by exact size_acc) (by rfl) (by simp [Value.oneCell']) ?_)
    | (refine wpList_store_row (by rfl) 29 (.tmp 5) _ (by rfl) (w.heap.size + 1 + 1 + 1) _ (by rfl) (by rfl) 29 #[.int .i64 0, .int .u32 0] blkA (by exact size_flt) (by rfl) (by simp [Value.oneCell']) ?_))
  all_goals
    try simp only [Exit.inBlock, Exit.then]
    refine bodyPost_ret (resultsCC rfl _ _ (w.heap.size + 1 + 1) 57 _ (0, 0) _ (w.heap.size + 1 + 1 + 1) 29 _ (0, 0) _ (by rfl) blkA Tryd.underlying57 rfl (by exact size_acc) (by rfl) blkA Tryd.underlying29 rfl (by exact size_flt)) rfl ⟨?_, by (repeat (first | (with_reducible assumption) | (with_reducible exact Kep.refl _) | (with_reducible exact Hid.out (by assumption)) | (with_reducible refine Kep.alloc ?_ _) | (with_reducible refine Kep.drew ?_) | (with_reducible refine Kep.drewN ?_ _) | (with_reducible refine Kep.setRow ?_ _ _ (by (first | omega | (simp only [World.size_alloc, World.size_setCell, size_setRow, World.size_drew]; done) | (simp only [World.size_alloc, World.size_setCell, size_setRow, World.size_drew]; omega)))) | (with_reducible refine Kep.setCell ?_ (by first | omega | (simp only []; omega) | (show _ ≤ _; omega)) _)))⟩
    first
      | (obtain ⟨rfl, rfl⟩ := hA.out (by first | omega | (simp_all; done) | (simp_all; omega)); rfl)
      | (obtain ⟨rfl, rfl⟩ := hB.out (by first | omega | (simp_all; done) | (simp_all; omega)); rfl)
end Go.Proofs.YthimfiihebdchaaDoor
