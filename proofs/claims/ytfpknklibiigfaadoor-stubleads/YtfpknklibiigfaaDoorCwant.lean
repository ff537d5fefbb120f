/- Want: the access that an instruction wishes. -/
import Derived.Test.YtfpknklibiigfaaDoorCsml
import Derived.Test.YtfpknklibiigfaaDoorAuto
namespace Go.Proofs.YtfpknklibiigfaaDoor
open Go.RowKit
set_option linter.unusedVariables false
set_option linter.unusedSimpArgs false

theorem size_acc : (Tryd.prog.info? 88).map (·.size) = some 4 := by kernel_rfl

set_option maxHeartbeats 1600000 in
set_option maxRecDepth 100000 in
theorem want_core (s : Sta) (op : Int) (a b : Nat) (imm k n : Int) (w : World) (ok : s.Ok) (h0 : 0 ≤ op) (h1 : op < 256) (ha : (a : Int) < 8) (hb : (b : Int) < 8) (h2 : -2147483648 ≤ imm) (h3 : imm ≤ 2147483647)
    (hk : k = 2 ∨ k = 3) (hn : n = 1 ∨ n = 2 ∨ n = 4) (hm : mayB (rowOf op false) a b imm = true) (ek : rK op = k) (en : rN op = n) (hT : Tabs w) :
    Calls Tryd.prog 40 #[.agg s.v, .agg (insA op a b imm)] w fun e w' => e = .returned (.tuple #[.agg (accV (wantA s op a b imm)), .agg (fltV (wantF s op a b imm))]) ∧ Kep w w' := by
  have RA : Hid (∀ w, Calls Tryd.prog 60 #[.int .u8 op] w fun e w' => e = .returned (.tuple #[.int .i64 k, .int .i64 n]) ∧ w' = w) := fun w => by
    have := reach_any op w h0 h1; rw [ek, en] at this; exact this
  have MA : Hid (∀ w, Tabs w → Calls Tryd.prog 32 #[.agg (insA op a b imm), .bool false] w fun e w' => e = .returned (.bool true) ∧ Kep w w') := fun w hT => by
    have := may_any op a b imm false w h0 h1 h2 h3 hT; rw [hm] at this; exact this
  have AA : Hid (∀ w, Calls Tryd.prog 61 #[.agg s.v, .agg (insA op a b imm)] w fun e w' => e = .returned (.int .u32 (adr s op b imm)) ∧ Kep w w') := fun w => address_any s op a b imm w ok hb h2 h3
  have hon : wantOn op a b imm = true := by unfold wantOn; rw [hm, en]; rcases hn with rfl | rfl | rfl <;> rfl
  have hA : Hid (adr s op b imm % n = 0 → wantA s op a b imm = (k, adr s op b imm, n, if k = 3 then lowI (s.r a) n else 0) ∧ wantF s op a b imm = (0, 0)) := fun h => by
    unfold wantA wantF; rw [hon, ek, en]; exact ⟨if_pos ⟨rfl, h⟩, if_neg (fun q => q.2 h)⟩
  have hB : Hid (adr s op b imm % n ≠ 0 → wantA s op a b imm = (0, 0, 0, 0) ∧ wantF s op a b imm = (4, adr s op b imm)) := fun h => by
    unfold wantA wantF; rw [hon, en]; exact ⟨if_neg (fun q => h q.2), if_pos ⟨rfl, h⟩⟩
  have hr : 0 ≤ adr s op b imm ∧ adr s op b imm < 4294967296 := by
    have := ok.r 7
    unfold adr; split
    · omega
    · split <;> omega
  generalize adr s op b imm = at_ at *
  generalize wantA s op a b imm = qa at *
  generalize wantF s op a b imm = qf at *
  have ra := ok.r a
  have va := v_reg s a (by omega)
  have vs := v_size s
  clear hm ek en hon ok
  rcases hn with rfl | rfl | rfl
  all_goals rcases hk with rfl | rfl
  all_goals
    go_enter Tryd.func40, Tryd.ntmps40
    go_wp2_with fail
    refine (RA.out _).mono ?_
    rintro e w' ⟨rfl, rfl⟩
    go_wp2_with fail
    refine (MA.out _ (hT.grown (((((Kep.refl _).alloc _).alloc _).alloc _).alloc _))).mono ?_
    rintro e w1 ⟨rfl, g1⟩
    have G1 : Hid (Kep w w1) := kep_trans (((((Kep.refl _).alloc _).alloc _).alloc _).alloc _) g1
    obtain ⟨B0, B1, B2, B3⟩ := four_blocks w _ _ _ _
    replace B0 := g1.block B0
    replace B1 := g1.block B1
    replace B2 := g1.block B2
    replace B3 := g1.block B3
    clear g1
    obtain ⟨i0, i1, i2, i3⟩ := ins_at B1
    have ca := At.reg (s := s) B0 a (by omega)
    have H0 : Hid (At w1 w.heap.size s) := B0
    clear B0
    go_wp2_with (refine wpList_load_row rfl 43 _ rfl w.heap.size rfl 43 s.v (0, 0) _ H0.out Tryd.underlying43 rfl size_sta ?_)
    refine (AA.out _).mono ?_
    rintro e w2 ⟨rfl, g2⟩
    have G2 : Hid (Kep w w2) := kep_trans G1 g2
    replace B1 := g2.block B1
    replace B2 := g2.block B2
    replace B3 := g2.block B3
    have H2 : At w2 w.heap.size s := H0.out.kep g2
    clear i0 i1 i2 i3 ca
    obtain ⟨i0, i1, i2, i3⟩ := ins_at B1
    have ca := H2.reg a (by omega)
    clear g2 H2 H0 G1
    have z3 := block_lt B3
    have z0 : w.heap.size < w2.heap.size := by omega
    have z1 : w.heap.size + 1 < w2.heap.size := by omega
    have z2 : w.heap.size + 1 + 1 < w2.heap.size := by omega
    have Z2 : Hid (w2.heap[w.heap.size + 1 + 1]? = _) := B2
    have Z3 : Hid (w2.heap[w.heap.size + 1 + 1 + 1]? = _) := B3
    clear B1 B2 B3
    go_wp2_with (first
      | (go_at_call 62; refine (lowest_any _ _ _ (by omega) (by omega) (by simp)).mono ?_; rintro e w' ⟨rfl, rfl⟩)
      | (refine wpList_store_row (by rfl) 88 (.tmp 4) _ (by rfl) (w.heap.size + 1 + 1) _ (by rfl) (by rfl) 88 #[.int .i64 0, .int .u32 0, .int .i64 0, .int .u32 0] blkA (by exact size_acc) (by rfl) (by simp [Value.oneCell']) ?_)
      | (refine wpList_store_row (by rfl) 45 (.tmp 5) _ (by rfl) (w.heap.size + 1 + 1 + 1) _ (by rfl) (by rfl) 45 #[.int .i64 0, .int .u32 0] blkA (by exact size_flt) (by rfl) (by simp [Value.oneCell']) ?_))
    all_goals
      try simp only [Exit.inBlock, Exit.then]
      refine bodyPost_ret (resultsCC rfl _ _ (w.heap.size + 1 + 1) 88 _ (0, 0) _ (w.heap.size + 1 + 1 + 1) 45 _ (0, 0) _ (by rfl) blkA Tryd.underlying88 rfl (by exact size_acc) (by rfl) blkA Tryd.underlying45 rfl (by exact size_flt)) rfl ⟨?_, kepA⟩
      first
        | (obtain ⟨rfl, rfl⟩ := hA.out (by first | omega | (simp_all; done) | (simp_all; omega)); rfl)
        | (obtain ⟨rfl, rfl⟩ := hB.out (by first | omega | (simp_all; done) | (simp_all; omega)); rfl)

set_option maxHeartbeats 1600000 in
set_option maxRecDepth 100000 in
theorem want_no (s : Sta) (op : Int) (a b : Nat) (imm : Int) (w : World) (h0 : 0 ≤ op) (h1 : op < 256) (h2 : -2147483648 ≤ imm) (h3 : imm ≤ 2147483647)
    (hm : wantOn op a b imm = false) (hT : Tabs w) :
    Calls Tryd.prog 40 #[.agg s.v, .agg (insA op a b imm)] w fun e w' => e = .returned (.tuple #[.agg (accV (wantA s op a b imm)), .agg (fltV (wantF s op a b imm))]) ∧ Kep w w' := by
  have ea : wantA s op a b imm = (0, 0, 0, 0) := by unfold wantA; rw [hm]; exact if_neg (fun q => Bool.noConfusion q.1)
  have ef : wantF s op a b imm = (0, 0) := by unfold wantF; rw [hm]; exact if_neg (fun q => Bool.noConfusion q.1)
  rw [ea, ef]
  have RA : Hid (∀ w, Calls Tryd.prog 60 #[.int .u8 op] w fun e w' => e = .returned (.tuple #[.int .i64 (rK op), .int .i64 (rN op)]) ∧ w' = w) := fun w => reach_any op w h0 h1
  have MA : Hid (∀ w, Tabs w → Calls Tryd.prog 32 #[.agg (insA op a b imm), .bool false] w fun e w' => e = .returned (.bool (mayB (rowOf op false) a b imm)) ∧ Kep w w') := fun w hT => may_any op a b imm false w h0 h1 h2 h3 hT
  unfold wantOn at hm
  clear ea ef
  by_cases hn : rN op = 0
  · rw [hn] at RA
    clear MA hm hn
    go_enter Tryd.func40, Tryd.ntmps40
    go_wp2_with fail
    refine (RA.out _).mono ?_
    rintro e w' ⟨rfl, rfl⟩
    go_wp2_with fail
    try simp only [Exit.inBlock, Exit.then]
    exact bodyPost_ret (resultsCC rfl _ _ (w.heap.size + 1 + 1) 88 _ (0, 0) _ (w.heap.size + 1 + 1 + 1) 45 _ (0, 0) _ (by rfl) blkA Tryd.underlying88 rfl (by exact size_acc) (by rfl) blkA Tryd.underlying45 rfl (by exact size_flt)) rfl ⟨by rfl, kepA⟩
  · have hm' : mayB (rowOf op false) a b imm = false := by simpa [hn] using hm
    have hz : (rN op == 0) = false := ne_lit hn
    rw [hm'] at MA
    clear hm' hm hn
    go_enter Tryd.func40, Tryd.ntmps40
    go_wp2_with fail
    refine (RA.out _).mono ?_
    rintro e w' ⟨rfl, rfl⟩
    go_wp2_with fail
    refine (MA.out _ (hT.grown (((((Kep.refl _).alloc _).alloc _).alloc _).alloc _))).mono ?_
    rintro e w2 ⟨rfl, g1⟩
    have G2 : Hid (Kep w w2) := kep_trans (((((Kep.refl _).alloc _).alloc _).alloc _).alloc _) g1
    obtain ⟨B0, B1, B2, B3⟩ := four_blocks w _ _ _ _
    have Z2 : Hid (w2.heap[w.heap.size + 1 + 1]? = _) := g1.block B2
    have Z3 : Hid (w2.heap[w.heap.size + 1 + 1 + 1]? = _) := g1.block B3
    have z3 := block_lt Z3.out
    clear g1 B0 B1 B2 B3
    go_wp2_with (first
      | (refine wpList_store_row (by rfl) 88 (.tmp 4) _ (by rfl) (w.heap.size + 1 + 1) _ (by rfl) (by rfl) 88 #[.int .i64 0, .int .u32 0, .int .i64 0, .int .u32 0] blkA (by exact size_acc) (by rfl) (by simp [Value.oneCell']) ?_)
      | (refine wpList_store_row (by rfl) 45 (.tmp 5) _ (by rfl) (w.heap.size + 1 + 1 + 1) _ (by rfl) (by rfl) 45 #[.int .i64 0, .int .u32 0] blkA (by exact size_flt) (by rfl) (by simp [Value.oneCell']) ?_))
    try simp only [Exit.inBlock, Exit.then]
    exact bodyPost_ret (resultsCC rfl _ _ (w.heap.size + 1 + 1) 88 _ (0, 0) _ (w.heap.size + 1 + 1 + 1) 45 _ (0, 0) _ (by rfl) blkA Tryd.underlying88 rfl (by exact size_acc) (by rfl) blkA Tryd.underlying45 rfl (by exact size_flt)) rfl ⟨by rfl, kepA⟩

theorem may_reg (op : Int) (host : Bool) (a b imm : Int) (h : mayB (rowOf op host) a b imm = true) : a ≤ 7 ∧ b ≤ 7 := by
  have hr := rowOf_lt op host
  generalize rowOf op host = r at h hr
  have q : ∀ r, r < 10 → f1 r ≤ 7 ∧ f2 r ≤ 7 := by decide
  have := q r hr
  simp [mayB] at h
  omega
theorem reach_cases (op : Int) (h : rN op ≠ 0) : (rK op = 2 ∨ rK op = 3) ∧ (rN op = 1 ∨ rN op = 2 ∨ rN op = 4) := by
  have m : 48 ≤ op ∧ op ≤ 58 := by
    rcases Classical.em (48 ≤ op ∧ op ≤ 58) with m | m
    · exact m
    · exact absurd (by unfold rN; rw [if_neg (by omega), if_neg (by omega), if_neg (by omega)]) h
  rcases mem_ops m with rfl | rfl | rfl | rfl | rfl | rfl | rfl | rfl | rfl | rfl | rfl <;> decide
theorem want_any (s : Sta) (op : Int) (a b : Nat) (imm : Int) (w : World) (ok : s.Ok) (h0 : 0 ≤ op) (h1 : op < 256) (h2 : -2147483648 ≤ imm) (h3 : imm ≤ 2147483647) (hT : Tabs w) :
    Calls Tryd.prog 40 #[.agg s.v, .agg (insA op a b imm)] w fun e w' => e = .returned (.tuple #[.agg (accV (wantA s op a b imm)), .agg (fltV (wantF s op a b imm))]) ∧ Kep w w' := by
  cases e : wantOn op a b imm with
  | false => exact want_no s op a b imm w h0 h1 h2 h3 e hT
  | true =>
    have e' := e
    unfold wantOn at e'
    simp only [Bool.and_eq_true, bne_iff_ne, ne_eq] at e'
    obtain ⟨hk, hn⟩ := reach_cases op e'.1
    obtain ⟨ha, hb⟩ := may_reg op false a b imm e'.2
    exact want_core s op a b imm _ _ w ok h0 h1 (by omega) (by omega) h2 h3 hk hn e'.2 rfl rfl hT
end Go.Proofs.YtfpknklibiigfaaDoor
