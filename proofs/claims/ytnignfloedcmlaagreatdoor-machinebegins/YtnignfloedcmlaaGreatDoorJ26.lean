/- Part of a proof. -/
import Derived.Deep.RegionHeld3
import Derived.Deep.CutRange
import Derived.Deep.DeepCutAuto
import Derived.Test.YtnignfloedcmlaaGreatDoorJ25
namespace Go.Proofs.YtnignfloedcmlaaGreatDoor
open Go.RowKit
set_option linter.unusedVariables false
set_option linter.unusedSimpArgs false
set_option maxHeartbeats 1600000 in
set_option maxRecDepth 100000 in
theorem do_none (s : Sta) (op : Int) (a b : Nat) (imm v : Int) (w : World) (ok : s.Ok) (h0 : 0 ≤ op) (h1 : op < 256) (h2 : -2147483648 ≤ imm) (h3 : imm ≤ 2147483647) (hn : isIns op a b imm = false) (hT : Tabs w) :
    Calls Tryz.prog 86 #[.agg s.v, .agg (insA op a b imm), .int .u32 v] w fun e w' => e = .returned (.tuple #[.agg s.v, .agg (fltV (1, s.pc))]) ∧ Kep w w' := by
  have WK : Hid (∀ w, Tabs w → Calls Tryz.prog 114 #[.agg (insA op a b imm)] w fun e w' => e = .returned .nilFunc ∧ Kep w w') := fun w hT => work_no op a b imm w h0 h1 h2 h3 hn hT
  have hT' : Hid (Tabs w) := hT
  have hnil : ∀ w, (binOp .eql 192 .nilFunc .nilFunc).run Tryz.prog w = .ok (.bool true) w := fun _ => by kernel_rfl
  clear hn hT h0 h1 h2 h3
  go_enter Tryz.func86, Tryz.ntmps86
  go_wp2_with fail
  refine (WK.out _ (hT'.out.grown kepA)).mono ?_
  rintro e w1 ⟨rfl, K1⟩
  have G1 : Hid (Kep w w1) := kep_trans kepA K1
  obtain ⟨B0, B1, B2, B3⟩ := five_blocks _ _ _ _ _ _ K1
  have z3 := block_lt B3
  have A0 : At w1 w.heap.size s := B0
  have c8 := A0.pc
  have H0 : Hid (At w1 w.heap.size s) := B0
  have H2 : Hid (w1.heap[w.heap.size + 1 + 1]? = _) := B2
  have H3 : Hid (w1.heap[w.heap.size + 1 + 1 + 1]? = _) := B3
  clear B0 B1 B2 B3 K1 A0
  go_wp2_with fail
  refine wp_region_held_drew (S := fun w' => At w' w.heap.size s) (by kernel_rfl) H0.out (fun hH => ?_)
  refine wpAnyH_take (i := 0) (v := .agg s.v) rfl (by kernel_rfl) (by kernel_rfl) (by kernel_rfl) (fun _ _ _ h => h) (yields_row rfl 26 _ rfl w.heap.size rfl 26 s.v (0, 0) _ (fun w h => h) Tryz.underlying26 rfl size_sta) hH ?_
  (try simp only [jA, jB, jC, Act.put, jD, jE, jF])
  refine wpAnyH_take (i := 1) (v := .pointer (some ⟨w.heap.size, 8, none⟩)) rfl (by kernel_rfl) (by kernel_rfl) (by kernel_rfl) (fun _ _ _ h => h) (Or.inl ⟨by rfl, by intro w' _; (first | kernel_rfl | (go_simp; done))⟩) hH ?_
  (try simp only [jA, jB, jC, Act.put, jD, jE, jF])
  refine wpAnyH_take (i := 2) (v := .int .u32 s.pc) rfl (by kernel_rfl) (by kernel_rfl) (by kernel_rfl) (fun _ _ _ h => h) (Or.inl ⟨by rfl, by intro w' hS; have c := At.pc hS; clear hS; go_simp⟩) hH ?_
  (try simp only [jA, jB, jC, Act.put, jD, jE, jF])
  refine wpAnyH_take (i := 3) (v := .agg (fltV (1, s.pc))) rfl (by kernel_rfl) (by kernel_rfl) (by kernel_rfl) (fun _ _ _ h => h) (Or.inl ⟨by rfl, by intro w' _; (first | kernel_rfl | (go_simp; done))⟩) hH ?_
  (try simp only [jA, jB, jC, Act.put, jD, jE, jF])
  refine wpAnyH_ready (rs := [4]) (by kernel_rfl) (by simp) ?_
  refine AllReadyH.cons rfl (fun K hK => ?_) AllReadyH.nil
  rw [if_pos (by rfl)]
  refine wp_store_row 26 _ _ rfl (w.heap.size + 1 + 1) s.v rfl rfl 26 z19 blkA size_sta rfl (v_one _) ?_
  refine hK.out _ _ (At.setRow hH (by omega) _) (fun hH => ?_)
  clear hK K
  (try simp only [jA, jB, jC, Act.put, jD, jE, jF])
  refine wpAnyH_ready (rs := [5]) (by kernel_rfl) (by simp) ?_
  refine AllReadyH.cons rfl (fun K hK => ?_) AllReadyH.nil
  rw [if_pos (by rfl)]
  refine wp_store_row 100 _ _ rfl (w.heap.size + 1 + 1 + 1) (fltV (1, s.pc)) rfl rfl 100 #[.int .i64 0, .int .u32 0] blkA size_flt rfl (by simp [Value.oneCell']) ?_
  refine hK.out _ _ (At.setRow hH (by omega) _) (fun hH => ?_)
  clear hK K
  (try simp only [jA, jB, jC, Act.put, jD, jE, jF])
  refine wpAnyH_done (by kernel_rfl) ?_ _
  go_wp2_with fail
  try simp only [Exit.inBlock, Exit.then]
  exact bodyPost_ret (resultsCC rfl _ _ (w.heap.size + 1 + 1) 26 _ (0, 0) _ (w.heap.size + 1 + 1 + 1) 100 _ (0, 0) _ (by rfl) blkA Tryz.underlying26 rfl (by exact size_sta) (by rfl) blkA Tryz.underlying100 rfl (by exact size_flt)) rfl ⟨by rfl, kepA⟩
set_option maxHeartbeats 1600000 in
set_option maxRecDepth 100000 in
theorem do_K (wk : Nat) (hwk : ∀ (args : Array Value) (w : World), (callFunc wk args).run Tryz.prog w = .ok (.enter wk args) w) (s : Sta) (op : Int) (a b : Nat) (imm v : Int) (w : World) (ok : s.Ok) (h0 : 0 ≤ op) (h1 : op < 256) (h2 : -2147483648 ≤ imm) (h3 : imm ≤ 2147483647) (q : Int × Int) (S' : Sta) (hk : workK op = wk) (hn : isIns op a b imm = true) (hT : Tabs w)
    (WO : ∀ p w, At w p (nextS s op) → Tabs w → Calls Tryz.prog wk #[.pointer (some ⟨p, 0, none⟩), .agg (insA op a b imm), .int .u32 v] w fun e w' => e = .returned (.agg (fltV q)) ∧ Put [p] w w' ∧ (q.1 = 0 → At w' p S')) (S : Sta) (hS0 : q.1 = 0 → S = S') (hS1 : q.1 ≠ 0 → S = s) (hq : q.1 = 0 → q.2 = 0) :
    Calls Tryz.prog 86 #[.agg s.v, .agg (insA op a b imm), .int .u32 v] w fun e w' => e = .returned (.tuple #[.agg S.v, .agg (fltV q)]) ∧ Kep w w' := by
  have WK : Hid (∀ w, Tabs w → Calls Tryz.prog 114 #[.agg (insA op a b imm)] w fun e w' => e = .returned (fnV wk) ∧ Kep w w') := fun w hT => work_is op a b imm _ hk w h0 h1 h2 h3 hn hT
  have SZ : Hid (∀ w, Tabs w → Calls Tryz.prog 78 #[.int .u8 op, .bool false] w fun e w' => e = .returned (.int .i64 (sz (rowOf op false))) ∧ Kep w w') := fun w hT => bytes_any op false w h0 h1 hT
  have HW : Hid (∀ p w, At w p (nextS s op) → Tabs w → Calls Tryz.prog wk #[.pointer (some ⟨p, 0, none⟩), .agg (insA op a b imm), .int .u32 v] w fun e w' => e = .returned (.agg (fltV q)) ∧ Put [p] w w' ∧ (q.1 = 0 → At w' p S')) := WO
  have hT' : Hid (Tabs w) := hT
  have hnil : ∀ w, (binOp .eql 192 (fnV wk) .nilFunc).run Tryz.prog w = .ok (.bool false) w := fun _ => by kernel_rfl
  have hN : Hid (nextS s op = s.go ((s.pc + sz (rowOf op false)) % 4294967296)) := rfl
  have hsz : 0 ≤ sz (rowOf op false) ∧ sz (rowOf op false) ≤ 6 := by
    have hr := rowOf_lt op false
    generalize rowOf op false = r at *
    have q : ∀ r, r < 10 → 0 ≤ sz r ∧ sz r ≤ 6 := by decide
    exact q r hr
  generalize sz (rowOf op false) = z at *
  generalize nextS s op = T at *
  have hpc := ok.pc
  have hs0 : Hid (q.1 = 0 → S = S') := hS0
  have hs1 : Hid (q.1 ≠ 0 → S = s) := hS1
  have hq' : Hid (q.1 = 0 → q.2 = 0) := hq
  obtain ⟨qc, qd⟩ := q
  clear hn hT h0 h1 h2 h3 hk WO ok hS0 hS1 hq
  go_enter Tryz.func86, Tryz.ntmps86
  go_wp2_with fail
  refine (WK.out _ (hT'.out.grown kepA)).mono ?_
  rintro e w1 ⟨rfl, K1⟩
  have G1 : Hid (Kep w w1) := kep_trans kepA K1
  obtain ⟨B0, B1, B2, B3⟩ := five_blocks _ _ _ _ _ _ K1
  have z3 := block_lt B3
  have lw := G1.out.size
  obtain ⟨W, hW⟩ : ∃ W, Hid (W = (w1.alloc (.cells z19 26)).setRow w1.heap.size s.v) := ⟨_, rfl⟩
  have C0 : W.heap[w.heap.size]? = some (.cells s.v 26 (0, 0)) := by rw [hW.out]; exact blkA
  have C1 : W.heap[w.heap.size + 1]? = some (.cells (insA op a b imm) 128 (0, 0)) := by rw [hW.out]; exact blkA
  have C2 : W.heap[w.heap.size + 1 + 1]? = some (.cells z19 26 (0, 0)) := by rw [hW.out]; exact blkA
  have C3 : W.heap[w.heap.size + 1 + 1 + 1]? = some (.cells #[.int .i64 0, .int .u32 0] 100 (0, 0)) := by rw [hW.out]; exact blkA
  have C9 : At W w1.heap.size s := by rw [hW.out]; unfold At; exact blkA
  have GW : Hid (Kep w W) := by rw [hW.out]; show Kep _ _; exact kepA
  have TW : Hid (Tabs W) := hT'.out.grown GW.out
  have z1 : w.heap.size + 1 + 1 + 1 < w1.heap.size := z3
  have H0 : Hid (At w1 w.heap.size s) := B0
  clear B0 B1 B2 B3 K1
  go_wp2_with (first
    | (refine wpList_load_row (by rfl) 26 _ (by rfl) (w.heap.size) (by rfl) 26 _ (0, 0) _ (H0.out) Tryz.underlying26 rfl (by exact size_sta) ?_)
    | (refine wpList_store_row (by rfl) 26 (.tmp 9) _ (by rfl) (w1.heap.size) _ (by rfl) (by rfl) 26 z19 blkA (by exact size_sta) (by rfl) (v_one _) ?_))
  dsimp only [Act.put]
  rw [← hW.out]
  go_cut [9] (fun t9 wx => t9 = .pointer (some ⟨w1.heap.size, 0, none⟩) ∧ At wx w1.heap.size T ∧ Put [w1.heap.size] W wx)
  case first =>
    have p8 := C9.pc
    obtain ⟨i0, i1, i2, i3⟩ := ins_at C1
    have zf := row_frozen C9
    have lW := C9.lt
    have zz : w.heap.size + 1 < W.heap.size := block_lt C1
    have C9' : Hid (At W w1.heap.size s) := C9
    have C1' : Hid (W.heap[w.heap.size + 1]? = some (.cells (insA op a b imm) 128 (0, 0))) := C1
    clear C0 C1 C2 C3 C9
    go_region_with ((go_at_call 78; refine (SZ.out _ (TW.out.grown kepA)).mono ?_; rintro e wa ⟨rfl, Ka⟩; have Kb : Kep W wa := kep_trans (Kep.drew (Kep.refl W)) Ka; have fa := row_frozen (At.kep C9'.out Kb); have c8 := At.pc (At.kep C9'.out Kb); have Kc : Hid (Kep W wa) := Kb; clear Ka Kb))
    all_goals
      go_wp2_with fail
      go_meet
      have A1 := At.kep C9'.out Kc.out
      refine ⟨rfl, ?_, ?_⟩
      · have hw : IntKind.u32.wrap (s.pc + IntKind.u32.wrap z) = (s.pc + z) % 4294967296 := by simp only [IntKind.wrap_u32]; omega
        rw [hN.out, ← hw]
        have A2 := A1.setPc (IntKind.u32.wrap (s.pc + IntKind.u32.wrap z))
        first | exact A2 | exact A2.drew | (simpa using A2)
      · have P1 : Put [w1.heap.size] W _ := Put.of_kep Kc.out
        exact putA
  case rest =>
    obtain ⟨rfl, A9, P9⟩ := hcut
    have D0 := P9.keeps C0 (by simp; omega)
    have D1 := P9.keeps C1 (by simp; omega)
    have D2 := P9.keeps C2 (by simp; omega)
    have D3 := P9.keeps C3 (by simp; omega)
    have TC : Hid (Tabs wc) := by
      obtain ⟨⟨t0, e0⟩, t1, e1⟩ := TW.out
      have hs := tabs_size hT'.out
      exact ⟨⟨t0, P9.keeps e0 (by simp; omega)⟩, t1, P9.keeps e1 (by simp; omega)⟩
    have GC : Hid (Kep w wc) := GW.out.put P9 (by simp; omega)
    have A9' : Hid (At wc w1.heap.size T) := A9
    obtain ⟨i0, i1, i2, i3⟩ := ins_at D1
    have D0' : Hid (wc.heap[w.heap.size]? = some (.cells s.v 26 (0, 0))) := D0
    have D2' : Hid (wc.heap[w.heap.size + 1 + 1]? = some (.cells z19 26 (0, 0))) := D2
    have D3' : Hid (wc.heap[w.heap.size + 1 + 1 + 1]? = some (.cells #[.int .i64 0, .int .u32 0] 100 (0, 0))) := D3
    clear C0 C1 C2 C3 C9 D0 D1 D2 D3 A9 P9
    go_wp2_with fail
    refine (HW.out _ _ A9'.out TC.out).mono ?_
    rintro e wd ⟨rfl, P2, hA⟩
    have E0 : Hid (wd.heap[w.heap.size]? = some (.cells s.v 26 (0, 0))) := P2.keeps D0'.out (by simp; omega)
    have E2 : Hid (wd.heap[w.heap.size + 1 + 1]? = some (.cells z19 26 (0, 0))) := P2.keeps D2'.out (by simp; omega)
    have E3 : Hid (wd.heap[w.heap.size + 1 + 1 + 1]? = some (.cells #[.int .i64 0, .int .u32 0] 100 (0, 0))) := P2.keeps D3'.out (by simp; omega)
    have GD : Hid (Kep w wd) := GC.out.put P2 (by simp; omega)
    have hA' : Hid ((qc : Int) = 0 → At wd w1.heap.size S') := hA
    have zd := block_lt E3.out
    have l9 : w1.heap.size < wd.heap.size := Nat.lt_of_lt_of_le A9'.out.lt P2.size
    clear P2 hA i0 i1 i2 i3
    by_cases hz : qc = 0
    · subst hz
      obtain rfl : qd = 0 := hq'.out rfl
      have A5 : Hid (At wd w1.heap.size S') := hA'.out rfl
      have eS : S = S' := hs0.out rfl
      subst eS
      go_wp2_with (first
        | (refine wpList_load_row (by rfl) 26 _ (by rfl) (w1.heap.size) (by rfl) 26 _ (0, 0) _ (A5.out.alloc _) Tryz.underlying26 rfl (by exact size_sta) ?_)
        | (refine wpList_store_row (by rfl) 26 (.tmp 6) _ (by rfl) (w.heap.size + 1 + 1) _ (by rfl) (by rfl) 26 z19 blkA (by exact size_sta) (by rfl) (v_one _) ?_)
        | (refine wpList_store_row (by rfl) 100 (.tmp 7) _ (by rfl) (w.heap.size + 1 + 1 + 1) _ (by rfl) (by rfl) 100 #[.int .i64 0, .int .u32 0] blkA (by exact size_flt) (by rfl) (by simp [Value.oneCell']) ?_))
      try simp only [Exit.inBlock, Exit.then]
      exact bodyPost_ret (resultsCC rfl _ _ (w.heap.size + 1 + 1) 26 _ (0, 0) _ (w.heap.size + 1 + 1 + 1) 100 _ (0, 0) _ (by rfl) blkA Tryz.underlying26 rfl (by exact size_sta) (by rfl) blkA Tryz.underlying100 rfl (by exact size_flt)) rfl ⟨by rfl, kepA⟩
    · have hz' : (qc != 0) = true := by simpa using hz
      obtain rfl : S = s := hs1.out hz
      go_wp2_with fail
      refine wp_region_held_drew (S := fun w' => At w' w.heap.size S ∧ w'.heap[wd.heap.size]? = some (.cells #[.int .i64 qc, .int .u32 qd] 100 (0, 0))) (by kernel_rfl) ⟨At.alloc E0.out _, hat _ _ _ rfl⟩ (fun hH => ?_)
      refine wpAnyH_take (i := 0) (v := .agg S.v) rfl (by kernel_rfl) (by kernel_rfl) (by kernel_rfl) (fun _ _ _ h => h) (yields_row rfl 26 _ rfl w.heap.size rfl 26 S.v (0, 0) _ (fun w h => h.1) Tryz.underlying26 rfl size_sta) hH ?_
      (try simp only [jA, jB, jC, Act.put, jD, jE, jF])
      refine wpAnyH_take (i := 1) (v := .agg #[.int .i64 qc, .int .u32 qd]) rfl (by kernel_rfl) (by kernel_rfl) (by kernel_rfl) (fun _ _ _ h => h) (yields_row rfl 100 _ rfl wd.heap.size rfl 100 #[.int .i64 qc, .int .u32 qd] (0, 0) _ (fun w h => h.2) Tryz.underlying100 rfl size_flt) hH ?_
      (try simp only [jA, jB, jC, Act.put, jD, jE, jF])
      refine wpAnyH_ready (rs := [2]) (by kernel_rfl) (by simp) ?_
      refine AllReadyH.cons rfl (fun K hK => ?_) AllReadyH.nil
      rw [if_pos (by rfl)]
      refine wp_store_row 26 _ _ rfl (w.heap.size + 1 + 1) S.v rfl rfl 26 z19 blkA size_sta rfl (v_one _) ?_
      refine hK.out _ _ ⟨At.setRow hH.1 (by omega) _, (setRow_other _ _ _ _ (by omega)).trans hH.2⟩ (fun hH => ?_)
      clear hK K
      (try simp only [jA, jB, jC, Act.put, jD, jE, jF])
      refine wpAnyH_ready (rs := [3]) (by kernel_rfl) (by simp) ?_
      refine AllReadyH.cons rfl (fun K hK => ?_) AllReadyH.nil
      rw [if_pos (by rfl)]
      refine wp_store_row 100 _ _ rfl (w.heap.size + 1 + 1 + 1) #[.int .i64 qc, .int .u32 qd] rfl rfl 100 #[.int .i64 0, .int .u32 0] blkA size_flt rfl (by simp [Value.oneCell']) ?_
      refine hK.out _ _ ⟨At.setRow hH.1 (by omega) _, (setRow_other _ _ _ _ (by omega)).trans hH.2⟩ (fun hH => ?_)
      clear hK K
      (try simp only [jA, jB, jC, Act.put, jD, jE, jF])
      refine wpAnyH_done (by kernel_rfl) ?_ _
      go_wp2_with fail
      try simp only [Exit.inBlock, Exit.then]
      exact bodyPost_ret (resultsCC rfl _ _ (w.heap.size + 1 + 1) 26 _ (0, 0) _ (w.heap.size + 1 + 1 + 1) 100 _ (0, 0) _ (by rfl) blkA Tryz.underlying26 rfl (by exact size_sta) (by rfl) blkA Tryz.underlying100 rfl (by exact size_flt)) rfl ⟨by rfl, kepA⟩
theorem next_ok {s : Sta} (ok : s.Ok) (op : Int) : (nextS s op).Ok := ok.go _ (by omega) (by omega)
theorem workF_zero (s : Sta) (op : Int) (a b : Nat) (imm : Int) : (workF s op a b imm).1 = 0 → (workF s op a b imm).2 = 0 := by
  unfold workF wantF
  repeat' split
  all_goals first
    | (intro _; rfl)
    | (intro h; exact absurd h (show (3 : Int) ≠ 0 by decide))
    | (intro h; exact absurd h (show (4 : Int) ≠ 0 by decide))
    | (intro h; exact absurd h (show (8 : Int) ≠ 0 by decide))
theorem do_any (s : Sta) (op : Int) (a b : Nat) (imm v : Int) (w : World) (ok : s.Ok) (h0 : 0 ≤ op) (h1 : op < 256) (h2 : -2147483648 ≤ imm) (h3 : imm ≤ 2147483647) (hv : 0 ≤ v ∧ v < 4294967296) (hT : Tabs w) :
    Calls Tryz.prog 86 #[.agg s.v, .agg (insA op a b imm), .int .u32 v] w fun e w' => e = .returned (.tuple #[.agg (doS s op a b imm v).v, .agg (fltV (doF s op a b imm))]) ∧ Kep w w' := by
  cases e : isIns op a b imm with
  | false =>
    have eF : doF s op a b imm = (1, s.pc) := by unfold doF; rw [e]; rfl
    have eS : doS s op a b imm v = s := by unfold doS; rw [eF]; exact if_neg (show ¬ (1 : Int) = 0 by decide)
    rw [eF, eS]
    exact do_none s op a b imm v w ok h0 h1 h2 h3 e hT
  | true =>
    have eF : doF s op a b imm = workF (nextS s op) op a b imm := by unfold doF; rw [e]; rfl
    have S0 : (workF (nextS s op) op a b imm).1 = 0 → doS s op a b imm v = workS (nextS s op) op a b imm v := fun h => by unfold doS; rw [eF, if_pos h]
    have S1 : (workF (nextS s op) op a b imm).1 ≠ 0 → doS s op a b imm v = s := fun h => by unfold doS; rw [eF, if_neg h]
    rw [eF]
    have okn := next_ok ok op
    have e' := e
    unfold isIns at e'
    simp only [Bool.and_eq_true, bne_iff_ne, ne_eq] at e'
    obtain ⟨ha, hb⟩ := may_reg op false a b imm e'.1
    have Hz := workF_zero (nextS s op) op a b imm
    rcases cls_cases op e'.2 with rfl | hc | hc | hc | rfl
    · refine do_K 129 (fun _ _ => by kernel_rfl) s 0 a b imm v w ok h0 h1 h2 h3 _ _ rfl e hT ?_ _ S0 S1 Hz
      intro p w hA hT
      refine (idle_any _ _ _ _ _ _ w).mono ?_
      rintro x w' ⟨rfl, K⟩
      exact ⟨rfl, Put.of_kep K, fun _ => hA.kep K⟩
    · have ec : cls op = 2 := by unfold cls; rw [if_neg (show ¬ op = 0 by omega), if_pos hc]
      have ek : workK op = 130 := by unfold workK; rw [ec]; rfl
      have eW : workF (nextS s op) op a b imm = if aluIs op (secN (nextS s op) op b imm) then (0, 0) else (3, 0) := by unfold workF; rw [ec]; rfl
      have eR : workS (nextS s op) op a b imm v = reckS (nextS s op) op a b imm := by unfold workS; rw [ec]; rfl
      refine do_K 130 (fun _ _ => by kernel_rfl) s op a b imm v w ok h0 h1 h2 h3 _ _ ek e hT ?_ _ S0 S1 Hz
      intro p w hA hT
      rw [eW, eR]
      by_cases h25 : op = 25
      · subst h25
        refine (reck_div _ a b imm v p w hA okn (by omega) (by omega) h2 h3).mono ?_
        rintro x w' ⟨rfl, P, h⟩
        refine ⟨rfl, P, fun hq => h ?_⟩
        cases hi : aluIs 25 (secN (nextS s 25) 25 b imm) with
        | true => rfl
        | false => rw [hi] at hq; exact absurd hq (show ¬ (3 : Int) = 0 by decide)
      by_cases h30 : op = 30
      · subst h30
        refine (reck_rem _ a b imm v p w hA okn (by omega) (by omega) h2 h3).mono ?_
        rintro x w' ⟨rfl, P, h⟩
        refine ⟨rfl, P, fun hq => h ?_⟩
        cases hi : aluIs 30 (secN (nextS s 30) 30 b imm) with
        | true => rfl
        | false => rw [hi] at hq; exact absurd hq (show ¬ (3 : Int) = 0 by decide)
      have hi : aluIs op (secN (nextS s op) op b imm) = true := by unfold aluIs; rw [ne_lit h25, ne_lit h30]; rfl
      rw [hi]
      refine (reck_alw _ op a b imm v p w hA okn (by omega) (by omega) h2 h3 ⟨hc.1, hc.2, h25, h30⟩).mono ?_
      rintro x w' ⟨rfl, P, h⟩
      exact ⟨rfl, P, fun _ => h⟩
    · have ec : cls op = 3 := by unfold cls; rw [if_neg (show ¬ op = 0 by omega), if_neg (show ¬ (16 ≤ op ∧ op ≤ 33) by omega), if_pos hc]
      have ek : workK op = 131 := by unfold workK; rw [ec]; rfl
      have eW : workF (nextS s op) op a b imm = wantF (nextS s op) op a b imm := by unfold workF; rw [ec]; rfl
      have eR : workS (nextS s op) op a b imm v = movS (nextS s op) op a v := by unfold workS; rw [ec]; rfl
      refine do_K 131 (fun _ _ => by kernel_rfl) s op a b imm v w ok h0 h1 h2 h3 _ _ ek e hT ?_ _ S0 S1 Hz
      intro p w hA hT
      rw [eW, eR]
      exact move_any _ op a b imm v p w hA okn hc (by omega) h2 h3 hv hT
    · have ec : cls op = 4 := by unfold cls; rw [if_neg (show ¬ op = 0 by omega), if_neg (show ¬ (16 ≤ op ∧ op ≤ 33) by omega), if_neg (show ¬ (48 ≤ op ∧ op ≤ 58) by omega), if_pos hc]
      have ek : workK op = 132 := by unfold workK; rw [ec]; rfl
      have eW : workF (nextS s op) op a b imm = (0, 0) := by unfold workF; rw [ec]; rfl
      have eR : workS (nextS s op) op a b imm v = jmpS (nextS s op) op a imm := by unfold workS; rw [ec]; rfl
      refine do_K 132 (fun _ _ => by kernel_rfl) s op a b imm v w ok h0 h1 h2 h3 _ _ ek e hT ?_ _ S0 S1 Hz
      intro p w hA hT
      rw [eW, eR]
      refine (jump_any _ op a b imm v p w hA okn hc (by omega) h2 h3).mono ?_
      rintro x w' ⟨rfl, P, h⟩
      exact ⟨rfl, P, fun _ => h⟩
    · refine do_K 133 (fun _ _ => by kernel_rfl) s 80 a b imm v w ok h0 h1 h2 h3 _ _ rfl e hT ?_ _ S0 S1 Hz
      intro p w hA hT
      refine (ask_any _ _ _ _ _ _ w h2 h3).mono ?_
      rintro x w' ⟨rfl, K⟩
      exact ⟨rfl, Put.of_kep K, fun _ => hA.kep K⟩
end Go.Proofs.YtnignfloedcmlaaGreatDoor
