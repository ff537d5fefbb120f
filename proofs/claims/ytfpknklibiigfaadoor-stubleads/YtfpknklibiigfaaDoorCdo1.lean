/- Do. By mkdo.py. -/
import Derived.Test.YtfpknklibiigfaaDoorCdo0
import Derived.Test.YtfpknklibiigfaaDoorAuto
import Derived.Deep.CutRange
import Derived.Deep.DeepCutAuto
namespace Go.Proofs.YtfpknklibiigfaaDoor
open Go.RowKit
set_option linter.unusedVariables false
set_option linter.unusedSimpArgs false

set_option maxHeartbeats 1600000 in
set_option maxRecDepth 100000 in
theorem do_K (wk : Nat) (hwk : ∀ (args : Array Value) (w : World), (callFunc wk args).run Tryd.prog w = .ok (.enter wk args) w) (s : Sta) (op : Int) (a b : Nat) (imm v : Int) (w : World) (ok : s.Ok) (h0 : 0 ≤ op) (h1 : op < 256) (h2 : -2147483648 ≤ imm) (h3 : imm ≤ 2147483647) (q : Int × Int) (S' : Sta) (hk : workK op = wk) (hn : isIns op a b imm = true) (hT : Tabs w)
    (WO : ∀ p w, At w p (nextS s op) → Tabs w → Calls Tryd.prog wk #[.pointer (some ⟨p, 0, none⟩), .agg (insA op a b imm), .int .u32 v] w fun e w' => e = .returned (.agg (fltV q)) ∧ Put [p] w w' ∧ (q.1 = 0 → At w' p S')) (S : Sta) (hS0 : q.1 = 0 → S = S') (hS1 : q.1 ≠ 0 → S = s) (hq : q.1 = 0 → q.2 = 0) :
    Calls Tryd.prog 16 #[.agg s.v, .agg (insA op a b imm), .int .u32 v] w fun e w' => e = .returned (.tuple #[.agg S.v, .agg (fltV q)]) ∧ Kep w w' := by
  have WK : Hid (∀ w, Tabs w → Calls Tryd.prog 27 #[.agg (insA op a b imm)] w fun e w' => e = .returned (fnV wk) ∧ Kep w w') := fun w hT => work_is op a b imm _ hk w h0 h1 h2 h3 hn hT
  have SZ : Hid (∀ w, Tabs w → Calls Tryd.prog 19 #[.int .u8 op, .bool false] w fun e w' => e = .returned (.int .i64 (sz (rowOf op false))) ∧ Kep w w') := fun w hT => bytes_any op false w h0 h1 hT
  have HW : Hid (∀ p w, At w p (nextS s op) → Tabs w → Calls Tryd.prog wk #[.pointer (some ⟨p, 0, none⟩), .agg (insA op a b imm), .int .u32 v] w fun e w' => e = .returned (.agg (fltV q)) ∧ Put [p] w w' ∧ (q.1 = 0 → At w' p S')) := WO
  have hT' : Hid (Tabs w) := hT
  have hnil : ∀ w, (binOp .eql 65 (fnV wk) .nilFunc).run Tryd.prog w = .ok (.bool false) w := fun _ => by kernel_rfl
  have hN : Hid (nextS s op = s.go ((s.pc + sz (rowOf op false)) % 4294967296)) := rfl
  have hsz : 0 ≤ sz (rowOf op false) ∧ sz (rowOf op false) ≤ 6 := by
    have hr := rowOf_lt op false
    generalize rowOf op false = r at *
    have q : ∀ r, r < 10 → 0 ≤ sz r ∧ sz r ≤ 6 := by decide
    exact q r hr
  generalize sz (rowOf op false) = z at *
  generalize nextS s op = T at *
  have hpc := ok.pc
  have hs0 : Hid (q.1 = 0 → S = S') := hS0
  have hs1 : Hid (q.1 ≠ 0 → S = s) := hS1
  have hq' : Hid (q.1 = 0 → q.2 = 0) := hq
  obtain ⟨qc, qd⟩ := q
  clear hn hT h0 h1 h2 h3 hk WO ok hS0 hS1 hq
  go_enter Tryd.func16, Tryd.ntmps16
  go_wp2_with fail
  refine (WK.out _ (hT'.out.grown kepA)).mono ?_
  rintro e w1 ⟨rfl, K1⟩
  have G1 : Hid (Kep w w1) := kep_trans kepA K1
  obtain ⟨B0, B1, B2, B3⟩ := five_blocks _ _ _ _ _ _ K1
  have z3 := block_lt B3
  have lw := G1.out.size
  obtain ⟨W, hW⟩ : ∃ W, Hid (W = (w1.alloc (.cells #[.int .u32 0, .int .u32 0, .int .u32 0, .int .u32 0, .int .u32 0, .int .u32 0, .int .u32 0, .int .u32 0, .int .u32 0, .int .u32 0, .int .u32 0, .int .u32 0, .int .u32 0, .int .u32 0, .int .u32 0, .int .u32 0, .int .u32 0, .int .u32 0, .bool false] 43)).setRow w1.heap.size s.v) := ⟨_, rfl⟩
  have C0 : W.heap[w.heap.size]? = some (.cells s.v 43 (0, 0)) := by rw [hW.out]; exact blkA
  have C1 : W.heap[w.heap.size + 1]? = some (.cells (insA op a b imm) 37 (0, 0)) := by rw [hW.out]; exact blkA
  have C2 : W.heap[w.heap.size + 1 + 1]? = some (.cells #[.int .u32 0, .int .u32 0, .int .u32 0, .int .u32 0, .int .u32 0, .int .u32 0, .int .u32 0, .int .u32 0, .int .u32 0, .int .u32 0, .int .u32 0, .int .u32 0, .int .u32 0, .int .u32 0, .int .u32 0, .int .u32 0, .int .u32 0, .int .u32 0, .bool false] 43 (0, 0)) := by rw [hW.out]; exact blkA
  have C3 : W.heap[w.heap.size + 1 + 1 + 1]? = some (.cells #[.int .i64 0, .int .u32 0] 45 (0, 0)) := by rw [hW.out]; exact blkA
  have C9 : At W w1.heap.size s := by rw [hW.out]; unfold At; exact blkA
  have GW : Hid (Kep w W) := by rw [hW.out]; show Kep _ _; exact kepA
  have TW : Hid (Tabs W) := hT'.out.grown GW.out
  have z1 : w.heap.size + 1 + 1 + 1 < w1.heap.size := z3
  have H0 : Hid (At w1 w.heap.size s) := B0
  clear B0 B1 B2 B3 K1
  go_wp2_with (first
    | (refine wpList_load_row (by rfl) 43 _ (by rfl) (w.heap.size) (by rfl) 43 _ (0, 0) _ (H0.out) Tryd.underlying43 rfl (by exact size_sta) ?_)
    | (refine wpList_store_row (by rfl) 43 (.tmp 9) _ (by rfl) (w1.heap.size) _ (by rfl) (by rfl) 43 #[.int .u32 0, .int .u32 0, .int .u32 0, .int .u32 0, .int .u32 0, .int .u32 0, .int .u32 0, .int .u32 0, .int .u32 0, .int .u32 0, .int .u32 0, .int .u32 0, .int .u32 0, .int .u32 0, .int .u32 0, .int .u32 0, .int .u32 0, .int .u32 0, .bool false] blkA (by exact size_sta) (by rfl) (v_one _) ?_))
  dsimp only [Act.put]
  rw [← hW.out]
  go_cut [9] (fun t9 wx => t9 = .pointer (some ⟨w1.heap.size, 0, none⟩) ∧ At wx w1.heap.size T ∧ Put [w1.heap.size] W wx)
  case first =>
    have p8 := C9.pc
    obtain ⟨i0, i1, i2, i3⟩ := ins_at C1
    have zf := row_frozen C9
    have lW := C9.lt
    have zz : w.heap.size + 1 < W.heap.size := block_lt C1
    have C9' : Hid (At W w1.heap.size s) := C9
    have C1' : Hid (W.heap[w.heap.size + 1]? = some (.cells (insA op a b imm) 37 (0, 0))) := C1
    clear C0 C1 C2 C3 C9
    go_region_with ((go_at_call 19; refine (SZ.out _ (TW.out.grown kepA)).mono ?_; rintro e wa ⟨rfl, Ka⟩; have Kb : Kep W wa := kep_trans (Kep.drew (Kep.refl W)) Ka; have fa := row_frozen (At.kep C9'.out Kb); have c8 := At.pc (At.kep C9'.out Kb); have Kc : Hid (Kep W wa) := Kb; clear Ka Kb))
    all_goals
      go_wp2_with fail
      go_meet
      have A1 := At.kep C9'.out Kc.out
      refine ⟨rfl, ?_, ?_⟩
      · have hw : IntKind.u32.wrap (s.pc + IntKind.u32.wrap z) = (s.pc + z) % 4294967296 := by simp only [IntKind.wrap_u32]; omega
        rw [hN.out, ← hw]
        have A2 := A1.setPc (IntKind.u32.wrap (s.pc + IntKind.u32.wrap z))
        first | exact A2 | exact A2.drew | (simpa using A2)
      · have P1 : Put [w1.heap.size] W _ := Put.of_kep Kc.out
        exact putA
  case rest =>
    obtain ⟨rfl, A9, P9⟩ := hcut
    have D0 := P9.keeps C0 (by simp; omega)
    have D1 := P9.keeps C1 (by simp; omega)
    have D2 := P9.keeps C2 (by simp; omega)
    have D3 := P9.keeps C3 (by simp; omega)
    have TC : Hid (Tabs wc) := by
      obtain ⟨⟨t0, e0⟩, t1, e1⟩ := TW.out
      have hs := tabs_size hT'.out
      exact ⟨⟨t0, P9.keeps e0 (by simp; omega)⟩, t1, P9.keeps e1 (by simp; omega)⟩
    have GC : Hid (Kep w wc) := GW.out.put P9 (by simp; omega)
    have A9' : Hid (At wc w1.heap.size T) := A9
    obtain ⟨i0, i1, i2, i3⟩ := ins_at D1
    have D0' : Hid (wc.heap[w.heap.size]? = some (.cells s.v 43 (0, 0))) := D0
    have D2' : Hid (wc.heap[w.heap.size + 1 + 1]? = some (.cells #[.int .u32 0, .int .u32 0, .int .u32 0, .int .u32 0, .int .u32 0, .int .u32 0, .int .u32 0, .int .u32 0, .int .u32 0, .int .u32 0, .int .u32 0, .int .u32 0, .int .u32 0, .int .u32 0, .int .u32 0, .int .u32 0, .int .u32 0, .int .u32 0, .bool false] 43 (0, 0))) := D2
    have D3' : Hid (wc.heap[w.heap.size + 1 + 1 + 1]? = some (.cells #[.int .i64 0, .int .u32 0] 45 (0, 0))) := D3
    clear C0 C1 C2 C3 C9 D0 D1 D2 D3 A9 P9
    go_wp2_with fail
    refine (HW.out _ _ A9'.out TC.out).mono ?_
    rintro e wd ⟨rfl, P2, hA⟩
    have E0 : Hid (wd.heap[w.heap.size]? = some (.cells s.v 43 (0, 0))) := P2.keeps D0'.out (by simp; omega)
    have E2 : Hid (wd.heap[w.heap.size + 1 + 1]? = some (.cells #[.int .u32 0, .int .u32 0, .int .u32 0, .int .u32 0, .int .u32 0, .int .u32 0, .int .u32 0, .int .u32 0, .int .u32 0, .int .u32 0, .int .u32 0, .int .u32 0, .int .u32 0, .int .u32 0, .int .u32 0, .int .u32 0, .int .u32 0, .int .u32 0, .bool false] 43 (0, 0))) := P2.keeps D2'.out (by simp; omega)
    have E3 : Hid (wd.heap[w.heap.size + 1 + 1 + 1]? = some (.cells #[.int .i64 0, .int .u32 0] 45 (0, 0))) := P2.keeps D3'.out (by simp; omega)
    have GD : Hid (Kep w wd) := GC.out.put P2 (by simp; omega)
    have hA' : Hid ((qc : Int) = 0 → At wd w1.heap.size S') := hA
    have zd := block_lt E3.out
    have l9 : w1.heap.size < wd.heap.size := Nat.lt_of_lt_of_le A9'.out.lt P2.size
    clear P2 hA i0 i1 i2 i3
    by_cases hz : qc = 0
    · subst hz
      obtain rfl : qd = 0 := hq'.out rfl
      have A5 : Hid (At wd w1.heap.size S') := hA'.out rfl
      have eS : S = S' := hs0.out rfl
      subst eS
      go_wp2_with (first
        | (refine wpList_load_row (by rfl) 43 _ (by rfl) (w1.heap.size) (by rfl) 43 _ (0, 0) _ (A5.out.alloc _) Tryd.underlying43 rfl (by exact size_sta) ?_)
        | (refine wpList_store_row (by rfl) 43 (.tmp 6) _ (by rfl) (w.heap.size + 1 + 1) _ (by rfl) (by rfl) 43 #[.int .u32 0, .int .u32 0, .int .u32 0, .int .u32 0, .int .u32 0, .int .u32 0, .int .u32 0, .int .u32 0, .int .u32 0, .int .u32 0, .int .u32 0, .int .u32 0, .int .u32 0, .int .u32 0, .int .u32 0, .int .u32 0, .int .u32 0, .int .u32 0, .bool false] blkA (by exact size_sta) (by rfl) (v_one _) ?_)
        | (refine wpList_store_row (by rfl) 45 (.tmp 7) _ (by rfl) (w.heap.size + 1 + 1 + 1) _ (by rfl) (by rfl) 45 #[.int .i64 0, .int .u32 0] blkA (by exact size_flt) (by rfl) (by simp [Value.oneCell']) ?_))
      try simp only [Exit.inBlock, Exit.then]
      exact bodyPost_ret (resultsCC rfl _ _ (w.heap.size + 1 + 1) 43 _ (0, 0) _ (w.heap.size + 1 + 1 + 1) 45 _ (0, 0) _ (by rfl) blkA Tryd.underlying43 rfl (by exact size_sta) (by rfl) blkA Tryd.underlying45 rfl (by exact size_flt)) rfl ⟨by rfl, kepA⟩
    · have hz' : (qc != 0) = true := by simpa using hz
      obtain rfl : S = s := hs1.out hz
      go_wp2_with fail
      refine wp_region_held_drew (S := fun w' => At w' w.heap.size S ∧ w'.heap[wd.heap.size]? = some (.cells #[.int .i64 qc, .int .u32 qd] 45 (0, 0))) (by kernel_rfl) ⟨At.alloc E0.out _, hat _ _ _ rfl⟩ (fun hH => ?_)
      refine wpAnyH_take (i := 0) (v := .agg S.v) rfl (by kernel_rfl) (by kernel_rfl) (by kernel_rfl) (fun _ _ _ h => h) (yields_row rfl 43 _ rfl w.heap.size rfl 43 S.v (0, 0) _ (fun w h => h.1) Tryd.underlying43 rfl size_sta) hH ?_
      (try simp only [List.getElem_toArray, List.getElem_cons_zero, List.getElem_cons_succ, Act.put, List.setIfInBounds_toArray, List.set_cons_zero, List.set_cons_succ])
      refine wpAnyH_take (i := 1) (v := .agg #[.int .i64 qc, .int .u32 qd]) rfl (by kernel_rfl) (by kernel_rfl) (by kernel_rfl) (fun _ _ _ h => h) (yields_row rfl 45 _ rfl wd.heap.size rfl 45 #[.int .i64 qc, .int .u32 qd] (0, 0) _ (fun w h => h.2) Tryd.underlying45 rfl size_flt) hH ?_
      (try simp only [List.getElem_toArray, List.getElem_cons_zero, List.getElem_cons_succ, Act.put, List.setIfInBounds_toArray, List.set_cons_zero, List.set_cons_succ])
      refine wpAnyH_ready (rs := [2]) (by kernel_rfl) (by simp) ?_
      refine AllReadyH.cons rfl (fun K hK => ?_) AllReadyH.nil
      rw [if_pos (by rfl)]
      refine wp_store_row 43 _ _ rfl (w.heap.size + 1 + 1) S.v rfl rfl 43 #[.int .u32 0, .int .u32 0, .int .u32 0, .int .u32 0, .int .u32 0, .int .u32 0, .int .u32 0, .int .u32 0, .int .u32 0, .int .u32 0, .int .u32 0, .int .u32 0, .int .u32 0, .int .u32 0, .int .u32 0, .int .u32 0, .int .u32 0, .int .u32 0, .bool false] blkA size_sta rfl (v_one _) ?_
      refine hK.out _ _ ⟨At.setRow hH.1 (by omega) _, (setRow_other _ _ _ _ (by omega)).trans hH.2⟩ (fun hH => ?_)
      clear hK K
      (try simp only [List.getElem_toArray, List.getElem_cons_zero, List.getElem_cons_succ, Act.put, List.setIfInBounds_toArray, List.set_cons_zero, List.set_cons_succ])
      refine wpAnyH_ready (rs := [3]) (by kernel_rfl) (by simp) ?_
      refine AllReadyH.cons rfl (fun K hK => ?_) AllReadyH.nil
      rw [if_pos (by rfl)]
      refine wp_store_row 45 _ _ rfl (w.heap.size + 1 + 1 + 1) #[.int .i64 qc, .int .u32 qd] rfl rfl 45 #[.int .i64 0, .int .u32 0] blkA size_flt rfl (by simp [Value.oneCell']) ?_
      refine hK.out _ _ ⟨At.setRow hH.1 (by omega) _, (setRow_other _ _ _ _ (by omega)).trans hH.2⟩ (fun hH => ?_)
      clear hK K
      (try simp only [List.getElem_toArray, List.getElem_cons_zero, List.getElem_cons_succ, Act.put, List.setIfInBounds_toArray, List.set_cons_zero, List.set_cons_succ])
      refine wpAnyH_done (by kernel_rfl) ?_ _
      go_wp2_with fail
      try simp only [Exit.inBlock, Exit.then]
      exact bodyPost_ret (resultsCC rfl _ _ (w.heap.size + 1 + 1) 43 _ (0, 0) _ (w.heap.size + 1 + 1 + 1) 45 _ (0, 0) _ (by rfl) blkA Tryd.underlying43 rfl (by exact size_sta) (by rfl) blkA Tryd.underlying45 rfl (by exact size_flt)) rfl ⟨by rfl, kepA⟩
end Go.Proofs.YtfpknklibiigfaaDoor
