/- Part of a proof. -/
import Derived.Deep.DeepCutAuto
import Derived.Deep.CutRange
import Derived.Great.Walk
import Derived.Test.YtnignfloedcmlaaGreatDoorJ29
namespace Go.Proofs.YtnignfloedcmlaaGreatDoor
open Go.RowKit
set_option linter.unusedVariables false
set_option linter.unusedSimpArgs false
theorem nil_no (k p : Nat) (w : World) : (binOp .eql 1 (mV k p) .nilFunc).run Tryz.prog w = .ok (.bool false) w := by first | kernel_rfl | rfl | simp [go_sem, binOp]
theorem nil_is (w : World) : (binOp .eql 1 .nilFunc .nilFunc).run Tryz.prog w = .ok (.bool true) w := by kernel_rfl
set_option maxHeartbeats 1600000 in
set_option maxRecDepth 100000 in
theorem sdo_none (s : Sta) (op : Int) (a b : Nat) (imm n : Int) (w : World) (ok : s.Ok) (h0 : 0 ≤ op) (h1 : op < 256) (h2 : -2147483648 ≤ imm) (h3 : imm ≤ 2147483647) (hn : mayB (rowOf op false) a b imm = true) (hT : Tabs w) (hs : isSen op = false) :
    Calls Tryz.prog 67 #[.agg s.v, .agg (insA op a b imm), .int .u32 n] w fun e w' => e = .returned (.tuple #[.agg s.v, .agg (e0 1).v]) ∧ Kep w w' := by
  have MA : Hid (∀ w, Tabs w → Calls Tryz.prog 80 #[.agg (insA op a b imm), .bool false] w fun e w' => e = .returned (.bool true) ∧ Kep w w') := fun w hT => by have := may_any op a b imm false w h0 h1 h2 h3 hT; rw [hn] at this; exact this
  have SZ : Hid (∀ w, Tabs w → Calls Tryz.prog 78 #[.int .u8 op, .bool false] w fun e w' => e = .returned (.int .i64 (sz (rowOf op false))) ∧ Kep w w') := fun w hT => bytes_any op false w h0 h1 hT
  have ME : Hid (∀ w p s e, Dd w p op a b imm n s e → Calls Tryz.prog 81 #[.pointer (some ⟨p, 0, none⟩)] w fun x w' => x = .returned .nilFunc ∧ w' = w) := fun w p s e h => method_no hs h
  have hT' : Hid (Tabs w) := hT
  have hN : Hid (nextS s op = s.go ((s.pc + sz (rowOf op false)) % 4294967296)) := rfl
  have hsz : 0 ≤ sz (rowOf op false) ∧ sz (rowOf op false) ≤ 6 := by
    have hr := rowOf_lt op false
    generalize rowOf op false = r at *
    have q : ∀ r, r < 10 → 0 ≤ sz r ∧ sz r ≤ 6 := by decide
    exact q r hr
  generalize sz (rowOf op false) = z at *
  generalize nextS s op = T at *
  have hpc := ok.pc
  clear hn hT h0 h1 h2 h3 ok
  go_enter Tryz.func67, Tryz.ntmps67
  go_wp2_with fail
  refine (MA.out _ (hT'.out.grown kepA)).mono ?_
  rintro e w1 ⟨rfl, K1⟩
  have G1 : Hid (Kep w w1) := kep_trans kepA K1
  obtain ⟨B0, B1, B2, B3⟩ := five_blocks _ _ _ _ _ _ K1
  have z3 := block_lt B3
  have lw := G1.out.size
  obtain ⟨W, hW⟩ : ∃ W, Hid (W = w1.alloc (.cells (dv op a b imm n s (e0 0)) 159)) := ⟨_, rfl⟩
  have C0 : W.heap[w.heap.size]? = some (.cells s.v 26 (0, 0)) := by rw [hW.out]; exact blkA
  have C1 : W.heap[w.heap.size + 1]? = some (.cells (insA op a b imm) 128 (0, 0)) := by rw [hW.out]; exact blkA
  have C2 : W.heap[w.heap.size + 1 + 1]? = some (.cells z19 26 (0, 0)) := by rw [hW.out]; exact blkA
  have C3 : W.heap[w.heap.size + 1 + 1 + 1]? = some (.cells #[.int .i64 0, .bool false, .bool false, .int .i64 0, .int .u32 0] 133 (0, 0)) := by rw [hW.out]; exact blkA
  have C9 : Dd W w1.heap.size op a b imm n s (e0 0) := by rw [hW.out]; unfold Dd; exact blkA
  have GW : Hid (Kep w W) := by rw [hW.out]; show Kep _ _; exact kepA
  have TW : Hid (Tabs W) := hT'.out.grown GW.out
  have z1 : w.heap.size + 1 + 1 + 1 < w1.heap.size := z3
  have H0 : Hid (w1.heap[w.heap.size]? = some (.cells s.v 26 (0, 0))) := B0
  have H1 : Hid (w1.heap[w.heap.size + 1]? = some (.cells (insA op a b imm) 128 (0, 0))) := B1
  clear B0 B1 B2 B3 K1
  go_upto_region 3 with fail
  refine wp_region_lit ?_
  refine wpList_load_row (by rfl) 128 _ (by rfl) (w.heap.size + 1) (by rfl) 128 _ (0, 0) _ H1.out Tryz.underlying128 rfl (by exact size_ins) ?_
  refine Go.Great.wpList_readTo (by rfl) (some 16) (by rfl) (.int .u32 n) (by kernel_rfl) ?_
  refine wpList_load_row (by rfl) 26 _ (by rfl) w.heap.size (by rfl) 26 _ (0, 0) _ H0.out Tryz.underlying26 rfl (by exact size_sta) ?_
  refine Go.Great.wpList_readTo (by rfl) (some 18) (by rfl) (.agg (dv op a b imm n s (e0 0))) (by kernel_rfl) ?_
  refine Go.Great.wpList_runTo (by rfl) (some 19) (by rfl) (.pointer (some ⟨w1.heap.size, 0, none⟩)) (w1.alloc (.cells (dv op a b imm n s (e0 0)) 159)) (by kernel_rfl) ?_
  rw [← hW.out]
  dsimp only [Act.put]
  go_upto_region 4 with fail
  go_cut [8] (fun t8 wx => t8 = .pointer (some ⟨w1.heap.size, 0, none⟩) ∧ Dd wx w1.heap.size op a b imm n T (e0 0) ∧ Put [w1.heap.size] W wx)
  case first =>
    have p8 := C9.pc
    obtain ⟨i0, i1, i2, i3⟩ := ins_at C1
    have zf := row_frozen C9
    have lW := C9.lt
    have zz : w.heap.size + 1 < W.heap.size := block_lt C1
    have C9' : Hid (Dd W w1.heap.size op a b imm n s (e0 0)) := C9
    have C1' : Hid (W.heap[w.heap.size + 1]? = some (.cells (insA op a b imm) 128 (0, 0))) := C1
    clear C0 C1 C2 C3 C9
    go_region_with ((go_at_call 78; refine (SZ.out _ (TW.out.grown kepA)).mono ?_; rintro e wa ⟨rfl, Ka⟩; have Kb : Kep W wa := kep_trans (Kep.drew (Kep.refl W)) Ka; have fa := row_frozen (Dd.kep C9'.out Kb); have c8 := Dd.pc (Dd.kep C9'.out Kb); have Kc : Hid (Kep W wa) := Kb; clear Ka Kb))
    all_goals
      go_wp2_with fail
      go_meet
      have A1 := Dd.kep C9'.out Kc.out
      refine ⟨rfl, ?_, ?_⟩
      · have hw : IntKind.u32.wrap (s.pc + IntKind.u32.wrap z) = (s.pc + z) % 4294967296 := by simp only [IntKind.wrap_u32]; omega
        rw [hN.out, ← hw]
        have A2 := A1.setPc (IntKind.u32.wrap (s.pc + IntKind.u32.wrap z))
        first | exact A2 | exact A2.drew | (simpa using A2)
      · have P1 : Put [w1.heap.size] W _ := Put.of_kep Kc.out
        exact putA
  case rest =>
    obtain ⟨rfl, A9, P9⟩ := hcut
    have D0' : Hid (wc.heap[w.heap.size]? = some (.cells s.v 26 (0, 0))) := P9.keeps C0 (by simp; omega)
    have D2' : Hid (wc.heap[w.heap.size + 1 + 1]? = some (.cells z19 26 (0, 0))) := P9.keeps C2 (by simp; omega)
    have D3' : Hid (wc.heap[w.heap.size + 1 + 1 + 1]? = some (.cells #[.int .i64 0, .bool false, .bool false, .int .i64 0, .int .u32 0] 133 (0, 0))) := P9.keeps C3 (by simp; omega)
    have GC : Hid (Kep w wc) := GW.out.put P9 (by simp; omega)
    have A9' : Hid (Dd wc w1.heap.size op a b imm n T (e0 0)) := A9
    have lc := A9.lt
    clear C0 C1 C2 C3 C9 A9 P9
    go_wp2_with fail
    refine (ME.out _ _ _ _ A9'.out).mono ?_
    rintro x wd ⟨rfl, rfl⟩
    have hnil := nil_is
    go_wp2_with (first | (refine wpList_load_row (by rfl) 26 _ (by rfl) _ (by rfl) 26 _ (0, 0) _ blkA Tryz.underlying26 rfl (by exact size_sta) ?_) | (refine wpList_store_row (by rfl) 26 _ _ (by rfl) _ _ (by rfl) (by rfl) 26 z19 blkA (by exact size_sta) (by rfl) (v_one _) ?_) | (refine wpList_store_row (by rfl) 133 _ _ (by rfl) _ (e0 1).v (by rfl) (by rfl) 133 #[.int .i64 0, .bool false, .bool false, .int .i64 0, .int .u32 0] blkA (by exact size_eff) (by rfl) (eff_one _) ?_))
    try simp only [Exit.inBlock, Exit.then]
    exact bodyPost_ret (resultsCC rfl _ _ (w.heap.size + 1 + 1) 26 _ (0, 0) _ (w.heap.size + 1 + 1 + 1) 133 _ (0, 0) _ (by rfl) blkA Tryz.underlying26 rfl (by exact size_sta) (by rfl) blkA Tryz.underlying133 rfl (by exact size_eff)) rfl ⟨by rfl, kepA⟩
set_option maxHeartbeats 1600000 in
set_option maxRecDepth 100000 in
theorem do_gave (s : Sta) (op : Int) (a b : Nat) (imm n : Int) (w : World) (ok : s.Ok) (h0 : 0 ≤ op) (h1 : op < 256) (h2 : -2147483648 ≤ imm) (h3 : imm ≤ 2147483647) (hn : mayB (rowOf op false) a b imm = true) (hT : Tabs w) (k : Nat) (hk : methK op = k) (hs : isSen op = true) (DN : ∀ w p, Dd w p op a b imm n (nextS s op) (e0 0) → Calls Tryz.prog 82 #[mV k p] w fun x w' => x = .returned (.bool false) ∧ Kep w w') :
    Calls Tryz.prog 67 #[.agg s.v, .agg (insA op a b imm), .int .u32 n] w fun e w' => e = .returned (.tuple #[.agg s.v, .agg (e0 2).v]) ∧ Kep w w' := by
  have MA : Hid (∀ w, Tabs w → Calls Tryz.prog 80 #[.agg (insA op a b imm), .bool false] w fun e w' => e = .returned (.bool true) ∧ Kep w w') := fun w hT => by have := may_any op a b imm false w h0 h1 h2 h3 hT; rw [hn] at this; exact this
  have SZ : Hid (∀ w, Tabs w → Calls Tryz.prog 78 #[.int .u8 op, .bool false] w fun e w' => e = .returned (.int .i64 (sz (rowOf op false))) ∧ Kep w w') := fun w hT => bytes_any op false w h0 h1 hT
  have ME : Hid (∀ w p s e, Dd w p op a b imm n s e → Calls Tryz.prog 81 #[.pointer (some ⟨p, 0, none⟩)] w fun x w' => x = .returned (mV k p) ∧ w' = w) := fun w p s e h => method_is k hk hs h
  have DD : Hid (∀ w p, Dd w p op a b imm n (nextS s op) (e0 0) → Calls Tryz.prog 82 #[mV k p] w fun x w' => x = .returned (.bool false) ∧ Kep w w') := DN
  clear DN
  have hT' : Hid (Tabs w) := hT
  have hN : Hid (nextS s op = s.go ((s.pc + sz (rowOf op false)) % 4294967296)) := rfl
  have hsz : 0 ≤ sz (rowOf op false) ∧ sz (rowOf op false) ≤ 6 := by
    have hr := rowOf_lt op false
    generalize rowOf op false = r at *
    have q : ∀ r, r < 10 → 0 ≤ sz r ∧ sz r ≤ 6 := by decide
    exact q r hr
  generalize sz (rowOf op false) = z at *
  generalize nextS s op = T at *
  have hpc := ok.pc
  clear hn hT h0 h1 h2 h3 ok
  go_enter Tryz.func67, Tryz.ntmps67
  go_wp2_with fail
  refine (MA.out _ (hT'.out.grown kepA)).mono ?_
  rintro e w1 ⟨rfl, K1⟩
  have G1 : Hid (Kep w w1) := kep_trans kepA K1
  obtain ⟨B0, B1, B2, B3⟩ := five_blocks _ _ _ _ _ _ K1
  have z3 := block_lt B3
  have lw := G1.out.size
  obtain ⟨W, hW⟩ : ∃ W, Hid (W = w1.alloc (.cells (dv op a b imm n s (e0 0)) 159)) := ⟨_, rfl⟩
  have C0 : W.heap[w.heap.size]? = some (.cells s.v 26 (0, 0)) := by rw [hW.out]; exact blkA
  have C1 : W.heap[w.heap.size + 1]? = some (.cells (insA op a b imm) 128 (0, 0)) := by rw [hW.out]; exact blkA
  have C2 : W.heap[w.heap.size + 1 + 1]? = some (.cells z19 26 (0, 0)) := by rw [hW.out]; exact blkA
  have C3 : W.heap[w.heap.size + 1 + 1 + 1]? = some (.cells #[.int .i64 0, .bool false, .bool false, .int .i64 0, .int .u32 0] 133 (0, 0)) := by rw [hW.out]; exact blkA
  have C9 : Dd W w1.heap.size op a b imm n s (e0 0) := by rw [hW.out]; unfold Dd; exact blkA
  have GW : Hid (Kep w W) := by rw [hW.out]; show Kep _ _; exact kepA
  have TW : Hid (Tabs W) := hT'.out.grown GW.out
  have z1 : w.heap.size + 1 + 1 + 1 < w1.heap.size := z3
  have H0 : Hid (w1.heap[w.heap.size]? = some (.cells s.v 26 (0, 0))) := B0
  have H1 : Hid (w1.heap[w.heap.size + 1]? = some (.cells (insA op a b imm) 128 (0, 0))) := B1
  clear B0 B1 B2 B3 K1
  go_upto_region 3 with fail
  refine wp_region_lit ?_
  refine wpList_load_row (by rfl) 128 _ (by rfl) (w.heap.size + 1) (by rfl) 128 _ (0, 0) _ H1.out Tryz.underlying128 rfl (by exact size_ins) ?_
  refine Go.Great.wpList_readTo (by rfl) (some 16) (by rfl) (.int .u32 n) (by kernel_rfl) ?_
  refine wpList_load_row (by rfl) 26 _ (by rfl) w.heap.size (by rfl) 26 _ (0, 0) _ H0.out Tryz.underlying26 rfl (by exact size_sta) ?_
  refine Go.Great.wpList_readTo (by rfl) (some 18) (by rfl) (.agg (dv op a b imm n s (e0 0))) (by kernel_rfl) ?_
  refine Go.Great.wpList_runTo (by rfl) (some 19) (by rfl) (.pointer (some ⟨w1.heap.size, 0, none⟩)) (w1.alloc (.cells (dv op a b imm n s (e0 0)) 159)) (by kernel_rfl) ?_
  rw [← hW.out]
  dsimp only [Act.put]
  go_upto_region 4 with fail
  go_cut [8] (fun t8 wx => t8 = .pointer (some ⟨w1.heap.size, 0, none⟩) ∧ Dd wx w1.heap.size op a b imm n T (e0 0) ∧ Put [w1.heap.size] W wx)
  case first =>
    have p8 := C9.pc
    obtain ⟨i0, i1, i2, i3⟩ := ins_at C1
    have zf := row_frozen C9
    have lW := C9.lt
    have zz : w.heap.size + 1 < W.heap.size := block_lt C1
    have C9' : Hid (Dd W w1.heap.size op a b imm n s (e0 0)) := C9
    have C1' : Hid (W.heap[w.heap.size + 1]? = some (.cells (insA op a b imm) 128 (0, 0))) := C1
    clear C0 C1 C2 C3 C9
    go_region_with ((go_at_call 78; refine (SZ.out _ (TW.out.grown kepA)).mono ?_; rintro e wa ⟨rfl, Ka⟩; have Kb : Kep W wa := kep_trans (Kep.drew (Kep.refl W)) Ka; have fa := row_frozen (Dd.kep C9'.out Kb); have c8 := Dd.pc (Dd.kep C9'.out Kb); have Kc : Hid (Kep W wa) := Kb; clear Ka Kb))
    all_goals
      go_wp2_with fail
      go_meet
      have A1 := Dd.kep C9'.out Kc.out
      refine ⟨rfl, ?_, ?_⟩
      · have hw : IntKind.u32.wrap (s.pc + IntKind.u32.wrap z) = (s.pc + z) % 4294967296 := by simp only [IntKind.wrap_u32]; omega
        rw [hN.out, ← hw]
        have A2 := A1.setPc (IntKind.u32.wrap (s.pc + IntKind.u32.wrap z))
        first | exact A2 | exact A2.drew | (simpa using A2)
      · have P1 : Put [w1.heap.size] W _ := Put.of_kep Kc.out
        exact putA
  case rest =>
    obtain ⟨rfl, A9, P9⟩ := hcut
    have D0' : Hid (wc.heap[w.heap.size]? = some (.cells s.v 26 (0, 0))) := P9.keeps C0 (by simp; omega)
    have D2' : Hid (wc.heap[w.heap.size + 1 + 1]? = some (.cells z19 26 (0, 0))) := P9.keeps C2 (by simp; omega)
    have D3' : Hid (wc.heap[w.heap.size + 1 + 1 + 1]? = some (.cells #[.int .i64 0, .bool false, .bool false, .int .i64 0, .int .u32 0] 133 (0, 0))) := P9.keeps C3 (by simp; omega)
    have GC : Hid (Kep w wc) := GW.out.put P9 (by simp; omega)
    have A9' : Hid (Dd wc w1.heap.size op a b imm n T (e0 0)) := A9
    have lc := A9.lt
    clear C0 C1 C2 C3 C9 A9 P9
    go_wp2_with fail
    refine (ME.out _ _ _ _ A9'.out).mono ?_
    rintro x wd ⟨rfl, rfl⟩
    have hnil := nil_no
    clear hsz
    go_wp2_with fail
    refine (DD.out _ _ A9'.out).mono ?_
    rintro x we ⟨rfl, K5⟩
    have H0' : Hid (we.heap[w.heap.size]? = some (.cells s.v 26 (0, 0))) := K5.block D0'.out
    have H2' : Hid (we.heap[w.heap.size + 1 + 1]? = some (.cells z19 26 (0, 0))) := K5.block D2'.out
    have H3' : Hid (we.heap[w.heap.size + 1 + 1 + 1]? = some (.cells #[.int .i64 0, .bool false, .bool false, .int .i64 0, .int .u32 0] 133 (0, 0))) := K5.block D3'.out
    have G5 : Hid (Kep w we) := kep_trans GC.out K5
    have l5 := block_lt H3'.out
    clear K5 D0' D2' D3' GC
    go_wp2_with (first | (refine wpList_load_row (by rfl) 26 _ (by rfl) _ (by rfl) 26 _ (0, 0) _ blkA Tryz.underlying26 rfl (by exact size_sta) ?_) | (refine wpList_store_row (by rfl) 26 _ _ (by rfl) _ _ (by rfl) (by rfl) 26 z19 blkA (by exact size_sta) (by rfl) (v_one _) ?_) | (refine wpList_store_row (by rfl) 133 _ _ (by rfl) _ (e0 2).v (by rfl) (by rfl) 133 #[.int .i64 0, .bool false, .bool false, .int .i64 0, .int .u32 0] blkA (by exact size_eff) (by rfl) (eff_one _) ?_))
    try simp only [Exit.inBlock, Exit.then]
    exact bodyPost_ret (resultsCC rfl _ _ (w.heap.size + 1 + 1) 26 _ (0, 0) _ (w.heap.size + 1 + 1 + 1) 133 _ (0, 0) _ (by rfl) blkA Tryz.underlying26 rfl (by exact size_sta) (by rfl) blkA Tryz.underlying133 rfl (by exact size_eff)) rfl ⟨by rfl, kepA⟩
set_option maxHeartbeats 1600000 in
set_option maxRecDepth 100000 in
theorem do_did (s : Sta) (op : Int) (a b : Nat) (imm n : Int) (w : World) (ok : s.Ok) (h0 : 0 ≤ op) (h1 : op < 256) (h2 : -2147483648 ≤ imm) (h3 : imm ≤ 2147483647) (hn : mayB (rowOf op false) a b imm = true) (hT : Tabs w) (k : Nat) (hk : methK op = k) (hs : isSen op = true) (S' : Sta) (E' : Eff) (DN : ∀ w p, Dd w p op a b imm n (nextS s op) (e0 0) → Calls Tryz.prog 82 #[mV k p] w fun x w' => x = .returned (.bool true) ∧ Put [p] w w' ∧ Dd w' p op a b imm n S' E') :
    Calls Tryz.prog 67 #[.agg s.v, .agg (insA op a b imm), .int .u32 n] w fun e w' => e = .returned (.tuple #[.agg S'.v, .agg E'.v]) ∧ Kep w w' := by
  have MA : Hid (∀ w, Tabs w → Calls Tryz.prog 80 #[.agg (insA op a b imm), .bool false] w fun e w' => e = .returned (.bool true) ∧ Kep w w') := fun w hT => by have := may_any op a b imm false w h0 h1 h2 h3 hT; rw [hn] at this; exact this
  have SZ : Hid (∀ w, Tabs w → Calls Tryz.prog 78 #[.int .u8 op, .bool false] w fun e w' => e = .returned (.int .i64 (sz (rowOf op false))) ∧ Kep w w') := fun w hT => bytes_any op false w h0 h1 hT
  have ME : Hid (∀ w p s e, Dd w p op a b imm n s e → Calls Tryz.prog 81 #[.pointer (some ⟨p, 0, none⟩)] w fun x w' => x = .returned (mV k p) ∧ w' = w) := fun w p s e h => method_is k hk hs h
  have DD : Hid (∀ w p, Dd w p op a b imm n (nextS s op) (e0 0) → Calls Tryz.prog 82 #[mV k p] w fun x w' => x = .returned (.bool true) ∧ Put [p] w w' ∧ Dd w' p op a b imm n S' E') := DN
  clear DN
  have hT' : Hid (Tabs w) := hT
  have hN : Hid (nextS s op = s.go ((s.pc + sz (rowOf op false)) % 4294967296)) := rfl
  have hsz : 0 ≤ sz (rowOf op false) ∧ sz (rowOf op false) ≤ 6 := by
    have hr := rowOf_lt op false
    generalize rowOf op false = r at *
    have q : ∀ r, r < 10 → 0 ≤ sz r ∧ sz r ≤ 6 := by decide
    exact q r hr
  generalize sz (rowOf op false) = z at *
  generalize nextS s op = T at *
  have hpc := ok.pc
  clear hn hT h0 h1 h2 h3 ok
  go_enter Tryz.func67, Tryz.ntmps67
  go_wp2_with fail
  refine (MA.out _ (hT'.out.grown kepA)).mono ?_
  rintro e w1 ⟨rfl, K1⟩
  have G1 : Hid (Kep w w1) := kep_trans kepA K1
  obtain ⟨B0, B1, B2, B3⟩ := five_blocks _ _ _ _ _ _ K1
  have z3 := block_lt B3
  have lw := G1.out.size
  obtain ⟨W, hW⟩ : ∃ W, Hid (W = w1.alloc (.cells (dv op a b imm n s (e0 0)) 159)) := ⟨_, rfl⟩
  have C0 : W.heap[w.heap.size]? = some (.cells s.v 26 (0, 0)) := by rw [hW.out]; exact blkA
  have C1 : W.heap[w.heap.size + 1]? = some (.cells (insA op a b imm) 128 (0, 0)) := by rw [hW.out]; exact blkA
  have C2 : W.heap[w.heap.size + 1 + 1]? = some (.cells z19 26 (0, 0)) := by rw [hW.out]; exact blkA
  have C3 : W.heap[w.heap.size + 1 + 1 + 1]? = some (.cells #[.int .i64 0, .bool false, .bool false, .int .i64 0, .int .u32 0] 133 (0, 0)) := by rw [hW.out]; exact blkA
  have C9 : Dd W w1.heap.size op a b imm n s (e0 0) := by rw [hW.out]; unfold Dd; exact blkA
  have GW : Hid (Kep w W) := by rw [hW.out]; show Kep _ _; exact kepA
  have TW : Hid (Tabs W) := hT'.out.grown GW.out
  have z1 : w.heap.size + 1 + 1 + 1 < w1.heap.size := z3
  have H0 : Hid (w1.heap[w.heap.size]? = some (.cells s.v 26 (0, 0))) := B0
  have H1 : Hid (w1.heap[w.heap.size + 1]? = some (.cells (insA op a b imm) 128 (0, 0))) := B1
  clear B0 B1 B2 B3 K1
  go_upto_region 3 with fail
  refine wp_region_lit ?_
  refine wpList_load_row (by rfl) 128 _ (by rfl) (w.heap.size + 1) (by rfl) 128 _ (0, 0) _ H1.out Tryz.underlying128 rfl (by exact size_ins) ?_
  refine Go.Great.wpList_readTo (by rfl) (some 16) (by rfl) (.int .u32 n) (by kernel_rfl) ?_
  refine wpList_load_row (by rfl) 26 _ (by rfl) w.heap.size (by rfl) 26 _ (0, 0) _ H0.out Tryz.underlying26 rfl (by exact size_sta) ?_
  refine Go.Great.wpList_readTo (by rfl) (some 18) (by rfl) (.agg (dv op a b imm n s (e0 0))) (by kernel_rfl) ?_
  refine Go.Great.wpList_runTo (by rfl) (some 19) (by rfl) (.pointer (some ⟨w1.heap.size, 0, none⟩)) (w1.alloc (.cells (dv op a b imm n s (e0 0)) 159)) (by kernel_rfl) ?_
  rw [← hW.out]
  dsimp only [Act.put]
  go_upto_region 4 with fail
  go_cut [8] (fun t8 wx => t8 = .pointer (some ⟨w1.heap.size, 0, none⟩) ∧ Dd wx w1.heap.size op a b imm n T (e0 0) ∧ Put [w1.heap.size] W wx)
  case first =>
    have p8 := C9.pc
    obtain ⟨i0, i1, i2, i3⟩ := ins_at C1
    have zf := row_frozen C9
    have lW := C9.lt
    have zz : w.heap.size + 1 < W.heap.size := block_lt C1
    have C9' : Hid (Dd W w1.heap.size op a b imm n s (e0 0)) := C9
    have C1' : Hid (W.heap[w.heap.size + 1]? = some (.cells (insA op a b imm) 128 (0, 0))) := C1
    clear C0 C1 C2 C3 C9
    go_region_with ((go_at_call 78; refine (SZ.out _ (TW.out.grown kepA)).mono ?_; rintro e wa ⟨rfl, Ka⟩; have Kb : Kep W wa := kep_trans (Kep.drew (Kep.refl W)) Ka; have fa := row_frozen (Dd.kep C9'.out Kb); have c8 := Dd.pc (Dd.kep C9'.out Kb); have Kc : Hid (Kep W wa) := Kb; clear Ka Kb))
    all_goals
      go_wp2_with fail
      go_meet
      have A1 := Dd.kep C9'.out Kc.out
      refine ⟨rfl, ?_, ?_⟩
      · have hw : IntKind.u32.wrap (s.pc + IntKind.u32.wrap z) = (s.pc + z) % 4294967296 := by simp only [IntKind.wrap_u32]; omega
        rw [hN.out, ← hw]
        have A2 := A1.setPc (IntKind.u32.wrap (s.pc + IntKind.u32.wrap z))
        first | exact A2 | exact A2.drew | (simpa using A2)
      · have P1 : Put [w1.heap.size] W _ := Put.of_kep Kc.out
        exact putA
  case rest =>
    obtain ⟨rfl, A9, P9⟩ := hcut
    have D0' : Hid (wc.heap[w.heap.size]? = some (.cells s.v 26 (0, 0))) := P9.keeps C0 (by simp; omega)
    have D2' : Hid (wc.heap[w.heap.size + 1 + 1]? = some (.cells z19 26 (0, 0))) := P9.keeps C2 (by simp; omega)
    have D3' : Hid (wc.heap[w.heap.size + 1 + 1 + 1]? = some (.cells #[.int .i64 0, .bool false, .bool false, .int .i64 0, .int .u32 0] 133 (0, 0))) := P9.keeps C3 (by simp; omega)
    have GC : Hid (Kep w wc) := GW.out.put P9 (by simp; omega)
    have A9' : Hid (Dd wc w1.heap.size op a b imm n T (e0 0)) := A9
    have lc := A9.lt
    clear C0 C1 C2 C3 C9 A9 P9
    go_wp2_with fail
    refine (ME.out _ _ _ _ A9'.out).mono ?_
    rintro x wd ⟨rfl, rfl⟩
    have hnil := nil_no
    clear hsz
    go_wp2_with fail
    refine (DD.out _ _ A9'.out).mono ?_
    rintro x we ⟨rfl, P5, D5⟩
    have H2' : Hid (we.heap[w.heap.size + 1 + 1]? = some (.cells z19 26 (0, 0))) := P5.keeps D2'.out (by simp; omega)
    have H3' : Hid (we.heap[w.heap.size + 1 + 1 + 1]? = some (.cells #[.int .i64 0, .bool false, .bool false, .int .i64 0, .int .u32 0] 133 (0, 0))) := P5.keeps D3'.out (by simp; omega)
    have G5 : Hid (Kep w we) := GC.out.put P5 (by simp; omega)
    have D5' : Hid (Dd we w1.heap.size op a b imm n S' E') := D5
    have l5 := block_lt H3'.out
    clear P5 D0' D2' D3' GC D5
    go_wp2_with fail
    refine wp_region_held_drew (S := fun w' => Dd w' w1.heap.size op a b imm n S' E') (by kernel_rfl) D5'.out (fun hH => ?_)
    refine wpAnyH_take (i := 0) (v := .pointer (some ⟨w1.heap.size, 0, none⟩)) rfl (by kernel_rfl) (by kernel_rfl) (by kernel_rfl) (fun _ _ _ h => h) (Or.inl ⟨by rfl, by intro w' _; (first | kernel_rfl | (go_simp; done))⟩) hH ?_
    (try simp only [jA, jB, jC, Act.put, jD, jE, jF])
    refine wpAnyH_take (i := 1) (v := .pointer (some ⟨w1.heap.size, 0, none⟩)) rfl (by kernel_rfl) (by kernel_rfl) (by kernel_rfl) (fun _ _ _ h => h) (Or.inl ⟨by rfl, by intro w' _; (first | kernel_rfl | (go_simp; done))⟩) hH ?_
    (try simp only [jA, jB, jC, Act.put, jD, jE, jF])
    refine wpAnyH_take (i := 2) (v := .pointer (some ⟨w1.heap.size, 5, none⟩)) rfl (by kernel_rfl) (by kernel_rfl) (by kernel_rfl) (fun _ _ _ h => h) (Or.inl ⟨by rfl, by intro w' _; (first | kernel_rfl | (go_simp; done))⟩) hH ?_
    (try simp only [jA, jB, jC, Act.put, jD, jE, jF])
    refine wpAnyH_take (i := 3) (v := .agg S'.v.toList.toArray) rfl (by kernel_rfl) (by kernel_rfl) (by kernel_rfl) (fun _ _ _ h => h) (yieldsIf_load_mid rfl 26 _ rfl w1.heap.size 5 rfl S'.v.toList _ (fun w h => Dd.after h) Tryz.underlying26 rfl (by exact size_sta)) hH ?_
    (try simp only [jA, jB, jC, Act.put, jD, jE, jF])
    refine wpAnyH_take (i := 4) (v := .pointer (some ⟨w1.heap.size, 0, none⟩)) rfl (by kernel_rfl) (by kernel_rfl) (by kernel_rfl) (fun _ _ _ h => h) (Or.inl ⟨by rfl, by intro w' _; (first | kernel_rfl | (go_simp; done))⟩) hH ?_
    (try simp only [jA, jB, jC, Act.put, jD, jE, jF])
    refine wpAnyH_take (i := 5) (v := .pointer (some ⟨w1.heap.size, 0, none⟩)) rfl (by kernel_rfl) (by kernel_rfl) (by kernel_rfl) (fun _ _ _ h => h) (Or.inl ⟨by rfl, by intro w' _; (first | kernel_rfl | (go_simp; done))⟩) hH ?_
    (try simp only [jA, jB, jC, Act.put, jD, jE, jF])
    refine wpAnyH_take (i := 6) (v := .pointer (some ⟨w1.heap.size, 24, none⟩)) rfl (by kernel_rfl) (by kernel_rfl) (by kernel_rfl) (fun _ _ _ h => h) (Or.inl ⟨by rfl, by intro w' _; (first | kernel_rfl | (go_simp; done))⟩) hH ?_
    (try simp only [jA, jB, jC, Act.put, jD, jE, jF])
    refine wpAnyH_take (i := 7) (v := .agg E'.v.toList.toArray) rfl (by kernel_rfl) (by kernel_rfl) (by kernel_rfl) (fun _ _ _ h => h) (yieldsIf_load_mid rfl 133 _ rfl w1.heap.size 24 rfl E'.v.toList _ (fun w h => Dd.asks h) Tryz.underlying133 rfl (by exact size_eff)) hH ?_
    (try simp only [jA, jB, jC, Act.put, jD, jE, jF])
    refine wpAnyH_ready (rs := [8]) (by kernel_rfl) (by simp) ?_
    refine AllReadyH.cons rfl (fun K hK => ?_) AllReadyH.nil
    rw [if_pos (by rfl)]
    refine wp_store_row 26 _ _ rfl (w.heap.size + 1 + 1) S'.v rfl rfl 26 z19 blkA size_sta rfl (v_one _) ?_
    refine hK.out _ _ (Dd.setRowOther hH (by omega) _) (fun hH => ?_)
    clear hK K
    (try simp only [jA, jB, jC, Act.put, jD, jE, jF])
    refine wpAnyH_ready (rs := [9]) (by kernel_rfl) (by simp) ?_
    refine AllReadyH.cons rfl (fun K hK => ?_) AllReadyH.nil
    rw [if_pos (by rfl)]
    refine wp_store_row 133 _ _ rfl (w.heap.size + 1 + 1 + 1) E'.v rfl rfl 133 #[.int .i64 0, .bool false, .bool false, .int .i64 0, .int .u32 0] blkA size_eff rfl (eff_one _) ?_
    refine hK.out _ _ (Dd.setRowOther hH (by omega) _) (fun hH => ?_)
    clear hK K
    (try simp only [jA, jB, jC, Act.put, jD, jE, jF])
    refine wpAnyH_done (by kernel_rfl) ?_ _
    go_wp2_with fail
    try simp only [Exit.inBlock, Exit.then]
    exact bodyPost_ret (resultsCC rfl _ _ (w.heap.size + 1 + 1) 26 _ (0, 0) _ (w.heap.size + 1 + 1 + 1) 133 _ (0, 0) _ (by rfl) blkA Tryz.underlying26 rfl (by exact size_sta) (by rfl) blkA Tryz.underlying133 rfl (by exact size_eff)) rfl ⟨by rfl, kepA⟩
end Go.Proofs.YtnignfloedcmlaaGreatDoor
