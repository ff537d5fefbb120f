/- move: to and from memory. -/
import Derived.Test.YtfpknklibiigfaaDoorCrdiv
import Derived.Test.YtfpknklibiigfaaDoorAuto
import Derived.Deep.CutRange
import Derived.Deep.DeepCutAuto
namespace Go.Proofs.YtfpknklibiigfaaDoor
open Go.RowKit
set_option linter.unusedVariables false
set_option linter.unusedSimpArgs false

def tkV (op v : Int) : Int := if takes op then takenV op v else 0
set_option maxHeartbeats 1600000 in
theorem taken_any (op v : Int) (w : World) (m : 48 ≤ op ∧ op ≤ 58) (h0 : 0 ≤ v) (h1 : v < 4294967296) :
    Calls Tryd.prog 41 #[.int .u8 op, .int .u32 v] w fun e w' => e = .returned (.tuple #[.int .u32 (tkV op v), .bool (takes op)]) ∧ w' = w := by
  rcases mem_ops m with rfl | rfl | rfl | rfl | rfl | rfl | rfl | rfl | rfl | rfl | rfl
  all_goals
    clear m
    go_enter Tryd.func41, Tryd.ntmps41
    go_wp2_with (go_at_call 62; refine (lowest_any _ _ _ (by omega) (by omega) (by simp)).mono ?_; rintro e w' ⟨rfl, rfl⟩)
    go_ret2
    refine ⟨?_, rfl⟩
    first
      | rfl
      | (refine congrArg Ending.returned (congrArg Value.tuple ?_)
         simp [tkV, takes, takenV, sext, lowI, IntKind.wrap, IntKind.bits, IntKind.signed]
         try split
         all_goals omega)

set_option maxHeartbeats 4000000 in
set_option maxRecDepth 100000 in
theorem move_any (s : Sta) (op : Int) (a b : Nat) (imm v : Int) (p : Nat) (w : World) (h : At w p s) (ok : s.Ok) (m : 48 ≤ op ∧ op ≤ 58) (ha : (a : Int) < 8) (h2 : -2147483648 ≤ imm) (h3 : imm ≤ 2147483647) (hv : 0 ≤ v ∧ v < 4294967296) (hT : Tabs w) :
    Calls Tryd.prog 35 #[.pointer (some ⟨p, 0, none⟩), .agg (insA op a b imm), .int .u32 v] w fun e w' => e = .returned (.agg (fltV (wantF s op a b imm))) ∧ Put [p] w w' ∧ ((wantF s op a b imm).1 = 0 → At w' p (movS s op a v)) := by
  have WA : Hid (∀ w, Tabs w → Calls Tryd.prog 40 #[.agg s.v, .agg (insA op a b imm)] w fun e w' => e = .returned (.tuple #[.agg (accV (wantA s op a b imm)), .agg (fltV (wantF s op a b imm))]) ∧ Kep w w') := fun w hT => want_any s op a b imm w ok (by omega) (by omega) h2 h3 hT
  have TA : Hid (∀ w, Calls Tryd.prog 41 #[.int .u8 op, .int .u32 v] w fun e w' => e = .returned (.tuple #[.int .u32 (tkV op v), .bool (takes op)]) ∧ w' = w) := fun w => taken_any op v w m hv.1 hv.2
  have hqd : (wantF s op a b imm).1 = 0 → (wantF s op a b imm).2 = 0 := by
    unfold wantF; split
    · intro h; exact absurd h (by show (4 : Int) ≠ 0; decide)
    · intro _; rfl
  generalize wantA s op a b imm = qa at *
  generalize wantF s op a b imm = qf at *
  obtain ⟨qc, qd⟩ := qf
  obtain ⟨q1, q2, q3, q4⟩ := qa
  have H : Hid (At w p s) := h
  have hT' : Hid (Tabs w) := hT
  have lp := h.lt
  clear h hT
  go_enter Tryd.func35, Tryd.ntmps35
  go_upto_region 1 with fail
  obtain ⟨W, hW⟩ : ∃ W, Hid (W = (w.alloc (.cells (insA op a b imm) 37)).alloc (.cells #[.int .i64 0, .int .u32 0] 45)) := ⟨_, rfl⟩
  have IW : W.heap[w.heap.size]? = some (.cells (insA op a b imm) 37 (0, 0)) := by rw [hW.out]; exact blkA
  have FW : W.heap[w.heap.size + 1]? = some (.cells #[.int .i64 0, .int .u32 0] 45 (0, 0)) := by rw [hW.out]; exact blkA
  have HW : At W p s := by rw [hW.out]; exact (H.out.alloc _).alloc _
  have TW : Hid (Tabs W) := by rw [hW.out]; exact hT'.out.grown (((Kep.refl _).alloc _).alloc _)
  rw [← hW.out]
  go_cut [8] (fun t8 wx => ∃ g8 : Nat, t8 = .pointer (some ⟨g8, 0, none⟩) ∧ wx.heap[g8]? = some (.cells #[.int .i64 qc, .int .u32 qd] 45 (0, 0)) ∧ Kep W wx)
  case first =>
    have zp := HW.lt
    have zi := block_lt IW
    refine wp_region_held_drew (S := fun w' => At w' p s ∧ w'.heap[w.heap.size]? = some (.cells (insA op a b imm) 37 (0, 0))) (by kernel_rfl) ⟨HW, IW⟩ (fun hH => ?_)
    have HB : At W p s ∧ W.heap[w.heap.size]? = some (.cells (insA op a b imm) 37 (0, 0)) := ⟨HW, IW⟩
    refine wpAnyH_take (i := 0)  (v := .pointer (some ⟨p, 0, none⟩)) rfl (by kernel_rfl) (by kernel_rfl) (by kernel_rfl) (fun _ _ _ h => h) (Or.inl ⟨by rfl, fun w _ => by rfl⟩) hH ?_
    (try dsimp only [Act.put]); (try simp only [Act.put, List.setIfInBounds_toArray, List.set_cons_zero, List.set_cons_succ])
    refine wpAnyH_take (i := 1)  (v := .pointer (some ⟨p, 0, none⟩)) rfl (by kernel_rfl) (by kernel_rfl) (by kernel_rfl) (fun _ _ _ h => h) (Or.inl ⟨by rfl, fun w _ => by rfl⟩) hH ?_
    (try dsimp only [Act.put]); (try simp only [Act.put, List.setIfInBounds_toArray, List.set_cons_zero, List.set_cons_succ])
    refine wpAnyH_take (i := 2)  (v := .agg s.v) rfl (by kernel_rfl) (by kernel_rfl) (by kernel_rfl) (fun _ _ _ h => h) (yields_row rfl 43 _ rfl p rfl 43 s.v (0, 0) _ (fun w h => h.1) Tryd.underlying43 rfl size_sta) hH ?_
    (try dsimp only [Act.put]); (try simp only [Act.put, List.setIfInBounds_toArray, List.set_cons_zero, List.set_cons_succ])
    refine wpAnyH_take (i := 3)  (v := .agg (insA op a b imm)) rfl (by kernel_rfl) (by kernel_rfl) (by kernel_rfl) (fun _ _ _ h => h) (yields_row rfl 37 _ rfl w.heap.size rfl 37 (insA op a b imm) (0, 0) _ (fun w h => h.2) Tryd.underlying37 rfl size_ins) hH ?_
    (try dsimp only [Act.put]); (try simp only [Act.put, List.setIfInBounds_toArray, List.set_cons_zero, List.set_cons_succ])
    refine wpAnyH_ready (rs := [4, 8, 9]) (by kernel_rfl) (by simp) ?_
    refine AllReadyH.cons rfl (fun K hK => ?_) ?_
    · skip
      rw [if_pos (by rfl)]
      go_simp
      refine (WA.out _ (TW.out.grown kepA)).mono ?_
      rintro e wa ⟨rfl, K1⟩
      refine hK.out _ _ ⟨hH.1.kep K1, K1.block hH.2⟩ (fun hH => ?_)
      clear hK K
      (try dsimp only [Act.put]); (try simp only [Act.put, List.setIfInBounds_toArray, List.set_cons_zero, List.set_cons_succ])
      have SA := hH
      have zk := K1.size
      simp only [World.size_alloc, World.size_drew] at zk
      have KW1 : Hid (Kep W wa) := kep_trans kepA K1
      refine wpAnyH_take (i := 5) (oi := { dst := some 11, op := .move (.tmp 16), type := 89, pos := "core.go:202", after := #[{ on := 4, ground := .data }], guard := none }) (v := .tuple #[.agg (accV (q1, q2, q3, q4)), .agg (fltV (qc, qd))]) rfl (by kernel_rfl) (by kernel_rfl) (by kernel_rfl) (fun _ _ _ h => h) (Or.inl ⟨by rfl, fun w _ => by rfl⟩) hH ?_
      (try dsimp only [Act.put]); (try simp only [Act.put, List.setIfInBounds_toArray, List.set_cons_zero, List.set_cons_succ])
      refine wpAnyH_take (i := 6) (oi := { dst := some 17, op := .extract (.tmp 11) 0, type := 88, pos := "core.go:202", after := #[{ on := 5, ground := .data }], guard := none }) (v := .agg (accV (q1, q2, q3, q4))) rfl (by kernel_rfl) (by kernel_rfl) (by kernel_rfl) (fun _ _ _ h => h) (Or.inl ⟨by rfl, fun w _ => by rfl⟩) hH ?_
      (try dsimp only [Act.put]); (try simp only [Act.put, List.setIfInBounds_toArray, List.set_cons_zero, List.set_cons_succ])
      refine wpAnyH_take (i := 7) (oi := { dst := some 18, op := .extract (.tmp 11) 1, type := 45, pos := "core.go:202", after := #[{ on := 5, ground := .data }, { on := 10, ground := .gcOnly .lateStores }], guard := none }) (v := .agg (fltV (qc, qd))) rfl (by kernel_rfl) (by kernel_rfl) (by kernel_rfl) (fun _ _ _ h => h) (Or.inl ⟨by rfl, fun w _ => by rfl⟩) hH ?_
      (try dsimp only [Act.put]); (try simp only [Act.put, List.setIfInBounds_toArray, List.set_cons_zero, List.set_cons_succ])
      refine wpAnyH_ready (rs := [8, 9]) (by kernel_rfl) (by simp) ?_
      refine AllReadyH.cons rfl (fun K hK => ?_) ?_
      · skip
        rw [if_pos (by rfl)]
        go_simp
        refine hK.out _ _ ⟨SA.1.kep kepA, Kep.block kepA SA.2⟩ (fun hH => ?_)
        clear hK K
        (try dsimp only [Act.put]); (try simp only [Act.put, List.setIfInBounds_toArray, List.set_cons_zero, List.set_cons_succ])
        refine wpAnyH_ready (rs := [9]) (by kernel_rfl) (by simp) ?_
        refine AllReadyH.cons rfl (fun K hK => ?_) AllReadyH.nil
        rw [if_pos (by rfl)]
        go_simp
        refine hK.out _ _ ⟨SA.1.kep kepA, Kep.block kepA SA.2⟩ (fun hH => ?_)
        clear hK K
        (try dsimp only [Act.put]); (try simp only [Act.put, List.setIfInBounds_toArray, List.set_cons_zero, List.set_cons_succ])
        refine wpAnyH_ready (rs := [10]) (by kernel_rfl) (by simp) ?_
        refine AllReadyH.cons rfl (fun K hK => ?_) AllReadyH.nil
        rw [if_pos (by rfl)]
        refine wp_store_row 88 _ _ rfl (wa.heap.size) #[.int .i64 q1, .int .u32 q2, .int .i64 q3, .int .u32 q4] rfl rfl 88 #[.int .i64 0, .int .u32 0, .int .i64 0, .int .u32 0] blkA (by exact size_acc) rfl (by simp [Value.oneCell']) ?_
        refine hK.out _ _ ⟨hH.1.setRow (by omega) _, (setRow_other _ _ _ _ (by omega)).trans hH.2⟩ (fun hH => ?_)
        clear hK K
        (try dsimp only [Act.put]); (try simp only [Act.put, List.setIfInBounds_toArray, List.set_cons_zero, List.set_cons_succ])
        refine wpAnyH_ready (rs := [11]) (by kernel_rfl) (by simp) ?_
        refine AllReadyH.cons rfl (fun K hK => ?_) AllReadyH.nil
        rw [if_pos (by rfl)]
        refine wp_store_row 45 _ _ rfl (wa.heap.size + 1) #[.int .i64 qc, .int .u32 qd] rfl rfl 45 #[.int .i64 0, .int .u32 0] blkA (by exact size_flt) rfl (by simp [Value.oneCell']) ?_
        refine hK.out _ _ ⟨hH.1.setRow (by omega) _, (setRow_other _ _ _ _ (by omega)).trans hH.2⟩ (fun hH => ?_)
        clear hK K
        (try dsimp only [Act.put]); (try simp only [Act.put, List.setIfInBounds_toArray, List.set_cons_zero, List.set_cons_succ])
        refine wpAnyH_done (by kernel_rfl) ?_ _
        go_wp2_with fail
        go_meet
        exact ⟨wa.heap.size + 1, rfl, setRow_heap _ _ _ _ _ _ blkA, kepA⟩
      refine AllReadyH.cons rfl (fun K hK => ?_) AllReadyH.nil
      rw [if_pos (by rfl)]
      go_simp
      refine hK.out _ _ ⟨SA.1.kep kepA, Kep.block kepA SA.2⟩ (fun hH => ?_)
      clear hK K
      (try dsimp only [Act.put]); (try simp only [Act.put, List.setIfInBounds_toArray, List.set_cons_zero, List.set_cons_succ])
      refine wpAnyH_ready (rs := [8]) (by kernel_rfl) (by simp) ?_
      refine AllReadyH.cons rfl (fun K hK => ?_) AllReadyH.nil
      rw [if_pos (by rfl)]
      go_simp
      refine hK.out _ _ ⟨SA.1.kep kepA, Kep.block kepA SA.2⟩ (fun hH => ?_)
      clear hK K
      (try dsimp only [Act.put]); (try simp only [Act.put, List.setIfInBounds_toArray, List.set_cons_zero, List.set_cons_succ])
      refine wpAnyH_ready (rs := [10]) (by kernel_rfl) (by simp) ?_
      refine AllReadyH.cons rfl (fun K hK => ?_) AllReadyH.nil
      rw [if_pos (by rfl)]
      refine wp_store_row 88 _ _ rfl (wa.heap.size + 1) #[.int .i64 q1, .int .u32 q2, .int .i64 q3, .int .u32 q4] rfl rfl 88 #[.int .i64 0, .int .u32 0, .int .i64 0, .int .u32 0] blkA (by exact size_acc) rfl (by simp [Value.oneCell']) ?_
      refine hK.out _ _ ⟨hH.1.setRow (by omega) _, (setRow_other _ _ _ _ (by omega)).trans hH.2⟩ (fun hH => ?_)
      clear hK K
      (try dsimp only [Act.put]); (try simp only [Act.put, List.setIfInBounds_toArray, List.set_cons_zero, List.set_cons_succ])
      refine wpAnyH_ready (rs := [11]) (by kernel_rfl) (by simp) ?_
      refine AllReadyH.cons rfl (fun K hK => ?_) AllReadyH.nil
      rw [if_pos (by rfl)]
      refine wp_store_row 45 _ _ rfl (wa.heap.size) #[.int .i64 qc, .int .u32 qd] rfl rfl 45 #[.int .i64 0, .int .u32 0] blkA (by exact size_flt) rfl (by simp [Value.oneCell']) ?_
      refine hK.out _ _ ⟨hH.1.setRow (by omega) _, (setRow_other _ _ _ _ (by omega)).trans hH.2⟩ (fun hH => ?_)
      clear hK K
      (try dsimp only [Act.put]); (try simp only [Act.put, List.setIfInBounds_toArray, List.set_cons_zero, List.set_cons_succ])
      refine wpAnyH_done (by kernel_rfl) ?_ _
      go_wp2_with fail
      go_meet
      exact ⟨wa.heap.size, rfl, setRow_heap _ _ _ _ _ _ blkA, kepA⟩
    refine AllReadyH.cons rfl (fun K hK => ?_) ?_
    · skip
      rw [if_pos (by rfl)]
      go_simp
      refine hK.out _ _ ⟨HB.1.kep kepA, Kep.block kepA HB.2⟩ (fun hH => ?_)
      clear hK K
      (try dsimp only [Act.put]); (try simp only [Act.put, List.setIfInBounds_toArray, List.set_cons_zero, List.set_cons_succ])
      refine wpAnyH_ready (rs := [4, 9]) (by kernel_rfl) (by simp) ?_
      refine AllReadyH.cons rfl (fun K hK => ?_) ?_
      · skip
        rw [if_pos (by rfl)]
        go_simp
        refine (WA.out _ (TW.out.grown kepA)).mono ?_
        rintro e wa ⟨rfl, K1⟩
        refine hK.out _ _ ⟨hH.1.kep K1, K1.block hH.2⟩ (fun hH => ?_)
        clear hK K
        (try dsimp only [Act.put]); (try simp only [Act.put, List.setIfInBounds_toArray, List.set_cons_zero, List.set_cons_succ])
        have SA := hH
        have zk := K1.size
        simp only [World.size_alloc, World.size_drew] at zk
        have KW1 : Hid (Kep W wa) := kep_trans kepA K1
        refine wpAnyH_take (i := 5) (oi := { dst := some 11, op := .move (.tmp 16), type := 89, pos := "core.go:202", after := #[{ on := 4, ground := .data }], guard := none }) (v := .tuple #[.agg (accV (q1, q2, q3, q4)), .agg (fltV (qc, qd))]) rfl (by kernel_rfl) (by kernel_rfl) (by kernel_rfl) (fun _ _ _ h => h) (Or.inl ⟨by rfl, fun w _ => by rfl⟩) hH ?_
        (try dsimp only [Act.put]); (try simp only [Act.put, List.setIfInBounds_toArray, List.set_cons_zero, List.set_cons_succ])
        refine wpAnyH_take (i := 6) (oi := { dst := some 17, op := .extract (.tmp 11) 0, type := 88, pos := "core.go:202", after := #[{ on := 5, ground := .data }], guard := none }) (v := .agg (accV (q1, q2, q3, q4))) rfl (by kernel_rfl) (by kernel_rfl) (by kernel_rfl) (fun _ _ _ h => h) (Or.inl ⟨by rfl, fun w _ => by rfl⟩) hH ?_
        (try dsimp only [Act.put]); (try simp only [Act.put, List.setIfInBounds_toArray, List.set_cons_zero, List.set_cons_succ])
        refine wpAnyH_take (i := 7) (oi := { dst := some 18, op := .extract (.tmp 11) 1, type := 45, pos := "core.go:202", after := #[{ on := 5, ground := .data }, { on := 10, ground := .gcOnly .lateStores }], guard := none }) (v := .agg (fltV (qc, qd))) rfl (by kernel_rfl) (by kernel_rfl) (by kernel_rfl) (fun _ _ _ h => h) (Or.inl ⟨by rfl, fun w _ => by rfl⟩) hH ?_
        (try dsimp only [Act.put]); (try simp only [Act.put, List.setIfInBounds_toArray, List.set_cons_zero, List.set_cons_succ])
        refine wpAnyH_ready (rs := [9]) (by kernel_rfl) (by simp) ?_
        refine AllReadyH.cons rfl (fun K hK => ?_) AllReadyH.nil
        rw [if_pos (by rfl)]
        go_simp
        refine hK.out _ _ ⟨SA.1.kep kepA, Kep.block kepA SA.2⟩ (fun hH => ?_)
        clear hK K
        (try dsimp only [Act.put]); (try simp only [Act.put, List.setIfInBounds_toArray, List.set_cons_zero, List.set_cons_succ])
        refine wpAnyH_ready (rs := [10]) (by kernel_rfl) (by simp) ?_
        refine AllReadyH.cons rfl (fun K hK => ?_) AllReadyH.nil
        rw [if_pos (by rfl)]
        refine wp_store_row 88 _ _ rfl (W.heap.size) #[.int .i64 q1, .int .u32 q2, .int .i64 q3, .int .u32 q4] rfl rfl 88 #[.int .i64 0, .int .u32 0, .int .i64 0, .int .u32 0] blkA (by exact size_acc) rfl (by simp [Value.oneCell']) ?_
        refine hK.out _ _ ⟨hH.1.setRow (by omega) _, (setRow_other _ _ _ _ (by omega)).trans hH.2⟩ (fun hH => ?_)
        clear hK K
        (try dsimp only [Act.put]); (try simp only [Act.put, List.setIfInBounds_toArray, List.set_cons_zero, List.set_cons_succ])
        refine wpAnyH_ready (rs := [11]) (by kernel_rfl) (by simp) ?_
        refine AllReadyH.cons rfl (fun K hK => ?_) AllReadyH.nil
        rw [if_pos (by rfl)]
        refine wp_store_row 45 _ _ rfl (wa.heap.size) #[.int .i64 qc, .int .u32 qd] rfl rfl 45 #[.int .i64 0, .int .u32 0] blkA (by exact size_flt) rfl (by simp [Value.oneCell']) ?_
        refine hK.out _ _ ⟨hH.1.setRow (by omega) _, (setRow_other _ _ _ _ (by omega)).trans hH.2⟩ (fun hH => ?_)
        clear hK K
        (try dsimp only [Act.put]); (try simp only [Act.put, List.setIfInBounds_toArray, List.set_cons_zero, List.set_cons_succ])
        refine wpAnyH_done (by kernel_rfl) ?_ _
        go_wp2_with fail
        go_meet
        exact ⟨wa.heap.size, rfl, setRow_heap _ _ _ _ _ _ blkA, kepA⟩
      refine AllReadyH.cons rfl (fun K hK => ?_) AllReadyH.nil
      rw [if_pos (by rfl)]
      go_simp
      refine hK.out _ _ ⟨HB.1.kep kepA, Kep.block kepA HB.2⟩ (fun hH => ?_)
      clear hK K
      (try dsimp only [Act.put]); (try simp only [Act.put, List.setIfInBounds_toArray, List.set_cons_zero, List.set_cons_succ])
      refine wpAnyH_ready (rs := [4]) (by kernel_rfl) (by simp) ?_
      refine AllReadyH.cons rfl (fun K hK => ?_) AllReadyH.nil
      rw [if_pos (by rfl)]
      go_simp
      refine (WA.out _ (TW.out.grown kepA)).mono ?_
      rintro e wa ⟨rfl, K1⟩
      refine hK.out _ _ ⟨hH.1.kep K1, K1.block hH.2⟩ (fun hH => ?_)
      clear hK K
      (try dsimp only [Act.put]); (try simp only [Act.put, List.setIfInBounds_toArray, List.set_cons_zero, List.set_cons_succ])
      have SA := hH
      have zk := K1.size
      simp only [World.size_alloc, World.size_drew] at zk
      have KW1 : Hid (Kep W wa) := kep_trans kepA K1
      refine wpAnyH_take (i := 5) (oi := { dst := some 11, op := .move (.tmp 16), type := 89, pos := "core.go:202", after := #[{ on := 4, ground := .data }], guard := none }) (v := .tuple #[.agg (accV (q1, q2, q3, q4)), .agg (fltV (qc, qd))]) rfl (by kernel_rfl) (by kernel_rfl) (by kernel_rfl) (fun _ _ _ h => h) (Or.inl ⟨by rfl, fun w _ => by rfl⟩) hH ?_
      (try dsimp only [Act.put]); (try simp only [Act.put, List.setIfInBounds_toArray, List.set_cons_zero, List.set_cons_succ])
      refine wpAnyH_take (i := 6) (oi := { dst := some 17, op := .extract (.tmp 11) 0, type := 88, pos := "core.go:202", after := #[{ on := 5, ground := .data }], guard := none }) (v := .agg (accV (q1, q2, q3, q4))) rfl (by kernel_rfl) (by kernel_rfl) (by kernel_rfl) (fun _ _ _ h => h) (Or.inl ⟨by rfl, fun w _ => by rfl⟩) hH ?_
      (try dsimp only [Act.put]); (try simp only [Act.put, List.setIfInBounds_toArray, List.set_cons_zero, List.set_cons_succ])
      refine wpAnyH_take (i := 7) (oi := { dst := some 18, op := .extract (.tmp 11) 1, type := 45, pos := "core.go:202", after := #[{ on := 5, ground := .data }, { on := 10, ground := .gcOnly .lateStores }], guard := none }) (v := .agg (fltV (qc, qd))) rfl (by kernel_rfl) (by kernel_rfl) (by kernel_rfl) (fun _ _ _ h => h) (Or.inl ⟨by rfl, fun w _ => by rfl⟩) hH ?_
      (try dsimp only [Act.put]); (try simp only [Act.put, List.setIfInBounds_toArray, List.set_cons_zero, List.set_cons_succ])
      refine wpAnyH_ready (rs := [10]) (by kernel_rfl) (by simp) ?_
      refine AllReadyH.cons rfl (fun K hK => ?_) AllReadyH.nil
      rw [if_pos (by rfl)]
      refine wp_store_row 88 _ _ rfl (W.heap.size) #[.int .i64 q1, .int .u32 q2, .int .i64 q3, .int .u32 q4] rfl rfl 88 #[.int .i64 0, .int .u32 0, .int .i64 0, .int .u32 0] blkA (by exact size_acc) rfl (by simp [Value.oneCell']) ?_
      refine hK.out _ _ ⟨hH.1.setRow (by omega) _, (setRow_other _ _ _ _ (by omega)).trans hH.2⟩ (fun hH => ?_)
      clear hK K
      (try dsimp only [Act.put]); (try simp only [Act.put, List.setIfInBounds_toArray, List.set_cons_zero, List.set_cons_succ])
      refine wpAnyH_ready (rs := [11]) (by kernel_rfl) (by simp) ?_
      refine AllReadyH.cons rfl (fun K hK => ?_) AllReadyH.nil
      rw [if_pos (by rfl)]
      refine wp_store_row 45 _ _ rfl (W.heap.size + 1) #[.int .i64 qc, .int .u32 qd] rfl rfl 45 #[.int .i64 0, .int .u32 0] blkA (by exact size_flt) rfl (by simp [Value.oneCell']) ?_
      refine hK.out _ _ ⟨hH.1.setRow (by omega) _, (setRow_other _ _ _ _ (by omega)).trans hH.2⟩ (fun hH => ?_)
      clear hK K
      (try dsimp only [Act.put]); (try simp only [Act.put, List.setIfInBounds_toArray, List.set_cons_zero, List.set_cons_succ])
      refine wpAnyH_done (by kernel_rfl) ?_ _
      go_wp2_with fail
      go_meet
      exact ⟨W.heap.size + 1, rfl, setRow_heap _ _ _ _ _ _ blkA, kepA⟩
    refine AllReadyH.cons rfl (fun K hK => ?_) AllReadyH.nil
    rw [if_pos (by rfl)]
    go_simp
    refine hK.out _ _ ⟨HB.1.kep kepA, Kep.block kepA HB.2⟩ (fun hH => ?_)
    clear hK K
    (try dsimp only [Act.put]); (try simp only [Act.put, List.setIfInBounds_toArray, List.set_cons_zero, List.set_cons_succ])
    refine wpAnyH_ready (rs := [4, 8]) (by kernel_rfl) (by simp) ?_
    refine AllReadyH.cons rfl (fun K hK => ?_) ?_
    · skip
      rw [if_pos (by rfl)]
      go_simp
      refine (WA.out _ (TW.out.grown kepA)).mono ?_
      rintro e wa ⟨rfl, K1⟩
      refine hK.out _ _ ⟨hH.1.kep K1, K1.block hH.2⟩ (fun hH => ?_)
      clear hK K
      (try dsimp only [Act.put]); (try simp only [Act.put, List.setIfInBounds_toArray, List.set_cons_zero, List.set_cons_succ])
      have SA := hH
      have zk := K1.size
      simp only [World.size_alloc, World.size_drew] at zk
      have KW1 : Hid (Kep W wa) := kep_trans kepA K1
      refine wpAnyH_take (i := 5) (oi := { dst := some 11, op := .move (.tmp 16), type := 89, pos := "core.go:202", after := #[{ on := 4, ground := .data }], guard := none }) (v := .tuple #[.agg (accV (q1, q2, q3, q4)), .agg (fltV (qc, qd))]) rfl (by kernel_rfl) (by kernel_rfl) (by kernel_rfl) (fun _ _ _ h => h) (Or.inl ⟨by rfl, fun w _ => by rfl⟩) hH ?_
      (try dsimp only [Act.put]); (try simp only [Act.put, List.setIfInBounds_toArray, List.set_cons_zero, List.set_cons_succ])
      refine wpAnyH_take (i := 6) (oi := { dst := some 17, op := .extract (.tmp 11) 0, type := 88, pos := "core.go:202", after := #[{ on := 5, ground := .data }], guard := none }) (v := .agg (accV (q1, q2, q3, q4))) rfl (by kernel_rfl) (by kernel_rfl) (by kernel_rfl) (fun _ _ _ h => h) (Or.inl ⟨by rfl, fun w _ => by rfl⟩) hH ?_
      (try dsimp only [Act.put]); (try simp only [Act.put, List.setIfInBounds_toArray, List.set_cons_zero, List.set_cons_succ])
      refine wpAnyH_take (i := 7) (oi := { dst := some 18, op := .extract (.tmp 11) 1, type := 45, pos := "core.go:202", after := #[{ on := 5, ground := .data }, { on := 10, ground := .gcOnly .lateStores }], guard := none }) (v := .agg (fltV (qc, qd))) rfl (by kernel_rfl) (by kernel_rfl) (by kernel_rfl) (fun _ _ _ h => h) (Or.inl ⟨by rfl, fun w _ => by rfl⟩) hH ?_
      (try dsimp only [Act.put]); (try simp only [Act.put, List.setIfInBounds_toArray, List.set_cons_zero, List.set_cons_succ])
      refine wpAnyH_ready (rs := [8]) (by kernel_rfl) (by simp) ?_
      refine AllReadyH.cons rfl (fun K hK => ?_) AllReadyH.nil
      rw [if_pos (by rfl)]
      go_simp
      refine hK.out _ _ ⟨SA.1.kep kepA, Kep.block kepA SA.2⟩ (fun hH => ?_)
      clear hK K
      (try dsimp only [Act.put]); (try simp only [Act.put, List.setIfInBounds_toArray, List.set_cons_zero, List.set_cons_succ])
      refine wpAnyH_ready (rs := [10]) (by kernel_rfl) (by simp) ?_
      refine AllReadyH.cons rfl (fun K hK => ?_) AllReadyH.nil
      rw [if_pos (by rfl)]
      refine wp_store_row 88 _ _ rfl (wa.heap.size) #[.int .i64 q1, .int .u32 q2, .int .i64 q3, .int .u32 q4] rfl rfl 88 #[.int .i64 0, .int .u32 0, .int .i64 0, .int .u32 0] blkA (by exact size_acc) rfl (by simp [Value.oneCell']) ?_
      refine hK.out _ _ ⟨hH.1.setRow (by omega) _, (setRow_other _ _ _ _ (by omega)).trans hH.2⟩ (fun hH => ?_)
      clear hK K
      (try dsimp only [Act.put]); (try simp only [Act.put, List.setIfInBounds_toArray, List.set_cons_zero, List.set_cons_succ])
      refine wpAnyH_ready (rs := [11]) (by kernel_rfl) (by simp) ?_
      refine AllReadyH.cons rfl (fun K hK => ?_) AllReadyH.nil
      rw [if_pos (by rfl)]
      refine wp_store_row 45 _ _ rfl (W.heap.size) #[.int .i64 qc, .int .u32 qd] rfl rfl 45 #[.int .i64 0, .int .u32 0] blkA (by exact size_flt) rfl (by simp [Value.oneCell']) ?_
      refine hK.out _ _ ⟨hH.1.setRow (by omega) _, (setRow_other _ _ _ _ (by omega)).trans hH.2⟩ (fun hH => ?_)
      clear hK K
      (try dsimp only [Act.put]); (try simp only [Act.put, List.setIfInBounds_toArray, List.set_cons_zero, List.set_cons_succ])
      refine wpAnyH_done (by kernel_rfl) ?_ _
      go_wp2_with fail
      go_meet
      exact ⟨W.heap.size, rfl, setRow_heap _ _ _ _ _ _ blkA, kepA⟩
    refine AllReadyH.cons rfl (fun K hK => ?_) AllReadyH.nil
    rw [if_pos (by rfl)]
    go_simp
    refine hK.out _ _ ⟨HB.1.kep kepA, Kep.block kepA HB.2⟩ (fun hH => ?_)
    clear hK K
    (try dsimp only [Act.put]); (try simp only [Act.put, List.setIfInBounds_toArray, List.set_cons_zero, List.set_cons_succ])
    refine wpAnyH_ready (rs := [4]) (by kernel_rfl) (by simp) ?_
    refine AllReadyH.cons rfl (fun K hK => ?_) AllReadyH.nil
    rw [if_pos (by rfl)]
    go_simp
    refine (WA.out _ (TW.out.grown kepA)).mono ?_
    rintro e wa ⟨rfl, K1⟩
    refine hK.out _ _ ⟨hH.1.kep K1, K1.block hH.2⟩ (fun hH => ?_)
    clear hK K
    (try dsimp only [Act.put]); (try simp only [Act.put, List.setIfInBounds_toArray, List.set_cons_zero, List.set_cons_succ])
    have SA := hH
    have zk := K1.size
    simp only [World.size_alloc, World.size_drew] at zk
    have KW1 : Hid (Kep W wa) := kep_trans kepA K1
    refine wpAnyH_take (i := 5) (oi := { dst := some 11, op := .move (.tmp 16), type := 89, pos := "core.go:202", after := #[{ on := 4, ground := .data }], guard := none }) (v := .tuple #[.agg (accV (q1, q2, q3, q4)), .agg (fltV (qc, qd))]) rfl (by kernel_rfl) (by kernel_rfl) (by kernel_rfl) (fun _ _ _ h => h) (Or.inl ⟨by rfl, fun w _ => by rfl⟩) hH ?_
    (try dsimp only [Act.put]); (try simp only [Act.put, List.setIfInBounds_toArray, List.set_cons_zero, List.set_cons_succ])
    refine wpAnyH_take (i := 6) (oi := { dst := some 17, op := .extract (.tmp 11) 0, type := 88, pos := "core.go:202", after := #[{ on := 5, ground := .data }], guard := none }) (v := .agg (accV (q1, q2, q3, q4))) rfl (by kernel_rfl) (by kernel_rfl) (by kernel_rfl) (fun _ _ _ h => h) (Or.inl ⟨by rfl, fun w _ => by rfl⟩) hH ?_
    (try dsimp only [Act.put]); (try simp only [Act.put, List.setIfInBounds_toArray, List.set_cons_zero, List.set_cons_succ])
    refine wpAnyH_take (i := 7) (oi := { dst := some 18, op := .extract (.tmp 11) 1, type := 45, pos := "core.go:202", after := #[{ on := 5, ground := .data }, { on := 10, ground := .gcOnly .lateStores }], guard := none }) (v := .agg (fltV (qc, qd))) rfl (by kernel_rfl) (by kernel_rfl) (by kernel_rfl) (fun _ _ _ h => h) (Or.inl ⟨by rfl, fun w _ => by rfl⟩) hH ?_
    (try dsimp only [Act.put]); (try simp only [Act.put, List.setIfInBounds_toArray, List.set_cons_zero, List.set_cons_succ])
    refine wpAnyH_ready (rs := [10]) (by kernel_rfl) (by simp) ?_
    refine AllReadyH.cons rfl (fun K hK => ?_) AllReadyH.nil
    rw [if_pos (by rfl)]
    refine wp_store_row 88 _ _ rfl (W.heap.size + 1) #[.int .i64 q1, .int .u32 q2, .int .i64 q3, .int .u32 q4] rfl rfl 88 #[.int .i64 0, .int .u32 0, .int .i64 0, .int .u32 0] blkA (by exact size_acc) rfl (by simp [Value.oneCell']) ?_
    refine hK.out _ _ ⟨hH.1.setRow (by omega) _, (setRow_other _ _ _ _ (by omega)).trans hH.2⟩ (fun hH => ?_)
    clear hK K
    (try dsimp only [Act.put]); (try simp only [Act.put, List.setIfInBounds_toArray, List.set_cons_zero, List.set_cons_succ])
    refine wpAnyH_ready (rs := [11]) (by kernel_rfl) (by simp) ?_
    refine AllReadyH.cons rfl (fun K hK => ?_) AllReadyH.nil
    rw [if_pos (by rfl)]
    refine wp_store_row 45 _ _ rfl (W.heap.size) #[.int .i64 qc, .int .u32 qd] rfl rfl 45 #[.int .i64 0, .int .u32 0] blkA (by exact size_flt) rfl (by simp [Value.oneCell']) ?_
    refine hK.out _ _ ⟨hH.1.setRow (by omega) _, (setRow_other _ _ _ _ (by omega)).trans hH.2⟩ (fun hH => ?_)
    clear hK K
    (try dsimp only [Act.put]); (try simp only [Act.put, List.setIfInBounds_toArray, List.set_cons_zero, List.set_cons_succ])
    refine wpAnyH_done (by kernel_rfl) ?_ _
    go_wp2_with fail
    go_meet
    exact ⟨W.heap.size, rfl, setRow_heap _ _ _ _ _ _ blkA, kepA⟩
  case rest =>
    obtain ⟨g8, rfl, B8, KW1⟩ := hcut
    have GW : Hid (Kep w W) := by rw [hW.out]; show Kep _ _; exact kepA
    have Hc : At wc p s := HW.kep KW1
    obtain ⟨i0, i1, i2, i3⟩ := ins_at (KW1.block IW)
    have Fc : Hid (wc.heap[w.heap.size + 1]? = some (.cells #[.int .i64 0, .int .u32 0] 45 (0, 0))) := KW1.block FW
    have Gc : Hid (Kep w wc) := kep_trans GW KW1
    have f0 : wc.cell? ⟨g8, 0, none⟩ = some (.int .i64 qc) := cell_of_block B8
    have f1 : wc.cell? ⟨g8, 1, none⟩ = some (.int .u32 qd) := cell_of_block B8
    have c7 := Hc.reg 7 (by omega)
    have ca := Hc.reg a (by omega)
    have ez := row_frozen Hc
    have H' : Hid (At wc p s) := Hc
    have hp1 : p ≠ w.heap.size + 1 := by omega
    have hp2 : p ≠ w.heap.size := by omega
    have r7 := ok.r 7
    clear IW FW HW TW KW1 B8 Hc
    by_cases hq : qc = 0
    · subst hq
      obtain rfl : qd = 0 := hqd rfl
      have hS : Hid (movS s op a v = (stackS s op).regIf (takes op) a (tkV op v)) := by
        unfold Hid movS tkV
        cases takes op <;> rfl
      generalize tkV op v = tv at *
      generalize htk : takes op = tk at *
      have e56 : Hid (stackS s 56 = s.reg 7 ((s.r 7 - 4) % 4294967296)) := rfl
      have e57 : Hid (stackS s 57 = s.reg 7 ((s.r 7 + 4) % 4294967296)) := rfl
      have h0' : ((0 : Int) != 0) = false := rfl
      rcases (by omega : op = 56 ∨ op = 57 ∨ (op ≠ 56 ∧ op ≠ 57)) with rfl | rfl | ⟨n1, n2⟩
      · obtain rfl : false = tk := htk
        go_wp2_with (first | (go_at_call 41; refine (TA.out _).mono ?_; rintro e w' ⟨rfl, rfl⟩) | (refine wpList_store_row (by rfl) 45 (.tmp 6) _ (by rfl) (w.heap.size + 1) _ (by rfl) (by rfl) 45 #[.int .i64 0, .int .u32 0] blkA (by exact size_flt) (by rfl) (by simp [Value.oneCell']) ?_))
        go_region
        go_wp2_with (first | (go_at_call 41; refine (TA.out _).mono ?_; rintro e w' ⟨rfl, rfl⟩) | (refine wpList_store_row (by rfl) 45 (.tmp 6) _ (by rfl) (w.heap.size + 1) _ (by rfl) (by rfl) 45 #[.int .i64 0, .int .u32 0] blkA (by exact size_flt) (by rfl) (by simp [Value.oneCell']) ?_))
        try simp only [Exit.inBlock, Exit.then]
        refine bodyPost_ret (results_cell_row rfl _ _ (w.heap.size + 1) 45 _ (0, 0) _ (by rfl) (setRow_heap _ _ _ _ _ _ blkA) Tryd.underlying45 rfl (by exact size_flt)) rfl ⟨by rfl, putA, ?_⟩
        rw [hS.out, e56.out]
        simp only [Sta.regIf]
        exact atA
      · obtain rfl : true = tk := htk
        by_cases a7 : a = 7
        · subst a7
          go_wp2_with (first | (go_at_call 41; refine (TA.out _).mono ?_; rintro e w' ⟨rfl, rfl⟩) | (refine wpList_store_row (by rfl) 45 (.tmp 6) _ (by rfl) (w.heap.size + 1) _ (by rfl) (by rfl) 45 #[.int .i64 0, .int .u32 0] blkA (by exact size_flt) (by rfl) (by simp [Value.oneCell']) ?_))
          go_region
          go_wp2_with (first | (go_at_call 41; refine (TA.out _).mono ?_; rintro e w' ⟨rfl, rfl⟩) | (refine wpList_store_row (by rfl) 45 (.tmp 6) _ (by rfl) (w.heap.size + 1) _ (by rfl) (by rfl) 45 #[.int .i64 0, .int .u32 0] blkA (by exact size_flt) (by rfl) (by simp [Value.oneCell']) ?_))
          go_region
          go_wp2_with (first | (go_at_call 41; refine (TA.out _).mono ?_; rintro e w' ⟨rfl, rfl⟩) | (refine wpList_store_row (by rfl) 45 (.tmp 6) _ (by rfl) (w.heap.size + 1) _ (by rfl) (by rfl) 45 #[.int .i64 0, .int .u32 0] blkA (by exact size_flt) (by rfl) (by simp [Value.oneCell']) ?_))
          try simp only [Exit.inBlock, Exit.then]
          refine bodyPost_ret (results_cell_row rfl _ _ (w.heap.size + 1) 45 _ (0, 0) _ (by rfl) (setRow_heap _ _ _ _ _ _ blkA) Tryd.underlying45 rfl (by exact size_flt)) rfl ⟨by rfl, putA, ?_⟩
          rw [hS.out, e57.out]
          simp only [Sta.regIf]
          exact atA
        · have h7a : ∀ (w : World) (v : Value), (w.setCell ⟨p, 7, none⟩ v).cell? ⟨p, a, none⟩ = w.cell? ⟨p, a, none⟩ := fun w v => World.cell?_setCell_other _ ⟨p, 7, none⟩ ⟨p, a, none⟩ _ (fun e => a7 (congrArg Addr.off e).symm)
          go_wp2_with (first | (go_at_call 41; refine (TA.out _).mono ?_; rintro e w' ⟨rfl, rfl⟩) | (refine wpList_store_row (by rfl) 45 (.tmp 6) _ (by rfl) (w.heap.size + 1) _ (by rfl) (by rfl) 45 #[.int .i64 0, .int .u32 0] blkA (by exact size_flt) (by rfl) (by simp [Value.oneCell']) ?_))
          go_region
          go_wp2_with (first | (go_at_call 41; refine (TA.out _).mono ?_; rintro e w' ⟨rfl, rfl⟩) | (refine wpList_store_row (by rfl) 45 (.tmp 6) _ (by rfl) (w.heap.size + 1) _ (by rfl) (by rfl) 45 #[.int .i64 0, .int .u32 0] blkA (by exact size_flt) (by rfl) (by simp [Value.oneCell']) ?_))
          go_region
          go_wp2_with (first | (go_at_call 41; refine (TA.out _).mono ?_; rintro e w' ⟨rfl, rfl⟩) | (refine wpList_store_row (by rfl) 45 (.tmp 6) _ (by rfl) (w.heap.size + 1) _ (by rfl) (by rfl) 45 #[.int .i64 0, .int .u32 0] blkA (by exact size_flt) (by rfl) (by simp [Value.oneCell']) ?_))
          try simp only [Exit.inBlock, Exit.then]
          refine bodyPost_ret (results_cell_row rfl _ _ (w.heap.size + 1) 45 _ (0, 0) _ (by rfl) (setRow_heap _ _ _ _ _ _ blkA) Tryd.underlying45 rfl (by exact size_flt)) rfl ⟨by rfl, putA, ?_⟩
          rw [hS.out, e57.out]
          simp only [Sta.regIf]
          exact atA
      · have eN : Hid (stackS s op = s) := by unfold Hid stackS; rw [if_neg n1, if_neg n2]
        have x1 := ne_lit n1
        have x2 := ne_lit n2
        cases tk
        · go_wp2_with (first | (go_at_call 41; refine (TA.out _).mono ?_; rintro e w' ⟨rfl, rfl⟩) | (refine wpList_store_row (by rfl) 45 (.tmp 6) _ (by rfl) (w.heap.size + 1) _ (by rfl) (by rfl) 45 #[.int .i64 0, .int .u32 0] blkA (by exact size_flt) (by rfl) (by simp [Value.oneCell']) ?_))
          try simp only [Exit.inBlock, Exit.then]
          refine bodyPost_ret (results_cell_row rfl _ _ (w.heap.size + 1) 45 _ (0, 0) _ (by rfl) (setRow_heap _ _ _ _ _ _ blkA) Tryd.underlying45 rfl (by exact size_flt)) rfl ⟨by rfl, putA, ?_⟩
          rw [hS.out, eN.out]
          simp only [Sta.regIf]
          exact atA
        · go_wp2_with (first | (go_at_call 41; refine (TA.out _).mono ?_; rintro e w' ⟨rfl, rfl⟩) | (refine wpList_store_row (by rfl) 45 (.tmp 6) _ (by rfl) (w.heap.size + 1) _ (by rfl) (by rfl) 45 #[.int .i64 0, .int .u32 0] blkA (by exact size_flt) (by rfl) (by simp [Value.oneCell']) ?_))
          go_region
          go_wp2_with (first | (go_at_call 41; refine (TA.out _).mono ?_; rintro e w' ⟨rfl, rfl⟩) | (refine wpList_store_row (by rfl) 45 (.tmp 6) _ (by rfl) (w.heap.size + 1) _ (by rfl) (by rfl) 45 #[.int .i64 0, .int .u32 0] blkA (by exact size_flt) (by rfl) (by simp [Value.oneCell']) ?_))
          try simp only [Exit.inBlock, Exit.then]
          refine bodyPost_ret (results_cell_row rfl _ _ (w.heap.size + 1) 45 _ (0, 0) _ (by rfl) (setRow_heap _ _ _ _ _ _ blkA) Tryd.underlying45 rfl (by exact size_flt)) rfl ⟨by rfl, putA, ?_⟩
          rw [hS.out, eN.out]
          simp only [Sta.regIf]
          exact atA
    · have hq' : (qc != 0) = true := by simpa using hq
      go_wp2_with (first | (go_at_call 41; refine (TA.out _).mono ?_; rintro e w' ⟨rfl, rfl⟩) | (refine wpList_store_row (by rfl) 45 (.tmp 6) _ (by rfl) (w.heap.size + 1) _ (by rfl) (by rfl) 45 #[.int .i64 0, .int .u32 0] blkA (by exact size_flt) (by rfl) (by simp [Value.oneCell']) ?_))
      try simp only [Exit.inBlock, Exit.then]
      refine bodyPost_ret (results_cell_row rfl _ _ (w.heap.size + 1) 45 _ (0, 0) _ (by rfl) (setRow_heap _ _ _ _ _ _ blkA) Tryd.underlying45 rfl (by exact size_flt)) rfl ⟨by rfl, putA⟩
end Go.Proofs.YtfpknklibiigfaaDoor
