/- Part of a proof. -/
import Derived.Test.YtnignfloedcmlaaGreatDoorJ37
namespace Go.Proofs.YtnignfloedcmlaaGreatDoor
open Go.RowKit
set_option linter.unusedVariables false
set_option linter.unusedSimpArgs false
theorem fet_range {B : List Int} (hb : Byts B) (ix : List Nat) (s : Sta) : (0 ≤ fetO B ix s ∧ fetO B ix s < 256) ∧ (-2147483648 ≤ fetM B ix s ∧ fetM B ix s ≤ 2147483647) ∧ (fetB B ix s : Int) < 256 := by
  have hz := zsF_range hb ix s (fetN B ix s)
  have hr : fetR B ix s < 10 := rowOf_lt _ _
  have h1 := immOf_range hz (fetR B ix s) hr
  obtain ⟨_, _, _, _, h5, h6⟩ := raw_hi (fetR B ix s) hr
  refine ⟨zat_range hz 0, ⟨by unfold fetM fetZ; omega, by unfold fetM fetZ; omega⟩, ?_⟩
  have hz1 := zat_range hz 1
  unfold fetB bOf fetZ
  split <;> omega
theorem fetF_zero {B : List Int} {ix : List Nat} {s : Sta} (h : (fetF B ix s).1 = 0) : fetF B ix s = (0, 0) := by
  unfold fetF at h ⊢
  split at h
  · cases h
  · rename_i h1
    rw [if_neg h1]
    split at h
    · cases h
    · rename_i h2
      rw [if_neg h2]
      split at h
      · cases h
      · split at h
        · rename_i h3; rw [if_pos h3]
        · cases h
theorem try_fet {d : DS} {B : List Int} {ix : List Nat} {s : Sta} (h : (fetF B ix s).1 ≠ 0) : tryF d B ix s = .fail (fetF B ix s).1 (fetF B ix s).2 := by unfold tryF; rw [if_pos h]
theorem try_ins {d : DS} {B : List Int} {ix : List Nat} {s : Sta} (h : (fetF B ix s).1 = 0) : tryF d B ix s = insF d B ix s (fetO B ix s) (fetA B ix s) (fetB B ix s) (fetM B ix s) := by unfold tryF; rw [if_neg (fun hn => hn h)]
theorem eff_cells {w : World} {g : Nat} {e : Eff} (h : w.heap[g]? = some (.cells e.v 133 (0, 0))) : w.cell? ⟨g, 0, none⟩ = some (.int .i64 e.k) ∧ w.cell? ⟨g, 2, none⟩ = some (.bool e.o) ∧ w.cell? ⟨g, 4, none⟩ = some (.int .u32 e.x) := ⟨cell_of_block h, cell_of_block h, cell_of_block h⟩
set_option maxHeartbeats 16000000 in
set_option maxRecDepth 100000 in
theorem attempt_any {w : World} {p pm R : Nat} {ix : List Nat} {B : List Int} {qd : Nat} {s : Sta} {n : Int} {vn : Value} (bx : Bx w p (mpt pm) (mpt qd) s n vn) (M : Mem w (mpt pm) R ix B) (hB : B ≠ []) (ok : s.Ok) (hT : Tabs w) {d : DS} {Fd : List Nat} (D : Dev w qd d Fd) (dok : d.Ok) :
    Calls Tryz.prog 56 #[.pointer (some ⟨p, 0, none⟩)] w fun e w' => e = .returned (endV (tryF d B ix s)) ∧ Kep w w' := by
  obtain ⟨ho, hi, hb256⟩ := fet_range M.byts ix s
  have HF := hidd (fetch_any bx M hB ok hT)
  by_cases hf : (fetF B ix s).1 = 0
  · have e0 := fetF_zero hf
    rw [try_ins hf]
    have eV : fetV B ix s = insA (fetO B ix s) (fetA B ix s) (fetB B ix s) (fetM B ix s) := by unfold fetV; rw [if_pos hf]
    rw [eV, e0] at HF
    generalize fetO B ix s = op at *
    generalize fetA B ix s = a at *
    generalize fetB B ix s = b at *
    generalize fetM B ix s = imm at *
    have HNw : Hid (∀ w', Kep w w' → Calls Tryz.prog 68 #[.pointer (some ⟨qd, 0, none⟩), .int .i64 b] w' fun e w'' => e = .returned (.int .u32 (inI d b)) ∧ Kep w' w'') := fun w' k => by
      refine (in_any (D.kep k) dok b).mono ?_
      rintro e w'' ⟨rfl, rfl⟩
      exact ⟨rfl, Kep.refl _⟩
    have HDw : Hid (∀ w', Kep w w' → Calls Tryz.prog 67 #[.agg s.v, .agg (insA op a b imm), .int .u32 (inI d b)] w' fun e w'' => e = .returned (.tuple #[.agg (sdoS s op a b imm (inI d b)).v, .agg (sdoE s op a b imm).v]) ∧ Kep w' w'') := fun w' k => sdo_any s op a b imm _ w' ok ho.1 ho.2 hi.1 hi.2 (hT.grown k)
    have HP : Hid (∀ w', Kep w w' → Calls Tryz.prog 69 #[.pointer (some ⟨p, 0, none⟩), .agg (insA op a b imm)] w' fun e w'' => e = .returned (endV (plnF B ix s op a b imm)) ∧ Kep w' w'') := fun w' k => plain_any (bx.kep k) (M.kep k) hB ok (hT.grown k) op a b imm ho.1 ho.2 hi.1 hi.2
    have LP : Hid (∀ w', Kep w w' → Bx w' p (mpt pm) (mpt qd) s n vn) := fun w' k => bx.kep k
    have q1 : Hid ((sdoE s op a b imm).k = 0 → insF d B ix s op a b imm = .ok (sdoS s op a b imm (inI d b)) (0, 0, 0, 0) 0 (op == 100) (sdoE s op a b imm).o b (sdoE s op a b imm).x) := fun h => by unfold insF; rw [if_pos h]
    have q2 : Hid ((sdoE s op a b imm).k = 1 → insF d B ix s op a b imm = plnF B ix s op a b imm) := fun h => by unfold insF; rw [if_neg (by rw [h]; decide), if_pos h]
    have q3 : Hid (¬ (sdoE s op a b imm).k = 0 → ¬ (sdoE s op a b imm).k = 1 → insF d B ix s op a b imm = .fail (sdoE s op a b imm).k 0) := fun h h' => by unfold insF; rw [if_neg h, if_neg h']
    generalize insF d B ix s op a b imm = IF at q1 q2 q3 ⊢
    generalize plnF B ix s op a b imm = PF at HP q2
    generalize sdoE s op a b imm = E at HDw q1 q2 q3
    generalize sdoS s op a b imm (inI d b) = T at HDw q1
    generalize inI d b = pn at HNw HDw
    have lp := bx.lt
    clear bx M hB ok hT D dok hf e0 eV
    have ho0 := ho.1
    have ho1 := ho.2
    clear ho hi
    go_enter Tryz.func56, Tryz.ntmps56
    go_wp2_with fail
    refine HF.out.mono ?_
    rintro e w1 ⟨rfl, k1⟩
    have K1 := hidd k1
    clear k1 HF
    go_upto_region 5 with fail
    obtain ⟨W, hW⟩ : ∃ W, Hid ((w1.alloc (.cells (insA op a b imm) 128)).alloc (.cells (fltV (0, 0)) 100) = W) := ⟨_, rfl⟩
    rw [hW.out]
    have IW : Hid (W.heap[w1.heap.size]? = some (.cells (insA op a b imm) 128 (0, 0))) := by rw [Hid, ← hW.out]; exact (hsk _ _ _ (by simp)).trans (hat _ _ _ rfl)
    have KW : Hid (Kep w W) := by rw [Hid, ← hW.out]; exact (K1.out.alloc _).alloc _
    obtain ⟨g3, q5⟩ : ∃ g3, Hid (g3 = w1.heap.size) := ⟨_, rfl⟩
    rw [← q5.out] at IW ⊢
    clear hW
    have LD : Hid (∀ w', Kep W w' → Bx w' p (mpt pm) (mpt qd) s n vn ∧ w'.heap[g3]? = some (.cells (insA op a b imm) 128 (0, 0))) := fun w' k => ⟨LP.out w' (kep_trans KW.out k), k.block IW.out⟩
    have HN : Hid (∀ w', Kep W w' → Calls Tryz.prog 68 #[.pointer (some ⟨qd, 0, none⟩), .int .i64 b] w' fun e w'' => e = .returned (.int .u32 pn) ∧ Kep w' w'') := fun w' k => HNw.out w' (kep_trans KW.out k)
    have HD : Hid (∀ w', Kep W w' → Calls Tryz.prog 67 #[.agg s.v, .agg (insA op a b imm), .int .u32 pn] w' fun e w'' => e = .returned (.tuple #[.agg T.v, .agg E.v]) ∧ Kep w' w'') := fun w' k => HDw.out w' (kep_trans KW.out k)
    clear HNw HDw LP
    go_cut [6, 7] from 21 to 35 (fun t6 t7 wx => ∃ gA gB : Nat, t6 = .pointer (some ⟨gA, 0, none⟩) ∧ t7 = .pointer (some ⟨gB, 0, none⟩) ∧ Hid (Kep W wx) ∧ Hid (wx.heap[gA]? = some (.cells T.v 26 (0, 0))) ∧ Hid (wx.heap[gB]? = some (.cells E.v 133 (0, 0))))
    case first =>
        refine wp_region_held_drew (S := fun w' => Kep W w') (by kernel_rfl) ((Kep.refl W).drew) (fun hH => ?_)
        generalize W.drew = Wd at hH  ⊢
        refine wpAnyH_take (i := 0) (v := .pointer (some ⟨p, 0, none⟩)) rfl (by kernel_rfl) (by kernel_rfl) (by kernel_rfl) (fun _ _ _ h => h) (.inl ⟨by rfl, by intro w hS; go_simp⟩) hH ?_
        (try simp only [jA, jB, jC, Act.put, jD, jE, jF])
        refine wpAnyH_take (i := 1) (v := .pointer (some ⟨p, 0, none⟩)) rfl (by kernel_rfl) (by kernel_rfl) (by kernel_rfl) (fun _ _ _ h => h) (.inl ⟨by rfl, by intro w hS; go_simp⟩) hH ?_
        (try simp only [jA, jB, jC, Act.put, jD, jE, jF])
        refine wpAnyH_take (i := 2) (v := .pointer (some ⟨p, 2, none⟩)) rfl (by kernel_rfl) (by kernel_rfl) (by kernel_rfl) (fun _ _ _ h => h) (.inl ⟨by rfl, by intro w hS; go_simp⟩) hH ?_
        (try simp only [jA, jB, jC, Act.put, jD, jE, jF])
        refine wpAnyH_take (i := 3) (v := .agg s.v) rfl (by kernel_rfl) (by kernel_rfl) (by kernel_rfl) (fun _ _ _ h => h) (yields_st (by kernel_rfl) _ (by rfl) p 2 (by rfl) s (fun w hS => (LD.out w hS).1.st)) hH ?_
        (try simp only [jA, jB, jC, Act.put, jD, jE, jF])
        refine wpAnyH_take (i := 4) (v := .agg (insA op a b imm)) rfl (by kernel_rfl) (by kernel_rfl) (by kernel_rfl) (fun _ _ _ h => h) (yields_row rfl 128 _ rfl g3 rfl 128 (insA op a b imm) (0, 0) _ (fun w hS => (LD.out w hS).2) Tryz.underlying128 rfl size_ins) hH ?_
        (try simp only [jA, jB, jC, Act.put, jD, jE, jF])
        refine wpAnyH_take (i := 5) (v := .pointer (some ⟨p, 0, none⟩)) rfl (by kernel_rfl) (by kernel_rfl) (by kernel_rfl) (fun _ _ _ h => h) (.inl ⟨by rfl, by intro w hS; go_simp⟩) hH ?_
        (try simp only [jA, jB, jC, Act.put, jD, jE, jF])
        refine wpAnyH_take (i := 6) (v := .pointer (some ⟨p, 0, none⟩)) rfl (by kernel_rfl) (by kernel_rfl) (by kernel_rfl) (fun _ _ _ h => h) (.inl ⟨by rfl, by intro w hS; go_simp⟩) hH ?_
        (try simp only [jA, jB, jC, Act.put, jD, jE, jF])
        refine wpAnyH_take (i := 7) (v := .pointer (some ⟨p, 1, none⟩)) rfl (by kernel_rfl) (by kernel_rfl) (by kernel_rfl) (fun _ _ _ h => h) (.inl ⟨by rfl, by intro w hS; go_simp⟩) hH ?_
        (try simp only [jA, jB, jC, Act.put, jD, jE, jF])
        refine wpAnyH_take (i := 8) (v := .pointer (some ⟨qd, 0, none⟩)) rfl (by kernel_rfl) (by kernel_rfl) (by kernel_rfl) (fun _ _ _ h => h) (.inl ⟨by rfl, by intro w hS; have l1 := (LD.out w hS).1.cd; go_simp⟩) hH ?_
        (try simp only [jA, jB, jC, Act.put, jD, jE, jF])
        refine wpAnyH_take (i := 9) (v := .int .i64 b) rfl (by kernel_rfl) (by kernel_rfl) (by kernel_rfl) (fun _ _ _ h => h) (.inl ⟨by rfl, by intro w hS; go_simp⟩) hH ?_
        (try simp only [jA, jB, jC, Act.put, jD, jE, jF])
        refine wpAnyH_ready (rs := [10, 15, 16]) (by kernel_rfl) (by simp) ?_
        refine AllReadyH.cons rfl (fun K hK => ?_) ?_
        · skip
          rw [if_pos (by rfl)]
          go_simp
          refine (HN.out _ hH).mono ?_
          rintro e W1 ⟨rfl, kW1⟩
          refine hK.out _ _ (kep_trans hH kW1) (fun hH => ?_)
          clear hK K
          (try simp only [jA, jB, jC, Act.put, jD, jE, jF])
          refine wpAnyH_ready (rs := [11, 15, 16]) (by kernel_rfl) (by simp) ?_
          refine AllReadyH.cons rfl (fun K hK => ?_) ?_
          · skip
            rw [if_pos (by rfl)]
            go_simp
            refine (HD.out _ hH).mono ?_
            rintro e W2 ⟨rfl, kW2⟩
            refine hK.out _ _ (kep_trans hH kW2) (fun hH => ?_)
            clear hK K
            (try simp only [jA, jB, jC, Act.put, jD, jE, jF])
            refine wpAnyH_take (i := 12) (v := .tuple #[.agg T.v, .agg E.v]) rfl (by kernel_rfl) (by kernel_rfl) (by kernel_rfl) (fun _ _ _ h => h) (.inl ⟨by rfl, by intro w hS; go_simp⟩) hH ?_
            (try simp only [jA, jB, jC, Act.put, jD, jE, jF])
            refine wpAnyH_take (i := 13) (v := .agg T.v) rfl (by kernel_rfl) (by kernel_rfl) (by kernel_rfl) (fun _ _ _ h => h) (.inl ⟨by rfl, by intro w hS; go_simp⟩) hH ?_
            (try simp only [jA, jB, jC, Act.put, jD, jE, jF])
            refine wpAnyH_take (i := 14) (v := .agg E.v) rfl (by kernel_rfl) (by kernel_rfl) (by kernel_rfl) (fun _ _ _ h => h) (.inl ⟨by rfl, by intro w hS; go_simp⟩) hH ?_
            (try simp only [jA, jB, jC, Act.put, jD, jE, jF])
            refine wpAnyH_ready (rs := [15, 16]) (by kernel_rfl) (by simp) ?_
            refine AllReadyH.cons rfl (fun K hK => ?_) ?_
            · skip
              rw [if_pos (by rfl)]
              have zA : Hid (W.heap.size ≤ W2.heap.size) := hH.size
              go_simp
              refine hK.out _ _ (hH.alloc _) (fun hH => ?_)
              clear hK K
              (try simp only [jA, jB, jC, Act.put, jD, jE, jF])
              obtain ⟨gA, egA⟩ : ∃ g, Hid (g = W2.heap.size) := ⟨_, rfl⟩
              have NA : Hid (W.heap.size ≤ gA) := by rw [egA.out]; exact zA.out
              have BAW3 : Hid ((W2.alloc (.cells z19 26)).heap[gA]? = some (.cells z19 26 (0, 0))) := by rw [egA.out]; exact hat _ _ _ rfl
              rw [← egA.out]
              generalize W2.alloc (.cells z19 26) = W3 at hH BAW3 ⊢
              refine wpAnyH_ready (rs := [16]) (by kernel_rfl) (by simp) ?_
              refine AllReadyH.cons rfl (fun K hK => ?_) AllReadyH.nil
              rw [if_pos (by rfl)]
              have zB : Hid (W.heap.size ≤ W3.heap.size) := hH.size
              go_simp
              refine hK.out _ _ (hH.alloc _) (fun hH => ?_)
              clear hK K
              (try simp only [jA, jB, jC, Act.put, jD, jE, jF])
              obtain ⟨gB, egB⟩ : ∃ g, Hid (g = W3.heap.size) := ⟨_, rfl⟩
              have NB : Hid (W.heap.size ≤ gB) := by rw [egB.out]; exact zB.out
              have BBW4 : Hid ((W3.alloc (.cells #[.int .i64 0, .bool false, .bool false, .int .i64 0, .int .u32 0] 133)).heap[gB]? = some (.cells #[.int .i64 0, .bool false, .bool false, .int .i64 0, .int .u32 0] 133 (0, 0))) := by rw [egB.out]; exact hat _ _ _ rfl
              have BAW4 : Hid ((W3.alloc (.cells #[.int .i64 0, .bool false, .bool false, .int .i64 0, .int .u32 0] 133)).heap[gA]? = some (.cells z19 26 (0, 0))) := Kep.block ((Kep.refl W3).alloc _) BAW3.out
              have nAB : Hid (gA ≠ gB) := by have := block_lt BAW3.out; have := egB.out; show gA ≠ gB; omega
              rw [← egB.out]
              generalize W3.alloc (.cells #[.int .i64 0, .bool false, .bool false, .int .i64 0, .int .u32 0] 133) = W4 at hH BBW4 BAW4 ⊢
              refine wpAnyH_ready (rs := [17]) (by kernel_rfl) (by simp) ?_
              refine AllReadyH.cons rfl (fun K hK => ?_) AllReadyH.nil
              rw [if_pos (by rfl)]
              refine wp_store_row 26 _ _ rfl gA T.v rfl rfl 26 z19 BAW4.out (by exact size_sta) rfl (v_one _) ?_
              refine hK.out _ _ (hH.setRow gA _ NA.out) (fun hH => ?_)
              clear hK K
              (try simp only [jA, jB, jC, Act.put, jD, jE, jF])
              have BAW5 : Hid ((W4.setRow gA T.v).heap[gA]? = some (.cells T.v 26 (0, 0))) := setRow_heap _ _ _ _ _ _ BAW4.out
              have BBW5 : Hid ((W4.setRow gA T.v).heap[gB]? = some (.cells #[.int .i64 0, .bool false, .bool false, .int .i64 0, .int .u32 0] 133 (0, 0))) := (setRow_other _ _ _ _ (Ne.symm nAB.out)).trans BBW4.out
              generalize W4.setRow gA T.v = W5 at hH BAW5 BBW5 ⊢
              refine wpAnyH_ready (rs := [18]) (by kernel_rfl) (by simp) ?_
              refine AllReadyH.cons rfl (fun K hK => ?_) AllReadyH.nil
              rw [if_pos (by rfl)]
              refine wp_store_row 133 _ _ rfl gB E.v rfl rfl 133 #[.int .i64 0, .bool false, .bool false, .int .i64 0, .int .u32 0] BBW5.out (by exact size_eff) rfl (eff_one _) ?_
              refine hK.out _ _ (hH.setRow gB _ NB.out) (fun hH => ?_)
              clear hK K
              (try simp only [jA, jB, jC, Act.put, jD, jE, jF])
              have BBW6 : Hid ((W5.setRow gB E.v).heap[gB]? = some (.cells E.v 133 (0, 0))) := setRow_heap _ _ _ _ _ _ BBW5.out
              have BAW6 : Hid ((W5.setRow gB E.v).heap[gA]? = some (.cells T.v 26 (0, 0))) := (setRow_other _ _ _ _ nAB.out).trans BAW5.out
              generalize W5.setRow gB E.v = W6 at hH BBW6 BAW6 ⊢
              refine wpAnyH_done (by kernel_rfl) ?_ _
              go_wp2_with fail
              go_meet
              exact ⟨gA, gB, rfl, rfl, hH, BAW6.out, BBW6.out⟩
            refine AllReadyH.cons rfl (fun K hK => ?_) AllReadyH.nil
            rw [if_pos (by rfl)]
            have zB : Hid (W.heap.size ≤ W2.heap.size) := hH.size
            go_simp
            refine hK.out _ _ (hH.alloc _) (fun hH => ?_)
            clear hK K
            (try simp only [jA, jB, jC, Act.put, jD, jE, jF])
            obtain ⟨gB, egB⟩ : ∃ g, Hid (g = W2.heap.size) := ⟨_, rfl⟩
            have NB : Hid (W.heap.size ≤ gB) := by rw [egB.out]; exact zB.out
            have BBW7 : Hid ((W2.alloc (.cells #[.int .i64 0, .bool false, .bool false, .int .i64 0, .int .u32 0] 133)).heap[gB]? = some (.cells #[.int .i64 0, .bool false, .bool false, .int .i64 0, .int .u32 0] 133 (0, 0))) := by rw [egB.out]; exact hat _ _ _ rfl
            rw [← egB.out]
            generalize W2.alloc (.cells #[.int .i64 0, .bool false, .bool false, .int .i64 0, .int .u32 0] 133) = W7 at hH BBW7 ⊢
            refine wpAnyH_ready (rs := [15]) (by kernel_rfl) (by simp) ?_
            refine AllReadyH.cons rfl (fun K hK => ?_) AllReadyH.nil
            rw [if_pos (by rfl)]
            have zA : Hid (W.heap.size ≤ W7.heap.size) := hH.size
            go_simp
            refine hK.out _ _ (hH.alloc _) (fun hH => ?_)
            clear hK K
            (try simp only [jA, jB, jC, Act.put, jD, jE, jF])
            obtain ⟨gA, egA⟩ : ∃ g, Hid (g = W7.heap.size) := ⟨_, rfl⟩
            have NA : Hid (W.heap.size ≤ gA) := by rw [egA.out]; exact zA.out
            have BAW8 : Hid ((W7.alloc (.cells z19 26)).heap[gA]? = some (.cells z19 26 (0, 0))) := by rw [egA.out]; exact hat _ _ _ rfl
            have BBW8 : Hid ((W7.alloc (.cells z19 26)).heap[gB]? = some (.cells #[.int .i64 0, .bool false, .bool false, .int .i64 0, .int .u32 0] 133 (0, 0))) := Kep.block ((Kep.refl W7).alloc _) BBW7.out
            have nAB : Hid (gA ≠ gB) := by have := block_lt BBW7.out; have := egA.out; show gA ≠ gB; omega
            rw [← egA.out]
            generalize W7.alloc (.cells z19 26) = W8 at hH BAW8 BBW8 ⊢
            refine wpAnyH_ready (rs := [17]) (by kernel_rfl) (by simp) ?_
            refine AllReadyH.cons rfl (fun K hK => ?_) AllReadyH.nil
            rw [if_pos (by rfl)]
            refine wp_store_row 26 _ _ rfl gA T.v rfl rfl 26 z19 BAW8.out (by exact size_sta) rfl (v_one _) ?_
            refine hK.out _ _ (hH.setRow gA _ NA.out) (fun hH => ?_)
            clear hK K
            (try simp only [jA, jB, jC, Act.put, jD, jE, jF])
            have BAW9 : Hid ((W8.setRow gA T.v).heap[gA]? = some (.cells T.v 26 (0, 0))) := setRow_heap _ _ _ _ _ _ BAW8.out
            have BBW9 : Hid ((W8.setRow gA T.v).heap[gB]? = some (.cells #[.int .i64 0, .bool false, .bool false, .int .i64 0, .int .u32 0] 133 (0, 0))) := (setRow_other _ _ _ _ (Ne.symm nAB.out)).trans BBW8.out
            generalize W8.setRow gA T.v = W9 at hH BAW9 BBW9 ⊢
            refine wpAnyH_ready (rs := [18]) (by kernel_rfl) (by simp) ?_
            refine AllReadyH.cons rfl (fun K hK => ?_) AllReadyH.nil
            rw [if_pos (by rfl)]
            refine wp_store_row 133 _ _ rfl gB E.v rfl rfl 133 #[.int .i64 0, .bool false, .bool false, .int .i64 0, .int .u32 0] BBW9.out (by exact size_eff) rfl (eff_one _) ?_
            refine hK.out _ _ (hH.setRow gB _ NB.out) (fun hH => ?_)
            clear hK K
            (try simp only [jA, jB, jC, Act.put, jD, jE, jF])
            have BBW10 : Hid ((W9.setRow gB E.v).heap[gB]? = some (.cells E.v 133 (0, 0))) := setRow_heap _ _ _ _ _ _ BBW9.out
            have BAW10 : Hid ((W9.setRow gB E.v).heap[gA]? = some (.cells T.v 26 (0, 0))) := (setRow_other _ _ _ _ nAB.out).trans BAW9.out
            generalize W9.setRow gB E.v = W10 at hH BBW10 BAW10 ⊢
            refine wpAnyH_done (by kernel_rfl) ?_ _
            go_wp2_with fail
            go_meet
            exact ⟨gA, gB, rfl, rfl, hH, BAW10.out, BBW10.out⟩
          refine AllReadyH.cons rfl (fun K hK => ?_) ?_
          · skip
            rw [if_pos (by rfl)]
            have zA : Hid (W.heap.size ≤ W1.heap.size) := hH.size
            go_simp
            refine hK.out _ _ (hH.alloc _) (fun hH => ?_)
            clear hK K
            (try simp only [jA, jB, jC, Act.put, jD, jE, jF])
            obtain ⟨gA, egA⟩ : ∃ g, Hid (g = W1.heap.size) := ⟨_, rfl⟩
            have NA : Hid (W.heap.size ≤ gA) := by rw [egA.out]; exact zA.out
            have BAW11 : Hid ((W1.alloc (.cells z19 26)).heap[gA]? = some (.cells z19 26 (0, 0))) := by rw [egA.out]; exact hat _ _ _ rfl
            rw [← egA.out]
            generalize W1.alloc (.cells z19 26) = W11 at hH BAW11 ⊢
            refine wpAnyH_ready (rs := [11, 16]) (by kernel_rfl) (by simp) ?_
            refine AllReadyH.cons rfl (fun K hK => ?_) ?_
            · skip
              rw [if_pos (by rfl)]
              go_simp
              refine (HD.out _ hH).mono ?_
              rintro e W12 ⟨rfl, kW12⟩
              refine hK.out _ _ (kep_trans hH kW12) (fun hH => ?_)
              clear hK K
              (try simp only [jA, jB, jC, Act.put, jD, jE, jF])
              have BAW12 : Hid (W12.heap[gA]? = some (.cells z19 26 (0, 0))) := Kep.block kW12 BAW11.out
              refine wpAnyH_take (i := 12) (v := .tuple #[.agg T.v, .agg E.v]) rfl (by kernel_rfl) (by kernel_rfl) (by kernel_rfl) (fun _ _ _ h => h) (.inl ⟨by rfl, by intro w hS; go_simp⟩) hH ?_
              (try simp only [jA, jB, jC, Act.put, jD, jE, jF])
              refine wpAnyH_take (i := 13) (v := .agg T.v) rfl (by kernel_rfl) (by kernel_rfl) (by kernel_rfl) (fun _ _ _ h => h) (.inl ⟨by rfl, by intro w hS; go_simp⟩) hH ?_
              (try simp only [jA, jB, jC, Act.put, jD, jE, jF])
              refine wpAnyH_take (i := 14) (v := .agg E.v) rfl (by kernel_rfl) (by kernel_rfl) (by kernel_rfl) (fun _ _ _ h => h) (.inl ⟨by rfl, by intro w hS; go_simp⟩) hH ?_
              (try simp only [jA, jB, jC, Act.put, jD, jE, jF])
              refine wpAnyH_ready (rs := [16]) (by kernel_rfl) (by simp) ?_
              refine AllReadyH.cons rfl (fun K hK => ?_) AllReadyH.nil
              rw [if_pos (by rfl)]
              have zB : Hid (W.heap.size ≤ W12.heap.size) := hH.size
              go_simp
              refine hK.out _ _ (hH.alloc _) (fun hH => ?_)
              clear hK K
              (try simp only [jA, jB, jC, Act.put, jD, jE, jF])
              obtain ⟨gB, egB⟩ : ∃ g, Hid (g = W12.heap.size) := ⟨_, rfl⟩
              have NB : Hid (W.heap.size ≤ gB) := by rw [egB.out]; exact zB.out
              have BBW13 : Hid ((W12.alloc (.cells #[.int .i64 0, .bool false, .bool false, .int .i64 0, .int .u32 0] 133)).heap[gB]? = some (.cells #[.int .i64 0, .bool false, .bool false, .int .i64 0, .int .u32 0] 133 (0, 0))) := by rw [egB.out]; exact hat _ _ _ rfl
              have BAW13 : Hid ((W12.alloc (.cells #[.int .i64 0, .bool false, .bool false, .int .i64 0, .int .u32 0] 133)).heap[gA]? = some (.cells z19 26 (0, 0))) := Kep.block ((Kep.refl W12).alloc _) BAW12.out
              have nAB : Hid (gA ≠ gB) := by have := block_lt BAW12.out; have := egB.out; show gA ≠ gB; omega
              rw [← egB.out]
              generalize W12.alloc (.cells #[.int .i64 0, .bool false, .bool false, .int .i64 0, .int .u32 0] 133) = W13 at hH BBW13 BAW13 ⊢
              refine wpAnyH_ready (rs := [17]) (by kernel_rfl) (by simp) ?_
              refine AllReadyH.cons rfl (fun K hK => ?_) AllReadyH.nil
              rw [if_pos (by rfl)]
              refine wp_store_row 26 _ _ rfl gA T.v rfl rfl 26 z19 BAW13.out (by exact size_sta) rfl (v_one _) ?_
              refine hK.out _ _ (hH.setRow gA _ NA.out) (fun hH => ?_)
              clear hK K
              (try simp only [jA, jB, jC, Act.put, jD, jE, jF])
              have BAW14 : Hid ((W13.setRow gA T.v).heap[gA]? = some (.cells T.v 26 (0, 0))) := setRow_heap _ _ _ _ _ _ BAW13.out
              have BBW14 : Hid ((W13.setRow gA T.v).heap[gB]? = some (.cells #[.int .i64 0, .bool false, .bool false, .int .i64 0, .int .u32 0] 133 (0, 0))) := (setRow_other _ _ _ _ (Ne.symm nAB.out)).trans BBW13.out
              generalize W13.setRow gA T.v = W14 at hH BAW14 BBW14 ⊢
              refine wpAnyH_ready (rs := [18]) (by kernel_rfl) (by simp) ?_
              refine AllReadyH.cons rfl (fun K hK => ?_) AllReadyH.nil
              rw [if_pos (by rfl)]
              refine wp_store_row 133 _ _ rfl gB E.v rfl rfl 133 #[.int .i64 0, .bool false, .bool false, .int .i64 0, .int .u32 0] BBW14.out (by exact size_eff) rfl (eff_one _) ?_
              refine hK.out _ _ (hH.setRow gB _ NB.out) (fun hH => ?_)
              clear hK K
              (try simp only [jA, jB, jC, Act.put, jD, jE, jF])
              have BBW15 : Hid ((W14.setRow gB E.v).heap[gB]? = some (.cells E.v 133 (0, 0))) := setRow_heap _ _ _ _ _ _ BBW14.out
              have BAW15 : Hid ((W14.setRow gB E.v).heap[gA]? = some (.cells T.v 26 (0, 0))) := (setRow_other _ _ _ _ nAB.out).trans BAW14.out
              generalize W14.setRow gB E.v = W15 at hH BBW15 BAW15 ⊢
              refine wpAnyH_done (by kernel_rfl) ?_ _
              go_wp2_with fail
              go_meet
              exact ⟨gA, gB, rfl, rfl, hH, BAW15.out, BBW15.out⟩
            refine AllReadyH.cons rfl (fun K hK => ?_) AllReadyH.nil
            rw [if_pos (by rfl)]
            have zB : Hid (W.heap.size ≤ W11.heap.size) := hH.size
            go_simp
            refine hK.out _ _ (hH.alloc _) (fun hH => ?_)
            clear hK K
            (try simp only [jA, jB, jC, Act.put, jD, jE, jF])
            obtain ⟨gB, egB⟩ : ∃ g, Hid (g = W11.heap.size) := ⟨_, rfl⟩
            have NB : Hid (W.heap.size ≤ gB) := by rw [egB.out]; exact zB.out
            have BBW16 : Hid ((W11.alloc (.cells #[.int .i64 0, .bool false, .bool false, .int .i64 0, .int .u32 0] 133)).heap[gB]? = some (.cells #[.int .i64 0, .bool false, .bool false, .int .i64 0, .int .u32 0] 133 (0, 0))) := by rw [egB.out]; exact hat _ _ _ rfl
            have BAW16 : Hid ((W11.alloc (.cells #[.int .i64 0, .bool false, .bool false, .int .i64 0, .int .u32 0] 133)).heap[gA]? = some (.cells z19 26 (0, 0))) := Kep.block ((Kep.refl W11).alloc _) BAW11.out
            have nAB : Hid (gA ≠ gB) := by have := block_lt BAW11.out; have := egB.out; show gA ≠ gB; omega
            rw [← egB.out]
            generalize W11.alloc (.cells #[.int .i64 0, .bool false, .bool false, .int .i64 0, .int .u32 0] 133) = W16 at hH BBW16 BAW16 ⊢
            refine wpAnyH_ready (rs := [11]) (by kernel_rfl) (by simp) ?_
            refine AllReadyH.cons rfl (fun K hK => ?_) AllReadyH.nil
            rw [if_pos (by rfl)]
            go_simp
            refine (HD.out _ hH).mono ?_
            rintro e W17 ⟨rfl, kW17⟩
            refine hK.out _ _ (kep_trans hH kW17) (fun hH => ?_)
            clear hK K
            (try simp only [jA, jB, jC, Act.put, jD, jE, jF])
            have BAW17 : Hid (W17.heap[gA]? = some (.cells z19 26 (0, 0))) := Kep.block kW17 BAW16.out
            have BBW17 : Hid (W17.heap[gB]? = some (.cells #[.int .i64 0, .bool false, .bool false, .int .i64 0, .int .u32 0] 133 (0, 0))) := Kep.block kW17 BBW16.out
            refine wpAnyH_take (i := 12) (v := .tuple #[.agg T.v, .agg E.v]) rfl (by kernel_rfl) (by kernel_rfl) (by kernel_rfl) (fun _ _ _ h => h) (.inl ⟨by rfl, by intro w hS; go_simp⟩) hH ?_
            (try simp only [jA, jB, jC, Act.put, jD, jE, jF])
            refine wpAnyH_take (i := 13) (v := .agg T.v) rfl (by kernel_rfl) (by kernel_rfl) (by kernel_rfl) (fun _ _ _ h => h) (.inl ⟨by rfl, by intro w hS; go_simp⟩) hH ?_
            (try simp only [jA, jB, jC, Act.put, jD, jE, jF])
            refine wpAnyH_take (i := 14) (v := .agg E.v) rfl (by kernel_rfl) (by kernel_rfl) (by kernel_rfl) (fun _ _ _ h => h) (.inl ⟨by rfl, by intro w hS; go_simp⟩) hH ?_
            (try simp only [jA, jB, jC, Act.put, jD, jE, jF])
            refine wpAnyH_ready (rs := [17]) (by kernel_rfl) (by simp) ?_
            refine AllReadyH.cons rfl (fun K hK => ?_) AllReadyH.nil
            rw [if_pos (by rfl)]
            refine wp_store_row 26 _ _ rfl gA T.v rfl rfl 26 z19 BAW17.out (by exact size_sta) rfl (v_one _) ?_
            refine hK.out _ _ (hH.setRow gA _ NA.out) (fun hH => ?_)
            clear hK K
            (try simp only [jA, jB, jC, Act.put, jD, jE, jF])
            have BAW18 : Hid ((W17.setRow gA T.v).heap[gA]? = some (.cells T.v 26 (0, 0))) := setRow_heap _ _ _ _ _ _ BAW17.out
            have BBW18 : Hid ((W17.setRow gA T.v).heap[gB]? = some (.cells #[.int .i64 0, .bool false, .bool false, .int .i64 0, .int .u32 0] 133 (0, 0))) := (setRow_other _ _ _ _ (Ne.symm nAB.out)).trans BBW17.out
            generalize W17.setRow gA T.v = W18 at hH BAW18 BBW18 ⊢
            refine wpAnyH_ready (rs := [18]) (by kernel_rfl) (by simp) ?_
            refine AllReadyH.cons rfl (fun K hK => ?_) AllReadyH.nil
            rw [if_pos (by rfl)]
            refine wp_store_row 133 _ _ rfl gB E.v rfl rfl 133 #[.int .i64 0, .bool false, .bool false, .int .i64 0, .int .u32 0] BBW18.out (by exact size_eff) rfl (eff_one _) ?_
            refine hK.out _ _ (hH.setRow gB _ NB.out) (fun hH => ?_)
            clear hK K
            (try simp only [jA, jB, jC, Act.put, jD, jE, jF])
            have BBW19 : Hid ((W18.setRow gB E.v).heap[gB]? = some (.cells E.v 133 (0, 0))) := setRow_heap _ _ _ _ _ _ BBW18.out
            have BAW19 : Hid ((W18.setRow gB E.v).heap[gA]? = some (.cells T.v 26 (0, 0))) := (setRow_other _ _ _ _ nAB.out).trans BAW18.out
            generalize W18.setRow gB E.v = W19 at hH BBW19 BAW19 ⊢
            refine wpAnyH_done (by kernel_rfl) ?_ _
            go_wp2_with fail
            go_meet
            exact ⟨gA, gB, rfl, rfl, hH, BAW19.out, BBW19.out⟩
          refine AllReadyH.cons rfl (fun K hK => ?_) AllReadyH.nil
          rw [if_pos (by rfl)]
          have zB : Hid (W.heap.size ≤ W1.heap.size) := hH.size
          go_simp
          refine hK.out _ _ (hH.alloc _) (fun hH => ?_)
          clear hK K
          (try simp only [jA, jB, jC, Act.put, jD, jE, jF])
          obtain ⟨gB, egB⟩ : ∃ g, Hid (g = W1.heap.size) := ⟨_, rfl⟩
          have NB : Hid (W.heap.size ≤ gB) := by rw [egB.out]; exact zB.out
          have BBW20 : Hid ((W1.alloc (.cells #[.int .i64 0, .bool false, .bool false, .int .i64 0, .int .u32 0] 133)).heap[gB]? = some (.cells #[.int .i64 0, .bool false, .bool false, .int .i64 0, .int .u32 0] 133 (0, 0))) := by rw [egB.out]; exact hat _ _ _ rfl
          rw [← egB.out]
          generalize W1.alloc (.cells #[.int .i64 0, .bool false, .bool false, .int .i64 0, .int .u32 0] 133) = W20 at hH BBW20 ⊢
          refine wpAnyH_ready (rs := [11, 15]) (by kernel_rfl) (by simp) ?_
          refine AllReadyH.cons rfl (fun K hK => ?_) ?_
          · skip
            rw [if_pos (by rfl)]
            go_simp
            refine (HD.out _ hH).mono ?_
            rintro e W21 ⟨rfl, kW21⟩
            refine hK.out _ _ (kep_trans hH kW21) (fun hH => ?_)
            clear hK K
            (try simp only [jA, jB, jC, Act.put, jD, jE, jF])
            have BBW21 : Hid (W21.heap[gB]? = some (.cells #[.int .i64 0, .bool false, .bool false, .int .i64 0, .int .u32 0] 133 (0, 0))) := Kep.block kW21 BBW20.out
            refine wpAnyH_take (i := 12) (v := .tuple #[.agg T.v, .agg E.v]) rfl (by kernel_rfl) (by kernel_rfl) (by kernel_rfl) (fun _ _ _ h => h) (.inl ⟨by rfl, by intro w hS; go_simp⟩) hH ?_
            (try simp only [jA, jB, jC, Act.put, jD, jE, jF])
            refine wpAnyH_take (i := 13) (v := .agg T.v) rfl (by kernel_rfl) (by kernel_rfl) (by kernel_rfl) (fun _ _ _ h => h) (.inl ⟨by rfl, by intro w hS; go_simp⟩) hH ?_
            (try simp only [jA, jB, jC, Act.put, jD, jE, jF])
            refine wpAnyH_take (i := 14) (v := .agg E.v) rfl (by kernel_rfl) (by kernel_rfl) (by kernel_rfl) (fun _ _ _ h => h) (.inl ⟨by rfl, by intro w hS; go_simp⟩) hH ?_
            (try simp only [jA, jB, jC, Act.put, jD, jE, jF])
            refine wpAnyH_ready (rs := [15]) (by kernel_rfl) (by simp) ?_
            refine AllReadyH.cons rfl (fun K hK => ?_) AllReadyH.nil
            rw [if_pos (by rfl)]
            have zA : Hid (W.heap.size ≤ W21.heap.size) := hH.size
            go_simp
            refine hK.out _ _ (hH.alloc _) (fun hH => ?_)
            clear hK K
            (try simp only [jA, jB, jC, Act.put, jD, jE, jF])
            obtain ⟨gA, egA⟩ : ∃ g, Hid (g = W21.heap.size) := ⟨_, rfl⟩
            have NA : Hid (W.heap.size ≤ gA) := by rw [egA.out]; exact zA.out
            have BAW22 : Hid ((W21.alloc (.cells z19 26)).heap[gA]? = some (.cells z19 26 (0, 0))) := by rw [egA.out]; exact hat _ _ _ rfl
            have BBW22 : Hid ((W21.alloc (.cells z19 26)).heap[gB]? = some (.cells #[.int .i64 0, .bool false, .bool false, .int .i64 0, .int .u32 0] 133 (0, 0))) := Kep.block ((Kep.refl W21).alloc _) BBW21.out
            have nAB : Hid (gA ≠ gB) := by have := block_lt BBW21.out; have := egA.out; show gA ≠ gB; omega
            rw [← egA.out]
            generalize W21.alloc (.cells z19 26) = W22 at hH BAW22 BBW22 ⊢
            refine wpAnyH_ready (rs := [17]) (by kernel_rfl) (by simp) ?_
            refine AllReadyH.cons rfl (fun K hK => ?_) AllReadyH.nil
            rw [if_pos (by rfl)]
            refine wp_store_row 26 _ _ rfl gA T.v rfl rfl 26 z19 BAW22.out (by exact size_sta) rfl (v_one _) ?_
            refine hK.out _ _ (hH.setRow gA _ NA.out) (fun hH => ?_)
            clear hK K
            (try simp only [jA, jB, jC, Act.put, jD, jE, jF])
            have BAW23 : Hid ((W22.setRow gA T.v).heap[gA]? = some (.cells T.v 26 (0, 0))) := setRow_heap _ _ _ _ _ _ BAW22.out
            have BBW23 : Hid ((W22.setRow gA T.v).heap[gB]? = some (.cells #[.int .i64 0, .bool false, .bool false, .int .i64 0, .int .u32 0] 133 (0, 0))) := (setRow_other _ _ _ _ (Ne.symm nAB.out)).trans BBW22.out
            generalize W22.setRow gA T.v = W23 at hH BAW23 BBW23 ⊢
            refine wpAnyH_ready (rs := [18]) (by kernel_rfl) (by simp) ?_
            refine AllReadyH.cons rfl (fun K hK => ?_) AllReadyH.nil
            rw [if_pos (by rfl)]
            refine wp_store_row 133 _ _ rfl gB E.v rfl rfl 133 #[.int .i64 0, .bool false, .bool false, .int .i64 0, .int .u32 0] BBW23.out (by exact size_eff) rfl (eff_one _) ?_
            refine hK.out _ _ (hH.setRow gB _ NB.out) (fun hH => ?_)
            clear hK K
            (try simp only [jA, jB, jC, Act.put, jD, jE, jF])
            have BBW24 : Hid ((W23.setRow gB E.v).heap[gB]? = some (.cells E.v 133 (0, 0))) := setRow_heap _ _ _ _ _ _ BBW23.out
            have BAW24 : Hid ((W23.setRow gB E.v).heap[gA]? = some (.cells T.v 26 (0, 0))) := (setRow_other _ _ _ _ nAB.out).trans BAW23.out
            generalize W23.setRow gB E.v = W24 at hH BBW24 BAW24 ⊢
            refine wpAnyH_done (by kernel_rfl) ?_ _
            go_wp2_with fail
            go_meet
            exact ⟨gA, gB, rfl, rfl, hH, BAW24.out, BBW24.out⟩
          refine AllReadyH.cons rfl (fun K hK => ?_) AllReadyH.nil
          rw [if_pos (by rfl)]
          have zA : Hid (W.heap.size ≤ W20.heap.size) := hH.size
          go_simp
          refine hK.out _ _ (hH.alloc _) (fun hH => ?_)
          clear hK K
          (try simp only [jA, jB, jC, Act.put, jD, jE, jF])
          obtain ⟨gA, egA⟩ : ∃ g, Hid (g = W20.heap.size) := ⟨_, rfl⟩
          have NA : Hid (W.heap.size ≤ gA) := by rw [egA.out]; exact zA.out
          have BAW25 : Hid ((W20.alloc (.cells z19 26)).heap[gA]? = some (.cells z19 26 (0, 0))) := by rw [egA.out]; exact hat _ _ _ rfl
          have BBW25 : Hid ((W20.alloc (.cells z19 26)).heap[gB]? = some (.cells #[.int .i64 0, .bool false, .bool false, .int .i64 0, .int .u32 0] 133 (0, 0))) := Kep.block ((Kep.refl W20).alloc _) BBW20.out
          have nAB : Hid (gA ≠ gB) := by have := block_lt BBW20.out; have := egA.out; show gA ≠ gB; omega
          rw [← egA.out]
          generalize W20.alloc (.cells z19 26) = W25 at hH BAW25 BBW25 ⊢
          refine wpAnyH_ready (rs := [11]) (by kernel_rfl) (by simp) ?_
          refine AllReadyH.cons rfl (fun K hK => ?_) AllReadyH.nil
          rw [if_pos (by rfl)]
          go_simp
          refine (HD.out _ hH).mono ?_
          rintro e W26 ⟨rfl, kW26⟩
          refine hK.out _ _ (kep_trans hH kW26) (fun hH => ?_)
          clear hK K
          (try simp only [jA, jB, jC, Act.put, jD, jE, jF])
          have BBW26 : Hid (W26.heap[gB]? = some (.cells #[.int .i64 0, .bool false, .bool false, .int .i64 0, .int .u32 0] 133 (0, 0))) := Kep.block kW26 BBW25.out
          have BAW26 : Hid (W26.heap[gA]? = some (.cells z19 26 (0, 0))) := Kep.block kW26 BAW25.out
          refine wpAnyH_take (i := 12) (v := .tuple #[.agg T.v, .agg E.v]) rfl (by kernel_rfl) (by kernel_rfl) (by kernel_rfl) (fun _ _ _ h => h) (.inl ⟨by rfl, by intro w hS; go_simp⟩) hH ?_
          (try simp only [jA, jB, jC, Act.put, jD, jE, jF])
          refine wpAnyH_take (i := 13) (v := .agg T.v) rfl (by kernel_rfl) (by kernel_rfl) (by kernel_rfl) (fun _ _ _ h => h) (.inl ⟨by rfl, by intro w hS; go_simp⟩) hH ?_
          (try simp only [jA, jB, jC, Act.put, jD, jE, jF])
          refine wpAnyH_take (i := 14) (v := .agg E.v) rfl (by kernel_rfl) (by kernel_rfl) (by kernel_rfl) (fun _ _ _ h => h) (.inl ⟨by rfl, by intro w hS; go_simp⟩) hH ?_
          (try simp only [jA, jB, jC, Act.put, jD, jE, jF])
          refine wpAnyH_ready (rs := [17]) (by kernel_rfl) (by simp) ?_
          refine AllReadyH.cons rfl (fun K hK => ?_) AllReadyH.nil
          rw [if_pos (by rfl)]
          refine wp_store_row 26 _ _ rfl gA T.v rfl rfl 26 z19 BAW26.out (by exact size_sta) rfl (v_one _) ?_
          refine hK.out _ _ (hH.setRow gA _ NA.out) (fun hH => ?_)
          clear hK K
          (try simp only [jA, jB, jC, Act.put, jD, jE, jF])
          have BAW27 : Hid ((W26.setRow gA T.v).heap[gA]? = some (.cells T.v 26 (0, 0))) := setRow_heap _ _ _ _ _ _ BAW26.out
          have BBW27 : Hid ((W26.setRow gA T.v).heap[gB]? = some (.cells #[.int .i64 0, .bool false, .bool false, .int .i64 0, .int .u32 0] 133 (0, 0))) := (setRow_other _ _ _ _ (Ne.symm nAB.out)).trans BBW26.out
          generalize W26.setRow gA T.v = W27 at hH BAW27 BBW27 ⊢
          refine wpAnyH_ready (rs := [18]) (by kernel_rfl) (by simp) ?_
          refine AllReadyH.cons rfl (fun K hK => ?_) AllReadyH.nil
          rw [if_pos (by rfl)]
          refine wp_store_row 133 _ _ rfl gB E.v rfl rfl 133 #[.int .i64 0, .bool false, .bool false, .int .i64 0, .int .u32 0] BBW27.out (by exact size_eff) rfl (eff_one _) ?_
          refine hK.out _ _ (hH.setRow gB _ NB.out) (fun hH => ?_)
          clear hK K
          (try simp only [jA, jB, jC, Act.put, jD, jE, jF])
          have BBW28 : Hid ((W27.setRow gB E.v).heap[gB]? = some (.cells E.v 133 (0, 0))) := setRow_heap _ _ _ _ _ _ BBW27.out
          have BAW28 : Hid ((W27.setRow gB E.v).heap[gA]? = some (.cells T.v 26 (0, 0))) := (setRow_other _ _ _ _ nAB.out).trans BAW27.out
          generalize W27.setRow gB E.v = W28 at hH BBW28 BAW28 ⊢
          refine wpAnyH_done (by kernel_rfl) ?_ _
          go_wp2_with fail
          go_meet
          exact ⟨gA, gB, rfl, rfl, hH, BAW28.out, BBW28.out⟩
        refine AllReadyH.cons rfl (fun K hK => ?_) ?_
        · skip
          rw [if_pos (by rfl)]
          have zA : Hid (W.heap.size ≤ Wd.heap.size) := hH.size
          go_simp
          refine hK.out _ _ (hH.alloc _) (fun hH => ?_)
          clear hK K
          (try simp only [jA, jB, jC, Act.put, jD, jE, jF])
          obtain ⟨gA, egA⟩ : ∃ g, Hid (g = Wd.heap.size) := ⟨_, rfl⟩
          have NA : Hid (W.heap.size ≤ gA) := by rw [egA.out]; exact zA.out
          have BAW29 : Hid ((Wd.alloc (.cells z19 26)).heap[gA]? = some (.cells z19 26 (0, 0))) := by rw [egA.out]; exact hat _ _ _ rfl
          rw [← egA.out]
          generalize Wd.alloc (.cells z19 26) = W29 at hH BAW29 ⊢
          refine wpAnyH_ready (rs := [10, 16]) (by kernel_rfl) (by simp) ?_
          refine AllReadyH.cons rfl (fun K hK => ?_) ?_
          · skip
            rw [if_pos (by rfl)]
            go_simp
            refine (HN.out _ hH).mono ?_
            rintro e W30 ⟨rfl, kW30⟩
            refine hK.out _ _ (kep_trans hH kW30) (fun hH => ?_)
            clear hK K
            (try simp only [jA, jB, jC, Act.put, jD, jE, jF])
            have BAW30 : Hid (W30.heap[gA]? = some (.cells z19 26 (0, 0))) := Kep.block kW30 BAW29.out
            refine wpAnyH_ready (rs := [11, 16]) (by kernel_rfl) (by simp) ?_
            refine AllReadyH.cons rfl (fun K hK => ?_) ?_
            · skip
              rw [if_pos (by rfl)]
              go_simp
              refine (HD.out _ hH).mono ?_
              rintro e W31 ⟨rfl, kW31⟩
              refine hK.out _ _ (kep_trans hH kW31) (fun hH => ?_)
              clear hK K
              (try simp only [jA, jB, jC, Act.put, jD, jE, jF])
              have BAW31 : Hid (W31.heap[gA]? = some (.cells z19 26 (0, 0))) := Kep.block kW31 BAW30.out
              refine wpAnyH_take (i := 12) (v := .tuple #[.agg T.v, .agg E.v]) rfl (by kernel_rfl) (by kernel_rfl) (by kernel_rfl) (fun _ _ _ h => h) (.inl ⟨by rfl, by intro w hS; go_simp⟩) hH ?_
              (try simp only [jA, jB, jC, Act.put, jD, jE, jF])
              refine wpAnyH_take (i := 13) (v := .agg T.v) rfl (by kernel_rfl) (by kernel_rfl) (by kernel_rfl) (fun _ _ _ h => h) (.inl ⟨by rfl, by intro w hS; go_simp⟩) hH ?_
              (try simp only [jA, jB, jC, Act.put, jD, jE, jF])
              refine wpAnyH_take (i := 14) (v := .agg E.v) rfl (by kernel_rfl) (by kernel_rfl) (by kernel_rfl) (fun _ _ _ h => h) (.inl ⟨by rfl, by intro w hS; go_simp⟩) hH ?_
              (try simp only [jA, jB, jC, Act.put, jD, jE, jF])
              refine wpAnyH_ready (rs := [16]) (by kernel_rfl) (by simp) ?_
              refine AllReadyH.cons rfl (fun K hK => ?_) AllReadyH.nil
              rw [if_pos (by rfl)]
              have zB : Hid (W.heap.size ≤ W31.heap.size) := hH.size
              go_simp
              refine hK.out _ _ (hH.alloc _) (fun hH => ?_)
              clear hK K
              (try simp only [jA, jB, jC, Act.put, jD, jE, jF])
              obtain ⟨gB, egB⟩ : ∃ g, Hid (g = W31.heap.size) := ⟨_, rfl⟩
              have NB : Hid (W.heap.size ≤ gB) := by rw [egB.out]; exact zB.out
              have BBW32 : Hid ((W31.alloc (.cells #[.int .i64 0, .bool false, .bool false, .int .i64 0, .int .u32 0] 133)).heap[gB]? = some (.cells #[.int .i64 0, .bool false, .bool false, .int .i64 0, .int .u32 0] 133 (0, 0))) := by rw [egB.out]; exact hat _ _ _ rfl
              have BAW32 : Hid ((W31.alloc (.cells #[.int .i64 0, .bool false, .bool false, .int .i64 0, .int .u32 0] 133)).heap[gA]? = some (.cells z19 26 (0, 0))) := Kep.block ((Kep.refl W31).alloc _) BAW31.out
              have nAB : Hid (gA ≠ gB) := by have := block_lt BAW31.out; have := egB.out; show gA ≠ gB; omega
              rw [← egB.out]
              generalize W31.alloc (.cells #[.int .i64 0, .bool false, .bool false, .int .i64 0, .int .u32 0] 133) = W32 at hH BBW32 BAW32 ⊢
              refine wpAnyH_ready (rs := [17]) (by kernel_rfl) (by simp) ?_
              refine AllReadyH.cons rfl (fun K hK => ?_) AllReadyH.nil
              rw [if_pos (by rfl)]
              refine wp_store_row 26 _ _ rfl gA T.v rfl rfl 26 z19 BAW32.out (by exact size_sta) rfl (v_one _) ?_
              refine hK.out _ _ (hH.setRow gA _ NA.out) (fun hH => ?_)
              clear hK K
              (try simp only [jA, jB, jC, Act.put, jD, jE, jF])
              have BAW33 : Hid ((W32.setRow gA T.v).heap[gA]? = some (.cells T.v 26 (0, 0))) := setRow_heap _ _ _ _ _ _ BAW32.out
              have BBW33 : Hid ((W32.setRow gA T.v).heap[gB]? = some (.cells #[.int .i64 0, .bool false, .bool false, .int .i64 0, .int .u32 0] 133 (0, 0))) := (setRow_other _ _ _ _ (Ne.symm nAB.out)).trans BBW32.out
              generalize W32.setRow gA T.v = W33 at hH BAW33 BBW33 ⊢
              refine wpAnyH_ready (rs := [18]) (by kernel_rfl) (by simp) ?_
              refine AllReadyH.cons rfl (fun K hK => ?_) AllReadyH.nil
              rw [if_pos (by rfl)]
              refine wp_store_row 133 _ _ rfl gB E.v rfl rfl 133 #[.int .i64 0, .bool false, .bool false, .int .i64 0, .int .u32 0] BBW33.out (by exact size_eff) rfl (eff_one _) ?_
              refine hK.out _ _ (hH.setRow gB _ NB.out) (fun hH => ?_)
              clear hK K
              (try simp only [jA, jB, jC, Act.put, jD, jE, jF])
              have BBW34 : Hid ((W33.setRow gB E.v).heap[gB]? = some (.cells E.v 133 (0, 0))) := setRow_heap _ _ _ _ _ _ BBW33.out
              have BAW34 : Hid ((W33.setRow gB E.v).heap[gA]? = some (.cells T.v 26 (0, 0))) := (setRow_other _ _ _ _ nAB.out).trans BAW33.out
              generalize W33.setRow gB E.v = W34 at hH BBW34 BAW34 ⊢
              refine wpAnyH_done (by kernel_rfl) ?_ _
              go_wp2_with fail
              go_meet
              exact ⟨gA, gB, rfl, rfl, hH, BAW34.out, BBW34.out⟩
            refine AllReadyH.cons rfl (fun K hK => ?_) AllReadyH.nil
            rw [if_pos (by rfl)]
            have zB : Hid (W.heap.size ≤ W30.heap.size) := hH.size
            go_simp
            refine hK.out _ _ (hH.alloc _) (fun hH => ?_)
            clear hK K
            (try simp only [jA, jB, jC, Act.put, jD, jE, jF])
            obtain ⟨gB, egB⟩ : ∃ g, Hid (g = W30.heap.size) := ⟨_, rfl⟩
            have NB : Hid (W.heap.size ≤ gB) := by rw [egB.out]; exact zB.out
            have BBW35 : Hid ((W30.alloc (.cells #[.int .i64 0, .bool false, .bool false, .int .i64 0, .int .u32 0] 133)).heap[gB]? = some (.cells #[.int .i64 0, .bool false, .bool false, .int .i64 0, .int .u32 0] 133 (0, 0))) := by rw [egB.out]; exact hat _ _ _ rfl
            have BAW35 : Hid ((W30.alloc (.cells #[.int .i64 0, .bool false, .bool false, .int .i64 0, .int .u32 0] 133)).heap[gA]? = some (.cells z19 26 (0, 0))) := Kep.block ((Kep.refl W30).alloc _) BAW30.out
            have nAB : Hid (gA ≠ gB) := by have := block_lt BAW30.out; have := egB.out; show gA ≠ gB; omega
            rw [← egB.out]
            generalize W30.alloc (.cells #[.int .i64 0, .bool false, .bool false, .int .i64 0, .int .u32 0] 133) = W35 at hH BBW35 BAW35 ⊢
            refine wpAnyH_ready (rs := [11]) (by kernel_rfl) (by simp) ?_
            refine AllReadyH.cons rfl (fun K hK => ?_) AllReadyH.nil
            rw [if_pos (by rfl)]
            go_simp
            refine (HD.out _ hH).mono ?_
            rintro e W36 ⟨rfl, kW36⟩
            refine hK.out _ _ (kep_trans hH kW36) (fun hH => ?_)
            clear hK K
            (try simp only [jA, jB, jC, Act.put, jD, jE, jF])
            have BAW36 : Hid (W36.heap[gA]? = some (.cells z19 26 (0, 0))) := Kep.block kW36 BAW35.out
            have BBW36 : Hid (W36.heap[gB]? = some (.cells #[.int .i64 0, .bool false, .bool false, .int .i64 0, .int .u32 0] 133 (0, 0))) := Kep.block kW36 BBW35.out
            refine wpAnyH_take (i := 12) (v := .tuple #[.agg T.v, .agg E.v]) rfl (by kernel_rfl) (by kernel_rfl) (by kernel_rfl) (fun _ _ _ h => h) (.inl ⟨by rfl, by intro w hS; go_simp⟩) hH ?_
            (try simp only [jA, jB, jC, Act.put, jD, jE, jF])
            refine wpAnyH_take (i := 13) (v := .agg T.v) rfl (by kernel_rfl) (by kernel_rfl) (by kernel_rfl) (fun _ _ _ h => h) (.inl ⟨by rfl, by intro w hS; go_simp⟩) hH ?_
            (try simp only [jA, jB, jC, Act.put, jD, jE, jF])
            refine wpAnyH_take (i := 14) (v := .agg E.v) rfl (by kernel_rfl) (by kernel_rfl) (by kernel_rfl) (fun _ _ _ h => h) (.inl ⟨by rfl, by intro w hS; go_simp⟩) hH ?_
            (try simp only [jA, jB, jC, Act.put, jD, jE, jF])
            refine wpAnyH_ready (rs := [17]) (by kernel_rfl) (by simp) ?_
            refine AllReadyH.cons rfl (fun K hK => ?_) AllReadyH.nil
            rw [if_pos (by rfl)]
            refine wp_store_row 26 _ _ rfl gA T.v rfl rfl 26 z19 BAW36.out (by exact size_sta) rfl (v_one _) ?_
            refine hK.out _ _ (hH.setRow gA _ NA.out) (fun hH => ?_)
            clear hK K
            (try simp only [jA, jB, jC, Act.put, jD, jE, jF])
            have BAW37 : Hid ((W36.setRow gA T.v).heap[gA]? = some (.cells T.v 26 (0, 0))) := setRow_heap _ _ _ _ _ _ BAW36.out
            have BBW37 : Hid ((W36.setRow gA T.v).heap[gB]? = some (.cells #[.int .i64 0, .bool false, .bool false, .int .i64 0, .int .u32 0] 133 (0, 0))) := (setRow_other _ _ _ _ (Ne.symm nAB.out)).trans BBW36.out
            generalize W36.setRow gA T.v = W37 at hH BAW37 BBW37 ⊢
            refine wpAnyH_ready (rs := [18]) (by kernel_rfl) (by simp) ?_
            refine AllReadyH.cons rfl (fun K hK => ?_) AllReadyH.nil
            rw [if_pos (by rfl)]
            refine wp_store_row 133 _ _ rfl gB E.v rfl rfl 133 #[.int .i64 0, .bool false, .bool false, .int .i64 0, .int .u32 0] BBW37.out (by exact size_eff) rfl (eff_one _) ?_
            refine hK.out _ _ (hH.setRow gB _ NB.out) (fun hH => ?_)
            clear hK K
            (try simp only [jA, jB, jC, Act.put, jD, jE, jF])
            have BBW38 : Hid ((W37.setRow gB E.v).heap[gB]? = some (.cells E.v 133 (0, 0))) := setRow_heap _ _ _ _ _ _ BBW37.out
            have BAW38 : Hid ((W37.setRow gB E.v).heap[gA]? = some (.cells T.v 26 (0, 0))) := (setRow_other _ _ _ _ nAB.out).trans BAW37.out
            generalize W37.setRow gB E.v = W38 at hH BBW38 BAW38 ⊢
            refine wpAnyH_done (by kernel_rfl) ?_ _
            go_wp2_with fail
            go_meet
            exact ⟨gA, gB, rfl, rfl, hH, BAW38.out, BBW38.out⟩
          refine AllReadyH.cons rfl (fun K hK => ?_) AllReadyH.nil
          rw [if_pos (by rfl)]
          have zB : Hid (W.heap.size ≤ W29.heap.size) := hH.size
          go_simp
          refine hK.out _ _ (hH.alloc _) (fun hH => ?_)
          clear hK K
          (try simp only [jA, jB, jC, Act.put, jD, jE, jF])
          obtain ⟨gB, egB⟩ : ∃ g, Hid (g = W29.heap.size) := ⟨_, rfl⟩
          have NB : Hid (W.heap.size ≤ gB) := by rw [egB.out]; exact zB.out
          have BBW39 : Hid ((W29.alloc (.cells #[.int .i64 0, .bool false, .bool false, .int .i64 0, .int .u32 0] 133)).heap[gB]? = some (.cells #[.int .i64 0, .bool false, .bool false, .int .i64 0, .int .u32 0] 133 (0, 0))) := by rw [egB.out]; exact hat _ _ _ rfl
          have BAW39 : Hid ((W29.alloc (.cells #[.int .i64 0, .bool false, .bool false, .int .i64 0, .int .u32 0] 133)).heap[gA]? = some (.cells z19 26 (0, 0))) := Kep.block ((Kep.refl W29).alloc _) BAW29.out
          have nAB : Hid (gA ≠ gB) := by have := block_lt BAW29.out; have := egB.out; show gA ≠ gB; omega
          rw [← egB.out]
          generalize W29.alloc (.cells #[.int .i64 0, .bool false, .bool false, .int .i64 0, .int .u32 0] 133) = W39 at hH BBW39 BAW39 ⊢
          refine wpAnyH_ready (rs := [10]) (by kernel_rfl) (by simp) ?_
          refine AllReadyH.cons rfl (fun K hK => ?_) AllReadyH.nil
          rw [if_pos (by rfl)]
          go_simp
          refine (HN.out _ hH).mono ?_
          rintro e W40 ⟨rfl, kW40⟩
          refine hK.out _ _ (kep_trans hH kW40) (fun hH => ?_)
          clear hK K
          (try simp only [jA, jB, jC, Act.put, jD, jE, jF])
          have BAW40 : Hid (W40.heap[gA]? = some (.cells z19 26 (0, 0))) := Kep.block kW40 BAW39.out
          have BBW40 : Hid (W40.heap[gB]? = some (.cells #[.int .i64 0, .bool false, .bool false, .int .i64 0, .int .u32 0] 133 (0, 0))) := Kep.block kW40 BBW39.out
          refine wpAnyH_ready (rs := [11]) (by kernel_rfl) (by simp) ?_
          refine AllReadyH.cons rfl (fun K hK => ?_) AllReadyH.nil
          rw [if_pos (by rfl)]
          go_simp
          refine (HD.out _ hH).mono ?_
          rintro e W41 ⟨rfl, kW41⟩
          refine hK.out _ _ (kep_trans hH kW41) (fun hH => ?_)
          clear hK K
          (try simp only [jA, jB, jC, Act.put, jD, jE, jF])
          have BAW41 : Hid (W41.heap[gA]? = some (.cells z19 26 (0, 0))) := Kep.block kW41 BAW40.out
          have BBW41 : Hid (W41.heap[gB]? = some (.cells #[.int .i64 0, .bool false, .bool false, .int .i64 0, .int .u32 0] 133 (0, 0))) := Kep.block kW41 BBW40.out
          refine wpAnyH_take (i := 12) (v := .tuple #[.agg T.v, .agg E.v]) rfl (by kernel_rfl) (by kernel_rfl) (by kernel_rfl) (fun _ _ _ h => h) (.inl ⟨by rfl, by intro w hS; go_simp⟩) hH ?_
          (try simp only [jA, jB, jC, Act.put, jD, jE, jF])
          refine wpAnyH_take (i := 13) (v := .agg T.v) rfl (by kernel_rfl) (by kernel_rfl) (by kernel_rfl) (fun _ _ _ h => h) (.inl ⟨by rfl, by intro w hS; go_simp⟩) hH ?_
          (try simp only [jA, jB, jC, Act.put, jD, jE, jF])
          refine wpAnyH_take (i := 14) (v := .agg E.v) rfl (by kernel_rfl) (by kernel_rfl) (by kernel_rfl) (fun _ _ _ h => h) (.inl ⟨by rfl, by intro w hS; go_simp⟩) hH ?_
          (try simp only [jA, jB, jC, Act.put, jD, jE, jF])
          refine wpAnyH_ready (rs := [17]) (by kernel_rfl) (by simp) ?_
          refine AllReadyH.cons rfl (fun K hK => ?_) AllReadyH.nil
          rw [if_pos (by rfl)]
          refine wp_store_row 26 _ _ rfl gA T.v rfl rfl 26 z19 BAW41.out (by exact size_sta) rfl (v_one _) ?_
          refine hK.out _ _ (hH.setRow gA _ NA.out) (fun hH => ?_)
          clear hK K
          (try simp only [jA, jB, jC, Act.put, jD, jE, jF])
          have BAW42 : Hid ((W41.setRow gA T.v).heap[gA]? = some (.cells T.v 26 (0, 0))) := setRow_heap _ _ _ _ _ _ BAW41.out
          have BBW42 : Hid ((W41.setRow gA T.v).heap[gB]? = some (.cells #[.int .i64 0, .bool false, .bool false, .int .i64 0, .int .u32 0] 133 (0, 0))) := (setRow_other _ _ _ _ (Ne.symm nAB.out)).trans BBW41.out
          generalize W41.setRow gA T.v = W42 at hH BAW42 BBW42 ⊢
          refine wpAnyH_ready (rs := [18]) (by kernel_rfl) (by simp) ?_
          refine AllReadyH.cons rfl (fun K hK => ?_) AllReadyH.nil
          rw [if_pos (by rfl)]
          refine wp_store_row 133 _ _ rfl gB E.v rfl rfl 133 #[.int .i64 0, .bool false, .bool false, .int .i64 0, .int .u32 0] BBW42.out (by exact size_eff) rfl (eff_one _) ?_
          refine hK.out _ _ (hH.setRow gB _ NB.out) (fun hH => ?_)
          clear hK K
          (try simp only [jA, jB, jC, Act.put, jD, jE, jF])
          have BBW43 : Hid ((W42.setRow gB E.v).heap[gB]? = some (.cells E.v 133 (0, 0))) := setRow_heap _ _ _ _ _ _ BBW42.out
          have BAW43 : Hid ((W42.setRow gB E.v).heap[gA]? = some (.cells T.v 26 (0, 0))) := (setRow_other _ _ _ _ nAB.out).trans BAW42.out
          generalize W42.setRow gB E.v = W43 at hH BBW43 BAW43 ⊢
          refine wpAnyH_done (by kernel_rfl) ?_ _
          go_wp2_with fail
          go_meet
          exact ⟨gA, gB, rfl, rfl, hH, BAW43.out, BBW43.out⟩
        refine AllReadyH.cons rfl (fun K hK => ?_) AllReadyH.nil
        rw [if_pos (by rfl)]
        have zB : Hid (W.heap.size ≤ Wd.heap.size) := hH.size
        go_simp
        refine hK.out _ _ (hH.alloc _) (fun hH => ?_)
        clear hK K
        (try simp only [jA, jB, jC, Act.put, jD, jE, jF])
        obtain ⟨gB, egB⟩ : ∃ g, Hid (g = Wd.heap.size) := ⟨_, rfl⟩
        have NB : Hid (W.heap.size ≤ gB) := by rw [egB.out]; exact zB.out
        have BBW44 : Hid ((Wd.alloc (.cells #[.int .i64 0, .bool false, .bool false, .int .i64 0, .int .u32 0] 133)).heap[gB]? = some (.cells #[.int .i64 0, .bool false, .bool false, .int .i64 0, .int .u32 0] 133 (0, 0))) := by rw [egB.out]; exact hat _ _ _ rfl
        rw [← egB.out]
        generalize Wd.alloc (.cells #[.int .i64 0, .bool false, .bool false, .int .i64 0, .int .u32 0] 133) = W44 at hH BBW44 ⊢
        refine wpAnyH_ready (rs := [10, 15]) (by kernel_rfl) (by simp) ?_
        refine AllReadyH.cons rfl (fun K hK => ?_) ?_
        · skip
          rw [if_pos (by rfl)]
          go_simp
          refine (HN.out _ hH).mono ?_
          rintro e W45 ⟨rfl, kW45⟩
          refine hK.out _ _ (kep_trans hH kW45) (fun hH => ?_)
          clear hK K
          (try simp only [jA, jB, jC, Act.put, jD, jE, jF])
          have BBW45 : Hid (W45.heap[gB]? = some (.cells #[.int .i64 0, .bool false, .bool false, .int .i64 0, .int .u32 0] 133 (0, 0))) := Kep.block kW45 BBW44.out
          refine wpAnyH_ready (rs := [11, 15]) (by kernel_rfl) (by simp) ?_
          refine AllReadyH.cons rfl (fun K hK => ?_) ?_
          · skip
            rw [if_pos (by rfl)]
            go_simp
            refine (HD.out _ hH).mono ?_
            rintro e W46 ⟨rfl, kW46⟩
            refine hK.out _ _ (kep_trans hH kW46) (fun hH => ?_)
            clear hK K
            (try simp only [jA, jB, jC, Act.put, jD, jE, jF])
            have BBW46 : Hid (W46.heap[gB]? = some (.cells #[.int .i64 0, .bool false, .bool false, .int .i64 0, .int .u32 0] 133 (0, 0))) := Kep.block kW46 BBW45.out
            refine wpAnyH_take (i := 12) (v := .tuple #[.agg T.v, .agg E.v]) rfl (by kernel_rfl) (by kernel_rfl) (by kernel_rfl) (fun _ _ _ h => h) (.inl ⟨by rfl, by intro w hS; go_simp⟩) hH ?_
            (try simp only [jA, jB, jC, Act.put, jD, jE, jF])
            refine wpAnyH_take (i := 13) (v := .agg T.v) rfl (by kernel_rfl) (by kernel_rfl) (by kernel_rfl) (fun _ _ _ h => h) (.inl ⟨by rfl, by intro w hS; go_simp⟩) hH ?_
            (try simp only [jA, jB, jC, Act.put, jD, jE, jF])
            refine wpAnyH_take (i := 14) (v := .agg E.v) rfl (by kernel_rfl) (by kernel_rfl) (by kernel_rfl) (fun _ _ _ h => h) (.inl ⟨by rfl, by intro w hS; go_simp⟩) hH ?_
            (try simp only [jA, jB, jC, Act.put, jD, jE, jF])
            refine wpAnyH_ready (rs := [15]) (by kernel_rfl) (by simp) ?_
            refine AllReadyH.cons rfl (fun K hK => ?_) AllReadyH.nil
            rw [if_pos (by rfl)]
            have zA : Hid (W.heap.size ≤ W46.heap.size) := hH.size
            go_simp
            refine hK.out _ _ (hH.alloc _) (fun hH => ?_)
            clear hK K
            (try simp only [jA, jB, jC, Act.put, jD, jE, jF])
            obtain ⟨gA, egA⟩ : ∃ g, Hid (g = W46.heap.size) := ⟨_, rfl⟩
            have NA : Hid (W.heap.size ≤ gA) := by rw [egA.out]; exact zA.out
            have BAW47 : Hid ((W46.alloc (.cells z19 26)).heap[gA]? = some (.cells z19 26 (0, 0))) := by rw [egA.out]; exact hat _ _ _ rfl
            have BBW47 : Hid ((W46.alloc (.cells z19 26)).heap[gB]? = some (.cells #[.int .i64 0, .bool false, .bool false, .int .i64 0, .int .u32 0] 133 (0, 0))) := Kep.block ((Kep.refl W46).alloc _) BBW46.out
            have nAB : Hid (gA ≠ gB) := by have := block_lt BBW46.out; have := egA.out; show gA ≠ gB; omega
            rw [← egA.out]
            generalize W46.alloc (.cells z19 26) = W47 at hH BAW47 BBW47 ⊢
            refine wpAnyH_ready (rs := [17]) (by kernel_rfl) (by simp) ?_
            refine AllReadyH.cons rfl (fun K hK => ?_) AllReadyH.nil
            rw [if_pos (by rfl)]
            refine wp_store_row 26 _ _ rfl gA T.v rfl rfl 26 z19 BAW47.out (by exact size_sta) rfl (v_one _) ?_
            refine hK.out _ _ (hH.setRow gA _ NA.out) (fun hH => ?_)
            clear hK K
            (try simp only [jA, jB, jC, Act.put, jD, jE, jF])
            have BAW48 : Hid ((W47.setRow gA T.v).heap[gA]? = some (.cells T.v 26 (0, 0))) := setRow_heap _ _ _ _ _ _ BAW47.out
            have BBW48 : Hid ((W47.setRow gA T.v).heap[gB]? = some (.cells #[.int .i64 0, .bool false, .bool false, .int .i64 0, .int .u32 0] 133 (0, 0))) := (setRow_other _ _ _ _ (Ne.symm nAB.out)).trans BBW47.out
            generalize W47.setRow gA T.v = W48 at hH BAW48 BBW48 ⊢
            refine wpAnyH_ready (rs := [18]) (by kernel_rfl) (by simp) ?_
            refine AllReadyH.cons rfl (fun K hK => ?_) AllReadyH.nil
            rw [if_pos (by rfl)]
            refine wp_store_row 133 _ _ rfl gB E.v rfl rfl 133 #[.int .i64 0, .bool false, .bool false, .int .i64 0, .int .u32 0] BBW48.out (by exact size_eff) rfl (eff_one _) ?_
            refine hK.out _ _ (hH.setRow gB _ NB.out) (fun hH => ?_)
            clear hK K
            (try simp only [jA, jB, jC, Act.put, jD, jE, jF])
            have BBW49 : Hid ((W48.setRow gB E.v).heap[gB]? = some (.cells E.v 133 (0, 0))) := setRow_heap _ _ _ _ _ _ BBW48.out
            have BAW49 : Hid ((W48.setRow gB E.v).heap[gA]? = some (.cells T.v 26 (0, 0))) := (setRow_other _ _ _ _ nAB.out).trans BAW48.out
            generalize W48.setRow gB E.v = W49 at hH BBW49 BAW49 ⊢
            refine wpAnyH_done (by kernel_rfl) ?_ _
            go_wp2_with fail
            go_meet
            exact ⟨gA, gB, rfl, rfl, hH, BAW49.out, BBW49.out⟩
          refine AllReadyH.cons rfl (fun K hK => ?_) AllReadyH.nil
          rw [if_pos (by rfl)]
          have zA : Hid (W.heap.size ≤ W45.heap.size) := hH.size
          go_simp
          refine hK.out _ _ (hH.alloc _) (fun hH => ?_)
          clear hK K
          (try simp only [jA, jB, jC, Act.put, jD, jE, jF])
          obtain ⟨gA, egA⟩ : ∃ g, Hid (g = W45.heap.size) := ⟨_, rfl⟩
          have NA : Hid (W.heap.size ≤ gA) := by rw [egA.out]; exact zA.out
          have BAW50 : Hid ((W45.alloc (.cells z19 26)).heap[gA]? = some (.cells z19 26 (0, 0))) := by rw [egA.out]; exact hat _ _ _ rfl
          have BBW50 : Hid ((W45.alloc (.cells z19 26)).heap[gB]? = some (.cells #[.int .i64 0, .bool false, .bool false, .int .i64 0, .int .u32 0] 133 (0, 0))) := Kep.block ((Kep.refl W45).alloc _) BBW45.out
          have nAB : Hid (gA ≠ gB) := by have := block_lt BBW45.out; have := egA.out; show gA ≠ gB; omega
          rw [← egA.out]
          generalize W45.alloc (.cells z19 26) = W50 at hH BAW50 BBW50 ⊢
          refine wpAnyH_ready (rs := [11]) (by kernel_rfl) (by simp) ?_
          refine AllReadyH.cons rfl (fun K hK => ?_) AllReadyH.nil
          rw [if_pos (by rfl)]
          go_simp
          refine (HD.out _ hH).mono ?_
          rintro e W51 ⟨rfl, kW51⟩
          refine hK.out _ _ (kep_trans hH kW51) (fun hH => ?_)
          clear hK K
          (try simp only [jA, jB, jC, Act.put, jD, jE, jF])
          have BBW51 : Hid (W51.heap[gB]? = some (.cells #[.int .i64 0, .bool false, .bool false, .int .i64 0, .int .u32 0] 133 (0, 0))) := Kep.block kW51 BBW50.out
          have BAW51 : Hid (W51.heap[gA]? = some (.cells z19 26 (0, 0))) := Kep.block kW51 BAW50.out
          refine wpAnyH_take (i := 12) (v := .tuple #[.agg T.v, .agg E.v]) rfl (by kernel_rfl) (by kernel_rfl) (by kernel_rfl) (fun _ _ _ h => h) (.inl ⟨by rfl, by intro w hS; go_simp⟩) hH ?_
          (try simp only [jA, jB, jC, Act.put, jD, jE, jF])
          refine wpAnyH_take (i := 13) (v := .agg T.v) rfl (by kernel_rfl) (by kernel_rfl) (by kernel_rfl) (fun _ _ _ h => h) (.inl ⟨by rfl, by intro w hS; go_simp⟩) hH ?_
          (try simp only [jA, jB, jC, Act.put, jD, jE, jF])
          refine wpAnyH_take (i := 14) (v := .agg E.v) rfl (by kernel_rfl) (by kernel_rfl) (by kernel_rfl) (fun _ _ _ h => h) (.inl ⟨by rfl, by intro w hS; go_simp⟩) hH ?_
          (try simp only [jA, jB, jC, Act.put, jD, jE, jF])
          refine wpAnyH_ready (rs := [17]) (by kernel_rfl) (by simp) ?_
          refine AllReadyH.cons rfl (fun K hK => ?_) AllReadyH.nil
          rw [if_pos (by rfl)]
          refine wp_store_row 26 _ _ rfl gA T.v rfl rfl 26 z19 BAW51.out (by exact size_sta) rfl (v_one _) ?_
          refine hK.out _ _ (hH.setRow gA _ NA.out) (fun hH => ?_)
          clear hK K
          (try simp only [jA, jB, jC, Act.put, jD, jE, jF])
          have BAW52 : Hid ((W51.setRow gA T.v).heap[gA]? = some (.cells T.v 26 (0, 0))) := setRow_heap _ _ _ _ _ _ BAW51.out
          have BBW52 : Hid ((W51.setRow gA T.v).heap[gB]? = some (.cells #[.int .i64 0, .bool false, .bool false, .int .i64 0, .int .u32 0] 133 (0, 0))) := (setRow_other _ _ _ _ (Ne.symm nAB.out)).trans BBW51.out
          generalize W51.setRow gA T.v = W52 at hH BAW52 BBW52 ⊢
          refine wpAnyH_ready (rs := [18]) (by kernel_rfl) (by simp) ?_
          refine AllReadyH.cons rfl (fun K hK => ?_) AllReadyH.nil
          rw [if_pos (by rfl)]
          refine wp_store_row 133 _ _ rfl gB E.v rfl rfl 133 #[.int .i64 0, .bool false, .bool false, .int .i64 0, .int .u32 0] BBW52.out (by exact size_eff) rfl (eff_one _) ?_
          refine hK.out _ _ (hH.setRow gB _ NB.out) (fun hH => ?_)
          clear hK K
          (try simp only [jA, jB, jC, Act.put, jD, jE, jF])
          have BBW53 : Hid ((W52.setRow gB E.v).heap[gB]? = some (.cells E.v 133 (0, 0))) := setRow_heap _ _ _ _ _ _ BBW52.out
          have BAW53 : Hid ((W52.setRow gB E.v).heap[gA]? = some (.cells T.v 26 (0, 0))) := (setRow_other _ _ _ _ nAB.out).trans BAW52.out
          generalize W52.setRow gB E.v = W53 at hH BBW53 BAW53 ⊢
          refine wpAnyH_done (by kernel_rfl) ?_ _
          go_wp2_with fail
          go_meet
          exact ⟨gA, gB, rfl, rfl, hH, BAW53.out, BBW53.out⟩
        refine AllReadyH.cons rfl (fun K hK => ?_) AllReadyH.nil
        rw [if_pos (by rfl)]
        have zA : Hid (W.heap.size ≤ W44.heap.size) := hH.size
        go_simp
        refine hK.out _ _ (hH.alloc _) (fun hH => ?_)
        clear hK K
        (try simp only [jA, jB, jC, Act.put, jD, jE, jF])
        obtain ⟨gA, egA⟩ : ∃ g, Hid (g = W44.heap.size) := ⟨_, rfl⟩
        have NA : Hid (W.heap.size ≤ gA) := by rw [egA.out]; exact zA.out
        have BAW54 : Hid ((W44.alloc (.cells z19 26)).heap[gA]? = some (.cells z19 26 (0, 0))) := by rw [egA.out]; exact hat _ _ _ rfl
        have BBW54 : Hid ((W44.alloc (.cells z19 26)).heap[gB]? = some (.cells #[.int .i64 0, .bool false, .bool false, .int .i64 0, .int .u32 0] 133 (0, 0))) := Kep.block ((Kep.refl W44).alloc _) BBW44.out
        have nAB : Hid (gA ≠ gB) := by have := block_lt BBW44.out; have := egA.out; show gA ≠ gB; omega
        rw [← egA.out]
        generalize W44.alloc (.cells z19 26) = W54 at hH BAW54 BBW54 ⊢
        refine wpAnyH_ready (rs := [10]) (by kernel_rfl) (by simp) ?_
        refine AllReadyH.cons rfl (fun K hK => ?_) AllReadyH.nil
        rw [if_pos (by rfl)]
        go_simp
        refine (HN.out _ hH).mono ?_
        rintro e W55 ⟨rfl, kW55⟩
        refine hK.out _ _ (kep_trans hH kW55) (fun hH => ?_)
        clear hK K
        (try simp only [jA, jB, jC, Act.put, jD, jE, jF])
        have BBW55 : Hid (W55.heap[gB]? = some (.cells #[.int .i64 0, .bool false, .bool false, .int .i64 0, .int .u32 0] 133 (0, 0))) := Kep.block kW55 BBW54.out
        have BAW55 : Hid (W55.heap[gA]? = some (.cells z19 26 (0, 0))) := Kep.block kW55 BAW54.out
        refine wpAnyH_ready (rs := [11]) (by kernel_rfl) (by simp) ?_
        refine AllReadyH.cons rfl (fun K hK => ?_) AllReadyH.nil
        rw [if_pos (by rfl)]
        go_simp
        refine (HD.out _ hH).mono ?_
        rintro e W56 ⟨rfl, kW56⟩
        refine hK.out _ _ (kep_trans hH kW56) (fun hH => ?_)
        clear hK K
        (try simp only [jA, jB, jC, Act.put, jD, jE, jF])
        have BBW56 : Hid (W56.heap[gB]? = some (.cells #[.int .i64 0, .bool false, .bool false, .int .i64 0, .int .u32 0] 133 (0, 0))) := Kep.block kW56 BBW55.out
        have BAW56 : Hid (W56.heap[gA]? = some (.cells z19 26 (0, 0))) := Kep.block kW56 BAW55.out
        refine wpAnyH_take (i := 12) (v := .tuple #[.agg T.v, .agg E.v]) rfl (by kernel_rfl) (by kernel_rfl) (by kernel_rfl) (fun _ _ _ h => h) (.inl ⟨by rfl, by intro w hS; go_simp⟩) hH ?_
        (try simp only [jA, jB, jC, Act.put, jD, jE, jF])
        refine wpAnyH_take (i := 13) (v := .agg T.v) rfl (by kernel_rfl) (by kernel_rfl) (by kernel_rfl) (fun _ _ _ h => h) (.inl ⟨by rfl, by intro w hS; go_simp⟩) hH ?_
        (try simp only [jA, jB, jC, Act.put, jD, jE, jF])
        refine wpAnyH_take (i := 14) (v := .agg E.v) rfl (by kernel_rfl) (by kernel_rfl) (by kernel_rfl) (fun _ _ _ h => h) (.inl ⟨by rfl, by intro w hS; go_simp⟩) hH ?_
        (try simp only [jA, jB, jC, Act.put, jD, jE, jF])
        refine wpAnyH_ready (rs := [17]) (by kernel_rfl) (by simp) ?_
        refine AllReadyH.cons rfl (fun K hK => ?_) AllReadyH.nil
        rw [if_pos (by rfl)]
        refine wp_store_row 26 _ _ rfl gA T.v rfl rfl 26 z19 BAW56.out (by exact size_sta) rfl (v_one _) ?_
        refine hK.out _ _ (hH.setRow gA _ NA.out) (fun hH => ?_)
        clear hK K
        (try simp only [jA, jB, jC, Act.put, jD, jE, jF])
        have BAW57 : Hid ((W56.setRow gA T.v).heap[gA]? = some (.cells T.v 26 (0, 0))) := setRow_heap _ _ _ _ _ _ BAW56.out
        have BBW57 : Hid ((W56.setRow gA T.v).heap[gB]? = some (.cells #[.int .i64 0, .bool false, .bool false, .int .i64 0, .int .u32 0] 133 (0, 0))) := (setRow_other _ _ _ _ (Ne.symm nAB.out)).trans BBW56.out
        generalize W56.setRow gA T.v = W57 at hH BAW57 BBW57 ⊢
        refine wpAnyH_ready (rs := [18]) (by kernel_rfl) (by simp) ?_
        refine AllReadyH.cons rfl (fun K hK => ?_) AllReadyH.nil
        rw [if_pos (by rfl)]
        refine wp_store_row 133 _ _ rfl gB E.v rfl rfl 133 #[.int .i64 0, .bool false, .bool false, .int .i64 0, .int .u32 0] BBW57.out (by exact size_eff) rfl (eff_one _) ?_
        refine hK.out _ _ (hH.setRow gB _ NB.out) (fun hH => ?_)
        clear hK K
        (try simp only [jA, jB, jC, Act.put, jD, jE, jF])
        have BBW58 : Hid ((W57.setRow gB E.v).heap[gB]? = some (.cells E.v 133 (0, 0))) := setRow_heap _ _ _ _ _ _ BBW57.out
        have BAW58 : Hid ((W57.setRow gB E.v).heap[gA]? = some (.cells T.v 26 (0, 0))) := (setRow_other _ _ _ _ nAB.out).trans BAW57.out
        generalize W57.setRow gB E.v = W58 at hH BBW58 BAW58 ⊢
        refine wpAnyH_done (by kernel_rfl) ?_ _
        go_wp2_with fail
        go_meet
        exact ⟨gA, gB, rfl, rfl, hH, BAW58.out, BBW58.out⟩
    case rest =>
      rename World => w5
      obtain ⟨gA, gB, rfl, rfl, K5, A5, E5⟩ := hcut
      obtain ⟨l0, l2, l4⟩ := eff_cells E5.out
      have I5 := hidd (K5.out.block IW.out)
      have i0 : w5.cell? ⟨g3, 0, none⟩ = some (.int .u8 op) := cell_of_block I5.out
      have i1 : w5.cell? ⟨g3, 1, none⟩ = some (.int .u8 a) := cell_of_block I5.out
      have i2 : w5.cell? ⟨g3, 2, none⟩ = some (.int .u8 b) := cell_of_block I5.out
      have i3 : w5.cell? ⟨g3, 3, none⟩ = some (.int .i32 imm) := cell_of_block I5.out
      have KT := hidd (kep_trans KW.out K5.out)
      by_cases h0 : E.k = 0
      · have eS := hidd (q1.out h0)
        rw [h0] at l0
        generalize E.o = eo at l2 eS
        generalize E.x = ex at l4 eS
        clear q1 q2 q3 h0 HP LD HN HD
        go_upto_region 8 with fail
        refine wp_region_lit ?_
        refine wpList_load_row (by rfl) 26 _ (by rfl) gA (by rfl) 26 _ (0, 0) _ A5.out Tryz.underlying26 rfl (by exact size_sta) ?_
        refine Go.Great.wpList_readTo (by rfl) (some 41) (by rfl) (.pointer (some ⟨g3, 0, none⟩)) (by go_simp) ?_
        refine Go.Great.wpList_readTo (by rfl) (some 42) (by rfl) (.int .u8 op) (by go_simp) ?_
        refine Go.Great.wpList_readTo (by rfl) (some 43) (by rfl) (.bool (op == 100)) (by go_simp) ?_
        refine Go.Great.wpList_readTo (by rfl) (some 44) (by rfl) (.pointer (some ⟨gB, 2, none⟩)) (by go_simp) ?_
        refine Go.Great.wpList_readTo (by rfl) (some 45) (by rfl) (.bool eo) (by go_simp) ?_
        refine Go.Great.wpList_readTo (by rfl) (some 46) (by rfl) (.int .i64 b) (by go_simp) ?_
        refine Go.Great.wpList_readTo (by rfl) (some 47) (by rfl) (.pointer (some ⟨gB, 4, none⟩)) (by go_simp) ?_
        refine Go.Great.wpList_readTo (by rfl) (some 48) (by rfl) (.int .u32 ex) (by go_simp) ?_
        refine Go.Great.wpList_readTo (by rfl) (some 49) (by rfl) (.agg (sucV T (0, 0, 0, 0) 0 (op == 100) eo b ex)) (by kernel_rfl) ?_
        refine Go.Great.wpList_readTo (by rfl) (some 50) (by rfl) (.iface 140 (.agg (sucV T (0, 0, 0, 0) 0 (op == 100) eo b ex))) (by kernel_rfl) ?_
        dsimp only [Act.put]
        go_wp2_with fail
        go_ret
        refine ⟨?_, KT.out⟩
        rw [eS.out]; rfl
      · by_cases h1 : E.k = 1
        · have eS := hidd (q2.out h1)
          rw [h1] at l0
          clear q1 q2 q3 h0 h1 LD HN HD
          go_wp2_with (go_at_call 69; refine (HP.out _ KT.out).mono ?_; rintro e w6 ⟨rfl, k6⟩)
          go_ret
          refine ⟨?_, kep_trans KT.out k6⟩
          rw [eS.out]; rfl
        · have eS := hidd (q3.out h0 h1)
          have t0 : (E.k == 0) = false := by simp [h0]
          have t1 : (E.k == 1) = false := by simp [h1]
          generalize E.k = ek at l0 eS t0 t1
          clear q1 q2 q3 h0 h1 HP LD HN HD
          go_wp2_with fail
          go_ret
          refine ⟨?_, KT.out⟩
          rw [eS.out]; rfl
  · rw [try_fet hf]
    have eV : fetV B ix s = zeroI := by unfold fetV; rw [if_neg hf]
    rw [eV] at HF
    generalize fetF B ix s = f at hf HF
    obtain ⟨fk, fa⟩ := f
    have tf : (fk == 0) = false := by simp; exact hf
    clear bx M hB ok hT D dok hf eV
    go_enter Tryz.func56, Tryz.ntmps56
    go_wp2_with fail
    refine HF.out.mono ?_
    rintro e w1 ⟨rfl, k1⟩
    have K1 := hidd k1
    clear k1 HF
    go_wp2_with fail
    go_ret
    refine ⟨rfl, ?_⟩
    have := K1.out
    exact kepA
end Go.Proofs.YtnignfloedcmlaaGreatDoor
