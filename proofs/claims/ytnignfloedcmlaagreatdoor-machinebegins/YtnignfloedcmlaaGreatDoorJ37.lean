/- Part of a proof. -/
import Derived.Test.YtnignfloedcmlaaGreatDoorJ36
namespace Go.Proofs.YtnignfloedcmlaaGreatDoor
open Go.RowKit
set_option linter.unusedVariables false
set_option linter.unusedSimpArgs false
theorem rch_some {B : List Int} {ix : List Nat} {s : Sta} {q : Int × Int × Int × Int} {n : Nat} (h : rchF B ix s q = some n) : rchR B ix s q = ((n : Int), 0, 0) := by unfold rchR; rw [h]
theorem rch_none {B : List Int} {ix : List Nat} {s : Sta} {q : Int × Int × Int × Int} (h : rchF B ix s q = none) : rchR B ix s q = (0, if q.1 = 3 then 7 else 6, q.2.1) := by unfold rchR; rw [h]
theorem rch_le {B : List Int} {ix : List Nat} {s : Sta} {q : Int × Int × Int × Int} {n : Nat} (h : rchF B ix s q = some n) : n ≤ 64 * ix.length := by
  unfold rchF at h; split at h
  · cases h; omega
  · have := ledF_lt h; omega
theorem pln_want {B : List Int} {ix : List Nat} {s : Sta} {op : Int} {a b : Nat} {imm : Int} (h : (wantF s op a b imm).1 ≠ 0) : plnF B ix s op a b imm = .fail (wantF s op a b imm).1 (wantF s op a b imm).2 := by unfold plnF; rw [if_pos h]
theorem pln_none {B : List Int} {ix : List Nat} {s : Sta} {op : Int} {a b : Nat} {imm : Int} (h : ¬ (wantF s op a b imm).1 ≠ 0) (hr : rchF B ix s (wantA s op a b imm) = none) : plnF B ix s op a b imm = .fail (if (wantA s op a b imm).1 = 3 then 7 else 6) (wantA s op a b imm).2.1 := by unfold plnF; rw [if_neg h, hr]
theorem pln_do {B : List Int} {ix : List Nat} {s : Sta} {op : Int} {a b : Nat} {imm : Int} {n : Nat} (h : ¬ (wantF s op a b imm).1 ≠ 0) (hr : rchF B ix s (wantA s op a b imm) = some n) (hd : (doF s op a b imm).1 ≠ 0) : plnF B ix s op a b imm = .fail (doF s op a b imm).1 (doF s op a b imm).2 := by unfold plnF; rw [if_neg h, hr]; dsimp only; rw [if_pos hd]
theorem pln_ok {B : List Int} {ix : List Nat} {s : Sta} {op : Int} {a b : Nat} {imm : Int} {n : Nat} (h : ¬ (wantF s op a b imm).1 ≠ 0) (hr : rchF B ix s (wantA s op a b imm) = some n) (hd : ¬ (doF s op a b imm).1 ≠ 0) : plnF B ix s op a b imm = .ok (doS s op a b imm (rdV B ix n (wantA s op a b imm).2.2.1.toNat)) (wantA s op a b imm) n false false 0 0 := by unfold plnF; rw [if_neg h, hr]; dsimp only; rw [if_neg hd]
theorem doF_zero {s : Sta} {op : Int} {a b : Nat} {imm : Int} (h : (doF s op a b imm).1 = 0) : doF s op a b imm = (0, 0) := by
  unfold doF at h ⊢
  split at h
  · rename_i hi
    rw [if_pos hi]
    unfold workF at h ⊢
    split at h
    · rename_i h2
      rw [if_pos h2]
      split at h
      · rename_i h3; rw [if_pos h3]
      · cases h
    · rename_i h2
      rw [if_neg h2]
      split at h
      · rename_i h3
        rw [if_pos h3]
        exact wantF_zero h
      · rename_i h3
        rw [if_neg h3]
        split at h
        · cases h
        · rename_i h4; rw [if_neg h4]
  · cases h
set_option maxHeartbeats 16000000 in
set_option maxRecDepth 100000 in
theorem plain_any {w : World} {p pm R : Nat} {ix : List Nat} {B : List Int} {vd : Value} {s : Sta} {n : Int} {vn : Value} (bx : Bx w p (mpt pm) vd s n vn) (M : Mem w (mpt pm) R ix B) (hB : B ≠ []) (ok : s.Ok) (hT : Tabs w) (op : Int) (a b : Nat) (imm : Int) (h0 : 0 ≤ op) (h1 : op < 256) (h2 : -2147483648 ≤ imm) (h3 : imm ≤ 2147483647) :
    Calls Tryz.prog 69 #[.pointer (some ⟨p, 0, none⟩), .agg (insA op a b imm)] w fun e w' => e = .returned (endV (plnF B ix s op a b imm)) ∧ Kep w w' := by
  obtain ⟨hqa, ⟨m, hm4, hqm⟩, hqv, hq0⟩ := wantA_range ok op a b imm
  have HW : Hid (∀ w', Kep w w' → Calls Tryz.prog 84 #[.agg s.v, .agg (insA op a b imm)] w' fun e w'' => e = .returned (.tuple #[.agg (accV (wantA s op a b imm)), .agg (fltV (wantF s op a b imm))]) ∧ Kep w' w'') := fun w' k => want_any s op a b imm w' ok h0 h1 h2 h3 (hT.grown k)
  have HC : Hid (∀ w', Kep w w' → Calls Tryz.prog 85 #[.pointer (some ⟨p, 0, none⟩), .agg (accV (wantA s op a b imm))] w' fun e w'' => e = .returned (.tuple #[.int .u32 (rchR B ix s (wantA s op a b imm)).1, .agg (fltV (rchR B ix s (wantA s op a b imm)).2)]) ∧ Kep w' w'') := fun w' k => mreach_any (bx.kep k) (M.kep k) ok _ hqa
  have HE : Hid (∀ w' at_, Kep w w' → at_ ≤ 64 * ix.length → Calls Tryz.prog 87 #[.pointer (some ⟨p, 0, none⟩), .int .u32 (at_ : Nat), .int .i64 m] w' fun e w'' => e = .returned (.int .u32 (rdV B ix at_ m)) ∧ Kep w' w'') := fun w' at_ k hl => by
    refine (mread_any (bx.kep k) (M.kep k) at_ hl m hm4).mono ?_
    rintro e w'' ⟨rfl, rfl⟩
    exact ⟨rfl, Kep.refl _⟩
  have HO : Hid (∀ w' at_, Kep w w' → Calls Tryz.prog 86 #[.agg s.v, .agg (insA op a b imm), .int .u32 (rdV B ix at_ m)] w' fun e w'' => e = .returned (.tuple #[.agg (doS s op a b imm (rdV B ix at_ m)).v, .agg (fltV (doF s op a b imm))]) ∧ Kep w' w'') := fun w' at_ k => by
    have hr := rdV_range M.byts ix at_ m
    have hp : (2 : Int) ^ (8 * m) ≤ 4294967296 := by
      rcases (by omega : m = 0 ∨ m = 1 ∨ m = 2 ∨ m = 3 ∨ m = 4) with rfl | rfl | rfl | rfl | rfl <;> decide
    exact do_any s op a b imm _ w' ok h0 h1 h2 h3 ⟨hr.1, by omega⟩ (hT.grown k)
  have LP : Hid (∀ w', Kep w w' → Bx w' p (mpt pm) vd s n vn) := fun w' k => bx.kep k
  have lp := bx.lt
  obtain ⟨W, hW⟩ : ∃ W, Hid (w.alloc (.cells (insA op a b imm) 128) = W) := ⟨_, rfl⟩
  have KW : Hid (Kep w W) := by rw [Hid, ← hW.out]; exact (Kep.refl w).alloc _
  have IW : Hid (W.heap[w.heap.size]? = some (.cells (insA op a b imm) 128 (0, 0))) := by rw [Hid, ← hW.out]; exact hat _ _ _ rfl
  have zm : Hid ((wantA s op a b imm).2.2.1.toNat = m) := by show _ = _; rw [hqm]; omega
  have hqm' := hidd hqm
  clear bx M hB ok hT h0 h1 h2 h3 hqa hqv hqm hq0
  have cw : Hid ((wantF s op a b imm).1 = 0 → wantF s op a b imm = (0, 0)) := wantF_zero
  have cd : Hid ((doF s op a b imm).1 = 0 → doF s op a b imm = (0, 0)) := doF_zero
  have p1 : Hid ((wantF s op a b imm).1 ≠ 0 → plnF B ix s op a b imm = .fail (wantF s op a b imm).1 (wantF s op a b imm).2) := pln_want
  have p2 : Hid (¬ (wantF s op a b imm).1 ≠ 0 → rchF B ix s (wantA s op a b imm) = none → plnF B ix s op a b imm = .fail (if (wantA s op a b imm).1 = 3 then 7 else 6) (wantA s op a b imm).2.1) := pln_none
  have p3 : Hid (∀ n, ¬ (wantF s op a b imm).1 ≠ 0 → rchF B ix s (wantA s op a b imm) = some n → (doF s op a b imm).1 ≠ 0 → plnF B ix s op a b imm = .fail (doF s op a b imm).1 (doF s op a b imm).2) := fun n => pln_do
  have p4 : Hid (∀ n, ¬ (wantF s op a b imm).1 ≠ 0 → rchF B ix s (wantA s op a b imm) = some n → ¬ (doF s op a b imm).1 ≠ 0 → plnF B ix s op a b imm = .ok (doS s op a b imm (rdV B ix n m)) (wantA s op a b imm) n false false 0 0) := fun n x y z => by have := pln_ok x y z; rw [zm.out] at this; exact this
  generalize plnF B ix s op a b imm = PF at p1 p2 p3 p4 ⊢
  generalize hq : wantA s op a b imm = q at *
  generalize hf : wantF s op a b imm = f at *
  generalize hh : doF s op a b imm = h at *
  clear hq hf hh
  go_enter Tryz.func69, Tryz.ntmps69
  go_upto_region 1 with fail
  rw [hW.out]
  obtain ⟨i3, q3⟩ : ∃ i3, Hid (i3 = w.heap.size) := ⟨_, rfl⟩
  rw [← q3.out] at IW ⊢
  have LD : Hid (∀ w', Kep W w' → Bx w' p (mpt pm) vd s n vn ∧ w'.heap[i3]? = some (.cells (insA op a b imm) 128 (0, 0))) := fun w' k => ⟨LP.out w' (kep_trans KW.out k), k.block IW.out⟩
  go_cut [5, 6] from 9 to 17 (fun t5 t6 wx => ∃ g5 gB : Nat, t5 = .pointer (some ⟨g5, 0, none⟩) ∧ t6 = .pointer (some ⟨gB, 0, none⟩) ∧ Hid (Kep W wx) ∧ Hid (wx.heap[g5]? = some (.cells (accV q) 138 (0, 0))) ∧ Hid (wx.heap[gB]? = some (.cells (fltV f) 100 (0, 0))) ∧ g5 ≠ gB ∧ Hid (W.heap.size ≤ gB))
  case first =>
    refine wp_region_held_drew (S := fun w' => Kep W w') (by kernel_rfl) ((Kep.refl W).drew) (fun hH => ?_)
    generalize W.drew = Wd at hH  ⊢
    refine wpAnyH_take (i := 0) (v := .pointer (some ⟨p, 0, none⟩)) rfl (by kernel_rfl) (by kernel_rfl) (by kernel_rfl) (fun _ _ _ h => h) (.inl ⟨by rfl, by intro w hS; go_simp⟩) hH ?_
    (try simp only [jA, jB, jC, Act.put, jD, jE, jF])
    refine wpAnyH_take (i := 1) (v := .pointer (some ⟨p, 0, none⟩)) rfl (by kernel_rfl) (by kernel_rfl) (by kernel_rfl) (fun _ _ _ h => h) (.inl ⟨by rfl, by intro w hS; go_simp⟩) hH ?_
    (try simp only [jA, jB, jC, Act.put, jD, jE, jF])
    refine wpAnyH_take (i := 2) (v := .pointer (some ⟨p, 2, none⟩)) rfl (by kernel_rfl) (by kernel_rfl) (by kernel_rfl) (fun _ _ _ h => h) (.inl ⟨by rfl, by intro w hS; go_simp⟩) hH ?_
    (try simp only [jA, jB, jC, Act.put, jD, jE, jF])
    refine wpAnyH_take (i := 3) (v := .agg s.v) rfl (by kernel_rfl) (by kernel_rfl) (by kernel_rfl) (fun _ _ _ h => h) (yields_st (by kernel_rfl) _ (by rfl) p 2 (by rfl) s (fun w hS => (LD.out w hS).1.st)) hH ?_
    (try simp only [jA, jB, jC, Act.put, jD, jE, jF])
    refine wpAnyH_take (i := 4) (v := .agg (insA op a b imm)) rfl (by kernel_rfl) (by kernel_rfl) (by kernel_rfl) (fun _ _ _ h => h) (yields_row rfl 128 _ rfl i3 rfl 128 (insA op a b imm) (0, 0) _ (fun w hS => (LD.out w hS).2) Tryz.underlying128 rfl size_ins) hH ?_
    (try simp only [jA, jB, jC, Act.put, jD, jE, jF])
    refine wpAnyH_ready (rs := [5, 9, 10]) (by kernel_rfl) (by simp) ?_
    refine AllReadyH.cons rfl (fun K hK => ?_) ?_
    · skip
      rw [if_pos (by rfl)]
      go_simp
      refine (HW.out _ (kep_trans KW.out hH)).mono ?_
      rintro e W1 ⟨rfl, kW1⟩
      refine hK.out _ _ (kep_trans hH kW1) (fun hH => ?_)
      clear hK K
      (try simp only [jA, jB, jC, Act.put, jD, jE, jF])
      refine wpAnyH_take (i := 6) (v := .tuple #[.agg (accV q), .agg (fltV f)]) rfl (by kernel_rfl) (by kernel_rfl) (by kernel_rfl) (fun _ _ _ h => h) (.inl ⟨by rfl, by intro w hS; go_simp⟩) hH ?_
      (try simp only [jA, jB, jC, Act.put, jD, jE, jF])
      refine wpAnyH_take (i := 7) (v := .agg (accV q)) rfl (by kernel_rfl) (by kernel_rfl) (by kernel_rfl) (fun _ _ _ h => h) (.inl ⟨by rfl, by intro w hS; go_simp⟩) hH ?_
      (try simp only [jA, jB, jC, Act.put, jD, jE, jF])
      refine wpAnyH_take (i := 8) (v := .agg (fltV f)) rfl (by kernel_rfl) (by kernel_rfl) (by kernel_rfl) (fun _ _ _ h => h) (.inl ⟨by rfl, by intro w hS; go_simp⟩) hH ?_
      (try simp only [jA, jB, jC, Act.put, jD, jE, jF])
      refine wpAnyH_ready (rs := [9, 10]) (by kernel_rfl) (by simp) ?_
      refine AllReadyH.cons rfl (fun K hK => ?_) ?_
      · skip
        rw [if_pos (by rfl)]
        have zA : Hid (W.heap.size ≤ W1.heap.size) := hH.size
        go_simp
        refine hK.out _ _ (hH.alloc _) (fun hH => ?_)
        clear hK K
        (try simp only [jA, jB, jC, Act.put, jD, jE, jF])
        obtain ⟨gA, egA⟩ : ∃ g, Hid (g = W1.heap.size) := ⟨_, rfl⟩
        have NA : Hid (W.heap.size ≤ gA) := by rw [egA.out]; exact zA.out
        have BAW2 : Hid ((W1.alloc (.cells #[.int .i64 0, .int .u32 0, .int .i64 0, .int .u32 0] 138)).heap[gA]? = some (.cells #[.int .i64 0, .int .u32 0, .int .i64 0, .int .u32 0] 138 (0, 0))) := by rw [egA.out]; exact hat _ _ _ rfl
        rw [← egA.out]
        generalize W1.alloc (.cells #[.int .i64 0, .int .u32 0, .int .i64 0, .int .u32 0] 138) = W2 at hH BAW2 ⊢
        refine wpAnyH_ready (rs := [10]) (by kernel_rfl) (by simp) ?_
        refine AllReadyH.cons rfl (fun K hK => ?_) AllReadyH.nil
        rw [if_pos (by rfl)]
        have zB : Hid (W.heap.size ≤ W2.heap.size) := hH.size
        go_simp
        refine hK.out _ _ (hH.alloc _) (fun hH => ?_)
        clear hK K
        (try simp only [jA, jB, jC, Act.put, jD, jE, jF])
        obtain ⟨gB, egB⟩ : ∃ g, Hid (g = W2.heap.size) := ⟨_, rfl⟩
        have NB : Hid (W.heap.size ≤ gB) := by rw [egB.out]; exact zB.out
        have BBW3 : Hid ((W2.alloc (.cells #[.int .i64 0, .int .u32 0] 100)).heap[gB]? = some (.cells #[.int .i64 0, .int .u32 0] 100 (0, 0))) := by rw [egB.out]; exact hat _ _ _ rfl
        have BAW3 : Hid ((W2.alloc (.cells #[.int .i64 0, .int .u32 0] 100)).heap[gA]? = some (.cells #[.int .i64 0, .int .u32 0, .int .i64 0, .int .u32 0] 138 (0, 0))) := Kep.block ((Kep.refl W2).alloc _) BAW2.out
        have nAB : Hid (gA ≠ gB) := by have := block_lt BAW2.out; have := egB.out; show gA ≠ gB; omega
        rw [← egB.out]
        generalize W2.alloc (.cells #[.int .i64 0, .int .u32 0] 100) = W3 at hH BBW3 BAW3 ⊢
        refine wpAnyH_ready (rs := [11]) (by kernel_rfl) (by simp) ?_
        refine AllReadyH.cons rfl (fun K hK => ?_) AllReadyH.nil
        rw [if_pos (by rfl)]
        refine wp_store_row 138 _ _ rfl gA (accV q) rfl rfl 138 #[.int .i64 0, .int .u32 0, .int .i64 0, .int .u32 0] BAW3.out (by exact size_acc) rfl (acc_one _) ?_
        refine hK.out _ _ (hH.setRow gA _ NA.out) (fun hH => ?_)
        clear hK K
        (try simp only [jA, jB, jC, Act.put, jD, jE, jF])
        have BAW4 : Hid ((W3.setRow gA (accV q)).heap[gA]? = some (.cells (accV q) 138 (0, 0))) := setRow_heap _ _ _ _ _ _ BAW3.out
        have BBW4 : Hid ((W3.setRow gA (accV q)).heap[gB]? = some (.cells #[.int .i64 0, .int .u32 0] 100 (0, 0))) := (setRow_other _ _ _ _ (Ne.symm nAB.out)).trans BBW3.out
        generalize W3.setRow gA (accV q) = W4 at hH BAW4 BBW4 ⊢
        refine wpAnyH_ready (rs := [12]) (by kernel_rfl) (by simp) ?_
        refine AllReadyH.cons rfl (fun K hK => ?_) AllReadyH.nil
        rw [if_pos (by rfl)]
        refine wp_store_row 100 _ _ rfl gB (fltV f) rfl rfl 100 #[.int .i64 0, .int .u32 0] BBW4.out (by exact size_flt) rfl (flt_one _) ?_
        refine hK.out _ _ (hH.setRow gB _ NB.out) (fun hH => ?_)
        clear hK K
        (try simp only [jA, jB, jC, Act.put, jD, jE, jF])
        have BBW5 : Hid ((W4.setRow gB (fltV f)).heap[gB]? = some (.cells (fltV f) 100 (0, 0))) := setRow_heap _ _ _ _ _ _ BBW4.out
        have BAW5 : Hid ((W4.setRow gB (fltV f)).heap[gA]? = some (.cells (accV q) 138 (0, 0))) := (setRow_other _ _ _ _ nAB.out).trans BAW4.out
        generalize W4.setRow gB (fltV f) = W5 at hH BBW5 BAW5 ⊢
        refine wpAnyH_done (by kernel_rfl) ?_ _
        go_wp2_with fail
        go_meet
        exact ⟨gA, gB, rfl, rfl, hH, BAW5.out, BBW5.out, nAB.out, NB.out⟩
      refine AllReadyH.cons rfl (fun K hK => ?_) AllReadyH.nil
      rw [if_pos (by rfl)]
      have zB : Hid (W.heap.size ≤ W1.heap.size) := hH.size
      go_simp
      refine hK.out _ _ (hH.alloc _) (fun hH => ?_)
      clear hK K
      (try simp only [jA, jB, jC, Act.put, jD, jE, jF])
      obtain ⟨gB, egB⟩ : ∃ g, Hid (g = W1.heap.size) := ⟨_, rfl⟩
      have NB : Hid (W.heap.size ≤ gB) := by rw [egB.out]; exact zB.out
      have BBW6 : Hid ((W1.alloc (.cells #[.int .i64 0, .int .u32 0] 100)).heap[gB]? = some (.cells #[.int .i64 0, .int .u32 0] 100 (0, 0))) := by rw [egB.out]; exact hat _ _ _ rfl
      rw [← egB.out]
      generalize W1.alloc (.cells #[.int .i64 0, .int .u32 0] 100) = W6 at hH BBW6 ⊢
      refine wpAnyH_ready (rs := [9]) (by kernel_rfl) (by simp) ?_
      refine AllReadyH.cons rfl (fun K hK => ?_) AllReadyH.nil
      rw [if_pos (by rfl)]
      have zA : Hid (W.heap.size ≤ W6.heap.size) := hH.size
      go_simp
      refine hK.out _ _ (hH.alloc _) (fun hH => ?_)
      clear hK K
      (try simp only [jA, jB, jC, Act.put, jD, jE, jF])
      obtain ⟨gA, egA⟩ : ∃ g, Hid (g = W6.heap.size) := ⟨_, rfl⟩
      have NA : Hid (W.heap.size ≤ gA) := by rw [egA.out]; exact zA.out
      have BAW7 : Hid ((W6.alloc (.cells #[.int .i64 0, .int .u32 0, .int .i64 0, .int .u32 0] 138)).heap[gA]? = some (.cells #[.int .i64 0, .int .u32 0, .int .i64 0, .int .u32 0] 138 (0, 0))) := by rw [egA.out]; exact hat _ _ _ rfl
      have BBW7 : Hid ((W6.alloc (.cells #[.int .i64 0, .int .u32 0, .int .i64 0, .int .u32 0] 138)).heap[gB]? = some (.cells #[.int .i64 0, .int .u32 0] 100 (0, 0))) := Kep.block ((Kep.refl W6).alloc _) BBW6.out
      have nAB : Hid (gA ≠ gB) := by have := block_lt BBW6.out; have := egA.out; show gA ≠ gB; omega
      rw [← egA.out]
      generalize W6.alloc (.cells #[.int .i64 0, .int .u32 0, .int .i64 0, .int .u32 0] 138) = W7 at hH BAW7 BBW7 ⊢
      refine wpAnyH_ready (rs := [11]) (by kernel_rfl) (by simp) ?_
      refine AllReadyH.cons rfl (fun K hK => ?_) AllReadyH.nil
      rw [if_pos (by rfl)]
      refine wp_store_row 138 _ _ rfl gA (accV q) rfl rfl 138 #[.int .i64 0, .int .u32 0, .int .i64 0, .int .u32 0] BAW7.out (by exact size_acc) rfl (acc_one _) ?_
      refine hK.out _ _ (hH.setRow gA _ NA.out) (fun hH => ?_)
      clear hK K
      (try simp only [jA, jB, jC, Act.put, jD, jE, jF])
      have BAW8 : Hid ((W7.setRow gA (accV q)).heap[gA]? = some (.cells (accV q) 138 (0, 0))) := setRow_heap _ _ _ _ _ _ BAW7.out
      have BBW8 : Hid ((W7.setRow gA (accV q)).heap[gB]? = some (.cells #[.int .i64 0, .int .u32 0] 100 (0, 0))) := (setRow_other _ _ _ _ (Ne.symm nAB.out)).trans BBW7.out
      generalize W7.setRow gA (accV q) = W8 at hH BAW8 BBW8 ⊢
      refine wpAnyH_ready (rs := [12]) (by kernel_rfl) (by simp) ?_
      refine AllReadyH.cons rfl (fun K hK => ?_) AllReadyH.nil
      rw [if_pos (by rfl)]
      refine wp_store_row 100 _ _ rfl gB (fltV f) rfl rfl 100 #[.int .i64 0, .int .u32 0] BBW8.out (by exact size_flt) rfl (flt_one _) ?_
      refine hK.out _ _ (hH.setRow gB _ NB.out) (fun hH => ?_)
      clear hK K
      (try simp only [jA, jB, jC, Act.put, jD, jE, jF])
      have BBW9 : Hid ((W8.setRow gB (fltV f)).heap[gB]? = some (.cells (fltV f) 100 (0, 0))) := setRow_heap _ _ _ _ _ _ BBW8.out
      have BAW9 : Hid ((W8.setRow gB (fltV f)).heap[gA]? = some (.cells (accV q) 138 (0, 0))) := (setRow_other _ _ _ _ nAB.out).trans BAW8.out
      generalize W8.setRow gB (fltV f) = W9 at hH BBW9 BAW9 ⊢
      refine wpAnyH_done (by kernel_rfl) ?_ _
      go_wp2_with fail
      go_meet
      exact ⟨gA, gB, rfl, rfl, hH, BAW9.out, BBW9.out, nAB.out, NB.out⟩
    refine AllReadyH.cons rfl (fun K hK => ?_) ?_
    · skip
      rw [if_pos (by rfl)]
      have zA : Hid (W.heap.size ≤ Wd.heap.size) := hH.size
      go_simp
      refine hK.out _ _ (hH.alloc _) (fun hH => ?_)
      clear hK K
      (try simp only [jA, jB, jC, Act.put, jD, jE, jF])
      obtain ⟨gA, egA⟩ : ∃ g, Hid (g = Wd.heap.size) := ⟨_, rfl⟩
      have NA : Hid (W.heap.size ≤ gA) := by rw [egA.out]; exact zA.out
      have BAW10 : Hid ((Wd.alloc (.cells #[.int .i64 0, .int .u32 0, .int .i64 0, .int .u32 0] 138)).heap[gA]? = some (.cells #[.int .i64 0, .int .u32 0, .int .i64 0, .int .u32 0] 138 (0, 0))) := by rw [egA.out]; exact hat _ _ _ rfl
      rw [← egA.out]
      generalize Wd.alloc (.cells #[.int .i64 0, .int .u32 0, .int .i64 0, .int .u32 0] 138) = W10 at hH BAW10 ⊢
      refine wpAnyH_ready (rs := [5, 10]) (by kernel_rfl) (by simp) ?_
      refine AllReadyH.cons rfl (fun K hK => ?_) ?_
      · skip
        rw [if_pos (by rfl)]
        go_simp
        refine (HW.out _ (kep_trans KW.out hH)).mono ?_
        rintro e W11 ⟨rfl, kW11⟩
        refine hK.out _ _ (kep_trans hH kW11) (fun hH => ?_)
        clear hK K
        (try simp only [jA, jB, jC, Act.put, jD, jE, jF])
        have BAW11 : Hid (W11.heap[gA]? = some (.cells #[.int .i64 0, .int .u32 0, .int .i64 0, .int .u32 0] 138 (0, 0))) := Kep.block kW11 BAW10.out
        refine wpAnyH_take (i := 6) (v := .tuple #[.agg (accV q), .agg (fltV f)]) rfl (by kernel_rfl) (by kernel_rfl) (by kernel_rfl) (fun _ _ _ h => h) (.inl ⟨by rfl, by intro w hS; go_simp⟩) hH ?_
        (try simp only [jA, jB, jC, Act.put, jD, jE, jF])
        refine wpAnyH_take (i := 7) (v := .agg (accV q)) rfl (by kernel_rfl) (by kernel_rfl) (by kernel_rfl) (fun _ _ _ h => h) (.inl ⟨by rfl, by intro w hS; go_simp⟩) hH ?_
        (try simp only [jA, jB, jC, Act.put, jD, jE, jF])
        refine wpAnyH_take (i := 8) (v := .agg (fltV f)) rfl (by kernel_rfl) (by kernel_rfl) (by kernel_rfl) (fun _ _ _ h => h) (.inl ⟨by rfl, by intro w hS; go_simp⟩) hH ?_
        (try simp only [jA, jB, jC, Act.put, jD, jE, jF])
        refine wpAnyH_ready (rs := [10]) (by kernel_rfl) (by simp) ?_
        refine AllReadyH.cons rfl (fun K hK => ?_) AllReadyH.nil
        rw [if_pos (by rfl)]
        have zB : Hid (W.heap.size ≤ W11.heap.size) := hH.size
        go_simp
        refine hK.out _ _ (hH.alloc _) (fun hH => ?_)
        clear hK K
        (try simp only [jA, jB, jC, Act.put, jD, jE, jF])
        obtain ⟨gB, egB⟩ : ∃ g, Hid (g = W11.heap.size) := ⟨_, rfl⟩
        have NB : Hid (W.heap.size ≤ gB) := by rw [egB.out]; exact zB.out
        have BBW12 : Hid ((W11.alloc (.cells #[.int .i64 0, .int .u32 0] 100)).heap[gB]? = some (.cells #[.int .i64 0, .int .u32 0] 100 (0, 0))) := by rw [egB.out]; exact hat _ _ _ rfl
        have BAW12 : Hid ((W11.alloc (.cells #[.int .i64 0, .int .u32 0] 100)).heap[gA]? = some (.cells #[.int .i64 0, .int .u32 0, .int .i64 0, .int .u32 0] 138 (0, 0))) := Kep.block ((Kep.refl W11).alloc _) BAW11.out
        have nAB : Hid (gA ≠ gB) := by have := block_lt BAW11.out; have := egB.out; show gA ≠ gB; omega
        rw [← egB.out]
        generalize W11.alloc (.cells #[.int .i64 0, .int .u32 0] 100) = W12 at hH BBW12 BAW12 ⊢
        refine wpAnyH_ready (rs := [11]) (by kernel_rfl) (by simp) ?_
        refine AllReadyH.cons rfl (fun K hK => ?_) AllReadyH.nil
        rw [if_pos (by rfl)]
        refine wp_store_row 138 _ _ rfl gA (accV q) rfl rfl 138 #[.int .i64 0, .int .u32 0, .int .i64 0, .int .u32 0] BAW12.out (by exact size_acc) rfl (acc_one _) ?_
        refine hK.out _ _ (hH.setRow gA _ NA.out) (fun hH => ?_)
        clear hK K
        (try simp only [jA, jB, jC, Act.put, jD, jE, jF])
        have BAW13 : Hid ((W12.setRow gA (accV q)).heap[gA]? = some (.cells (accV q) 138 (0, 0))) := setRow_heap _ _ _ _ _ _ BAW12.out
        have BBW13 : Hid ((W12.setRow gA (accV q)).heap[gB]? = some (.cells #[.int .i64 0, .int .u32 0] 100 (0, 0))) := (setRow_other _ _ _ _ (Ne.symm nAB.out)).trans BBW12.out
        generalize W12.setRow gA (accV q) = W13 at hH BAW13 BBW13 ⊢
        refine wpAnyH_ready (rs := [12]) (by kernel_rfl) (by simp) ?_
        refine AllReadyH.cons rfl (fun K hK => ?_) AllReadyH.nil
        rw [if_pos (by rfl)]
        refine wp_store_row 100 _ _ rfl gB (fltV f) rfl rfl 100 #[.int .i64 0, .int .u32 0] BBW13.out (by exact size_flt) rfl (flt_one _) ?_
        refine hK.out _ _ (hH.setRow gB _ NB.out) (fun hH => ?_)
        clear hK K
        (try simp only [jA, jB, jC, Act.put, jD, jE, jF])
        have BBW14 : Hid ((W13.setRow gB (fltV f)).heap[gB]? = some (.cells (fltV f) 100 (0, 0))) := setRow_heap _ _ _ _ _ _ BBW13.out
        have BAW14 : Hid ((W13.setRow gB (fltV f)).heap[gA]? = some (.cells (accV q) 138 (0, 0))) := (setRow_other _ _ _ _ nAB.out).trans BAW13.out
        generalize W13.setRow gB (fltV f) = W14 at hH BBW14 BAW14 ⊢
        refine wpAnyH_done (by kernel_rfl) ?_ _
        go_wp2_with fail
        go_meet
        exact ⟨gA, gB, rfl, rfl, hH, BAW14.out, BBW14.out, nAB.out, NB.out⟩
      refine AllReadyH.cons rfl (fun K hK => ?_) AllReadyH.nil
      rw [if_pos (by rfl)]
      have zB : Hid (W.heap.size ≤ W10.heap.size) := hH.size
      go_simp
      refine hK.out _ _ (hH.alloc _) (fun hH => ?_)
      clear hK K
      (try simp only [jA, jB, jC, Act.put, jD, jE, jF])
      obtain ⟨gB, egB⟩ : ∃ g, Hid (g = W10.heap.size) := ⟨_, rfl⟩
      have NB : Hid (W.heap.size ≤ gB) := by rw [egB.out]; exact zB.out
      have BBW15 : Hid ((W10.alloc (.cells #[.int .i64 0, .int .u32 0] 100)).heap[gB]? = some (.cells #[.int .i64 0, .int .u32 0] 100 (0, 0))) := by rw [egB.out]; exact hat _ _ _ rfl
      have BAW15 : Hid ((W10.alloc (.cells #[.int .i64 0, .int .u32 0] 100)).heap[gA]? = some (.cells #[.int .i64 0, .int .u32 0, .int .i64 0, .int .u32 0] 138 (0, 0))) := Kep.block ((Kep.refl W10).alloc _) BAW10.out
      have nAB : Hid (gA ≠ gB) := by have := block_lt BAW10.out; have := egB.out; show gA ≠ gB; omega
      rw [← egB.out]
      generalize W10.alloc (.cells #[.int .i64 0, .int .u32 0] 100) = W15 at hH BBW15 BAW15 ⊢
      refine wpAnyH_ready (rs := [5]) (by kernel_rfl) (by simp) ?_
      refine AllReadyH.cons rfl (fun K hK => ?_) AllReadyH.nil
      rw [if_pos (by rfl)]
      go_simp
      refine (HW.out _ (kep_trans KW.out hH)).mono ?_
      rintro e W16 ⟨rfl, kW16⟩
      refine hK.out _ _ (kep_trans hH kW16) (fun hH => ?_)
      clear hK K
      (try simp only [jA, jB, jC, Act.put, jD, jE, jF])
      have BAW16 : Hid (W16.heap[gA]? = some (.cells #[.int .i64 0, .int .u32 0, .int .i64 0, .int .u32 0] 138 (0, 0))) := Kep.block kW16 BAW15.out
      have BBW16 : Hid (W16.heap[gB]? = some (.cells #[.int .i64 0, .int .u32 0] 100 (0, 0))) := Kep.block kW16 BBW15.out
      refine wpAnyH_take (i := 6) (v := .tuple #[.agg (accV q), .agg (fltV f)]) rfl (by kernel_rfl) (by kernel_rfl) (by kernel_rfl) (fun _ _ _ h => h) (.inl ⟨by rfl, by intro w hS; go_simp⟩) hH ?_
      (try simp only [jA, jB, jC, Act.put, jD, jE, jF])
      refine wpAnyH_take (i := 7) (v := .agg (accV q)) rfl (by kernel_rfl) (by kernel_rfl) (by kernel_rfl) (fun _ _ _ h => h) (.inl ⟨by rfl, by intro w hS; go_simp⟩) hH ?_
      (try simp only [jA, jB, jC, Act.put, jD, jE, jF])
      refine wpAnyH_take (i := 8) (v := .agg (fltV f)) rfl (by kernel_rfl) (by kernel_rfl) (by kernel_rfl) (fun _ _ _ h => h) (.inl ⟨by rfl, by intro w hS; go_simp⟩) hH ?_
      (try simp only [jA, jB, jC, Act.put, jD, jE, jF])
      refine wpAnyH_ready (rs := [11]) (by kernel_rfl) (by simp) ?_
      refine AllReadyH.cons rfl (fun K hK => ?_) AllReadyH.nil
      rw [if_pos (by rfl)]
      refine wp_store_row 138 _ _ rfl gA (accV q) rfl rfl 138 #[.int .i64 0, .int .u32 0, .int .i64 0, .int .u32 0] BAW16.out (by exact size_acc) rfl (acc_one _) ?_
      refine hK.out _ _ (hH.setRow gA _ NA.out) (fun hH => ?_)
      clear hK K
      (try simp only [jA, jB, jC, Act.put, jD, jE, jF])
      have BAW17 : Hid ((W16.setRow gA (accV q)).heap[gA]? = some (.cells (accV q) 138 (0, 0))) := setRow_heap _ _ _ _ _ _ BAW16.out
      have BBW17 : Hid ((W16.setRow gA (accV q)).heap[gB]? = some (.cells #[.int .i64 0, .int .u32 0] 100 (0, 0))) := (setRow_other _ _ _ _ (Ne.symm nAB.out)).trans BBW16.out
      generalize W16.setRow gA (accV q) = W17 at hH BAW17 BBW17 ⊢
      refine wpAnyH_ready (rs := [12]) (by kernel_rfl) (by simp) ?_
      refine AllReadyH.cons rfl (fun K hK => ?_) AllReadyH.nil
      rw [if_pos (by rfl)]
      refine wp_store_row 100 _ _ rfl gB (fltV f) rfl rfl 100 #[.int .i64 0, .int .u32 0] BBW17.out (by exact size_flt) rfl (flt_one _) ?_
      refine hK.out _ _ (hH.setRow gB _ NB.out) (fun hH => ?_)
      clear hK K
      (try simp only [jA, jB, jC, Act.put, jD, jE, jF])
      have BBW18 : Hid ((W17.setRow gB (fltV f)).heap[gB]? = some (.cells (fltV f) 100 (0, 0))) := setRow_heap _ _ _ _ _ _ BBW17.out
      have BAW18 : Hid ((W17.setRow gB (fltV f)).heap[gA]? = some (.cells (accV q) 138 (0, 0))) := (setRow_other _ _ _ _ nAB.out).trans BAW17.out
      generalize W17.setRow gB (fltV f) = W18 at hH BBW18 BAW18 ⊢
      refine wpAnyH_done (by kernel_rfl) ?_ _
      go_wp2_with fail
      go_meet
      exact ⟨gA, gB, rfl, rfl, hH, BAW18.out, BBW18.out, nAB.out, NB.out⟩
    refine AllReadyH.cons rfl (fun K hK => ?_) AllReadyH.nil
    rw [if_pos (by rfl)]
    have zB : Hid (W.heap.size ≤ Wd.heap.size) := hH.size
    go_simp
    refine hK.out _ _ (hH.alloc _) (fun hH => ?_)
    clear hK K
    (try simp only [jA, jB, jC, Act.put, jD, jE, jF])
    obtain ⟨gB, egB⟩ : ∃ g, Hid (g = Wd.heap.size) := ⟨_, rfl⟩
    have NB : Hid (W.heap.size ≤ gB) := by rw [egB.out]; exact zB.out
    have BBW19 : Hid ((Wd.alloc (.cells #[.int .i64 0, .int .u32 0] 100)).heap[gB]? = some (.cells #[.int .i64 0, .int .u32 0] 100 (0, 0))) := by rw [egB.out]; exact hat _ _ _ rfl
    rw [← egB.out]
    generalize Wd.alloc (.cells #[.int .i64 0, .int .u32 0] 100) = W19 at hH BBW19 ⊢
    refine wpAnyH_ready (rs := [5, 9]) (by kernel_rfl) (by simp) ?_
    refine AllReadyH.cons rfl (fun K hK => ?_) ?_
    · skip
      rw [if_pos (by rfl)]
      go_simp
      refine (HW.out _ (kep_trans KW.out hH)).mono ?_
      rintro e W20 ⟨rfl, kW20⟩
      refine hK.out _ _ (kep_trans hH kW20) (fun hH => ?_)
      clear hK K
      (try simp only [jA, jB, jC, Act.put, jD, jE, jF])
      have BBW20 : Hid (W20.heap[gB]? = some (.cells #[.int .i64 0, .int .u32 0] 100 (0, 0))) := Kep.block kW20 BBW19.out
      refine wpAnyH_take (i := 6) (v := .tuple #[.agg (accV q), .agg (fltV f)]) rfl (by kernel_rfl) (by kernel_rfl) (by kernel_rfl) (fun _ _ _ h => h) (.inl ⟨by rfl, by intro w hS; go_simp⟩) hH ?_
      (try simp only [jA, jB, jC, Act.put, jD, jE, jF])
      refine wpAnyH_take (i := 7) (v := .agg (accV q)) rfl (by kernel_rfl) (by kernel_rfl) (by kernel_rfl) (fun _ _ _ h => h) (.inl ⟨by rfl, by intro w hS; go_simp⟩) hH ?_
      (try simp only [jA, jB, jC, Act.put, jD, jE, jF])
      refine wpAnyH_take (i := 8) (v := .agg (fltV f)) rfl (by kernel_rfl) (by kernel_rfl) (by kernel_rfl) (fun _ _ _ h => h) (.inl ⟨by rfl, by intro w hS; go_simp⟩) hH ?_
      (try simp only [jA, jB, jC, Act.put, jD, jE, jF])
      refine wpAnyH_ready (rs := [9]) (by kernel_rfl) (by simp) ?_
      refine AllReadyH.cons rfl (fun K hK => ?_) AllReadyH.nil
      rw [if_pos (by rfl)]
      have zA : Hid (W.heap.size ≤ W20.heap.size) := hH.size
      go_simp
      refine hK.out _ _ (hH.alloc _) (fun hH => ?_)
      clear hK K
      (try simp only [jA, jB, jC, Act.put, jD, jE, jF])
      obtain ⟨gA, egA⟩ : ∃ g, Hid (g = W20.heap.size) := ⟨_, rfl⟩
      have NA : Hid (W.heap.size ≤ gA) := by rw [egA.out]; exact zA.out
      have BAW21 : Hid ((W20.alloc (.cells #[.int .i64 0, .int .u32 0, .int .i64 0, .int .u32 0] 138)).heap[gA]? = some (.cells #[.int .i64 0, .int .u32 0, .int .i64 0, .int .u32 0] 138 (0, 0))) := by rw [egA.out]; exact hat _ _ _ rfl
      have BBW21 : Hid ((W20.alloc (.cells #[.int .i64 0, .int .u32 0, .int .i64 0, .int .u32 0] 138)).heap[gB]? = some (.cells #[.int .i64 0, .int .u32 0] 100 (0, 0))) := Kep.block ((Kep.refl W20).alloc _) BBW20.out
      have nAB : Hid (gA ≠ gB) := by have := block_lt BBW20.out; have := egA.out; show gA ≠ gB; omega
      rw [← egA.out]
      generalize W20.alloc (.cells #[.int .i64 0, .int .u32 0, .int .i64 0, .int .u32 0] 138) = W21 at hH BAW21 BBW21 ⊢
      refine wpAnyH_ready (rs := [11]) (by kernel_rfl) (by simp) ?_
      refine AllReadyH.cons rfl (fun K hK => ?_) AllReadyH.nil
      rw [if_pos (by rfl)]
      refine wp_store_row 138 _ _ rfl gA (accV q) rfl rfl 138 #[.int .i64 0, .int .u32 0, .int .i64 0, .int .u32 0] BAW21.out (by exact size_acc) rfl (acc_one _) ?_
      refine hK.out _ _ (hH.setRow gA _ NA.out) (fun hH => ?_)
      clear hK K
      (try simp only [jA, jB, jC, Act.put, jD, jE, jF])
      have BAW22 : Hid ((W21.setRow gA (accV q)).heap[gA]? = some (.cells (accV q) 138 (0, 0))) := setRow_heap _ _ _ _ _ _ BAW21.out
      have BBW22 : Hid ((W21.setRow gA (accV q)).heap[gB]? = some (.cells #[.int .i64 0, .int .u32 0] 100 (0, 0))) := (setRow_other _ _ _ _ (Ne.symm nAB.out)).trans BBW21.out
      generalize W21.setRow gA (accV q) = W22 at hH BAW22 BBW22 ⊢
      refine wpAnyH_ready (rs := [12]) (by kernel_rfl) (by simp) ?_
      refine AllReadyH.cons rfl (fun K hK => ?_) AllReadyH.nil
      rw [if_pos (by rfl)]
      refine wp_store_row 100 _ _ rfl gB (fltV f) rfl rfl 100 #[.int .i64 0, .int .u32 0] BBW22.out (by exact size_flt) rfl (flt_one _) ?_
      refine hK.out _ _ (hH.setRow gB _ NB.out) (fun hH => ?_)
      clear hK K
      (try simp only [jA, jB, jC, Act.put, jD, jE, jF])
      have BBW23 : Hid ((W22.setRow gB (fltV f)).heap[gB]? = some (.cells (fltV f) 100 (0, 0))) := setRow_heap _ _ _ _ _ _ BBW22.out
      have BAW23 : Hid ((W22.setRow gB (fltV f)).heap[gA]? = some (.cells (accV q) 138 (0, 0))) := (setRow_other _ _ _ _ nAB.out).trans BAW22.out
      generalize W22.setRow gB (fltV f) = W23 at hH BBW23 BAW23 ⊢
      refine wpAnyH_done (by kernel_rfl) ?_ _
      go_wp2_with fail
      go_meet
      exact ⟨gA, gB, rfl, rfl, hH, BAW23.out, BBW23.out, nAB.out, NB.out⟩
    refine AllReadyH.cons rfl (fun K hK => ?_) AllReadyH.nil
    rw [if_pos (by rfl)]
    have zA : Hid (W.heap.size ≤ W19.heap.size) := hH.size
    go_simp
    refine hK.out _ _ (hH.alloc _) (fun hH => ?_)
    clear hK K
    (try simp only [jA, jB, jC, Act.put, jD, jE, jF])
    obtain ⟨gA, egA⟩ : ∃ g, Hid (g = W19.heap.size) := ⟨_, rfl⟩
    have NA : Hid (W.heap.size ≤ gA) := by rw [egA.out]; exact zA.out
    have BAW24 : Hid ((W19.alloc (.cells #[.int .i64 0, .int .u32 0, .int .i64 0, .int .u32 0] 138)).heap[gA]? = some (.cells #[.int .i64 0, .int .u32 0, .int .i64 0, .int .u32 0] 138 (0, 0))) := by rw [egA.out]; exact hat _ _ _ rfl
    have BBW24 : Hid ((W19.alloc (.cells #[.int .i64 0, .int .u32 0, .int .i64 0, .int .u32 0] 138)).heap[gB]? = some (.cells #[.int .i64 0, .int .u32 0] 100 (0, 0))) := Kep.block ((Kep.refl W19).alloc _) BBW19.out
    have nAB : Hid (gA ≠ gB) := by have := block_lt BBW19.out; have := egA.out; show gA ≠ gB; omega
    rw [← egA.out]
    generalize W19.alloc (.cells #[.int .i64 0, .int .u32 0, .int .i64 0, .int .u32 0] 138) = W24 at hH BAW24 BBW24 ⊢
    refine wpAnyH_ready (rs := [5]) (by kernel_rfl) (by simp) ?_
    refine AllReadyH.cons rfl (fun K hK => ?_) AllReadyH.nil
    rw [if_pos (by rfl)]
    go_simp
    refine (HW.out _ (kep_trans KW.out hH)).mono ?_
    rintro e W25 ⟨rfl, kW25⟩
    refine hK.out _ _ (kep_trans hH kW25) (fun hH => ?_)
    clear hK K
    (try simp only [jA, jB, jC, Act.put, jD, jE, jF])
    have BBW25 : Hid (W25.heap[gB]? = some (.cells #[.int .i64 0, .int .u32 0] 100 (0, 0))) := Kep.block kW25 BBW24.out
    have BAW25 : Hid (W25.heap[gA]? = some (.cells #[.int .i64 0, .int .u32 0, .int .i64 0, .int .u32 0] 138 (0, 0))) := Kep.block kW25 BAW24.out
    refine wpAnyH_take (i := 6) (v := .tuple #[.agg (accV q), .agg (fltV f)]) rfl (by kernel_rfl) (by kernel_rfl) (by kernel_rfl) (fun _ _ _ h => h) (.inl ⟨by rfl, by intro w hS; go_simp⟩) hH ?_
    (try simp only [jA, jB, jC, Act.put, jD, jE, jF])
    refine wpAnyH_take (i := 7) (v := .agg (accV q)) rfl (by kernel_rfl) (by kernel_rfl) (by kernel_rfl) (fun _ _ _ h => h) (.inl ⟨by rfl, by intro w hS; go_simp⟩) hH ?_
    (try simp only [jA, jB, jC, Act.put, jD, jE, jF])
    refine wpAnyH_take (i := 8) (v := .agg (fltV f)) rfl (by kernel_rfl) (by kernel_rfl) (by kernel_rfl) (fun _ _ _ h => h) (.inl ⟨by rfl, by intro w hS; go_simp⟩) hH ?_
    (try simp only [jA, jB, jC, Act.put, jD, jE, jF])
    refine wpAnyH_ready (rs := [11]) (by kernel_rfl) (by simp) ?_
    refine AllReadyH.cons rfl (fun K hK => ?_) AllReadyH.nil
    rw [if_pos (by rfl)]
    refine wp_store_row 138 _ _ rfl gA (accV q) rfl rfl 138 #[.int .i64 0, .int .u32 0, .int .i64 0, .int .u32 0] BAW25.out (by exact size_acc) rfl (acc_one _) ?_
    refine hK.out _ _ (hH.setRow gA _ NA.out) (fun hH => ?_)
    clear hK K
    (try simp only [jA, jB, jC, Act.put, jD, jE, jF])
    have BAW26 : Hid ((W25.setRow gA (accV q)).heap[gA]? = some (.cells (accV q) 138 (0, 0))) := setRow_heap _ _ _ _ _ _ BAW25.out
    have BBW26 : Hid ((W25.setRow gA (accV q)).heap[gB]? = some (.cells #[.int .i64 0, .int .u32 0] 100 (0, 0))) := (setRow_other _ _ _ _ (Ne.symm nAB.out)).trans BBW25.out
    generalize W25.setRow gA (accV q) = W26 at hH BAW26 BBW26 ⊢
    refine wpAnyH_ready (rs := [12]) (by kernel_rfl) (by simp) ?_
    refine AllReadyH.cons rfl (fun K hK => ?_) AllReadyH.nil
    rw [if_pos (by rfl)]
    refine wp_store_row 100 _ _ rfl gB (fltV f) rfl rfl 100 #[.int .i64 0, .int .u32 0] BBW26.out (by exact size_flt) rfl (flt_one _) ?_
    refine hK.out _ _ (hH.setRow gB _ NB.out) (fun hH => ?_)
    clear hK K
    (try simp only [jA, jB, jC, Act.put, jD, jE, jF])
    have BBW27 : Hid ((W26.setRow gB (fltV f)).heap[gB]? = some (.cells (fltV f) 100 (0, 0))) := setRow_heap _ _ _ _ _ _ BBW26.out
    have BAW27 : Hid ((W26.setRow gB (fltV f)).heap[gA]? = some (.cells (accV q) 138 (0, 0))) := (setRow_other _ _ _ _ nAB.out).trans BAW26.out
    generalize W26.setRow gB (fltV f) = W27 at hH BBW27 BAW27 ⊢
    refine wpAnyH_done (by kernel_rfl) ?_ _
    go_wp2_with fail
    go_meet
    exact ⟨gA, gB, rfl, rfl, hH, BAW27.out, BBW27.out, nAB.out, NB.out⟩
  case rest =>
    rename World => w1
    obtain ⟨g5, gB, rfl, rfl, K1, A1, F1, n56, NB⟩ := hcut
    obtain ⟨kd, ad, zz, vl⟩ := q
    obtain ⟨fk, fa⟩ := f
    obtain rfl : zz = (m : Int) := hqm'.out
    have z0 : w1.cell? ⟨gB, 0, none⟩ = some (.int .i64 fk) := cell_of_block F1.out
    have z1 : w1.cell? ⟨gB, 1, none⟩ = some (.int .u32 fa) := cell_of_block F1.out
    have a0 : w1.cell? ⟨g5, 0, none⟩ = some (.int .i64 kd) := cell_of_block A1.out
    have a1 : w1.cell? ⟨g5, 1, none⟩ = some (.int .u32 ad) := cell_of_block A1.out
    have a2 : w1.cell? ⟨g5, 2, none⟩ = some (.int .i64 m) := cell_of_block A1.out
    have a3 : w1.cell? ⟨g5, 3, none⟩ = some (.int .u32 vl) := cell_of_block A1.out
    by_cases hf0 : fk = 0
    · subst hf0
      obtain rfl : fa = 0 := by have := cw.out rfl; simpa using this
      have hne : Hid (¬ ((0 : Int), (0 : Int)).1 ≠ 0) := fun h => h rfl
      cases hr : rchF B ix s (kd, ad, (m : Int), vl) with
      | none =>
        have e2 := hidd (p2.out hne.out hr)
        have HC' : Hid (∀ w', Kep w w' → Calls Tryz.prog 85 #[.pointer (some ⟨p, 0, none⟩), .agg #[.int .i64 kd, .int .u32 ad, .int .i64 m, .int .u32 vl]] w' fun e w'' => e = .returned (.tuple #[.int .u32 0, .agg #[.int .i64 (if kd = 3 then 7 else 6), .int .u32 ad]]) ∧ Kep w' w'') := fun w' k => by
          have := HC.out w' k
          rw [rch_none hr] at this; exact this
        have tk : ((if kd = 3 then (7 : Int) else 6) == 0) = false := by split <;> decide
        generalize hkk : (if kd = 3 then (7 : Int) else 6) = kk at *
        clear hkk hr HC HE HO p1 p2 p3 p4 HW cd cw
        go_wp2_with fail
        refine (HC'.out _ (kep_trans KW.out K1.out)).mono ?_
        rintro e w2 ⟨rfl, k2⟩
        have F2 := hidd (k2.block F1.out)
        have K2 := hidd (kep_trans (kep_trans KW.out K1.out) k2)
        have y0 : w2.cell? ⟨gB, 0, none⟩ = some (.int .i64 0) := cell_of_block F2.out
        have y1 : w2.cell? ⟨gB, 1, none⟩ = some (.int .u32 0) := cell_of_block F2.out
        have yf := fun j => row_frozen F2.out j
        have nB : w.heap.size ≤ gB := by have := NB.out; have := KW.out.size; omega
        clear k2 z0 z1 a0 a1 a2 a3
        go_wp2_with fail
        go_ret
        refine ⟨?_, (K2.out.setCell nB _).setCell nB _⟩
        rw [e2.out]; rfl
      | some at_ =>
        have e3 := hidd (p3.out at_ hne.out hr)
        have e4 := hidd (p4.out at_ hne.out hr)
        have HC' : Hid (∀ w', Kep w w' → Calls Tryz.prog 85 #[.pointer (some ⟨p, 0, none⟩), .agg #[.int .i64 kd, .int .u32 ad, .int .i64 m, .int .u32 vl]] w' fun e w'' => e = .returned (.tuple #[.int .u32 at_, .agg #[.int .i64 0, .int .u32 0]]) ∧ Kep w' w'') := fun w' k => by
          have := HC.out w' k
          rw [rch_some hr] at this; exact this
        have hat_ := hidd (rch_le hr)
        have HE' := hidd (fun w' k => HE.out w' at_ k hat_.out)
        have HO' := hidd (fun w' k => HO.out w' at_ k)
        obtain ⟨rv, hrv⟩ : ∃ rv, Hid (rdV B ix at_ m = rv) := ⟨_, rfl⟩
        rw [hrv.out] at HE' HO' e4
        obtain ⟨T, hTe⟩ : ∃ T, Hid (doS s op a b imm rv = T) := ⟨_, rfl⟩
        rw [hTe.out] at HO' e4
        obtain ⟨ai, hai⟩ : ∃ ai, Hid ((at_ : Int) = ai) := ⟨_, rfl⟩
        rw [hai.out] at HC' HE'
        clear hr HC HE HO p1 p2 p3 p4 HW cw hat_
        go_wp2_with fail
        refine (HC'.out _ (kep_trans KW.out K1.out)).mono ?_
        rintro e w2 ⟨rfl, k2⟩
        have F2 := hidd (k2.block F1.out)
        have A2 := hidd (k2.block A1.out)
        have K2 := hidd (kep_trans K1.out k2)
        have y0 : w2.cell? ⟨gB, 0, none⟩ = some (.int .i64 0) := cell_of_block F2.out
        have y1 : w2.cell? ⟨gB, 1, none⟩ = some (.int .u32 0) := cell_of_block F2.out
        have yf := fun j => row_frozen F2.out j
        clear k2 z0 z1 a0 a1 a2 a3
        go_upto_region 7 with fail
        obtain ⟨V, hV⟩ : ∃ V, Hid ((w2.setCell ⟨gB, 0, none⟩ (.int .i64 0)).setCell ⟨gB, 1, none⟩ (.int .u32 0) = V) := ⟨_, rfl⟩
        rw [hV.out]
        have BV : Hid (V.heap[gB]? = some (.cells (fltV (0, 0)) 100 (0, 0))) := by rw [Hid, ← hV.out]; exact (heap_setCell_row (heap_setCell_row F2.out _) _).trans rfl
        have AV : Hid (V.heap[g5]? = some (.cells (accV (kd, ad, (m : Int), vl)) 138 (0, 0))) := by rw [Hid, ← hV.out]; exact (heap_setCell_other _ _ _ _ n56).trans ((heap_setCell_other _ _ _ _ n56).trans A2.out)
        have KV : Hid (Kep W V) := by rw [Hid, ← hV.out]; exact (K2.out.setCell NB.out _).setCell NB.out _
        clear y0 y1 yf hV F2 A2 K2
        have PK : Hid (∀ w', Put [gB] V w' → Kep W w') := fun w' k => KV.out.put k (by intro c hc; obtain rfl : c = gB := by simpa using hc
                                                                                       exact NB.out)
        have LDW := LD
        clear LD
        have LD : Hid (∀ w', Put [gB] V w' → Bx w' p (mpt pm) vd s n vn ∧ w'.heap[i3]? = some (.cells (insA op a b imm) 128 (0, 0))) := fun w' k => LDW.out w' (PK.out w' k)
        have LG : Hid (∀ w', Put [gB] V w' → w'.cell? ⟨g5, 2, none⟩ = some (.int .i64 m)) := fun w' k => cell_of_block (k.keeps AV.out (by simpa using n56))
        have HR : Hid (∀ w', Put [gB] V w' → Calls Tryz.prog 87 #[.pointer (some ⟨p, 0, none⟩), .int .u32 ai, .int .i64 m] w' fun e w'' => e = .returned (.int .u32 rv) ∧ Kep w' w'') := fun w' k => HE'.out w' (kep_trans KW.out (PK.out w' k))
        have HD : Hid (∀ w', Put [gB] V w' → Calls Tryz.prog 86 #[.agg s.v, .agg (insA op a b imm), .int .u32 rv] w' fun e w'' => e = .returned (.tuple #[.agg T.v, .agg (fltV h)]) ∧ Kep w' w'') := fun w' k => HO'.out w' (kep_trans KW.out (PK.out w' k))
        clear HE' HO' HC' LDW
        go_cut [8] from 34 to 47 (fun t8 wx => ∃ gC : Nat, t8 = .pointer (some ⟨gC, 0, none⟩) ∧ Hid (Put [gB] V wx) ∧ Hid (wx.heap[gC]? = some (.cells T.v 26 (0, 0))) ∧ Hid (wx.heap[gB]? = some (.cells (fltV h) 100 (0, 0))))
        case first =>
          refine wp_region_held_drew (S := fun w' => Put [gB] V w') (by kernel_rfl) ((Put.refl V).drew) (fun hH => ?_)
          have BBd := hidd (show V.drew.heap[gB]? = some (.cells (fltV (0, 0)) 100 (0, 0)) from BV.out)
          generalize V.drew = Vd at hH BBd ⊢
          refine wpAnyH_take (i := 0) (v := .pointer (some ⟨p, 0, none⟩)) rfl (by kernel_rfl) (by kernel_rfl) (by kernel_rfl) (fun _ _ _ h => h) (.inl ⟨by rfl, by intro w hS; go_simp⟩) hH ?_
          (try simp only [jA, jB, jC, Act.put, jD, jE, jF])
          refine wpAnyH_take (i := 1) (v := .pointer (some ⟨p, 0, none⟩)) rfl (by kernel_rfl) (by kernel_rfl) (by kernel_rfl) (fun _ _ _ h => h) (.inl ⟨by rfl, by intro w hS; go_simp⟩) hH ?_
          (try simp only [jA, jB, jC, Act.put, jD, jE, jF])
          refine wpAnyH_take (i := 2) (v := .pointer (some ⟨p, 2, none⟩)) rfl (by kernel_rfl) (by kernel_rfl) (by kernel_rfl) (fun _ _ _ h => h) (.inl ⟨by rfl, by intro w hS; go_simp⟩) hH ?_
          (try simp only [jA, jB, jC, Act.put, jD, jE, jF])
          refine wpAnyH_take (i := 3) (v := .agg s.v) rfl (by kernel_rfl) (by kernel_rfl) (by kernel_rfl) (fun _ _ _ h => h) (yields_st (by kernel_rfl) _ (by rfl) p 2 (by rfl) s (fun w hS => (LD.out w hS).1.st)) hH ?_
          (try simp only [jA, jB, jC, Act.put, jD, jE, jF])
          refine wpAnyH_take (i := 4) (v := .agg (insA op a b imm)) rfl (by kernel_rfl) (by kernel_rfl) (by kernel_rfl) (fun _ _ _ h => h) (yields_row rfl 128 _ rfl i3 rfl 128 (insA op a b imm) (0, 0) _ (fun w hS => (LD.out w hS).2) Tryz.underlying128 rfl size_ins) hH ?_
          (try simp only [jA, jB, jC, Act.put, jD, jE, jF])
          refine wpAnyH_take (i := 5) (v := .pointer (some ⟨p, 0, none⟩)) rfl (by kernel_rfl) (by kernel_rfl) (by kernel_rfl) (fun _ _ _ h => h) (.inl ⟨by rfl, by intro w hS; go_simp⟩) hH ?_
          (try simp only [jA, jB, jC, Act.put, jD, jE, jF])
          refine wpAnyH_take (i := 6) (v := .int .u32 ai) rfl (by kernel_rfl) (by kernel_rfl) (by kernel_rfl) (fun _ _ _ h => h) (.inl ⟨by rfl, by intro w hS; go_simp⟩) hH ?_
          (try simp only [jA, jB, jC, Act.put, jD, jE, jF])
          refine wpAnyH_take (i := 7) (v := .pointer (some ⟨g5, 2, none⟩)) rfl (by kernel_rfl) (by kernel_rfl) (by kernel_rfl) (fun _ _ _ h => h) (.inl ⟨by rfl, by intro w hS; go_simp⟩) hH ?_
          (try simp only [jA, jB, jC, Act.put, jD, jE, jF])
          refine wpAnyH_take (i := 8) (v := .int .i64 m) rfl (by kernel_rfl) (by kernel_rfl) (by kernel_rfl) (fun _ _ _ h => h) (.inl ⟨by rfl, by intro w hS; have l2 := (LG.out w hS); go_simp⟩) hH ?_
          (try simp only [jA, jB, jC, Act.put, jD, jE, jF])
          refine wpAnyH_ready (rs := [9, 14]) (by kernel_rfl) (by simp) ?_
          refine AllReadyH.cons rfl (fun K hK => ?_) ?_
          · skip
            rw [if_pos (by rfl)]
            go_simp
            refine (HR.out _ hH).mono ?_
            rintro e V1 ⟨rfl, kV1⟩
            refine hK.out _ _ (hH.trans (Put.of_kep kV1)) (fun hH => ?_)
            clear hK K
            (try simp only [jA, jB, jC, Act.put, jD, jE, jF])
            have BBV1 : Hid (V1.heap[gB]? = some (.cells (fltV (0, 0)) 100 (0, 0))) := Kep.block kV1 BBd.out
            refine wpAnyH_ready (rs := [10, 14]) (by kernel_rfl) (by simp) ?_
            refine AllReadyH.cons rfl (fun K hK => ?_) ?_
            · skip
              rw [if_pos (by rfl)]
              go_simp
              refine (HD.out _ hH).mono ?_
              rintro e V2 ⟨rfl, kV2⟩
              refine hK.out _ _ (hH.trans (Put.of_kep kV2)) (fun hH => ?_)
              clear hK K
              (try simp only [jA, jB, jC, Act.put, jD, jE, jF])
              have BBV2 : Hid (V2.heap[gB]? = some (.cells (fltV (0, 0)) 100 (0, 0))) := Kep.block kV2 BBV1.out
              refine wpAnyH_take (i := 11) (v := .tuple #[.agg T.v, .agg (fltV h)]) rfl (by kernel_rfl) (by kernel_rfl) (by kernel_rfl) (fun _ _ _ h => h) (.inl ⟨by rfl, by intro w hS; go_simp⟩) hH ?_
              (try simp only [jA, jB, jC, Act.put, jD, jE, jF])
              refine wpAnyH_take (i := 12) (v := .agg T.v) rfl (by kernel_rfl) (by kernel_rfl) (by kernel_rfl) (fun _ _ _ h => h) (.inl ⟨by rfl, by intro w hS; go_simp⟩) hH ?_
              (try simp only [jA, jB, jC, Act.put, jD, jE, jF])
              refine wpAnyH_take (i := 13) (v := .agg (fltV h)) rfl (by kernel_rfl) (by kernel_rfl) (by kernel_rfl) (fun _ _ _ h => h) (.inl ⟨by rfl, by intro w hS; go_simp⟩) hH ?_
              (try simp only [jA, jB, jC, Act.put, jD, jE, jF])
              refine wpAnyH_ready (rs := [14]) (by kernel_rfl) (by simp) ?_
              refine AllReadyH.cons rfl (fun K hK => ?_) AllReadyH.nil
              rw [if_pos (by rfl)]
              have zC : Hid (V.heap.size ≤ V2.heap.size) := hH.size
              go_simp
              refine hK.out _ _ (hH.alloc _) (fun hH => ?_)
              clear hK K
              (try simp only [jA, jB, jC, Act.put, jD, jE, jF])
              obtain ⟨gC, egC⟩ : ∃ g, Hid (g = V2.heap.size) := ⟨_, rfl⟩
              have NC : Hid (V.heap.size ≤ gC) := by rw [egC.out]; exact zC.out
              have BCV3 : Hid ((V2.alloc (.cells z19 26)).heap[gC]? = some (.cells z19 26 (0, 0))) := by rw [egC.out]; exact hat _ _ _ rfl
              have BBV3 : Hid ((V2.alloc (.cells z19 26)).heap[gB]? = some (.cells (fltV (0, 0)) 100 (0, 0))) := Kep.block ((Kep.refl V2).alloc _) BBV2.out
              have nBC : Hid (gB ≠ gC) := by have := block_lt BBV2.out; have := egC.out; show gB ≠ gC; omega
              rw [← egC.out]
              generalize V2.alloc (.cells z19 26) = V3 at hH BCV3 BBV3 ⊢
              refine wpAnyH_ready (rs := [15]) (by kernel_rfl) (by simp) ?_
              refine AllReadyH.cons rfl (fun K hK => ?_) AllReadyH.nil
              rw [if_pos (by rfl)]
              refine wp_store_row 26 _ _ rfl gC T.v rfl rfl 26 z19 BCV3.out (by exact size_sta) rfl (v_one _) ?_
              refine hK.out _ _ (hH.setRowNew NC.out _) (fun hH => ?_)
              clear hK K
              (try simp only [jA, jB, jC, Act.put, jD, jE, jF])
              have BCV4 : Hid ((V3.setRow gC T.v).heap[gC]? = some (.cells T.v 26 (0, 0))) := setRow_heap _ _ _ _ _ _ BCV3.out
              have BBV4 : Hid ((V3.setRow gC T.v).heap[gB]? = some (.cells (fltV (0, 0)) 100 (0, 0))) := (setRow_other _ _ _ _ nBC.out).trans BBV3.out
              generalize V3.setRow gC T.v = V4 at hH BCV4 BBV4 ⊢
              refine wpAnyH_ready (rs := [16]) (by kernel_rfl) (by simp) ?_
              refine AllReadyH.cons rfl (fun K hK => ?_) AllReadyH.nil
              rw [if_pos (by rfl)]
              refine wp_store_row 100 _ _ rfl gB (fltV h) rfl rfl 100 (fltV (0, 0)) BBV4.out (by exact size_flt) rfl (flt_one _) ?_
              refine hK.out _ _ (hH.setRow (by simp) _) (fun hH => ?_)
              clear hK K
              (try simp only [jA, jB, jC, Act.put, jD, jE, jF])
              have BBV5 : Hid ((V4.setRow gB (fltV h)).heap[gB]? = some (.cells (fltV h) 100 (0, 0))) := setRow_heap _ _ _ _ _ _ BBV4.out
              have BCV5 : Hid ((V4.setRow gB (fltV h)).heap[gC]? = some (.cells T.v 26 (0, 0))) := (setRow_other _ _ _ _ (Ne.symm nBC.out)).trans BCV4.out
              generalize V4.setRow gB (fltV h) = V5 at hH BBV5 BCV5 ⊢
              refine wpAnyH_done (by kernel_rfl) ?_ _
              go_wp2_with fail
              go_meet
              exact ⟨gC, rfl, hH, BCV5.out, BBV5.out⟩
            refine AllReadyH.cons rfl (fun K hK => ?_) AllReadyH.nil
            rw [if_pos (by rfl)]
            have zC : Hid (V.heap.size ≤ V1.heap.size) := hH.size
            go_simp
            refine hK.out _ _ (hH.alloc _) (fun hH => ?_)
            clear hK K
            (try simp only [jA, jB, jC, Act.put, jD, jE, jF])
            obtain ⟨gC, egC⟩ : ∃ g, Hid (g = V1.heap.size) := ⟨_, rfl⟩
            have NC : Hid (V.heap.size ≤ gC) := by rw [egC.out]; exact zC.out
            have BCV6 : Hid ((V1.alloc (.cells z19 26)).heap[gC]? = some (.cells z19 26 (0, 0))) := by rw [egC.out]; exact hat _ _ _ rfl
            have BBV6 : Hid ((V1.alloc (.cells z19 26)).heap[gB]? = some (.cells (fltV (0, 0)) 100 (0, 0))) := Kep.block ((Kep.refl V1).alloc _) BBV1.out
            have nBC : Hid (gB ≠ gC) := by have := block_lt BBV1.out; have := egC.out; show gB ≠ gC; omega
            rw [← egC.out]
            generalize V1.alloc (.cells z19 26) = V6 at hH BCV6 BBV6 ⊢
            refine wpAnyH_ready (rs := [10]) (by kernel_rfl) (by simp) ?_
            refine AllReadyH.cons rfl (fun K hK => ?_) AllReadyH.nil
            rw [if_pos (by rfl)]
            go_simp
            refine (HD.out _ hH).mono ?_
            rintro e V7 ⟨rfl, kV7⟩
            refine hK.out _ _ (hH.trans (Put.of_kep kV7)) (fun hH => ?_)
            clear hK K
            (try simp only [jA, jB, jC, Act.put, jD, jE, jF])
            have BBV7 : Hid (V7.heap[gB]? = some (.cells (fltV (0, 0)) 100 (0, 0))) := Kep.block kV7 BBV6.out
            have BCV7 : Hid (V7.heap[gC]? = some (.cells z19 26 (0, 0))) := Kep.block kV7 BCV6.out
            refine wpAnyH_take (i := 11) (v := .tuple #[.agg T.v, .agg (fltV h)]) rfl (by kernel_rfl) (by kernel_rfl) (by kernel_rfl) (fun _ _ _ h => h) (.inl ⟨by rfl, by intro w hS; go_simp⟩) hH ?_
            (try simp only [jA, jB, jC, Act.put, jD, jE, jF])
            refine wpAnyH_take (i := 12) (v := .agg T.v) rfl (by kernel_rfl) (by kernel_rfl) (by kernel_rfl) (fun _ _ _ h => h) (.inl ⟨by rfl, by intro w hS; go_simp⟩) hH ?_
            (try simp only [jA, jB, jC, Act.put, jD, jE, jF])
            refine wpAnyH_take (i := 13) (v := .agg (fltV h)) rfl (by kernel_rfl) (by kernel_rfl) (by kernel_rfl) (fun _ _ _ h => h) (.inl ⟨by rfl, by intro w hS; go_simp⟩) hH ?_
            (try simp only [jA, jB, jC, Act.put, jD, jE, jF])
            refine wpAnyH_ready (rs := [15]) (by kernel_rfl) (by simp) ?_
            refine AllReadyH.cons rfl (fun K hK => ?_) AllReadyH.nil
            rw [if_pos (by rfl)]
            refine wp_store_row 26 _ _ rfl gC T.v rfl rfl 26 z19 BCV7.out (by exact size_sta) rfl (v_one _) ?_
            refine hK.out _ _ (hH.setRowNew NC.out _) (fun hH => ?_)
            clear hK K
            (try simp only [jA, jB, jC, Act.put, jD, jE, jF])
            have BCV8 : Hid ((V7.setRow gC T.v).heap[gC]? = some (.cells T.v 26 (0, 0))) := setRow_heap _ _ _ _ _ _ BCV7.out
            have BBV8 : Hid ((V7.setRow gC T.v).heap[gB]? = some (.cells (fltV (0, 0)) 100 (0, 0))) := (setRow_other _ _ _ _ nBC.out).trans BBV7.out
            generalize V7.setRow gC T.v = V8 at hH BCV8 BBV8 ⊢
            refine wpAnyH_ready (rs := [16]) (by kernel_rfl) (by simp) ?_
            refine AllReadyH.cons rfl (fun K hK => ?_) AllReadyH.nil
            rw [if_pos (by rfl)]
            refine wp_store_row 100 _ _ rfl gB (fltV h) rfl rfl 100 (fltV (0, 0)) BBV8.out (by exact size_flt) rfl (flt_one _) ?_
            refine hK.out _ _ (hH.setRow (by simp) _) (fun hH => ?_)
            clear hK K
            (try simp only [jA, jB, jC, Act.put, jD, jE, jF])
            have BBV9 : Hid ((V8.setRow gB (fltV h)).heap[gB]? = some (.cells (fltV h) 100 (0, 0))) := setRow_heap _ _ _ _ _ _ BBV8.out
            have BCV9 : Hid ((V8.setRow gB (fltV h)).heap[gC]? = some (.cells T.v 26 (0, 0))) := (setRow_other _ _ _ _ (Ne.symm nBC.out)).trans BCV8.out
            generalize V8.setRow gB (fltV h) = V9 at hH BBV9 BCV9 ⊢
            refine wpAnyH_done (by kernel_rfl) ?_ _
            go_wp2_with fail
            go_meet
            exact ⟨gC, rfl, hH, BCV9.out, BBV9.out⟩
          refine AllReadyH.cons rfl (fun K hK => ?_) AllReadyH.nil
          rw [if_pos (by rfl)]
          have zC : Hid (V.heap.size ≤ Vd.heap.size) := hH.size
          go_simp
          refine hK.out _ _ (hH.alloc _) (fun hH => ?_)
          clear hK K
          (try simp only [jA, jB, jC, Act.put, jD, jE, jF])
          obtain ⟨gC, egC⟩ : ∃ g, Hid (g = Vd.heap.size) := ⟨_, rfl⟩
          have NC : Hid (V.heap.size ≤ gC) := by rw [egC.out]; exact zC.out
          have BCV10 : Hid ((Vd.alloc (.cells z19 26)).heap[gC]? = some (.cells z19 26 (0, 0))) := by rw [egC.out]; exact hat _ _ _ rfl
          have BBV10 : Hid ((Vd.alloc (.cells z19 26)).heap[gB]? = some (.cells (fltV (0, 0)) 100 (0, 0))) := Kep.block ((Kep.refl Vd).alloc _) BBd.out
          have nBC : Hid (gB ≠ gC) := by have := block_lt BBd.out; have := egC.out; show gB ≠ gC; omega
          rw [← egC.out]
          generalize Vd.alloc (.cells z19 26) = V10 at hH BCV10 BBV10 ⊢
          refine wpAnyH_ready (rs := [9]) (by kernel_rfl) (by simp) ?_
          refine AllReadyH.cons rfl (fun K hK => ?_) AllReadyH.nil
          rw [if_pos (by rfl)]
          go_simp
          refine (HR.out _ hH).mono ?_
          rintro e V11 ⟨rfl, kV11⟩
          refine hK.out _ _ (hH.trans (Put.of_kep kV11)) (fun hH => ?_)
          clear hK K
          (try simp only [jA, jB, jC, Act.put, jD, jE, jF])
          have BBV11 : Hid (V11.heap[gB]? = some (.cells (fltV (0, 0)) 100 (0, 0))) := Kep.block kV11 BBV10.out
          have BCV11 : Hid (V11.heap[gC]? = some (.cells z19 26 (0, 0))) := Kep.block kV11 BCV10.out
          refine wpAnyH_ready (rs := [10]) (by kernel_rfl) (by simp) ?_
          refine AllReadyH.cons rfl (fun K hK => ?_) AllReadyH.nil
          rw [if_pos (by rfl)]
          go_simp
          refine (HD.out _ hH).mono ?_
          rintro e V12 ⟨rfl, kV12⟩
          refine hK.out _ _ (hH.trans (Put.of_kep kV12)) (fun hH => ?_)
          clear hK K
          (try simp only [jA, jB, jC, Act.put, jD, jE, jF])
          have BBV12 : Hid (V12.heap[gB]? = some (.cells (fltV (0, 0)) 100 (0, 0))) := Kep.block kV12 BBV11.out
          have BCV12 : Hid (V12.heap[gC]? = some (.cells z19 26 (0, 0))) := Kep.block kV12 BCV11.out
          refine wpAnyH_take (i := 11) (v := .tuple #[.agg T.v, .agg (fltV h)]) rfl (by kernel_rfl) (by kernel_rfl) (by kernel_rfl) (fun _ _ _ h => h) (.inl ⟨by rfl, by intro w hS; go_simp⟩) hH ?_
          (try simp only [jA, jB, jC, Act.put, jD, jE, jF])
          refine wpAnyH_take (i := 12) (v := .agg T.v) rfl (by kernel_rfl) (by kernel_rfl) (by kernel_rfl) (fun _ _ _ h => h) (.inl ⟨by rfl, by intro w hS; go_simp⟩) hH ?_
          (try simp only [jA, jB, jC, Act.put, jD, jE, jF])
          refine wpAnyH_take (i := 13) (v := .agg (fltV h)) rfl (by kernel_rfl) (by kernel_rfl) (by kernel_rfl) (fun _ _ _ h => h) (.inl ⟨by rfl, by intro w hS; go_simp⟩) hH ?_
          (try simp only [jA, jB, jC, Act.put, jD, jE, jF])
          refine wpAnyH_ready (rs := [15]) (by kernel_rfl) (by simp) ?_
          refine AllReadyH.cons rfl (fun K hK => ?_) AllReadyH.nil
          rw [if_pos (by rfl)]
          refine wp_store_row 26 _ _ rfl gC T.v rfl rfl 26 z19 BCV12.out (by exact size_sta) rfl (v_one _) ?_
          refine hK.out _ _ (hH.setRowNew NC.out _) (fun hH => ?_)
          clear hK K
          (try simp only [jA, jB, jC, Act.put, jD, jE, jF])
          have BCV13 : Hid ((V12.setRow gC T.v).heap[gC]? = some (.cells T.v 26 (0, 0))) := setRow_heap _ _ _ _ _ _ BCV12.out
          have BBV13 : Hid ((V12.setRow gC T.v).heap[gB]? = some (.cells (fltV (0, 0)) 100 (0, 0))) := (setRow_other _ _ _ _ nBC.out).trans BBV12.out
          generalize V12.setRow gC T.v = V13 at hH BCV13 BBV13 ⊢
          refine wpAnyH_ready (rs := [16]) (by kernel_rfl) (by simp) ?_
          refine AllReadyH.cons rfl (fun K hK => ?_) AllReadyH.nil
          rw [if_pos (by rfl)]
          refine wp_store_row 100 _ _ rfl gB (fltV h) rfl rfl 100 (fltV (0, 0)) BBV13.out (by exact size_flt) rfl (flt_one _) ?_
          refine hK.out _ _ (hH.setRow (by simp) _) (fun hH => ?_)
          clear hK K
          (try simp only [jA, jB, jC, Act.put, jD, jE, jF])
          have BBV14 : Hid ((V13.setRow gB (fltV h)).heap[gB]? = some (.cells (fltV h) 100 (0, 0))) := setRow_heap _ _ _ _ _ _ BBV13.out
          have BCV14 : Hid ((V13.setRow gB (fltV h)).heap[gC]? = some (.cells T.v 26 (0, 0))) := (setRow_other _ _ _ _ (Ne.symm nBC.out)).trans BCV13.out
          generalize V13.setRow gB (fltV h) = V14 at hH BBV14 BCV14 ⊢
          refine wpAnyH_done (by kernel_rfl) ?_ _
          go_wp2_with fail
          go_meet
          exact ⟨gC, rfl, hH, BCV14.out, BBV14.out⟩
        case rest =>
          rename World => w5
          obtain ⟨gC, rfl, P5, T5, F5⟩ := hcut
          obtain ⟨hk, ha⟩ := h
          have z0 : w5.cell? ⟨gB, 0, none⟩ = some (.int .i64 hk) := cell_of_block F5.out
          have z1 : w5.cell? ⟨gB, 1, none⟩ = some (.int .u32 ha) := cell_of_block F5.out
          have A5 : Hid (w5.heap[g5]? = some (.cells (accV (kd, ad, (m : Int), vl)) 138 (0, 0))) := P5.out.keeps AV.out (by simpa using n56)
          have K5 := hidd (kep_trans KW.out (PK.out w5 P5.out))
          by_cases hk0 : hk = 0
          · subst hk0
            have eS := hidd (e4.out (fun h => h rfl))
            go_upto_region 10 with fail
            refine wp_region_lit ?_
            refine wpList_load_row (by rfl) 26 _ (by rfl) gC (by rfl) 26 _ (0, 0) _ T5.out Tryz.underlying26 rfl (by exact size_sta) ?_
            refine wpList_load_row (by rfl) 138 _ (by rfl) g5 (by rfl) 138 _ (0, 0) _ A5.out Tryz.underlying138 rfl (by exact size_acc) ?_
            refine Go.Great.wpList_readTo (by rfl) (some 55) (by rfl) (.int .u32 ai) (by kernel_rfl) ?_
            refine Go.Great.wpList_readTo (by rfl) (some 56) (by rfl) (.agg (sucV T (kd, ad, (m : Int), vl) ai false false 0 0)) (by kernel_rfl) ?_
            refine Go.Great.wpList_readTo (by rfl) (some 57) (by rfl) (.iface 140 (.agg (sucV T (kd, ad, (m : Int), vl) ai false false 0 0))) (by kernel_rfl) ?_
            dsimp only [Act.put]
            go_wp2_with fail
            go_ret
            refine ⟨?_, K5.out⟩
            rw [eS.out]; show _ = Ending.returned (.iface _ (.agg (sucV T _ (at_ : Int) _ _ _ _))); rw [hai.out]; rfl
          · have eS := hidd (e3.out hk0)
            have tf : (hk == 0) = false := by simp [hk0]
            clear hk0
            go_wp2_with fail
            go_ret
            refine ⟨?_, K5.out⟩
            rw [eS.out]; rfl
    · have e1 := hidd (p1.out hf0)
      have tf : (fk == 0) = false := by simp [hf0]
      clear HC HE HO p1 p2 p3 p4 HW cd cw hf0
      go_wp2_with fail
      go_ret
      refine ⟨?_, kep_trans KW.out K1.out⟩
      rw [e1.out]; rfl
end Go.Proofs.YtnignfloedcmlaaGreatDoor
