/- Part of a proof. -/
import Derived.Test.YtnignfloedcmlaaGreatDoorJ23
namespace Go.Proofs.YtnignfloedcmlaaGreatDoor
open Go.RowKit
set_option linter.unusedVariables false
set_option linter.unusedSimpArgs false
set_option maxHeartbeats 1600000 in
set_option maxRecDepth 100000 in
theorem reck_dr (wk : Nat) (hwk : ∀ (args : Array Value) (w : World), (callFunc wk args).run Tryz.prog w = .ok (.enter wk args) w) (op : Int) (s : Sta) (a b : Nat) (imm v : Int) (p : Nat) (w : World) (h : At w p s) (ok : s.Ok) (ha : (a : Int) < 8) (hb : (b : Int) < 8) (h2 : -2147483648 ≤ imm) (h3 : imm ≤ 2147483647) (ek : keepsB op = true) (et : turnsB op = true)
    (RU : Hid (∀ w, Calls Tryz.prog 145 #[.int .u8 op] w fun e w' => e = .returned (.agg #[fnV wk, .bool true, .bool true]) ∧ Kep w w'))
    (AL0 : Hid (aluIs op (secN s op b imm) = false → ∀ w, Calls Tryz.prog wk #[.int .u32 (s.r a), .int .u32 (secN s op b imm)] w fun e w' => e = .returned (.tuple #[.int .u32 0, .int .u32 0, .bool false]) ∧ Kep w w'))
    (AL1 : Hid (aluIs op (secN s op b imm) = true → ∀ w, Calls Tryz.prog wk #[.int .u32 (s.r a), .int .u32 (secN s op b imm)] w fun e w' => e = .returned (.tuple #[.int .u32 (alu op (s.r a) (secN s op b imm)).1, .int .u32 (alu op (s.r a) (secN s op b imm)).2, .bool true]) ∧ Kep w w')) :
    Calls Tryz.prog 130 #[.pointer (some ⟨p, 0, none⟩), .agg (insA op a b imm), .int .u32 v] w fun e w' => e = .returned (.agg (fltV (if aluIs op (secN s op b imm) then (0, 0) else (3, 0)))) ∧ Put [p] w w' ∧ (aluIs op (secN s op b imm) = true → At w' p (reckS s op a b imm)) := by
  have hy : 0 ≤ secN s op b imm ∧ secN s op b imm < 4294967296 := by
    have := ok.r b
    unfold secN; split <;> omega
  have SE : Hid (∀ w, At w p s → Calls Tryz.prog 146 #[.pointer (some ⟨p, 0, none⟩), .agg (insA op a b imm)] w fun e w' => e = .returned (.int .u32 (secN s op b imm)) ∧ Kep w w') := fun w h => second_any s op a b imm p w h hb h2 h3
  have FL := flg_is op (s.r a) (secN s op b imm) s.ps ok.ps.1 ok.ps.2
  have hS : Hid (reckS s op a b imm = (s.regIf (keepsB op) a (alu op (s.r a) (secN s op b imm)).1).markIf (turnsB op) (flgI s.ps (alu op (s.r a) (secN s op b imm)).2)) := rfl
  generalize reckS s op a b imm = S' at *
  rw [ek, et] at hS
  clear ek et
  generalize flgI s.ps (alu op (s.r a) (secN s op b imm)).2 = F' at *
  generalize aluIs op (secN s op b imm) = is at *
  generalize alu op (s.r a) (secN s op b imm) = q at *
  generalize secN s op b imm = y at *
  obtain ⟨r, f⟩ := q
  obtain ⟨r', f', AL⟩ : ∃ r' f' : Int, Hid (∀ w, Calls Tryz.prog wk #[.int .u32 (s.r a), .int .u32 y] w fun e w' => e = .returned (.tuple #[.int .u32 r', .int .u32 f', .bool is]) ∧ Kep w w') ∧ (is = true → r' = r ∧ f' = f) := by
    cases is
    · exact ⟨0, 0, AL0.out rfl, fun h => Bool.noConfusion h⟩
    · exact ⟨r, f, AL1.out rfl, fun _ => ⟨rfl, rfl⟩⟩
  obtain ⟨AL, hq⟩ := AL
  have hQ : Hid (is = true → r' = r ∧ f' = f) := hq
  clear hq AL0 AL1
  have H : Hid (At w p s) := h
  have lp := h.lt
  have h9 : ∀ (w : World) (v : Value), (w.setCell ⟨p, a, none⟩ v).cell? ⟨p, 9, none⟩ = w.cell? ⟨p, 9, none⟩ := fun w v => World.cell?_setCell_other _ ⟨p, a, none⟩ ⟨p, 9, none⟩ _ (fun e => by have := congrArg Addr.off e; simp at this; omega)
  have hp1 : p ≠ w.heap.size + 1 := by omega
  clear h hy ok hb h2 h3
  go_enter Tryz.func130, Tryz.ntmps130
  go_wp2_with fail
  refine (RU.out _).mono ?_
  rintro e w1 ⟨rfl, K1⟩
  have H1 : At w1 p s := (H.out.kep (((Kep.refl _).alloc _).alloc _)).kep K1
  have I1 : w1.heap[w.heap.size]? = some (.cells (insA op a b imm) 128 (0, 0)) := K1.block blkA
  have F1 : w1.heap[w.heap.size + 1]? = some (.cells #[.int .i64 0, .int .u32 0] 100 (0, 0)) := K1.block blkA
  have G1 : Hid (Kep w w1) := kep_trans (((Kep.refl _).alloc _).alloc _) K1
  obtain ⟨W, hW⟩ : ∃ W, Hid (W = (w1.alloc (.cells #[.nilFunc, .bool false, .bool false] 224)).setRow w1.heap.size #[fnV wk, .bool true, .bool true]) := ⟨_, rfl⟩
  have z1 := block_lt I1
  have zf := block_lt F1
  have zp := H1.lt
  have HW : At W p s := by rw [hW.out]; unfold At at H1 ⊢; exact blkA
  have IW : W.heap[w.heap.size]? = some (.cells (insA op a b imm) 128 (0, 0)) := by rw [hW.out]; exact blkA
  have FW : W.heap[w.heap.size + 1]? = some (.cells #[.int .i64 0, .int .u32 0] 100 (0, 0)) := by rw [hW.out]; exact blkA
  have RW : W.heap[w1.heap.size]? = some (.cells #[fnV wk, .bool true, .bool true] 224 (0, 0)) := by rw [hW.out]; exact blkA
  have GW : Hid (Kep w W) := by
    have hle := G1.out.size
    rw [hW.out]; show Kep _ _; exact kepA
  obtain ⟨i0, i1, i2, i3⟩ := ins_at IW
  have k0 := KW.cell i0
  have k1 := KW.cell i1
  have k2 := KW.cell i2
  have k3 := KW.cell i3
  have kr := KW.cell (HW.reg a (by omega))
  have k9 := KW.cell HW.ps
  have kg : ∀ i : KW W, i.val.cell? ⟨w1.heap.size, 0, none⟩ = some (fnV wk) := KW.cell (cell_of_block RW)
  have kg1 : ∀ i : KW W, i.val.cell? ⟨w1.heap.size, 1, none⟩ = some (.bool true) := KW.cell (cell_of_block RW)
  have kg2 : ∀ i : KW W, i.val.cell? ⟨w1.heap.size, 2, none⟩ = some (.bool true) := KW.cell (cell_of_block RW)
  have kz : ∀ (i : KW W) (j : Nat), i.val.frozen? ⟨p, j, none⟩ = false := fun i j => row_frozen (i.ok.block HW) j
  have HW' : Hid (At W p s) := HW
  have FW' : Hid (W.heap[w.heap.size + 1]? = some (.cells #[.int .i64 0, .int .u32 0] 100 (0, 0))) := FW
  have hne : Nonempty (KW W) := ⟨⟨W, Kep.refl _⟩⟩
  clear HW IW FW RW i0 i1 i2 i3 I1 F1 H1 K1 G1
  go_wp2_with (refine wpList_store_row (by rfl) 224 _ _ (by rfl) w1.heap.size #[fnV wk, .bool true, .bool true] (by rfl) (by rfl) 224 #[.nilFunc, .bool false, .bool false] blkA (by exact size_rule) (by rfl) (by simp [Value.oneCell']) ?_)
  rw [← hW.out]
  dsimp only [Act.put]
  refine region_kw (by kernel_rfl) (by kernel_rfl) ?_
  repeat (go_big_quiet_step (first
    | (go_at_call 146; refine (SE.out _ (HW'.out.kep (KW.ok _))).mono ?_; rintro e w6 ⟨rfl, g6⟩; exact ⟨rfl, ⟨_, kep_trans (KW.ok _) g6⟩, rfl⟩)
    | (refine (AL.out _).mono ?_; rintro e w6 ⟨rfl, g6⟩; exact ⟨rfl, ⟨_, kep_trans (KW.ok _) g6⟩, rfl⟩)))
  refine wpQuiet_nil ?_
  rintro _ ⟨i, rfl⟩
  have e0 := k0 i
  have e1 := k1 i
  have e9 := k9 i
  have er := kr i
  have eg1 := kg1 i
  have eg2 := kg2 i
  have ez := kz i
  have EF : Hid (i.val.heap[w.heap.size + 1]? = some (.cells #[.int .i64 0, .int .u32 0] 100 (0, 0))) := i.ok.block FW'.out
  have EH : Hid (At i.val p s) := HW'.out.kep i.ok
  have EG : Hid (Kep w i.val) := kep_trans GW.out i.ok
  clear k0 k1 k2 k3 kr k9 kg kg1 kg2 kz
  generalize i.val = u at *
  clear hne i
  cases is
  rotate_left
  obtain ⟨rfl, rfl⟩ := hQ.out rfl
  all_goals
    go_wp2_with (refine wpList_store_row (by rfl) 100 _ _ (by rfl) (w.heap.size + 1) _ (by rfl) (by rfl) 100 #[.int .i64 0, .int .u32 0] blkA (by exact size_flt) (by rfl) (by simp [Value.oneCell']) ?_)
  all_goals try
    go_region
    go_wp2_with (refine wpList_store_row (by rfl) 100 _ _ (by rfl) (w.heap.size + 1) _ (by rfl) (by rfl) 100 #[.int .i64 0, .int .u32 0] blkA (by exact size_flt) (by rfl) (by simp [Value.oneCell']) ?_)
  all_goals
    try simp only [Exit.inBlock, Exit.then]
  · refine bodyPost_ret (results_cell_row rfl _ _ (w.heap.size + 1) 100 _ (0, 0) _ (by rfl) (setRow_heap _ _ _ _ _ _ blkA) Tryz.underlying100 rfl (by exact size_flt)) rfl ⟨by rfl, putA, ?_⟩
    rw [hS.out]
    simp only [Sta.regIf, Sta.markIf]
    exact atA
  · refine bodyPost_ret (results_cell_row rfl _ _ (w.heap.size + 1) 100 _ (0, 0) _ (by rfl) (setRow_heap _ _ _ _ _ _ blkA) Tryz.underlying100 rfl (by exact size_flt)) rfl ⟨by rfl, putA⟩
theorem reck_div (s : Sta) (a b : Nat) (imm v : Int) (p : Nat) (w : World) (h : At w p s) (ok : s.Ok) (ha : (a : Int) < 8) (hb : (b : Int) < 8) (h2 : -2147483648 ≤ imm) (h3 : imm ≤ 2147483647) :
    Calls Tryz.prog 130 #[.pointer (some ⟨p, 0, none⟩), .agg (insA 25 a b imm), .int .u32 v] w fun e w' => e = .returned (.agg (fltV (if aluIs 25 (secN s 25 b imm) then (0, 0) else (3, 0)))) ∧ Put [p] w w' ∧ (aluIs 25 (secN s 25 b imm) = true → At w' p (reckS s 25 a b imm)) := by
  have hy : 0 ≤ secN s 25 b imm ∧ secN s 25 b imm < 4294967296 := by
    have := ok.r b
    unfold secN; split <;> omega
  have hi : aluIs 25 (secN s 25 b imm) = !(secN s 25 b imm == 0) := by simp [aluIs]
  refine reck_dr 166 (fun _ _ => by kernel_rfl) 25 s a b imm v p w h ok ha hb h2 h3 rfl rfl (fun w => rule_div 25 (by simp) _ rfl w) (fun hz w => ?_) (fun hz w => ?_)
  · have hz' : secN s 25 b imm = 0 := by rw [hi] at hz; simpa using hz
    rw [hz']
    refine (div_no _ _).mono ?_
    rintro e w1 ⟨rfl, rfl⟩
    exact ⟨rfl, Kep.refl _⟩
  · have hz' : secN s 25 b imm ≠ 0 := by rw [hi] at hz; simpa using hz
    exact div_any _ _ _ (ok.r a).1 (ok.r a).2 (by omega)
theorem reck_rem (s : Sta) (a b : Nat) (imm v : Int) (p : Nat) (w : World) (h : At w p s) (ok : s.Ok) (ha : (a : Int) < 8) (hb : (b : Int) < 8) (h2 : -2147483648 ≤ imm) (h3 : imm ≤ 2147483647) :
    Calls Tryz.prog 130 #[.pointer (some ⟨p, 0, none⟩), .agg (insA 30 a b imm), .int .u32 v] w fun e w' => e = .returned (.agg (fltV (if aluIs 30 (secN s 30 b imm) then (0, 0) else (3, 0)))) ∧ Put [p] w w' ∧ (aluIs 30 (secN s 30 b imm) = true → At w' p (reckS s 30 a b imm)) := by
  have hy : 0 ≤ secN s 30 b imm ∧ secN s 30 b imm < 4294967296 := by
    have := ok.r b
    unfold secN; split <;> omega
  have hi : aluIs 30 (secN s 30 b imm) = !(secN s 30 b imm == 0) := by simp [aluIs]
  refine reck_dr 167 (fun _ _ => by kernel_rfl) 30 s a b imm v p w h ok ha hb h2 h3 rfl rfl (fun w => rule_div 30 (by simp) _ rfl w) (fun hz w => ?_) (fun hz w => ?_)
  · have hz' : secN s 30 b imm = 0 := by rw [hi] at hz; simpa using hz
    rw [hz']
    refine (rem_no _ _).mono ?_
    rintro e w1 ⟨rfl, rfl⟩
    exact ⟨rfl, Kep.refl _⟩
  · have hz' : secN s 30 b imm ≠ 0 := by rw [hi] at hz; simpa using hz
    exact rem_any _ _ _ (ok.r a).1 (ok.r a).2 (by omega)
def workK (op : Int) : Nat := if cls op = 1 then 129 else if cls op = 2 then 130 else if cls op = 3 then 131 else if cls op = 4 then 132 else 133
theorem cls_cases (op : Int) (h : cls op ≠ 0) : op = 0 ∨ (16 ≤ op ∧ op ≤ 33) ∨ (48 ≤ op ∧ op ≤ 58) ∨ (64 ≤ op ∧ op ≤ 74) ∨ op = 80 := by
  unfold cls at h
  repeat' split at h
  all_goals first | omega | (exact absurd rfl h)
set_option maxHeartbeats 1600000 in
set_option maxRecDepth 100000 in
theorem work_no (op : Int) (a b : Nat) (imm : Int) (w : World) (h0 : 0 ≤ op) (h1 : op < 256) (h2 : -2147483648 ≤ imm) (h3 : imm ≤ 2147483647) (hn : isIns op a b imm = false) (hT : Tabs w) :
    Calls Tryz.prog 114 #[.agg (insA op a b imm)] w fun e w' => e = .returned .nilFunc ∧ Kep w w' := by
  have MA : Hid (∀ w, Tabs w → Calls Tryz.prog 80 #[.agg (insA op a b imm), .bool false] w fun e w' => e = .returned (.bool (mayB (rowOf op false) a b imm)) ∧ Kep w w') := fun w hT => may_any op a b imm false w h0 h1 h2 h3 hT
  have hc : mayB (rowOf op false) a b imm = true → op ≠ 0 ∧ ¬ (16 ≤ op ∧ op ≤ 33) ∧ ¬ (48 ≤ op ∧ op ≤ 58) ∧ ¬ (64 ≤ op ∧ op ≤ 74) ∧ op ≠ 80 := by
    intro hm
    unfold isIns at hn
    rw [hm] at hn
    have hz : cls op = 0 := by simpa using hn
    refine ⟨?_, ?_, ?_, ?_, ?_⟩ <;> intro h <;> (unfold cls at hz; simp [h] at hz) <;> (repeat' split at hz) <;> first | omega | (exact absurd hz (by decide))
  have hT' : Hid (Tabs w) := hT
  clear hn hT h2 h3
  generalize mayB (rowOf op false) a b imm = mb at *
  go_enter Tryz.func114, Tryz.ntmps114
  go_wp2_with fail
  refine (MA.out _ (hT'.out.grown kepA)).mono ?_
  rintro e w1 ⟨rfl, K1⟩
  have G1 : Hid (Kep w w1) := kep_trans kepA K1
  obtain ⟨i0, i1, i2, i3⟩ := ins_at (b := w.heap.size) (op := op) (a := a) (c := b) (imm := imm) (K1.block blkA)
  clear K1 MA
  cases mb
  · clear hc
    go_wp2_with fail
    go_ret
    exact ⟨rfl, G1.out⟩
  · obtain ⟨n0, n1, n2, n3, n4⟩ := hc rfl
    have x0 := ne_lit n0
    have x4 := ne_lit n4
    have y1 : (decide (16 ≤ op) && decide (op ≤ 33)) = false := by simp; omega
    have y2 : (decide (48 ≤ op) && decide (op ≤ 58)) = false := by simp; omega
    have y3 : (decide (64 ≤ op) && decide (op ≤ 74)) = false := by simp; omega
    clear hc
    go_wp2_with fail
    all_goals first
      | (go_ret
         exact ⟨rfl, G1.out⟩)
      | (exfalso; clear y1 y2 y3; simp at *; omega)
set_option maxHeartbeats 1600000 in
set_option maxRecDepth 100000 in
theorem work_is (op : Int) (a b : Nat) (imm : Int) (k : Nat) (hk : workK op = k) (w : World) (h0 : 0 ≤ op) (h1 : op < 256) (h2 : -2147483648 ≤ imm) (h3 : imm ≤ 2147483647) (hn : isIns op a b imm = true) (hT : Tabs w) :
    Calls Tryz.prog 114 #[.agg (insA op a b imm)] w fun e w' => e = .returned (fnV k) ∧ Kep w w' := by
  unfold isIns at hn
  simp only [Bool.and_eq_true, bne_iff_ne, ne_eq] at hn
  have MA : Hid (∀ w, Tabs w → Calls Tryz.prog 80 #[.agg (insA op a b imm), .bool false] w fun e w' => e = .returned (.bool true) ∧ Kep w w') := fun w hT => by
    have := may_any op a b imm false w h0 h1 h2 h3 hT; rw [hn.1] at this; exact this
  have hT' : Hid (Tabs w) := hT
  have hc := cls_cases op hn.2
  clear hn hT h2 h3
  go_enter Tryz.func114, Tryz.ntmps114
  go_wp2_with fail
  refine (MA.out _ (hT'.out.grown kepA)).mono ?_
  rintro e w1 ⟨rfl, K1⟩
  have G1 : Hid (Kep w w1) := kep_trans kepA K1
  obtain ⟨i0, i1, i2, i3⟩ := ins_at (b := w.heap.size) (op := op) (a := a) (c := b) (imm := imm) (K1.block blkA)
  clear K1 MA
  rcases hc with rfl | hc | hc | hc | rfl
  · obtain rfl : 129 = k := hk
    go_wp2_with fail
    go_ret
    exact ⟨rfl, G1.out⟩
  · obtain rfl : 130 = k := by rw [← hk]; unfold workK cls; rw [if_neg (show ¬ op = 0 by omega), if_pos hc]; rfl
    have x0 := ne_lit (op := op) (k := 0) (by omega)
    have q1 := hc.1
    have q2 := hc.2
    clear hc hk
    go_wp2_with fail
    go_ret
    exact ⟨rfl, G1.out⟩
  · obtain rfl : 131 = k := by rw [← hk]; unfold workK cls; rw [if_neg (show ¬ op = 0 by omega), if_neg (show ¬ (16 ≤ op ∧ op ≤ 33) by omega), if_pos hc]; rfl
    have x0 := ne_lit (op := op) (k := 0) (by omega)
    have q1 := hc.1
    have q2 := hc.2
    clear hc hk
    go_wp2_with fail
    go_ret
    exact ⟨rfl, G1.out⟩
  · obtain rfl : 132 = k := by rw [← hk]; unfold workK cls; rw [if_neg (show ¬ op = 0 by omega), if_neg (show ¬ (16 ≤ op ∧ op ≤ 33) by omega), if_neg (show ¬ (48 ≤ op ∧ op ≤ 58) by omega), if_pos hc]; rfl
    have x0 := ne_lit (op := op) (k := 0) (by omega)
    have q1 := hc.1
    have q2 := hc.2
    clear hc hk
    go_wp2_with fail
    go_ret
    exact ⟨rfl, G1.out⟩
  · obtain rfl : 133 = k := hk
    go_wp2_with fail
    go_ret
    exact ⟨rfl, G1.out⟩
end Go.Proofs.YtnignfloedcmlaaGreatDoor
