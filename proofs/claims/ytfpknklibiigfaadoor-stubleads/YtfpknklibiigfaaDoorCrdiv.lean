/- reckon, where there may be no result. -/
import Derived.Test.YtfpknklibiigfaaDoorCreck
import Derived.Test.YtfpknklibiigfaaDoorAuto
namespace Go.Proofs.YtfpknklibiigfaaDoor
open Go.RowKit
set_option linter.unusedVariables false
set_option linter.unusedSimpArgs false


set_option maxHeartbeats 1600000 in
set_option maxRecDepth 100000 in
theorem reck_dr (wk : Nat) (hwk : ∀ (args : Array Value) (w : World), (callFunc wk args).run Tryd.prog w = .ok (.enter wk args) w) (op : Int) (s : Sta) (a b : Nat) (imm v : Int) (p : Nat) (w : World) (h : At w p s) (ok : s.Ok) (ha : (a : Int) < 8) (hb : (b : Int) < 8) (h2 : -2147483648 ≤ imm) (h3 : imm ≤ 2147483647) (ek : keepsB op = true) (et : turnsB op = true)
    (RU : Hid (∀ w, Calls Tryd.prog 38 #[.int .u8 op] w fun e w' => e = .returned (.agg #[fnV wk, .bool true, .bool true]) ∧ Kep w w'))
    (AL0 : Hid (aluIs op (secN s op b imm) = false → ∀ w, Calls Tryd.prog wk #[.int .u32 (s.r a), .int .u32 (secN s op b imm)] w fun e w' => e = .returned (.tuple #[.int .u32 0, .int .u32 0, .bool false]) ∧ Kep w w'))
    (AL1 : Hid (aluIs op (secN s op b imm) = true → ∀ w, Calls Tryd.prog wk #[.int .u32 (s.r a), .int .u32 (secN s op b imm)] w fun e w' => e = .returned (.tuple #[.int .u32 (alu op (s.r a) (secN s op b imm)).1, .int .u32 (alu op (s.r a) (secN s op b imm)).2, .bool true]) ∧ Kep w w')) :
    Calls Tryd.prog 34 #[.pointer (some ⟨p, 0, none⟩), .agg (insA op a b imm), .int .u32 v] w fun e w' => e = .returned (.agg (fltV (if aluIs op (secN s op b imm) then (0, 0) else (3, 0)))) ∧ Put [p] w w' ∧ (aluIs op (secN s op b imm) = true → At w' p (reckS s op a b imm)) := by
  have hy : 0 ≤ secN s op b imm ∧ secN s op b imm < 4294967296 := by
    have := ok.r b
    unfold secN; split <;> omega
  have SE : Hid (∀ w, At w p s → Calls Tryd.prog 39 #[.pointer (some ⟨p, 0, none⟩), .agg (insA op a b imm)] w fun e w' => e = .returned (.int .u32 (secN s op b imm)) ∧ Kep w w') := fun w h => second_any s op a b imm p w h hb h2 h3
  have FL := flg_is op (s.r a) (secN s op b imm) s.ps ok.ps.1 ok.ps.2
  have hS : Hid (reckS s op a b imm = (s.regIf (keepsB op) a (alu op (s.r a) (secN s op b imm)).1).markIf (turnsB op) (flgI s.ps (alu op (s.r a) (secN s op b imm)).2)) := rfl
  generalize reckS s op a b imm = S' at *
  rw [ek, et] at hS
  clear ek et
  generalize flgI s.ps (alu op (s.r a) (secN s op b imm)).2 = F' at *
  generalize aluIs op (secN s op b imm) = is at *
  generalize alu op (s.r a) (secN s op b imm) = q at *
  generalize secN s op b imm = y at *
  obtain ⟨r, f⟩ := q
  obtain ⟨r', f', AL⟩ : ∃ r' f' : Int, Hid (∀ w, Calls Tryd.prog wk #[.int .u32 (s.r a), .int .u32 y] w fun e w' => e = .returned (.tuple #[.int .u32 r', .int .u32 f', .bool is]) ∧ Kep w w') ∧ (is = true → r' = r ∧ f' = f) := by
    cases is
    · exact ⟨0, 0, AL0.out rfl, fun h => Bool.noConfusion h⟩
    · exact ⟨r, f, AL1.out rfl, fun _ => ⟨rfl, rfl⟩⟩
  obtain ⟨AL, hq⟩ := AL
  have hQ : Hid (is = true → r' = r ∧ f' = f) := hq
  clear hq AL0 AL1
  have H : Hid (At w p s) := h
  have lp := h.lt
  have h9 : ∀ (w : World) (v : Value), (w.setCell ⟨p, a, none⟩ v).cell? ⟨p, 9, none⟩ = w.cell? ⟨p, 9, none⟩ := fun w v => World.cell?_setCell_other _ ⟨p, a, none⟩ ⟨p, 9, none⟩ _ (fun e => by have := congrArg Addr.off e; simp at this; omega)
  have hp1 : p ≠ w.heap.size + 1 := by omega
  clear h hy ok hb h2 h3
  go_enter Tryd.func34, Tryd.ntmps34
  go_wp2_with fail
  refine (RU.out _).mono ?_
  rintro e w1 ⟨rfl, K1⟩
  have H1 : At w1 p s := (H.out.kep (((Kep.refl _).alloc _).alloc _)).kep K1
  have I1 : w1.heap[w.heap.size]? = some (.cells (insA op a b imm) 37 (0, 0)) := K1.block blkA
  have F1 : w1.heap[w.heap.size + 1]? = some (.cells #[.int .i64 0, .int .u32 0] 45 (0, 0)) := K1.block blkA
  have G1 : Hid (Kep w w1) := kep_trans (((Kep.refl _).alloc _).alloc _) K1
  obtain ⟨W, hW⟩ : ∃ W, Hid (W = (w1.alloc (.cells #[.nilFunc, .bool false, .bool false] 83)).setRow w1.heap.size #[fnV wk, .bool true, .bool true]) := ⟨_, rfl⟩
  have z1 := block_lt I1
  have zf := block_lt F1
  have zp := H1.lt
  have HW : At W p s := by rw [hW.out]; unfold At at H1 ⊢; exact blkA
  have IW : W.heap[w.heap.size]? = some (.cells (insA op a b imm) 37 (0, 0)) := by rw [hW.out]; exact blkA
  have FW : W.heap[w.heap.size + 1]? = some (.cells #[.int .i64 0, .int .u32 0] 45 (0, 0)) := by rw [hW.out]; exact blkA
  have RW : W.heap[w1.heap.size]? = some (.cells #[fnV wk, .bool true, .bool true] 83 (0, 0)) := by rw [hW.out]; exact blkA
  have GW : Hid (Kep w W) := by
    have hle := G1.out.size
    rw [hW.out]; show Kep _ _; exact kepA
  obtain ⟨i0, i1, i2, i3⟩ := ins_at IW
  have k0 := KW.cell i0
  have k1 := KW.cell i1
  have k2 := KW.cell i2
  have k3 := KW.cell i3
  have kr := KW.cell (HW.reg a (by omega))
  have k9 := KW.cell HW.ps
  have kg : ∀ i : KW W, i.val.cell? ⟨w1.heap.size, 0, none⟩ = some (fnV wk) := KW.cell (cell_of_block RW)
  have kg1 : ∀ i : KW W, i.val.cell? ⟨w1.heap.size, 1, none⟩ = some (.bool true) := KW.cell (cell_of_block RW)
  have kg2 : ∀ i : KW W, i.val.cell? ⟨w1.heap.size, 2, none⟩ = some (.bool true) := KW.cell (cell_of_block RW)
  have kz : ∀ (i : KW W) (j : Nat), i.val.frozen? ⟨p, j, none⟩ = false := fun i j => row_frozen (i.ok.block HW) j
  have HW' : Hid (At W p s) := HW
  have FW' : Hid (W.heap[w.heap.size + 1]? = some (.cells #[.int .i64 0, .int .u32 0] 45 (0, 0))) := FW
  have hne : Nonempty (KW W) := ⟨⟨W, Kep.refl _⟩⟩
  clear HW IW FW RW i0 i1 i2 i3 I1 F1 H1 K1 G1
  go_wp2_with (refine wpList_store_row (by rfl) 83 _ _ (by rfl) w1.heap.size #[fnV wk, .bool true, .bool true] (by rfl) (by rfl) 83 #[.nilFunc, .bool false, .bool false] blkA (by exact size_rule) (by rfl) (by simp [Value.oneCell']) ?_)
  rw [← hW.out]
  dsimp only [Act.put]
  refine region_kw (by kernel_rfl) (by kernel_rfl) ?_
  repeat (go_big_quiet_step (first
    | (go_at_call 39; refine (SE.out _ (HW'.out.kep (KW.ok _))).mono ?_; rintro e w6 ⟨rfl, g6⟩; exact ⟨rfl, ⟨_, kep_trans (KW.ok _) g6⟩, rfl⟩)
    | (refine (AL.out _).mono ?_; rintro e w6 ⟨rfl, g6⟩; exact ⟨rfl, ⟨_, kep_trans (KW.ok _) g6⟩, rfl⟩)))
  refine wpQuiet_nil ?_
  rintro _ ⟨i, rfl⟩
  have e0 := k0 i
  have e1 := k1 i
  have e9 := k9 i
  have er := kr i
  have eg1 := kg1 i
  have eg2 := kg2 i
  have ez := kz i
  have EF : Hid (i.val.heap[w.heap.size + 1]? = some (.cells #[.int .i64 0, .int .u32 0] 45 (0, 0))) := i.ok.block FW'.out
  have EH : Hid (At i.val p s) := HW'.out.kep i.ok
  have EG : Hid (Kep w i.val) := kep_trans GW.out i.ok
  clear k0 k1 k2 k3 kr k9 kg kg1 kg2 kz
  generalize i.val = u at *
  clear hne i
  cases is
  rotate_left
  obtain ⟨rfl, rfl⟩ := hQ.out rfl
  all_goals
    go_wp2_with (refine wpList_store_row (by rfl) 45 _ _ (by rfl) (w.heap.size + 1) _ (by rfl) (by rfl) 45 #[.int .i64 0, .int .u32 0] blkA (by exact size_flt) (by rfl) (by simp [Value.oneCell']) ?_)
  all_goals try
    go_region
    go_wp2_with (refine wpList_store_row (by rfl) 45 _ _ (by rfl) (w.heap.size + 1) _ (by rfl) (by rfl) 45 #[.int .i64 0, .int .u32 0] blkA (by exact size_flt) (by rfl) (by simp [Value.oneCell']) ?_)
  all_goals
    try simp only [Exit.inBlock, Exit.then]
  · refine bodyPost_ret (results_cell_row rfl _ _ (w.heap.size + 1) 45 _ (0, 0) _ (by rfl) (setRow_heap _ _ _ _ _ _ blkA) Tryd.underlying45 rfl (by exact size_flt)) rfl ⟨by rfl, putA, ?_⟩
    rw [hS.out]
    simp only [Sta.regIf, Sta.markIf]
    exact atA
  · refine bodyPost_ret (results_cell_row rfl _ _ (w.heap.size + 1) 45 _ (0, 0) _ (by rfl) (setRow_heap _ _ _ _ _ _ blkA) Tryd.underlying45 rfl (by exact size_flt)) rfl ⟨by rfl, putA⟩

theorem reck_div (s : Sta) (a b : Nat) (imm v : Int) (p : Nat) (w : World) (h : At w p s) (ok : s.Ok) (ha : (a : Int) < 8) (hb : (b : Int) < 8) (h2 : -2147483648 ≤ imm) (h3 : imm ≤ 2147483647) :
    Calls Tryd.prog 34 #[.pointer (some ⟨p, 0, none⟩), .agg (insA 25 a b imm), .int .u32 v] w fun e w' => e = .returned (.agg (fltV (if aluIs 25 (secN s 25 b imm) then (0, 0) else (3, 0)))) ∧ Put [p] w w' ∧ (aluIs 25 (secN s 25 b imm) = true → At w' p (reckS s 25 a b imm)) := by
  have hy : 0 ≤ secN s 25 b imm ∧ secN s 25 b imm < 4294967296 := by
    have := ok.r b
    unfold secN; split <;> omega
  have hi : aluIs 25 (secN s 25 b imm) = !(secN s 25 b imm == 0) := by simp [aluIs]
  refine reck_dr 58 (fun _ _ => by kernel_rfl) 25 s a b imm v p w h ok ha hb h2 h3 rfl rfl (fun w => rule_div 25 (by simp) _ rfl w) (fun hz w => ?_) (fun hz w => ?_)
  · have hz' : secN s 25 b imm = 0 := by rw [hi] at hz; simpa using hz
    rw [hz']
    refine (div_no _ _).mono ?_
    rintro e w1 ⟨rfl, rfl⟩
    exact ⟨rfl, Kep.refl _⟩
  · have hz' : secN s 25 b imm ≠ 0 := by rw [hi] at hz; simpa using hz
    exact div_any _ _ _ (ok.r a).1 (ok.r a).2 (by omega)
theorem reck_rem (s : Sta) (a b : Nat) (imm v : Int) (p : Nat) (w : World) (h : At w p s) (ok : s.Ok) (ha : (a : Int) < 8) (hb : (b : Int) < 8) (h2 : -2147483648 ≤ imm) (h3 : imm ≤ 2147483647) :
    Calls Tryd.prog 34 #[.pointer (some ⟨p, 0, none⟩), .agg (insA 30 a b imm), .int .u32 v] w fun e w' => e = .returned (.agg (fltV (if aluIs 30 (secN s 30 b imm) then (0, 0) else (3, 0)))) ∧ Put [p] w w' ∧ (aluIs 30 (secN s 30 b imm) = true → At w' p (reckS s 30 a b imm)) := by
  have hy : 0 ≤ secN s 30 b imm ∧ secN s 30 b imm < 4294967296 := by
    have := ok.r b
    unfold secN; split <;> omega
  have hi : aluIs 30 (secN s 30 b imm) = !(secN s 30 b imm == 0) := by simp [aluIs]
  refine reck_dr 59 (fun _ _ => by kernel_rfl) 30 s a b imm v p w h ok ha hb h2 h3 rfl rfl (fun w => rule_div 30 (by simp) _ rfl w) (fun hz w => ?_) (fun hz w => ?_)
  · have hz' : secN s 30 b imm = 0 := by rw [hi] at hz; simpa using hz
    rw [hz']
    refine (rem_no _ _).mono ?_
    rintro e w1 ⟨rfl, rfl⟩
    exact ⟨rfl, Kep.refl _⟩
  · have hz' : secN s 30 b imm ≠ 0 := by rw [hi] at hz; simpa using hz
    exact rem_any _ _ _ (ok.r a).1 (ok.r a).2 (by omega)
end Go.Proofs.YtfpknklibiigfaaDoor
