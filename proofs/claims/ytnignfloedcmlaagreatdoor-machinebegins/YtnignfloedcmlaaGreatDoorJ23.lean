/- Part of a proof. -/
import Derived.Handy
import Derived.Test.YtnignfloedcmlaaGreatDoorJ22
namespace Go.Proofs.YtnignfloedcmlaaGreatDoor
open Go.RowKit
set_option linter.unusedVariables false
set_option linter.unusedSimpArgs false
set_option maxHeartbeats 1600000 in
set_option maxRecDepth 100000 in
theorem reck_alw (s : Sta) (op : Int) (a b : Nat) (imm v : Int) (p : Nat) (w : World) (h : At w p s) (ok : s.Ok) (ha : (a : Int) < 8) (hb : (b : Int) < 8) (h2 : -2147483648 ≤ imm) (h3 : imm ≤ 2147483647) (hop : 16 ≤ op ∧ op ≤ 33 ∧ op ≠ 25 ∧ op ≠ 30) :
    Calls Tryz.prog 130 #[.pointer (some ⟨p, 0, none⟩), .agg (insA op a b imm), .int .u32 v] w fun e w' => e = .returned (.agg (fltV (0, 0))) ∧ Put [p] w w' ∧ At w' p (reckS s op a b imm) := by
  have hy : 0 ≤ secN s op b imm ∧ secN s op b imm < 4294967296 := by
    have := ok.r b
    unfold secN; split <;> omega
  have SE : Hid (∀ w, At w p s → Calls Tryz.prog 146 #[.pointer (some ⟨p, 0, none⟩), .agg (insA op a b imm)] w fun e w' => e = .returned (.int .u32 (secN s op b imm)) ∧ Kep w w') := fun w h => second_any s op a b imm p w h hb h2 h3
  have FL := flg_is op (s.r a) (secN s op b imm) s.ps ok.ps.1 ok.ps.2
  have hS : Hid (reckS s op a b imm = (s.regIf (keepsB op) a (alu op (s.r a) (secN s op b imm)).1).markIf (turnsB op) (flgI s.ps (alu op (s.r a) (secN s op b imm)).2)) := rfl
  have RU : Hid (∀ w, Calls Tryz.prog 145 #[.int .u8 op] w fun e w' => ∃ g : Nat, e = .returned (.agg #[alwV g, .bool (keepsB op), .bool (turnsB op)]) ∧ Kep w w' ∧ w'.cell? ⟨g, 0, none⟩ = some (fnV (fnOf op)) ∧ g < w'.heap.size) := fun w => rule_any op hop _ rfl w
  have AL : Hid (∀ (g : Nat) (w : World), w.cell? ⟨g, 0, none⟩ = some (fnV (fnOf op)) → Calls Tryz.prog 169 #[.int .u32 (s.r a), .int .u32 (secN s op b imm), .pointer (some ⟨g, 0, none⟩)] w fun e w' => e = .returned (.tuple #[.int .u32 (alu op (s.r a) (secN s op b imm)).1, .int .u32 (alu op (s.r a) (secN s op b imm)).2, .bool true]) ∧ Kep w w') := fun g w hc => alw_any op hop _ _ (ok.r a) hy g w hc
  generalize reckS s op a b imm = S' at *
  generalize flgI s.ps (alu op (s.r a) (secN s op b imm)).2 = F' at *
  generalize alu op (s.r a) (secN s op b imm) = q at *
  generalize secN s op b imm = y at *
  generalize keepsB op = kp at *
  generalize turnsB op = tp at *
  obtain ⟨r, f⟩ := q
  generalize fnOf op = fk at *
  have H : Hid (At w p s) := h
  have lp := h.lt
  have h9 : ∀ (w : World) (v : Value), (w.setCell ⟨p, a, none⟩ v).cell? ⟨p, 9, none⟩ = w.cell? ⟨p, 9, none⟩ := fun w v => World.cell?_setCell_other _ ⟨p, a, none⟩ ⟨p, 9, none⟩ _ (fun e => by have := congrArg Addr.off e; simp at this; omega)
  have hp1 : p ≠ w.heap.size + 1 := by omega
  clear h hop hy ok hb h2 h3
  go_enter Tryz.func130, Tryz.ntmps130
  go_wp2_with fail
  refine (RU.out _).mono ?_
  rintro e w1 ⟨g, rfl, K1, cg, lg⟩
  have H1 : At w1 p s := (H.out.kep (((Kep.refl _).alloc _).alloc _)).kep K1
  have I1 : w1.heap[w.heap.size]? = some (.cells (insA op a b imm) 128 (0, 0)) := K1.block blkA
  have F1 : w1.heap[w.heap.size + 1]? = some (.cells #[.int .i64 0, .int .u32 0] 100 (0, 0)) := K1.block blkA
  have G1 : Hid (Kep w w1) := kep_trans (((Kep.refl _).alloc _).alloc _) K1
  obtain ⟨W, hW⟩ : ∃ W, Hid (W = (w1.alloc (.cells #[.nilFunc, .bool false, .bool false] 224)).setRow w1.heap.size #[alwV g, .bool kp, .bool tp]) := ⟨_, rfl⟩
  have z1 := block_lt I1
  have zf := block_lt F1
  have zp := H1.lt
  have HW : At W p s := by rw [hW.out]; unfold At at H1 ⊢; exact blkA
  have IW : W.heap[w.heap.size]? = some (.cells (insA op a b imm) 128 (0, 0)) := by rw [hW.out]; exact blkA
  have FW : W.heap[w.heap.size + 1]? = some (.cells #[.int .i64 0, .int .u32 0] 100 (0, 0)) := by rw [hW.out]; exact blkA
  have RW : W.heap[w1.heap.size]? = some (.cells #[alwV g, .bool kp, .bool tp] 224 (0, 0)) := by rw [hW.out]; exact blkA
  have GW : Hid (Kep w W) := by
    have hle := G1.out.size
    rw [hW.out]; show Kep _ _; exact kepA
  have cW : W.cell? ⟨g, 0, none⟩ = some (fnV fk) := by
    rw [hW.out]
    have : ((w1.alloc (.cells #[.nilFunc, .bool false, .bool false] 224)).setRow w1.heap.size #[alwV g, .bool kp, .bool tp]).heap[g]? = w1.heap[g]? := (setRow_other _ _ _ _ (by omega)).trans (hsk _ _ _ lg)
    simp only [World.cell?, this]; simpa only [World.cell?] using cg
  have cW' : Hid (W.cell? ⟨g, 0, none⟩ = some (fnV fk)) := cW
  obtain ⟨i0, i1, i2, i3⟩ := ins_at IW
  have k0 := KW.cell i0
  have k1 := KW.cell i1
  have k2 := KW.cell i2
  have k3 := KW.cell i3
  have kr := KW.cell (HW.reg a (by omega))
  have k9 := KW.cell HW.ps
  have kg : ∀ i : KW W, i.val.cell? ⟨w1.heap.size, 0, none⟩ = some (alwV g) := KW.cell (cell_of_block RW)
  have kg1 : ∀ i : KW W, i.val.cell? ⟨w1.heap.size, 1, none⟩ = some (.bool kp) := KW.cell (cell_of_block RW)
  have kg2 : ∀ i : KW W, i.val.cell? ⟨w1.heap.size, 2, none⟩ = some (.bool tp) := KW.cell (cell_of_block RW)
  have kz : ∀ (i : KW W) (j : Nat), i.val.frozen? ⟨p, j, none⟩ = false := fun i j => row_frozen (i.ok.block HW) j
  have HW' : Hid (At W p s) := HW
  have FW' : Hid (W.heap[w.heap.size + 1]? = some (.cells #[.int .i64 0, .int .u32 0] 100 (0, 0))) := FW
  have hne : Nonempty (KW W) := ⟨⟨W, Kep.refl _⟩⟩
  clear HW IW FW RW cW cg lg i0 i1 i2 i3 I1 F1 H1 K1 G1
  go_wp2_with (refine wpList_store_row (by rfl) 224 _ _ (by rfl) w1.heap.size #[alwV g, .bool kp, .bool tp] (by rfl) (by rfl) 224 #[.nilFunc, .bool false, .bool false] blkA (by exact size_rule) (by rfl) (by simp [Value.oneCell']) ?_)
  rw [← hW.out]
  dsimp only [Act.put]
  refine region_kw (by kernel_rfl) (by kernel_rfl) ?_
  repeat (go_big_quiet_step (first
    | (go_at_call 146; refine (SE.out _ (HW'.out.kep (KW.ok _))).mono ?_; rintro e w6 ⟨rfl, g6⟩; exact ⟨rfl, ⟨_, kep_trans (KW.ok _) g6⟩, rfl⟩)
    | (go_at_call 169; refine (AL.out _ _ (KW.cell cW'.out _)).mono ?_; rintro e w6 ⟨rfl, g6⟩; exact ⟨rfl, ⟨_, kep_trans (KW.ok _) g6⟩, rfl⟩)))
  refine wpQuiet_nil ?_
  rintro _ ⟨i, rfl⟩
  have e0 := k0 i
  have e1 := k1 i
  have e9 := k9 i
  have er := kr i
  have eg1 := kg1 i
  have eg2 := kg2 i
  have ez := kz i
  have EF : Hid (i.val.heap[w.heap.size + 1]? = some (.cells #[.int .i64 0, .int .u32 0] 100 (0, 0))) := i.ok.block FW'.out
  have EH : Hid (At i.val p s) := HW'.out.kep i.ok
  have EG : Hid (Kep w i.val) := kep_trans GW.out i.ok
  clear k0 k1 k2 k3 kr k9 kg kg1 kg2 kz
  generalize i.val = u at *
  clear hne i
  cases kp <;> cases tp
  all_goals
    go_wp2_with (refine wpList_store_row (by rfl) 100 _ _ (by rfl) (w.heap.size + 1) _ (by rfl) (by rfl) 100 #[.int .i64 0, .int .u32 0] blkA (by exact size_flt) (by rfl) (by simp [Value.oneCell']) ?_)
  all_goals try
    go_region
    go_wp2_with (refine wpList_store_row (by rfl) 100 _ _ (by rfl) (w.heap.size + 1) _ (by rfl) (by rfl) 100 #[.int .i64 0, .int .u32 0] blkA (by exact size_flt) (by rfl) (by simp [Value.oneCell']) ?_)
  all_goals
    try simp only [Exit.inBlock, Exit.then]
    refine bodyPost_ret (results_cell_row rfl _ _ (w.heap.size + 1) 100 _ (0, 0) _ (by rfl) (setRow_heap _ _ _ _ _ _ blkA) Tryz.underlying100 rfl (by exact size_flt)) rfl ⟨by rfl, putA, ?_⟩
    rw [hS.out]
    simp only [Sta.regIf, Sta.markIf]
    exact atA
abbrev heldV (a : Int) : Value := .iface 240 (.int .u8 a)
abbrev besV (far c : Int) : Value := .iface 242 (.agg #[.int .i32 far, .int .i64 c])
theorem jmp_ops {op : Int} (h : 64 ≤ op ∧ op ≤ 74) : op = 73 ∨ op = 74 ∨ op = 72 ∨ (64 ≤ op ∧ op ≤ 71) := by omega
set_option maxHeartbeats 800000 in
theorem place_held (op a b imm : Int) (w : World) (h : op = 73 ∨ op = 74) :
    Calls Tryz.prog 148 #[.agg (insA op a b imm)] w fun e w' => e = .returned (heldV a) ∧ Kep w w' := by
  rcases h with rfl | rfl
  all_goals
    go_enter Tryz.func148, Tryz.ntmps148
    go_wp2
    go_ret
    exact ⟨rfl, kepA⟩
set_option maxHeartbeats 800000 in
theorem place_call (a b imm : Int) (w : World) :
    Calls Tryz.prog 148 #[.agg (insA 72 a b imm)] w fun e w' => e = .returned (besV imm 0) ∧ Kep w w' := by
  go_enter Tryz.func148, Tryz.ntmps148
  go_wp2
  go_ret
  exact ⟨rfl, kepA⟩
set_option maxHeartbeats 800000 in
theorem place_jmp (op a b imm : Int) (w : World) (h : 64 ≤ op ∧ op ≤ 71) :
    Calls Tryz.prog 148 #[.agg (insA op a b imm)] w fun e w' => e = .returned (besV imm (op - 64)) ∧ Kep w w' := by
  have x1 := ne_lit (op := op) (k := 72) (by omega)
  have x2 := ne_lit (op := op) (k := 73) (by omega)
  have x3 := ne_lit (op := op) (k := 74) (by omega)
  go_enter Tryz.func148, Tryz.ntmps148
  go_wp2
  go_ret
  exact ⟨rfl, kepA⟩
theorem is_held (a : Int) (w : World) : (Instr.typeAssert (heldV a) 230 242 true).run Tryz.prog w = .ok (.tuple #[.agg #[.int .i32 0, .int .i64 0], .bool false]) w := by kernel_rfl
theorem is_bes (far c : Int) (w : World) : (Instr.typeAssert (besV far c) 230 242 true).run Tryz.prog w = .ok (.tuple #[.agg #[.int .i32 far, .int .i64 c], .bool true]) w := by kernel_rfl
set_option maxHeartbeats 800000 in
theorem goes_held (a ps : Int) (w : World) :
    Calls Tryz.prog 149 #[heldV a, .int .u32 ps] w fun e w' => e = .returned (.bool true) ∧ Kep w w' := by
  have ta := is_held a
  go_enter Tryz.func149, Tryz.ntmps149
  go_wp2
  go_ret
  exact ⟨rfl, kepA⟩
set_option maxHeartbeats 800000 in
theorem goes_bes (far c ps : Int) (w : World) (h0 : 0 ≤ ps) (h1 : ps < 4294967296) :
    Calls Tryz.prog 149 #[besV far c, .int .u32 ps] w fun e w' => e = .returned (.bool (holdsB c ps)) ∧ Kep w w' := by
  have ta := is_bes far c
  go_enter Tryz.func149, Tryz.ntmps149
  go_wp2_with (go_at_call 168; refine (holds_any _ _ _ h0 h1).mono ?_; rintro e w' ⟨rfl, rfl⟩)
  go_ret
  exact ⟨rfl, kepA⟩
set_option maxHeartbeats 800000 in
theorem from_held (s : Sta) (a p : Nat) (w : World) (h : At w p s) (ha : (a : Int) < 8) :
    Calls Tryz.prog 200 #[.int .u8 a, .pointer (some ⟨p, 0, none⟩)] w fun e w' => e = .returned (.int .u32 (s.r a)) ∧ Kep w w' := by
  have ca := h.reg a (by omega)
  clear h
  go_enter Tryz.func200, Tryz.ntmps200
  go_wp2
  go_ret
  exact ⟨rfl, kepA⟩
set_option maxHeartbeats 800000 in
theorem from_bes (s : Sta) (far c : Int) (p : Nat) (w : World) (h : At w p s) (ok : s.Ok) (h2 : -2147483648 ≤ far) (h3 : far ≤ 2147483647) :
    Calls Tryz.prog 201 #[.agg #[.int .i32 far, .int .i64 c], .pointer (some ⟨p, 0, none⟩)] w fun e w' => e = .returned (.int .u32 ((s.pc + far % 4294967296) % 4294967296)) ∧ Kep w w' := by
  have c8 := h.pc
  have lt := h.lt
  have hp := ok.pc
  clear h ok
  go_enter Tryz.func201, Tryz.ntmps201
  go_wp2
  go_quiet (fail)
  go_wp2
  go_ret
  exact ⟨ret_int (by simp [IntKind.wrap_u32]), kepA⟩
theorem meth_held (a : Int) (w : World) : (method 269 240 (.int .u8 a) "mummer/core.from").run Tryz.prog w = .ok (200, .int .u8 a) w := by kernel_rfl
theorem meth_bes (far c : Int) (w : World) : (method 269 242 (.agg #[.int .i32 far, .int .i64 c]) "mummer/core.from").run Tryz.prog w = .ok (201, .agg #[.int .i32 far, .int .i64 c]) w := by kernel_rfl
set_option maxHeartbeats 1600000 in
set_option maxRecDepth 100000 in
theorem jump_73 (s : Sta) (a b : Nat) (imm v : Int) (p : Nat) (w : World) (h : At w p s) (ok : s.Ok) (ha : (a : Int) < 8) (h2 : -2147483648 ≤ imm) (h3 : imm ≤ 2147483647) :
    Calls Tryz.prog 132 #[.pointer (some ⟨p, 0, none⟩), .agg (insA 73 a b imm), .int .u32 v] w fun e w' => e = .returned (.agg (fltV (0, 0))) ∧ Put [p] w w' ∧ At w' p (jmpS s 73 a imm) := by
  have PL : Hid (∀ w, Calls Tryz.prog 148 #[.agg (insA 73 a b imm)] w fun e w' => e = .returned (heldV a) ∧ Kep w w') := fun w => place_held 73 a b imm w (by simp)
  have GO : Hid (∀ w, Calls Tryz.prog 149 #[heldV a, .int .u32 s.ps] w fun e w' => e = .returned (.bool true) ∧ Kep w w') := fun w => goes_held a s.ps w
  have FR : Hid (∀ w, At w p s → Calls Tryz.prog 200 #[.int .u8 a, .pointer (some ⟨p, 0, none⟩)] w fun e w' => e = .returned (.int .u32 (s.r a)) ∧ Kep w w') := fun w h => from_held s a p w h ha
  have hS : Hid (jmpS s 73 a imm = (s.go (s.r a))) := by
    unfold Hid jmpS jgoes jto linkS
    simp
  generalize jmpS s 73 a imm = S' at *
  have mt := meth_held a
  have H : Hid (At w p s) := h
  have lp := h.lt
  clear h ok h2 h3
  go_enter Tryz.func132, Tryz.ntmps132
  go_wp2_with fail
  refine (PL.out _).mono ?_
  rintro e w1 ⟨rfl, K1⟩
  have H1 : At w1 p s := (H.out.kep (((Kep.refl _).alloc _).alloc _)).kep K1
  have I1 : w1.heap[w.heap.size]? = some (.cells (insA 73 a b imm) 128 (0, 0)) := K1.block blkA
  have F1 : w1.heap[w.heap.size + 1]? = some (.cells #[.int .i64 0, .int .u32 0] 100 (0, 0)) := K1.block blkA
  have G1 : Hid (Kep w w1) := kep_trans (((Kep.refl _).alloc _).alloc _) K1
  have c9 := H1.ps
  have H1' : Hid (At w1 p s) := H1
  have I1' : Hid (w1.heap[w.heap.size]? = some (.cells (insA 73 a b imm) 128 (0, 0))) := I1
  have F1' : Hid (w1.heap[w.heap.size + 1]? = some (.cells #[.int .i64 0, .int .u32 0] 100 (0, 0))) := F1
  clear H1 I1 F1 K1
  go_wp2_with fail
  refine (GO.out _).mono ?_
  rintro e w2 ⟨rfl, K2⟩
  have H2 : At w2 p s := H1'.out.kep K2
  have I2 : w2.heap[w.heap.size]? = some (.cells (insA 73 a b imm) 128 (0, 0)) := K2.block I1'.out
  have F2 : Hid (w2.heap[w.heap.size + 1]? = some (.cells #[.int .i64 0, .int .u32 0] 100 (0, 0))) := K2.block F1'.out
  have G2 : Hid (Kep w w2) := kep_trans G1 K2
  have c8 := H2.pc
  have H2' : Hid (At w2 p s) := H2
  have I2' : Hid (w2.heap[w.heap.size]? = some (.cells (insA 73 a b imm) 128 (0, 0))) := I2
  clear H2 I2 K2 c9
  go_wp2_with (refine wpList_store_row (by rfl) 100 _ _ (by rfl) (w.heap.size + 1) _ (by rfl) (by rfl) 100 #[.int .i64 0, .int .u32 0] blkA (by exact size_flt) (by rfl) (by simp [Value.oneCell']) ?_)
  refine (FR.out _ H2'.out).mono ?_
  rintro e w3 ⟨rfl, K3⟩
  have H3 : At w3 p s := H2'.out.kep K3
  obtain ⟨j0, j1, j2, j3⟩ := ins_at (K3.block I2'.out)
  have F3 : Hid (w3.heap[w.heap.size + 1]? = some (.cells #[.int .i64 0, .int .u32 0] 100 (0, 0))) := K3.block F2.out
  have G3 : Hid (Kep w w3) := kep_trans G2 K3
  have H3' : Hid (At w3 p s) := H3
  have d8 := H3.pc
  have d6 := H3.reg 6 (by omega)
  have ez := row_frozen H3
  have hp1 : p ≠ w.heap.size + 1 := by omega
  clear H3 K3 c8
  go_wp2_with (refine wpList_store_row (by rfl) 100 _ _ (by rfl) (w.heap.size + 1) _ (by rfl) (by rfl) 100 #[.int .i64 0, .int .u32 0] blkA (by exact size_flt) (by rfl) (by simp [Value.oneCell']) ?_)
  try simp only [Exit.inBlock, Exit.then]
  refine bodyPost_ret (results_cell_row rfl _ _ (w.heap.size + 1) 100 _ (0, 0) _ (by rfl) (setRow_heap _ _ _ _ _ _ blkA) Tryz.underlying100 rfl (by exact size_flt)) rfl ⟨by rfl, putA, ?_⟩
  rw [hS.out]
  show At _ p _
  exact atA
set_option maxHeartbeats 1600000 in
set_option maxRecDepth 100000 in
theorem jump_74 (s : Sta) (a b : Nat) (imm v : Int) (p : Nat) (w : World) (h : At w p s) (ok : s.Ok) (ha : (a : Int) < 8) (h2 : -2147483648 ≤ imm) (h3 : imm ≤ 2147483647) :
    Calls Tryz.prog 132 #[.pointer (some ⟨p, 0, none⟩), .agg (insA 74 a b imm), .int .u32 v] w fun e w' => e = .returned (.agg (fltV (0, 0))) ∧ Put [p] w w' ∧ At w' p (jmpS s 74 a imm) := by
  have PL : Hid (∀ w, Calls Tryz.prog 148 #[.agg (insA 74 a b imm)] w fun e w' => e = .returned (heldV a) ∧ Kep w w') := fun w => place_held 74 a b imm w (by simp)
  have GO : Hid (∀ w, Calls Tryz.prog 149 #[heldV a, .int .u32 s.ps] w fun e w' => e = .returned (.bool true) ∧ Kep w w') := fun w => goes_held a s.ps w
  have FR : Hid (∀ w, At w p s → Calls Tryz.prog 200 #[.int .u8 a, .pointer (some ⟨p, 0, none⟩)] w fun e w' => e = .returned (.int .u32 (s.r a)) ∧ Kep w w') := fun w h => from_held s a p w h ha
  have hS : Hid (jmpS s 74 a imm = ((s.go (s.r a)).reg 6 s.pc)) := by
    unfold Hid jmpS jgoes jto linkS
    simp
  generalize jmpS s 74 a imm = S' at *
  have mt := meth_held a
  have H : Hid (At w p s) := h
  have lp := h.lt
  clear h ok h2 h3
  go_enter Tryz.func132, Tryz.ntmps132
  go_wp2_with fail
  refine (PL.out _).mono ?_
  rintro e w1 ⟨rfl, K1⟩
  have H1 : At w1 p s := (H.out.kep (((Kep.refl _).alloc _).alloc _)).kep K1
  have I1 : w1.heap[w.heap.size]? = some (.cells (insA 74 a b imm) 128 (0, 0)) := K1.block blkA
  have F1 : w1.heap[w.heap.size + 1]? = some (.cells #[.int .i64 0, .int .u32 0] 100 (0, 0)) := K1.block blkA
  have G1 : Hid (Kep w w1) := kep_trans (((Kep.refl _).alloc _).alloc _) K1
  have c9 := H1.ps
  have H1' : Hid (At w1 p s) := H1
  have I1' : Hid (w1.heap[w.heap.size]? = some (.cells (insA 74 a b imm) 128 (0, 0))) := I1
  have F1' : Hid (w1.heap[w.heap.size + 1]? = some (.cells #[.int .i64 0, .int .u32 0] 100 (0, 0))) := F1
  clear H1 I1 F1 K1
  go_wp2_with fail
  refine (GO.out _).mono ?_
  rintro e w2 ⟨rfl, K2⟩
  have H2 : At w2 p s := H1'.out.kep K2
  have I2 : w2.heap[w.heap.size]? = some (.cells (insA 74 a b imm) 128 (0, 0)) := K2.block I1'.out
  have F2 : Hid (w2.heap[w.heap.size + 1]? = some (.cells #[.int .i64 0, .int .u32 0] 100 (0, 0))) := K2.block F1'.out
  have G2 : Hid (Kep w w2) := kep_trans G1 K2
  have c8 := H2.pc
  have H2' : Hid (At w2 p s) := H2
  have I2' : Hid (w2.heap[w.heap.size]? = some (.cells (insA 74 a b imm) 128 (0, 0))) := I2
  clear H2 I2 K2 c9
  go_wp2_with (refine wpList_store_row (by rfl) 100 _ _ (by rfl) (w.heap.size + 1) _ (by rfl) (by rfl) 100 #[.int .i64 0, .int .u32 0] blkA (by exact size_flt) (by rfl) (by simp [Value.oneCell']) ?_)
  refine (FR.out _ H2'.out).mono ?_
  rintro e w3 ⟨rfl, K3⟩
  have H3 : At w3 p s := H2'.out.kep K3
  obtain ⟨j0, j1, j2, j3⟩ := ins_at (K3.block I2'.out)
  have F3 : Hid (w3.heap[w.heap.size + 1]? = some (.cells #[.int .i64 0, .int .u32 0] 100 (0, 0))) := K3.block F2.out
  have G3 : Hid (Kep w w3) := kep_trans G2 K3
  have H3' : Hid (At w3 p s) := H3
  have d8 := H3.pc
  have d6 := H3.reg 6 (by omega)
  have ez := row_frozen H3
  have hp1 : p ≠ w.heap.size + 1 := by omega
  clear H3 K3 c8
  go_wp2_with (refine wpList_store_row (by rfl) 100 _ _ (by rfl) (w.heap.size + 1) _ (by rfl) (by rfl) 100 #[.int .i64 0, .int .u32 0] blkA (by exact size_flt) (by rfl) (by simp [Value.oneCell']) ?_)
  try simp only [Exit.inBlock, Exit.then]
  refine bodyPost_ret (results_cell_row rfl _ _ (w.heap.size + 1) 100 _ (0, 0) _ (by rfl) (setRow_heap _ _ _ _ _ _ blkA) Tryz.underlying100 rfl (by exact size_flt)) rfl ⟨by rfl, putA, ?_⟩
  rw [hS.out]
  show At _ p _
  exact atA
set_option maxHeartbeats 1600000 in
set_option maxRecDepth 100000 in
theorem jump_72 (s : Sta) (a b : Nat) (imm v : Int) (p : Nat) (w : World) (h : At w p s) (ok : s.Ok) (ha : (a : Int) < 8) (h2 : -2147483648 ≤ imm) (h3 : imm ≤ 2147483647) :
    Calls Tryz.prog 132 #[.pointer (some ⟨p, 0, none⟩), .agg (insA 72 a b imm), .int .u32 v] w fun e w' => e = .returned (.agg (fltV (0, 0))) ∧ Put [p] w w' ∧ At w' p (jmpS s 72 a imm) := by
  have PL : Hid (∀ w, Calls Tryz.prog 148 #[.agg (insA 72 a b imm)] w fun e w' => e = .returned (besV imm 0) ∧ Kep w w') := fun w => place_call a b imm w
  have hh : holdsB 0 s.ps = true := by simp [holdsB]
  have GO : Hid (∀ w, Calls Tryz.prog 149 #[besV imm 0, .int .u32 s.ps] w fun e w' => e = .returned (.bool true) ∧ Kep w w') := fun w => by have := goes_bes imm 0 s.ps w ok.ps.1 ok.ps.2; rw [hh] at this; exact this
  have FR : Hid (∀ w, At w p s → Calls Tryz.prog 201 #[.agg #[.int .i32 imm, .int .i64 0], .pointer (some ⟨p, 0, none⟩)] w fun e w' => e = .returned (.int .u32 ((s.pc + imm % 4294967296) % 4294967296)) ∧ Kep w w') := fun w h => from_bes s imm 0 p w h ok h2 h3
  have hS : Hid (jmpS s 72 a imm = ((s.go ((s.pc + imm % 4294967296) % 4294967296)).reg 6 s.pc)) := by
    unfold Hid jmpS jgoes jto linkS
    simp [hh]
  generalize jmpS s 72 a imm = S' at *
  clear hh
  have mt := meth_bes imm 0
  have H : Hid (At w p s) := h
  have lp := h.lt
  generalize hT : (s.pc + imm % 4294967296) % 4294967296 = T at *
  clear hT
  clear h ok h2 h3
  go_enter Tryz.func132, Tryz.ntmps132
  go_wp2_with fail
  refine (PL.out _).mono ?_
  rintro e w1 ⟨rfl, K1⟩
  have H1 : At w1 p s := (H.out.kep (((Kep.refl _).alloc _).alloc _)).kep K1
  have I1 : w1.heap[w.heap.size]? = some (.cells (insA 72 a b imm) 128 (0, 0)) := K1.block blkA
  have F1 : w1.heap[w.heap.size + 1]? = some (.cells #[.int .i64 0, .int .u32 0] 100 (0, 0)) := K1.block blkA
  have G1 : Hid (Kep w w1) := kep_trans (((Kep.refl _).alloc _).alloc _) K1
  have c9 := H1.ps
  have H1' : Hid (At w1 p s) := H1
  have I1' : Hid (w1.heap[w.heap.size]? = some (.cells (insA 72 a b imm) 128 (0, 0))) := I1
  have F1' : Hid (w1.heap[w.heap.size + 1]? = some (.cells #[.int .i64 0, .int .u32 0] 100 (0, 0))) := F1
  clear H1 I1 F1 K1
  go_wp2_with fail
  refine (GO.out _).mono ?_
  rintro e w2 ⟨rfl, K2⟩
  have H2 : At w2 p s := H1'.out.kep K2
  have I2 : w2.heap[w.heap.size]? = some (.cells (insA 72 a b imm) 128 (0, 0)) := K2.block I1'.out
  have F2 : Hid (w2.heap[w.heap.size + 1]? = some (.cells #[.int .i64 0, .int .u32 0] 100 (0, 0))) := K2.block F1'.out
  have G2 : Hid (Kep w w2) := kep_trans G1 K2
  have c8 := H2.pc
  have H2' : Hid (At w2 p s) := H2
  have I2' : Hid (w2.heap[w.heap.size]? = some (.cells (insA 72 a b imm) 128 (0, 0))) := I2
  clear H2 I2 K2 c9
  go_wp2_with (refine wpList_store_row (by rfl) 100 _ _ (by rfl) (w.heap.size + 1) _ (by rfl) (by rfl) 100 #[.int .i64 0, .int .u32 0] blkA (by exact size_flt) (by rfl) (by simp [Value.oneCell']) ?_)
  refine (FR.out _ H2'.out).mono ?_
  rintro e w3 ⟨rfl, K3⟩
  have H3 : At w3 p s := H2'.out.kep K3
  obtain ⟨j0, j1, j2, j3⟩ := ins_at (K3.block I2'.out)
  have F3 : Hid (w3.heap[w.heap.size + 1]? = some (.cells #[.int .i64 0, .int .u32 0] 100 (0, 0))) := K3.block F2.out
  have G3 : Hid (Kep w w3) := kep_trans G2 K3
  have H3' : Hid (At w3 p s) := H3
  have d8 := H3.pc
  have d6 := H3.reg 6 (by omega)
  have ez := row_frozen H3
  have hp1 : p ≠ w.heap.size + 1 := by omega
  clear H3 K3 c8
  go_wp2_with (refine wpList_store_row (by rfl) 100 _ _ (by rfl) (w.heap.size + 1) _ (by rfl) (by rfl) 100 #[.int .i64 0, .int .u32 0] blkA (by exact size_flt) (by rfl) (by simp [Value.oneCell']) ?_)
  try simp only [Exit.inBlock, Exit.then]
  refine bodyPost_ret (results_cell_row rfl _ _ (w.heap.size + 1) 100 _ (0, 0) _ (by rfl) (setRow_heap _ _ _ _ _ _ blkA) Tryz.underlying100 rfl (by exact size_flt)) rfl ⟨by rfl, putA, ?_⟩
  rw [hS.out]
  show At _ p _
  exact atA
set_option maxHeartbeats 1600000 in
set_option maxRecDepth 100000 in
theorem jump_jmp (s : Sta) (op : Int) (a b : Nat) (imm v : Int) (p : Nat) (w : World) (h : At w p s) (ok : s.Ok) (ha : (a : Int) < 8) (h2 : -2147483648 ≤ imm) (h3 : imm ≤ 2147483647) (hop : 64 ≤ op ∧ op ≤ 71) :
    Calls Tryz.prog 132 #[.pointer (some ⟨p, 0, none⟩), .agg (insA op a b imm), .int .u32 v] w fun e w' => e = .returned (.agg (fltV (0, 0))) ∧ Put [p] w w' ∧ At w' p (jmpS s op a imm) := by
  have PL : Hid (∀ w, Calls Tryz.prog 148 #[.agg (insA op a b imm)] w fun e w' => e = .returned (besV imm (op - 64)) ∧ Kep w w') := fun w => place_jmp op a b imm w hop
  have GO : Hid (∀ w, Calls Tryz.prog 149 #[besV imm (op - 64), .int .u32 s.ps] w fun e w' => e = .returned (.bool (holdsB (op - 64) s.ps)) ∧ Kep w w') := fun w => goes_bes imm (op - 64) s.ps w ok.ps.1 ok.ps.2
  have FR : Hid (∀ w, At w p s → Calls Tryz.prog 201 #[.agg #[.int .i32 imm, .int .i64 (op - 64)], .pointer (some ⟨p, 0, none⟩)] w fun e w' => e = .returned (.int .u32 ((s.pc + imm % 4294967296) % 4294967296)) ∧ Kep w w') := fun w h => from_bes s imm (op - 64) p w h ok h2 h3
  have hS : Hid (jmpS s op a imm = if holdsB (op - 64) s.ps then (s.go ((s.pc + imm % 4294967296) % 4294967296)) else s) := by
    unfold Hid jmpS jgoes jto linkS
    rw [if_neg (show ¬ (op = 73 ∨ op = 74) by omega), if_neg (show ¬ op = 72 by omega), if_neg (show ¬ (op = 73 ∨ op = 74) by omega), if_neg (show ¬ (op = 72 ∨ op = 74) by omega)]
  generalize jmpS s op a imm = S' at *
  generalize holdsB (op - 64) s.ps = gb at *
  have mt := meth_bes imm (op - 64)
  have H : Hid (At w p s) := h
  have lp := h.lt
  have x1 := ne_lit (op := op) (k := 72) (by omega)
  have x3 := ne_lit (op := op) (k := 74) (by omega)
  generalize hT : (s.pc + imm % 4294967296) % 4294967296 = T at *
  clear hT
  clear h ok h2 h3 hop
  go_enter Tryz.func132, Tryz.ntmps132
  go_wp2_with fail
  refine (PL.out _).mono ?_
  rintro e w1 ⟨rfl, K1⟩
  have H1 : At w1 p s := (H.out.kep (((Kep.refl _).alloc _).alloc _)).kep K1
  have I1 : w1.heap[w.heap.size]? = some (.cells (insA op a b imm) 128 (0, 0)) := K1.block blkA
  have F1 : w1.heap[w.heap.size + 1]? = some (.cells #[.int .i64 0, .int .u32 0] 100 (0, 0)) := K1.block blkA
  have G1 : Hid (Kep w w1) := kep_trans (((Kep.refl _).alloc _).alloc _) K1
  have c9 := H1.ps
  have H1' : Hid (At w1 p s) := H1
  have I1' : Hid (w1.heap[w.heap.size]? = some (.cells (insA op a b imm) 128 (0, 0))) := I1
  have F1' : Hid (w1.heap[w.heap.size + 1]? = some (.cells #[.int .i64 0, .int .u32 0] 100 (0, 0))) := F1
  clear H1 I1 F1 K1
  go_wp2_with fail
  refine (GO.out _).mono ?_
  rintro e w2 ⟨rfl, K2⟩
  have H2 : At w2 p s := H1'.out.kep K2
  have I2 : w2.heap[w.heap.size]? = some (.cells (insA op a b imm) 128 (0, 0)) := K2.block I1'.out
  have F2 : Hid (w2.heap[w.heap.size + 1]? = some (.cells #[.int .i64 0, .int .u32 0] 100 (0, 0))) := K2.block F1'.out
  have G2 : Hid (Kep w w2) := kep_trans G1 K2
  have c8 := H2.pc
  have H2' : Hid (At w2 p s) := H2
  have I2' : Hid (w2.heap[w.heap.size]? = some (.cells (insA op a b imm) 128 (0, 0))) := I2
  clear H2 I2 K2 c9
  cases gb
  · go_wp2_with (refine wpList_store_row (by rfl) 100 _ _ (by rfl) (w.heap.size + 1) _ (by rfl) (by rfl) 100 #[.int .i64 0, .int .u32 0] blkA (by exact size_flt) (by rfl) (by simp [Value.oneCell']) ?_)
    try simp only [Exit.inBlock, Exit.then]
    refine bodyPost_ret (results_cell_row rfl _ _ (w.heap.size + 1) 100 _ (0, 0) _ (by rfl) (setRow_heap _ _ _ _ _ _ blkA) Tryz.underlying100 rfl (by exact size_flt)) rfl ⟨by rfl, putA, ?_⟩
    rw [hS.out]
    simp only [Bool.false_eq_true, if_false]
    exact atA
  go_wp2_with (refine wpList_store_row (by rfl) 100 _ _ (by rfl) (w.heap.size + 1) _ (by rfl) (by rfl) 100 #[.int .i64 0, .int .u32 0] blkA (by exact size_flt) (by rfl) (by simp [Value.oneCell']) ?_)
  refine (FR.out _ H2'.out).mono ?_
  rintro e w3 ⟨rfl, K3⟩
  have H3 : At w3 p s := H2'.out.kep K3
  obtain ⟨j0, j1, j2, j3⟩ := ins_at (K3.block I2'.out)
  have F3 : Hid (w3.heap[w.heap.size + 1]? = some (.cells #[.int .i64 0, .int .u32 0] 100 (0, 0))) := K3.block F2.out
  have G3 : Hid (Kep w w3) := kep_trans G2 K3
  have H3' : Hid (At w3 p s) := H3
  have d8 := H3.pc
  have d6 := H3.reg 6 (by omega)
  have ez := row_frozen H3
  have hp1 : p ≠ w.heap.size + 1 := by omega
  clear H3 K3 c8
  go_wp2_with (refine wpList_store_row (by rfl) 100 _ _ (by rfl) (w.heap.size + 1) _ (by rfl) (by rfl) 100 #[.int .i64 0, .int .u32 0] blkA (by exact size_flt) (by rfl) (by simp [Value.oneCell']) ?_)
  try simp only [Exit.inBlock, Exit.then]
  refine bodyPost_ret (results_cell_row rfl _ _ (w.heap.size + 1) 100 _ (0, 0) _ (by rfl) (setRow_heap _ _ _ _ _ _ blkA) Tryz.underlying100 rfl (by exact size_flt)) rfl ⟨by rfl, putA, ?_⟩
  rw [hS.out]
  simp only [if_true]
  exact atA
theorem jump_any (s : Sta) (op : Int) (a b : Nat) (imm v : Int) (p : Nat) (w : World) (h : At w p s) (ok : s.Ok) (m : 64 ≤ op ∧ op ≤ 74) (ha : (a : Int) < 8) (h2 : -2147483648 ≤ imm) (h3 : imm ≤ 2147483647) :
    Calls Tryz.prog 132 #[.pointer (some ⟨p, 0, none⟩), .agg (insA op a b imm), .int .u32 v] w fun e w' => e = .returned (.agg (fltV (0, 0))) ∧ Put [p] w w' ∧ At w' p (jmpS s op a imm) := by
  rcases jmp_ops m with rfl | rfl | rfl | hop
  · exact jump_73 s a b imm v p w h ok ha h2 h3
  · exact jump_74 s a b imm v p w h ok ha h2 h3
  · exact jump_72 s a b imm v p w h ok ha h2 h3
  · exact jump_jmp s op a b imm v p w h ok ha h2 h3 hop
set_option maxHeartbeats 800000 in
theorem idle_any (x : Value) (op a b imm v : Int) (w : World) :
    Calls Tryz.prog 129 #[x, .agg (insA op a b imm), .int .u32 v] w fun e w' => e = .returned (.agg (fltV (0, 0))) ∧ Kep w w' := by
  go_enter Tryz.func129, Tryz.ntmps129
  go_wp2
  refine bodyPost_ret (results_cell_row rfl _ _ _ 100 _ (0, 0) _ (by rfl) blkA Tryz.underlying100 rfl (by exact size_flt)) rfl ⟨by rfl, kepA⟩
set_option maxHeartbeats 800000 in
theorem ask_any (x : Value) (op a b imm v : Int) (w : World) (h2 : -2147483648 ≤ imm) (h3 : imm ≤ 2147483647) :
    Calls Tryz.prog 133 #[x, .agg (insA op a b imm), .int .u32 v] w fun e w' => e = .returned (.agg (fltV (8, imm % 4294967296))) ∧ Kep w w' := by
  go_enter Tryz.func133, Tryz.ntmps133
  go_wp2
  refine bodyPost_ret (results_cell_row rfl _ _ _ 100 _ (0, 0) _ (by rfl) blkA Tryz.underlying100 rfl (by exact size_flt)) rfl ⟨by simp [IntKind.wrap_u32], kepA⟩
end Go.Proofs.YtnignfloedcmlaaGreatDoor
