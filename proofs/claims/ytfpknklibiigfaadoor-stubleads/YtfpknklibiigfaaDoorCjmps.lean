/- jump, idle, ask. By mkjump.py. -/
import Derived.Test.YtfpknklibiigfaaDoorCjump
import Derived.Test.YtfpknklibiigfaaDoorAuto
namespace Go.Proofs.YtfpknklibiigfaaDoor
open Go.RowKit
set_option linter.unusedVariables false
set_option linter.unusedSimpArgs false

set_option maxHeartbeats 1600000 in
set_option maxRecDepth 100000 in
theorem jump_73 (s : Sta) (a b : Nat) (imm v : Int) (p : Nat) (w : World) (h : At w p s) (ok : s.Ok) (ha : (a : Int) < 8) (h2 : -2147483648 ≤ imm) (h3 : imm ≤ 2147483647) :
    Calls Tryd.prog 36 #[.pointer (some ⟨p, 0, none⟩), .agg (insA 73 a b imm), .int .u32 v] w fun e w' => e = .returned (.agg (fltV (0, 0))) ∧ Put [p] w w' ∧ At w' p (jmpS s 73 a imm) := by
  have PL : Hid (∀ w, Calls Tryd.prog 42 #[.agg (insA 73 a b imm)] w fun e w' => e = .returned (heldV a) ∧ Kep w w') := fun w => place_held 73 a b imm w (by simp)
  have GO : Hid (∀ w, Calls Tryd.prog 43 #[heldV a, .int .u32 s.ps] w fun e w' => e = .returned (.bool true) ∧ Kep w w') := fun w => goes_held a s.ps w
  have FR : Hid (∀ w, At w p s → Calls Tryd.prog 90 #[.int .u8 a, .pointer (some ⟨p, 0, none⟩)] w fun e w' => e = .returned (.int .u32 (s.r a)) ∧ Kep w w') := fun w h => from_held s a p w h ha
  have hS : Hid (jmpS s 73 a imm = (s.go (s.r a))) := by
    unfold Hid jmpS jgoes jto linkS
    simp
  generalize jmpS s 73 a imm = S' at *
  have mt := meth_held a
  have H : Hid (At w p s) := h
  have lp := h.lt
  clear h ok h2 h3 
  go_enter Tryd.func36, Tryd.ntmps36
  go_wp2_with fail
  refine (PL.out _).mono ?_
  rintro e w1 ⟨rfl, K1⟩
  have H1 : At w1 p s := (H.out.kep (((Kep.refl _).alloc _).alloc _)).kep K1
  have I1 : w1.heap[w.heap.size]? = some (.cells (insA 73 a b imm) 37 (0, 0)) := K1.block blkA
  have F1 : w1.heap[w.heap.size + 1]? = some (.cells #[.int .i64 0, .int .u32 0] 45 (0, 0)) := K1.block blkA
  have G1 : Hid (Kep w w1) := kep_trans (((Kep.refl _).alloc _).alloc _) K1
  have c9 := H1.ps
  have H1' : Hid (At w1 p s) := H1
  have I1' : Hid (w1.heap[w.heap.size]? = some (.cells (insA 73 a b imm) 37 (0, 0))) := I1
  have F1' : Hid (w1.heap[w.heap.size + 1]? = some (.cells #[.int .i64 0, .int .u32 0] 45 (0, 0))) := F1
  clear H1 I1 F1 K1
  go_wp2_with fail
  refine (GO.out _).mono ?_
  rintro e w2 ⟨rfl, K2⟩
  have H2 : At w2 p s := H1'.out.kep K2
  have I2 : w2.heap[w.heap.size]? = some (.cells (insA 73 a b imm) 37 (0, 0)) := K2.block I1'.out
  have F2 : Hid (w2.heap[w.heap.size + 1]? = some (.cells #[.int .i64 0, .int .u32 0] 45 (0, 0))) := K2.block F1'.out
  have G2 : Hid (Kep w w2) := kep_trans G1 K2
  have c8 := H2.pc
  have H2' : Hid (At w2 p s) := H2
  have I2' : Hid (w2.heap[w.heap.size]? = some (.cells (insA 73 a b imm) 37 (0, 0))) := I2
  clear H2 I2 K2 c9
  go_wp2_with (refine wpList_store_row (by rfl) 45 _ _ (by rfl) (w.heap.size + 1) _ (by rfl) (by rfl) 45 #[.int .i64 0, .int .u32 0] blkA (by exact size_flt) (by rfl) (by simp [Value.oneCell']) ?_)
  refine (FR.out _ H2'.out).mono ?_
  rintro e w3 ⟨rfl, K3⟩
  have H3 : At w3 p s := H2'.out.kep K3
  obtain ⟨j0, j1, j2, j3⟩ := ins_at (K3.block I2'.out)
  have F3 : Hid (w3.heap[w.heap.size + 1]? = some (.cells #[.int .i64 0, .int .u32 0] 45 (0, 0))) := K3.block F2.out
  have G3 : Hid (Kep w w3) := kep_trans G2 K3
  have H3' : Hid (At w3 p s) := H3
  have d8 := H3.pc
  have d6 := H3.reg 6 (by omega)
  have ez := row_frozen H3
  have hp1 : p ≠ w.heap.size + 1 := by omega
  clear H3 K3 c8
  go_wp2_with (refine wpList_store_row (by rfl) 45 _ _ (by rfl) (w.heap.size + 1) _ (by rfl) (by rfl) 45 #[.int .i64 0, .int .u32 0] blkA (by exact size_flt) (by rfl) (by simp [Value.oneCell']) ?_)
  try simp only [Exit.inBlock, Exit.then]
  refine bodyPost_ret (results_cell_row rfl _ _ (w.heap.size + 1) 45 _ (0, 0) _ (by rfl) (setRow_heap _ _ _ _ _ _ blkA) Tryd.underlying45 rfl (by exact size_flt)) rfl ⟨by rfl, putA, ?_⟩
  rw [hS.out]
  show At _ p _
  exact atA

set_option maxHeartbeats 1600000 in
set_option maxRecDepth 100000 in
theorem jump_74 (s : Sta) (a b : Nat) (imm v : Int) (p : Nat) (w : World) (h : At w p s) (ok : s.Ok) (ha : (a : Int) < 8) (h2 : -2147483648 ≤ imm) (h3 : imm ≤ 2147483647) :
    Calls Tryd.prog 36 #[.pointer (some ⟨p, 0, none⟩), .agg (insA 74 a b imm), .int .u32 v] w fun e w' => e = .returned (.agg (fltV (0, 0))) ∧ Put [p] w w' ∧ At w' p (jmpS s 74 a imm) := by
  have PL : Hid (∀ w, Calls Tryd.prog 42 #[.agg (insA 74 a b imm)] w fun e w' => e = .returned (heldV a) ∧ Kep w w') := fun w => place_held 74 a b imm w (by simp)
  have GO : Hid (∀ w, Calls Tryd.prog 43 #[heldV a, .int .u32 s.ps] w fun e w' => e = .returned (.bool true) ∧ Kep w w') := fun w => goes_held a s.ps w
  have FR : Hid (∀ w, At w p s → Calls Tryd.prog 90 #[.int .u8 a, .pointer (some ⟨p, 0, none⟩)] w fun e w' => e = .returned (.int .u32 (s.r a)) ∧ Kep w w') := fun w h => from_held s a p w h ha
  have hS : Hid (jmpS s 74 a imm = ((s.go (s.r a)).reg 6 s.pc)) := by
    unfold Hid jmpS jgoes jto linkS
    simp
  generalize jmpS s 74 a imm = S' at *
  have mt := meth_held a
  have H : Hid (At w p s) := h
  have lp := h.lt
  clear h ok h2 h3 
  go_enter Tryd.func36, Tryd.ntmps36
  go_wp2_with fail
  refine (PL.out _).mono ?_
  rintro e w1 ⟨rfl, K1⟩
  have H1 : At w1 p s := (H.out.kep (((Kep.refl _).alloc _).alloc _)).kep K1
  have I1 : w1.heap[w.heap.size]? = some (.cells (insA 74 a b imm) 37 (0, 0)) := K1.block blkA
  have F1 : w1.heap[w.heap.size + 1]? = some (.cells #[.int .i64 0, .int .u32 0] 45 (0, 0)) := K1.block blkA
  have G1 : Hid (Kep w w1) := kep_trans (((Kep.refl _).alloc _).alloc _) K1
  have c9 := H1.ps
  have H1' : Hid (At w1 p s) := H1
  have I1' : Hid (w1.heap[w.heap.size]? = some (.cells (insA 74 a b imm) 37 (0, 0))) := I1
  have F1' : Hid (w1.heap[w.heap.size + 1]? = some (.cells #[.int .i64 0, .int .u32 0] 45 (0, 0))) := F1
  clear H1 I1 F1 K1
  go_wp2_with fail
  refine (GO.out _).mono ?_
  rintro e w2 ⟨rfl, K2⟩
  have H2 : At w2 p s := H1'.out.kep K2
  have I2 : w2.heap[w.heap.size]? = some (.cells (insA 74 a b imm) 37 (0, 0)) := K2.block I1'.out
  have F2 : Hid (w2.heap[w.heap.size + 1]? = some (.cells #[.int .i64 0, .int .u32 0] 45 (0, 0))) := K2.block F1'.out
  have G2 : Hid (Kep w w2) := kep_trans G1 K2
  have c8 := H2.pc
  have H2' : Hid (At w2 p s) := H2
  have I2' : Hid (w2.heap[w.heap.size]? = some (.cells (insA 74 a b imm) 37 (0, 0))) := I2
  clear H2 I2 K2 c9
  go_wp2_with (refine wpList_store_row (by rfl) 45 _ _ (by rfl) (w.heap.size + 1) _ (by rfl) (by rfl) 45 #[.int .i64 0, .int .u32 0] blkA (by exact size_flt) (by rfl) (by simp [Value.oneCell']) ?_)
  refine (FR.out _ H2'.out).mono ?_
  rintro e w3 ⟨rfl, K3⟩
  have H3 : At w3 p s := H2'.out.kep K3
  obtain ⟨j0, j1, j2, j3⟩ := ins_at (K3.block I2'.out)
  have F3 : Hid (w3.heap[w.heap.size + 1]? = some (.cells #[.int .i64 0, .int .u32 0] 45 (0, 0))) := K3.block F2.out
  have G3 : Hid (Kep w w3) := kep_trans G2 K3
  have H3' : Hid (At w3 p s) := H3
  have d8 := H3.pc
  have d6 := H3.reg 6 (by omega)
  have ez := row_frozen H3
  have hp1 : p ≠ w.heap.size + 1 := by omega
  clear H3 K3 c8
  go_wp2_with (refine wpList_store_row (by rfl) 45 _ _ (by rfl) (w.heap.size + 1) _ (by rfl) (by rfl) 45 #[.int .i64 0, .int .u32 0] blkA (by exact size_flt) (by rfl) (by simp [Value.oneCell']) ?_)
  try simp only [Exit.inBlock, Exit.then]
  refine bodyPost_ret (results_cell_row rfl _ _ (w.heap.size + 1) 45 _ (0, 0) _ (by rfl) (setRow_heap _ _ _ _ _ _ blkA) Tryd.underlying45 rfl (by exact size_flt)) rfl ⟨by rfl, putA, ?_⟩
  rw [hS.out]
  show At _ p _
  exact atA

set_option maxHeartbeats 1600000 in
set_option maxRecDepth 100000 in
theorem jump_72 (s : Sta) (a b : Nat) (imm v : Int) (p : Nat) (w : World) (h : At w p s) (ok : s.Ok) (ha : (a : Int) < 8) (h2 : -2147483648 ≤ imm) (h3 : imm ≤ 2147483647) :
    Calls Tryd.prog 36 #[.pointer (some ⟨p, 0, none⟩), .agg (insA 72 a b imm), .int .u32 v] w fun e w' => e = .returned (.agg (fltV (0, 0))) ∧ Put [p] w w' ∧ At w' p (jmpS s 72 a imm) := by
  have PL : Hid (∀ w, Calls Tryd.prog 42 #[.agg (insA 72 a b imm)] w fun e w' => e = .returned (besV imm 0) ∧ Kep w w') := fun w => place_call a b imm w
  have hh : holdsB 0 s.ps = true := by simp [holdsB]
  have GO : Hid (∀ w, Calls Tryd.prog 43 #[besV imm 0, .int .u32 s.ps] w fun e w' => e = .returned (.bool true) ∧ Kep w w') := fun w => by have := goes_bes imm 0 s.ps w ok.ps.1 ok.ps.2; rw [hh] at this; exact this
  have FR : Hid (∀ w, At w p s → Calls Tryd.prog 91 #[.agg #[.int .i32 imm, .int .i64 0], .pointer (some ⟨p, 0, none⟩)] w fun e w' => e = .returned (.int .u32 ((s.pc + imm % 4294967296) % 4294967296)) ∧ Kep w w') := fun w h => from_bes s imm 0 p w h ok h2 h3
  have hS : Hid (jmpS s 72 a imm = ((s.go ((s.pc + imm % 4294967296) % 4294967296)).reg 6 s.pc)) := by
    unfold Hid jmpS jgoes jto linkS
    simp [hh]
  generalize jmpS s 72 a imm = S' at *
  clear hh
  have mt := meth_bes imm 0
  have H : Hid (At w p s) := h
  have lp := h.lt
  generalize hT : (s.pc + imm % 4294967296) % 4294967296 = T at *
  clear hT
  clear h ok h2 h3 
  go_enter Tryd.func36, Tryd.ntmps36
  go_wp2_with fail
  refine (PL.out _).mono ?_
  rintro e w1 ⟨rfl, K1⟩
  have H1 : At w1 p s := (H.out.kep (((Kep.refl _).alloc _).alloc _)).kep K1
  have I1 : w1.heap[w.heap.size]? = some (.cells (insA 72 a b imm) 37 (0, 0)) := K1.block blkA
  have F1 : w1.heap[w.heap.size + 1]? = some (.cells #[.int .i64 0, .int .u32 0] 45 (0, 0)) := K1.block blkA
  have G1 : Hid (Kep w w1) := kep_trans (((Kep.refl _).alloc _).alloc _) K1
  have c9 := H1.ps
  have H1' : Hid (At w1 p s) := H1
  have I1' : Hid (w1.heap[w.heap.size]? = some (.cells (insA 72 a b imm) 37 (0, 0))) := I1
  have F1' : Hid (w1.heap[w.heap.size + 1]? = some (.cells #[.int .i64 0, .int .u32 0] 45 (0, 0))) := F1
  clear H1 I1 F1 K1
  go_wp2_with fail
  refine (GO.out _).mono ?_
  rintro e w2 ⟨rfl, K2⟩
  have H2 : At w2 p s := H1'.out.kep K2
  have I2 : w2.heap[w.heap.size]? = some (.cells (insA 72 a b imm) 37 (0, 0)) := K2.block I1'.out
  have F2 : Hid (w2.heap[w.heap.size + 1]? = some (.cells #[.int .i64 0, .int .u32 0] 45 (0, 0))) := K2.block F1'.out
  have G2 : Hid (Kep w w2) := kep_trans G1 K2
  have c8 := H2.pc
  have H2' : Hid (At w2 p s) := H2
  have I2' : Hid (w2.heap[w.heap.size]? = some (.cells (insA 72 a b imm) 37 (0, 0))) := I2
  clear H2 I2 K2 c9
  go_wp2_with (refine wpList_store_row (by rfl) 45 _ _ (by rfl) (w.heap.size + 1) _ (by rfl) (by rfl) 45 #[.int .i64 0, .int .u32 0] blkA (by exact size_flt) (by rfl) (by simp [Value.oneCell']) ?_)
  refine (FR.out _ H2'.out).mono ?_
  rintro e w3 ⟨rfl, K3⟩
  have H3 : At w3 p s := H2'.out.kep K3
  obtain ⟨j0, j1, j2, j3⟩ := ins_at (K3.block I2'.out)
  have F3 : Hid (w3.heap[w.heap.size + 1]? = some (.cells #[.int .i64 0, .int .u32 0] 45 (0, 0))) := K3.block F2.out
  have G3 : Hid (Kep w w3) := kep_trans G2 K3
  have H3' : Hid (At w3 p s) := H3
  have d8 := H3.pc
  have d6 := H3.reg 6 (by omega)
  have ez := row_frozen H3
  have hp1 : p ≠ w.heap.size + 1 := by omega
  clear H3 K3 c8
  go_wp2_with (refine wpList_store_row (by rfl) 45 _ _ (by rfl) (w.heap.size + 1) _ (by rfl) (by rfl) 45 #[.int .i64 0, .int .u32 0] blkA (by exact size_flt) (by rfl) (by simp [Value.oneCell']) ?_)
  try simp only [Exit.inBlock, Exit.then]
  refine bodyPost_ret (results_cell_row rfl _ _ (w.heap.size + 1) 45 _ (0, 0) _ (by rfl) (setRow_heap _ _ _ _ _ _ blkA) Tryd.underlying45 rfl (by exact size_flt)) rfl ⟨by rfl, putA, ?_⟩
  rw [hS.out]
  show At _ p _
  exact atA

set_option maxHeartbeats 1600000 in
set_option maxRecDepth 100000 in
theorem jump_jmp (s : Sta) (op : Int) (a b : Nat) (imm v : Int) (p : Nat) (w : World) (h : At w p s) (ok : s.Ok) (ha : (a : Int) < 8) (h2 : -2147483648 ≤ imm) (h3 : imm ≤ 2147483647) (hop : 64 ≤ op ∧ op ≤ 71) :
    Calls Tryd.prog 36 #[.pointer (some ⟨p, 0, none⟩), .agg (insA op a b imm), .int .u32 v] w fun e w' => e = .returned (.agg (fltV (0, 0))) ∧ Put [p] w w' ∧ At w' p (jmpS s op a imm) := by
  have PL : Hid (∀ w, Calls Tryd.prog 42 #[.agg (insA op a b imm)] w fun e w' => e = .returned (besV imm (op - 64)) ∧ Kep w w') := fun w => place_jmp op a b imm w hop
  have GO : Hid (∀ w, Calls Tryd.prog 43 #[besV imm (op - 64), .int .u32 s.ps] w fun e w' => e = .returned (.bool (holdsB (op - 64) s.ps)) ∧ Kep w w') := fun w => goes_bes imm (op - 64) s.ps w ok.ps.1 ok.ps.2
  have FR : Hid (∀ w, At w p s → Calls Tryd.prog 91 #[.agg #[.int .i32 imm, .int .i64 (op - 64)], .pointer (some ⟨p, 0, none⟩)] w fun e w' => e = .returned (.int .u32 ((s.pc + imm % 4294967296) % 4294967296)) ∧ Kep w w') := fun w h => from_bes s imm (op - 64) p w h ok h2 h3
  have hS : Hid (jmpS s op a imm = if holdsB (op - 64) s.ps then (s.go ((s.pc + imm % 4294967296) % 4294967296)) else s) := by
    unfold Hid jmpS jgoes jto linkS
    rw [if_neg (show ¬ (op = 73 ∨ op = 74) by omega), if_neg (show ¬ op = 72 by omega), if_neg (show ¬ (op = 73 ∨ op = 74) by omega), if_neg (show ¬ (op = 72 ∨ op = 74) by omega)]
  generalize jmpS s op a imm = S' at *
  generalize holdsB (op - 64) s.ps = gb at *
  have mt := meth_bes imm (op - 64)
  have H : Hid (At w p s) := h
  have lp := h.lt
  have x1 := ne_lit (op := op) (k := 72) (by omega)
  have x3 := ne_lit (op := op) (k := 74) (by omega)
  generalize hT : (s.pc + imm % 4294967296) % 4294967296 = T at *
  clear hT
  clear h ok h2 h3 hop
  go_enter Tryd.func36, Tryd.ntmps36
  go_wp2_with fail
  refine (PL.out _).mono ?_
  rintro e w1 ⟨rfl, K1⟩
  have H1 : At w1 p s := (H.out.kep (((Kep.refl _).alloc _).alloc _)).kep K1
  have I1 : w1.heap[w.heap.size]? = some (.cells (insA op a b imm) 37 (0, 0)) := K1.block blkA
  have F1 : w1.heap[w.heap.size + 1]? = some (.cells #[.int .i64 0, .int .u32 0] 45 (0, 0)) := K1.block blkA
  have G1 : Hid (Kep w w1) := kep_trans (((Kep.refl _).alloc _).alloc _) K1
  have c9 := H1.ps
  have H1' : Hid (At w1 p s) := H1
  have I1' : Hid (w1.heap[w.heap.size]? = some (.cells (insA op a b imm) 37 (0, 0))) := I1
  have F1' : Hid (w1.heap[w.heap.size + 1]? = some (.cells #[.int .i64 0, .int .u32 0] 45 (0, 0))) := F1
  clear H1 I1 F1 K1
  go_wp2_with fail
  refine (GO.out _).mono ?_
  rintro e w2 ⟨rfl, K2⟩
  have H2 : At w2 p s := H1'.out.kep K2
  have I2 : w2.heap[w.heap.size]? = some (.cells (insA op a b imm) 37 (0, 0)) := K2.block I1'.out
  have F2 : Hid (w2.heap[w.heap.size + 1]? = some (.cells #[.int .i64 0, .int .u32 0] 45 (0, 0))) := K2.block F1'.out
  have G2 : Hid (Kep w w2) := kep_trans G1 K2
  have c8 := H2.pc
  have H2' : Hid (At w2 p s) := H2
  have I2' : Hid (w2.heap[w.heap.size]? = some (.cells (insA op a b imm) 37 (0, 0))) := I2
  clear H2 I2 K2 c9
  cases gb
  · go_wp2_with (refine wpList_store_row (by rfl) 45 _ _ (by rfl) (w.heap.size + 1) _ (by rfl) (by rfl) 45 #[.int .i64 0, .int .u32 0] blkA (by exact size_flt) (by rfl) (by simp [Value.oneCell']) ?_)
    try simp only [Exit.inBlock, Exit.then]
    refine bodyPost_ret (results_cell_row rfl _ _ (w.heap.size + 1) 45 _ (0, 0) _ (by rfl) (setRow_heap _ _ _ _ _ _ blkA) Tryd.underlying45 rfl (by exact size_flt)) rfl ⟨by rfl, putA, ?_⟩
    rw [hS.out]
    simp only [Bool.false_eq_true, if_false]
    exact atA
  go_wp2_with (refine wpList_store_row (by rfl) 45 _ _ (by rfl) (w.heap.size + 1) _ (by rfl) (by rfl) 45 #[.int .i64 0, .int .u32 0] blkA (by exact size_flt) (by rfl) (by simp [Value.oneCell']) ?_)
  refine (FR.out _ H2'.out).mono ?_
  rintro e w3 ⟨rfl, K3⟩
  have H3 : At w3 p s := H2'.out.kep K3
  obtain ⟨j0, j1, j2, j3⟩ := ins_at (K3.block I2'.out)
  have F3 : Hid (w3.heap[w.heap.size + 1]? = some (.cells #[.int .i64 0, .int .u32 0] 45 (0, 0))) := K3.block F2.out
  have G3 : Hid (Kep w w3) := kep_trans G2 K3
  have H3' : Hid (At w3 p s) := H3
  have d8 := H3.pc
  have d6 := H3.reg 6 (by omega)
  have ez := row_frozen H3
  have hp1 : p ≠ w.heap.size + 1 := by omega
  clear H3 K3 c8
  go_wp2_with (refine wpList_store_row (by rfl) 45 _ _ (by rfl) (w.heap.size + 1) _ (by rfl) (by rfl) 45 #[.int .i64 0, .int .u32 0] blkA (by exact size_flt) (by rfl) (by simp [Value.oneCell']) ?_)
  try simp only [Exit.inBlock, Exit.then]
  refine bodyPost_ret (results_cell_row rfl _ _ (w.heap.size + 1) 45 _ (0, 0) _ (by rfl) (setRow_heap _ _ _ _ _ _ blkA) Tryd.underlying45 rfl (by exact size_flt)) rfl ⟨by rfl, putA, ?_⟩
  rw [hS.out]
  simp only [if_true]
  exact atA

theorem jump_any (s : Sta) (op : Int) (a b : Nat) (imm v : Int) (p : Nat) (w : World) (h : At w p s) (ok : s.Ok) (m : 64 ≤ op ∧ op ≤ 74) (ha : (a : Int) < 8) (h2 : -2147483648 ≤ imm) (h3 : imm ≤ 2147483647) :
    Calls Tryd.prog 36 #[.pointer (some ⟨p, 0, none⟩), .agg (insA op a b imm), .int .u32 v] w fun e w' => e = .returned (.agg (fltV (0, 0))) ∧ Put [p] w w' ∧ At w' p (jmpS s op a imm) := by
  rcases jmp_ops m with rfl | rfl | rfl | hop
  · exact jump_73 s a b imm v p w h ok ha h2 h3
  · exact jump_74 s a b imm v p w h ok ha h2 h3
  · exact jump_72 s a b imm v p w h ok ha h2 h3
  · exact jump_jmp s op a b imm v p w h ok ha h2 h3 hop

set_option maxHeartbeats 800000 in
theorem idle_any (x : Value) (op a b imm v : Int) (w : World) :
    Calls Tryd.prog 33 #[x, .agg (insA op a b imm), .int .u32 v] w fun e w' => e = .returned (.agg (fltV (0, 0))) ∧ Kep w w' := by
  go_enter Tryd.func33, Tryd.ntmps33
  go_wp2
  refine bodyPost_ret (results_cell_row rfl _ _ _ 45 _ (0, 0) _ (by rfl) blkA Tryd.underlying45 rfl (by exact size_flt)) rfl ⟨by rfl, kepA⟩

set_option maxHeartbeats 800000 in
theorem ask_any (x : Value) (op a b imm v : Int) (w : World) (h2 : -2147483648 ≤ imm) (h3 : imm ≤ 2147483647) :
    Calls Tryd.prog 37 #[x, .agg (insA op a b imm), .int .u32 v] w fun e w' => e = .returned (.agg (fltV (8, imm % 4294967296))) ∧ Kep w w' := by
  go_enter Tryd.func37, Tryd.ntmps37
  go_wp2
  refine bodyPost_ret (results_cell_row rfl _ _ _ 45 _ (0, 0) _ (by rfl) blkA Tryd.underlying45 rfl (by exact size_flt)) rfl ⟨by simp [IntKind.wrap_u32], kepA⟩
end Go.Proofs.YtfpknklibiigfaaDoor
