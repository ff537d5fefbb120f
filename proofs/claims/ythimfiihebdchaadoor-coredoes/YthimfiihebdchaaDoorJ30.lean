/- Part of a proof. -/
import Derived.Deep.CutRange
import Derived.Test.YthimfiihebdchaaDoorJ18
namespace Go.Proofs.YthimfiihebdchaaDoor
open Go.RowKit
set_option linter.unusedVariables false
set_option linter.unusedSimpArgs false
set_option maxHeartbeats 4000000 in
set_option maxRecDepth 100000 in
theorem rdo_mem_no (s : Sta) (op : Int) (a b : Nat) (imm v : Int) (w : World) (ok : s.Ok) (ha : (a : Int) < 8) (hb : (b : Int) < 8) (h2 : -2147483648 ≤ imm) (h3 : imm ≤ 2147483647) (hv : 0 ≤ v ∧ v < 4294967296) (hm : mayB (rowOf op false) a b imm = true) (hop : 48 ≤ op ∧ op ≤ 58) (hwf : ((wantF s op a b imm).1 != 0) = true) :
    Calls Tryd.prog 9 #[.agg s.v, .agg (insA op a b imm), .int .u32 v] w fun e w' => e = .returned (.tuple #[.agg (s : Sta).v, .agg (fltV (wantF s op a b imm))]) ∧ Kep w w' := by
  have MA : Hid (∀ w, Calls Tryd.prog 19 #[.agg (insA op a b imm), .bool false] w fun e w' => e = .returned (.bool true) ∧ Kep w w') := fun w => by
    have := refMay_any op a b imm false w (by omega) (by omega) h2 h3; rw [hm] at this; exact this
  have OF : Hid (∀ w, Calls Tryd.prog 20 #[.int .u8 op, .bool false] w fun e w' => e = .returned (.agg (rformA (rowOf op false))) ∧ Kep w w') := fun w => refOf_any op false w
  have hfd := form_size (rowOf op false)
  have hsz := sz_range op
  have hpc := ok.pc
  have WA : Hid (∀ w, Calls Tryd.prog 24 #[.agg s.v, .agg (insA op a b imm)] w fun e w' => e = .returned (.tuple #[.agg (accV (wantA s op a b imm)), .agg (fltV (wantF s op a b imm))]) ∧ Kep w w') := fun w => rwant_any s op a b imm w ok h2 h3
  have t1 : decide (op ≥ 1) = true := by simp; omega
  have t2 : decide (op ≤ 3) = false := by simp; omega
  have t3 : decide (op ≥ 96) = false := by simp; omega
  have t4 : (op == 16) = false := by simp; omega
  have t5 : decide (op ≥ 17) = true := by simp; omega
  have t6 : decide (op ≤ 31) = false := by simp; omega
  have t7 : (op == 32) = false := by simp; omega
  have t8 : (op == 33) = false := by simp; omega
  have t9 : decide (op ≥ 48) = true := by simp; omega
  have t10 : decide (op ≤ 58) = true := by simp; omega
  have t11 : decide (op ≥ 64) = false := by simp; omega
  have t12 : decide (op ≤ 71) = true := by simp; omega
  have t13 : (op == 72) = false := by simp; omega
  have t14 : (op == 73) = false := by simp; omega
  have t15 : (op == 74) = false := by simp; omega
  have t16 : (op == 80) = false := by simp; omega
  obtain ⟨nx, hnx⟩ : ∃ nx, nx = (s.pc + sz (rowOf op false)) % 4294967296 := ⟨_, rfl⟩
  have eN : Hid (nextS s op = s.go nx) := by unfold Hid; rw [hnx]; rfl
  have hw1 : IntKind.u32.wrap (s.pc + IntKind.u32.wrap (sz (rowOf op false))) = nx := by rw [hnx]; simp only [IntKind.wrap_u32]; omega
  have hw2 : (s.pc + sz (rowOf op false)) % 4294967296 = nx := hnx.symm
  have hnr : 0 ≤ nx ∧ nx < 4294967296 := by rw [hnx]; omega
  generalize wantA s op a b imm = qa at WA
  obtain ⟨qa1, qa2, qa3, qa4⟩ := qa
  generalize wantF s op a b imm = qf at *
  obtain ⟨qc, qd⟩ := qf
  clear hnx hm
  generalize rowOf op false = rw_ at *
  generalize sz rw_ = z at *
  go_enter Tryd.func9, Tryd.ntmps9
  go_wp2_with fail
  refine (MA.out _).mono ?_
  rintro e w1 ⟨rfl, K1⟩
  have G1 : Hid (Kep w w1) := kep_trans kepA K1
  obtain ⟨B0, B1, B2, B3⟩ := five_blocks _ _ _ _ _ _ K1
  have z3 := block_lt B3
  obtain ⟨i0, i1, i2, i3⟩ := ins_at B1
  have H0 : Hid (w1.heap[w.heap.size]? = some (.cells s.v 25 (0, 0))) := B0
  have H1 : Hid (w1.heap[w.heap.size + 1]? = some (.cells (insA op a b imm) 27 (0, 0))) := B1
  have H2 : Hid (w1.heap[w.heap.size + 1 + 1]? = some (.cells z19 25 (0, 0))) := B2
  have H3 : Hid (w1.heap[w.heap.size + 1 + 1 + 1]? = some (.cells #[.int .i64 0, .int .u32 0] 29 (0, 0))) := B3
  clear B0 B1 B2 B3 K1
  go_upto_region 4 with (first | (refine wpList_load_row (by rfl) 25 _ (by rfl) _ (by rfl) 25 _ (0, 0) _ blkA Tryd.underlying25 rfl (by exact size_sta) ?_) | (refine wpList_store_row (by rfl) 25 _ _ (by rfl) (w1.heap.size) _ (by rfl) (by rfl) 25 z19 blkA (by exact size_sta) (by rfl) (v_one _) ?_))
  dsimp only [Act.put]
  generalize hW : World.setRow (World.alloc w1 _) _ _ = W
  have C0 : At W w.heap.size s := by rw [← hW]; unfold At; (repeat (first | (with_reducible assumption) | (with_reducible exact Hid.out (by assumption)) | (with_reducible refine (hsk _ _ _ (by (first | omega | (simp only [World.size_alloc, World.size_setCell, size_setRow, World.size_drew]; done) | (simp only [World.size_alloc, World.size_setCell, size_setRow, World.size_drew]; omega)))).trans ?_) | (with_reducible refine (hat _ _ _ (by (first | omega | (simp only [World.size_alloc, World.size_setCell, size_setRow, World.size_drew]; done) | (simp only [World.size_alloc, World.size_setCell, size_setRow, World.size_drew]; omega))))) | (with_reducible refine Kep.block (Kep.alloc (Kep.refl _) _) ?_) | (with_reducible refine (heap_setCell_other _ _ _ _ (by (first | omega | (simp only []; omega) | (show _ ≠ _; omega)))).trans ?_) | (with_reducible refine (setRow_other _ _ _ _ (by (first | omega | (simp only []; omega) | (show _ ≠ _; omega)))).trans ?_) | (with_reducible refine (drew_heap _ _).trans ?_) | (with_reducible refine (drewN_heap _ _ _).trans ?_) | (with_reducible refine Kep.block (by assumption) ?_) | (with_reducible exact setRow_heap _ _ _ _ _ _ (by (repeat (first | (with_reducible assumption) | (with_reducible exact Hid.out (by assumption)) | (with_reducible refine (hsk _ _ _ (by (first | omega | (simp only [World.size_alloc, World.size_setCell, size_setRow, World.size_drew]; done) | (simp only [World.size_alloc, World.size_setCell, size_setRow, World.size_drew]; omega)))).trans ?_) | (with_reducible refine (hat _ _ _ (by (first | omega | (simp only [World.size_alloc, World.size_setCell, size_setRow, World.size_drew]; done) | (simp only [World.size_alloc, World.size_setCell, size_setRow, World.size_drew]; omega))))) | (with_reducible refine Kep.block (Kep.alloc (Kep.refl _) _) ?_) | (with_reducible refine (heap_setCell_other _ _ _ _ (by (first | omega | (simp only []; omega) | (show _ ≠ _; omega)))).trans ?_) | (with_reducible refine (setRow_other _ _ _ _ (by (first | omega | (simp only []; omega) | (show _ ≠ _; omega)))).trans ?_) | (with_reducible refine (drew_heap _ _).trans ?_) | (with_reducible refine (drewN_heap _ _ _).trans ?_)))))))
  have C1 : W.heap[w.heap.size + 1]? = some (.cells (insA op a b imm) 27 (0, 0)) := by rw [← hW]; (repeat (first | (with_reducible assumption) | (with_reducible exact Hid.out (by assumption)) | (with_reducible refine (hsk _ _ _ (by (first | omega | (simp only [World.size_alloc, World.size_setCell, size_setRow, World.size_drew]; done) | (simp only [World.size_alloc, World.size_setCell, size_setRow, World.size_drew]; omega)))).trans ?_) | (with_reducible refine (hat _ _ _ (by (first | omega | (simp only [World.size_alloc, World.size_setCell, size_setRow, World.size_drew]; done) | (simp only [World.size_alloc, World.size_setCell, size_setRow, World.size_drew]; omega))))) | (with_reducible refine Kep.block (Kep.alloc (Kep.refl _) _) ?_) | (with_reducible refine (heap_setCell_other _ _ _ _ (by (first | omega | (simp only []; omega) | (show _ ≠ _; omega)))).trans ?_) | (with_reducible refine (setRow_other _ _ _ _ (by (first | omega | (simp only []; omega) | (show _ ≠ _; omega)))).trans ?_) | (with_reducible refine (drew_heap _ _).trans ?_) | (with_reducible refine (drewN_heap _ _ _).trans ?_) | (with_reducible refine Kep.block (by assumption) ?_) | (with_reducible exact setRow_heap _ _ _ _ _ _ (by (repeat (first | (with_reducible assumption) | (with_reducible exact Hid.out (by assumption)) | (with_reducible refine (hsk _ _ _ (by (first | omega | (simp only [World.size_alloc, World.size_setCell, size_setRow, World.size_drew]; done) | (simp only [World.size_alloc, World.size_setCell, size_setRow, World.size_drew]; omega)))).trans ?_) | (with_reducible refine (hat _ _ _ (by (first | omega | (simp only [World.size_alloc, World.size_setCell, size_setRow, World.size_drew]; done) | (simp only [World.size_alloc, World.size_setCell, size_setRow, World.size_drew]; omega))))) | (with_reducible refine Kep.block (Kep.alloc (Kep.refl _) _) ?_) | (with_reducible refine (heap_setCell_other _ _ _ _ (by (first | omega | (simp only []; omega) | (show _ ≠ _; omega)))).trans ?_) | (with_reducible refine (setRow_other _ _ _ _ (by (first | omega | (simp only []; omega) | (show _ ≠ _; omega)))).trans ?_) | (with_reducible refine (drew_heap _ _).trans ?_) | (with_reducible refine (drewN_heap _ _ _).trans ?_)))))))
  have C2 : W.heap[w.heap.size + 1 + 1]? = some (.cells z19 25 (0, 0)) := by rw [← hW]; (repeat (first | (with_reducible assumption) | (with_reducible exact Hid.out (by assumption)) | (with_reducible refine (hsk _ _ _ (by (first | omega | (simp only [World.size_alloc, World.size_setCell, size_setRow, World.size_drew]; done) | (simp only [World.size_alloc, World.size_setCell, size_setRow, World.size_drew]; omega)))).trans ?_) | (with_reducible refine (hat _ _ _ (by (first | omega | (simp only [World.size_alloc, World.size_setCell, size_setRow, World.size_drew]; done) | (simp only [World.size_alloc, World.size_setCell, size_setRow, World.size_drew]; omega))))) | (with_reducible refine Kep.block (Kep.alloc (Kep.refl _) _) ?_) | (with_reducible refine (heap_setCell_other _ _ _ _ (by (first | omega | (simp only []; omega) | (show _ ≠ _; omega)))).trans ?_) | (with_reducible refine (setRow_other _ _ _ _ (by (first | omega | (simp only []; omega) | (show _ ≠ _; omega)))).trans ?_) | (with_reducible refine (drew_heap _ _).trans ?_) | (with_reducible refine (drewN_heap _ _ _).trans ?_) | (with_reducible refine Kep.block (by assumption) ?_) | (with_reducible exact setRow_heap _ _ _ _ _ _ (by (repeat (first | (with_reducible assumption) | (with_reducible exact Hid.out (by assumption)) | (with_reducible refine (hsk _ _ _ (by (first | omega | (simp only [World.size_alloc, World.size_setCell, size_setRow, World.size_drew]; done) | (simp only [World.size_alloc, World.size_setCell, size_setRow, World.size_drew]; omega)))).trans ?_) | (with_reducible refine (hat _ _ _ (by (first | omega | (simp only [World.size_alloc, World.size_setCell, size_setRow, World.size_drew]; done) | (simp only [World.size_alloc, World.size_setCell, size_setRow, World.size_drew]; omega))))) | (with_reducible refine Kep.block (Kep.alloc (Kep.refl _) _) ?_) | (with_reducible refine (heap_setCell_other _ _ _ _ (by (first | omega | (simp only []; omega) | (show _ ≠ _; omega)))).trans ?_) | (with_reducible refine (setRow_other _ _ _ _ (by (first | omega | (simp only []; omega) | (show _ ≠ _; omega)))).trans ?_) | (with_reducible refine (drew_heap _ _).trans ?_) | (with_reducible refine (drewN_heap _ _ _).trans ?_)))))))
  have C3 : W.heap[w.heap.size + 1 + 1 + 1]? = some (.cells #[.int .i64 0, .int .u32 0] 29 (0, 0)) := by rw [← hW]; (repeat (first | (with_reducible assumption) | (with_reducible exact Hid.out (by assumption)) | (with_reducible refine (hsk _ _ _ (by (first | omega | (simp only [World.size_alloc, World.size_setCell, size_setRow, World.size_drew]; done) | (simp only [World.size_alloc, World.size_setCell, size_setRow, World.size_drew]; omega)))).trans ?_) | (with_reducible refine (hat _ _ _ (by (first | omega | (simp only [World.size_alloc, World.size_setCell, size_setRow, World.size_drew]; done) | (simp only [World.size_alloc, World.size_setCell, size_setRow, World.size_drew]; omega))))) | (with_reducible refine Kep.block (Kep.alloc (Kep.refl _) _) ?_) | (with_reducible refine (heap_setCell_other _ _ _ _ (by (first | omega | (simp only []; omega) | (show _ ≠ _; omega)))).trans ?_) | (with_reducible refine (setRow_other _ _ _ _ (by (first | omega | (simp only []; omega) | (show _ ≠ _; omega)))).trans ?_) | (with_reducible refine (drew_heap _ _).trans ?_) | (with_reducible refine (drewN_heap _ _ _).trans ?_) | (with_reducible refine Kep.block (by assumption) ?_) | (with_reducible exact setRow_heap _ _ _ _ _ _ (by (repeat (first | (with_reducible assumption) | (with_reducible exact Hid.out (by assumption)) | (with_reducible refine (hsk _ _ _ (by (first | omega | (simp only [World.size_alloc, World.size_setCell, size_setRow, World.size_drew]; done) | (simp only [World.size_alloc, World.size_setCell, size_setRow, World.size_drew]; omega)))).trans ?_) | (with_reducible refine (hat _ _ _ (by (first | omega | (simp only [World.size_alloc, World.size_setCell, size_setRow, World.size_drew]; done) | (simp only [World.size_alloc, World.size_setCell, size_setRow, World.size_drew]; omega))))) | (with_reducible refine Kep.block (Kep.alloc (Kep.refl _) _) ?_) | (with_reducible refine (heap_setCell_other _ _ _ _ (by (first | omega | (simp only []; omega) | (show _ ≠ _; omega)))).trans ?_) | (with_reducible refine (setRow_other _ _ _ _ (by (first | omega | (simp only []; omega) | (show _ ≠ _; omega)))).trans ?_) | (with_reducible refine (drew_heap _ _).trans ?_) | (with_reducible refine (drewN_heap _ _ _).trans ?_)))))))
  have C9 : At W w1.heap.size s := by rw [← hW]; unfold At; (repeat (first | (with_reducible assumption) | (with_reducible exact Hid.out (by assumption)) | (with_reducible refine (hsk _ _ _ (by (first | omega | (simp only [World.size_alloc, World.size_setCell, size_setRow, World.size_drew]; done) | (simp only [World.size_alloc, World.size_setCell, size_setRow, World.size_drew]; omega)))).trans ?_) | (with_reducible refine (hat _ _ _ (by (first | omega | (simp only [World.size_alloc, World.size_setCell, size_setRow, World.size_drew]; done) | (simp only [World.size_alloc, World.size_setCell, size_setRow, World.size_drew]; omega))))) | (with_reducible refine Kep.block (Kep.alloc (Kep.refl _) _) ?_) | (with_reducible refine (heap_setCell_other _ _ _ _ (by (first | omega | (simp only []; omega) | (show _ ≠ _; omega)))).trans ?_) | (with_reducible refine (setRow_other _ _ _ _ (by (first | omega | (simp only []; omega) | (show _ ≠ _; omega)))).trans ?_) | (with_reducible refine (drew_heap _ _).trans ?_) | (with_reducible refine (drewN_heap _ _ _).trans ?_) | (with_reducible refine Kep.block (by assumption) ?_) | (with_reducible exact setRow_heap _ _ _ _ _ _ (by (repeat (first | (with_reducible assumption) | (with_reducible exact Hid.out (by assumption)) | (with_reducible refine (hsk _ _ _ (by (first | omega | (simp only [World.size_alloc, World.size_setCell, size_setRow, World.size_drew]; done) | (simp only [World.size_alloc, World.size_setCell, size_setRow, World.size_drew]; omega)))).trans ?_) | (with_reducible refine (hat _ _ _ (by (first | omega | (simp only [World.size_alloc, World.size_setCell, size_setRow, World.size_drew]; done) | (simp only [World.size_alloc, World.size_setCell, size_setRow, World.size_drew]; omega))))) | (with_reducible refine Kep.block (Kep.alloc (Kep.refl _) _) ?_) | (with_reducible refine (heap_setCell_other _ _ _ _ (by (first | omega | (simp only []; omega) | (show _ ≠ _; omega)))).trans ?_) | (with_reducible refine (setRow_other _ _ _ _ (by (first | omega | (simp only []; omega) | (show _ ≠ _; omega)))).trans ?_) | (with_reducible refine (drew_heap _ _).trans ?_) | (with_reducible refine (drewN_heap _ _ _).trans ?_)))))))
  have lw := G1.out.size
  have GW : Hid (Kep w W) := by rw [← hW]; show Kep _ _; (repeat (first | (with_reducible assumption) | (with_reducible exact Kep.refl _) | (with_reducible exact Hid.out (by assumption)) | (with_reducible refine Kep.alloc ?_ _) | (with_reducible refine Kep.drew ?_) | (with_reducible refine Kep.drewN ?_ _) | (with_reducible refine Kep.setRow ?_ _ _ (by (first | omega | (simp only [World.size_alloc, World.size_setCell, size_setRow, World.size_drew]; done) | (simp only [World.size_alloc, World.size_setCell, size_setRow, World.size_drew]; omega)))) | (with_reducible refine Kep.setCell ?_ (by first | omega | (simp only []; omega) | (show _ ≤ _; omega)) _)))
  clear hW i0 i1 i2 i3
  obtain ⟨i0, i1, i2, i3⟩ := ins_at C1
  have k8 := KW.cell C0.pc
  have k0 := KW.cell i0
  have hne : Nonempty (KW W) := ⟨⟨W, Kep.refl _⟩⟩
  refine region_kw (by kernel_rfl) (by kernel_rfl) ?_
  repeat (go_big_quiet_step ((go_at_call 20; refine (OF.out _).mono ?_; rintro e w6 ⟨rfl, g6⟩; exact ⟨rfl, ⟨_, kep_trans (KW.ok _) g6⟩, rfl⟩)))
  refine wpQuiet_nil ?_
  rintro _ ⟨i, rfl⟩
  have D0 : At i.val w.heap.size s := C0.kep i.ok
  have D1 : i.val.heap[w.heap.size + 1]? = some (.cells (insA op a b imm) 27 (0, 0)) := i.ok.block C1
  have D2 : Hid (i.val.heap[w.heap.size + 1 + 1]? = some (.cells z19 25 (0, 0))) := i.ok.block C2
  have D3 : Hid (i.val.heap[w.heap.size + 1 + 1 + 1]? = some (.cells #[.int .i64 0, .int .u32 0] 29 (0, 0))) := i.ok.block C3
  have D9 : At i.val w1.heap.size s := C9.kep i.ok
  have GU : Hid (Kep w i.val) := kep_trans GW.out i.ok
  have p8 := D9.pc
  have fz := row_frozen D9
  clear k8 k0 i0 i1 i2 i3 C0 C1 C2 C3 C9 hne
  generalize i.val = u at *
  clear i GW
  have D0' : Hid (At u w.heap.size s) := D0
  have D1' : Hid (u.heap[w.heap.size + 1]? = some (.cells (insA op a b imm) 27 (0, 0))) := D1
  have D9' : Hid (At u w1.heap.size s) := D9
  clear D0 D1 D9
  go_upto_region 6 with fail
  try simp only [hw1, hw2]
  generalize hY : World.setCell u _ _ = Y
  have Y0 : At Y w.heap.size s := by rw [← hY]; exact D0'.out.setOther (by show w.heap.size ≠ w1.heap.size; omega) _
  have Y1 : Y.heap[w.heap.size + 1]? = some (.cells (insA op a b imm) 27 (0, 0)) := by rw [← hY]; (repeat (first | (with_reducible assumption) | (with_reducible exact Hid.out (by assumption)) | (with_reducible refine (hsk _ _ _ (by (first | omega | (simp only [World.size_alloc, World.size_setCell, size_setRow, World.size_drew]; done) | (simp only [World.size_alloc, World.size_setCell, size_setRow, World.size_drew]; omega)))).trans ?_) | (with_reducible refine (hat _ _ _ (by (first | omega | (simp only [World.size_alloc, World.size_setCell, size_setRow, World.size_drew]; done) | (simp only [World.size_alloc, World.size_setCell, size_setRow, World.size_drew]; omega))))) | (with_reducible refine Kep.block (Kep.alloc (Kep.refl _) _) ?_) | (with_reducible refine (heap_setCell_other _ _ _ _ (by (first | omega | (simp only []; omega) | (show _ ≠ _; omega)))).trans ?_) | (with_reducible refine (setRow_other _ _ _ _ (by (first | omega | (simp only []; omega) | (show _ ≠ _; omega)))).trans ?_) | (with_reducible refine (drew_heap _ _).trans ?_) | (with_reducible refine (drewN_heap _ _ _).trans ?_) | (with_reducible refine Kep.block (by assumption) ?_) | (with_reducible exact setRow_heap _ _ _ _ _ _ (by (repeat (first | (with_reducible assumption) | (with_reducible exact Hid.out (by assumption)) | (with_reducible refine (hsk _ _ _ (by (first | omega | (simp only [World.size_alloc, World.size_setCell, size_setRow, World.size_drew]; done) | (simp only [World.size_alloc, World.size_setCell, size_setRow, World.size_drew]; omega)))).trans ?_) | (with_reducible refine (hat _ _ _ (by (first | omega | (simp only [World.size_alloc, World.size_setCell, size_setRow, World.size_drew]; done) | (simp only [World.size_alloc, World.size_setCell, size_setRow, World.size_drew]; omega))))) | (with_reducible refine Kep.block (Kep.alloc (Kep.refl _) _) ?_) | (with_reducible refine (heap_setCell_other _ _ _ _ (by (first | omega | (simp only []; omega) | (show _ ≠ _; omega)))).trans ?_) | (with_reducible refine (setRow_other _ _ _ _ (by (first | omega | (simp only []; omega) | (show _ ≠ _; omega)))).trans ?_) | (with_reducible refine (drew_heap _ _).trans ?_) | (with_reducible refine (drewN_heap _ _ _).trans ?_)))))))
  have Y2 : Hid (Y.heap[w.heap.size + 1 + 1]? = some (.cells z19 25 (0, 0))) := by rw [← hY]; unfold Hid; (repeat (first | (with_reducible assumption) | (with_reducible exact Hid.out (by assumption)) | (with_reducible refine (hsk _ _ _ (by (first | omega | (simp only [World.size_alloc, World.size_setCell, size_setRow, World.size_drew]; done) | (simp only [World.size_alloc, World.size_setCell, size_setRow, World.size_drew]; omega)))).trans ?_) | (with_reducible refine (hat _ _ _ (by (first | omega | (simp only [World.size_alloc, World.size_setCell, size_setRow, World.size_drew]; done) | (simp only [World.size_alloc, World.size_setCell, size_setRow, World.size_drew]; omega))))) | (with_reducible refine Kep.block (Kep.alloc (Kep.refl _) _) ?_) | (with_reducible refine (heap_setCell_other _ _ _ _ (by (first | omega | (simp only []; omega) | (show _ ≠ _; omega)))).trans ?_) | (with_reducible refine (setRow_other _ _ _ _ (by (first | omega | (simp only []; omega) | (show _ ≠ _; omega)))).trans ?_) | (with_reducible refine (drew_heap _ _).trans ?_) | (with_reducible refine (drewN_heap _ _ _).trans ?_) | (with_reducible refine Kep.block (by assumption) ?_) | (with_reducible exact setRow_heap _ _ _ _ _ _ (by (repeat (first | (with_reducible assumption) | (with_reducible exact Hid.out (by assumption)) | (with_reducible refine (hsk _ _ _ (by (first | omega | (simp only [World.size_alloc, World.size_setCell, size_setRow, World.size_drew]; done) | (simp only [World.size_alloc, World.size_setCell, size_setRow, World.size_drew]; omega)))).trans ?_) | (with_reducible refine (hat _ _ _ (by (first | omega | (simp only [World.size_alloc, World.size_setCell, size_setRow, World.size_drew]; done) | (simp only [World.size_alloc, World.size_setCell, size_setRow, World.size_drew]; omega))))) | (with_reducible refine Kep.block (Kep.alloc (Kep.refl _) _) ?_) | (with_reducible refine (heap_setCell_other _ _ _ _ (by (first | omega | (simp only []; omega) | (show _ ≠ _; omega)))).trans ?_) | (with_reducible refine (setRow_other _ _ _ _ (by (first | omega | (simp only []; omega) | (show _ ≠ _; omega)))).trans ?_) | (with_reducible refine (drew_heap _ _).trans ?_) | (with_reducible refine (drewN_heap _ _ _).trans ?_)))))))
  have Y3 : Hid (Y.heap[w.heap.size + 1 + 1 + 1]? = some (.cells #[.int .i64 0, .int .u32 0] 29 (0, 0))) := by rw [← hY]; unfold Hid; (repeat (first | (with_reducible assumption) | (with_reducible exact Hid.out (by assumption)) | (with_reducible refine (hsk _ _ _ (by (first | omega | (simp only [World.size_alloc, World.size_setCell, size_setRow, World.size_drew]; done) | (simp only [World.size_alloc, World.size_setCell, size_setRow, World.size_drew]; omega)))).trans ?_) | (with_reducible refine (hat _ _ _ (by (first | omega | (simp only [World.size_alloc, World.size_setCell, size_setRow, World.size_drew]; done) | (simp only [World.size_alloc, World.size_setCell, size_setRow, World.size_drew]; omega))))) | (with_reducible refine Kep.block (Kep.alloc (Kep.refl _) _) ?_) | (with_reducible refine (heap_setCell_other _ _ _ _ (by (first | omega | (simp only []; omega) | (show _ ≠ _; omega)))).trans ?_) | (with_reducible refine (setRow_other _ _ _ _ (by (first | omega | (simp only []; omega) | (show _ ≠ _; omega)))).trans ?_) | (with_reducible refine (drew_heap _ _).trans ?_) | (with_reducible refine (drewN_heap _ _ _).trans ?_) | (with_reducible refine Kep.block (by assumption) ?_) | (with_reducible exact setRow_heap _ _ _ _ _ _ (by (repeat (first | (with_reducible assumption) | (with_reducible exact Hid.out (by assumption)) | (with_reducible refine (hsk _ _ _ (by (first | omega | (simp only [World.size_alloc, World.size_setCell, size_setRow, World.size_drew]; done) | (simp only [World.size_alloc, World.size_setCell, size_setRow, World.size_drew]; omega)))).trans ?_) | (with_reducible refine (hat _ _ _ (by (first | omega | (simp only [World.size_alloc, World.size_setCell, size_setRow, World.size_drew]; done) | (simp only [World.size_alloc, World.size_setCell, size_setRow, World.size_drew]; omega))))) | (with_reducible refine Kep.block (Kep.alloc (Kep.refl _) _) ?_) | (with_reducible refine (heap_setCell_other _ _ _ _ (by (first | omega | (simp only []; omega) | (show _ ≠ _; omega)))).trans ?_) | (with_reducible refine (setRow_other _ _ _ _ (by (first | omega | (simp only []; omega) | (show _ ≠ _; omega)))).trans ?_) | (with_reducible refine (drew_heap _ _).trans ?_) | (with_reducible refine (drewN_heap _ _ _).trans ?_)))))))
  have Y9 : Hid (At Y w1.heap.size (s.go nx)) := by rw [← hY]; exact D9'.out.setPc nx
  have GY : Hid (Kep w Y) := by rw [← hY]; show Kep _ _; (repeat (first | (with_reducible assumption) | (with_reducible exact Kep.refl _) | (with_reducible exact Hid.out (by assumption)) | (with_reducible refine Kep.alloc ?_ _) | (with_reducible refine Kep.drew ?_) | (with_reducible refine Kep.drewN ?_ _) | (with_reducible refine Kep.setRow ?_ _ _ (by (first | omega | (simp only [World.size_alloc, World.size_setCell, size_setRow, World.size_drew]; done) | (simp only [World.size_alloc, World.size_setCell, size_setRow, World.size_drew]; omega)))) | (with_reducible refine Kep.setCell ?_ (by first | omega | (simp only []; omega) | (show _ ≤ _; omega)) _)))
  obtain ⟨i0, i1, i2, i3⟩ := ins_at Y1
  have ca := Y0.reg a (by omega)
  have cb := Y0.reg b (by omega)
  clear hY p8 fz D0' D1' D2 D3 D9' GU hw1 hw2
  go_quiet (fail)
  have U0 : At (Y.drewN nq) w.heap.size s := Y0
  have U1 : (Y.drewN nq).heap[w.heap.size + 1]? = some (.cells (insA op a b imm) 27 (0, 0)) := Y1
  have U2 : Hid ((Y.drewN nq).heap[w.heap.size + 1 + 1]? = some (.cells z19 25 (0, 0))) := Y2.out
  have U3 : Hid ((Y.drewN nq).heap[w.heap.size + 1 + 1 + 1]? = some (.cells #[.int .i64 0, .int .u32 0] 29 (0, 0))) := Y3.out
  have U9 : At (Y.drewN nq) w1.heap.size (s.go nx) := Y9.out
  have GD : Hid (Kep w (Y.drewN nq)) := GY.out.drewN _
  clear i0 i1 i2 i3 ca cb Y0 Y1 Y2 Y3 Y9 GY
  generalize Y.drewN nq = U at *
  obtain ⟨i0, i1, i2, i3⟩ := ins_at U1
  have ra := U9.reg a (by omega)
  have r6 := U9.reg 6 (by omega)
  have p9 := U9.pc
  have s9 := U9.ps
  have t9 := U0.ps
  have fz := row_frozen U9
  have l3 := block_lt U3.out
  have l9 := U9.lt
  have lw2 : w.heap.size + 1 + 1 + 1 < w1.heap.size := z3
  have U0' : Hid (At U w.heap.size s) := U0
  have U0r : Hid (U.heap[w.heap.size]? = some (.cells s.v 25 (0, 0))) := U0
  have U9' : Hid (At U w1.heap.size (s.go nx)) := U9
  have U1' : Hid (U.heap[w.heap.size + 1]? = some (.cells (insA op a b imm) 27 (0, 0))) := U1
  clear U0 U1 U9
  go_upto_region 23 with fail
  go_wp2_with (first
    | (refine wpList_load_row (by rfl) 25 _ (by rfl) w.heap.size (by rfl) 25 s.v (0, 0) _ (show At _ w.heap.size s from U0'.out) Tryd.underlying25 rfl (by exact size_sta) ?_))
  refine (WA.out _).mono ?_
  rintro e w2 ⟨rfl, K2⟩
  have V0' : Hid (At w2 w.heap.size s) := U0'.out.kep K2
  have V1 : w2.heap[w.heap.size + 1]? = some (.cells (insA op a b imm) 27 (0, 0)) := K2.block U1'.out
  have V1' : Hid (w2.heap[w.heap.size + 1]? = some (.cells (insA op a b imm) 27 (0, 0))) := V1
  have V2 : Hid (w2.heap[w.heap.size + 1 + 1]? = some (.cells z19 25 (0, 0))) := K2.block U2.out
  have V3 : Hid (w2.heap[w.heap.size + 1 + 1 + 1]? = some (.cells #[.int .i64 0, .int .u32 0] 29 (0, 0))) := K2.block U3.out
  have V9' : Hid (At w2 w1.heap.size (s.go nx)) := U9'.out.kep K2
  have GE : Hid (Kep w w2) := kep_trans GD.out K2
  have m3 := block_lt V3.out
  have m9 := V9'.out.lt
  clear i0 i1 i2 i3 ra r6 p9 s9 t9 fz
  obtain ⟨i0, i1, i2, i3⟩ := ins_at V1
  clear V1 K2 U2 U3 U0' U0r U9' U1' GD l3 l9
  have hwf' : (qc != 0) = true := hwf
  clear hwf
  go_upto_region 25 with fail
  refine wp_region_held_drew (S := fun w' => At w' w.heap.size s ∧ w'.heap[w2.heap.size + 1]? = some (.cells #[.int .i64 qc, .int .u32 qd] 29 (0, 0))) (by kernel_rfl) ⟨At.alloc (At.alloc V0'.out _) _, hat _ _ _ (by first | exact (World.size_alloc ..).symm | exact (Array.size_push _).symm | rfl)⟩ (fun hH => ?_)
  refine wpAnyH_take (i := 0) (v := .agg s.v) rfl (by kernel_rfl) (by kernel_rfl) (by kernel_rfl) (fun _ _ _ h => h) (yields_row rfl 25 _ rfl (w.heap.size) rfl 25 s.v (0, 0) _ (fun w h => h.1) Tryd.underlying25 rfl size_sta) hH ?_
  (try simp only [jA, jB, jC, Act.put, jD, jE, jF])
  refine wpAnyH_take (i := 1) (v := .agg #[.int .i64 qc, .int .u32 qd]) rfl (by kernel_rfl) (by kernel_rfl) (by kernel_rfl) (fun _ _ _ h => h) (yields_row rfl 29 _ rfl (w2.heap.size + 1) rfl 29 #[.int .i64 qc, .int .u32 qd] (0, 0) _ (fun w h => h.2) Tryd.underlying29 rfl size_flt) hH ?_
  (try simp only [jA, jB, jC, Act.put, jD, jE, jF])
  refine wpAnyH_ready (rs := [2]) (by kernel_rfl) (by simp) ?_
  refine AllReadyH.cons rfl (fun K hK => ?_) AllReadyH.nil
  rw [if_pos (by rfl)]
  refine wp_store_row 25 _ _ rfl (w.heap.size + 1 + 1) s.v rfl rfl 25 z19 blkA size_sta rfl (v_one _) ?_
  refine hK.out _ _ (⟨At.setRow hH.1 (by omega) _, (setRow_other _ _ _ _ (by omega)).trans hH.2⟩) (fun hH => ?_)
  clear hK K
  (try simp only [jA, jB, jC, Act.put, jD, jE, jF])
  refine wpAnyH_ready (rs := [3]) (by kernel_rfl) (by simp) ?_
  refine AllReadyH.cons rfl (fun K hK => ?_) AllReadyH.nil
  rw [if_pos (by rfl)]
  refine wp_store_row 29 _ _ rfl (w.heap.size + 1 + 1 + 1) #[.int .i64 qc, .int .u32 qd] rfl rfl 29 #[.int .i64 0, .int .u32 0] blkA size_flt rfl (by simp [Value.oneCell']) ?_
  refine hK.out _ _ (⟨At.setRow hH.1 (by omega) _, (setRow_other _ _ _ _ (by omega)).trans hH.2⟩) (fun hH => ?_)
  clear hK K
  (try simp only [jA, jB, jC, Act.put, jD, jE, jF])
  refine wpAnyH_done (by kernel_rfl) ?_ _
  go_wp2_with fail
  try simp only [Exit.inBlock, Exit.then]
  exact bodyPost_ret (resultsCC rfl _ _ (w.heap.size + 1 + 1) 25 _ (0, 0) _ (w.heap.size + 1 + 1 + 1) 29 _ (0, 0) _ (by rfl) blkA Tryd.underlying25 rfl (by exact size_sta) (by rfl) blkA Tryd.underlying29 rfl (by exact size_flt)) rfl ⟨by rfl, by (repeat (first | (with_reducible assumption) | (with_reducible exact Kep.refl _) | (with_reducible exact Hid.out (by assumption)) | (with_reducible refine Kep.alloc ?_ _) | (with_reducible refine Kep.drew ?_) | (with_reducible refine Kep.drewN ?_ _) | (with_reducible refine Kep.setRow ?_ _ _ (by (first | omega | (simp only [World.size_alloc, World.size_setCell, size_setRow, World.size_drew]; done) | (simp only [World.size_alloc, World.size_setCell, size_setRow, World.size_drew]; omega)))) | (with_reducible refine Kep.setCell ?_ (by first | omega | (simp only []; omega) | (show _ ≤ _; omega)) _)))⟩
end Go.Proofs.YthimfiihebdchaaDoor
