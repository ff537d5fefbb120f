/- Proved: CoreWants answers true for every state and instruction; no condition is added. -/
import Derived.Test.YtjmcbohjkdbkbaaDoorRows
import Derived.Test.YtjmcbohjkdbkbaaDoorTie
import Derived.Test.YtjmcbohjkdbkbaaDoorCards
import Derived.Test.YtjmcbohjkdbkbaaDoorTab
import Derived.Test.YtjmcbohjkdbkbaaDoorCopen
import Derived.Test.YtjmcbohjkdbkbaaDoorCeq
import Derived.Test.YtjmcbohjkdbkbaaDoorCworks
import Derived.Test.YtjmcbohjkdbkbaaDoorRwant
import Derived.WalkKit
import Derived.ProofKit
import Derived.OpenShut
import Derived.ShutString
import Derived.ChangeOld
import Derived.Below
import Derived.Lib.SmallJoins
import Derived.Lay
import Derived.SevenTiedAt
import Derived.Stop.Joined
namespace Go.Proofs.YtjmcbohjkdbkbaaDoor.coreWants
open Go.ChangeShapes Go.WideShapes Go.ChangeAt Go.RowKit
set_option linter.unusedVariables false
set_option linter.unusedSimpArgs false

theorem own : ownKnob Tryd.prog.godebug = none := by kernel_rfl
theorem laidOut : laidOutB Tryd.prog = true := by kernel_rfl

abbrev laidL : List (String × DataW Unit) := [("mummer/isa.forms", Rows.laid_mummer_isa_forms), ("mummer/isa.spans", Rows.laid_mummer_isa_spans)]

set_option maxHeartbeats 4000000 in
set_option maxRecDepth 100000 in
theorem walk (s0 : Sta) (ok0 : s0.Ok) (a1f0 : Int) (w1f0 : (Lit.int .u8 a1f0).wf = true) (a1f1 : Int) (w1f1 : (Lit.int .u8 a1f1).wf = true) (a1f2 : Int) (w1f2 : (Lit.int .u8 a1f2).wf = true) (a1f3 : Int) (w1f3 : (Lit.int .i32 a1f3).wf = true) (w : World) (hT : Tabs w) :
    Calls Tryd.prog 3 #[.agg s0.v, .agg #[.int .u8 a1f0, .int .u8 a1f1, .int .u8 a1f2, .int .i32 a1f3]] w fun e w' => e = .returned (.bool true) ∧ Kep w w' := by
  have b0 := bounds_u8 w1f0
  have b1 := bounds_u8 w1f1
  have b2 := bounds_u8 w1f2
  have b3 := bounds_i32 w1f3
  obtain ⟨a, rfl⟩ : ∃ a : Nat, a1f1 = a := ⟨a1f1.toNat, by omega⟩
  obtain ⟨b, rfl⟩ : ∃ b : Nat, a1f2 = b := ⟨a1f2.toNat, by omega⟩
  have D1 : Hid (∀ w, Tabs w → Calls Tryd.prog 9 #[.agg s0.v, .agg (insA a1f0 a b a1f3)] w fun e w' => e = .returned (.tuple #[.agg (accV (wantA s0 a1f0 a b a1f3)), .agg (fltV (wantF s0 a1f0 a b a1f3))]) ∧ Kep w w') := fun w hT => want_any s0 a1f0 a b a1f3 w ok0 (by omega) (by omega) (by omega) (by omega) hT
  have D2 : Hid (∀ w, Calls Tryd.prog 10 #[.agg s0.v, .agg (insA a1f0 a b a1f3)] w fun e w' => e = .returned (.tuple #[.agg (accV (wantA s0 a1f0 a b a1f3)), .agg (fltV (wantF s0 a1f0 a b a1f3))]) ∧ Kep w w') := fun w => rwant_any s0 a1f0 a b a1f3 w ok0 (by omega) (by omega)
  have WK : Hid (∀ w, Tabs w → Calls Tryd.prog 11 #[] w fun e w' => e = .returned (.bool true) ∧ Kep w w') := fun w hT => works8_any w hT
  generalize wantA s0 a1f0 a b a1f3 = qa at *
  generalize wantF s0 a1f0 a b a1f3 = qf at *
  obtain ⟨q1, q2, q3, q4⟩ := qa
  obtain ⟨qc, qd⟩ := qf
  have hT' : Hid (Tabs w) := hT
  clear hT
  go_enter Tryd.func3, Tryd.ntmps3
  go_wp2_with (refine wpList_load_row (by rfl) 25 _ (by rfl) _ (by rfl) 25 _ (0, 0) _ (by (repeat (first | (with_reducible assumption) | (with_reducible exact Hid.out (by assumption)) | (with_reducible refine (hsk _ _ _ (by (first | omega | (simp only [World.size_alloc, World.size_setCell, size_setRow, World.size_drew]; done) | (simp only [World.size_alloc, World.size_setCell, size_setRow, World.size_drew]; omega)))).trans ?_) | (with_reducible refine (hat _ _ _ (by (first | omega | (simp only [World.size_alloc, World.size_setCell, size_setRow, World.size_drew]; done) | (simp only [World.size_alloc, World.size_setCell, size_setRow, World.size_drew]; omega))))) | (with_reducible refine Kep.block (Kep.alloc (Kep.refl _) _) ?_) | (with_reducible refine (heap_setCell_other _ _ _ _ (by (first | omega | (simp only []; omega) | (show _ ≠ _; omega)))).trans ?_) | (with_reducible refine (setRow_other _ _ _ _ (by (first | omega | (simp only []; omega) | (show _ ≠ _; omega)))).trans ?_) | (with_reducible refine (drew_heap _ _).trans ?_) | (with_reducible refine (drewN_heap _ _ _).trans ?_) | (with_reducible refine Kep.block (by assumption) ?_) | (with_reducible exact setRow_heap _ _ _ _ _ _ (by (repeat (first | (with_reducible assumption) | (with_reducible exact Hid.out (by assumption)) | (with_reducible refine (hsk _ _ _ (by (first | omega | (simp only [World.size_alloc, World.size_setCell, size_setRow, World.size_drew]; done) | (simp only [World.size_alloc, World.size_setCell, size_setRow, World.size_drew]; omega)))).trans ?_) | (with_reducible refine (hat _ _ _ (by (first | omega | (simp only [World.size_alloc, World.size_setCell, size_setRow, World.size_drew]; done) | (simp only [World.size_alloc, World.size_setCell, size_setRow, World.size_drew]; omega))))) | (with_reducible refine Kep.block (Kep.alloc (Kep.refl _) _) ?_) | (with_reducible refine (heap_setCell_other _ _ _ _ (by (first | omega | (simp only []; omega) | (show _ ≠ _; omega)))).trans ?_) | (with_reducible refine (setRow_other _ _ _ _ (by (first | omega | (simp only []; omega) | (show _ ≠ _; omega)))).trans ?_) | (with_reducible refine (drew_heap _ _).trans ?_) | (with_reducible refine (drewN_heap _ _ _).trans ?_)))))))) Tryd.underlying25 rfl (by exact size_sta) ?_)
  refine (D1.out _ (hT'.out.grown (by (repeat (first | (with_reducible assumption) | (with_reducible exact Kep.refl _) | (with_reducible exact Hid.out (by assumption)) | (with_reducible refine Kep.alloc ?_ _) | (with_reducible refine Kep.drew ?_) | (with_reducible refine Kep.drewN ?_ _) | (with_reducible refine Kep.setRow ?_ _ _ (by (first | omega | (simp only [World.size_alloc, World.size_setCell, size_setRow, World.size_drew]; done) | (simp only [World.size_alloc, World.size_setCell, size_setRow, World.size_drew]; omega)))) | (with_reducible refine Kep.setCell ?_ (by first | omega | (simp only []; omega) | (show _ ≤ _; omega)) _)))))).mono ?_
  rintro e w1 ⟨rfl, K1⟩
  have A0 : Hid (w1.heap[w.heap.size]? = some (.cells s0.v 25 (0, 0))) := K1.block (by (repeat (first | (with_reducible assumption) | (with_reducible exact Hid.out (by assumption)) | (with_reducible refine (hsk _ _ _ (by (first | omega | (simp only [World.size_alloc, World.size_setCell, size_setRow, World.size_drew]; done) | (simp only [World.size_alloc, World.size_setCell, size_setRow, World.size_drew]; omega)))).trans ?_) | (with_reducible refine (hat _ _ _ (by (first | omega | (simp only [World.size_alloc, World.size_setCell, size_setRow, World.size_drew]; done) | (simp only [World.size_alloc, World.size_setCell, size_setRow, World.size_drew]; omega))))) | (with_reducible refine Kep.block (Kep.alloc (Kep.refl _) _) ?_) | (with_reducible refine (heap_setCell_other _ _ _ _ (by (first | omega | (simp only []; omega) | (show _ ≠ _; omega)))).trans ?_) | (with_reducible refine (setRow_other _ _ _ _ (by (first | omega | (simp only []; omega) | (show _ ≠ _; omega)))).trans ?_) | (with_reducible refine (drew_heap _ _).trans ?_) | (with_reducible refine (drewN_heap _ _ _).trans ?_) | (with_reducible refine Kep.block (by assumption) ?_) | (with_reducible exact setRow_heap _ _ _ _ _ _ (by (repeat (first | (with_reducible assumption) | (with_reducible exact Hid.out (by assumption)) | (with_reducible refine (hsk _ _ _ (by (first | omega | (simp only [World.size_alloc, World.size_setCell, size_setRow, World.size_drew]; done) | (simp only [World.size_alloc, World.size_setCell, size_setRow, World.size_drew]; omega)))).trans ?_) | (with_reducible refine (hat _ _ _ (by (first | omega | (simp only [World.size_alloc, World.size_setCell, size_setRow, World.size_drew]; done) | (simp only [World.size_alloc, World.size_setCell, size_setRow, World.size_drew]; omega))))) | (with_reducible refine Kep.block (Kep.alloc (Kep.refl _) _) ?_) | (with_reducible refine (heap_setCell_other _ _ _ _ (by (first | omega | (simp only []; omega) | (show _ ≠ _; omega)))).trans ?_) | (with_reducible refine (setRow_other _ _ _ _ (by (first | omega | (simp only []; omega) | (show _ ≠ _; omega)))).trans ?_) | (with_reducible refine (drew_heap _ _).trans ?_) | (with_reducible refine (drewN_heap _ _ _).trans ?_))))))))
  have I0 : w1.heap[w.heap.size + 1]? = some (.cells (insA a1f0 a b a1f3) 27 (0, 0)) := K1.block (by (repeat (first | (with_reducible assumption) | (with_reducible exact Hid.out (by assumption)) | (with_reducible refine (hsk _ _ _ (by (first | omega | (simp only [World.size_alloc, World.size_setCell, size_setRow, World.size_drew]; done) | (simp only [World.size_alloc, World.size_setCell, size_setRow, World.size_drew]; omega)))).trans ?_) | (with_reducible refine (hat _ _ _ (by (first | omega | (simp only [World.size_alloc, World.size_setCell, size_setRow, World.size_drew]; done) | (simp only [World.size_alloc, World.size_setCell, size_setRow, World.size_drew]; omega))))) | (with_reducible refine Kep.block (Kep.alloc (Kep.refl _) _) ?_) | (with_reducible refine (heap_setCell_other _ _ _ _ (by (first | omega | (simp only []; omega) | (show _ ≠ _; omega)))).trans ?_) | (with_reducible refine (setRow_other _ _ _ _ (by (first | omega | (simp only []; omega) | (show _ ≠ _; omega)))).trans ?_) | (with_reducible refine (drew_heap _ _).trans ?_) | (with_reducible refine (drewN_heap _ _ _).trans ?_) | (with_reducible refine Kep.block (by assumption) ?_) | (with_reducible exact setRow_heap _ _ _ _ _ _ (by (repeat (first | (with_reducible assumption) | (with_reducible exact Hid.out (by assumption)) | (with_reducible refine (hsk _ _ _ (by (first | omega | (simp only [World.size_alloc, World.size_setCell, size_setRow, World.size_drew]; done) | (simp only [World.size_alloc, World.size_setCell, size_setRow, World.size_drew]; omega)))).trans ?_) | (with_reducible refine (hat _ _ _ (by (first | omega | (simp only [World.size_alloc, World.size_setCell, size_setRow, World.size_drew]; done) | (simp only [World.size_alloc, World.size_setCell, size_setRow, World.size_drew]; omega))))) | (with_reducible refine Kep.block (Kep.alloc (Kep.refl _) _) ?_) | (with_reducible refine (heap_setCell_other _ _ _ _ (by (first | omega | (simp only []; omega) | (show _ ≠ _; omega)))).trans ?_) | (with_reducible refine (setRow_other _ _ _ _ (by (first | omega | (simp only []; omega) | (show _ ≠ _; omega)))).trans ?_) | (with_reducible refine (drew_heap _ _).trans ?_) | (with_reducible refine (drewN_heap _ _ _).trans ?_))))))))
  have G1 : Hid (Kep w w1) := kep_trans (by (repeat (first | (with_reducible assumption) | (with_reducible exact Kep.refl _) | (with_reducible exact Hid.out (by assumption)) | (with_reducible refine Kep.alloc ?_ _) | (with_reducible refine Kep.drew ?_) | (with_reducible refine Kep.drewN ?_ _) | (with_reducible refine Kep.setRow ?_ _ _ (by (first | omega | (simp only [World.size_alloc, World.size_setCell, size_setRow, World.size_drew]; done) | (simp only [World.size_alloc, World.size_setCell, size_setRow, World.size_drew]; omega)))) | (with_reducible refine Kep.setCell ?_ (by first | omega | (simp only []; omega) | (show _ ≤ _; omega)) _)))) K1
  have l0 := block_lt A0.out
  have l1 := block_lt I0
  obtain ⟨i0, i1, i2, i3⟩ := ins_at I0
  clear K1 I0
  go_wp2_with (refine wpList_load_row (by rfl) 25 _ (by rfl) _ (by rfl) 25 _ (0, 0) _ (by (repeat (first | (with_reducible assumption) | (with_reducible exact Hid.out (by assumption)) | (with_reducible refine (hsk _ _ _ (by (first | omega | (simp only [World.size_alloc, World.size_setCell, size_setRow, World.size_drew]; done) | (simp only [World.size_alloc, World.size_setCell, size_setRow, World.size_drew]; omega)))).trans ?_) | (with_reducible refine (hat _ _ _ (by (first | omega | (simp only [World.size_alloc, World.size_setCell, size_setRow, World.size_drew]; done) | (simp only [World.size_alloc, World.size_setCell, size_setRow, World.size_drew]; omega))))) | (with_reducible refine Kep.block (Kep.alloc (Kep.refl _) _) ?_) | (with_reducible refine (heap_setCell_other _ _ _ _ (by (first | omega | (simp only []; omega) | (show _ ≠ _; omega)))).trans ?_) | (with_reducible refine (setRow_other _ _ _ _ (by (first | omega | (simp only []; omega) | (show _ ≠ _; omega)))).trans ?_) | (with_reducible refine (drew_heap _ _).trans ?_) | (with_reducible refine (drewN_heap _ _ _).trans ?_) | (with_reducible refine Kep.block (by assumption) ?_) | (with_reducible exact setRow_heap _ _ _ _ _ _ (by (repeat (first | (with_reducible assumption) | (with_reducible exact Hid.out (by assumption)) | (with_reducible refine (hsk _ _ _ (by (first | omega | (simp only [World.size_alloc, World.size_setCell, size_setRow, World.size_drew]; done) | (simp only [World.size_alloc, World.size_setCell, size_setRow, World.size_drew]; omega)))).trans ?_) | (with_reducible refine (hat _ _ _ (by (first | omega | (simp only [World.size_alloc, World.size_setCell, size_setRow, World.size_drew]; done) | (simp only [World.size_alloc, World.size_setCell, size_setRow, World.size_drew]; omega))))) | (with_reducible refine Kep.block (Kep.alloc (Kep.refl _) _) ?_) | (with_reducible refine (heap_setCell_other _ _ _ _ (by (first | omega | (simp only []; omega) | (show _ ≠ _; omega)))).trans ?_) | (with_reducible refine (setRow_other _ _ _ _ (by (first | omega | (simp only []; omega) | (show _ ≠ _; omega)))).trans ?_) | (with_reducible refine (drew_heap _ _).trans ?_) | (with_reducible refine (drewN_heap _ _ _).trans ?_)))))))) Tryd.underlying25 rfl (by exact size_sta) ?_)
  refine (D2.out _).mono ?_
  rintro e w2 ⟨rfl, K2⟩
  have G2 : Hid (Kep w w2) := kep_trans G1.out (kep_trans (by (repeat (first | (with_reducible assumption) | (with_reducible exact Kep.refl _) | (with_reducible exact Hid.out (by assumption)) | (with_reducible refine Kep.alloc ?_ _) | (with_reducible refine Kep.drew ?_) | (with_reducible refine Kep.drewN ?_ _) | (with_reducible refine Kep.setRow ?_ _ _ (by (first | omega | (simp only [World.size_alloc, World.size_setCell, size_setRow, World.size_drew]; done) | (simp only [World.size_alloc, World.size_setCell, size_setRow, World.size_drew]; omega)))) | (with_reducible refine Kep.setCell ?_ (by first | omega | (simp only []; omega) | (show _ ≤ _; omega)) _)))) K2)
  have F1 : w2.heap[w1.heap.size]? = some (.cells #[.int .i64 q1, .int .u32 q2, .int .i64 q3, .int .u32 q4] 29 (0, 0)) := K2.block (by (repeat (first | (with_reducible assumption) | (with_reducible exact Hid.out (by assumption)) | (with_reducible refine (hsk _ _ _ (by (first | omega | (simp only [World.size_alloc, World.size_setCell, size_setRow, World.size_drew]; done) | (simp only [World.size_alloc, World.size_setCell, size_setRow, World.size_drew]; omega)))).trans ?_) | (with_reducible refine (hat _ _ _ (by (first | omega | (simp only [World.size_alloc, World.size_setCell, size_setRow, World.size_drew]; done) | (simp only [World.size_alloc, World.size_setCell, size_setRow, World.size_drew]; omega))))) | (with_reducible refine Kep.block (Kep.alloc (Kep.refl _) _) ?_) | (with_reducible refine (heap_setCell_other _ _ _ _ (by (first | omega | (simp only []; omega) | (show _ ≠ _; omega)))).trans ?_) | (with_reducible refine (setRow_other _ _ _ _ (by (first | omega | (simp only []; omega) | (show _ ≠ _; omega)))).trans ?_) | (with_reducible refine (drew_heap _ _).trans ?_) | (with_reducible refine (drewN_heap _ _ _).trans ?_) | (with_reducible refine Kep.block (by assumption) ?_) | (with_reducible exact setRow_heap _ _ _ _ _ _ (by (repeat (first | (with_reducible assumption) | (with_reducible exact Hid.out (by assumption)) | (with_reducible refine (hsk _ _ _ (by (first | omega | (simp only [World.size_alloc, World.size_setCell, size_setRow, World.size_drew]; done) | (simp only [World.size_alloc, World.size_setCell, size_setRow, World.size_drew]; omega)))).trans ?_) | (with_reducible refine (hat _ _ _ (by (first | omega | (simp only [World.size_alloc, World.size_setCell, size_setRow, World.size_drew]; done) | (simp only [World.size_alloc, World.size_setCell, size_setRow, World.size_drew]; omega))))) | (with_reducible refine Kep.block (Kep.alloc (Kep.refl _) _) ?_) | (with_reducible refine (heap_setCell_other _ _ _ _ (by (first | omega | (simp only []; omega) | (show _ ≠ _; omega)))).trans ?_) | (with_reducible refine (setRow_other _ _ _ _ (by (first | omega | (simp only []; omega) | (show _ ≠ _; omega)))).trans ?_) | (with_reducible refine (drew_heap _ _).trans ?_) | (with_reducible refine (drewN_heap _ _ _).trans ?_))))))))
  have F2 : w2.heap[w1.heap.size + 1]? = some (.cells #[.int .i64 qc, .int .u32 qd] 31 (0, 0)) := K2.block (by (repeat (first | (with_reducible assumption) | (with_reducible exact Hid.out (by assumption)) | (with_reducible refine (hsk _ _ _ (by (first | omega | (simp only [World.size_alloc, World.size_setCell, size_setRow, World.size_drew]; done) | (simp only [World.size_alloc, World.size_setCell, size_setRow, World.size_drew]; omega)))).trans ?_) | (with_reducible refine (hat _ _ _ (by (first | omega | (simp only [World.size_alloc, World.size_setCell, size_setRow, World.size_drew]; done) | (simp only [World.size_alloc, World.size_setCell, size_setRow, World.size_drew]; omega))))) | (with_reducible refine Kep.block (Kep.alloc (Kep.refl _) _) ?_) | (with_reducible refine (heap_setCell_other _ _ _ _ (by (first | omega | (simp only []; omega) | (show _ ≠ _; omega)))).trans ?_) | (with_reducible refine (setRow_other _ _ _ _ (by (first | omega | (simp only []; omega) | (show _ ≠ _; omega)))).trans ?_) | (with_reducible refine (drew_heap _ _).trans ?_) | (with_reducible refine (drewN_heap _ _ _).trans ?_) | (with_reducible refine Kep.block (by assumption) ?_) | (with_reducible exact setRow_heap _ _ _ _ _ _ (by (repeat (first | (with_reducible assumption) | (with_reducible exact Hid.out (by assumption)) | (with_reducible refine (hsk _ _ _ (by (first | omega | (simp only [World.size_alloc, World.size_setCell, size_setRow, World.size_drew]; done) | (simp only [World.size_alloc, World.size_setCell, size_setRow, World.size_drew]; omega)))).trans ?_) | (with_reducible refine (hat _ _ _ (by (first | omega | (simp only [World.size_alloc, World.size_setCell, size_setRow, World.size_drew]; done) | (simp only [World.size_alloc, World.size_setCell, size_setRow, World.size_drew]; omega))))) | (with_reducible refine Kep.block (Kep.alloc (Kep.refl _) _) ?_) | (with_reducible refine (heap_setCell_other _ _ _ _ (by (first | omega | (simp only []; omega) | (show _ ≠ _; omega)))).trans ?_) | (with_reducible refine (setRow_other _ _ _ _ (by (first | omega | (simp only []; omega) | (show _ ≠ _; omega)))).trans ?_) | (with_reducible refine (drew_heap _ _).trans ?_) | (with_reducible refine (drewN_heap _ _ _).trans ?_))))))))
  have l2 := block_lt F1
  have l3 := block_lt F2
  have c0 : w2.cell? ⟨w1.heap.size, 0, none⟩ = some (.int .i64 q1) := cell_of_block F1
  have c1 : w2.cell? ⟨w1.heap.size, 1, none⟩ = some (.int .u32 q2) := cell_of_block F1
  have c2 : w2.cell? ⟨w1.heap.size, 2, none⟩ = some (.int .i64 q3) := cell_of_block F1
  have c3 : w2.cell? ⟨w1.heap.size, 3, none⟩ = some (.int .u32 q4) := cell_of_block F1
  have d0 : w2.cell? ⟨w1.heap.size + 1, 0, none⟩ = some (.int .i64 qc) := cell_of_block F2
  have d1 : w2.cell? ⟨w1.heap.size + 1, 1, none⟩ = some (.int .u32 qd) := cell_of_block F2
  clear K2 F1 F2 i0 i1 i2 i3 A0
  go_wp2_with fail
  refine (WK.out _ (hT'.out.grown (by (repeat (first | (with_reducible assumption) | (with_reducible exact Kep.refl _) | (with_reducible exact Hid.out (by assumption)) | (with_reducible refine Kep.alloc ?_ _) | (with_reducible refine Kep.drew ?_) | (with_reducible refine Kep.drewN ?_ _) | (with_reducible refine Kep.setRow ?_ _ _ (by (first | omega | (simp only [World.size_alloc, World.size_setCell, size_setRow, World.size_drew]; done) | (simp only [World.size_alloc, World.size_setCell, size_setRow, World.size_drew]; omega)))) | (with_reducible refine Kep.setCell ?_ (by first | omega | (simp only []; omega) | (show _ ≤ _; omega)) _)))))).mono ?_
  rintro e w3 ⟨rfl, K3⟩
  have G3 : Hid (Kep w w3) := kep_trans G2.out (kep_trans (by (repeat (first | (with_reducible assumption) | (with_reducible exact Kep.refl _) | (with_reducible exact Hid.out (by assumption)) | (with_reducible refine Kep.alloc ?_ _) | (with_reducible refine Kep.drew ?_) | (with_reducible refine Kep.drewN ?_ _) | (with_reducible refine Kep.setRow ?_ _ _ (by (first | omega | (simp only [World.size_alloc, World.size_setCell, size_setRow, World.size_drew]; done) | (simp only [World.size_alloc, World.size_setCell, size_setRow, World.size_drew]; omega)))) | (with_reducible refine Kep.setCell ?_ (by first | omega | (simp only []; omega) | (show _ ≤ _; omega)) _)))) K3)
  clear K3
  go_wp2_with fail
  go_ret
  exact ⟨rfl, G3.out⟩

set_option maxRecDepth 100000 in
theorem lifted (os : Os) (started : os.Started) (H : Type) (enc : TypeId × Value → H) :
    ReturnsInHanded {} Tryd.checked os 3 .any (fun w args => (Rows.coreWantsSpec.pre enc Tryd.prog Tryd.f3 Rows.coreWantsRow.domain false w args ∧ laidMetH Tryd.prog laidL w) ∧ sizedMet enc Tryd.prog Tryd.f3 (OpenSpec.ofChange Rows.coreWantsSpec) false w args)
      (Rows.coreWantsSpec.post enc Tryd.prog Tryd.f3 false true false false) := by
  refine returnsInHanded_of_change_and (C := Tryd.checked) (X := fun w _ => laidMetH Tryd.prog laidL w) (fun _ _ _ hh h => h.of_heap hh) own started (by kernel_rfl) Tryd.func3
    (ChangeSpec.witness_shaped (enc := enc) (C := Tryd.checked) (os := os) (X := fun w _ => laidMetH Tryd.prog laidL w) false (World.laidAll Tryd.prog os laidL) #[.agg #[.int .u32 0, .int .u32 0, .int .u32 0, .int .u32 0, .int .u32 0, .int .u32 0, .int .u32 0, .int .u32 0, .int .u32 0, .int .u32 0, .int .u32 0, .int .u32 0, .int .u32 0, .int .u32 0, .int .u32 0, .int .u32 0, .int .u32 0, .int .u32 0, .bool false], .agg #[.int .u8 0, .int .u8 0, .int .u8 0, .int .i32 0]] 8 (World.laidAll_os _ _ _)
      (World.shaped_of_ZipB (by kernel_rfl) (by kernel_rfl)) (by kernel_rfl) (by kernel_rfl) (by kernel_rfl)
      (by rw [MakeChecks.laidMetH_plain _ _ _ (by kernel_rfl)]; exact laidMet_laidAll _ (by kernel_rfl) (by kernel_rfl))) ?_
  intro W base args ds gs before hval0 hW hcnd hsz0 hL _
  have hval : ∀ (j : Nat) t v, Tryd.f3.params[j]? = some t → args[j]? = some v → Value.okWide Tryd.prog W .any base t v := hval0
  have hW' := hW
  obtain ⟨p, q, hA0, hV, rfl, hfz, hnd⟩ := hW
  have hA : DataW.TrodAll enc Tryd.prog W 0 (fun _ => true) true Tryd.f3.params.toList args.toList ds p := hA0
  rw [Tryd.params3] at hA hval
  obtain ⟨v0, vs0, d0, ds0, p0, q0, hargs, rfl, rfl, h0, r0⟩ := trodAll_cons hA
  obtain ⟨v1, vs1, d1, ds1, p1, q1, rfl, rfl, rfl, h1, r1⟩ := trodAll_cons r0
  obtain ⟨rfl, rfl, rfl⟩ := trodAll_nil r1
  obtain rfl : args = #[v0, v1] := by cases args; simp_all
  obtain ⟨rfl, rfl⟩ := trodVars_none hV
  have k0 := h0
  have lt0 : ∀ x ∈ p0, x.block < W.heap.size := by obtain ⟨m, hm⟩ := k0; exact DataW.trod_lt m _ _ _ hm
  obtain ⟨s0, rfl, ok0⟩ := open_sta (hval 0 25 v0 rfl rfl) h0
  have k1 := h1
  have lt1 : ∀ x ∈ p1, x.block < W.heap.size := by obtain ⟨m, hm⟩ := k1; exact DataW.trod_lt m _ _ _ hm
  obtain ⟨c1f0, c1f1, c1f2, c1f3, y1f0, y1f1, y1f2, y1f3, m1, rfl, _, _, e1f0, e1f1, e1f2, e1f3⟩ := Joins.open_agg4 Tryd.underlying27 (by kernel_rfl) (show Tryd.prog.cellsOf 27 = 4 by kernel_rfl) (hval 1 27 v1 rfl rfl) h1
  obtain ⟨a1f0, q1f0, _, w1f0⟩ := DataW.trod_int Tryd.underlying5 e1f0
  obtain rfl : c1f0 = .int .u8 a1f0 := by simpa using q1f0
  obtain ⟨a1f1, q1f1, _, w1f1⟩ := DataW.trod_int Tryd.underlying5 e1f1
  obtain rfl : c1f1 = .int .u8 a1f1 := by simpa using q1f1
  obtain ⟨a1f2, q1f2, _, w1f2⟩ := DataW.trod_int Tryd.underlying5 e1f2
  obtain rfl : c1f2 = .int .u8 a1f2 := by simpa using q1f2
  obtain ⟨a1f3, q1f3, _, w1f3⟩ := DataW.trod_int Tryd.underlying21 e1f3
  obtain rfl : c1f3 = .int .i32 a1f3 := by simpa using q1f3
  clear hA0 hval0
  refine (walk s0 ok0 a1f0 w1f0 a1f1 w1f1 a1f2 w1f2 a1f3 w1f3 W  (tabs_of_laid hL)).mono fun e W' ⟨he, bel0⟩ => ?_
  have bel : Below W.heap.size W W' := bel0
  subst he
  exact ⟨_, rfl, _, _, _, [], _, [], hW', trodAll_mk1 (shut_bool Tryd.underlying4 _), (trodAll_cons_mk (Below.trod laidOut (by kernel_rfl) (of_decide_eq_true (by kernel_rfl)) k0 bel lt0) (trodAll_cons_mk (Below.trod laidOut (by kernel_rfl) (of_decide_eq_true (by kernel_rfl)) k1 bel lt1) trodAll_mk0)), rfl, bel.frame _, fun h => by cases h⟩

theorem over : Rows.coreWantsRow.holds Tryd.pinned (OpenSpec.ofChange Rows.coreWantsSpec) :=
  OpenClaim.holds_of_wide 3 Tryd.f3 rfl rfl rfl rfl rfl rfl rfl ⟨rfl, rfl, rfl, rfl, rfl⟩ rfl rfl rfl rfl rfl (by kernel_rfl) Tryd.func3 (by kernel_rfl)
    (of_decide_eq_true (by kernel_rfl)) (by unfold Func.isWrapper; first | (rw [if_pos (by decide +kernel)]; kernel_rfl) | (rw [if_neg (by decide +kernel)]; exact ⟨rfl, rfl⟩))
    (fun os started H enc _ => lifted os started H enc)
end Go.Proofs.YtjmcbohjkdbkbaaDoor.coreWants
namespace Go.Proofs.YtjmcbohjkdbkbaaDoor

theorem coreWants_holds : Rows.CoreWantsCardSaid :=
  Claim7.holds_tied_plain_at .later [] [.data, .data] true (true, "52b46f9b7ae21ffc859c41e56d90ad8445281be9c2a10cec74ffa46054ae2aa7") true coreWants.over (fun _ h => by cases h) (by kernel_rfl) (fun _ h => by cases h) coreWants_row_tie rfl ⟨rfl, rfl⟩ (by kernel_rfl) rfl
    (fun f fn hf hfn => by
      obtain rfl : f = 3 := Option.some.inj ((show Tryd.prog.funcNamed "mummer/mummerlaw08.CoreWants" = some 3 by kernel_rfl).symm.trans hf) |>.symm
      obtain rfl : fn = Tryd.f3 := (Option.some.inj (Tryd.func3.symm.trans hfn)).symm
      exact ⟨by kernel_rfl, fun j t ht => by
        rw [Tryd.params3] at ht
        have hm : t ∈ [25, 27] := by simpa using Array.mem_of_getElem? ht
        have hall : ([25, 27].all fun u => !Tryd.prog.wantsStandIn u) = true := by kernel_rfl
        exact (show Tryd.prog.wantsStandIn t = false by simpa using List.all_eq_true.1 hall t hm)⟩)
    (by kernel_rfl)
#print axioms coreWants_holds
end Go.Proofs.YtjmcbohjkdbkbaaDoor
