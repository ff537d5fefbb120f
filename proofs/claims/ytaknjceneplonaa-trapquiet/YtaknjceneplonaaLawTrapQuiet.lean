/- Proved: TrapQuiet answers true for every state, every fault and every place; no condition is added. -/
import Derived.Test.YtaknjceneplonaaRows
import Derived.Test.YtaknjceneplonaaCopen
import Derived.Test.YtaknjceneplonaaCeq
import Derived.Test.YtaknjceneplonaaSkw
import Derived.Test.YtaknjceneplonaaXwant
import Derived.Test.YtaknjceneplonaaXent
import Derived.WalkKit
import Derived.ProofKit
import Derived.OpenShut
import Derived.ShutString
import Derived.ChangeOld
import Derived.Below
import Derived.Lib.SmallJoins
namespace Go.Proofs.Ytaknjceneplonaa.trapQuiet
open Go.ChangeShapes Go.WideShapes Go.ChangeAt Go.RowKit
set_option linter.unusedVariables false
set_option linter.unusedSimpArgs false

theorem own : ownKnob Try.prog.godebug = none := by kernel_rfl
theorem laidOut : laidOutB Try.prog = true := by kernel_rfl

theorem low2_off (x : Int) (h : 0 ≤ x ∧ x < 4294967296) : lowI2 x / 2 % 2 = 0 ∧ lowI2 x % 4 = 0 ∧ lowI2 x / 4 % 2 = x / 4 % 2 := by unfold lowI2; omega
theorem rr_same (s : Sta) (w : World) : (Op.equalIn 10000 23 (.agg #[.int .u32 (s.r 0), .int .u32 (s.r 1), .int .u32 (s.r 2), .int .u32 (s.r 3), .int .u32 (s.r 4), .int .u32 (s.r 5), .int .u32 (s.r 6), .int .u32 (s.r 7)]) (.agg #[.int .u32 (s.r 0), .int .u32 (s.r 1), .int .u32 (s.r 2), .int .u32 (s.r 3), .int .u32 (s.r 4), .int .u32 (s.r 5), .int .u32 (s.r 6), .int .u32 (s.r 7)])).run Try.prog w = .ok true w := cr_same ⟨s.r, 0, 0, s.r, false⟩ w
set_option maxHeartbeats 4000000 in
set_option maxRecDepth 100000 in
theorem walk (s0 : Sta) (ok0 : s0.Ok) (a1f0 : Int) (w1f0 : (Lit.int .i64 a1f0).wf = true) (a1f1 : Int) (w1f1 : (Lit.int .u32 a1f1).wf = true) (a2 : Int) (w2 : (Lit.int .u32 a2).wf = true) (w : World)  :
    Calls Try.prog 5 #[.agg s0.v, .agg #[.int .i64 a1f0, .int .u32 a1f1], .int .u32 a2] w fun e w' => e = .returned (.bool true) ∧ Kep w w' := by
  have b1 := bounds_u32 w1f1
  have b2 := bounds_u32 w2
  obtain ⟨m0, m1, m2⟩ := low2_off s0.ps ok0.ps
  have mr := low2_range s0.ps ok0.ps
  have q0 : wantsI (lowI2 s0.ps) 7 = 0 := by unfold wantsI; rw [if_pos m0]
  have q1 : (bits .and .u32 (lowI2 s0.ps) 3 == 0) = true := by rw [and3_is _ mr, m1]; rfl
  have q2 : (bits .and .u32 (lowI2 s0.ps) 4 == bits .and .u32 s0.ps 4) = true := by rw [and4_is _ mr, and4_is _ ok0.ps, m2]; simp
  have D1 : Hid (∀ w, Calls Try.prog 6 #[.agg s0.v, .agg #[.int .i64 a1f0, .int .u32 a1f1], .int .u32 a2] w fun e w' => e = .returned (.agg (entS s0 a1f0 a1f1 a2).v) ∧ Kep w w') := fun w => enter10_any s0 a1f0 a1f1 a2 w ok0 (by omega) (by omega)
  have D2 : Hid (∀ w, Calls Try.prog 9 #[.int .u32 (lowI2 s0.ps), .int .u32 7] w fun e w' => e = .returned (.int .i64 0) ∧ Kep w w') := fun w => by have := wants_any (lowI2 s0.ps) 7 w mr (by decide); rw [q0] at this; exact this
  have WK : Hid (∀ w, Calls Try.prog 8 #[] w fun e w' => e = .returned (.bool true) ∧ Kep w w') := works10_any
  have hrr := fun w => rr_same s0 w
  obtain ⟨E, hE⟩ : ∃ E, E = entS s0 a1f0 a1f1 a2 := ⟨_, rfl⟩
  have e1 : Hid (E.ps = lowI2 s0.ps ∧ E.r = s0.r ∧ E.c 0 = s0.c 0 ∧ E.c 1 = s0.c 1 ∧ E.pc = s0.c 1) := by rw [hE]; exact ⟨rfl, rfl, rfl, rfl, rfl⟩
  rw [← hE] at D1
  clear b1 b2 w1f0 w1f1 w2 m0 m1 m2 mr q0 hE
  go_enter Try.func5, Try.ntmps5
  go_upto_region 1 with fail
  generalize hW : World.alloc (World.alloc w _) _ = W
  have AW : Hid (W.heap[w.heap.size]? = some (.cells s0.v 25 (0, 0))) := by rw [← hW]; unfold Hid; (repeat (first | (with_reducible assumption) | (with_reducible exact Hid.out (by assumption)) | (with_reducible refine (hsk _ _ _ (by (first | omega | (simp only [World.size_alloc, World.size_setCell, size_setRow, World.size_drew]; done) | (simp only [World.size_alloc, World.size_setCell, size_setRow, World.size_drew]; omega)))).trans ?_) | (with_reducible refine (hat _ _ _ (by (first | omega | (simp only [World.size_alloc, World.size_setCell, size_setRow, World.size_drew]; done) | (simp only [World.size_alloc, World.size_setCell, size_setRow, World.size_drew]; omega))))) | (with_reducible refine Kep.block (Kep.alloc (Kep.refl _) _) ?_) | (with_reducible refine (heap_setCell_other _ _ _ _ (by (first | omega | (simp only []; omega) | (show _ ≠ _; omega)))).trans ?_) | (with_reducible refine (setRow_other _ _ _ _ (by (first | omega | (simp only []; omega) | (show _ ≠ _; omega)))).trans ?_) | (with_reducible refine (drew_heap _ _).trans ?_) | (with_reducible refine (drewN_heap _ _ _).trans ?_) | (with_reducible refine Kep.block (by assumption) ?_) | (with_reducible exact setRow_heap _ _ _ _ _ _ (by (repeat (first | (with_reducible assumption) | (with_reducible exact Hid.out (by assumption)) | (with_reducible refine (hsk _ _ _ (by (first | omega | (simp only [World.size_alloc, World.size_setCell, size_setRow, World.size_drew]; done) | (simp only [World.size_alloc, World.size_setCell, size_setRow, World.size_drew]; omega)))).trans ?_) | (with_reducible refine (hat _ _ _ (by (first | omega | (simp only [World.size_alloc, World.size_setCell, size_setRow, World.size_drew]; done) | (simp only [World.size_alloc, World.size_setCell, size_setRow, World.size_drew]; omega))))) | (with_reducible refine Kep.block (Kep.alloc (Kep.refl _) _) ?_) | (with_reducible refine (heap_setCell_other _ _ _ _ (by (first | omega | (simp only []; omega) | (show _ ≠ _; omega)))).trans ?_) | (with_reducible refine (setRow_other _ _ _ _ (by (first | omega | (simp only []; omega) | (show _ ≠ _; omega)))).trans ?_) | (with_reducible refine (drew_heap _ _).trans ?_) | (with_reducible refine (drewN_heap _ _ _).trans ?_)))))))
  have FW : W.heap[w.heap.size + 1]? = some (.cells #[.int .i64 a1f0, .int .u32 a1f1] 27 (0, 0)) := by rw [← hW]; (repeat (first | (with_reducible assumption) | (with_reducible exact Hid.out (by assumption)) | (with_reducible refine (hsk _ _ _ (by (first | omega | (simp only [World.size_alloc, World.size_setCell, size_setRow, World.size_drew]; done) | (simp only [World.size_alloc, World.size_setCell, size_setRow, World.size_drew]; omega)))).trans ?_) | (with_reducible refine (hat _ _ _ (by (first | omega | (simp only [World.size_alloc, World.size_setCell, size_setRow, World.size_drew]; done) | (simp only [World.size_alloc, World.size_setCell, size_setRow, World.size_drew]; omega))))) | (with_reducible refine Kep.block (Kep.alloc (Kep.refl _) _) ?_) | (with_reducible refine (heap_setCell_other _ _ _ _ (by (first | omega | (simp only []; omega) | (show _ ≠ _; omega)))).trans ?_) | (with_reducible refine (setRow_other _ _ _ _ (by (first | omega | (simp only []; omega) | (show _ ≠ _; omega)))).trans ?_) | (with_reducible refine (drew_heap _ _).trans ?_) | (with_reducible refine (drewN_heap _ _ _).trans ?_) | (with_reducible refine Kep.block (by assumption) ?_) | (with_reducible exact setRow_heap _ _ _ _ _ _ (by (repeat (first | (with_reducible assumption) | (with_reducible exact Hid.out (by assumption)) | (with_reducible refine (hsk _ _ _ (by (first | omega | (simp only [World.size_alloc, World.size_setCell, size_setRow, World.size_drew]; done) | (simp only [World.size_alloc, World.size_setCell, size_setRow, World.size_drew]; omega)))).trans ?_) | (with_reducible refine (hat _ _ _ (by (first | omega | (simp only [World.size_alloc, World.size_setCell, size_setRow, World.size_drew]; done) | (simp only [World.size_alloc, World.size_setCell, size_setRow, World.size_drew]; omega))))) | (with_reducible refine Kep.block (Kep.alloc (Kep.refl _) _) ?_) | (with_reducible refine (heap_setCell_other _ _ _ _ (by (first | omega | (simp only []; omega) | (show _ ≠ _; omega)))).trans ?_) | (with_reducible refine (setRow_other _ _ _ _ (by (first | omega | (simp only []; omega) | (show _ ≠ _; omega)))).trans ?_) | (with_reducible refine (drew_heap _ _).trans ?_) | (with_reducible refine (drewN_heap _ _ _).trans ?_)))))))
  have GW : Hid (Kep w W) := by rw [← hW]; show Kep _ _; (repeat (first | (with_reducible assumption) | (with_reducible exact Kep.refl _) | (with_reducible exact Hid.out (by assumption)) | (with_reducible refine Kep.alloc ?_ _) | (with_reducible refine Kep.drew ?_) | (with_reducible refine Kep.drewN ?_ _) | (with_reducible refine Kep.setRow ?_ _ _ (by (first | omega | (simp only [World.size_alloc, World.size_setCell, size_setRow, World.size_drew]; done) | (simp only [World.size_alloc, World.size_setCell, size_setRow, World.size_drew]; omega)))) | (with_reducible refine Kep.setCell ?_ (by first | omega | (simp only []; omega) | (show _ ≤ _; omega)) _)))
  obtain ⟨f0, f1⟩ := flt_at FW
  clear hW FW
  go_wp2_with (refine wpList_load_row (by rfl) 25 _ (by rfl) _ (by rfl) 25 _ (0, 0) _ (by (repeat (first | (with_reducible assumption) | (with_reducible exact Hid.out (by assumption)) | (with_reducible refine (hsk _ _ _ (by (first | omega | (simp only [World.size_alloc, World.size_setCell, size_setRow, World.size_drew]; done) | (simp only [World.size_alloc, World.size_setCell, size_setRow, World.size_drew]; omega)))).trans ?_) | (with_reducible refine (hat _ _ _ (by (first | omega | (simp only [World.size_alloc, World.size_setCell, size_setRow, World.size_drew]; done) | (simp only [World.size_alloc, World.size_setCell, size_setRow, World.size_drew]; omega))))) | (with_reducible refine Kep.block (Kep.alloc (Kep.refl _) _) ?_) | (with_reducible refine (heap_setCell_other _ _ _ _ (by (first | omega | (simp only []; omega) | (show _ ≠ _; omega)))).trans ?_) | (with_reducible refine (setRow_other _ _ _ _ (by (first | omega | (simp only []; omega) | (show _ ≠ _; omega)))).trans ?_) | (with_reducible refine (drew_heap _ _).trans ?_) | (with_reducible refine (drewN_heap _ _ _).trans ?_) | (with_reducible refine Kep.block (by assumption) ?_) | (with_reducible exact setRow_heap _ _ _ _ _ _ (by (repeat (first | (with_reducible assumption) | (with_reducible exact Hid.out (by assumption)) | (with_reducible refine (hsk _ _ _ (by (first | omega | (simp only [World.size_alloc, World.size_setCell, size_setRow, World.size_drew]; done) | (simp only [World.size_alloc, World.size_setCell, size_setRow, World.size_drew]; omega)))).trans ?_) | (with_reducible refine (hat _ _ _ (by (first | omega | (simp only [World.size_alloc, World.size_setCell, size_setRow, World.size_drew]; done) | (simp only [World.size_alloc, World.size_setCell, size_setRow, World.size_drew]; omega))))) | (with_reducible refine Kep.block (Kep.alloc (Kep.refl _) _) ?_) | (with_reducible refine (heap_setCell_other _ _ _ _ (by (first | omega | (simp only []; omega) | (show _ ≠ _; omega)))).trans ?_) | (with_reducible refine (setRow_other _ _ _ _ (by (first | omega | (simp only []; omega) | (show _ ≠ _; omega)))).trans ?_) | (with_reducible refine (drew_heap _ _).trans ?_) | (with_reducible refine (drewN_heap _ _ _).trans ?_)))))))) Try.underlying25 rfl (by exact size_sta) ?_)
  refine (D1.out _).mono ?_
  rintro e w1 ⟨rfl, K1⟩
  have A1 : Hid (At w1 w.heap.size s0) := K1.block AW.out
  have G1 : Hid (Kep w w1) := kep_trans GW.out K1
  have l1 := A1.out.lt
  clear K1 f0 f1 AW GW
  go_upto_region 2 with (refine wpList_store_row (by rfl) 25 _ _ (by rfl) _ _ (by rfl) (by rfl) 25 #[.int .u32 0, .int .u32 0, .int .u32 0, .int .u32 0, .int .u32 0, .int .u32 0, .int .u32 0, .int .u32 0, .int .u32 0, .int .u32 0, .int .u32 0, .int .u32 0, .int .u32 0, .int .u32 0, .int .u32 0, .int .u32 0, .int .u32 0, .int .u32 0, .bool false] (by (repeat (first | (with_reducible assumption) | (with_reducible exact Hid.out (by assumption)) | (with_reducible refine (hsk _ _ _ (by (first | omega | (simp only [World.size_alloc, World.size_setCell, size_setRow, World.size_drew]; done) | (simp only [World.size_alloc, World.size_setCell, size_setRow, World.size_drew]; omega)))).trans ?_) | (with_reducible refine (hat _ _ _ (by (first | omega | (simp only [World.size_alloc, World.size_setCell, size_setRow, World.size_drew]; done) | (simp only [World.size_alloc, World.size_setCell, size_setRow, World.size_drew]; omega))))) | (with_reducible refine Kep.block (Kep.alloc (Kep.refl _) _) ?_) | (with_reducible refine (heap_setCell_other _ _ _ _ (by (first | omega | (simp only []; omega) | (show _ ≠ _; omega)))).trans ?_) | (with_reducible refine (setRow_other _ _ _ _ (by (first | omega | (simp only []; omega) | (show _ ≠ _; omega)))).trans ?_) | (with_reducible refine (drew_heap _ _).trans ?_) | (with_reducible refine (drewN_heap _ _ _).trans ?_) | (with_reducible refine Kep.block (by assumption) ?_) | (with_reducible exact setRow_heap _ _ _ _ _ _ (by (repeat (first | (with_reducible assumption) | (with_reducible exact Hid.out (by assumption)) | (with_reducible refine (hsk _ _ _ (by (first | omega | (simp only [World.size_alloc, World.size_setCell, size_setRow, World.size_drew]; done) | (simp only [World.size_alloc, World.size_setCell, size_setRow, World.size_drew]; omega)))).trans ?_) | (with_reducible refine (hat _ _ _ (by (first | omega | (simp only [World.size_alloc, World.size_setCell, size_setRow, World.size_drew]; done) | (simp only [World.size_alloc, World.size_setCell, size_setRow, World.size_drew]; omega))))) | (with_reducible refine Kep.block (Kep.alloc (Kep.refl _) _) ?_) | (with_reducible refine (heap_setCell_other _ _ _ _ (by (first | omega | (simp only []; omega) | (show _ ≠ _; omega)))).trans ?_) | (with_reducible refine (setRow_other _ _ _ _ (by (first | omega | (simp only []; omega) | (show _ ≠ _; omega)))).trans ?_) | (with_reducible refine (drew_heap _ _).trans ?_) | (with_reducible refine (drewN_heap _ _ _).trans ?_)))))))) (by exact size_sta) (by rfl) (v_one _) ?_)
  dsimp only [Act.put]
  generalize hV : World.setRow (World.alloc w1 _) _ _ = V
  have AV : At V w.heap.size s0 := by have := A1.out; rw [← hV]; unfold At at *; (repeat (first | (with_reducible assumption) | (with_reducible exact Hid.out (by assumption)) | (with_reducible refine (hsk _ _ _ (by (first | omega | (simp only [World.size_alloc, World.size_setCell, size_setRow, World.size_drew]; done) | (simp only [World.size_alloc, World.size_setCell, size_setRow, World.size_drew]; omega)))).trans ?_) | (with_reducible refine (hat _ _ _ (by (first | omega | (simp only [World.size_alloc, World.size_setCell, size_setRow, World.size_drew]; done) | (simp only [World.size_alloc, World.size_setCell, size_setRow, World.size_drew]; omega))))) | (with_reducible refine Kep.block (Kep.alloc (Kep.refl _) _) ?_) | (with_reducible refine (heap_setCell_other _ _ _ _ (by (first | omega | (simp only []; omega) | (show _ ≠ _; omega)))).trans ?_) | (with_reducible refine (setRow_other _ _ _ _ (by (first | omega | (simp only []; omega) | (show _ ≠ _; omega)))).trans ?_) | (with_reducible refine (drew_heap _ _).trans ?_) | (with_reducible refine (drewN_heap _ _ _).trans ?_) | (with_reducible refine Kep.block (by assumption) ?_) | (with_reducible exact setRow_heap _ _ _ _ _ _ (by (repeat (first | (with_reducible assumption) | (with_reducible exact Hid.out (by assumption)) | (with_reducible refine (hsk _ _ _ (by (first | omega | (simp only [World.size_alloc, World.size_setCell, size_setRow, World.size_drew]; done) | (simp only [World.size_alloc, World.size_setCell, size_setRow, World.size_drew]; omega)))).trans ?_) | (with_reducible refine (hat _ _ _ (by (first | omega | (simp only [World.size_alloc, World.size_setCell, size_setRow, World.size_drew]; done) | (simp only [World.size_alloc, World.size_setCell, size_setRow, World.size_drew]; omega))))) | (with_reducible refine Kep.block (Kep.alloc (Kep.refl _) _) ?_) | (with_reducible refine (heap_setCell_other _ _ _ _ (by (first | omega | (simp only []; omega) | (show _ ≠ _; omega)))).trans ?_) | (with_reducible refine (setRow_other _ _ _ _ (by (first | omega | (simp only []; omega) | (show _ ≠ _; omega)))).trans ?_) | (with_reducible refine (drew_heap _ _).trans ?_) | (with_reducible refine (drewN_heap _ _ _).trans ?_)))))))
  have EV : At V w1.heap.size E := by rw [← hV]; unfold At; (repeat (first | (with_reducible assumption) | (with_reducible exact Hid.out (by assumption)) | (with_reducible refine (hsk _ _ _ (by (first | omega | (simp only [World.size_alloc, World.size_setCell, size_setRow, World.size_drew]; done) | (simp only [World.size_alloc, World.size_setCell, size_setRow, World.size_drew]; omega)))).trans ?_) | (with_reducible refine (hat _ _ _ (by (first | omega | (simp only [World.size_alloc, World.size_setCell, size_setRow, World.size_drew]; done) | (simp only [World.size_alloc, World.size_setCell, size_setRow, World.size_drew]; omega))))) | (with_reducible refine Kep.block (Kep.alloc (Kep.refl _) _) ?_) | (with_reducible refine (heap_setCell_other _ _ _ _ (by (first | omega | (simp only []; omega) | (show _ ≠ _; omega)))).trans ?_) | (with_reducible refine (setRow_other _ _ _ _ (by (first | omega | (simp only []; omega) | (show _ ≠ _; omega)))).trans ?_) | (with_reducible refine (drew_heap _ _).trans ?_) | (with_reducible refine (drewN_heap _ _ _).trans ?_) | (with_reducible refine Kep.block (by assumption) ?_) | (with_reducible exact setRow_heap _ _ _ _ _ _ (by (repeat (first | (with_reducible assumption) | (with_reducible exact Hid.out (by assumption)) | (with_reducible refine (hsk _ _ _ (by (first | omega | (simp only [World.size_alloc, World.size_setCell, size_setRow, World.size_drew]; done) | (simp only [World.size_alloc, World.size_setCell, size_setRow, World.size_drew]; omega)))).trans ?_) | (with_reducible refine (hat _ _ _ (by (first | omega | (simp only [World.size_alloc, World.size_setCell, size_setRow, World.size_drew]; done) | (simp only [World.size_alloc, World.size_setCell, size_setRow, World.size_drew]; omega))))) | (with_reducible refine Kep.block (Kep.alloc (Kep.refl _) _) ?_) | (with_reducible refine (heap_setCell_other _ _ _ _ (by (first | omega | (simp only []; omega) | (show _ ≠ _; omega)))).trans ?_) | (with_reducible refine (setRow_other _ _ _ _ (by (first | omega | (simp only []; omega) | (show _ ≠ _; omega)))).trans ?_) | (with_reducible refine (drew_heap _ _).trans ?_) | (with_reducible refine (drewN_heap _ _ _).trans ?_)))))))
  have GV : Hid (Kep w V) := kep_trans G1.out (by rw [← hV]; (repeat (first | (with_reducible assumption) | (with_reducible exact Kep.refl _) | (with_reducible exact Hid.out (by assumption)) | (with_reducible refine Kep.alloc ?_ _) | (with_reducible refine Kep.drew ?_) | (with_reducible refine Kep.drewN ?_ _) | (with_reducible refine Kep.setRow ?_ _ _ (by (first | omega | (simp only [World.size_alloc, World.size_setCell, size_setRow, World.size_drew]; done) | (simp only [World.size_alloc, World.size_setCell, size_setRow, World.size_drew]; omega)))) | (with_reducible refine Kep.setCell ?_ (by first | omega | (simp only []; omega) | (show _ ≤ _; omega)) _))))
  have AV' : Hid (At V w.heap.size s0) := AV
  have EV' : Hid (At V w1.heap.size E) := EV
  have p9 : V.cell? ⟨w1.heap.size, 9, none⟩ = some (.int .u32 (lowI2 s0.ps)) := by have := EV.ps; rw [e1.out.1] at this; exact this
  clear hV A1 G1 AV EV
  go_wp2_with fail
  refine (D2.out _).mono ?_
  rintro e w2 ⟨rfl, K2⟩
  have A2 := AV'.out.kep K2
  have E2 := EV'.out.kep K2
  have G2 : Hid (Kep w w2) := kep_trans GV.out K2
  have c9 : w2.cell? ⟨w1.heap.size, 9, none⟩ = some (.int .u32 (lowI2 s0.ps)) := by have := E2.ps; rw [e1.out.1] at this; exact this
  have d9 := A2.ps
  have r0 := E2.reg 0 (by decide)
  have r1 := E2.reg 1 (by decide)
  have r2 := E2.reg 2 (by decide)
  have r3 := E2.reg 3 (by decide)
  have r4 := E2.reg 4 (by decide)
  have r5 := E2.reg 5 (by decide)
  have r6 := E2.reg 6 (by decide)
  have r7 := E2.reg 7 (by decide)
  rw [e1.out.2.1] at r0 r1 r2 r3 r4 r5 r6 r7
  have t0 := A2.reg 0 (by decide)
  have t1 := A2.reg 1 (by decide)
  have t2 := A2.reg 2 (by decide)
  have t3 := A2.reg 3 (by decide)
  have t4 := A2.reg 4 (by decide)
  have t5 := A2.reg 5 (by decide)
  have t6 := A2.reg 6 (by decide)
  have t7 := A2.reg 7 (by decide)
  have u0 := E2.ctl 0 (by decide)
  have u1 := E2.ctl 1 (by decide)
  have u8 := E2.pc
  rw [e1.out.2.2.1] at u0
  rw [e1.out.2.2.2.1] at u1
  rw [e1.out.2.2.2.2] at u8
  have v0 := A2.ctl 0 (by decide)
  have v1 := A2.ctl 1 (by decide)
  clear K2 A2 E2 p9 AV' EV' GV
  go_wp2_with (go_at_call 8; refine (WK.out _).mono ?_; rintro e w9 ⟨rfl, K9⟩; have G9 : Hid (Kep w w9) := kep_trans G2.out K9; clear K9)
  go_ret
  exact ⟨rfl, G9.out⟩

set_option maxRecDepth 100000 in
theorem lifted (os : Os) (started : os.Started) (H : Type) (enc : TypeId × Value → H) :
    ReturnsInHanded {} Try.checked os 5 .any (Rows.trapQuietSpec.pre6 enc Try.prog Try.f5 Rows.trapQuietRow.domain false) (Rows.trapQuietSpec.post enc Try.prog Try.f5 false true false false) := by
  refine returnsInHanded_of_change (C := Try.checked) own started (by kernel_rfl) Try.func5
    (ChangeSpec.witness6 (enc := enc) (C := Try.checked) false ⟨#[], #[.agg #[.int .u32 0, .int .u32 0, .int .u32 0, .int .u32 0, .int .u32 0, .int .u32 0, .int .u32 0, .int .u32 0, .int .u32 0, .int .u32 0, .int .u32 0, .int .u32 0, .int .u32 0, .int .u32 0, .int .u32 0, .int .u32 0, .int .u32 0, .int .u32 0, .bool false], .agg #[.int .i64 0, .int .u32 0], .int .u32 0], []⟩ 8 (by kernel_rfl) (by kernel_rfl) (by kernel_rfl) (by kernel_rfl)) ?_
  intro W base args ds gs before hval0 hW hcnd _
  have hval : ∀ (j : Nat) t v, Try.f5.params[j]? = some t → args[j]? = some v → Value.okWide Try.prog W .any base t v := hval0
  have hW' := hW
  obtain ⟨p, q, hA0, hV, rfl, hfz, hnd⟩ := hW
  have hA : DataW.TrodAll enc Try.prog W 0 (fun _ => true) true Try.f5.params.toList args.toList ds p := hA0
  rw [Try.params5] at hA hval
  obtain ⟨v0, vs0, d0, ds0, p0, q0, hargs, rfl, rfl, h0, r0⟩ := trodAll_cons hA
  obtain ⟨v1, vs1, d1, ds1, p1, q1, rfl, rfl, rfl, h1, r1⟩ := trodAll_cons r0
  obtain ⟨v2, vs2, d2, ds2, p2, q2, rfl, rfl, rfl, h2, r2⟩ := trodAll_cons r1
  obtain ⟨rfl, rfl, rfl⟩ := trodAll_nil r2
  obtain rfl : args = #[v0, v1, v2] := by cases args; simp_all
  obtain ⟨rfl, rfl⟩ := trodVars_none hV
  have k0 := h0
  have lt0 : ∀ x ∈ p0, x.block < W.heap.size := by obtain ⟨m, hm⟩ := k0; exact DataW.trod_lt m _ _ _ hm
  obtain ⟨s0, rfl, ok0⟩ := open_sta (hval 0 25 v0 rfl rfl) h0
  have k1 := h1
  have lt1 : ∀ x ∈ p1, x.block < W.heap.size := by obtain ⟨m, hm⟩ := k1; exact DataW.trod_lt m _ _ _ hm
  obtain ⟨c1f0, c1f1, y1f0, y1f1, m1, rfl, _, _, e1f0, e1f1⟩ := Joins.open_agg2 Try.underlying27 (by kernel_rfl) (show Try.prog.cellsOf 27 = 2 by kernel_rfl) (hval 1 27 v1 rfl rfl) h1
  obtain ⟨a1f0, q1f0, _, w1f0⟩ := DataW.trod_int Try.underlying3 e1f0
  obtain rfl : c1f0 = .int .i64 a1f0 := by simpa using q1f0
  obtain ⟨a1f1, q1f1, _, w1f1⟩ := DataW.trod_int Try.underlying22 e1f1
  obtain rfl : c1f1 = .int .u32 a1f1 := by simpa using q1f1
  have k2 := h2
  have lt2 : ∀ x ∈ p2, x.block < W.heap.size := by obtain ⟨m, hm⟩ := k2; exact DataW.trod_lt m _ _ _ hm
  obtain ⟨a2, rfl, rfl, rfl, w2⟩ := open_int Try.underlying22 (hval 2 22 v2 rfl rfl) h2
  clear hA0 hval0
  refine (walk s0 ok0 a1f0 w1f0 a1f1 w1f1 a2 w2 W ).mono fun e W' ⟨he, bel0⟩ => ?_
  have bel : Below W.heap.size W W' := bel0
  subst he
  exact ⟨_, rfl, _, _, _, [], _, [], hW', trodAll_mk1 (shut_bool Try.underlying4 _), (trodAll_cons_mk (Below.trod laidOut (by kernel_rfl) (of_decide_eq_true (by kernel_rfl)) k0 bel lt0) (trodAll_cons_mk (Below.trod laidOut (by kernel_rfl) (of_decide_eq_true (by kernel_rfl)) k1 bel lt1) (trodAll_cons_mk (Below.trod laidOut (by kernel_rfl) (of_decide_eq_true (by kernel_rfl)) k2 bel lt2) trodAll_mk0))), rfl, bel.frame _, fun h => by cases h⟩

theorem over : Rows.trapQuietRow.holds Try.pinned (OpenSpec.ofChange Rows.trapQuietSpec) :=
  OpenClaim.holds_of_wide 5 Try.f5 rfl rfl rfl rfl rfl rfl rfl ⟨rfl, rfl, rfl, rfl, rfl⟩ rfl rfl rfl rfl rfl (by kernel_rfl) Try.func5 (by kernel_rfl)
    (of_decide_eq_true (by kernel_rfl)) (by unfold Func.isWrapper; first | (rw [if_pos (by decide +kernel)]; kernel_rfl) | (rw [if_neg (by decide +kernel)]; exact ⟨rfl, rfl⟩))
    (fun os started H enc _ => lifted os started H enc)
end Go.Proofs.Ytaknjceneplonaa.trapQuiet
namespace Go.Proofs.Ytaknjceneplonaa

theorem trapQuiet_holds : Rows.TrapQuietSaid := trapQuiet.over
#print axioms trapQuiet_holds
end Go.Proofs.Ytaknjceneplonaa
