/- For every guest and every number, the law MachineHalts returns true: a machine that is halted stays so, and as it is. -/
import Derived.Test.YtojoobonienhnaaGreatDoorRows
import Derived.Test.YtojoobonienhnaaGreatDoorTie
import Derived.Test.YtojoobonienhnaaGreatDoorCards
import Derived.WalkKit
import Derived.ProofKit
import Derived.OpenShut
import Derived.ShutString
import Derived.ChangeOld
import Derived.Below
import Derived.Lib.SmallJoins
import Derived.Lay
import Derived.SevenTiedAt
import Derived.Stop.Joined
import Derived.Test.YtojoobonienhnaaGreatDoorJ51
namespace Go.Proofs.YtojoobonienhnaaGreatDoor.machineHalts
open Go.ChangeShapes Go.WideShapes Go.ChangeAt Go.RowKit
set_option linter.unusedVariables false
set_option linter.unusedSimpArgs false
theorem own : ownKnob Tryz.prog.godebug = none := by kernel_rfl
theorem laidOut : laidOutB Tryz.prog = true := by kernel_rfl
abbrev laidL : List (String × DataW Unit) := [("mummer/isa.forms", Rows.laid_mummer_isa_forms), ("mummer/isa.spans", Rows.laid_mummer_isa_spans)]
theorem gst_halt (fr : Int) (vi vc : Value) (en : Int) (s : Sta) (vs vd : Value) : (gstV fr vi vc en s vs vd).setIfInBounds 22 (.bool true) = gstV fr vi vc en s.halt vs vd := rfl
theorem gst_size (fr : Int) (vi vc : Value) (en : Int) (s : Sta) (vs vd : Value) : (Tryz.prog.info? 41).map (·.size) = some (gstV fr vi vc en s vs vd).size := by kernel_rfl
theorem yields_rowg {P : Program} {ops : Array Oper} {S : World → Prop} {o : Oper} {a : Act} (hw : Region.wanted o (yielded ops a.tmps) = true) (ty : TypeId) (x : Operand) (ho : o.op = .load ty x) (g : Nat) (hx : a.eval x = .pointer (some ⟨g, 0, none⟩)) (t : TypeId) (cs : Array Value) (fr : Nat × Nat) (d : TypeDesc)
    (hS : ∀ w, S w → w.heap[g]? = some (.cells cs t fr)) (hu : P.underlying ty = some d) (hd : (match d with | .struct _ | .array _ _ => true | _ => false) = true) (hi : (P.info? ty).map (·.size) = some cs.size) : YieldsIf P ops S o (.agg cs) a :=
  .inl ⟨hw, fun w h => by
    unfold execOp
    simp only [ho, hx, Instr.loadAt, Instr.sureAddr, Sem.run_bind, Sem.run_pure, Result.andThen_ok, run_loadVar_row w g t ty cs fr d (hS w h) hu hd hi]⟩
theorem room_of {k : Nat} {x : MS} (hN : x.N = []) (hn : x.n = 0) (hO : x.d.O = []) (hk : k ≤ 900000) : Room k x := ⟨by rw [hN]; simpa using hk, by rw [hO]; simpa using hk, by rw [hn]; omega⟩
set_option maxHeartbeats 8000000 in
set_option maxRecDepth 100000 in
theorem walk (fr : Int) (xi : Option Addr) (li ci : Nat) (Z : List Int) (xc : Option Addr) (lc cc : Nat) (C : List In4) (en : Int) (s : Sta) (xs : Option Addr) (ls cs : Nat) (E : List Ev) (xd : Option Addr) (ld cd : Nat) (D : List Int) (hfr : -9223372036854775808 ≤ fr ∧ fr ≤ 9223372036854775807) (a1 : Int) (w1 : (Lit.int .u8 a1).wf = true) (w : World) (w0 : GstIn w fr xi li ci Z xc lc cc C en s xs ls cs E xd ld cd D) (hT : Tabs w) :
    Calls Tryz.prog 5 #[.agg (gstV fr (.slice xi li ci) (.slice xc lc cc) en s (.slice xs ls cs) (.slice xd ld cd)), .int .u8 a1] w fun e w' => e = .returned (.bool true) ∧ Kep w w' := by
  have I' := hidd (show GstIn w fr xi li ci Z xc lc cc C en s.halt xs ls cs E xd ld cd D from ⟨w0.il, w0.ic, w0.im, w0.ii, w0.ib, w0.kl, w0.kc, w0.km, w0.ki, w0.ko, w0.eo, ⟨w0.so.r, w0.so.pc, w0.so.ps, w0.so.c⟩, w0.sd, w0.ev, w0.db⟩)
  have T' := hidd hT
  have F' := hidd hfr
  obtain ⟨V, hV⟩ : ∃ V, Hid (gstV fr (.slice xi li ci) (.slice xc lc cc) en s (.slice xs ls cs) (.slice xd ld cd) = V) := ⟨_, rfl⟩
  obtain ⟨V', hV'⟩ : ∃ V', Hid (gstV fr (.slice xi li ci) (.slice xc lc cc) en s.halt (.slice xs ls cs) (.slice xd ld cd) = V') := ⟨_, rfl⟩
  obtain ⟨n1, hn1⟩ : ∃ n : Nat, a1 = (n : Int) ∧ n < 256 := by
    have := gu8_of w1
    exact ⟨a1.toNat, by omega, by omega⟩
  obtain ⟨rfl, hn1⟩ := hn1
  have N1 := hidd hn1
  have HM : Hid (∀ w', Kep w w' → Calls Tryz.prog 14 #[.agg V'] w' (MadeP w' (nFr fr) (gstX fr Z C en s.halt E D) (.slice xs ls cs) E D)) := fun w' k => by rw [← hV'.out]; exact made12_any (I'.out.kep k) F'.out (T'.out.grown k)
  have HW : Hid (∀ w', Kep w w' → Calls Tryz.prog 11 #[] w' fun e w'' => e = .returned (.bool true) ∧ Kep w' w'') := fun w' k => works12_any w' (T'.out.grown k)
  rw [hV.out]
  clear w0 hfr hT w1 hn1
  go_enter Tryz.func5, Tryz.ntmps5
  go_upto_region 1 with fail
  obtain ⟨i1, q1⟩ : ∃ i1, Hid (i1 = w.heap.size) := ⟨_, rfl⟩
  rw [← q1.out]
  have B1 := hidd (show (w.alloc (.cells V 41)).heap[i1]? = some (.cells V 41 (0, 0)) by rw [q1.out]; exact hat _ _ _ rfl)
  have K1 := hidd ((Kep.refl w).alloc (.cells V 41))
  generalize w.alloc (.cells V 41) = W1 at B1 K1 ⊢
  have c1 : W1.cell? ⟨i1, 22, none⟩ = some (.bool s.h) := by rw [cell_of_block B1.out, ← hV.out]; rfl
  have f1 : W1.frozen? ⟨i1, 22, none⟩ = false := frozen_of_row _ _ _ _ _ B1.out
  go_upto_region 2 with fail
  have B2 : Hid ((W1.setCell ⟨i1, 22, none⟩ (.bool true)).heap[i1]? = some (.cells V' 41 (0, 0))) := by rw [Hid, heap_setCell_row B1.out, ← hV.out, gst_halt, hV'.out]
  have K2 : Hid (Kep w (W1.setCell ⟨i1, 22, none⟩ (.bool true))) := K1.out.setCell (by rw [q1.out]; exact Nat.le_refl _) _
  generalize W1.setCell ⟨i1, 22, none⟩ (.bool true) = W2 at B2 K2 ⊢
  clear c1 f1 B1 K1
  refine wp_region_lit ?_
  refine wpList_load_row (by rfl) 41 _ (by rfl) i1 (by rfl) 41 _ (0, 0) _ B2.out Tryz.underlying41 rfl (by rw [← hV'.out]; exact gst_size _ _ _ _ _ _ _) ?_
  go_wp2_with fail
  refine (HM.out W2 K2.out).mono ?_
  rintro e w3 (⟨he, rfl, k3⟩ | ⟨he, p, pm, R, G, q, Rb, G2, rfl, P⟩)
  · go_wp2_with fail
    go_ret
    exact ⟨rfl, kep_trans K2.out k3⟩
  have K3 := hidd (kep_trans K2.out P.kep)
  obtain ⟨x, hx⟩ : ∃ x, Hid (gstX fr Z C en s.halt E D = x) := ⟨_, rfl⟩
  have xh : Hid (x.s.h = true) := by rw [Hid, ← hx.out]; rfl
  have xn : Hid (x.n = 0) := by rw [Hid, ← hx.out]; rfl
  have xN : Hid (x.N = []) := by rw [Hid, ← hx.out]; rfl
  have xO : Hid (x.d.O = []) := by rw [Hid, ← hx.out]; rfl
  have xB : Hid (x.B ≠ []) := by
    rw [Hid, ← hx.out]
    intro e
    have h1 := gstL_len fr Z C en
    have h2 := nFr_range fr
    rw [show gstL fr Z C en = [] from e] at h1
    simp at h1; omega
  have ok3 : Hid x.Ok := by
    rw [Hid, ← hx.out]
    exact ms0_ok (ds0_ok he I'.out.ev I'.out.db) (errI_small he).1 (msk_ok I'.out.so) (by have h := xB.out; rw [← hx.out] at h; exact h)
  have M3 : Hid (Mine w [] p pm R (List.range (nFr fr)) x w3) := by
    rw [Hid, ← hx.out]
    exact ⟨G, P.mch, K3.out, fun g hg => by have := P.new g hg; have := K2.out.size; omega, by simp⟩
  obtain ⟨ix, hix⟩ : ∃ ix, Hid (List.range (nFr fr) = ix) := ⟨_, rfl⟩
  rw [hix.out] at M3
  have PB : Hid (∃ m0, Mach m0 p pm R ix x G) := ⟨w3, by rw [← hix.out, ← hx.out]; exact P.mch⟩
  clear P HM B2 K2
  go_upto_region 5 with fail
  go_upto_region 6 with (first
    | (go_at_call 16; refine M3.out.state.mono ?_; rintro e w4 ⟨rfl, k4⟩)
    | (refine wpList_store_row (by rfl) 26 _ _ (by rfl) w4.heap.size x.s.v (by rfl) (by rfl) 26 #[.int .u32 0, .int .u32 0, .int .u32 0, .int .u32 0, .int .u32 0, .int .u32 0, .int .u32 0, .int .u32 0, .int .u32 0, .int .u32 0, .int .u32 0, .int .u32 0, .int .u32 0, .int .u32 0, .int .u32 0, .int .u32 0, .int .u32 0, .int .u32 0, .bool false] (hat _ _ _ rfl) (by exact size_sta) (by rfl) (v_one _) ?_))
  have M4 := hidd (M3.out.kep k4)
  obtain ⟨i8, q8⟩ : ∃ i8, Hid (i8 = w4.heap.size) := ⟨_, rfl⟩
  rw [← q8.out]
  have A5 : Hid (At ((w4.alloc (.cells #[.int .u32 0, .int .u32 0, .int .u32 0, .int .u32 0, .int .u32 0, .int .u32 0, .int .u32 0, .int .u32 0, .int .u32 0, .int .u32 0, .int .u32 0, .int .u32 0, .int .u32 0, .int .u32 0, .int .u32 0, .int .u32 0, .int .u32 0, .int .u32 0, .bool false] 26)).setRow i8 x.s.v) i8 x.s) := by rw [q8.out]; exact setRow_heap _ _ _ _ _ _ (hat _ _ _ rfl)
  have k5 : Hid (Kep w4 ((w4.alloc (.cells #[.int .u32 0, .int .u32 0, .int .u32 0, .int .u32 0, .int .u32 0, .int .u32 0, .int .u32 0, .int .u32 0, .int .u32 0, .int .u32 0, .int .u32 0, .int .u32 0, .int .u32 0, .int .u32 0, .int .u32 0, .int .u32 0, .int .u32 0, .int .u32 0, .bool false] 26)).setRow i8 x.s.v)) := ((Kep.refl w4).alloc _).setRow _ _ (by rw [q8.out]; exact Nat.le_refl _)
  generalize (w4.alloc (.cells #[.int .u32 0, .int .u32 0, .int .u32 0, .int .u32 0, .int .u32 0, .int .u32 0, .int .u32 0, .int .u32 0, .int .u32 0, .int .u32 0, .int .u32 0, .int .u32 0, .int .u32 0, .int .u32 0, .int .u32 0, .int .u32 0, .int .u32 0, .int .u32 0, .bool false] 26)).setRow i8 x.s.v = w5 at A5 k5 ⊢
  have M5 : Hid (Mine w [i8] p pm R ix x w5) := M4.out.add xB.out k5.out (by rw [q8.out]; exact Nat.le_refl _) A5.out.lt
  clear M3 M4 k4 k5
  go_upto_region 7 with (go_at_call 21; refine (M5.out.come ok3.out).mono ?_; rintro e w6 ⟨vc, vw, rfl, m6, s6⟩)
  have A6 := hidd (Mine.at s6 (by simp) A5.out)
  obtain ⟨G0, mG⟩ : ∃ G0, Mach w5 p pm R ix x G0 := by obtain ⟨G0, m, _⟩ := M5.out; exact ⟨G0, m⟩
  obtain ⟨y, hy⟩ : ∃ y, Hid (comX x ix = y) := ⟨_, rfl⟩
  have yh : Hid (y.s.h = true) := by rw [Hid, ← hy.out]; exact xh.out
  have ys : Hid (y.s = x.s) := by rw [Hid, ← hy.out]; rfl
  have yn : Hid (y.n = 0) := by rw [Hid, ← hy.out]; exact xn.out
  have yN : Hid (y.N = []) := by rw [Hid, ← hy.out]; exact xN.out
  have oky : Hid y.Ok := by
    rw [Hid, ← hy.out]
    obtain ⟨_, _, _, _, m, _⟩ := mG
    exact com_ok ok3.out m.mem.byts m.mem.fits
  have rm : Hid (∀ k, k ≤ 900000 → Room k y) := fun k hk => by
    rw [← hy.out]
    obtain ⟨_, _, _, _, m, _⟩ := mG
    exact com_room ok3.out m.mem.byts m.mem.fits (room_of xN.out xn.out xO.out hk)
  rw [hy.out] at m6
  have M6 := hidd m6
  clear m6 s6 mG M5 A5
  rw [← ys.out] at A6
  have hss : ∀ w, Sem.run Tryz.prog (Op.equalIn 10000 26 (.agg y.s.v) (.agg y.s.v)) w = .ok true w := fun w => sta_same y.s w
  have wr1 : IntKind.i64.wrap (n1 : Int) = n1 := by have := N1.out; unfold IntKind.wrap; simp [IntKind.signed, IntKind.bits]; omega
  have RN : Hid (runX ix n1 y = y ∧ runN ix n1 y = 0) := run_halt ix yh.out n1
  have M6d := hidd M6.out.drew
  refine wp_region_held_drew (S := fun w' => Kep w w' ∧ At w' i8 y.s) (by kernel_rfl) (⟨M6.out.kp.drew, A6.out.drew⟩) (fun hH => ?_)
  refine wpAnyH_take (i := 0) (v := mpt p) rfl (by kernel_rfl) (by kernel_rfl) (by kernel_rfl) (fun _ _ _ h => h) (.inl ⟨by rfl, by intro w hS; go_simp⟩) hH ?_
  (try dsimp only [Act.put]); (try simp only [jA, jB, jC, Act.put, jD, jE, jF])
  refine wpAnyH_take (i := 1) (v := .int .u8 (n1 : Int)) rfl (by kernel_rfl) (by kernel_rfl) (by kernel_rfl) (fun _ _ _ h => h) (.inl ⟨by rfl, by intro w hS; go_simp⟩) hH ?_
  (try dsimp only [Act.put]); (try simp only [jA, jB, jC, Act.put, jD, jE, jF])
  refine wpAnyH_take (i := 2) (v := .int .i64 n1) rfl (by kernel_rfl) (by kernel_rfl) (by kernel_rfl) (fun _ _ _ h => h) (.inl ⟨by rfl, by intro w hS; go_simp⟩) hH ?_
  (try dsimp only [Act.put]); (try simp only [jA, jB, jC, Act.put, jD, jE, jF])
  refine wpAnyH_ready (rs := [3]) (by kernel_rfl) (by simp) ?_
  refine AllReadyH.cons rfl (fun K hK => ?_) AllReadyH.nil
  rw [if_pos (by rfl)]
  go_simp
  refine (M6d.out.run oky.out T'.out n1 (by have := N1.out; omega) (rm.out n1 (by have := N1.out; omega))).mono ?_
  rintro e w7 ⟨rfl, m7, s7⟩
  rw [RN.out.1] at m7
  refine hK.out _ _ ⟨m7.kp, Mine.at s7 (by simp) hH.2⟩ (fun hH => ?_)
  have M7 := hidd m7
  clear m7 s7
  rw [RN.out.2]
  clear hK K
  (try dsimp only [Act.put]); (try simp only [jA, jB, jC, Act.put, jD, jE, jF])
  refine wpAnyH_take (i := 4) (v := .bool true) rfl (by kernel_rfl) (by kernel_rfl) (by kernel_rfl) (fun _ _ _ h => h) (.inl ⟨by rfl, by intro w hS; go_simp⟩) hH ?_
  (try dsimp only [Act.put]); (try simp only [jA, jB, jC, Act.put, jD, jE, jF])
  refine wpAnyH_take (i := 5) (v := .bool true) rfl (by kernel_rfl) (by kernel_rfl) (by kernel_rfl) (fun _ _ _ h => h) (.inl ⟨by rfl, by intro w hS; go_simp⟩) hH ?_
  (try dsimp only [Act.put]); (try simp only [jA, jB, jC, Act.put, jD, jE, jF])
  refine wpAnyH_take (i := 6) (v := mpt p) rfl (by kernel_rfl) (by kernel_rfl) (by kernel_rfl) (fun _ _ _ h => h) (.inl ⟨by rfl, by intro w hS; go_simp⟩) hH ?_
  (try dsimp only [Act.put]); (try simp only [jA, jB, jC, Act.put, jD, jE, jF])
  refine wpAnyH_ready (rs := [7]) (by kernel_rfl) (by simp) ?_
  refine AllReadyH.cons rfl (fun K hK => ?_) AllReadyH.nil
  rw [if_pos (by rfl)]
  go_simp
  refine (M7.out.step oky.out T'.out (rm.out 1 (by omega))).mono ?_
  rintro e w8 ⟨rfl, m8, s8⟩
  rw [stp_halt yh.out] at m8
  rw [yh.out]
  refine hK.out _ _ ⟨m8.kp, Mine.at s8 (by simp) hH.2⟩ (fun hH => ?_)
  have M8 := hidd m8
  clear m8 s8
  clear hK K
  (try dsimp only [Act.put]); (try simp only [jA, jB, jC, Act.put, jD, jE, jF])
  refine wpAnyH_take (i := 8) (v := .bool true) rfl (by kernel_rfl) (by kernel_rfl) (by kernel_rfl) (fun _ _ _ h => h) (.inl ⟨by rfl, by intro w hS; go_simp⟩) hH ?_
  (try dsimp only [Act.put]); (try simp only [jA, jB, jC, Act.put, jD, jE, jF])
  refine wpAnyH_take (i := 9) (v := .bool true) rfl (by kernel_rfl) (by kernel_rfl) (by kernel_rfl) (fun _ _ _ h => h) (.inl ⟨by rfl, by intro w hS; go_simp⟩) hH ?_
  (try dsimp only [Act.put]); (try simp only [jA, jB, jC, Act.put, jD, jE, jF])
  refine wpAnyH_take (i := 10) (v := .bool true) rfl (by kernel_rfl) (by kernel_rfl) (by kernel_rfl) (fun _ _ _ h => h) (.inl ⟨by rfl, by intro w hS; go_simp⟩) hH ?_
  (try dsimp only [Act.put]); (try simp only [jA, jB, jC, Act.put, jD, jE, jF])
  refine wpAnyH_take (i := 11) (v := mpt p) rfl (by kernel_rfl) (by kernel_rfl) (by kernel_rfl) (fun _ _ _ h => h) (.inl ⟨by rfl, by intro w hS; go_simp⟩) hH ?_
  (try dsimp only [Act.put]); (try simp only [jA, jB, jC, Act.put, jD, jE, jF])
  refine wpAnyH_ready (rs := [12]) (by kernel_rfl) (by simp) ?_
  refine AllReadyH.cons rfl (fun K hK => ?_) AllReadyH.nil
  rw [if_pos (by rfl)]
  go_simp
  refine (M8.out.take oky.out (rm.out 1 (by omega))).mono ?_
  rintro e w9 ⟨rfl, m9, s9⟩
  rw [(tak_halt yh.out).1] at m9
  rw [(tak_halt yh.out).2]
  refine hK.out _ _ ⟨m9.kp, Mine.at s9 (by simp) hH.2⟩ (fun hH => ?_)
  have M9 := hidd m9
  clear m9 s9
  clear hK K
  (try dsimp only [Act.put]); (try simp only [jA, jB, jC, Act.put, jD, jE, jF])
  refine wpAnyH_take (i := 13) (v := .bool true) rfl (by kernel_rfl) (by kernel_rfl) (by kernel_rfl) (fun _ _ _ h => h) (.inl ⟨by rfl, by intro w hS; go_simp⟩) hH ?_
  (try dsimp only [Act.put]); (try simp only [jA, jB, jC, Act.put, jD, jE, jF])
  refine wpAnyH_take (i := 14) (v := .bool true) rfl (by kernel_rfl) (by kernel_rfl) (by kernel_rfl) (fun _ _ _ h => h) (.inl ⟨by rfl, by intro w hS; go_simp⟩) hH ?_
  (try dsimp only [Act.put]); (try simp only [jA, jB, jC, Act.put, jD, jE, jF])
  refine wpAnyH_take (i := 15) (v := .bool true) rfl (by kernel_rfl) (by kernel_rfl) (by kernel_rfl) (fun _ _ _ h => h) (.inl ⟨by rfl, by intro w hS; go_simp⟩) hH ?_
  (try dsimp only [Act.put]); (try simp only [jA, jB, jC, Act.put, jD, jE, jF])
  refine wpAnyH_take (i := 16) (v := mpt p) rfl (by kernel_rfl) (by kernel_rfl) (by kernel_rfl) (fun _ _ _ h => h) (.inl ⟨by rfl, by intro w hS; go_simp⟩) hH ?_
  (try dsimp only [Act.put]); (try simp only [jA, jB, jC, Act.put, jD, jE, jF])
  refine wpAnyH_take (i := 18) (v := .agg (fltV (0, 0))) rfl (by kernel_rfl) (by kernel_rfl) (by kernel_rfl) (fun _ _ _ h => h) (.inl ⟨by rfl, by intro w hS; go_simp⟩) hH ?_
  (try dsimp only [Act.put]); (try simp only [jA, jB, jC, Act.put, jD, jE, jF])
  refine wpAnyH_ready (rs := [17]) (by kernel_rfl) (by simp) ?_
  refine AllReadyH.cons rfl (fun K hK => ?_) AllReadyH.nil
  rw [if_pos (by rfl)]
  go_simp
  refine (M9.out.one oky.out T'.out (rm.out 1 (by omega))).mono ?_
  rintro e w10 ⟨rfl, m10, s10⟩
  rw [(one_halt ix yh.out).1] at m10
  rw [(one_halt ix yh.out).2]
  refine hK.out _ _ ⟨m10.kp, Mine.at s10 (by simp) hH.2⟩ (fun hH => ?_)
  have M10 := hidd m10
  clear m10 s10
  clear hK K
  (try dsimp only [Act.put]); (try simp only [jA, jB, jC, Act.put, jD, jE, jF])
  refine wpAnyH_take (i := 19) (v := .bool true) rfl (by kernel_rfl) (by kernel_rfl) (by kernel_rfl) (fun _ _ _ h => h) (.inl ⟨by rfl, by intro w hS; kernel_rfl⟩) hH ?_
  (try dsimp only [Act.put]); (try simp only [jA, jB, jC, Act.put, jD, jE, jF])
  refine wpAnyH_take (i := 20) (v := .bool true) rfl (by kernel_rfl) (by kernel_rfl) (by kernel_rfl) (fun _ _ _ h => h) (.inl ⟨by rfl, by intro w hS; go_simp⟩) hH ?_
  (try dsimp only [Act.put]); (try simp only [jA, jB, jC, Act.put, jD, jE, jF])
  refine wpAnyH_take (i := 21) (v := .bool true) rfl (by kernel_rfl) (by kernel_rfl) (by kernel_rfl) (fun _ _ _ h => h) (.inl ⟨by rfl, by intro w hS; go_simp⟩) hH ?_
  (try dsimp only [Act.put]); (try simp only [jA, jB, jC, Act.put, jD, jE, jF])
  refine wpAnyH_take (i := 22) (v := mpt p) rfl (by kernel_rfl) (by kernel_rfl) (by kernel_rfl) (fun _ _ _ h => h) (.inl ⟨by rfl, by intro w hS; go_simp⟩) hH ?_
  (try dsimp only [Act.put]); (try simp only [jA, jB, jC, Act.put, jD, jE, jF])
  refine wpAnyH_take (i := 24) (v := .agg y.s.v) rfl (by kernel_rfl) (by kernel_rfl) (by kernel_rfl) (fun _ _ _ h => h) (yields_rowg rfl 26 _ rfl i8 rfl 26 _ (0, 0) _ (fun w hS => hS.2) Tryz.underlying26 rfl (by exact size_sta)) hH ?_
  (try dsimp only [Act.put]); (try simp only [jA, jB, jC, Act.put, jD, jE, jF])
  refine wpAnyH_ready (rs := [23]) (by kernel_rfl) (by simp) ?_
  refine AllReadyH.cons rfl (fun K hK => ?_) AllReadyH.nil
  rw [if_pos (by rfl)]
  go_simp
  refine (M10.out.state).mono ?_
  rintro e w11 ⟨rfl, k11⟩
  refine hK.out _ _ ⟨kep_trans hH.1 k11, hH.2.kep k11⟩ (fun hH => ?_)
  have M11 := hidd (M10.out.kep k11)
  clear k11
  clear hK K
  (try dsimp only [Act.put]); (try simp only [jA, jB, jC, Act.put, jD, jE, jF])
  refine wpAnyH_take (i := 25) (v := .bool true) rfl (by kernel_rfl) (by kernel_rfl) (by kernel_rfl) (fun _ _ _ h => h) (.inl ⟨by rfl, by intro w hS; go_simp⟩) hH ?_
  (try dsimp only [Act.put]); (try simp only [jA, jB, jC, Act.put, jD, jE, jF])
  refine wpAnyH_take (i := 26) (v := .bool true) rfl (by kernel_rfl) (by kernel_rfl) (by kernel_rfl) (fun _ _ _ h => h) (.inl ⟨by rfl, by intro w hS; go_simp⟩) hH ?_
  (try dsimp only [Act.put]); (try simp only [jA, jB, jC, Act.put, jD, jE, jF])
  refine wpAnyH_take (i := 27) (v := .bool true) rfl (by kernel_rfl) (by kernel_rfl) (by kernel_rfl) (fun _ _ _ h => h) (.inl ⟨by rfl, by intro w hS; go_simp⟩) hH ?_
  (try dsimp only [Act.put]); (try simp only [jA, jB, jC, Act.put, jD, jE, jF])
  refine wpAnyH_take (i := 28) (v := mpt p) rfl (by kernel_rfl) (by kernel_rfl) (by kernel_rfl) (fun _ _ _ h => h) (.inl ⟨by rfl, by intro w hS; go_simp⟩) hH ?_
  (try dsimp only [Act.put]); (try simp only [jA, jB, jC, Act.put, jD, jE, jF])
  refine wpAnyH_ready (rs := [29]) (by kernel_rfl) (by simp) ?_
  refine AllReadyH.cons rfl (fun K hK => ?_) AllReadyH.nil
  rw [if_pos (by rfl)]
  go_simp
  refine (M11.out.steps).mono ?_
  rintro e w12 ⟨rfl, rfl⟩
  rw [yn.out]
  refine hK.out _ _ hH (fun hH => ?_)
  clear hK K
  (try dsimp only [Act.put]); (try simp only [jA, jB, jC, Act.put, jD, jE, jF])
  refine wpAnyH_take (i := 30) (v := .bool true) rfl (by kernel_rfl) (by kernel_rfl) (by kernel_rfl) (fun _ _ _ h => h) (.inl ⟨by rfl, by intro w hS; go_simp⟩) hH ?_
  (try dsimp only [Act.put]); (try simp only [jA, jB, jC, Act.put, jD, jE, jF])
  refine wpAnyH_take (i := 31) (v := .bool true) rfl (by kernel_rfl) (by kernel_rfl) (by kernel_rfl) (fun _ _ _ h => h) (.inl ⟨by rfl, by intro w hS; go_simp⟩) hH ?_
  (try dsimp only [Act.put]); (try simp only [jA, jB, jC, Act.put, jD, jE, jF])
  refine wpAnyH_take (i := 32) (v := .bool true) rfl (by kernel_rfl) (by kernel_rfl) (by kernel_rfl) (fun _ _ _ h => h) (.inl ⟨by rfl, by intro w hS; go_simp⟩) hH ?_
  (try dsimp only [Act.put]); (try simp only [jA, jB, jC, Act.put, jD, jE, jF])
  refine wpAnyH_take (i := 33) (v := mpt p) rfl (by kernel_rfl) (by kernel_rfl) (by kernel_rfl) (fun _ _ _ h => h) (.inl ⟨by rfl, by intro w hS; go_simp⟩) hH ?_
  (try dsimp only [Act.put]); (try simp only [jA, jB, jC, Act.put, jD, jE, jF])
  refine wpAnyH_ready (rs := [34]) (by kernel_rfl) (by simp) ?_
  refine AllReadyH.cons rfl (fun K hK => ?_) AllReadyH.nil
  rw [if_pos (by rfl)]
  go_simp
  refine (M11.out.notes (by rw [yN.out]; decide)).mono ?_
  rintro e w13 ⟨v, rfl, ⟨Gv, sl, _⟩, k13⟩
  rw [yN.out] at sl
  obtain ⟨xv, cv, rfl, _⟩ := sl.lies
  refine hK.out _ _ ⟨kep_trans hH.1 k13, hH.2.kep k13⟩ (fun hH => ?_)
  clear k13 sl
  clear hK K
  (try dsimp only [Act.put]); (try simp only [jA, jB, jC, Act.put, jD, jE, jF])
  refine wpAnyH_take (i := 35) (v := .int .i64 0) rfl (by kernel_rfl) (by kernel_rfl) (by kernel_rfl) (fun _ _ _ h => h) (.inl ⟨by rfl, by intro w hS; go_simp⟩) hH ?_
  (try dsimp only [Act.put]); (try simp only [jA, jB, jC, Act.put, jD, jE, jF])
  refine wpAnyH_take (i := 36) (v := .bool true) rfl (by kernel_rfl) (by kernel_rfl) (by kernel_rfl) (fun _ _ _ h => h) (.inl ⟨by rfl, by intro w hS; go_simp⟩) hH ?_
  (try dsimp only [Act.put]); (try simp only [jA, jB, jC, Act.put, jD, jE, jF])
  refine wpAnyH_take (i := 37) (v := .bool true) rfl (by kernel_rfl) (by kernel_rfl) (by kernel_rfl) (fun _ _ _ h => h) (.inl ⟨by rfl, by intro w hS; go_simp⟩) hH ?_
  (try dsimp only [Act.put]); (try simp only [jA, jB, jC, Act.put, jD, jE, jF])
  refine wpAnyH_take (i := 38) (v := .bool true) rfl (by kernel_rfl) (by kernel_rfl) (by kernel_rfl) (fun _ _ _ h => h) (.inl ⟨by rfl, by intro w hS; go_simp⟩) hH ?_
  (try dsimp only [Act.put]); (try simp only [jA, jB, jC, Act.put, jD, jE, jF])
  refine wpAnyH_ready (rs := [39]) (by kernel_rfl) (by simp) ?_
  refine AllReadyH.cons rfl (fun K hK => ?_) AllReadyH.nil
  rw [if_pos (by rfl)]
  go_simp
  refine (HW.out _ hH.1).mono ?_
  rintro e w14 ⟨rfl, k14⟩
  refine hK.out _ _ ⟨kep_trans hH.1 k14, hH.2.kep k14⟩ (fun hH => ?_)
  clear k14
  clear hK K
  (try dsimp only [Act.put]); (try simp only [jA, jB, jC, Act.put, jD, jE, jF])
  refine wpAnyH_take (i := 40) (v := .bool true) rfl (by kernel_rfl) (by kernel_rfl) (by kernel_rfl) (fun _ _ _ h => h) (.inl ⟨by rfl, by intro w hS; go_simp⟩) hH ?_
  (try dsimp only [Act.put]); (try simp only [jA, jB, jC, Act.put, jD, jE, jF])
  refine wpAnyH_take (i := 41) (v := .bool true) rfl (by kernel_rfl) (by kernel_rfl) (by kernel_rfl) (fun _ _ _ h => h) (.inl ⟨by rfl, by intro w hS; go_simp⟩) hH ?_
  (try dsimp only [Act.put]); (try simp only [jA, jB, jC, Act.put, jD, jE, jF])
  refine wpAnyH_done (by kernel_rfl) ?_ _
  go_wp2_with fail
  go_ret
  exact ⟨rfl, hH.1⟩
set_option maxRecDepth 100000 in
theorem lifted (os : Os) (started : os.Started) (H : Type) (enc : TypeId × Value → H) :
    ReturnsInHanded {} Tryz.checked os 5 .any (fun w args => (Rows.machineHaltsSpec.pre enc Tryz.prog Tryz.f5 Rows.machineHaltsRow.domain false w args ∧ laidMetH Tryz.prog laidL w) ∧ sizedMet enc Tryz.prog Tryz.f5 (OpenSpec.ofChange Rows.machineHaltsSpec) false w args)
      (Rows.machineHaltsSpec.post enc Tryz.prog Tryz.f5 false true false false) := by
  refine returnsInHanded_of_change_and (C := Tryz.checked) (X := fun w _ => laidMetH Tryz.prog laidL w) (fun _ _ _ hh h => h.of_heap hh) own started (by kernel_rfl) Tryz.func5
    (ChangeSpec.witness_shaped (enc := enc) (C := Tryz.checked) (os := os) (X := fun w _ => laidMetH Tryz.prog laidL w) false (World.laidAll Tryz.prog os laidL) #[.agg #[.int .i64 0, .slice none 0 0, .slice none 0 0, .int .u16 0, .int .u32 0, .int .u32 0, .int .u32 0, .int .u32 0, .int .u32 0, .int .u32 0, .int .u32 0, .int .u32 0, .int .u32 0, .int .u32 0, .int .u32 0, .int .u32 0, .int .u32 0, .int .u32 0, .int .u32 0, .int .u32 0, .int .u32 0, .int .u32 0, .bool false, .slice none 0 0, .slice none 0 0], .int .u8 0] 8 (World.laidAll_os _ _ _)
      (World.shaped_of_ZipB (by kernel_rfl) (by kernel_rfl)) (by kernel_rfl) (by kernel_rfl) (by kernel_rfl)
      (by rw [MakeChecks.laidMetH_plain _ _ _ (by kernel_rfl)]; exact laidMet_laidAll _ (by kernel_rfl) (by kernel_rfl))) ?_
  intro W base args ds gs before hval0 hW hcnd hsz0 hL _
  have hval : ∀ (j : Nat) t v, Tryz.f5.params[j]? = some t → args[j]? = some v → Value.okWide Tryz.prog W .any base t v := hval0
  have hW' := hW
  obtain ⟨p, q, hA0, hV, rfl, hfz, hnd⟩ := hW
  have hA : DataW.TrodAll enc Tryz.prog W 0 (fun _ => true) true Tryz.f5.params.toList args.toList ds p := hA0
  rw [Tryz.params5] at hA hval
  obtain ⟨v0, vs0, d0, ds0, p0, q0, hargs, rfl, rfl, h0, r0⟩ := trodAll_cons hA
  obtain ⟨v1, vs1, d1, ds1, p1, q1, rfl, rfl, rfl, h1, r1⟩ := trodAll_cons r0
  obtain ⟨rfl, rfl, rfl⟩ := trodAll_nil r1
  obtain rfl : args = #[v0, v1] := by cases args; simp_all
  obtain ⟨rfl, rfl⟩ := trodVars_none hV
  have k0 := h0
  have lt0 : ∀ x ∈ p0, x.block < W.heap.size := by obtain ⟨m, hm⟩ := k0; exact DataW.trod_lt m _ _ _ hm
  obtain ⟨fr, xi, li, ci, Z, xc, lc, cc, C, en, s, xs, ls, cs, E, xd, ld, cd, D, rfl, hfr, w0⟩ := open_gst (hval 0 41 v0 rfl rfl) h0
  have k1 := h1
  have lt1 : ∀ x ∈ p1, x.block < W.heap.size := by obtain ⟨m, hm⟩ := k1; exact DataW.trod_lt m _ _ _ hm
  obtain ⟨a1, rfl, rfl, rfl, w1⟩ := open_int Tryz.underlying5 (hval 1 5 v1 rfl rfl) h1
  clear hA0 hval0
  refine (walk fr xi li ci Z xc lc cc C en s xs ls cs E xd ld cd D hfr a1 w1 W w0 (tabs_of_laid hL)).mono fun e W' ⟨he, bel0⟩ => ?_
  have bel : Below W.heap.size W W' := bel0
  subst he
  exact ⟨_, rfl, _, _, _, [], _, [], hW', trodAll_mk1 (shut_bool Tryz.underlying4 _), (trodAll_cons_mk (Below.trod laidOut (by kernel_rfl) (of_decide_eq_true (by kernel_rfl)) k0 bel lt0) (trodAll_cons_mk (Below.trod laidOut (by kernel_rfl) (of_decide_eq_true (by kernel_rfl)) k1 bel lt1) trodAll_mk0)), rfl, bel.frame _, fun h => by cases h⟩
theorem over : Rows.machineHaltsRow.holds Tryz.pinned (OpenSpec.ofChange Rows.machineHaltsSpec) :=
  OpenClaim.holds_of_wide 5 Tryz.f5 rfl rfl rfl rfl rfl rfl rfl ⟨rfl, rfl, rfl, rfl, rfl⟩ rfl rfl rfl rfl rfl (by kernel_rfl) Tryz.func5 (by kernel_rfl)
    (of_decide_eq_true (by kernel_rfl)) (by unfold Func.isWrapper; first | (rw [if_pos (by decide +kernel)]; kernel_rfl) | (rw [if_neg (by decide +kernel)]; exact ⟨rfl, rfl⟩))
    (fun os started H enc _ => lifted os started H enc)
end Go.Proofs.YtojoobonienhnaaGreatDoor.machineHalts
namespace Go.Proofs.YtojoobonienhnaaGreatDoor
theorem machineHalts_holds : Rows.MachineHaltsCardSaid :=
  Claim7.holds_tied_plain_at .later [] [.data, .data] true (true, "5cbbd589b00704533d2a2cabec6c6acf0dc199b8b5d7e9fd7a5c8c054a7fc604") true machineHalts.over (fun _ h => by cases h) (by kernel_rfl) (fun _ h => by cases h) machineHalts_row_tie rfl ⟨rfl, rfl⟩ (by kernel_rfl) rfl
    (fun f fn hf hfn => by
      obtain rfl : f = 5 := Option.some.inj ((show Tryz.prog.funcNamed "mummer/mummerlaw12.MachineHalts" = some 5 by kernel_rfl).symm.trans hf) |>.symm
      obtain rfl : fn = Tryz.f5 := (Option.some.inj (Tryz.func5.symm.trans hfn)).symm
      exact ⟨by kernel_rfl, fun j t ht => by
        rw [Tryz.params5] at ht
        have hm : t ∈ [41, 5] := by simpa using Array.mem_of_getElem? ht
        have hall : ([41, 5].all fun u => !Tryz.prog.wantsStandIn u) = true := by kernel_rfl
        exact (show Tryz.prog.wantsStandIn t = false by simpa using List.all_eq_true.1 hall t hm)⟩)
    (by kernel_rfl)
#print axioms machineHalts_holds
end Go.Proofs.YtojoobonienhnaaGreatDoor
