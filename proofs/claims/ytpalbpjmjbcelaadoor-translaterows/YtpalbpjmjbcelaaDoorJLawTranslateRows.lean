/- Of any block and first exit the law TranslateRows returns true: the code's rows rise, one stands wherever an instruction of the host's begins, and the code ends behind the last one; the code's two tables hold what its text lays. -/
import Derived.Test.YtpalbpjmjbcelaaDoorRows
import Derived.Test.YtpalbpjmjbcelaaDoorTie
import Derived.Test.YtpalbpjmjbcelaaDoorCards
import Derived.WalkKit
import Derived.ProofKit
import Derived.OpenShut
import Derived.ShutString
import Derived.ChangeOld
import Derived.Below
import Derived.Lib.SmallJoins
import Derived.Lay
import Derived.SevenTiedAt
import Derived.Stop.Joined
import Derived.Test.YtpalbpjmjbcelaaDoorJ92
namespace Go.Proofs.YtpalbpjmjbcelaaDoor.translateRows
open Go.ChangeShapes Go.WideShapes Go.ChangeAt Go.RowKit
set_option linter.unusedVariables false
set_option linter.unusedSimpArgs false
theorem own : ownKnob Tryd.prog.godebug = none := by kernel_rfl
theorem laidOut : laidOutB Tryd.prog = true := by kernel_rfl
abbrev laidL : List (String × DataW Unit) := [("mummer/isa.forms", Rows.laid_mummer_isa_forms), ("mummer/isa.spans", Rows.laid_mummer_isa_spans)]
set_option maxHeartbeats 8000000 in
set_option maxRecDepth 100000 in
theorem walk (xi : Option Addr) (li ci : Nat) (I : List In4) (xa : Option Addr) (la ca : Nat) (A : List Int) (n t e : Int) (xf : Option Addr) (lf cf : Nat) (xt : Option Addr) (lt ct : Nat) (a1 : Int) (w1 : (Lit.int .u8 a1).wf = true) (w : World) (w0 : BlkIn w xi li ci I xa la ca A n t e) (hT : Tabs w) :
    Calls Tryd.prog 5 #[.agg (blkC (.slice xi li ci) (.slice xa la ca) n t e (.slice xf lf cf) (.slice xt lt ct)), .int .u8 a1] w fun e w' => e = .returned (.bool true) ∧ Kep w w' := by
  have f0 : 0 ≤ a1 ∧ a1 ≤ 255 := by have := gu8_of w1; omega
  have q0 : 0 ≤ a1 := f0.1
  have q1 : a1 ≤ 255 := f0.2
  have f0 := hidd f0
  have H := hidd w0
  have T0 := hidd hT
  have WK : Hid (∀ w', Kep w w' → Calls Tryd.prog 10 #[] w' fun r w'' => r = .returned (.bool true) ∧ Kep w' w'') := fun w' k => works20_any w' (T0.out.grown k)
  clear w0 hT w1
  cases hm : mayL I la e
  · have TR : Hid (∀ w', Kep w w' → Calls Tryd.prog 11 #[.agg (blkC (.slice xi li ci) (.slice xa la ca) n t e (.slice xf lf cf) (.slice xt lt ct)), .int .i64 a1] w' fun r w'' => r = .returned (.tuple #[.agg #[nilS, nilS], .int .i64 2]) ∧ Kep w' w'') := fun w' k => lttr_no (H.out.kep k) a1 (.inl hm) (T0.out.grown k)
    clear hm H
    go_enter Tryd.func5, Tryd.ntmps5
    go_upto_region 1 with fail
    obtain ⟨bb, qb⟩ : ∃ i, Hid (i = w.heap.size) := ⟨_, rfl⟩
    rw [← qb.out]
    obtain ⟨W, hW⟩ : ∃ V, Hid (w.alloc (.cells (blkC (.slice xi li ci) (.slice xa la ca) n t e (.slice xf lf cf) (.slice xt lt ct)) 27) = V) := ⟨_, rfl⟩
    rw [hW.out]
    have K1 : Hid (Kep w W) := by rw [Hid, ← hW.out]; exact (Kep.refl _).alloc _
    have Bb : Hid (W.heap[bb]? = some (.cells (blkC (.slice xi li ci) (.slice xa la ca) n t e (.slice xf lf cf) (.slice xt lt ct)) 27 (0, 0))) := by rw [Hid, ← hW.out]; exact hat _ _ _ qb.out
    clear hW qb
    obtain ⟨c0, c1, c2, c3, c4, c5, c6⟩ := blk_cells Bb.out
    go_wp2_with fail
    refine (TR.out W K1.out).mono ?_
    rintro r w1 ⟨rfl, k1⟩
    have KW := hidd (kep_trans K1.out k1)
    clear k1 c0 c1 c2 c3 c4 c5 c6 TR
    go_wp2_with fail
    refine (WK.out _ (KW.out.alloc _)).mono ?_
    rintro r w2 ⟨rfl, k2⟩
    have K2 := hidd (kep_trans (KW.out.alloc _) k2)
    clear k2
    go_wp2_with fail
    go_ret
    exact ⟨rfl, K2.out⟩
  · have IT : Hid (∀ x ∈ trI I A n t e a1, Itm e x) := fun x hx => trI_item H.out.hn hm H.out.io ⟨f0.out.1, by have := f0.out.2; omega⟩ hx
    have TL : Hid (2 ≤ (trI I A n t e a1).length ∧ (trI I A n t e a1).length ≤ 36) := trI_len hm
    have TR : Hid (∀ w', Kep w w' → Calls Tryd.prog 11 #[.agg (blkC (.slice xi li ci) (.slice xa la ca) n t e (.slice xf lf cf) (.slice xt lt ct)), .int .i64 a1] w' fun r w'' => ∃ g o c g2 o2 c2, r = .returned (.tuple #[.agg #[.slice (some ⟨g, o, none⟩) (itB (trI I A n t e a1)).length c, .slice (some ⟨g2, o2, none⟩) (trI I A n t e a1).length c2], .int .i64 0]) ∧ CdR w'' g o c g2 o2 c2 (trI I A n t e a1) ∧ Kep w' w'') := fun w' k => lttr_read (H.out.kep k) a1 hm ⟨f0.out.1, by have := f0.out.2; omega⟩ (T0.out.grown k)
    generalize trI I A n t e a1 = T at *
    clear hm H f0
    go_enter Tryd.func5, Tryd.ntmps5
    go_upto_region 1 with fail
    obtain ⟨bb, qb⟩ : ∃ i, Hid (i = w.heap.size) := ⟨_, rfl⟩
    rw [← qb.out]
    obtain ⟨W, hW⟩ : ∃ V, Hid (w.alloc (.cells (blkC (.slice xi li ci) (.slice xa la ca) n t e (.slice xf lf cf) (.slice xt lt ct)) 27) = V) := ⟨_, rfl⟩
    rw [hW.out]
    have K1 : Hid (Kep w W) := by rw [Hid, ← hW.out]; exact (Kep.refl _).alloc _
    have Bb : Hid (W.heap[bb]? = some (.cells (blkC (.slice xi li ci) (.slice xa la ca) n t e (.slice xf lf cf) (.slice xt lt ct)) 27 (0, 0))) := by rw [Hid, ← hW.out]; exact hat _ _ _ qb.out
    clear hW qb
    obtain ⟨c0, c1, c2, c3, c4, c5, c6⟩ := blk_cells Bb.out
    go_wp2_with fail
    refine (TR.out W K1.out).mono ?_
    rintro r w1 ⟨g, o, c, g2, o2, m2, rfl, cr, k1⟩
    have CR1 := hidd cr
    have KW1 := hidd (kep_trans K1.out k1)
    have Bb1 := hidd (k1.block Bb.out)
    clear cr k1 c0 c1 c2 c3 c4 c5 c6 TR
    go_upto_region 2 with fail
    obtain ⟨bc, qc⟩ : ∃ i, Hid (i = w1.heap.size) := ⟨_, rfl⟩
    rw [← qc.out]
    obtain ⟨W2, hW2⟩ : ∃ V, Hid (w1.alloc (.cells #[.slice (some ⟨g, o, none⟩) (itB T).length c, .slice (some ⟨g2, o2, none⟩) T.length m2] 33) = V) := ⟨_, rfl⟩
    rw [hW2.out]
    have kW2 : Kep w1 W2 := by rw [← hW2.out]; exact (Kep.refl _).alloc _
    have KW := hidd (kep_trans KW1.out kW2)
    have CR := hidd (CR1.out.kep kW2)
    have B0 := hidd (kW2.block Bb1.out)
    have BC : Hid (W2.heap[bc]? = some (.cells #[.slice (some ⟨g, o, none⟩) (itB T).length c, .slice (some ⟨g2, o2, none⟩) T.length m2] 33 (0, 0))) := by rw [Hid, ← hW2.out]; exact hat _ _ _ qc.out
    clear hW2 qc kW2 CR1 KW1 Bb1 Bb K1
    have TG := hidd (T0.out.grown KW.out)
    have n1 : ((itB T).length : Int) ≤ c := by have := CR.out.le; omega
    have n2 : (c : Int) ≤ 9223372036854775807 := by have := CR.out.mx; unfold maxLen at this; omega
    have n3 : (T.length : Int) ≤ m2 := by have := CR.out.le2; omega
    have n4 : (m2 : Int) ≤ 9223372036854775807 := by have := CR.out.mx2; unfold maxLen at this; omega
    have n5 : (T.length : Int) ≤ 36 := by have := TL.out.2; omega
    go_wp2_with fail
    go_loopw [7, 8] (fun a i wr => ∃ k : Nat, (k : Int) ≤ T.length ∧ i = .int .i64 k ∧ a = .int .i64 (itB (T.take k)).length ∧ Hid (Kep W2 wr)) (fun _ i _ => T.length - (intOf i).toNat)
    case atStart => exact ⟨0, by omega, rfl, rfl, hidd (Kep.refl _)⟩
    case round =>
      obtain ⟨k, hk, rfl, rfl, KR⟩ := hrel
      have b0 : wr.cell? ⟨bc, 0, none⟩ = some (.slice (some ⟨g, o, none⟩) (itB T).length c) := cell_of_block (KR.out.block BC.out)
      have b1 : wr.cell? ⟨bc, 1, none⟩ = some (.slice (some ⟨g2, o2, none⟩) T.length m2) := cell_of_block (KR.out.block BC.out)
      by_cases hlt : k < T.length
      · obtain ⟨x, hx⟩ : ∃ z, T[k]? = some z := ⟨_, List.getElem?_eq_getElem hlt⟩
        obtain ⟨r0, r1, r2, r3⟩ := (CR.out.kep KR.out).row hx
        have it := hidd (IT.out x (List.mem_of_getElem? hx))
        obtain ⟨t1, t2⟩ := take_lt (fun x hx => (IT.out x hx).1) hx
        have hs := hidd (itB_succ hx)
        have gl := hidd ((IT.out x (List.mem_of_getElem? hx)).1.len)
        have DC : Hid (∀ w', Kep wr w' → ∀ l cc, l = (itB T).length - (itB (T.take k)).length → cc = c - (itB (T.take k)).length → Calls Tryd.prog 14 #[.slice (some ⟨g, o + (itB (T.take k)).length, none⟩) l cc, .bool true] w' fun e w'' => e = .returned (.tuple #[.agg (insA x.1.1 x.1.2.1 x.1.2.2.1 x.1.2.2.2), .int .i64 (encH x.1).length, .int .i64 0]) ∧ Kep w' w'') :=
          fun w' kk l cc hl hcc => ((CR.out.kep KR.out).kep kk).dec (fun x hx => (IT.out x hx).1) hx (TG.out.grown (kep_trans KR.out kk)) l cc hl hcc
        generalize (itB (T.take k)).length = off at *
        have hx' := hidd hx
        clear hx
        have s1 : (off : Int) < (itB T).length := by omega
        have s2 : ¬ ((itB T).length : Int) ≤ off := by omega
        have s3 : ((off : Int) != off) = false := by simp
        obtain ⟨⟨op, a, b, im⟩, pc, dn, ex⟩ := x
        simp only at r0 r1 r2 r3 it DC hs t1 t2 gl
        go_wp2_with fail
        refine (DC.out wr (Kep.refl _) _ _ (by omega) (by omega)).mono ?_
        rintro r w3 ⟨rfl, k3⟩
        have KR3 := hidd (kep_trans KR.out k3)
        go_upto_region 11 with fail
        obtain ⟨bx, qx⟩ : ∃ i, Hid (i = w3.heap.size) := ⟨_, rfl⟩
        rw [← qx.out]
        obtain ⟨W4, hW4⟩ : ∃ V, Hid (w3.alloc (.cells (insA op a b im) 43) = V) := ⟨_, rfl⟩
        rw [hW4.out]
        have kW4 : Kep w3 W4 := by rw [← hW4.out]; exact (Kep.refl _).alloc _
        have KR4 := hidd (kep_trans KR3.out kW4)
        have Bx : Hid (W4.heap[bx]? = some (.cells (insA op a b im) 43 (0, 0))) := by rw [Hid, ← hW4.out]; exact hat _ _ _ qx.out
        have e0 : W4.cell? ⟨bx, 0, none⟩ = some (.int .u8 op) := cell_of_block Bx.out
        have e3 : W4.cell? ⟨bx, 3, none⟩ = some (.int .i32 im) := cell_of_block Bx.out
        have b1' : W4.cell? ⟨bc, 1, none⟩ = some (.slice (some ⟨g2, o2, none⟩) T.length m2) := cell_of_block (KR4.out.block BC.out)
        have r3' : W4.cell? ⟨g2, o2 + k * 4 + 3, none⟩ = some (.int .i64 ex) := (kep_trans k3 kW4).cell (World.block_lt_of_cell? wr _ r3) |>.trans r3
        clear hW4 qx kW4 k3 r0 r1 r2 r3 b0 b1
        have q7 : (k : Int) < T.length := by omega
        have en := hidd t2
        obtain ⟨gd, it⟩ := it.out
        simp only at it
        have go : (op == 113) = false ∧ ex = -1 ∨ op = 113 ∧ im = ex ∧ 0 ≤ ex ∧ ex ≤ 65535 := by
          rcases it with ⟨h1, h2⟩ | ⟨h1, h2⟩ | ⟨h1, h2, h3, h4⟩
          · exact .inl ⟨by rw [beq_eq_false_iff_ne]; omega, h1⟩
          · exact .inl ⟨by rw [beq_eq_false_iff_ne]; omega, h2⟩
          · exact .inr ⟨h1, h2, h3, h4⟩
        clear gd it
        have q8 : (off : Int) + (encH (op, a, b, im)).length ≤ (itB T).length := by omega
        have q9 : (0 : Int) ≤ (encH (op, a, b, im)).length := by omega
        rcases go with ⟨g7, rfl⟩ | ⟨rfl, rfl, g8, g9⟩
        · go_quiet (fail)
          go_wp2_with fail
          go_roundw
          case rel => exact ⟨k + 1, by omega, by go_num, by first | (rw [hs.out]; go_num) | (rw [hs.out]; exact congrArg (Value.int .i64) (by omega)), hidd (KR4.out.drewN _)⟩
          case measure => simp [intOf]; omega
        · go_quiet (fail)
          go_wp2_with fail
          go_roundw
          case rel => exact ⟨k + 1, by omega, by go_num, by first | (rw [hs.out]; go_num) | (rw [hs.out]; exact congrArg (Value.int .i64) (by omega)), hidd (KR4.out.drewN _)⟩
          case measure => simp [intOf]; omega
      · obtain rfl : k = T.length := by omega
        rw [List.take_length]
        go_wp2_with fail
        refine (WK.out _ (kep_trans KW.out KR.out)).mono ?_
        rintro r w3 ⟨rfl, k3⟩
        have k3 := hidd k3
        go_wp2_with fail
        go_ret
        exact ⟨rfl, kep_trans KW.out (kep_trans KR.out k3.out)⟩
set_option maxRecDepth 100000 in
theorem lifted (os : Os) (started : os.Started) (H : Type) (enc : TypeId × Value → H) :
    ReturnsInHanded {} Tryd.checked os 5 .any (fun w args => (Rows.translateRowsSpec.pre enc Tryd.prog Tryd.f5 Rows.translateRowsRow.domain false w args ∧ laidMetH Tryd.prog laidL w) ∧ sizedMet enc Tryd.prog Tryd.f5 (OpenSpec.ofChange Rows.translateRowsSpec) false w args)
      (Rows.translateRowsSpec.post enc Tryd.prog Tryd.f5 false true false false) := by
  refine returnsInHanded_of_change_and (C := Tryd.checked) (X := fun w _ => laidMetH Tryd.prog laidL w) (fun _ _ _ hh h => h.of_heap hh) own started (by kernel_rfl) Tryd.func5
    (ChangeSpec.witness_shaped (enc := enc) (C := Tryd.checked) (os := os) (X := fun w _ => laidMetH Tryd.prog laidL w) false (World.laidAll Tryd.prog os laidL) #[.agg #[.slice none 0 0, .slice none 0 0, .int .u32 0, .int .u32 0, .int .i64 0, .slice none 0 0, .slice none 0 0], .int .u8 0] 8 (World.laidAll_os _ _ _)
      (World.shaped_of_ZipB (by kernel_rfl) (by kernel_rfl)) (by kernel_rfl) (by kernel_rfl) (by kernel_rfl)
      (by rw [MakeChecks.laidMetH_plain _ _ _ (by kernel_rfl)]; exact laidMet_laidAll _ (by kernel_rfl) (by kernel_rfl))) ?_
  intro W base args ds gs before hval0 hW hcnd hsz0 hL _
  have hval : ∀ (j : Nat) t v, Tryd.f5.params[j]? = some t → args[j]? = some v → Value.okWide Tryd.prog W .any base t v := hval0
  have hW' := hW
  obtain ⟨p, q, hA0, hV, rfl, hfz, hnd⟩ := hW
  have hA : DataW.TrodAll enc Tryd.prog W 0 (fun _ => true) true Tryd.f5.params.toList args.toList ds p := hA0
  rw [Tryd.params5] at hA hval
  obtain ⟨v0, vs0, d0, ds0, p0, q0, hargs, rfl, rfl, h0, r0⟩ := trodAll_cons hA
  obtain ⟨v1, vs1, d1, ds1, p1, q1, rfl, rfl, rfl, h1, r1⟩ := trodAll_cons r0
  obtain ⟨rfl, rfl, rfl⟩ := trodAll_nil r1
  obtain rfl : args = #[v0, v1] := by cases args; simp_all
  obtain ⟨rfl, rfl⟩ := trodVars_none hV
  have k0 := h0
  have lt0 : ∀ x ∈ p0, x.block < W.heap.size := by obtain ⟨m, hm⟩ := k0; exact DataW.trod_lt m _ _ _ hm
  obtain ⟨xi, li, ci, I, xa, la, ca, A, n, t, e, xf, lf, cf, xt, lt, ct, rfl, w0⟩ := open_blk (hval 0 27 v0 rfl rfl) h0
  have k1 := h1
  have lt1 : ∀ x ∈ p1, x.block < W.heap.size := by obtain ⟨m, hm⟩ := k1; exact DataW.trod_lt m _ _ _ hm
  obtain ⟨a1, rfl, rfl, rfl, w1⟩ := open_int Tryd.underlying5 (hval 1 5 v1 rfl rfl) h1
  clear hA0 hval0
  refine (walk xi li ci I xa la ca A n t e xf lf cf xt lt ct a1 w1 W w0 (tabs_of_laid hL)).mono fun e W' ⟨he, bel0⟩ => ?_
  have bel : Below W.heap.size W W' := bel0
  subst he
  exact ⟨_, rfl, _, _, _, [], _, [], hW', trodAll_mk1 (shut_bool Tryd.underlying4 _), (trodAll_cons_mk (Below.trod laidOut (by kernel_rfl) (of_decide_eq_true (by kernel_rfl)) k0 bel lt0) (trodAll_cons_mk (Below.trod laidOut (by kernel_rfl) (of_decide_eq_true (by kernel_rfl)) k1 bel lt1) trodAll_mk0)), rfl, bel.frame _, fun h => by cases h⟩
theorem over : Rows.translateRowsRow.holds Tryd.pinned (OpenSpec.ofChange Rows.translateRowsSpec) :=
  OpenClaim.holds_of_wide 5 Tryd.f5 rfl rfl rfl rfl rfl rfl rfl ⟨rfl, rfl, rfl, rfl, rfl⟩ rfl rfl rfl rfl rfl (by kernel_rfl) Tryd.func5 (by kernel_rfl)
    (of_decide_eq_true (by kernel_rfl)) (by unfold Func.isWrapper; first | (rw [if_pos (by decide +kernel)]; kernel_rfl) | (rw [if_neg (by decide +kernel)]; exact ⟨rfl, rfl⟩))
    (fun os started H enc _ => lifted os started H enc)
end Go.Proofs.YtpalbpjmjbcelaaDoor.translateRows
namespace Go.Proofs.YtpalbpjmjbcelaaDoor
theorem translateRows_holds : Rows.TranslateRowsCardSaid :=
  Claim7.holds_tied_plain_at .later [] [.data, .data] true (true, "69482087f36a3cba66cc0542b4e91fc553cdd2ce9722dae708e01783fddc43ec") true translateRows.over (fun _ h => by cases h) (by kernel_rfl) (fun _ h => by cases h) translateRows_row_tie rfl ⟨rfl, rfl⟩ (by kernel_rfl) rfl
    (fun f fn hf hfn => by
      obtain rfl : f = 5 := Option.some.inj ((show Tryd.prog.funcNamed "mummer/mummerlaw20.TranslateRows" = some 5 by kernel_rfl).symm.trans hf) |>.symm
      obtain rfl : fn = Tryd.f5 := (Option.some.inj (Tryd.func5.symm.trans hfn)).symm
      exact ⟨by kernel_rfl, fun j t ht => by
        rw [Tryd.params5] at ht
        have hm : t ∈ [27, 5] := by simpa using Array.mem_of_getElem? ht
        have hall : ([27, 5].all fun u => !Tryd.prog.wantsStandIn u) = true := by kernel_rfl
        exact (show Tryd.prog.wantsStandIn t = false by simpa using List.all_eq_true.1 hall t hm)⟩)
    (by kernel_rfl)
#print axioms translateRows_holds
end Go.Proofs.YtpalbpjmjbcelaaDoor
