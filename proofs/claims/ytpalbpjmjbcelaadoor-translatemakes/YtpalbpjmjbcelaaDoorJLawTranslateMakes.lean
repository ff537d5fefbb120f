/- Of any block and first exit the law TranslateMakes returns true: the code that is made of a block is the document's, bytes and rows, or the block is refused; the code's two tables hold what its text lays. -/
import Derived.Test.YtpalbpjmjbcelaaDoorRows
import Derived.Test.YtpalbpjmjbcelaaDoorTie
import Derived.Test.YtpalbpjmjbcelaaDoorCards
import Derived.WalkKit
import Derived.ProofKit
import Derived.OpenShut
import Derived.ShutString
import Derived.ChangeOld
import Derived.Below
import Derived.Lib.SmallJoins
import Derived.Lay
import Derived.SevenTiedAt
import Derived.Stop.Joined
import Derived.Test.YtpalbpjmjbcelaaDoorJ18
namespace Go.Proofs.YtpalbpjmjbcelaaDoor.translateMakes
open Go.ChangeShapes Go.WideShapes Go.ChangeAt Go.RowKit
set_option linter.unusedVariables false
set_option linter.unusedSimpArgs false
theorem own : ownKnob Tryd.prog.godebug = none := by kernel_rfl
theorem laidOut : laidOutB Tryd.prog = true := by kernel_rfl
abbrev laidL : List (String × DataW Unit) := [("mummer/isa.forms", Rows.laid_mummer_isa_forms), ("mummer/isa.spans", Rows.laid_mummer_isa_spans)]
set_option maxHeartbeats 8000000 in
set_option maxRecDepth 100000 in
theorem walk (xi : Option Addr) (li ci : Nat) (I : List In4) (xa : Option Addr) (la ca : Nat) (A : List Int) (n t e : Int) (xf : Option Addr) (lf cf : Nat) (xt : Option Addr) (lt ct : Nat) (a1 : Int) (w1 : (Lit.int .i64 a1).wf = true) (w : World) (w0 : BlkIn w xi li ci I xa la ca A n t e) (hT : Tabs w) :
    Calls Tryd.prog 4 #[.agg (blkC (.slice xi li ci) (.slice xa la ca) n t e (.slice xf lf cf) (.slice xt lt ct)), .int .i64 a1] w fun e w' => e = .returned (.bool true) ∧ Kep w w' := by
  have H := hidd w0
  have T0 := hidd hT
  have WK : Hid (∀ w', Kep w w' → Calls Tryd.prog 10 #[] w' fun r w'' => r = .returned (.bool true) ∧ Kep w' w'') := fun w' k => works20_any w' (T0.out.grown k)
  have RM : Hid (∀ w', Kep w w' → Calls Tryd.prog 9 #[.agg (blkC (.slice xi li ci) (.slice xa la ca) n t e (.slice xf lf cf) (.slice xt lt ct))] w' fun r w'' => r = .returned (.bool (mayL I la e)) ∧ Kep w' w'') := fun w' k => rmay20_any (H.out.kep k)
  clear w0 hT w1
  by_cases hyes : mayL I la e = true ∧ 0 ≤ a1 ∧ a1 ≤ 65534
  · obtain ⟨hm, hf⟩ := hyes
    have ROK := hidd (trI_ok (A := A) (n := n) (t := t) hm H.out.io H.out.ao H.out.hn H.out.ht hf)
    have TR : Hid (∀ w', Kep w w' → Calls Tryd.prog 11 #[.agg (blkC (.slice xi li ci) (.slice xa la ca) n t e (.slice xf lf cf) (.slice xt lt ct)), .int .i64 a1] w' fun r w'' => ∃ g o c g2 o2 c2, r = .returned (.tuple #[.agg #[.slice (some ⟨g, o, none⟩) (itB (trI I A n t e a1)).length c, .slice (some ⟨g2, o2, none⟩) (trI I A n t e a1).length c2], .int .i64 0]) ∧ CdR w'' g o c g2 o2 c2 (trI I A n t e a1) ∧ Kep w' w'') := fun w' k => lttr_read (H.out.kep k) a1 hm hf (T0.out.grown k)
    have TA : Hid (∀ w', Kep w w' → Calls Tryd.prog 11 #[.agg (blkC (.slice xi li ci) (.slice xa la ca) n t e (.slice xf lf cf) (.slice xt lt ct)), .int .i64 a1] w' fun r w'' => ∃ v1 v2, r = .returned (.tuple #[.agg #[v1, v2], .int .i64 0]) ∧ CdAt w'' v1 v2 (trI I A n t e a1) ∧ Kep w' w'') := fun w' k => lttr_any (H.out.kep k) a1 hm hf (T0.out.grown k)
    have RT : Hid (∀ w', Kep w w' → Calls Tryd.prog 13 #[.agg (blkC (.slice xi li ci) (.slice xa la ca) n t e (.slice xf lf cf) (.slice xt lt ct)), .int .i64 a1] w' fun r w'' => ∃ v1 v2, r = .returned (.agg #[v1, v2]) ∧ CdAt w'' v1 v2 (trI I A n t e a1) ∧ Kep w' w'') := fun w' k => rtr20_any (H.out.kep k) a1 hm hf
    generalize trI I A n t e a1 = T at *
    rw [hm] at RM
    have f0 : ¬ a1 < 0 := by omega
    have f1 : ¬ 65534 < a1 := by omega
    clear hm H hf TR
    go_enter Tryd.func4, Tryd.ntmps4
    go_upto_region 1 with fail
    obtain ⟨bb, qb⟩ : ∃ i, Hid (i = w.heap.size) := ⟨_, rfl⟩
    rw [← qb.out]
    obtain ⟨W, hW⟩ : ∃ V, Hid (w.alloc (.cells (blkC (.slice xi li ci) (.slice xa la ca) n t e (.slice xf lf cf) (.slice xt lt ct)) 27) = V) := ⟨_, rfl⟩
    rw [hW.out]
    have K1 : Hid (Kep w W) := by rw [Hid, ← hW.out]; exact (Kep.refl _).alloc _
    have Bb : Hid (W.heap[bb]? = some (.cells (blkC (.slice xi li ci) (.slice xa la ca) n t e (.slice xf lf cf) (.slice xt lt ct)) 27 (0, 0))) := by rw [Hid, ← hW.out]; exact hat _ _ _ qb.out
    clear hW qb
    obtain ⟨c0, c1, c2, c3, c4, c5, c6⟩ := blk_cells Bb.out
    go_wp2_with fail
    refine (TA.out W K1.out).mono ?_
    rintro r w1 ⟨v1, v2, rfl, cd, k1⟩
    obtain ⟨F, G, s1, s2⟩ := id cd
    obtain ⟨x1, y1, hv1, _⟩ := s1.lies
    obtain ⟨x2, y2, hv2, _⟩ := s2.lies
    subst hv1 hv2
    have CD := hidd cd
    have K2 := hidd k1
    clear s1 s2 cd k1 c0 c1 c2 c3 c4 c5 c6 TA
    go_upto_region 2 with fail
    obtain ⟨bc, qc⟩ : ∃ i, Hid (i = w1.heap.size) := ⟨_, rfl⟩
    rw [← qc.out]
    obtain ⟨W2, hW2⟩ : ∃ V, Hid (w1.alloc (.cells #[.slice x1 (itB T).length y1, .slice x2 T.length y2] 33) = V) := ⟨_, rfl⟩
    rw [hW2.out]
    have kW2 : Kep w1 W2 := by rw [← hW2.out]; exact (Kep.refl _).alloc _
    have KW := hidd (kep_trans K1.out (kep_trans K2.out kW2))
    have BC : Hid (W2.heap[bc]? = some (.cells #[.slice x1 (itB T).length y1, .slice x2 T.length y2] 33 (0, 0))) := by rw [Hid, ← hW2.out]; exact hat _ _ _ qc.out
    have CD2 := hidd (CD.out.kep kW2)
    have Bb2 := hidd ((kep_trans K2.out kW2).block Bb.out)
    clear hW2 qc kW2 CD K2 Bb K1
    obtain ⟨c0, c1, c2, c3, c4, c5, c6⟩ := blk_cells Bb2.out
    go_wp2_with fail
    refine (RM.out W2 KW.out).mono ?_
    rintro r w3 ⟨rfl, k3⟩
    have BC3 := hidd (k3.block BC.out)
    have Bb3 := hidd (k3.block Bb2.out)
    have CD3 := hidd (CD2.out.kep k3)
    have KW3 := hidd (kep_trans KW.out k3)
    clear k3 c0 c1 c2 c3 c4 c5 c6 BC Bb2 CD2 KW
    go_upto_region 4 with fail
    refine wp_region_held_drew (S := fun w' => Kep w3 w') (by kernel_rfl) ((Kep.refl _).drew) (fun hH => ?_)
    refine wpAnyH_take (i := 0) (v := .int .i64 0) rfl (by kernel_rfl) (by kernel_rfl) (by kernel_rfl) (fun _ _ _ h => h) (.inl ⟨by rfl, by intro w hS; go_simp⟩) hH ?_
    (try dsimp only [Act.put]); (try simp only [jA, jB, jC, Act.put, jD, jE, jF])
    refine wpAnyH_take (i := 1) (v := .bool true) rfl (by kernel_rfl) (by kernel_rfl) (by kernel_rfl) (fun _ _ _ h => h) (.inl ⟨by rfl, by intro w hS; go_simp⟩) hH ?_
    (try dsimp only [Act.put]); (try simp only [jA, jB, jC, Act.put, jD, jE, jF])
    refine wpAnyH_take (i := 2) (v := .bool true) rfl (by kernel_rfl) (by kernel_rfl) (by kernel_rfl) (fun _ _ _ h => h) (.inl ⟨by rfl, by intro w hS; go_simp⟩) hH ?_
    (try dsimp only [Act.put]); (try simp only [jA, jB, jC, Act.put, jD, jE, jF])
    refine wpAnyH_take (i := 3) (v := .agg #[.slice x1 (itB T).length y1, .slice x2 T.length y2]) rfl (by kernel_rfl) (by kernel_rfl) (by kernel_rfl) (fun _ _ _ h => h) (yields_row20 (by rfl) 33 (.tmp 5) (by rfl) bc (by rfl) 33 #[.slice x1 (itB T).length y1, .slice x2 T.length y2] (0, 0) _ (fun w h => h.block BC3.out) Tryd.underlying33 rfl size_code) hH ?_
    (try dsimp only [Act.put]); (try simp only [jA, jB, jC, Act.put, jD, jE, jF])
    refine wpAnyH_take (i := 4) (v := .agg (blkC (.slice xi li ci) (.slice xa la ca) n t e (.slice xf lf cf) (.slice xt lt ct))) rfl (by kernel_rfl) (by kernel_rfl) (by kernel_rfl) (fun _ _ _ h => h) (yields_row20 (by rfl) 27 (.tmp 2) (by rfl) bb (by rfl) 27 (blkC (.slice xi li ci) (.slice xa la ca) n t e (.slice xf lf cf) (.slice xt lt ct)) (0, 0) _ (fun w h => h.block Bb3.out) Tryd.underlying27 rfl size_blk) hH ?_
    (try dsimp only [Act.put]); (try simp only [jA, jB, jC, Act.put, jD, jE, jF])
    refine wpAnyH_take (i := 5) (v := .int .i64 a1) rfl (by kernel_rfl) (by kernel_rfl) (by kernel_rfl) (fun _ _ _ h => h) (.inl ⟨by rfl, by intro w hS; go_simp⟩) hH ?_
    (try dsimp only [Act.put]); (try simp only [jA, jB, jC, Act.put, jD, jE, jF])
    refine wpAnyH_ready (rs := [6]) (by kernel_rfl) (by simp) ?_
    refine AllReadyH.cons rfl (fun K hK => ?_) AllReadyH.nil
    rw [if_pos (by rfl)]
    go_simp
    refine (RT.out _ (kep_trans KW3.out hH)).mono ?_
    rintro x w5 ⟨u1, u2, rfl, cu, k5⟩
    have CU := hidd cu
    have CV := hidd ((CD3.out.kep hH).kep k5)
    refine hK.out _ _ (kep_trans hH k5) (fun hH => ?_)
    clear k5 cu
    clear hK K
    (try dsimp only [Act.put]); (try simp only [jA, jB, jC, Act.put, jD, jE, jF])
    refine wpAnyH_ready (rs := [7]) (by kernel_rfl) (by simp) ?_
    refine AllReadyH.cons rfl (fun K hK => ?_) AllReadyH.nil
    rw [if_pos (by rfl)]
    go_simp
    refine (same20_any CV.out CU.out ROK.out).mono ?_
    rintro x w6 ⟨rfl, k6⟩
    refine hK.out _ _ (kep_trans hH k6) (fun hH => ?_)
    clear k6
    clear hK K
    (try dsimp only [Act.put]); (try simp only [jA, jB, jC, Act.put, jD, jE, jF])
    refine wpAnyH_take (i := 8) (v := .bool true) rfl (by kernel_rfl) (by kernel_rfl) (by kernel_rfl) (fun _ _ _ h => h) (.inl ⟨by rfl, by intro w hS; go_simp⟩) hH ?_
    (try dsimp only [Act.put]); (try simp only [jA, jB, jC, Act.put, jD, jE, jF])
    refine wpAnyH_take (i := 9) (v := .bool true) rfl (by kernel_rfl) (by kernel_rfl) (by kernel_rfl) (fun _ _ _ h => h) (.inl ⟨by rfl, by intro w hS; go_simp⟩) hH ?_
    (try dsimp only [Act.put]); (try simp only [jA, jB, jC, Act.put, jD, jE, jF])
    refine wpAnyH_ready (rs := [10]) (by kernel_rfl) (by simp) ?_
    refine AllReadyH.cons rfl (fun K hK => ?_) AllReadyH.nil
    rw [if_pos (by rfl)]
    go_simp
    refine (WK.out _ (kep_trans KW3.out hH)).mono ?_
    rintro x w7 ⟨rfl, k7⟩
    refine hK.out _ _ (kep_trans hH k7) (fun hH => ?_)
    clear k7
    clear hK K
    (try dsimp only [Act.put]); (try simp only [jA, jB, jC, Act.put, jD, jE, jF])
    refine wpAnyH_take (i := 11) (v := .bool true) rfl (by kernel_rfl) (by kernel_rfl) (by kernel_rfl) (fun _ _ _ h => h) (.inl ⟨by rfl, by intro w hS; go_simp⟩) hH ?_
    (try dsimp only [Act.put]); (try simp only [jA, jB, jC, Act.put, jD, jE, jF])
    refine wpAnyH_take (i := 12) (v := .bool true) rfl (by kernel_rfl) (by kernel_rfl) (by kernel_rfl) (fun _ _ _ h => h) (.inl ⟨by rfl, by intro w hS; go_simp⟩) hH ?_
    (try dsimp only [Act.put]); (try simp only [jA, jB, jC, Act.put, jD, jE, jF])
    refine wpAnyH_done (by kernel_rfl) ?_ _
    go_wp2_with fail
    go_ret
    exact ⟨rfl, kep_trans KW3.out hH⟩
  · have hr : mayL I la e = false ∨ a1 < 0 ∨ 65534 < a1 := by
      cases hm : mayL I la e
      · exact .inl rfl
      · right
        by_cases h0 : a1 < 0
        · exact .inl h0
        · by_cases h1 : 65534 < a1
          · exact .inr h1
          · exact absurd ⟨hm, by omega, by omega⟩ hyes
    have TR : Hid (∀ w', Kep w w' → Calls Tryd.prog 11 #[.agg (blkC (.slice xi li ci) (.slice xa la ca) n t e (.slice xf lf cf) (.slice xt lt ct)), .int .i64 a1] w' fun r w'' => r = .returned (.tuple #[.agg #[nilS, nilS], .int .i64 2]) ∧ Kep w' w'') := fun w' k => lttr_no (H.out.kep k) a1 hr (T0.out.grown k)
    have hr' : (mayL I la e = false) ∨ (mayL I la e = true ∧ a1 < 0) ∨ (mayL I la e = true ∧ ¬ a1 < 0 ∧ 65534 < a1) := by
      cases hm : mayL I la e
      · exact .inl rfl
      · rcases hr with h | h | h
        · rw [hm] at h; cases h
        · exact .inr (.inl ⟨rfl, h⟩)
        · by_cases h0 : a1 < 0
          · exact .inr (.inl ⟨rfl, h0⟩)
          · exact .inr (.inr ⟨rfl, h0, h⟩)
    have SN := hidd same20_nil
    clear hr hyes H
    rcases hr' with hm | ⟨hm, h1⟩ | ⟨hm, h1, h2⟩
    all_goals
      rw [hm] at RM
      clear hm
      go_enter Tryd.func4, Tryd.ntmps4
      go_upto_region 1 with fail
      obtain ⟨bb, qb⟩ : ∃ i, Hid (i = w.heap.size) := ⟨_, rfl⟩
      rw [← qb.out]
      obtain ⟨W, hW⟩ : ∃ V, Hid (w.alloc (.cells (blkC (.slice xi li ci) (.slice xa la ca) n t e (.slice xf lf cf) (.slice xt lt ct)) 27) = V) := ⟨_, rfl⟩
      rw [hW.out]
      have K1 : Hid (Kep w W) := by rw [Hid, ← hW.out]; exact (Kep.refl _).alloc _
      have Bb : Hid (W.heap[bb]? = some (.cells (blkC (.slice xi li ci) (.slice xa la ca) n t e (.slice xf lf cf) (.slice xt lt ct)) 27 (0, 0))) := by rw [Hid, ← hW.out]; exact hat _ _ _ qb.out
      clear hW qb
      obtain ⟨c0, c1, c2, c3, c4, c5, c6⟩ := blk_cells Bb.out
      go_wp2_with fail
      refine (TR.out W K1.out).mono ?_
      rintro r w1 ⟨rfl, k1⟩
      have K2 := hidd k1
      clear k1 c0 c1 c2 c3 c4 c5 c6 TR
      go_upto_region 2 with fail
      obtain ⟨bc, qc⟩ : ∃ i, Hid (i = w1.heap.size) := ⟨_, rfl⟩
      rw [← qc.out]
      obtain ⟨W2, hW2⟩ : ∃ V, Hid (w1.alloc (.cells #[nilS, nilS] 33) = V) := ⟨_, rfl⟩
      rw [hW2.out]
      have kW2 : Kep w1 W2 := by rw [← hW2.out]; exact (Kep.refl _).alloc _
      have KW := hidd (kep_trans K1.out (kep_trans K2.out kW2))
      have BC : Hid (W2.heap[bc]? = some (.cells #[nilS, nilS] 33 (0, 0))) := by rw [Hid, ← hW2.out]; exact hat _ _ _ qc.out
      have Bb2 := hidd ((kep_trans K2.out kW2).block Bb.out)
      clear hW2 qc kW2 K2 Bb K1
      obtain ⟨c0, c1, c2, c3, c4, c5, c6⟩ := blk_cells Bb2.out
      go_wp2_with fail
      refine (RM.out W2 KW.out).mono ?_
      rintro r w3 ⟨rfl, k3⟩
      have BC3 := hidd (k3.block BC.out)
      have KW3 := hidd (kep_trans KW.out k3)
      clear k3 c0 c1 c2 c3 c4 c5 c6 BC Bb2 KW
      have d0 : w3.cell? ⟨bc, 0, none⟩ = some nilS := cell_of_block BC3.out
      have d1 : w3.cell? ⟨bc, 1, none⟩ = some nilS := cell_of_block BC3.out
      go_wp2_with fail
      refine (SN.out w3).mono ?_
      rintro r w4 ⟨rfl, k4⟩
      have KW4 := hidd (kep_trans KW3.out k4)
      clear k4 d0 d1
      go_wp2_with fail
      refine (WK.out w4 KW4.out).mono ?_
      rintro r w5 ⟨rfl, k5⟩
      have KW5 := hidd (kep_trans KW4.out k5)
      clear k5
      go_wp2_with fail
      go_ret
      exact ⟨rfl, KW5.out⟩
set_option maxRecDepth 100000 in
theorem lifted (os : Os) (started : os.Started) (H : Type) (enc : TypeId × Value → H) :
    ReturnsInHanded {} Tryd.checked os 4 .any (fun w args => (Rows.translateMakesSpec.pre enc Tryd.prog Tryd.f4 Rows.translateMakesRow.domain false w args ∧ laidMetH Tryd.prog laidL w) ∧ sizedMet enc Tryd.prog Tryd.f4 (OpenSpec.ofChange Rows.translateMakesSpec) false w args)
      (Rows.translateMakesSpec.post enc Tryd.prog Tryd.f4 false true false false) := by
  refine returnsInHanded_of_change_and (C := Tryd.checked) (X := fun w _ => laidMetH Tryd.prog laidL w) (fun _ _ _ hh h => h.of_heap hh) own started (by kernel_rfl) Tryd.func4
    (ChangeSpec.witness_shaped (enc := enc) (C := Tryd.checked) (os := os) (X := fun w _ => laidMetH Tryd.prog laidL w) false (World.laidAll Tryd.prog os laidL) #[.agg #[.slice none 0 0, .slice none 0 0, .int .u32 0, .int .u32 0, .int .i64 0, .slice none 0 0, .slice none 0 0], .int .i64 0] 8 (World.laidAll_os _ _ _)
      (World.shaped_of_ZipB (by kernel_rfl) (by kernel_rfl)) (by kernel_rfl) (by kernel_rfl) (by kernel_rfl)
      (by rw [MakeChecks.laidMetH_plain _ _ _ (by kernel_rfl)]; exact laidMet_laidAll _ (by kernel_rfl) (by kernel_rfl))) ?_
  intro W base args ds gs before hval0 hW hcnd hsz0 hL _
  have hval : ∀ (j : Nat) t v, Tryd.f4.params[j]? = some t → args[j]? = some v → Value.okWide Tryd.prog W .any base t v := hval0
  have hW' := hW
  obtain ⟨p, q, hA0, hV, rfl, hfz, hnd⟩ := hW
  have hA : DataW.TrodAll enc Tryd.prog W 0 (fun _ => true) true Tryd.f4.params.toList args.toList ds p := hA0
  rw [Tryd.params4] at hA hval
  obtain ⟨v0, vs0, d0, ds0, p0, q0, hargs, rfl, rfl, h0, r0⟩ := trodAll_cons hA
  obtain ⟨v1, vs1, d1, ds1, p1, q1, rfl, rfl, rfl, h1, r1⟩ := trodAll_cons r0
  obtain ⟨rfl, rfl, rfl⟩ := trodAll_nil r1
  obtain rfl : args = #[v0, v1] := by cases args; simp_all
  obtain ⟨rfl, rfl⟩ := trodVars_none hV
  have k0 := h0
  have lt0 : ∀ x ∈ p0, x.block < W.heap.size := by obtain ⟨m, hm⟩ := k0; exact DataW.trod_lt m _ _ _ hm
  obtain ⟨xi, li, ci, I, xa, la, ca, A, n, t, e, xf, lf, cf, xt, lt, ct, rfl, w0⟩ := open_blk (hval 0 27 v0 rfl rfl) h0
  have k1 := h1
  have lt1 : ∀ x ∈ p1, x.block < W.heap.size := by obtain ⟨m, hm⟩ := k1; exact DataW.trod_lt m _ _ _ hm
  obtain ⟨a1, rfl, rfl, rfl, w1⟩ := open_int Tryd.underlying3 (hval 1 3 v1 rfl rfl) h1
  clear hA0 hval0
  refine (walk xi li ci I xa la ca A n t e xf lf cf xt lt ct a1 w1 W w0 (tabs_of_laid hL)).mono fun e W' ⟨he, bel0⟩ => ?_
  have bel : Below W.heap.size W W' := bel0
  subst he
  exact ⟨_, rfl, _, _, _, [], _, [], hW', trodAll_mk1 (shut_bool Tryd.underlying4 _), (trodAll_cons_mk (Below.trod laidOut (by kernel_rfl) (of_decide_eq_true (by kernel_rfl)) k0 bel lt0) (trodAll_cons_mk (Below.trod laidOut (by kernel_rfl) (of_decide_eq_true (by kernel_rfl)) k1 bel lt1) trodAll_mk0)), rfl, bel.frame _, fun h => by cases h⟩
theorem over : Rows.translateMakesRow.holds Tryd.pinned (OpenSpec.ofChange Rows.translateMakesSpec) :=
  OpenClaim.holds_of_wide 4 Tryd.f4 rfl rfl rfl rfl rfl rfl rfl ⟨rfl, rfl, rfl, rfl, rfl⟩ rfl rfl rfl rfl rfl (by kernel_rfl) Tryd.func4 (by kernel_rfl)
    (of_decide_eq_true (by kernel_rfl)) (by unfold Func.isWrapper; first | (rw [if_pos (by decide +kernel)]; kernel_rfl) | (rw [if_neg (by decide +kernel)]; exact ⟨rfl, rfl⟩))
    (fun os started H enc _ => lifted os started H enc)
end Go.Proofs.YtpalbpjmjbcelaaDoor.translateMakes
namespace Go.Proofs.YtpalbpjmjbcelaaDoor
theorem translateMakes_holds : Rows.TranslateMakesCardSaid :=
  Claim7.holds_tied_plain_at .later [] [.data, .data] true (true, "69482087f36a3cba66cc0542b4e91fc553cdd2ce9722dae708e01783fddc43ec") true translateMakes.over (fun _ h => by cases h) (by kernel_rfl) (fun _ h => by cases h) translateMakes_row_tie rfl ⟨rfl, rfl⟩ (by kernel_rfl) rfl
    (fun f fn hf hfn => by
      obtain rfl : f = 4 := Option.some.inj ((show Tryd.prog.funcNamed "mummer/mummerlaw20.TranslateMakes" = some 4 by kernel_rfl).symm.trans hf) |>.symm
      obtain rfl : fn = Tryd.f4 := (Option.some.inj (Tryd.func4.symm.trans hfn)).symm
      exact ⟨by kernel_rfl, fun j t ht => by
        rw [Tryd.params4] at ht
        have hm : t ∈ [27, 3] := by simpa using Array.mem_of_getElem? ht
        have hall : ([27, 3].all fun u => !Tryd.prog.wantsStandIn u) = true := by kernel_rfl
        exact (show Tryd.prog.wantsStandIn t = false by simpa using List.all_eq_true.1 hall t hm)⟩)
    (by kernel_rfl)
#print axioms translateMakes_holds
end Go.Proofs.YtpalbpjmjbcelaaDoor
