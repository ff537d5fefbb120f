/- Of any block the law TranslateMays returns true: the code says that it may be just where the document says so; the code's two tables hold what its text lays. -/
import Derived.Test.YtpalbpjmjbcelaaDoorRows
import Derived.Test.YtpalbpjmjbcelaaDoorTie
import Derived.Test.YtpalbpjmjbcelaaDoorCards
import Derived.WalkKit
import Derived.ProofKit
import Derived.OpenShut
import Derived.ShutString
import Derived.ChangeOld
import Derived.Below
import Derived.Lib.SmallJoins
import Derived.Lay
import Derived.SevenTiedAt
import Derived.Stop.Joined
import Derived.Test.YtpalbpjmjbcelaaDoorJ91
namespace Go.Proofs.YtpalbpjmjbcelaaDoor.translateMays
open Go.ChangeShapes Go.WideShapes Go.ChangeAt Go.RowKit
set_option linter.unusedVariables false
set_option linter.unusedSimpArgs false
theorem own : ownKnob Tryd.prog.godebug = none := by kernel_rfl
theorem laidOut : laidOutB Tryd.prog = true := by kernel_rfl
abbrev laidL : List (String × DataW Unit) := [("mummer/isa.forms", Rows.laid_mummer_isa_forms), ("mummer/isa.spans", Rows.laid_mummer_isa_spans)]
set_option maxHeartbeats 4000000 in
set_option maxRecDepth 100000 in
theorem walk (xi : Option Addr) (li ci : Nat) (I : List In4) (xa : Option Addr) (la ca : Nat) (A : List Int) (n t e : Int) (xf : Option Addr) (lf cf : Nat) (xt : Option Addr) (lt ct : Nat) (w : World) (w0 : BlkIn w xi li ci I xa la ca A n t e) (hT : Tabs w) :
    Calls Tryd.prog 3 #[.agg (blkC (.slice xi li ci) (.slice xa la ca) n t e (.slice xf lf cf) (.slice xt lt ct))] w fun e w' => e = .returned (.bool true) ∧ Kep w w' := by
  have MY : Hid (∀ w', Kep w w' → Calls Tryd.prog 8 #[.agg (blkC (.slice xi li ci) (.slice xa la ca) n t e (.slice xf lf cf) (.slice xt lt ct))] w' fun r w'' => r = .returned (.bool (mayL I la e)) ∧ Kep w' w'') := fun w' k => ltmay_any (w0.kep k) (hT.grown k)
  have RM : Hid (∀ w', Kep w w' → Calls Tryd.prog 9 #[.agg (blkC (.slice xi li ci) (.slice xa la ca) n t e (.slice xf lf cf) (.slice xt lt ct))] w' fun r w'' => r = .returned (.bool (mayL I la e)) ∧ Kep w' w'') := fun w' k => rmay20_any (w0.kep k)
  have WK : Hid (∀ w', Kep w w' → Calls Tryd.prog 10 #[] w' fun r w'' => r = .returned (.bool true) ∧ Kep w' w'') := fun w' k => works20_any w' (hT.grown k)
  generalize mayL I la e = M at MY RM
  clear w0 hT
  go_enter Tryd.func3, Tryd.ntmps3
  go_upto_region 1 with fail
  obtain ⟨bb, qb⟩ : ∃ i, Hid (i = w.heap.size) := ⟨_, rfl⟩
  rw [← qb.out]
  obtain ⟨W, hW⟩ : ∃ V, Hid (w.alloc (.cells (blkC (.slice xi li ci) (.slice xa la ca) n t e (.slice xf lf cf) (.slice xt lt ct)) 27) = V) := ⟨_, rfl⟩
  rw [hW.out]
  have K1 : Hid (Kep w W) := by rw [Hid, ← hW.out]; exact (Kep.refl _).alloc _
  have Bb : Hid (W.heap[bb]? = some (.cells (blkC (.slice xi li ci) (.slice xa la ca) n t e (.slice xf lf cf) (.slice xt lt ct)) 27 (0, 0))) := by rw [Hid, ← hW.out]; exact hat _ _ _ qb.out
  clear hW qb
  refine wp_region_held_drew (S := fun w' => Kep W w') (by kernel_rfl) ((Kep.refl _).drew) (fun hH => ?_)
  refine wpAnyH_take (i := 0) (v := .agg (blkC (.slice xi li ci) (.slice xa la ca) n t e (.slice xf lf cf) (.slice xt lt ct))) rfl (by kernel_rfl) (by kernel_rfl) (by kernel_rfl) (fun _ _ _ h => h) (yields_row rfl 27 (.tmp 1) (by rfl) bb (by rfl) 27 (blkC (.slice xi li ci) (.slice xa la ca) n t e (.slice xf lf cf) (.slice xt lt ct)) (0, 0) _ (fun w h => h.block Bb.out) Tryd.underlying27 rfl size_blk) hH ?_
  (try dsimp only [Act.put]); (try simp only [jA, jB, jC, Act.put, jD, jE, jF])
  refine wpAnyH_take (i := 2) (v := .agg (blkC (.slice xi li ci) (.slice xa la ca) n t e (.slice xf lf cf) (.slice xt lt ct))) rfl (by kernel_rfl) (by kernel_rfl) (by kernel_rfl) (fun _ _ _ h => h) (yields_row rfl 27 (.tmp 1) (by rfl) bb (by rfl) 27 (blkC (.slice xi li ci) (.slice xa la ca) n t e (.slice xf lf cf) (.slice xt lt ct)) (0, 0) _ (fun w h => h.block Bb.out) Tryd.underlying27 rfl size_blk) hH ?_
  (try dsimp only [Act.put]); (try simp only [jA, jB, jC, Act.put, jD, jE, jF])
  refine wpAnyH_ready (rs := [1]) (by kernel_rfl) (by simp) ?_
  refine AllReadyH.cons rfl (fun K hK => ?_) AllReadyH.nil
  rw [if_pos (by rfl)]
  go_simp
  refine (MY.out _ (kep_trans K1.out hH)).mono ?_
  rintro x w5 ⟨rfl, k5⟩
  refine hK.out _ _ (kep_trans hH k5) (fun hH => ?_)
  clear k5
  clear hK K
  (try dsimp only [Act.put]); (try simp only [jA, jB, jC, Act.put, jD, jE, jF])
  refine wpAnyH_ready (rs := [3]) (by kernel_rfl) (by simp) ?_
  refine AllReadyH.cons rfl (fun K hK => ?_) AllReadyH.nil
  rw [if_pos (by rfl)]
  go_simp
  refine (RM.out _ (kep_trans K1.out hH)).mono ?_
  rintro x w6 ⟨rfl, k6⟩
  refine hK.out _ _ (kep_trans hH k6) (fun hH => ?_)
  clear k6
  clear hK K
  (try dsimp only [Act.put]); (try simp only [jA, jB, jC, Act.put, jD, jE, jF])
  refine wpAnyH_take (i := 4) (v := .bool true) rfl (by kernel_rfl) (by kernel_rfl) (by kernel_rfl) (fun _ _ _ h => h) (.inl ⟨by rfl, by intro w hS; go_simp⟩) hH ?_
  (try dsimp only [Act.put]); (try simp only [jA, jB, jC, Act.put, jD, jE, jF])
  refine wpAnyH_take (i := 5) (v := .bool true) rfl (by kernel_rfl) (by kernel_rfl) (by kernel_rfl) (fun _ _ _ h => h) (.inl ⟨by rfl, by intro w hS; go_simp⟩) hH ?_
  (try dsimp only [Act.put]); (try simp only [jA, jB, jC, Act.put, jD, jE, jF])
  refine wpAnyH_ready (rs := [6]) (by kernel_rfl) (by simp) ?_
  refine AllReadyH.cons rfl (fun K hK => ?_) AllReadyH.nil
  rw [if_pos (by rfl)]
  go_simp
  refine (WK.out _ (kep_trans K1.out hH)).mono ?_
  rintro x w7 ⟨rfl, k7⟩
  refine hK.out _ _ (kep_trans hH k7) (fun hH => ?_)
  clear k7
  clear hK K
  (try dsimp only [Act.put]); (try simp only [jA, jB, jC, Act.put, jD, jE, jF])
  refine wpAnyH_take (i := 7) (v := .bool true) rfl (by kernel_rfl) (by kernel_rfl) (by kernel_rfl) (fun _ _ _ h => h) (.inl ⟨by rfl, by intro w hS; go_simp⟩) hH ?_
  (try dsimp only [Act.put]); (try simp only [jA, jB, jC, Act.put, jD, jE, jF])
  refine wpAnyH_take (i := 8) (v := .bool true) rfl (by kernel_rfl) (by kernel_rfl) (by kernel_rfl) (fun _ _ _ h => h) (.inl ⟨by rfl, by intro w hS; go_simp⟩) hH ?_
  (try dsimp only [Act.put]); (try simp only [jA, jB, jC, Act.put, jD, jE, jF])
  refine wpAnyH_done (by kernel_rfl) ?_ _
  go_wp2_with fail
  go_ret
  exact ⟨rfl, kep_trans K1.out hH⟩
set_option maxRecDepth 100000 in
theorem lifted (os : Os) (started : os.Started) (H : Type) (enc : TypeId × Value → H) :
    ReturnsInHanded {} Tryd.checked os 3 .any (fun w args => (Rows.translateMaysSpec.pre enc Tryd.prog Tryd.f3 Rows.translateMaysRow.domain false w args ∧ laidMetH Tryd.prog laidL w) ∧ sizedMet enc Tryd.prog Tryd.f3 (OpenSpec.ofChange Rows.translateMaysSpec) false w args)
      (Rows.translateMaysSpec.post enc Tryd.prog Tryd.f3 false true false false) := by
  refine returnsInHanded_of_change_and (C := Tryd.checked) (X := fun w _ => laidMetH Tryd.prog laidL w) (fun _ _ _ hh h => h.of_heap hh) own started (by kernel_rfl) Tryd.func3
    (ChangeSpec.witness_shaped (enc := enc) (C := Tryd.checked) (os := os) (X := fun w _ => laidMetH Tryd.prog laidL w) false (World.laidAll Tryd.prog os laidL) #[.agg #[.slice none 0 0, .slice none 0 0, .int .u32 0, .int .u32 0, .int .i64 0, .slice none 0 0, .slice none 0 0]] 8 (World.laidAll_os _ _ _)
      (World.shaped_of_ZipB (by kernel_rfl) (by kernel_rfl)) (by kernel_rfl) (by kernel_rfl) (by kernel_rfl)
      (by rw [MakeChecks.laidMetH_plain _ _ _ (by kernel_rfl)]; exact laidMet_laidAll _ (by kernel_rfl) (by kernel_rfl))) ?_
  intro W base args ds gs before hval0 hW hcnd hsz0 hL _
  have hval : ∀ (j : Nat) t v, Tryd.f3.params[j]? = some t → args[j]? = some v → Value.okWide Tryd.prog W .any base t v := hval0
  have hW' := hW
  obtain ⟨p, q, hA0, hV, rfl, hfz, hnd⟩ := hW
  have hA : DataW.TrodAll enc Tryd.prog W 0 (fun _ => true) true Tryd.f3.params.toList args.toList ds p := hA0
  rw [Tryd.params3] at hA hval
  obtain ⟨v0, vs0, d0, ds0, p0, q0, hargs, rfl, rfl, h0, r0⟩ := trodAll_cons hA
  obtain ⟨rfl, rfl, rfl⟩ := trodAll_nil r0
  obtain rfl : args = #[v0] := by cases args; simp_all
  obtain ⟨rfl, rfl⟩ := trodVars_none hV
  have k0 := h0
  have lt0 : ∀ x ∈ p0, x.block < W.heap.size := by obtain ⟨m, hm⟩ := k0; exact DataW.trod_lt m _ _ _ hm
  obtain ⟨xi, li, ci, I, xa, la, ca, A, n, t, e, xf, lf, cf, xt, lt, ct, rfl, w0⟩ := open_blk (hval 0 27 v0 rfl rfl) h0
  clear hA0 hval0
  refine (walk xi li ci I xa la ca A n t e xf lf cf xt lt ct W w0 (tabs_of_laid hL)).mono fun e W' ⟨he, bel0⟩ => ?_
  have bel : Below W.heap.size W W' := bel0
  subst he
  exact ⟨_, rfl, _, _, _, [], _, [], hW', trodAll_mk1 (shut_bool Tryd.underlying4 _), (trodAll_cons_mk (Below.trod laidOut (by kernel_rfl) (of_decide_eq_true (by kernel_rfl)) k0 bel lt0) trodAll_mk0), rfl, bel.frame _, fun h => by cases h⟩
theorem over : Rows.translateMaysRow.holds Tryd.pinned (OpenSpec.ofChange Rows.translateMaysSpec) :=
  OpenClaim.holds_of_wide 3 Tryd.f3 rfl rfl rfl rfl rfl rfl rfl ⟨rfl, rfl, rfl, rfl, rfl⟩ rfl rfl rfl rfl rfl (by kernel_rfl) Tryd.func3 (by kernel_rfl)
    (of_decide_eq_true (by kernel_rfl)) (by unfold Func.isWrapper; first | (rw [if_pos (by decide +kernel)]; kernel_rfl) | (rw [if_neg (by decide +kernel)]; exact ⟨rfl, rfl⟩))
    (fun os started H enc _ => lifted os started H enc)
end Go.Proofs.YtpalbpjmjbcelaaDoor.translateMays
namespace Go.Proofs.YtpalbpjmjbcelaaDoor
theorem translateMays_holds : Rows.TranslateMaysCardSaid :=
  Claim7.holds_tied_plain_at .later [] [.data, .data] true (true, "69482087f36a3cba66cc0542b4e91fc553cdd2ce9722dae708e01783fddc43ec") true translateMays.over (fun _ h => by cases h) (by kernel_rfl) (fun _ h => by cases h) translateMays_row_tie rfl ⟨rfl, rfl⟩ (by kernel_rfl) rfl
    (fun f fn hf hfn => by
      obtain rfl : f = 3 := Option.some.inj ((show Tryd.prog.funcNamed "mummer/mummerlaw20.TranslateMays" = some 3 by kernel_rfl).symm.trans hf) |>.symm
      obtain rfl : fn = Tryd.f3 := (Option.some.inj (Tryd.func3.symm.trans hfn)).symm
      exact ⟨by kernel_rfl, fun j t ht => by
        rw [Tryd.params3] at ht
        have hm : t ∈ [27] := by simpa using Array.mem_of_getElem? ht
        have hall : ([27].all fun u => !Tryd.prog.wantsStandIn u) = true := by kernel_rfl
        exact (show Tryd.prog.wantsStandIn t = false by simpa using List.all_eq_true.1 hall t hm)⟩)
    (by kernel_rfl)
#print axioms translateMays_holds
end Go.Proofs.YtpalbpjmjbcelaaDoor
