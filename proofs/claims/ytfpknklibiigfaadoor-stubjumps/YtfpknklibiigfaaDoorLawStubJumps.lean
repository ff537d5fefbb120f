/- For any two addresses the law StubJumps returns true: the code's jump is the document's, or it is refused for the document's reason; the code's two tables hold what its text lays. -/
import Derived.Test.YtfpknklibiigfaaDoorRows
import Derived.Test.YtfpknklibiigfaaDoorTie
import Derived.Test.YtfpknklibiigfaaDoorCards
import Derived.Test.YtfpknklibiigfaaDoorStref
import Derived.WalkKit
import Derived.ProofKit
import Derived.OpenShut
import Derived.ShutString
import Derived.ChangeOld
import Derived.Below
import Derived.Lib.SmallJoins
import Derived.Lay
import Derived.SevenTiedAt
import Derived.Stop.Joined
namespace Go.Proofs.YtfpknklibiigfaaDoor.stubJumps
open Go.ChangeShapes Go.WideShapes Go.ChangeAt Go.RowKit
set_option linter.unusedVariables false
set_option linter.unusedSimpArgs false

theorem own : ownKnob Tryd.prog.godebug = none := by kernel_rfl
theorem laidOut : laidOutB Tryd.prog = true := by kernel_rfl

abbrev laidL : List (String × DataW Unit) := [("mummer/isa.forms", Rows.laid_mummer_isa_forms), ("mummer/isa.spans", Rows.laid_mummer_isa_spans)]

theorem st_nil (w : World) : Sem.run Tryd.prog (convert 22 9 (.slice none 0 0)) w = .ok (.string ByteArray.empty) w := by kernel_rfl

set_option maxHeartbeats 4000000 in
set_option maxRecDepth 100000 in
theorem walk (a0 : Int) (w0 : (Lit.int .i64 a0).wf = true) (a1 : Int) (w1 : (Lit.int .i64 a1).wf = true) (w : World) (hT : Tabs w) :
    Calls Tryd.prog 4 #[.int .i64 a0, .int .i64 a1] w fun e w' => e = .returned (.bool true) ∧ Kep w w' := by
  have hT' : Hid (Tabs w) := hT
  clear hT
  have s0 := st_nil
  cases h : jokB a0 a1
  · have hS : Hid (∀ w, _) := fun w => stjump_no a0 a1 h w
    have hR : Hid (∀ w, _) := fun w => rjump_no a0 a1 h w
    clear h
    go_enter Tryd.func4, Tryd.ntmps4
    go_wp2_with fail
    refine Calls.mono (hS.out _) ?_
    rintro e w1 ⟨rfl, hq⟩
    rw [hq]
    clear hq w1
    go_wp2_with fail
    refine Calls.mono (hR.out _) ?_
    rintro e w1 ⟨rfl, hq⟩
    rw [hq]
    clear hq w1
    go_wp2_with fail
    refine (works19_any _ hT'.out).mono ?_
    rintro e w4 ⟨rfl, g4⟩
    go_wp2_with fail
    go_ret
    exact ⟨rfl, g4⟩
  · by_cases hf : -32768 ≤ jfar a0 a1
    · have hS : Hid (∀ w, Tabs w → _) := fun w hT => stjump_ok a0 a1 h hf w hT
      have hR : Hid (∀ w, _) := fun w => rjump_made a0 a1 h hf w
      obtain ⟨L, hL⟩ : ∃ L, [64, jfar a0 a1 % 256, jfar a0 a1 / 256 % 256] = L := ⟨_, rfl⟩
      rw [hL] at hS hR
      clear hL h hf
      go_enter Tryd.func4, Tryd.ntmps4
      go_wp2_with fail
      refine Calls.mono (hS.out _ hT'.out) ?_
      rintro e w1 ⟨C, c, rfl, hown, g1⟩
      have G1 : Hid (Kep w w1) := g1
      have hs : Hid (∀ w', Kep w1 w' → Sem.run Tryd.prog (convert 22 9 (.slice (some ⟨C, 0, none⟩) 3 c)) w' = .ok (.string (strOf L)) w') := fun w' k => st_str hown k
      clear g1 hown hS
      go_wp2_with fail
      refine Calls.mono (hR.out _) ?_
      rintro e w3 ⟨D, rfl, hownD, g3⟩
      have s1 := st_str hownD (Kep.refl _)
      have s2 := hs.out w3 g3
      have G3 : Hid (Kep w w3) := kep_trans G1.out g3
      clear g3 hownD hs hR
      go_wp2_with fail
      refine (works19_any _ (hT'.out.grown G3.out)).mono ?_
      rintro e w4 ⟨rfl, g4⟩
      go_wp2_with fail
      go_ret
      exact ⟨rfl, kep_trans G3.out g4⟩
    · have hS : Hid (∀ w, Tabs w → _) := fun w hT => stjump_long a0 a1 h (by omega) w hT
      have hR : Hid (∀ w, _) := fun w => rjump_long a0 a1 h (by omega) w
      clear h hf
      go_enter Tryd.func4, Tryd.ntmps4
      go_wp2_with fail
      refine Calls.mono (hS.out _ hT'.out) ?_
      rintro e w1 ⟨rfl, g1⟩
      have G1 : Hid (Kep w w1) := g1
      clear g1
      go_wp2_with fail
      refine Calls.mono (hR.out _) ?_
      rintro e w2 ⟨rfl, hq⟩
      rw [hq]
      clear hq w2
      go_wp2_with fail
      refine (works19_any _ (hT'.out.grown G1.out)).mono ?_
      rintro e w4 ⟨rfl, g4⟩
      go_wp2_with fail
      go_ret
      exact ⟨rfl, kep_trans G1.out g4⟩

set_option maxRecDepth 100000 in
theorem lifted (os : Os) (started : os.Started) (H : Type) (enc : TypeId × Value → H) :
    ReturnsInHanded {} Tryd.checked os 4 .any (fun w args => (Rows.stubJumpsSpec.pre enc Tryd.prog Tryd.f4 Rows.stubJumpsRow.domain false w args ∧ laidMetH Tryd.prog laidL w) ∧ sizedMet enc Tryd.prog Tryd.f4 (OpenSpec.ofChange Rows.stubJumpsSpec) false w args)
      (Rows.stubJumpsSpec.post enc Tryd.prog Tryd.f4 false true false false) := by
  refine returnsInHanded_of_change_and (C := Tryd.checked) (X := fun w _ => laidMetH Tryd.prog laidL w) (fun _ _ _ hh h => h.of_heap hh) own started (by kernel_rfl) Tryd.func4
    (ChangeSpec.witness_shaped (enc := enc) (C := Tryd.checked) (os := os) (X := fun w _ => laidMetH Tryd.prog laidL w) false (World.laidAll Tryd.prog os laidL) #[.int .i64 0, .int .i64 0] 8 (World.laidAll_os _ _ _)
      (World.shaped_of_ZipB (by kernel_rfl) (by kernel_rfl)) (by kernel_rfl) (by kernel_rfl) (by kernel_rfl)
      (by rw [MakeChecks.laidMetH_plain _ _ _ (by kernel_rfl)]; exact laidMet_laidAll _ (by kernel_rfl) (by kernel_rfl))) ?_
  intro W base args ds gs before hval0 hW hcnd hsz0 hL _
  have hval : ∀ (j : Nat) t v, Tryd.f4.params[j]? = some t → args[j]? = some v → Value.okWide Tryd.prog W .any base t v := hval0
  have hW' := hW
  obtain ⟨p, q, hA0, hV, rfl, hfz, hnd⟩ := hW
  have hA : DataW.TrodAll enc Tryd.prog W 0 (fun _ => true) true Tryd.f4.params.toList args.toList ds p := hA0
  rw [Tryd.params4] at hA hval
  obtain ⟨v0, vs0, d0, ds0, p0, q0, hargs, rfl, rfl, h0, r0⟩ := trodAll_cons hA
  obtain ⟨v1, vs1, d1, ds1, p1, q1, rfl, rfl, rfl, h1, r1⟩ := trodAll_cons r0
  obtain ⟨rfl, rfl, rfl⟩ := trodAll_nil r1
  obtain rfl : args = #[v0, v1] := by cases args; simp_all
  obtain ⟨rfl, rfl⟩ := trodVars_none hV
  have k0 := h0
  have lt0 : ∀ x ∈ p0, x.block < W.heap.size := by obtain ⟨m, hm⟩ := k0; exact DataW.trod_lt m _ _ _ hm
  obtain ⟨a0, rfl, rfl, rfl, w0⟩ := open_int Tryd.underlying3 (hval 0 3 v0 rfl rfl) h0
  have k1 := h1
  have lt1 : ∀ x ∈ p1, x.block < W.heap.size := by obtain ⟨m, hm⟩ := k1; exact DataW.trod_lt m _ _ _ hm
  obtain ⟨a1, rfl, rfl, rfl, w1⟩ := open_int Tryd.underlying3 (hval 1 3 v1 rfl rfl) h1
  clear hA0 hval0
  refine (walk a0 w0 a1 w1 W  (tabs_of_laid hL)).mono fun e W' ⟨he, bel0⟩ => ?_
  have bel : Below W.heap.size W W' := bel0
  subst he
  exact ⟨_, rfl, _, _, _, [], _, [], hW', trodAll_mk1 (shut_bool Tryd.underlying4 _), (trodAll_cons_mk (Below.trod laidOut (by kernel_rfl) (of_decide_eq_true (by kernel_rfl)) k0 bel lt0) (trodAll_cons_mk (Below.trod laidOut (by kernel_rfl) (of_decide_eq_true (by kernel_rfl)) k1 bel lt1) trodAll_mk0)), rfl, bel.frame _, fun h => by cases h⟩

theorem over : Rows.stubJumpsRow.holds Tryd.pinned (OpenSpec.ofChange Rows.stubJumpsSpec) :=
  OpenClaim.holds_of_wide 4 Tryd.f4 rfl rfl rfl rfl rfl rfl rfl ⟨rfl, rfl, rfl, rfl, rfl⟩ rfl rfl rfl rfl rfl (by kernel_rfl) Tryd.func4 (by kernel_rfl)
    (of_decide_eq_true (by kernel_rfl)) (by unfold Func.isWrapper; first | (rw [if_pos (by decide +kernel)]; kernel_rfl) | (rw [if_neg (by decide +kernel)]; exact ⟨rfl, rfl⟩))
    (fun os started H enc _ => lifted os started H enc)
end Go.Proofs.YtfpknklibiigfaaDoor.stubJumps
namespace Go.Proofs.YtfpknklibiigfaaDoor

theorem stubJumps_holds : Rows.StubJumpsCardSaid :=
  Claim7.holds_tied_plain_at .later [] [.data, .data] true (true, "676b17985a43b2066e486873b87786ea447950c48d3136ce4c60c0da833c37cb") true stubJumps.over (fun _ h => by cases h) (by kernel_rfl) (fun _ h => by cases h) stubJumps_row_tie rfl ⟨rfl, rfl⟩ (by kernel_rfl) rfl
    (fun f fn hf hfn => by
      obtain rfl : f = 4 := Option.some.inj ((show Tryd.prog.funcNamed "mummer/mummerlaw19.StubJumps" = some 4 by kernel_rfl).symm.trans hf) |>.symm
      obtain rfl : fn = Tryd.f4 := (Option.some.inj (Tryd.func4.symm.trans hfn)).symm
      exact ⟨by kernel_rfl, fun j t ht => by
        rw [Tryd.params4] at ht
        have hm : t ∈ [3, 3] := by simpa using Array.mem_of_getElem? ht
        have hall : ([3, 3].all fun u => !Tryd.prog.wantsStandIn u) = true := by kernel_rfl
        exact (show Tryd.prog.wantsStandIn t = false by simpa using List.all_eq_true.1 hall t hm)⟩)
    (by kernel_rfl)
#print axioms stubJumps_holds
end Go.Proofs.YtfpknklibiigfaaDoor
