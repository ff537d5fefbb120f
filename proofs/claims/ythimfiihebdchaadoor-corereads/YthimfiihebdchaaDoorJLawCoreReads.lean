/- Proved: CoreReads answers true for every state, instruction and other numbers; no condition is added. -/
import Derived.Test.YthimfiihebdchaaDoorRows
import Derived.Test.YthimfiihebdchaaDoorTie
import Derived.Test.YthimfiihebdchaaDoorCards
import Derived.WalkKit
import Derived.ProofKit
import Derived.OpenShut
import Derived.ShutString
import Derived.ChangeOld
import Derived.Below
import Derived.Lib.SmallJoins
import Derived.Lay
import Derived.SevenTiedAt
import Derived.Stop.Joined
import Derived.Test.YthimfiihebdchaaDoorJ92
namespace Go.Proofs.YthimfiihebdchaaDoor.coreReads
open Go.ChangeShapes Go.WideShapes Go.ChangeAt Go.RowKit
set_option linter.unusedVariables false
set_option linter.unusedSimpArgs false
theorem own : ownKnob Tryd.prog.godebug = none := by kernel_rfl
theorem laidOut : laidOutB Tryd.prog = true := by kernel_rfl
abbrev laidL : List (String × DataW Unit) := [("mummer/isa.forms", Rows.laid_mummer_isa_forms), ("mummer/isa.spans", Rows.laid_mummer_isa_spans)]
theorem walk (s0 : Sta) (ok0 : s0.Ok) (a1f0 : Int) (w1f0 : (Lit.int .u8 a1f0).wf = true) (a1f1 : Int) (w1f1 : (Lit.int .u8 a1f1).wf = true) (a1f2 : Int) (w1f2 : (Lit.int .u8 a1f2).wf = true) (a1f3 : Int) (w1f3 : (Lit.int .i32 a1f3).wf = true) (x2 y2 n2 : Int) (hx2 : 0 ≤ x2 ∧ x2 < 4294967296) (hy2 : 0 ≤ y2 ∧ y2 < 4294967296) (hn2 : 0 ≤ n2 ∧ n2 < 256) (w : World) (hT : Tabs w) :
    Calls Tryd.prog 6 #[.agg s0.v, .agg #[.int .u8 a1f0, .int .u8 a1f1, .int .u8 a1f2, .int .i32 a1f3], .agg #[.int .u32 x2, .int .u32 y2, .int .u8 n2]] w fun e w' => e = .returned (.bool true) ∧ Kep w w' := by
  have b0 := bounds_u8 w1f0
  have b1 := bounds_u8 w1f1
  have b2 := bounds_u8 w1f2
  have b3 := bounds_i32 w1f3
  obtain ⟨a, rfl⟩ : ∃ a : Nat, a1f1 = a := ⟨a1f1.toNat, by omega⟩
  obtain ⟨b, rfl⟩ : ∃ b : Nat, a1f2 = b := ⟨a1f2.toNat, by omega⟩
  exact reads_walk s0 ok0 a1f0 a b a1f3 x2 y2 n2 hx2 hy2 hn2 b0 b3 w hT
set_option maxRecDepth 100000 in
theorem lifted (os : Os) (started : os.Started) (H : Type) (enc : TypeId × Value → H) :
    ReturnsInHanded {} Tryd.checked os 6 .any (fun w args => (Rows.coreReadsSpec.pre enc Tryd.prog Tryd.f6 Rows.coreReadsRow.domain false w args ∧ laidMetH Tryd.prog laidL w) ∧ sizedMet enc Tryd.prog Tryd.f6 (OpenSpec.ofChange Rows.coreReadsSpec) false w args)
      (Rows.coreReadsSpec.post enc Tryd.prog Tryd.f6 false true false false) := by
  refine returnsInHanded_of_change_and (C := Tryd.checked) (X := fun w _ => laidMetH Tryd.prog laidL w) (fun _ _ _ hh h => h.of_heap hh) own started (by kernel_rfl) Tryd.func6
    (ChangeSpec.witness_shaped (enc := enc) (C := Tryd.checked) (os := os) (X := fun w _ => laidMetH Tryd.prog laidL w) false (World.laidAll Tryd.prog os laidL) #[.agg #[.int .u32 0, .int .u32 0, .int .u32 0, .int .u32 0, .int .u32 0, .int .u32 0, .int .u32 0, .int .u32 0, .int .u32 0, .int .u32 0, .int .u32 0, .int .u32 0, .int .u32 0, .int .u32 0, .int .u32 0, .int .u32 0, .int .u32 0, .int .u32 0, .bool false], .agg #[.int .u8 0, .int .u8 0, .int .u8 0, .int .i32 0], .agg #[.int .u32 0, .int .u32 0, .int .u8 0]] 8 (World.laidAll_os _ _ _)
      (World.shaped_of_ZipB (by kernel_rfl) (by kernel_rfl)) (by kernel_rfl) (by kernel_rfl) (by kernel_rfl)
      (by rw [MakeChecks.laidMetH_plain _ _ _ (by kernel_rfl)]; exact laidMet_laidAll _ (by kernel_rfl) (by kernel_rfl))) ?_
  intro W base args ds gs before hval0 hW hcnd hsz0 hL _
  have hval : ∀ (j : Nat) t v, Tryd.f6.params[j]? = some t → args[j]? = some v → Value.okWide Tryd.prog W .any base t v := hval0
  have hW' := hW
  obtain ⟨p, q, hA0, hV, rfl, hfz, hnd⟩ := hW
  have hA : DataW.TrodAll enc Tryd.prog W 0 (fun _ => true) true Tryd.f6.params.toList args.toList ds p := hA0
  rw [Tryd.params6] at hA hval
  obtain ⟨v0, vs0, d0, ds0, p0, q0, hargs, rfl, rfl, h0, r0⟩ := trodAll_cons hA
  obtain ⟨v1, vs1, d1, ds1, p1, q1, rfl, rfl, rfl, h1, r1⟩ := trodAll_cons r0
  obtain ⟨v2, vs2, d2, ds2, p2, q2, rfl, rfl, rfl, h2, r2⟩ := trodAll_cons r1
  obtain ⟨rfl, rfl, rfl⟩ := trodAll_nil r2
  obtain rfl : args = #[v0, v1, v2] := by cases args; simp_all
  obtain ⟨rfl, rfl⟩ := trodVars_none hV
  have k0 := h0
  have lt0 : ∀ x ∈ p0, x.block < W.heap.size := by obtain ⟨m, hm⟩ := k0; exact DataW.trod_lt m _ _ _ hm
  obtain ⟨s0, rfl, ok0⟩ := open_sta (hval 0 25 v0 rfl rfl) h0
  have k1 := h1
  have lt1 : ∀ x ∈ p1, x.block < W.heap.size := by obtain ⟨m, hm⟩ := k1; exact DataW.trod_lt m _ _ _ hm
  obtain ⟨c1f0, c1f1, c1f2, c1f3, y1f0, y1f1, y1f2, y1f3, m1, rfl, _, _, e1f0, e1f1, e1f2, e1f3⟩ := Joins.open_agg4 Tryd.underlying27 (by kernel_rfl) (show Tryd.prog.cellsOf 27 = 4 by kernel_rfl) (hval 1 27 v1 rfl rfl) h1
  obtain ⟨a1f0, q1f0, _, w1f0⟩ := DataW.trod_int Tryd.underlying5 e1f0
  obtain rfl : c1f0 = .int .u8 a1f0 := by simpa using q1f0
  obtain ⟨a1f1, q1f1, _, w1f1⟩ := DataW.trod_int Tryd.underlying5 e1f1
  obtain rfl : c1f1 = .int .u8 a1f1 := by simpa using q1f1
  obtain ⟨a1f2, q1f2, _, w1f2⟩ := DataW.trod_int Tryd.underlying5 e1f2
  obtain rfl : c1f2 = .int .u8 a1f2 := by simpa using q1f2
  obtain ⟨a1f3, q1f3, _, w1f3⟩ := DataW.trod_int Tryd.underlying21 e1f3
  obtain rfl : c1f3 = .int .i32 a1f3 := by simpa using q1f3
  have k2 := h2
  have lt2 : ∀ x ∈ p2, x.block < W.heap.size := by obtain ⟨m, hm⟩ := k2; exact DataW.trod_lt m _ _ _ hm
  obtain ⟨x2, y2, n2, rfl, hx2, hy2, hn2⟩ := open_oth (hval 2 40 v2 rfl rfl) h2
  clear hA0 hval0
  refine (walk s0 ok0 a1f0 w1f0 a1f1 w1f1 a1f2 w1f2 a1f3 w1f3 x2 y2 n2 hx2 hy2 hn2 W  (tabs_of_laid hL)).mono fun e W' ⟨he, bel0⟩ => ?_
  have bel : Below W.heap.size W W' := bel0
  subst he
  exact ⟨_, rfl, _, _, _, [], _, [], hW', trodAll_mk1 (shut_bool Tryd.underlying4 _), (trodAll_cons_mk (Below.trod laidOut (by kernel_rfl) (of_decide_eq_true (by kernel_rfl)) k0 bel lt0) (trodAll_cons_mk (Below.trod laidOut (by kernel_rfl) (of_decide_eq_true (by kernel_rfl)) k1 bel lt1) (trodAll_cons_mk (Below.trod laidOut (by kernel_rfl) (of_decide_eq_true (by kernel_rfl)) k2 bel lt2) trodAll_mk0))), rfl, bel.frame _, fun h => by cases h⟩
theorem over : Rows.coreReadsRow.holds Tryd.pinned (OpenSpec.ofChange Rows.coreReadsSpec) :=
  OpenClaim.holds_of_wide 6 Tryd.f6 rfl rfl rfl rfl rfl rfl rfl ⟨rfl, rfl, rfl, rfl, rfl⟩ rfl rfl rfl rfl rfl (by kernel_rfl) Tryd.func6 (by kernel_rfl)
    (of_decide_eq_true (by kernel_rfl)) (by unfold Func.isWrapper; first | (rw [if_pos (by decide +kernel)]; kernel_rfl) | (rw [if_neg (by decide +kernel)]; exact ⟨rfl, rfl⟩))
    (fun os started H enc _ => lifted os started H enc)
end Go.Proofs.YthimfiihebdchaaDoor.coreReads
namespace Go.Proofs.YthimfiihebdchaaDoor
theorem coreReads_holds : Rows.CoreReadsCardSaid :=
  Claim7.holds_tied_plain_at .later [] [.data, .data] true (true, "2bcc0824d619e8c67320b99d0bf971240e676c02cfe121847ce425082ccf7521") true coreReads.over (fun _ h => by cases h) (by kernel_rfl) (fun _ h => by cases h) coreReads_row_tie rfl ⟨rfl, rfl⟩ (by kernel_rfl) rfl
    (fun f fn hf hfn => by
      obtain rfl : f = 6 := Option.some.inj ((show Tryd.prog.funcNamed "mummer/mummerlaw08.CoreReads" = some 6 by kernel_rfl).symm.trans hf) |>.symm
      obtain rfl : fn = Tryd.f6 := (Option.some.inj (Tryd.func6.symm.trans hfn)).symm
      exact ⟨by kernel_rfl, fun j t ht => by
        rw [Tryd.params6] at ht
        have hm : t ∈ [25, 27, 40] := by simpa using Array.mem_of_getElem? ht
        have hall : ([25, 27, 40].all fun u => !Tryd.prog.wantsStandIn u) = true := by kernel_rfl
        exact (show Tryd.prog.wantsStandIn t = false by simpa using List.all_eq_true.1 hall t hm)⟩)
    (by kernel_rfl)
#print axioms coreReads_holds
end Go.Proofs.YthimfiihebdchaaDoor
