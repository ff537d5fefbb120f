/- For every number, the law KindSilent returns true: what the code's table calls silent is of the class Sense, never fails, and ends a block. -/
import Derived.Test.YtppcfhaiogjfgaaRows
import Derived.Test.YtppcfhaiogjfgaaWord
import Derived.Test.YtppcfhaiogjfgaaKway
import Derived.WalkKit
import Derived.ProofKit
import Derived.OpenShut
import Derived.ShutString
import Derived.ChangeOld
import Derived.Below
import Derived.Lib.SmallJoins
namespace Go.Proofs.Ytppcfhaiogjfgaa.kindSilent
open Go.ChangeShapes Go.WideShapes Go.ChangeAt Go.RowKit
set_option linter.unusedVariables false

theorem own : ownKnob Try.prog.godebug = none := by kernel_rfl
theorem laidOut : laidOutB Try.prog = true := by kernel_rfl

theorem sil (op : Int) (h0 : 0 ≤ op) (h1 : op < 256) (hs : gS (tabF op) = true) : gC (tabF op) = 4 ∧ gF (tabF op) = false ∧ gE (tabF op) = true := by
  have := byte_all (p := fun op => decide (gS (tabF op) = true → gC (tabF op) = 4 ∧ gF (tabF op) = false ∧ gE (tabF op) = true)) (by decide +kernel) op h0 h1
  exact (of_decide_eq_true this) hs
theorem c0 : gC (tabF 0) = 1 := by decide +kernel

set_option maxHeartbeats 2000000 in
theorem walk (a0 : Int) (w0 : (Lit.int .u8 a0).wf = true) (w : World)  :
    Calls Try.prog 5 #[.int .u8 a0] w fun e w' => e = .returned (.bool true) ∧ Kep w w' := by
  have hw := word8 w0
  have hnot : ∀ (x : Bool) (w : World), (Op.unary .not (.bool x)).run Try.prog w = .ok (.bool (!x)) w := fun _ _ => rfl
  cases hs : gS (tabF a0)
  · go_enter Try.func5, Try.ntmps5
    go_wp2_with fail
    refine (new_call _).mono ?_
    rintro e w1 ⟨p, o, kb, rfl, T1⟩
    go_wp2_with fail
    refine (class_any 0 (by decide) (by decide) w _ p o kb T1.out).mono ?_
    rintro e w2 ⟨rfl, T2, _⟩
    rw [c0]
    go_wp2_with fail
    refine (silent_any a0 hw.1 hw.2 w _ p o kb T2).mono ?_
    rintro e w3 ⟨rfl, T3, _⟩
    rw [hs]
    go_wp2_with fail
    go_ret
    exact ⟨rfl, T3.kep⟩
  · obtain ⟨s1, s2, s3⟩ := sil a0 hw.1 hw.2 hs
    go_enter Try.func5, Try.ntmps5
    go_wp2_with fail
    refine (new_call _).mono ?_
    rintro e w1 ⟨p, o, kb, rfl, T1⟩
    go_wp2_with fail
    refine (class_any 0 (by decide) (by decide) w _ p o kb T1.out).mono ?_
    rintro e w2 ⟨rfl, T2, _⟩
    rw [c0]
    go_wp2_with fail
    refine (silent_any a0 hw.1 hw.2 w _ p o kb T2).mono ?_
    rintro e w3 ⟨rfl, T3, _⟩
    rw [hs]
    go_wp2_with fail
    refine (class_any a0 hw.1 hw.2 w _ p o kb T3).mono ?_
    rintro e w4 ⟨rfl, T4, _⟩
    rw [s1]
    go_wp2_with fail
    refine (fails_any a0 hw.1 hw.2 w _ p o kb T4).mono ?_
    rintro e w5 ⟨rfl, T5, _⟩
    rw [s2]
    go_wp2_with fail
    refine (ends_any a0 hw.1 hw.2 w _ p o kb T5).mono ?_
    rintro e w6 ⟨rfl, T6, _⟩
    rw [s3]
    go_wp2_with fail
    go_ret
    exact ⟨rfl, T6.kep⟩

set_option maxRecDepth 100000 in
theorem lifted (os : Os) (started : os.Started) (H : Type) (enc : TypeId × Value → H) :
    ReturnsInHanded {} Try.checked os 5 .any (Rows.kindSilentSpec.pre6 enc Try.prog Try.f5 Rows.kindSilentRow.domain false) (Rows.kindSilentSpec.post enc Try.prog Try.f5 false true false false) := by
  refine returnsInHanded_of_change (C := Try.checked) own started (by kernel_rfl) Try.func5
    (ChangeSpec.witness6 (enc := enc) (C := Try.checked) false ⟨#[], #[.int .u8 0], []⟩ 8 (by kernel_rfl) (by kernel_rfl) (by kernel_rfl) (by kernel_rfl)) ?_
  intro W base args ds gs before hval0 hW hcnd _
  have hval : ∀ (j : Nat) t v, Try.f5.params[j]? = some t → args[j]? = some v → Value.okWide Try.prog W .any base t v := hval0
  have hW' := hW
  obtain ⟨p, q, hA0, hV, rfl, hfz, hnd⟩ := hW
  have hA : DataW.TrodAll enc Try.prog W 0 (fun _ => true) true Try.f5.params.toList args.toList ds p := hA0
  rw [Try.params5] at hA hval
  obtain ⟨v0, vs0, d0, ds0, p0, q0, hargs, rfl, rfl, h0, r0⟩ := trodAll_cons hA
  obtain ⟨rfl, rfl, rfl⟩ := trodAll_nil r0
  obtain rfl : args = #[v0] := by cases args; simp_all
  obtain ⟨rfl, rfl⟩ := trodVars_none hV
  have k0 := h0
  have lt0 : ∀ x ∈ p0, x.block < W.heap.size := by obtain ⟨m, hm⟩ := k0; exact DataW.trod_lt m _ _ _ hm
  obtain ⟨a0, rfl, rfl, rfl, w0⟩ := open_int Try.underlying5 (hval 0 5 v0 rfl rfl) h0
  clear hA0 hval0
  refine (walk a0 w0 W ).mono fun e W' ⟨he, bel0⟩ => ?_
  have bel : Below W.heap.size W W' := bel0
  subst he
  exact ⟨_, rfl, _, _, _, [], _, [], hW', trodAll_mk1 (shut_bool Try.underlying4 _), (trodAll_cons_mk (Below.trod laidOut (by kernel_rfl) (of_decide_eq_true (by kernel_rfl)) k0 bel lt0) trodAll_mk0), rfl, bel.frame _, fun h => by cases h⟩

theorem over : Rows.kindSilentRow.holds Try.pinned (OpenSpec.ofChange Rows.kindSilentSpec) :=
  OpenClaim.holds_of_wide 5 Try.f5 rfl rfl rfl rfl rfl rfl rfl ⟨rfl, rfl, rfl, rfl, rfl⟩ rfl rfl rfl rfl rfl (by kernel_rfl) Try.func5 (by kernel_rfl)
    (of_decide_eq_true (by kernel_rfl)) (by unfold Func.isWrapper; first | (rw [if_pos (by decide +kernel)]; kernel_rfl) | (rw [if_neg (by decide +kernel)]; exact ⟨rfl, rfl⟩))
    (fun os started H enc _ => lifted os started H enc)
end Go.Proofs.Ytppcfhaiogjfgaa.kindSilent
namespace Go.Proofs.Ytppcfhaiogjfgaa

theorem kindSilent_holds : Rows.KindSilentSaid := kindSilent.over
#print axioms kindSilent_holds
end Go.Proofs.Ytppcfhaiogjfgaa
