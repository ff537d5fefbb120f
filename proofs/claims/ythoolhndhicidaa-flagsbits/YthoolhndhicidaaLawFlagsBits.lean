/- Proved: FlagsBits answers true for every two numbers; no condition is added. -/
import Derived.Test.YthoolhndhicidaaRows
import Derived.Test.YthoolhndhicidaaBits
import Derived.WalkKit
import Derived.ProofKit
import Derived.OpenShut
namespace Go.Proofs.Ythoolhndhicidaa.flagsBits
open Go.ChangeShapes Go.WideShapes Go.ChangeAt Go.RowKit
set_option linter.unusedVariables false

theorem own : ownKnob Try.prog.godebug = none := by kernel_rfl

set_option maxHeartbeats 800000 in
theorem walk (a0 : Int) (a1 : Int) (w0 : (Lit.int .u32 a0).wf = true) (w1 : (Lit.int .u32 a1).wf = true) (w : World) :
    Calls Try.prog 4 #[.int .u32 a0, .int .u32 a1] w fun e w' => e = .returned (.bool true) ∧ Grown w w' := by
  have b0 := bounds_u32 w0
  have b1 := bounds_u32 w1
  obtain ⟨x1, x2, x3⟩ := and_bits a0 a1 (by omega) (by omega) (by omega) (by omega)
  obtain ⟨y1, y2, y3⟩ := or_bits a0 a1 (by omega) (by omega) (by omega) (by omega)
  obtain ⟨z1, z2, z3⟩ := xor_bits a0 a1 (by omega) (by omega) (by omega) (by omega)
  have ex : low (a0.toNat &&& a1.toNat) 32 = bits .and .u32 a0 a1 := by rw [x1]; exact low_all _ x2
  have ey : low (a0.toNat ||| a1.toNat) 32 = bits .or .u32 a0 a1 := by rw [y1]; exact low_all _ y2
  have ez : low (a0.toNat ^^^ a1.toNat) 32 = bits .xor .u32 a0 a1 := by rw [z1]; exact low_all _ z2
  have HX : Hid (∀ k, (a0.toNat &&& a1.toNat).testBit k = joined 0 (bt a0 k) (bt a1 k)) := x3
  have HY : Hid (∀ k, (a0.toNat ||| a1.toNat).testBit k = joined 1 (bt a0 k) (bt a1 k)) := y3
  have HZ : Hid (∀ k, (a0.toNat ^^^ a1.toNat).testBit k = joined 2 (bt a0 k) (bt a1 k)) := z3
  clear x1 x2 x3 y1 y2 y3 z1 z2 z3
  go_enter Try.func4, Try.ntmps4
  go_wp2_with (first | (go_at_call 13; refine (and_any _ _ _).mono ?_; rintro e w' ⟨rfl, g1⟩) | (go_at_call 14; refine (or_any _ _ _).mono ?_; rintro e w' ⟨rfl, g2⟩) | (go_at_call 15; refine (xor_any _ _ _).mono ?_; rintro e w' ⟨rfl, g3⟩))
  refine (logic_any 0 a0 a1 _ _ (by omega) (by omega) (by omega) (by omega) (by omega) HX.out).mono ?_
  rintro e w' ⟨rfl, rfl⟩
  go_wp2_with fail
  refine (logic_any 1 a0 a1 _ _ (by omega) (by omega) (by omega) (by omega) (by omega) HY.out).mono ?_
  rintro e w' ⟨rfl, rfl⟩
  go_wp2_with fail
  refine (logic_any 2 a0 a1 _ _ (by omega) (by omega) (by omega) (by omega) (by omega) HZ.out).mono ?_
  rintro e w' ⟨rfl, rfl⟩
  go_wp2_with fail
  go_ret
  exact ⟨rfl, grown_trans (grown_trans g1 g2) g3⟩

set_option maxRecDepth 100000 in
theorem lifted (os : Os) (started : os.Started) (H : Type) (enc : TypeId × Value → H) :
    ReturnsInHanded {} Try.checked os 4 .any (Rows.flagsBitsSpec.pre6 enc Try.prog Try.f4 Rows.flagsBitsRow.domain false) (Rows.flagsBitsSpec.post enc Try.prog Try.f4 false true false false) := by
  refine returnsInHanded_of_change (C := Try.checked) own started (by kernel_rfl) Try.func4
    (ChangeSpec.witness6 (enc := enc) (C := Try.checked) false ⟨#[], #[.int .u32 0, .int .u32 0], []⟩ 8 (by kernel_rfl) (by kernel_rfl) (by kernel_rfl) (by kernel_rfl)) ?_
  intro W base args ds gs before hval0 hW hcnd _
  have hval : ∀ (j : Nat) t v, Try.f4.params[j]? = some t → args[j]? = some v → Value.okWide Try.prog W .any base t v := hval0
  have hW' := hW
  obtain ⟨p, q, hA0, hV, rfl, hfz, hnd⟩ := hW
  have hA : DataW.TrodAll enc Try.prog W 0 (fun _ => true) true Try.f4.params.toList args.toList ds p := hA0
  rw [Try.params4] at hA hval
  obtain ⟨v0, vs0, d0, ds0, p0, q0, hargs, rfl, rfl, h0, r0⟩ := trodAll_cons hA
  obtain ⟨v1, vs1, d1, ds1, p1, q1, rfl, rfl, rfl, h1, r1⟩ := trodAll_cons r0
  obtain ⟨rfl, rfl, rfl⟩ := trodAll_nil r1
  obtain rfl : args = #[v0, v1] := by cases args; simp_all
  obtain ⟨rfl, rfl⟩ := trodVars_none hV
  obtain ⟨a0, rfl, rfl, rfl, w0⟩ := open_int Try.underlying22 (hval 0 22 v0 rfl rfl) h0
  obtain ⟨a1, rfl, rfl, rfl, w1⟩ := open_int Try.underlying22 (hval 1 22 v1 rfl rfl) h1
  clear hA0 hval0
  simp only [List.append_nil] at hW'
  refine (walk a0 a1 w0 w1 W).mono fun e W' ⟨he, hg⟩ => ?_
  subst he
  exact ⟨_, rfl, post_of_same (pa := []) (pv := []) hW' (fun _ _ _ => (trodAll_cons_mk (shut_bool Try.underlying4 _) trodAll_mk0)) (fun sp _ => (trodAll_cons_mk (shut_int Try.underlying22 w0) (trodAll_cons_mk (shut_int Try.underlying22 w1) trodAll_mk0))) (fun _ _ => rfl) rfl
    (hg.frame _) hg.2.1 (ok_one (by kernel_rfl) rfl (okWide_bool_mk Try.underlying4 _))⟩

theorem over : Rows.flagsBitsRow.holds Try.pinned (OpenSpec.ofChange Rows.flagsBitsSpec) :=
  OpenClaim.holds_of_wide 4 Try.f4 rfl rfl rfl rfl rfl rfl rfl ⟨rfl, rfl, rfl, rfl, rfl⟩ rfl rfl rfl rfl rfl (by kernel_rfl) Try.func4 (by kernel_rfl)
    (of_decide_eq_true (by kernel_rfl)) (by unfold Func.isWrapper; first | (rw [if_pos (by decide +kernel)]; kernel_rfl) | (rw [if_neg (by decide +kernel)]; exact ⟨rfl, rfl⟩))
    (fun os started H enc _ => lifted os started H enc)

end Go.Proofs.Ythoolhndhicidaa.flagsBits
namespace Go.Proofs.Ythoolhndhicidaa

theorem flagsBits_holds : Rows.FlagsBitsSaid := flagsBits.over
#print axioms flagsBits_holds
end Go.Proofs.Ythoolhndhicidaa
