/- Proved: FlagsParts answers true for every number and every number of places; no condition is added. -/
import Derived.Test.YthoolhndhicidabRows
import Derived.Test.YthoolhndhicidabHolds
import Derived.Test.YthoolhndhicidabShift
import Derived.Test.YthoolhndhicidabPartm
import Derived.WalkKit
import Derived.ProofKit
import Derived.OpenShut
namespace Go.Proofs.Ythoolhndhicidab.flagsParts
open Go.ChangeShapes Go.WideShapes Go.ChangeAt Go.RowKit
set_option linter.unusedVariables false

theorem own : ownKnob Try.prog.godebug = none := by kernel_rfl

set_option maxHeartbeats 1000000 in
theorem walk (a0 : Int) (a1 : Int) (w0 : (Lit.int .u32 a0).wf = true) (w1 : (Lit.int .u32 a1).wf = true) (w : World) :
    Calls Try.prog 5 #[.int .u32 a0, .int .u32 a1] w fun e w' => e = .returned (.bool true) ∧ Grown w w' := by
  have b0 := bounds_u32 w0
  have b1 := bounds_u32 w1
  obtain ⟨a, rfl⟩ := Int.eq_ofNat_of_zero_le b0.1
  obtain ⟨k, hk⟩ := Int.eq_ofNat_of_zero_le (show 0 ≤ a1 % 32 by omega)
  have ha : a < 4294967296 := by omega
  have hkb : k < 32 := by omega
  have q0 := holds0
  have h1 : shrI a k = ((a / 2 ^ k : Nat) : Int) := rfl
  have h1b : a / 2 ^ k < 4294967296 := Nat.lt_of_le_of_lt (Nat.div_le_self _ _) ha
  have h2 := part_high a k ha
  have h3 := part_sum a k
  have h4 := part_or a k
  have h5 := part_low a k (by omega)
  have h6 : shlI a (32 - k) = ((a * 2 ^ (32 - k) % 4294967296 : Nat) : Int) := rfl
  have h6b : a * 2 ^ (32 - k) % 4294967296 < 4294967296 := by omega
  have h7 : a % 2 ^ k ≤ a := Nat.mod_le _ _
  have h8 : k = 0 → a % 2 ^ k = 0 := by rintro rfl; rw [Nat.pow_zero, Nat.mod_one]
  generalize a * 2 ^ (32 - k) % 4294967296 = d at *
  generalize a % 2 ^ k = l at *
  obtain ⟨h2, h2b⟩ := h2
  generalize a / 2 ^ k * 2 ^ k = c at *
  generalize a / 2 ^ k = b at *
  have o1 : bits .or .u32 (c : Int) (l : Int) = (a : Int) := by rw [u32_or_nat c l (by omega) (by omega), h4]
  have o2 : ((c : Int) + (l : Int)) % 4294967296 = (a : Int) := by omega
  have H8 : Hid (k = 0 → l = 0) := h8
  have H3 : Hid (c + l = a) := h3
  clear h3 h4 h8
  by_cases hz : k = 0
  · obtain rfl := H8.out hz
    have h3 := H3.out
    rw [Nat.add_zero] at h3
    subst h3
    have o3 : bits .or .u32 (c : Int) 0 = (c : Int) := o1
    have o4 : ((c : Int) + 0) % 4294967296 = (c : Int) := o2
    clear o1 o2 H3
    have z1 : bits .and .u32 (c : Int) 0 = 0 := by
      have e := u32_and_nat c 0 ha (by omega)
      rw [Nat.and_zero] at e; exact e
    have hk0 : ((k : Int) == 0) = true := by rw [beq_iff_eq]; omega
    have hk1 : ¬ (0 < (k : Int)) := by omega
    clear hz H8
    go_enter Try.func5, Try.ntmps5
    go_wp2_with fail
    refine (shr_any c k _ _ ha (by omega) (by omega) (by omega)).mono ?_
    rintro e w' ⟨rfl, g1⟩
    go_wp2_with fail
    refine (shl_any b k _ _ h1b (by omega) (by omega) (by omega)).mono ?_
    rintro e w' ⟨rfl, g2⟩
    go_wp2_with fail
    refine (and_any _ _ _).mono ?_
    rintro e w' ⟨rfl, g3⟩
    go_wp2_with fail
    refine (or_any _ _ _).mono ?_
    rintro e w' ⟨rfl, g5⟩
    go_wp2_with fail
    refine (add_any _ _ _ (by omega) (by omega) (by omega) (by omega)).mono ?_
    rintro e w' ⟨rfl, g6⟩
    go_wp2_with (go_at_call 11; refine (holds_any _ _ _ (by omega) (by omega)).mono ?_; rintro e w' ⟨rfl, rfl⟩)
    go_ret
    exact ⟨rfl, grown_trans (grown_trans (grown_trans (grown_trans g1 g2) g3) g5) g6⟩
  · have hk1 : 0 < (k : Int) := by omega
    have hk2 : Hid ((32 - (k : Int)) % 32 = ((32 - k : Nat) : Int)) := by unfold Hid; omega
    clear H8
    go_enter Try.func5, Try.ntmps5
    go_wp2_with fail
    refine (shr_any a k _ _ ha (by omega) (by omega) (by omega)).mono ?_
    rintro e w' ⟨rfl, g1⟩
    go_wp2_with fail
    refine (shl_any b k _ _ h1b (by omega) (by omega) (by omega)).mono ?_
    rintro e w' ⟨rfl, g2⟩
    go_wp2_with fail
    refine (shl_any a (32 - k) _ _ ha (by omega) (by omega) hk2.out).mono ?_
    rintro e w' ⟨rfl, g3⟩
    go_wp2_with fail
    refine (shr_any d (32 - k) _ _ h6b (by omega) (by omega) hk2.out).mono ?_
    rintro e w' ⟨rfl, g4⟩
    go_wp2_with fail
    refine (or_any _ _ _).mono ?_
    rintro e w' ⟨rfl, g5⟩
    go_wp2_with fail
    refine (add_any _ _ _ (by omega) (by omega) (by omega) (by omega)).mono ?_
    rintro e w' ⟨rfl, g6⟩
    go_wp2_with (go_at_call 11; refine (holds_any _ _ _ (by omega) (by omega)).mono ?_; rintro e w' ⟨rfl, rfl⟩)
    go_ret
    exact ⟨rfl, grown_trans (grown_trans (grown_trans (grown_trans (grown_trans g1 g2) g3) g4) g5) g6⟩

set_option maxRecDepth 100000 in
theorem lifted (os : Os) (started : os.Started) (H : Type) (enc : TypeId × Value → H) :
    ReturnsInHanded {} Try.checked os 5 .any (Rows.flagsPartsSpec.pre6 enc Try.prog Try.f5 Rows.flagsPartsRow.domain false) (Rows.flagsPartsSpec.post enc Try.prog Try.f5 false true false false) := by
  refine returnsInHanded_of_change (C := Try.checked) own started (by kernel_rfl) Try.func5
    (ChangeSpec.witness6 (enc := enc) (C := Try.checked) false ⟨#[], #[.int .u32 0, .int .u32 0], []⟩ 8 (by kernel_rfl) (by kernel_rfl) (by kernel_rfl) (by kernel_rfl)) ?_
  intro W base args ds gs before hval0 hW hcnd _
  have hval : ∀ (j : Nat) t v, Try.f5.params[j]? = some t → args[j]? = some v → Value.okWide Try.prog W .any base t v := hval0
  have hW' := hW
  obtain ⟨p, q, hA0, hV, rfl, hfz, hnd⟩ := hW
  have hA : DataW.TrodAll enc Try.prog W 0 (fun _ => true) true Try.f5.params.toList args.toList ds p := hA0
  rw [Try.params5] at hA hval
  obtain ⟨v0, vs0, d0, ds0, p0, q0, hargs, rfl, rfl, h0, r0⟩ := trodAll_cons hA
  obtain ⟨v1, vs1, d1, ds1, p1, q1, rfl, rfl, rfl, h1, r1⟩ := trodAll_cons r0
  obtain ⟨rfl, rfl, rfl⟩ := trodAll_nil r1
  obtain rfl : args = #[v0, v1] := by cases args; simp_all
  obtain ⟨rfl, rfl⟩ := trodVars_none hV
  obtain ⟨a0, rfl, rfl, rfl, w0⟩ := open_int Try.underlying22 (hval 0 22 v0 rfl rfl) h0
  obtain ⟨a1, rfl, rfl, rfl, w1⟩ := open_int Try.underlying22 (hval 1 22 v1 rfl rfl) h1
  clear hA0 hval0
  simp only [List.append_nil] at hW'
  refine (walk a0 a1 w0 w1 W).mono fun e W' ⟨he, hg⟩ => ?_
  subst he
  exact ⟨_, rfl, post_of_same (pa := []) (pv := []) hW' (fun _ _ _ => (trodAll_cons_mk (shut_bool Try.underlying4 _) trodAll_mk0)) (fun sp _ => (trodAll_cons_mk (shut_int Try.underlying22 w0) (trodAll_cons_mk (shut_int Try.underlying22 w1) trodAll_mk0))) (fun _ _ => rfl) rfl
    (hg.frame _) hg.2.1 (ok_one (by kernel_rfl) rfl (okWide_bool_mk Try.underlying4 _))⟩

theorem over : Rows.flagsPartsRow.holds Try.pinned (OpenSpec.ofChange Rows.flagsPartsSpec) :=
  OpenClaim.holds_of_wide 5 Try.f5 rfl rfl rfl rfl rfl rfl rfl ⟨rfl, rfl, rfl, rfl, rfl⟩ rfl rfl rfl rfl rfl (by kernel_rfl) Try.func5 (by kernel_rfl)
    (of_decide_eq_true (by kernel_rfl)) (by unfold Func.isWrapper; first | (rw [if_pos (by decide +kernel)]; kernel_rfl) | (rw [if_neg (by decide +kernel)]; exact ⟨rfl, rfl⟩))
    (fun os started H enc _ => lifted os started H enc)

end Go.Proofs.Ythoolhndhicidab.flagsParts
namespace Go.Proofs.Ythoolhndhicidab

theorem flagsParts_holds : Rows.FlagsPartsSaid := flagsParts.over
#print axioms flagsParts_holds
end Go.Proofs.Ythoolhndhicidab
