/- For every bits and kind, the law WalkLess returns true: an access that the user ring may do, the other ring may; what may be written may be read; what may be read may be fetched. -/
import Derived.Test.YtahnmppnfoeffabRows
import Derived.Test.YtahnmppnfoeffabWworks
import Derived.WalkKit
import Derived.ProofKit
import Derived.OpenShut
import Derived.ShutString
import Derived.ChangeOld
import Derived.Below
import Derived.Lib.SmallJoins
namespace Go.Proofs.Ytahnmppnfoeffab.walkLess
open Go.ChangeShapes Go.WideShapes Go.ChangeAt Go.RowKit
set_option linter.unusedVariables false

theorem own : ownKnob Try.prog.godebug = none := by kernel_rfl
theorem laidOut : laidOutB Try.prog = true := by kernel_rfl

set_option maxHeartbeats 4000000 in
set_option maxRecDepth 100000 in
theorem walk (a0 : Int) (w0 : (Lit.int .u32 a0).wf = true) (a1 : Int) (w1 : (Lit.int .i64 a1).wf = true) (w : World)  :
    Calls Try.prog 3 #[.int .u32 a0, .int .i64 a1] w fun e w' => e = .returned (.bool true) ∧ Kep w w' := by
  have b0 := u32_of w0
  clear w0 w1
  obtain ⟨x, rfl⟩ : ∃ x : Nat, a0 = x := ⟨a0.toNat, by omega⟩
  have h3 : Hid (∀ w, Calls Try.prog 6 #[] w fun e w' => e = .returned (.bool true) ∧ Kep w w') := works6_any
  have hm : ∀ (k : Int) (us : Bool), Hid (∀ w, Calls Try.prog 5 #[.int .u32 x, .int .i64 k, .bool us] w fun e w' => e = .returned (.bool (wmayB x k us)) ∧ w' = w) := fun k us w => wmay_any w x (by omega) k us
  have m1 : wmayB x a1 true = true → wmayB x a1 false = true := by
    unfold wmayB
    generalize (x % 2 == 1) = c1
    generalize (x / 4 % 2 == 1) = c4
    generalize (x / 2 % 2 == 1) = c2
    generalize (x / 8 % 2 == 0) = c8
    split
    · revert c1 c4 c2 c8; decide
    · split
      · revert c1 c4 c2 c8; decide
      · split
        · revert c1 c4 c2 c8; decide
        · exact fun h => h
  have m2 : wmayB x 3 false = true → wmayB x 2 false = true := by
    show (x % 2 == 1 && (!false || x / 4 % 2 == 1) && x / 8 % 2 == 0 && x / 2 % 2 == 1) = true → (x % 2 == 1 && (!false || x / 4 % 2 == 1) && x / 8 % 2 == 0) = true
    generalize (x % 2 == 1) = c1
    generalize (x / 4 % 2 == 1) = c4
    generalize (x / 2 % 2 == 1) = c2
    generalize (x / 8 % 2 == 0) = c8
    revert c1 c4 c2 c8; decide
  have m3 : wmayB x 2 true = true → wmayB x 1 true = true := by
    show (x % 2 == 1 && (!true || x / 4 % 2 == 1) && x / 8 % 2 == 0) = true → (x % 2 == 1 && (!true || x / 4 % 2 == 1)) = true
    generalize (x % 2 == 1) = c1
    generalize (x / 4 % 2 == 1) = c4
    generalize (x / 8 % 2 == 0) = c8
    revert c1 c4 c8; decide
  have H1 := hm a1 true
  have H2 := hm a1 false
  have H3 := hm 3 false
  have H4 := hm 2 false
  have H5 := hm 2 true
  have H6 := hm 1 true
  clear hm b0
  generalize wmayB x a1 true = p1 at *
  generalize wmayB x a1 false = p2 at *
  generalize wmayB x 3 false = p3 at *
  generalize wmayB x 2 false = p4 at *
  generalize wmayB x 2 true = p5 at *
  generalize wmayB x 1 true = p6 at *
  have e1 : p1 = false ∨ (p1 = true ∧ p2 = true) := by cases p1 <;> simp_all
  have e2 : p3 = false ∨ (p3 = true ∧ p4 = true) := by cases p3 <;> simp_all
  have e3 : p5 = false ∨ (p5 = true ∧ p6 = true) := by cases p5 <;> simp_all
  clear m1 m2 m3
  rcases e1 with rfl | ⟨rfl, rfl⟩
  · rcases e2 with rfl | ⟨rfl, rfl⟩
    · rcases e3 with rfl | ⟨rfl, rfl⟩
      · go_enter Try.func3, Try.ntmps3
        go_wp2_with fail
        refine (H1.out _).mono ?_
        rintro e w1 ⟨rfl, rfl⟩
        go_wp2_with fail
        refine (H3.out _).mono ?_
        rintro e w1 ⟨rfl, rfl⟩
        go_wp2_with fail
        refine (H5.out _).mono ?_
        rintro e w1 ⟨rfl, rfl⟩
        go_wp2_with fail
        refine (h3.out _).mono ?_
        rintro e w1 ⟨rfl, k1⟩
        have K1 : Hid (Kep _ w1) := k1
        clear k1
        go_wp2_with fail
        go_ret
        exact ⟨rfl, K1.out⟩
      · go_enter Try.func3, Try.ntmps3
        go_wp2_with fail
        refine (H1.out _).mono ?_
        rintro e w1 ⟨rfl, rfl⟩
        go_wp2_with fail
        refine (H3.out _).mono ?_
        rintro e w1 ⟨rfl, rfl⟩
        go_wp2_with fail
        refine (H5.out _).mono ?_
        rintro e w1 ⟨rfl, rfl⟩
        go_wp2_with fail
        refine (H6.out _).mono ?_
        rintro e w1 ⟨rfl, rfl⟩
        go_wp2_with fail
        refine (h3.out _).mono ?_
        rintro e w1 ⟨rfl, k1⟩
        have K1 : Hid (Kep _ w1) := k1
        clear k1
        go_wp2_with fail
        go_ret
        exact ⟨rfl, K1.out⟩
    · rcases e3 with rfl | ⟨rfl, rfl⟩
      · go_enter Try.func3, Try.ntmps3
        go_wp2_with fail
        refine (H1.out _).mono ?_
        rintro e w1 ⟨rfl, rfl⟩
        go_wp2_with fail
        refine (H3.out _).mono ?_
        rintro e w1 ⟨rfl, rfl⟩
        go_wp2_with fail
        refine (H4.out _).mono ?_
        rintro e w1 ⟨rfl, rfl⟩
        go_wp2_with fail
        refine (H5.out _).mono ?_
        rintro e w1 ⟨rfl, rfl⟩
        go_wp2_with fail
        refine (h3.out _).mono ?_
        rintro e w1 ⟨rfl, k1⟩
        have K1 : Hid (Kep _ w1) := k1
        clear k1
        go_wp2_with fail
        go_ret
        exact ⟨rfl, K1.out⟩
      · go_enter Try.func3, Try.ntmps3
        go_wp2_with fail
        refine (H1.out _).mono ?_
        rintro e w1 ⟨rfl, rfl⟩
        go_wp2_with fail
        refine (H3.out _).mono ?_
        rintro e w1 ⟨rfl, rfl⟩
        go_wp2_with fail
        refine (H4.out _).mono ?_
        rintro e w1 ⟨rfl, rfl⟩
        go_wp2_with fail
        refine (H5.out _).mono ?_
        rintro e w1 ⟨rfl, rfl⟩
        go_wp2_with fail
        refine (H6.out _).mono ?_
        rintro e w1 ⟨rfl, rfl⟩
        go_wp2_with fail
        refine (h3.out _).mono ?_
        rintro e w1 ⟨rfl, k1⟩
        have K1 : Hid (Kep _ w1) := k1
        clear k1
        go_wp2_with fail
        go_ret
        exact ⟨rfl, K1.out⟩
  · rcases e2 with rfl | ⟨rfl, rfl⟩
    · rcases e3 with rfl | ⟨rfl, rfl⟩
      · go_enter Try.func3, Try.ntmps3
        go_wp2_with fail
        refine (H1.out _).mono ?_
        rintro e w1 ⟨rfl, rfl⟩
        go_wp2_with fail
        refine (H2.out _).mono ?_
        rintro e w1 ⟨rfl, rfl⟩
        go_wp2_with fail
        refine (H3.out _).mono ?_
        rintro e w1 ⟨rfl, rfl⟩
        go_wp2_with fail
        refine (H5.out _).mono ?_
        rintro e w1 ⟨rfl, rfl⟩
        go_wp2_with fail
        refine (h3.out _).mono ?_
        rintro e w1 ⟨rfl, k1⟩
        have K1 : Hid (Kep _ w1) := k1
        clear k1
        go_wp2_with fail
        go_ret
        exact ⟨rfl, K1.out⟩
      · go_enter Try.func3, Try.ntmps3
        go_wp2_with fail
        refine (H1.out _).mono ?_
        rintro e w1 ⟨rfl, rfl⟩
        go_wp2_with fail
        refine (H2.out _).mono ?_
        rintro e w1 ⟨rfl, rfl⟩
        go_wp2_with fail
        refine (H3.out _).mono ?_
        rintro e w1 ⟨rfl, rfl⟩
        go_wp2_with fail
        refine (H5.out _).mono ?_
        rintro e w1 ⟨rfl, rfl⟩
        go_wp2_with fail
        refine (H6.out _).mono ?_
        rintro e w1 ⟨rfl, rfl⟩
        go_wp2_with fail
        refine (h3.out _).mono ?_
        rintro e w1 ⟨rfl, k1⟩
        have K1 : Hid (Kep _ w1) := k1
        clear k1
        go_wp2_with fail
        go_ret
        exact ⟨rfl, K1.out⟩
    · rcases e3 with rfl | ⟨rfl, rfl⟩
      · go_enter Try.func3, Try.ntmps3
        go_wp2_with fail
        refine (H1.out _).mono ?_
        rintro e w1 ⟨rfl, rfl⟩
        go_wp2_with fail
        refine (H2.out _).mono ?_
        rintro e w1 ⟨rfl, rfl⟩
        go_wp2_with fail
        refine (H3.out _).mono ?_
        rintro e w1 ⟨rfl, rfl⟩
        go_wp2_with fail
        refine (H4.out _).mono ?_
        rintro e w1 ⟨rfl, rfl⟩
        go_wp2_with fail
        refine (H5.out _).mono ?_
        rintro e w1 ⟨rfl, rfl⟩
        go_wp2_with fail
        refine (h3.out _).mono ?_
        rintro e w1 ⟨rfl, k1⟩
        have K1 : Hid (Kep _ w1) := k1
        clear k1
        go_wp2_with fail
        go_ret
        exact ⟨rfl, K1.out⟩
      · go_enter Try.func3, Try.ntmps3
        go_wp2_with fail
        refine (H1.out _).mono ?_
        rintro e w1 ⟨rfl, rfl⟩
        go_wp2_with fail
        refine (H2.out _).mono ?_
        rintro e w1 ⟨rfl, rfl⟩
        go_wp2_with fail
        refine (H3.out _).mono ?_
        rintro e w1 ⟨rfl, rfl⟩
        go_wp2_with fail
        refine (H4.out _).mono ?_
        rintro e w1 ⟨rfl, rfl⟩
        go_wp2_with fail
        refine (H5.out _).mono ?_
        rintro e w1 ⟨rfl, rfl⟩
        go_wp2_with fail
        refine (H6.out _).mono ?_
        rintro e w1 ⟨rfl, rfl⟩
        go_wp2_with fail
        refine (h3.out _).mono ?_
        rintro e w1 ⟨rfl, k1⟩
        have K1 : Hid (Kep _ w1) := k1
        clear k1
        go_wp2_with fail
        go_ret
        exact ⟨rfl, K1.out⟩

set_option maxRecDepth 100000 in
theorem lifted (os : Os) (started : os.Started) (H : Type) (enc : TypeId × Value → H) :
    ReturnsInHanded {} Try.checked os 3 .any (Rows.walkLessSpec.pre6 enc Try.prog Try.f3 Rows.walkLessRow.domain false) (Rows.walkLessSpec.post enc Try.prog Try.f3 false true false false) := by
  refine returnsInHanded_of_change (C := Try.checked) own started (by kernel_rfl) Try.func3
    (ChangeSpec.witness6 (enc := enc) (C := Try.checked) false ⟨#[], #[.int .u32 0, .int .i64 0], []⟩ 8 (by kernel_rfl) (by kernel_rfl) (by kernel_rfl) (by kernel_rfl)) ?_
  intro W base args ds gs before hval0 hW hcnd _
  have hval : ∀ (j : Nat) t v, Try.f3.params[j]? = some t → args[j]? = some v → Value.okWide Try.prog W .any base t v := hval0
  have hW' := hW
  obtain ⟨p, q, hA0, hV, rfl, hfz, hnd⟩ := hW
  have hA : DataW.TrodAll enc Try.prog W 0 (fun _ => true) true Try.f3.params.toList args.toList ds p := hA0
  rw [Try.params3] at hA hval
  obtain ⟨v0, vs0, d0, ds0, p0, q0, hargs, rfl, rfl, h0, r0⟩ := trodAll_cons hA
  obtain ⟨v1, vs1, d1, ds1, p1, q1, rfl, rfl, rfl, h1, r1⟩ := trodAll_cons r0
  obtain ⟨rfl, rfl, rfl⟩ := trodAll_nil r1
  obtain rfl : args = #[v0, v1] := by cases args; simp_all
  obtain ⟨rfl, rfl⟩ := trodVars_none hV
  have k0 := h0
  have lt0 : ∀ x ∈ p0, x.block < W.heap.size := by obtain ⟨m, hm⟩ := k0; exact DataW.trod_lt m _ _ _ hm
  obtain ⟨a0, rfl, rfl, rfl, w0⟩ := open_int Try.underlying22 (hval 0 22 v0 rfl rfl) h0
  have k1 := h1
  have lt1 : ∀ x ∈ p1, x.block < W.heap.size := by obtain ⟨m, hm⟩ := k1; exact DataW.trod_lt m _ _ _ hm
  obtain ⟨a1, rfl, rfl, rfl, w1⟩ := open_int Try.underlying3 (hval 1 3 v1 rfl rfl) h1
  clear hA0 hval0
  refine (walk a0 w0 a1 w1 W ).mono fun e W' ⟨he, bel0⟩ => ?_
  have bel : Below W.heap.size W W' := bel0
  subst he
  exact ⟨_, rfl, _, _, _, [], _, [], hW', trodAll_mk1 (shut_bool Try.underlying4 _), (trodAll_cons_mk (Below.trod laidOut (by kernel_rfl) (of_decide_eq_true (by kernel_rfl)) k0 bel lt0) (trodAll_cons_mk (Below.trod laidOut (by kernel_rfl) (of_decide_eq_true (by kernel_rfl)) k1 bel lt1) trodAll_mk0)), rfl, bel.frame _, fun h => by cases h⟩

theorem over : Rows.walkLessRow.holds Try.pinned (OpenSpec.ofChange Rows.walkLessSpec) :=
  OpenClaim.holds_of_wide 3 Try.f3 rfl rfl rfl rfl rfl rfl rfl ⟨rfl, rfl, rfl, rfl, rfl⟩ rfl rfl rfl rfl rfl (by kernel_rfl) Try.func3 (by kernel_rfl)
    (of_decide_eq_true (by kernel_rfl)) (by unfold Func.isWrapper; first | (rw [if_pos (by decide +kernel)]; kernel_rfl) | (rw [if_neg (by decide +kernel)]; exact ⟨rfl, rfl⟩))
    (fun os started H enc _ => lifted os started H enc)
end Go.Proofs.Ytahnmppnfoeffab.walkLess
namespace Go.Proofs.Ytahnmppnfoeffab

theorem walkLess_holds : Rows.WalkLessSaid := walkLess.over
#print axioms walkLess_holds
end Go.Proofs.Ytahnmppnfoeffab
