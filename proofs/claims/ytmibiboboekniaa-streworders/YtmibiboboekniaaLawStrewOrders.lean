/- For every number and key, the law StrewOrders returns true: any number of places is strewn by any key as the document says. -/
import Derived.Test.YtmibiboboekniaaRows
import Derived.Test.YtmibiboboekniaaQsame
import Derived.WalkKit
import Derived.ProofKit
import Derived.OpenShut
import Derived.ShutString
import Derived.ChangeOld
import Derived.Below
import Derived.Lib.SmallJoins
namespace Go.Proofs.Ytmibiboboekniaa.strewOrders
open Go.ChangeShapes Go.WideShapes Go.ChangeAt Go.RowKit
set_option linter.unusedVariables false
set_option linter.unusedSimpArgs false

theorem own : ownKnob Try.prog.godebug = none := by kernel_rfl
theorem laidOut : laidOutB Try.prog = true := by kernel_rfl

set_option maxHeartbeats 4000000 in
set_option maxRecDepth 100000 in
theorem walk (a0 : Int) (w0 : (Lit.int .i64 a0).wf = true) (a1 : Int) (w1 : (Lit.int .u32 a1).wf = true) (w : World)  :
    Calls Try.prog 3 #[.int .i64 a0, .int .u32 a1] w fun e w' => e = .returned (.bool true) ∧ Kep w w' := by
  have HW : Hid (∀ w, Calls Try.prog 11 #[] w fun e w' => e = .returned (.bool true) ∧ Kep w w') := works13_any
  have ha1 := u32_of w1
  clear w0 w1
  rcases (by omega : (a0 < 1 ∨ 512 < a0) ∨ (1 ≤ a0 ∧ a0 ≤ 512)) with h | ⟨h1, h2⟩
  · have HO : Hid (∀ w, Calls Try.prog 9 #[.int .i64 a0, .int .u32 a1] w fun e w' => e = .returned (.slice none 0 0) ∧ w' = w) := fun w => order_no a0 a1 h w
    have HR : Hid (∀ w, Calls Try.prog 10 #[.int .i64 a0, .int .u32 a1] w fun e w' => e = .returned (.slice none 0 0) ∧ w' = w) := fun w => rorder_no a0 a1 h w
    have HS : Hid (∀ w, Calls Try.prog 8 #[.slice none 0 0, .slice none 0 0] w fun e w' => e = .returned (.bool true) ∧ Kep w w') := same13_nil
    clear h
    go_enter Try.func3, Try.ntmps3
    go_wp2_with (first | (go_at_call 9; refine (HO.out _).mono ?_; rintro e w1 ⟨rfl, rfl⟩) | (go_at_call 10; refine (HR.out _).mono ?_; rintro e w1 ⟨rfl, rfl⟩) | (go_at_call 8; refine (HS.out _).mono ?_; rintro e w2 ⟨rfl, KS⟩) | (go_at_call 11; refine (HW.out _).mono ?_; rintro e w2 ⟨rfl, KW⟩))
    go_ret
    exact ⟨rfl, kep_trans KS KW⟩
  · obtain ⟨n, rfl⟩ : ∃ n : Nat, a0 = n := ⟨a0.toNat, by omega⟩
    have HO : Hid (∀ w, Calls Try.prog 9 #[.int .i64 n, .int .u32 a1] w fun e w' => e = .returned (.slice (some ⟨w.heap.size, 0, none⟩) n n) ∧ Kep w w' ∧ w'.heap[w.heap.size]? = some (.cells (ints (ordL n a1)).toArray 3 (0, 0))) := fun w => order_any n h1 h2 a1 ha1 w
    have HR : Hid (∀ w, Calls Try.prog 10 #[.int .i64 n, .int .u32 a1] w fun e w' => ∃ (g cap : Nat) (T : List Value), e = .returned (.slice (some ⟨g, 0, none⟩) n cap) ∧ Kep w w' ∧ w.heap.size ≤ g ∧ RowT w' g (ordL n a1) T ∧ n ≤ cap ∧ cap ≤ maxLen) := fun w => rorder_any n h1 h2 a1 ha1 w
    have hl : Hid ((ordL n a1).length = n) := ordL_len n a1
    generalize ordL n a1 = l at HO HR hl
    go_enter Try.func3, Try.ntmps3
    go_wp2_with fail
    refine (HO.out _).mono ?_
    rintro e w1 ⟨rfl, K1, R1⟩
    have A1 : Hid (Kep w w1 ∧ LI w1 (some ⟨w.heap.size, 0, none⟩) l) := ⟨K1, (RowT.of_row R1).li⟩
    clear K1 R1 HO
    go_wp2_with fail
    refine (HR.out _).mono ?_
    rintro e w2 ⟨g, cap, T, rfl, K2, -, R2, -, -⟩
    have HS : Hid (Calls Try.prog 8 #[.slice (some ⟨w.heap.size, 0, none⟩) n n, .slice (some ⟨g, 0, none⟩) n cap] w2 fun e w' => e = .returned (.bool true) ∧ Kep w2 w') := same13_yes _ _ n n cap h2 l hl.out w2 (A1.out.2.kep K2) R2.li
    have A2 : Hid (Kep w w2) := kep_trans A1.out.1 K2
    clear K2 R2 HR A1
    go_wp2_with fail
    refine HS.out.mono ?_
    rintro e w3 ⟨rfl, K3⟩
    have A3 : Hid (Kep w w3) := kep_trans A2.out K3
    clear K3 HS A2
    go_wp2_with (go_at_call 11; refine (HW.out _).mono ?_; rintro e w4 ⟨rfl, KW⟩)
    go_ret
    exact ⟨rfl, kep_trans A3.out KW⟩

set_option maxRecDepth 100000 in
theorem lifted (os : Os) (started : os.Started) (H : Type) (enc : TypeId × Value → H) :
    ReturnsInHanded {} Try.checked os 3 .any (Rows.strewOrdersSpec.pre6 enc Try.prog Try.f3 Rows.strewOrdersRow.domain false) (Rows.strewOrdersSpec.post enc Try.prog Try.f3 false true false false) := by
  refine returnsInHanded_of_change (C := Try.checked) own started (by kernel_rfl) Try.func3
    (ChangeSpec.witness6 (enc := enc) (C := Try.checked) false ⟨#[], #[.int .i64 0, .int .u32 0], []⟩ 8 (by kernel_rfl) (by kernel_rfl) (by kernel_rfl) (by kernel_rfl)) ?_
  intro W base args ds gs before hval0 hW hcnd _
  have hval : ∀ (j : Nat) t v, Try.f3.params[j]? = some t → args[j]? = some v → Value.okWide Try.prog W .any base t v := hval0
  have hW' := hW
  obtain ⟨p, q, hA0, hV, rfl, hfz, hnd⟩ := hW
  have hA : DataW.TrodAll enc Try.prog W 0 (fun _ => true) true Try.f3.params.toList args.toList ds p := hA0
  rw [Try.params3] at hA hval
  obtain ⟨v0, vs0, d0, ds0, p0, q0, hargs, rfl, rfl, h0, r0⟩ := trodAll_cons hA
  obtain ⟨v1, vs1, d1, ds1, p1, q1, rfl, rfl, rfl, h1, r1⟩ := trodAll_cons r0
  obtain ⟨rfl, rfl, rfl⟩ := trodAll_nil r1
  obtain rfl : args = #[v0, v1] := by cases args; simp_all
  obtain ⟨rfl, rfl⟩ := trodVars_none hV
  have k0 := h0
  have lt0 : ∀ x ∈ p0, x.block < W.heap.size := by obtain ⟨m, hm⟩ := k0; exact DataW.trod_lt m _ _ _ hm
  obtain ⟨a0, rfl, rfl, rfl, w0⟩ := open_int Try.underlying3 (hval 0 3 v0 rfl rfl) h0
  have k1 := h1
  have lt1 : ∀ x ∈ p1, x.block < W.heap.size := by obtain ⟨m, hm⟩ := k1; exact DataW.trod_lt m _ _ _ hm
  obtain ⟨a1, rfl, rfl, rfl, w1⟩ := open_int Try.underlying22 (hval 1 22 v1 rfl rfl) h1
  clear hA0 hval0
  refine (walk a0 w0 a1 w1 W ).mono fun e W' ⟨he, bel0⟩ => ?_
  have bel : Below W.heap.size W W' := bel0
  subst he
  exact ⟨_, rfl, _, _, _, [], _, [], hW', trodAll_mk1 (shut_bool Try.underlying4 _), (trodAll_cons_mk (Below.trod laidOut (by kernel_rfl) (of_decide_eq_true (by kernel_rfl)) k0 bel lt0) (trodAll_cons_mk (Below.trod laidOut (by kernel_rfl) (of_decide_eq_true (by kernel_rfl)) k1 bel lt1) trodAll_mk0)), rfl, bel.frame _, fun h => by cases h⟩

theorem over : Rows.strewOrdersRow.holds Try.pinned (OpenSpec.ofChange Rows.strewOrdersSpec) :=
  OpenClaim.holds_of_wide 3 Try.f3 rfl rfl rfl rfl rfl rfl rfl ⟨rfl, rfl, rfl, rfl, rfl⟩ rfl rfl rfl rfl rfl (by kernel_rfl) Try.func3 (by kernel_rfl)
    (of_decide_eq_true (by kernel_rfl)) (by unfold Func.isWrapper; first | (rw [if_pos (by decide +kernel)]; kernel_rfl) | (rw [if_neg (by decide +kernel)]; exact ⟨rfl, rfl⟩))
    (fun os started H enc _ => lifted os started H enc)
end Go.Proofs.Ytmibiboboekniaa.strewOrders
namespace Go.Proofs.Ytmibiboboekniaa

theorem strewOrders_holds : Rows.StrewOrdersSaid := strewOrders.over
#print axioms strewOrders_holds
end Go.Proofs.Ytmibiboboekniaa
