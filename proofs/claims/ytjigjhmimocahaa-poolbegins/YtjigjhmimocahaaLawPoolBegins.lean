/- For every two numbers, the law PoolBegins returns true: any first frame and number make a pool, or are refused. -/
import Derived.Test.YtjigjhmimocahaaRows
import Derived.Test.YtjigjhmimocahaaPlcode
import Derived.WalkKit
import Derived.ProofKit
import Derived.OpenShut
import Derived.ShutString
import Derived.ChangeOld
import Derived.Below
import Derived.Lib.SmallJoins
namespace Go.Proofs.Ytjigjhmimocahaa.poolBegins
open Go.ChangeShapes Go.WideShapes Go.ChangeAt Go.RowKit
set_option linter.unusedVariables false
set_option linter.unusedSimpArgs false

theorem own : ownKnob Try.prog.godebug = none := by kernel_rfl
theorem laidOut : laidOutB Try.prog = true := by kernel_rfl

set_option maxHeartbeats 4000000 in
set_option maxRecDepth 100000 in
theorem walk (a0 : Int) (w0 : (Lit.int .i64 a0).wf = true) (a1 : Int) (w1 : (Lit.int .i64 a1).wf = true) (w : World)  :
    Calls Try.prog 4 #[.int .i64 a0, .int .i64 a1] w fun e w' => e = .returned (.bool true) ∧ Kep w w' := by
  have HW : Hid (∀ w, Calls Try.prog 16 #[] w fun e w' => e = .returned (.bool true) ∧ Kep w w') := works14_any
  have b0 := i64_of w0
  have b1 := i64_of w1
  clear w0 w1
  rcases (by omega : (a0 < 0 ∨ a1 < 0 ∨ 512 - a0 < a1) ∨ (0 ≤ a0 ∧ 0 ≤ a1 ∧ a0 + a1 ≤ 512)) with h | ⟨h0, h1, h2⟩
  · have HN : Hid (Calls Try.prog 7 #[.int .i64 a0, .int .i64 a1] w fun e w' => e = .returned (.tuple #[.pointer none, .int .i64 2]) ∧ w' = w) := pnew_no w a0 a1 b0 b1 h
    rcases (by omega : a0 < 0 ∨ (0 ≤ a0 ∧ a1 < 0) ∨ (0 ≤ a0 ∧ 0 ≤ a1 ∧ 512 < a1) ∨ (0 ≤ a0 ∧ 0 ≤ a1 ∧ a1 ≤ 512 ∧ 512 - a1 < a0)) with g | ⟨g0, g⟩ | ⟨g0, g1, g⟩ | ⟨g0, g1, g2, g⟩
    all_goals
      clear h
      go_enter Try.func4, Try.ntmps4
      go_wp2_with (first
        | (go_at_call 7; refine HN.out.mono ?_; rintro e w2 ⟨rfl, hq0⟩; rw [hq0]; clear hq0 w2)
        | (go_at_call 16; refine (HW.out _).mono ?_; rintro e w4 ⟨rfl, KW⟩))
      go_ret
      exact ⟨rfl, KW⟩
  · obtain ⟨n, rfl⟩ : ∃ n : Nat, a1 = n := ⟨a1.toNat, by omega⟩
    have HN : Hid (Calls Try.prog 7 #[.int .i64 a0, .int .i64 n] w fun e w' => e = .returned (.tuple #[.pointer (some ⟨w.heap.size + 1, 0, none⟩), .int .i64 0]) ∧ Kep w w' ∧ PoolAt w' (w.heap.size + 1) w.heap.size a0 (List.replicate n false) 0 0) := pnew_any w a0 n h0 h2
    have n1 : ¬ a0 < 0 := by omega
    have n2 : ¬ (n : Int) < 0 := by omega
    have n3 : ¬ (512 : Int) < n := by omega
    have n4 : ¬ 512 - (n : Int) < a0 := by omega
    go_enter Try.func4, Try.ntmps4
    go_wp2_with fail
    refine HN.out.mono ?_
    rintro e w1 ⟨rfl, K1, P1⟩
    have HL : Hid (Calls Try.prog 13 #[.pointer (some ⟨w.heap.size + 1, 0, none⟩)] w1 fun e w' => e = .returned (.int .i64 n) ∧ Kep w1 w') := by
      have := pleft_any w1 _ _ _ _ _ _ P1
      have e : ((List.replicate n false).length : Int) - (0 : Nat) = n := by simp
      rw [nTrue_none, e] at this
      exact this
    have K1' : Hid (Kep w w1) := K1
    clear P1 K1 HN
    go_wp2_with (go_at_call 13; refine HL.out.mono ?_; rintro e w2 ⟨rfl, K2⟩)
    refine (HW.out _).mono ?_
    rintro e w4 ⟨rfl, KW⟩
    go_wp2_with fail
    go_ret
    exact ⟨rfl, kep_trans (kep_trans K1'.out K2) KW⟩

set_option maxRecDepth 100000 in
theorem lifted (os : Os) (started : os.Started) (H : Type) (enc : TypeId × Value → H) :
    ReturnsInHanded {} Try.checked os 4 .any (Rows.poolBeginsSpec.pre6 enc Try.prog Try.f4 Rows.poolBeginsRow.domain false) (Rows.poolBeginsSpec.post enc Try.prog Try.f4 false true false false) := by
  refine returnsInHanded_of_change (C := Try.checked) own started (by kernel_rfl) Try.func4
    (ChangeSpec.witness6 (enc := enc) (C := Try.checked) false ⟨#[], #[.int .i64 0, .int .i64 0], []⟩ 8 (by kernel_rfl) (by kernel_rfl) (by kernel_rfl) (by kernel_rfl)) ?_
  intro W base args ds gs before hval0 hW hcnd _
  have hval : ∀ (j : Nat) t v, Try.f4.params[j]? = some t → args[j]? = some v → Value.okWide Try.prog W .any base t v := hval0
  have hW' := hW
  obtain ⟨p, q, hA0, hV, rfl, hfz, hnd⟩ := hW
  have hA : DataW.TrodAll enc Try.prog W 0 (fun _ => true) true Try.f4.params.toList args.toList ds p := hA0
  rw [Try.params4] at hA hval
  obtain ⟨v0, vs0, d0, ds0, p0, q0, hargs, rfl, rfl, h0, r0⟩ := trodAll_cons hA
  obtain ⟨v1, vs1, d1, ds1, p1, q1, rfl, rfl, rfl, h1, r1⟩ := trodAll_cons r0
  obtain ⟨rfl, rfl, rfl⟩ := trodAll_nil r1
  obtain rfl : args = #[v0, v1] := by cases args; simp_all
  obtain ⟨rfl, rfl⟩ := trodVars_none hV
  have k0 := h0
  have lt0 : ∀ x ∈ p0, x.block < W.heap.size := by obtain ⟨m, hm⟩ := k0; exact DataW.trod_lt m _ _ _ hm
  obtain ⟨a0, rfl, rfl, rfl, w0⟩ := open_int Try.underlying3 (hval 0 3 v0 rfl rfl) h0
  have k1 := h1
  have lt1 : ∀ x ∈ p1, x.block < W.heap.size := by obtain ⟨m, hm⟩ := k1; exact DataW.trod_lt m _ _ _ hm
  obtain ⟨a1, rfl, rfl, rfl, w1⟩ := open_int Try.underlying3 (hval 1 3 v1 rfl rfl) h1
  clear hA0 hval0
  refine (walk a0 w0 a1 w1 W ).mono fun e W' ⟨he, bel0⟩ => ?_
  have bel : Below W.heap.size W W' := bel0
  subst he
  exact ⟨_, rfl, _, _, _, [], _, [], hW', trodAll_mk1 (shut_bool Try.underlying4 _), (trodAll_cons_mk (Below.trod laidOut (by kernel_rfl) (of_decide_eq_true (by kernel_rfl)) k0 bel lt0) (trodAll_cons_mk (Below.trod laidOut (by kernel_rfl) (of_decide_eq_true (by kernel_rfl)) k1 bel lt1) trodAll_mk0)), rfl, bel.frame _, fun h => by cases h⟩

theorem over : Rows.poolBeginsRow.holds Try.pinned (OpenSpec.ofChange Rows.poolBeginsSpec) :=
  OpenClaim.holds_of_wide 4 Try.f4 rfl rfl rfl rfl rfl rfl rfl ⟨rfl, rfl, rfl, rfl, rfl⟩ rfl rfl rfl rfl rfl (by kernel_rfl) Try.func4 (by kernel_rfl)
    (of_decide_eq_true (by kernel_rfl)) (by unfold Func.isWrapper; first | (rw [if_pos (by decide +kernel)]; kernel_rfl) | (rw [if_neg (by decide +kernel)]; exact ⟨rfl, rfl⟩))
    (fun os started H enc _ => lifted os started H enc)
end Go.Proofs.Ytjigjhmimocahaa.poolBegins
namespace Go.Proofs.Ytjigjhmimocahaa

theorem poolBegins_holds : Rows.PoolBeginsSaid := poolBegins.over
#print axioms poolBegins_holds
end Go.Proofs.Ytjigjhmimocahaa
