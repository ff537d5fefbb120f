/- For every number of slots and every page, the law TlbSlots returns true: any number of slots makes a TLB that remembers nothing, or is refused. -/
import Derived.Test.YtekcknkfpecppaaRows
import Derived.Test.YtekcknkfpecppaaUopen
import Derived.WalkKit
import Derived.ProofKit
import Derived.OpenShut
import Derived.ShutString
import Derived.ChangeOld
import Derived.Below
import Derived.Lib.SmallJoins
namespace Go.Proofs.Ytekcknkfpecppaa.tlbSlots
open Go.ChangeShapes Go.WideShapes Go.ChangeAt Go.RowKit
set_option linter.unusedVariables false

theorem own : ownKnob Try.prog.godebug = none := by kernel_rfl
theorem laidOut : laidOutB Try.prog = true := by kernel_rfl

set_option maxHeartbeats 4000000 in
set_option maxRecDepth 100000 in
theorem walk (a0 : Int) (w0 : (Lit.int .i64 a0).wf = true) (a1 : Int) (w1 : (Lit.int .u32 a1).wf = true) (w : World)  :
    Calls Try.prog 4 #[.int .i64 a0, .int .u32 a1] w fun e w' => e = .returned (.bool true) ∧ Kep w w' := by
  have b1 := u32_of w1
  obtain ⟨pg, rfl⟩ : ∃ n : Nat, a1 = n := ⟨a1.toNat, by omega⟩
  by_cases hs : a0 < 1 ∨ 64 < a0
  · have H1 : Hid (Calls Try.prog 13 #[.int .i64 a0] w fun e w' => e = .returned (.tuple #[.pointer none, .int .i64 2]) ∧ w' = w) := new_no w a0 hs
    have H2 : Hid (Calls Try.prog 13 #[.int .i64 1] w fun e w' => e = .returned (.tuple #[.pointer (some ⟨w.heap.size + 1, 0, none⟩), .int .i64 0]) ∧ Kep w w' ∧ Tlb w' (w.heap.size + 1) w.heap.size (List.replicate 1 none) 0 0) := new_any w 1 (by decide) (by decide)
    rcases (by omega : a0 < 1 ∨ (1 ≤ a0 ∧ 64 < a0)) with g | ⟨g, g'⟩
    all_goals
      clear hs
      go_enter Try.func4, Try.ntmps4
      go_wp2_with fail
      refine H1.out.mono ?_
      rintro e w1 ⟨rfl, rfl⟩
      go_wp2_with fail
      refine H2.out.mono ?_
      rintro e w2 ⟨rfl, k2, _⟩
      have K2 : Hid (Kep w1 w2) := k2
      clear k2 H1 H2
      go_wp2_with fail
      go_ret
      exact ⟨rfl, K2.out⟩
  · obtain ⟨n, rfl⟩ : ∃ n : Nat, a0 = n := ⟨a0.toNat, by omega⟩
    have g1 : (1 : Int) ≤ n := by omega
    have g2 : (n : Int) ≤ 64 := by omega
    have H1 : Hid (Calls Try.prog 13 #[.int .i64 n] w fun e w' => e = .returned (.tuple #[.pointer (some ⟨w.heap.size + 1, 0, none⟩), .int .i64 0]) ∧ Kep w w' ∧ Tlb w' (w.heap.size + 1) w.heap.size (List.replicate n none) 0 0) := new_any w n g1 g2
    clear hs
    go_enter Try.func4, Try.ntmps4
    go_wp2_with fail
    refine H1.out.mono ?_
    rintro e w1 ⟨rfl, k1, t1⟩
    have HL := look_any t1 (.none _) (by decide) (by decide) (by decide) (by decide) pg (by omega)
    rw [lookS_none] at HL
    have HL' : Hid (Calls Try.prog 10 #[.pointer (some ⟨w.heap.size + 1, 0, none⟩), .int .u32 pg] w1 fun e w' => e = .returned (.tuple #[.int .u32 0, .int .i64 0, .bool false]) ∧ Put [w.heap.size + 1] w1 w' ∧ Tlb w' (w.heap.size + 1) w.heap.size (List.replicate n none) 0 1) := HL
    have K1 : Hid (Kep w w1) := k1
    clear HL k1 t1 H1
    go_wp2_with fail
    refine HL'.out.mono ?_
    rintro e w2 ⟨rfl, p2, t2⟩
    have HC : Hid (Calls Try.prog 12 #[.pointer (some ⟨w.heap.size + 1, 0, none⟩)] w2 fun e w' => e = .returned (.tuple #[.int .i64 0, .int .i64 1]) ∧ Kep w2 w') := counts_any w2 _ _ _ 0 1 t2
    have K2 : Hid (Kep w w2) := K1.out.put p2 (by simp)
    clear p2 t2 HL' K1
    go_wp2_with fail
    refine HC.out.mono ?_
    rintro e w3 ⟨rfl, k3⟩
    have K3 : Hid (Kep w w3) := kep_trans K2.out k3
    clear k3 K2 HC
    go_wp2_with fail
    go_ret
    exact ⟨rfl, K3.out⟩

set_option maxRecDepth 100000 in
theorem lifted (os : Os) (started : os.Started) (H : Type) (enc : TypeId × Value → H) :
    ReturnsInHanded {} Try.checked os 4 .any (Rows.tlbSlotsSpec.pre6 enc Try.prog Try.f4 Rows.tlbSlotsRow.domain false) (Rows.tlbSlotsSpec.post enc Try.prog Try.f4 false true false false) := by
  refine returnsInHanded_of_change (C := Try.checked) own started (by kernel_rfl) Try.func4
    (ChangeSpec.witness6 (enc := enc) (C := Try.checked) false ⟨#[], #[.int .i64 0, .int .u32 0], []⟩ 8 (by kernel_rfl) (by kernel_rfl) (by kernel_rfl) (by kernel_rfl)) ?_
  intro W base args ds gs before hval0 hW hcnd _
  have hval : ∀ (j : Nat) t v, Try.f4.params[j]? = some t → args[j]? = some v → Value.okWide Try.prog W .any base t v := hval0
  have hW' := hW
  obtain ⟨p, q, hA0, hV, rfl, hfz, hnd⟩ := hW
  have hA : DataW.TrodAll enc Try.prog W 0 (fun _ => true) true Try.f4.params.toList args.toList ds p := hA0
  rw [Try.params4] at hA hval
  obtain ⟨v0, vs0, d0, ds0, p0, q0, hargs, rfl, rfl, h0, r0⟩ := trodAll_cons hA
  obtain ⟨v1, vs1, d1, ds1, p1, q1, rfl, rfl, rfl, h1, r1⟩ := trodAll_cons r0
  obtain ⟨rfl, rfl, rfl⟩ := trodAll_nil r1
  obtain rfl : args = #[v0, v1] := by cases args; simp_all
  obtain ⟨rfl, rfl⟩ := trodVars_none hV
  have k0 := h0
  have lt0 : ∀ x ∈ p0, x.block < W.heap.size := by obtain ⟨m, hm⟩ := k0; exact DataW.trod_lt m _ _ _ hm
  obtain ⟨a0, rfl, rfl, rfl, w0⟩ := open_int Try.underlying3 (hval 0 3 v0 rfl rfl) h0
  have k1 := h1
  have lt1 : ∀ x ∈ p1, x.block < W.heap.size := by obtain ⟨m, hm⟩ := k1; exact DataW.trod_lt m _ _ _ hm
  obtain ⟨a1, rfl, rfl, rfl, w1⟩ := open_int Try.underlying27 (hval 1 27 v1 rfl rfl) h1
  clear hA0 hval0
  refine (walk a0 w0 a1 w1 W ).mono fun e W' ⟨he, bel0⟩ => ?_
  have bel : Below W.heap.size W W' := bel0
  subst he
  exact ⟨_, rfl, _, _, _, [], _, [], hW', trodAll_mk1 (shut_bool Try.underlying4 _), (trodAll_cons_mk (Below.trod laidOut (by kernel_rfl) (of_decide_eq_true (by kernel_rfl)) k0 bel lt0) (trodAll_cons_mk (Below.trod laidOut (by kernel_rfl) (of_decide_eq_true (by kernel_rfl)) k1 bel lt1) trodAll_mk0)), rfl, bel.frame _, fun h => by cases h⟩

theorem over : Rows.tlbSlotsRow.holds Try.pinned (OpenSpec.ofChange Rows.tlbSlotsSpec) :=
  OpenClaim.holds_of_wide 4 Try.f4 rfl rfl rfl rfl rfl rfl rfl ⟨rfl, rfl, rfl, rfl, rfl⟩ rfl rfl rfl rfl rfl (by kernel_rfl) Try.func4 (by kernel_rfl)
    (of_decide_eq_true (by kernel_rfl)) (by unfold Func.isWrapper; first | (rw [if_pos (by decide +kernel)]; kernel_rfl) | (rw [if_neg (by decide +kernel)]; exact ⟨rfl, rfl⟩))
    (fun os started H enc _ => lifted os started H enc)
end Go.Proofs.Ytekcknkfpecppaa.tlbSlots
namespace Go.Proofs.Ytekcknkfpecppaa

theorem tlbSlots_holds : Rows.TlbSlotsSaid := tlbSlots.over
#print axioms tlbSlots_holds
end Go.Proofs.Ytekcknkfpecppaa
