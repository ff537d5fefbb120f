/- For every number of frames, the law RamSizes returns true: a memory of so many frames is made, of bytes that are 0, or it is refused. -/
import Derived.Test.YtiegihaagolmdaaRows
import Derived.Test.YtiegihaagolmdaaMframe
import Derived.WalkKit
import Derived.ProofKit
import Derived.OpenShut
import Derived.ShutString
import Derived.ChangeOld
import Derived.Below
import Derived.Lib.SmallJoins
namespace Go.Proofs.Ytiegihaagolmdaa.ramSizes
open Go.ChangeShapes Go.WideShapes Go.ChangeAt Go.RowKit
set_option linter.unusedVariables false

theorem own : ownKnob Try.prog.godebug = none := by kernel_rfl
theorem laidOut : laidOutB Try.prog = true := by kernel_rfl

set_option maxHeartbeats 4000000 in
set_option maxRecDepth 100000 in
theorem walk (a0 : Int) (w0 : (Lit.int .i64 a0).wf = true) (w : World)  :
    Calls Try.prog 4 #[.int .i64 a0] w fun e w' => e = .returned (.bool true) ∧ Kep w w' := by
  rcases (by omega : (a0 < 1 ∨ (1 ≤ a0 ∧ 512 < a0)) ∨ (1 ≤ a0 ∧ a0 ≤ 512)) with h | ⟨h1, h2⟩
  · have hN : Hid (Calls Try.prog 15 #[.int .i64 a0] w fun e w' => e = .returned (.tuple #[.pointer none, .int .i64 2]) ∧ w' = w) := new_no w a0 (by omega)
    have hO : Hid (∀ w, Calls Try.prog 15 #[.int .i64 1] w fun e w' => ∃ p : Nat, e = .returned (.tuple #[.pointer (some ⟨p, 0, none⟩), .int .i64 0]) ∧ Own w w' (.pointer (some ⟨p, 0, none⟩)) w.heap.size 1 (List.replicate 64 0)) := fun w => new_any w 1 (by decide) (by decide)
    have hS : Hid (∀ w v R, Ram w v R (List.range 1) → Calls Try.prog 16 #[v] w fun e w' => e = .returned (.int .u32 64) ∧ w' = w) := fun w v R h => size_any w v R (List.range 1) h (by decide)
    rcases h with h | ⟨h, h'⟩
    · have g3 : decide (a0 < 1) = true := decide_eq_true (by omega)
      go_enter Try.func4, Try.ntmps4
      go_wp2_with fail
      refine hN.out.mono ?_
      rintro e w1 ⟨rfl, rfl⟩
      go_wp2_with fail
      refine (hO.out _).mono ?_
      rintro e w2 ⟨p, rfl, O⟩
      have O' : Hid (Own w1 w2 (.pointer (some ⟨p, 0, none⟩)) w1.heap.size 1 (List.replicate 64 0)) := O
      clear O
      go_wp2_with (go_at_call 16; refine (hS.out _ _ _ O'.out.ram).mono ?_; rintro e w3 ⟨rfl, rfl⟩)
      go_ret
      exact ⟨rfl, O'.out.kep⟩
    · have g3 : decide (a0 < 1) = false := decide_eq_false (by omega)
      go_enter Try.func4, Try.ntmps4
      go_wp2_with fail
      refine hN.out.mono ?_
      rintro e w1 ⟨rfl, rfl⟩
      go_wp2_with fail
      refine (hO.out _).mono ?_
      rintro e w2 ⟨p, rfl, O⟩
      have O' : Hid (Own w1 w2 (.pointer (some ⟨p, 0, none⟩)) w1.heap.size 1 (List.replicate 64 0)) := O
      clear O
      go_wp2_with (go_at_call 16; refine (hS.out _ _ _ O'.out.ram).mono ?_; rintro e w3 ⟨rfl, rfl⟩)
      go_ret
      exact ⟨rfl, O'.out.kep⟩
  · obtain ⟨n, rfl⟩ : ∃ n : Nat, a0 = n := ⟨a0.toNat, by omega⟩
    have hN : Hid (Calls Try.prog 15 #[.int .i64 n] w fun e w' => ∃ p : Nat, e = .returned (.tuple #[.pointer (some ⟨p, 0, none⟩), .int .i64 0]) ∧ Own w w' (.pointer (some ⟨p, 0, none⟩)) w.heap.size n (List.replicate (64 * n) 0)) := new_any w n (by omega) (by omega)
    have g3 : decide ((n : Int) < 1) = false := decide_eq_false (by omega)
    go_enter Try.func4, Try.ntmps4
    go_wp2_with fail
    refine hN.out.mono ?_
    rintro e w1 ⟨p, rfl, O⟩
    have hl : ((List.range n).length : Int) ≤ 512 := by simp; omega
    have hS : Hid (Calls Try.prog 16 #[.pointer (some ⟨p, 0, none⟩)] w1 fun e w' => e = .returned (.int .u32 (64 * n)) ∧ w' = w1) := by
      have := size_any w1 _ _ _ O.ram hl
      rw [List.length_range] at this
      exact this
    have hB1 : Hid (Calls Try.prog 17 #[.pointer (some ⟨p, 0, none⟩), .int .u32 (64 * n - 1)] w1 fun e w' => e = .returned (.tuple #[.int .u8 0, .bool true]) ∧ w' = w1) := by
      have := byte_any w1 _ _ _ _ O.ram hl O.row (fits_range O.len) (64 * n - 1) (by omega)
      rw [if_pos (by simp; omega), pos_range (by omega)] at this
      have e1 : ((64 * n - 1 : Nat) : Int) = 64 * n - 1 := by omega
      have e2 : (List.replicate (64 * n) (0 : Int)).getD (64 * n - 1) 0 = 0 := by simp [List.getD, List.getElem?_replicate]; split <;> rfl
      rw [e1, e2] at this
      exact this
    have hB2 : Hid (Calls Try.prog 17 #[.pointer (some ⟨p, 0, none⟩), .int .u32 (64 * n)] w1 fun e w' => e = .returned (.tuple #[.int .u8 0, .bool false]) ∧ w' = w1) := by
      have := byte_any w1 _ _ _ _ O.ram hl O.row (fits_range O.len) (64 * n) (by omega)
      rw [if_neg (by simp)] at this
      have e1 : ((64 * n : Nat) : Int) = 64 * n := by omega
      rw [e1] at this
      exact this
    have hF1 : Hid (Calls Try.prog 18 #[.pointer (some ⟨p, 0, none⟩), .int .i64 ((n : Int) - 1)] w1 fun e w' => e = .returned (.slice (some ⟨w1.heap.size, 0, none⟩) 64 64) ∧ Kep w1 w') := by
      have := frame_yes w1 _ _ _ _ O.ram O.row (fits_range O.len) (n - 1) (by simp; omega)
      have e1 : ((n - 1 : Nat) : Int) = (n : Int) - 1 := by omega
      rw [e1] at this
      exact this.mono fun e w' h => ⟨h.1, h.2.1⟩
    have hF2 : Hid (∀ w', Kep w1 w' → Calls Try.prog 18 #[.pointer (some ⟨p, 0, none⟩), .int .i64 n] w' fun e w'' => e = .returned (.slice none 0 0) ∧ w'' = w') := fun w' k => frame_no w' _ _ _ (O.ram.kep k) n (by simp)
    have K1 : Hid (Kep w w1) := O.kep
    clear O hN hl
    go_wp2_with (go_at_call 16; refine hS.out.mono ?_; rintro e w3 ⟨rfl, rfl⟩)
    refine hB1.out.mono ?_
    rintro e w4 ⟨rfl, rfl⟩
    go_wp2_with (go_at_call 16; refine hS.out.mono ?_; rintro e w3 ⟨rfl, rfl⟩)
    refine hB2.out.mono ?_
    rintro e w4 ⟨rfl, rfl⟩
    go_wp2_with (go_at_call 16; refine hS.out.mono ?_; rintro e w3 ⟨rfl, rfl⟩)
    refine hF1.out.mono ?_
    rintro e w5 ⟨rfl, k5⟩
    have k5' : Hid (Kep _ w5) := k5
    go_wp2_with fail
    refine (hF2.out _ k5'.out).mono ?_
    rintro e w6 ⟨rfl, rfl⟩
    go_wp2_with fail
    go_ret
    exact ⟨rfl, kep_trans K1.out k5'.out⟩

set_option maxRecDepth 100000 in
theorem lifted (os : Os) (started : os.Started) (H : Type) (enc : TypeId × Value → H) :
    ReturnsInHanded {} Try.checked os 4 .any (Rows.ramSizesSpec.pre6 enc Try.prog Try.f4 Rows.ramSizesRow.domain false) (Rows.ramSizesSpec.post enc Try.prog Try.f4 false true false false) := by
  refine returnsInHanded_of_change (C := Try.checked) own started (by kernel_rfl) Try.func4
    (ChangeSpec.witness6 (enc := enc) (C := Try.checked) false ⟨#[], #[.int .i64 0], []⟩ 8 (by kernel_rfl) (by kernel_rfl) (by kernel_rfl) (by kernel_rfl)) ?_
  intro W base args ds gs before hval0 hW hcnd _
  have hval : ∀ (j : Nat) t v, Try.f4.params[j]? = some t → args[j]? = some v → Value.okWide Try.prog W .any base t v := hval0
  have hW' := hW
  obtain ⟨p, q, hA0, hV, rfl, hfz, hnd⟩ := hW
  have hA : DataW.TrodAll enc Try.prog W 0 (fun _ => true) true Try.f4.params.toList args.toList ds p := hA0
  rw [Try.params4] at hA hval
  obtain ⟨v0, vs0, d0, ds0, p0, q0, hargs, rfl, rfl, h0, r0⟩ := trodAll_cons hA
  obtain ⟨rfl, rfl, rfl⟩ := trodAll_nil r0
  obtain rfl : args = #[v0] := by cases args; simp_all
  obtain ⟨rfl, rfl⟩ := trodVars_none hV
  have k0 := h0
  have lt0 : ∀ x ∈ p0, x.block < W.heap.size := by obtain ⟨m, hm⟩ := k0; exact DataW.trod_lt m _ _ _ hm
  obtain ⟨a0, rfl, rfl, rfl, w0⟩ := open_int Try.underlying3 (hval 0 3 v0 rfl rfl) h0
  clear hA0 hval0
  refine (walk a0 w0 W ).mono fun e W' ⟨he, bel0⟩ => ?_
  have bel : Below W.heap.size W W' := bel0
  subst he
  exact ⟨_, rfl, _, _, _, [], _, [], hW', trodAll_mk1 (shut_bool Try.underlying4 _), (trodAll_cons_mk (Below.trod laidOut (by kernel_rfl) (of_decide_eq_true (by kernel_rfl)) k0 bel lt0) trodAll_mk0), rfl, bel.frame _, fun h => by cases h⟩

theorem over : Rows.ramSizesRow.holds Try.pinned (OpenSpec.ofChange Rows.ramSizesSpec) :=
  OpenClaim.holds_of_wide 4 Try.f4 rfl rfl rfl rfl rfl rfl rfl ⟨rfl, rfl, rfl, rfl, rfl⟩ rfl rfl rfl rfl rfl (by kernel_rfl) Try.func4 (by kernel_rfl)
    (of_decide_eq_true (by kernel_rfl)) (by unfold Func.isWrapper; first | (rw [if_pos (by decide +kernel)]; kernel_rfl) | (rw [if_neg (by decide +kernel)]; exact ⟨rfl, rfl⟩))
    (fun os started H enc _ => lifted os started H enc)
end Go.Proofs.Ytiegihaagolmdaa.ramSizes
namespace Go.Proofs.Ytiegihaagolmdaa

theorem ramSizes_holds : Rows.RamSizesSaid := ramSizes.over
#print axioms ramSizes_holds
end Go.Proofs.Ytiegihaagolmdaa
