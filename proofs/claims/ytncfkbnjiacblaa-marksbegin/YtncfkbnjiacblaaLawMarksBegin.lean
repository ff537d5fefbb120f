/- For every two numbers, the law MarksBegin returns true: any number of frames bears no mark at first, or is refused. -/
import Derived.Test.YtncfkbnjiacblaaRows
import Derived.Test.YtncfkbnjiacblaaMkgot
import Derived.WalkKit
import Derived.ProofKit
import Derived.OpenShut
import Derived.ShutString
import Derived.ChangeOld
import Derived.Below
import Derived.Lib.SmallJoins
namespace Go.Proofs.Ytncfkbnjiacblaa.marksBegin
open Go.ChangeShapes Go.WideShapes Go.ChangeAt Go.RowKit
set_option linter.unusedVariables false
set_option linter.unusedSimpArgs false

theorem own : ownKnob Try.prog.godebug = none := by kernel_rfl
theorem laidOut : laidOutB Try.prog = true := by kernel_rfl

set_option maxHeartbeats 4000000 in
set_option maxRecDepth 100000 in
theorem walk (a0 : Int) (w0 : (Lit.int .i64 a0).wf = true) (a1 : Int) (w1 : (Lit.int .i64 a1).wf = true) (w : World)  :
    Calls Try.prog 4 #[.int .i64 a0, .int .i64 a1] w fun e w' => e = .returned (.bool true) ∧ Kep w w' := by
  have HW : Hid (∀ w, Calls Try.prog 19 #[] w fun e w' => e = .returned (.bool true) ∧ Kep w w') := works15_any
  clear w0 w1
  rcases (by omega : (a0 < 1 ∨ (¬ a0 < 1 ∧ 64 < a0)) ∨ (1 ≤ a0 ∧ a0 ≤ 64)) with h | ⟨h0, h1⟩
  · have HN : Hid (Calls Try.prog 7 #[.int .i64 a0] w fun e w' => e = .returned (.tuple #[.pointer none, .int .i64 2]) ∧ w' = w) := mnew_no w a0 (by omega)
    rcases h with g | ⟨g0, g1⟩
    all_goals
      go_enter Try.func4, Try.ntmps4
      go_wp2_with (first
        | (go_at_call 7; refine HN.out.mono ?_; rintro e w2 ⟨rfl, hq0⟩; rw [hq0]; clear hq0 w2)
        | (go_at_call 19; refine (HW.out _).mono ?_; rintro e w4 ⟨rfl, KW⟩))
      go_ret
      exact ⟨rfl, KW⟩
  · obtain ⟨n, rfl⟩ : ∃ n : Nat, a0 = n := ⟨a0.toNat, by omega⟩
    have HN : Hid (Calls Try.prog 7 #[.int .i64 n] w fun e w' => e = .returned (.tuple #[.pointer (some ⟨w.heap.size, 0, none⟩), .int .i64 0]) ∧ Kep w w' ∧ MarksAt w' w.heap.size (w.heap.size + 1) (w.heap.size + 2) (List.replicate n false) (List.replicate n false)) := mnew_any w n (by omega) (by omega)
    have n1 : ¬ (n : Int) < 1 := by omega
    have n2 : ¬ (64 : Int) < n := by omega
    have hN : Hid (noneB (List.replicate n false) = List.replicate n false ∧ (List.replicate n false).length = n) := by simp [noneB, Hid]
    have hnn : Hid ((n : Int) ≤ 64) := h1
    have HM0 : Hid (∀ w1, MarksAt w1 w.heap.size (w.heap.size + 1) (w.heap.size + 2) (List.replicate n false) (List.replicate n false) → Calls Try.prog 15 #[.pointer (some ⟨w.heap.size, 0, none⟩), .int .i64 a1] w1 fun e w' => e = .returned (.bool false) ∧ w' = w1) := fun w1 h => by
      have := mwatched_any a1 h.st
      rw [← hN.out.1, bears_none] at this
      exact this
    have HL0 : Hid (∀ (w1 : World) (k : Int), k = 1 ∨ k = 2 → MarksAt w1 w.heap.size (w.heap.size + 1) (w.heap.size + 2) (List.replicate n false) (List.replicate n false) → Calls Try.prog 17 #[.pointer (some ⟨w.heap.size, 0, none⟩), .int .i64 k] w1 fun e w' => ∃ (x : Option Addr) (cap : Nat), e = .returned (.slice x 0 cap) ∧ Kep w1 w') := fun w1 k hk h => by
      have ek : kindL (List.replicate n false) (List.replicate n false) k = List.replicate n false := by unfold kindL; rcases hk with rfl | rfl <;> rfl
      refine (mlist_any k h.st (by rw [ek]; simp; exact hnn.out)).mono ?_
      rintro e w' ⟨x, cap, rfl, _, K⟩
      rw [ek]
      have e0 : frs (List.replicate n false) (List.replicate n false).length = [] := by have := frs_none (List.replicate n false) (List.replicate n false).length; rwa [hN.out.1] at this
      rw [e0]
      exact ⟨x, cap, rfl, K⟩
    have HK0 : Hid (∀ w1, MarksAt w1 w.heap.size (w.heap.size + 1) (w.heap.size + 2) (List.replicate n false) (List.replicate n false) → Calls Try.prog 10 #[.pointer (some ⟨w.heap.size, 0, none⟩), .int .i64 a1, .int .i64 1] w1 fun e w' => e = .returned (.bool (isF n a1)) ∧ Put [w.heap.size + 1, w.heap.size + 2] w1 w') := fun w1 h => by
      refine (mmark_any a1 1 h).mono ?_
      rintro e w' ⟨rfl, _, P⟩
      have e1 : kindL (List.replicate n false) (List.replicate n false) 1 = List.replicate n false := rfl
      rw [e1, ← hN.out.1, bears_none, hN.out.1, hN.out.2]
      exact ⟨by simp, P⟩
    clear hN hnn
    generalize List.replicate n false = Z at *
    obtain ⟨b, hb, hc⟩ : ∃ b, isF n a1 = b ∧ ((a1 < 0 ∧ b = false) ∨ (0 ≤ a1 ∧ ¬ a1 < n ∧ b = false) ∨ (0 ≤ a1 ∧ a1 < n ∧ b = true)) := by
      rcases (by omega : a1 < 0 ∨ (0 ≤ a1 ∧ ¬ a1 < n) ∨ (0 ≤ a1 ∧ a1 < n)) with g | ⟨g, g'⟩ | ⟨g, g'⟩
      · exact ⟨_, isF_no (.inl g), .inl ⟨g, rfl⟩⟩
      · exact ⟨_, isF_no (.inr (by omega)), .inr (.inl ⟨g, g', rfl⟩)⟩
      · exact ⟨_, isF_yes g g', .inr (.inr ⟨g, g', rfl⟩)⟩
    rw [hb] at HK0
    clear hb
    rcases hc with ⟨g, rfl⟩ | ⟨g, g', rfl⟩ | ⟨g, g', rfl⟩
    all_goals
      go_enter Try.func4, Try.ntmps4
      go_wp2_with fail
      refine HN.out.mono ?_
      rintro e w1 ⟨rfl, K1, M1⟩
      have K1' : Hid (Kep w w1) := K1
      have M1' : Hid (MarksAt w1 w.heap.size (w.heap.size + 1) (w.heap.size + 2) Z Z) := M1
      have HT := HM0.out _ M1
      have HT' : Hid (Calls Try.prog 15 #[.pointer (some ⟨w.heap.size, 0, none⟩), .int .i64 a1] w1 fun e w' => e = .returned (.bool false) ∧ w' = w1) := HT
      clear HN K1 M1 HT HM0
      go_wp2_with fail
      refine HT'.out.mono ?_
      rintro e w2 ⟨rfl, hq0⟩
      rw [hq0]
      clear hq0 w2 HT'
      go_wp2_with fail
      refine (HL0.out w1 1 (.inl rfl) M1'.out).mono ?_
      rintro e w2 ⟨x1, c1, rfl, K2⟩
      have M2 : Hid (MarksAt w2 w.heap.size (w.heap.size + 1) (w.heap.size + 2) Z Z) := M1'.out.kep K2
      have K2' : Hid (Kep w w2) := kep_trans K1'.out K2
      clear K1' K2 M1'
      go_wp2_with fail
      refine (HL0.out w2 2 (.inr rfl) M2.out).mono ?_
      rintro e w3 ⟨x2, c2, rfl, K3⟩
      have M3 : Hid (MarksAt w3 w.heap.size (w.heap.size + 1) (w.heap.size + 2) Z Z) := M2.out.kep K3
      have K3' : Hid (Kep w w3) := kep_trans K2'.out K3
      clear K2' K3 M2 HL0
      go_wp2_with fail
      refine (HK0.out w3 M3.out).mono ?_
      rintro e w4 ⟨rfl, P4⟩
      have K4' : Hid (Kep w w4) := K3'.out.put P4 (by simp)
      clear K3' P4 HK0 M3
      go_wp2_with fail
      refine (HW.out w4).mono ?_
      rintro e w5 ⟨rfl, K5⟩
      go_wp2_with fail
      go_ret
      exact ⟨by first | rfl | (simp; omega), kep_trans K4'.out K5⟩

set_option maxRecDepth 100000 in
theorem lifted (os : Os) (started : os.Started) (H : Type) (enc : TypeId × Value → H) :
    ReturnsInHanded {} Try.checked os 4 .any (Rows.marksBeginSpec.pre6 enc Try.prog Try.f4 Rows.marksBeginRow.domain false) (Rows.marksBeginSpec.post enc Try.prog Try.f4 false true false false) := by
  refine returnsInHanded_of_change (C := Try.checked) own started (by kernel_rfl) Try.func4
    (ChangeSpec.witness6 (enc := enc) (C := Try.checked) false ⟨#[], #[.int .i64 0, .int .i64 0], []⟩ 8 (by kernel_rfl) (by kernel_rfl) (by kernel_rfl) (by kernel_rfl)) ?_
  intro W base args ds gs before hval0 hW hcnd _
  have hval : ∀ (j : Nat) t v, Try.f4.params[j]? = some t → args[j]? = some v → Value.okWide Try.prog W .any base t v := hval0
  have hW' := hW
  obtain ⟨p, q, hA0, hV, rfl, hfz, hnd⟩ := hW
  have hA : DataW.TrodAll enc Try.prog W 0 (fun _ => true) true Try.f4.params.toList args.toList ds p := hA0
  rw [Try.params4] at hA hval
  obtain ⟨v0, vs0, d0, ds0, p0, q0, hargs, rfl, rfl, h0, r0⟩ := trodAll_cons hA
  obtain ⟨v1, vs1, d1, ds1, p1, q1, rfl, rfl, rfl, h1, r1⟩ := trodAll_cons r0
  obtain ⟨rfl, rfl, rfl⟩ := trodAll_nil r1
  obtain rfl : args = #[v0, v1] := by cases args; simp_all
  obtain ⟨rfl, rfl⟩ := trodVars_none hV
  have k0 := h0
  have lt0 : ∀ x ∈ p0, x.block < W.heap.size := by obtain ⟨m, hm⟩ := k0; exact DataW.trod_lt m _ _ _ hm
  obtain ⟨a0, rfl, rfl, rfl, w0⟩ := open_int Try.underlying3 (hval 0 3 v0 rfl rfl) h0
  have k1 := h1
  have lt1 : ∀ x ∈ p1, x.block < W.heap.size := by obtain ⟨m, hm⟩ := k1; exact DataW.trod_lt m _ _ _ hm
  obtain ⟨a1, rfl, rfl, rfl, w1⟩ := open_int Try.underlying3 (hval 1 3 v1 rfl rfl) h1
  clear hA0 hval0
  refine (walk a0 w0 a1 w1 W ).mono fun e W' ⟨he, bel0⟩ => ?_
  have bel : Below W.heap.size W W' := bel0
  subst he
  exact ⟨_, rfl, _, _, _, [], _, [], hW', trodAll_mk1 (shut_bool Try.underlying4 _), (trodAll_cons_mk (Below.trod laidOut (by kernel_rfl) (of_decide_eq_true (by kernel_rfl)) k0 bel lt0) (trodAll_cons_mk (Below.trod laidOut (by kernel_rfl) (of_decide_eq_true (by kernel_rfl)) k1 bel lt1) trodAll_mk0)), rfl, bel.frame _, fun h => by cases h⟩

theorem over : Rows.marksBeginRow.holds Try.pinned (OpenSpec.ofChange Rows.marksBeginSpec) :=
  OpenClaim.holds_of_wide 4 Try.f4 rfl rfl rfl rfl rfl rfl rfl ⟨rfl, rfl, rfl, rfl, rfl⟩ rfl rfl rfl rfl rfl (by kernel_rfl) Try.func4 (by kernel_rfl)
    (of_decide_eq_true (by kernel_rfl)) (by unfold Func.isWrapper; first | (rw [if_pos (by decide +kernel)]; kernel_rfl) | (rw [if_neg (by decide +kernel)]; exact ⟨rfl, rfl⟩))
    (fun os started H enc _ => lifted os started H enc)
end Go.Proofs.Ytncfkbnjiacblaa.marksBegin
namespace Go.Proofs.Ytncfkbnjiacblaa

theorem marksBegin_holds : Rows.MarksBeginSaid := marksBegin.over
#print axioms marksBegin_holds
end Go.Proofs.Ytncfkbnjiacblaa
