/- For every frame and kind, the law MarksNone returns true: marks that are not there, and such as no call made, watch nothing. -/
import Derived.Test.YtncfkbnjiacblaaRows
import Derived.Test.YtncfkbnjiacblaaMkgot
import Derived.WalkKit
import Derived.ProofKit
import Derived.OpenShut
import Derived.ShutString
import Derived.ChangeOld
import Derived.Below
import Derived.Lib.SmallJoins
namespace Go.Proofs.Ytncfkbnjiacblaa.marksNone
open Go.ChangeShapes Go.WideShapes Go.ChangeAt Go.RowKit
set_option linter.unusedVariables false
set_option linter.unusedSimpArgs false

theorem own : ownKnob Try.prog.godebug = none := by kernel_rfl
theorem laidOut : laidOutB Try.prog = true := by kernel_rfl

set_option maxHeartbeats 4000000 in
set_option maxRecDepth 100000 in
theorem walk (a0 : Int) (w0 : (Lit.int .i64 a0).wf = true) (a1 : Int) (w1 : (Lit.int .i64 a1).wf = true) (w : World)  :
    Calls Try.prog 6 #[.int .i64 a0, .int .i64 a1] w fun e w' => e = .returned (.bool true) ∧ Kep w w' := by
  have HW : Hid (∀ w, Calls Try.prog 19 #[] w fun e w' => e = .returned (.bool true) ∧ Kep w w') := works15_any
  clear w0 w1
  go_enter Try.func6, Try.ntmps6
  go_wp2_with fail
  generalize hW : (w.alloc _).alloc _ = W
  have hK : Hid (Kep w W) := by rw [← hW]; exact ((Kep.refl _).alloc _).alloc _
  have hr : Hid (W.heap[w.heap.size + 1]? = some (.cells #[.pointer none, .pointer (some ⟨w.heap.size, 0, none⟩)] 23 (0, 0))) := by rw [Hid, ← hW]; exact hat _ _ _ (by simp)
  have hb : Hid (W.heap[w.heap.size]? = some (.cells #[.slice none 0 0, .slice none 0 0] 47 (0, 0))) := by rw [Hid, ← hW]; exact (hsk _ _ _ (by simp)).trans (hat _ _ _ rfl)
  clear hW
  have HV : Hid (∀ (wr : World) (k : Nat), Kep W wr → k < 2 → ∃ v, wr.cell? ⟨w.heap.size + 1, k, none⟩ = some v ∧ NoMarks wr v) := by
    intro wr k K hk
    have c := K.block hr.out
    match k, hk with
    | 0, _ => exact ⟨_, (cell_of_block c).trans rfl, .inl rfl⟩
    | 1, _ => exact ⟨_, (cell_of_block c).trans rfl, .inr ⟨_, rfl, K.block hb.out⟩⟩
  clear hr hb
  go_loopw [7] (fun i wr => ∃ k : Nat, (k : Int) ≤ 2 ∧ i = .int .i64 k ∧ Hid (Kep W wr)) (fun i _ => 2 - (intOf i).toNat)
  case atStart => exact ⟨0, by omega, rfl, Kep.refl _⟩
  case round =>
    obtain ⟨k, hk, rfl, K⟩ := hrel
    by_cases hlt : k < 2
    · obtain ⟨v, hv, hn⟩ := HV.out wr k K.out hlt
      have HD : Hid (Calls Try.prog 12 #[v, .int .i64 a0, .int .i64 a1] wr fun e w' => e = .returned (.tuple #[]) ∧ w' = wr) := drop_none a0 a1 hn
      have HC : Hid (Calls Try.prog 13 #[v, .int .i64 a1] wr fun e w' => e = .returned (.tuple #[]) ∧ w' = wr) := clear_none a1 hn
      have HM : Hid (Calls Try.prog 10 #[v, .int .i64 a0, .int .i64 a1] wr fun e w' => e = .returned (.bool false) ∧ w' = wr) := mark_none a0 a1 hn
      have k0 : kindL [] [] a1 = [] := by simp [kindL]
      have HH : Hid (Calls Try.prog 14 #[v, .int .i64 a0, .int .i64 a1] wr fun e w' => e = .returned (.bool false) ∧ w' = wr) := by
        have := mhas_any a0 a1 hn.st
        rw [k0] at this
        simpa [bears, Hid] using this
      have HT : Hid (Calls Try.prog 15 #[v, .int .i64 a0] wr fun e w' => e = .returned (.bool false) ∧ w' = wr) := by
        have := mwatched_any a0 hn.st
        simpa [bears, Hid] using this
      have HL : Hid (Calls Try.prog 17 #[v, .int .i64 a1] wr fun e w' => ∃ (x : Option Addr) (cap : Nat), e = .returned (.slice x 0 cap) ∧ Kep wr w') := by
        have := mlist_any a1 hn.st (by rw [k0]; simp)
        rw [k0] at this
        refine this.mono ?_
        rintro e w' ⟨x, cap, rfl, _, K'⟩
        exact ⟨x, cap, rfl, K'⟩
      have hlt' : (k : Int) < 2 := by omega
      clear hn k0
      go_wp2_with (first
        | (go_at_call 12; refine HD.out.mono ?_; rintro e w0 ⟨rfl, hq0⟩; rw [hq0]; clear hq0 w0)
        | (go_at_call 13; refine HC.out.mono ?_; rintro e w0 ⟨rfl, hq0⟩; rw [hq0]; clear hq0 w0)
        | (go_at_call 10; refine HM.out.mono ?_; rintro e w0 ⟨rfl, hq0⟩; rw [hq0]; clear hq0 w0)
        | (go_at_call 14; refine HH.out.mono ?_; rintro e w0 ⟨rfl, hq0⟩; rw [hq0]; clear hq0 w0)
        | (go_at_call 15; refine HT.out.mono ?_; rintro e w0 ⟨rfl, hq0⟩; rw [hq0]; clear hq0 w0)
        | (go_at_call 17; refine HL.out.mono ?_; rintro e w9 ⟨x, cap, rfl, KL⟩))
      go_roundw
      case rel => exact ⟨k + 1, by omega, by go_num, kep_trans K.out KL⟩
      case measure => simp [intOf]; omega
    · obtain rfl : k = 2 := by omega
      go_wp2_with (go_at_call 19; refine (HW.out _).mono ?_; rintro e w4 ⟨rfl, KW⟩)
      go_ret
      exact ⟨rfl, kep_trans (kep_trans hK.out K.out) KW⟩

set_option maxRecDepth 100000 in
theorem lifted (os : Os) (started : os.Started) (H : Type) (enc : TypeId × Value → H) :
    ReturnsInHanded {} Try.checked os 6 .any (Rows.marksNoneSpec.pre6 enc Try.prog Try.f6 Rows.marksNoneRow.domain false) (Rows.marksNoneSpec.post enc Try.prog Try.f6 false true false false) := by
  refine returnsInHanded_of_change (C := Try.checked) own started (by kernel_rfl) Try.func6
    (ChangeSpec.witness6 (enc := enc) (C := Try.checked) false ⟨#[], #[.int .i64 0, .int .i64 0], []⟩ 8 (by kernel_rfl) (by kernel_rfl) (by kernel_rfl) (by kernel_rfl)) ?_
  intro W base args ds gs before hval0 hW hcnd _
  have hval : ∀ (j : Nat) t v, Try.f6.params[j]? = some t → args[j]? = some v → Value.okWide Try.prog W .any base t v := hval0
  have hW' := hW
  obtain ⟨p, q, hA0, hV, rfl, hfz, hnd⟩ := hW
  have hA : DataW.TrodAll enc Try.prog W 0 (fun _ => true) true Try.f6.params.toList args.toList ds p := hA0
  rw [Try.params6] at hA hval
  obtain ⟨v0, vs0, d0, ds0, p0, q0, hargs, rfl, rfl, h0, r0⟩ := trodAll_cons hA
  obtain ⟨v1, vs1, d1, ds1, p1, q1, rfl, rfl, rfl, h1, r1⟩ := trodAll_cons r0
  obtain ⟨rfl, rfl, rfl⟩ := trodAll_nil r1
  obtain rfl : args = #[v0, v1] := by cases args; simp_all
  obtain ⟨rfl, rfl⟩ := trodVars_none hV
  have k0 := h0
  have lt0 : ∀ x ∈ p0, x.block < W.heap.size := by obtain ⟨m, hm⟩ := k0; exact DataW.trod_lt m _ _ _ hm
  obtain ⟨a0, rfl, rfl, rfl, w0⟩ := open_int Try.underlying3 (hval 0 3 v0 rfl rfl) h0
  have k1 := h1
  have lt1 : ∀ x ∈ p1, x.block < W.heap.size := by obtain ⟨m, hm⟩ := k1; exact DataW.trod_lt m _ _ _ hm
  obtain ⟨a1, rfl, rfl, rfl, w1⟩ := open_int Try.underlying3 (hval 1 3 v1 rfl rfl) h1
  clear hA0 hval0
  refine (walk a0 w0 a1 w1 W ).mono fun e W' ⟨he, bel0⟩ => ?_
  have bel : Below W.heap.size W W' := bel0
  subst he
  exact ⟨_, rfl, _, _, _, [], _, [], hW', trodAll_mk1 (shut_bool Try.underlying4 _), (trodAll_cons_mk (Below.trod laidOut (by kernel_rfl) (of_decide_eq_true (by kernel_rfl)) k0 bel lt0) (trodAll_cons_mk (Below.trod laidOut (by kernel_rfl) (of_decide_eq_true (by kernel_rfl)) k1 bel lt1) trodAll_mk0)), rfl, bel.frame _, fun h => by cases h⟩

theorem over : Rows.marksNoneRow.holds Try.pinned (OpenSpec.ofChange Rows.marksNoneSpec) :=
  OpenClaim.holds_of_wide 6 Try.f6 rfl rfl rfl rfl rfl rfl rfl ⟨rfl, rfl, rfl, rfl, rfl⟩ rfl rfl rfl rfl rfl (by kernel_rfl) Try.func6 (by kernel_rfl)
    (of_decide_eq_true (by kernel_rfl)) (by unfold Func.isWrapper; first | (rw [if_pos (by decide +kernel)]; kernel_rfl) | (rw [if_neg (by decide +kernel)]; exact ⟨rfl, rfl⟩))
    (fun os started H enc _ => lifted os started H enc)
end Go.Proofs.Ytncfkbnjiacblaa.marksNone
namespace Go.Proofs.Ytncfkbnjiacblaa

theorem marksNone_holds : Rows.MarksNoneSaid := marksNone.over
#print axioms marksNone_holds
end Go.Proofs.Ytncfkbnjiacblaa
