/- For every number, the law KindAsks returns true: the code's table says of it whether it turns flags, fails and is silent as the document does. -/
import Derived.Test.YtppcfhaiogjfgaaRows
import Derived.Test.YtppcfhaiogjfgaaWord
import Derived.Test.YtppcfhaiogjfgaaKway
import Derived.Test.YtppcfhaiogjfgaaKref
import Derived.Test.YtppcfhaiogjfgaaKreg
import Derived.WalkKit
import Derived.ProofKit
import Derived.OpenShut
import Derived.ShutString
import Derived.ChangeOld
import Derived.Below
import Derived.Lib.SmallJoins
namespace Go.Proofs.Ytppcfhaiogjfgaa.kindAsks
open Go.ChangeShapes Go.WideShapes Go.ChangeAt Go.RowKit
set_option linter.unusedVariables false

theorem own : ownKnob Try.prog.godebug = none := by kernel_rfl
theorem laidOut : laidOutB Try.prog = true := by kernel_rfl

theorem same (op : Int) (h0 : 0 ≤ op) (h1 : op < 256) : (rfRow op).t = gT (tabF op) ∧ (rfRow op).f = gF (tabF op) ∧ (rfRow op).s = gS (tabF op) := by
  have := byte_all (p := fun op => decide ((rfRow op).t = gT (tabF op) ∧ (rfRow op).f = gF (tabF op) ∧ (rfRow op).s = gS (tabF op))) (by decide +kernel) op h0 h1
  simpa using this
theorem c0 : gC (tabF 0) = 1 := by decide +kernel

set_option maxHeartbeats 4000000 in
theorem walk (a0 : Int) (w0 : (Lit.int .u8 a0).wf = true) (w : World)  :
    Calls Try.prog 4 #[.int .u8 a0] w fun e w' => e = .returned (.bool true) ∧ Kep w w' := by
  have hw := word8 w0
  obtain ⟨e1, e2, e3⟩ := same a0 hw.1 hw.2
  have hR : Hid (∀ w, Calls Try.prog 7 #[.int .u8 a0] w fun e w' => e = .returned (.agg (rfA (rfRow a0) (rfE (rfRow a0)))) ∧ Kep w w') := fun w => refOf3_any a0 hw.1 hw.2 w
  unfold rfA at hR
  rw [e1, e2, e3] at hR
  have hA : Hid (∀ w1 w2 p o kb, Tb w1 w2 p o kb → Calls Try.prog 10 #[.pointer (some ⟨p, 0, none⟩), .int .u8 a0] w2 fun e w' => e = .returned (.bool (gT (tabF a0))) ∧ Tb w1 w' p o kb ∧ Stp o kb w2 w') := fun w1 w2 p o kb h => turns_any a0 hw.1 hw.2 w1 w2 p o kb h
  have hB : Hid (∀ w1 w2 p o kb, Tb w1 w2 p o kb → Calls Try.prog 11 #[.pointer (some ⟨p, 0, none⟩), .int .u8 a0] w2 fun e w' => e = .returned (.bool (gF (tabF a0))) ∧ Tb w1 w' p o kb ∧ Stp o kb w2 w') := fun w1 w2 p o kb h => fails_any a0 hw.1 hw.2 w1 w2 p o kb h
  have hC : Hid (∀ w1 w2 p o kb, Tb w1 w2 p o kb → Calls Try.prog 12 #[.pointer (some ⟨p, 0, none⟩), .int .u8 a0] w2 fun e w' => e = .returned (.bool (gS (tabF a0))) ∧ Tb w1 w' p o kb ∧ Stp o kb w2 w') := fun w1 w2 p o kb h => silent_any a0 hw.1 hw.2 w1 w2 p o kb h
  have h0 : Hid (∀ w1 w2 p o kb, Tb w1 w2 p o kb → Calls Try.prog 8 #[.pointer (some ⟨p, 0, none⟩), .int .u8 0] w2 fun e w' => e = .returned (.int .i64 1) ∧ Tb w1 w' p o kb ∧ Stp o kb w2 w') := fun w1 w2 p o kb h => c0 ▸ class_any 0 (by decide) (by decide) w1 w2 p o kb h
  clear e1 e2 e3
  generalize gT (tabF a0) = t at hR hA
  generalize gF (tabF a0) = f at hR hB
  generalize gS (tabF a0) = s at hR hC
  generalize rfE (rfRow a0) = E at hR
  generalize rfRow a0 = X at hR
  obtain ⟨C, ra, rb, wa, lk, sd, st, t', f', s'⟩ := X
  go_enter Try.func4, Try.ntmps4
  go_wp2_with fail
  refine (new_call _).mono ?_
  rintro e w1 ⟨p, o, kb, rfl, T1⟩
  go_wp2_with fail
  refine (hR.out _).mono ?_
  rintro e w2 ⟨rfl, g2⟩
  have T2 : Hid (∀ o', Tb w (w2.alloc o') p o kb) := fun o' => T1.out.kp (g2.alloc _)
  have hlt : o < w2.heap.size ∧ kb < w2.heap.size := (T1.out.kp g2).asked.lt
  clear g2 T1
  go_wp2_with fail
  have T3 := T2.out (.cells #[.int .i64 C, .bool ra, .bool rb, .bool wa, .bool lk, .bool sd, .bool st, .bool t, .bool f, .bool s, .bool E] 25)
  have l0 : ∀ i : TW w (w2.alloc (.cells #[.int .i64 C, .bool ra, .bool rb, .bool wa, .bool lk, .bool sd, .bool st, .bool t, .bool f, .bool s, .bool E] 25)) p o kb, i.val.cell? ⟨w2.heap.size, 7, none⟩ = some (.bool t) := fun i => (i.cell (by simp) (by omega) (by omega)).trans (cell_of_block (heap_alloc_new _ _))
  have l1 : ∀ i : TW w (w2.alloc (.cells #[.int .i64 C, .bool ra, .bool rb, .bool wa, .bool lk, .bool sd, .bool st, .bool t, .bool f, .bool s, .bool E] 25)) p o kb, i.val.cell? ⟨w2.heap.size, 8, none⟩ = some (.bool f) := fun i => (i.cell (by simp) (by omega) (by omega)).trans (cell_of_block (heap_alloc_new _ _))
  have l2 : ∀ i : TW w (w2.alloc (.cells #[.int .i64 C, .bool ra, .bool rb, .bool wa, .bool lk, .bool sd, .bool st, .bool t, .bool f, .bool s, .bool E] 25)) p o kb, i.val.cell? ⟨w2.heap.size, 9, none⟩ = some (.bool s) := fun i => (i.cell (by simp) (by omega) (by omega)).trans (cell_of_block (heap_alloc_new _ _))
  have hne : Nonempty (TW w (w2.alloc (.cells #[.int .i64 C, .bool ra, .bool rb, .bool wa, .bool lk, .bool sd, .bool st, .bool t, .bool f, .bool s, .bool E] 25)) p o kb) := ⟨⟨_, T3, Stp.refl _⟩⟩
  refine region_tw (by kernel_rfl) (by kernel_rfl) T3 ?_
  repeat (go_big_quiet_step ((first
    | (go_at_call 10; refine (hA.out _ _ _ _ _ (TW.tb _)).mono ?_; rintro e w6 ⟨rfl, T6, S6⟩; exact ⟨rfl, ⟨_, T6, Stp.trans (TW.st _) S6⟩, rfl⟩)
    | (go_at_call 11; refine (hB.out _ _ _ _ _ (TW.tb _)).mono ?_; rintro e w6 ⟨rfl, T6, S6⟩; exact ⟨rfl, ⟨_, T6, Stp.trans (TW.st _) S6⟩, rfl⟩)
    | (go_at_call 12; refine (hC.out _ _ _ _ _ (TW.tb _)).mono ?_; rintro e w6 ⟨rfl, T6, S6⟩; exact ⟨rfl, ⟨_, T6, Stp.trans (TW.st _) S6⟩, rfl⟩)
    | (go_at_call 8; refine (h0.out _ _ _ _ _ (TW.tb _)).mono ?_; rintro e w6 ⟨rfl, T6, S6⟩; exact ⟨rfl, ⟨_, T6, Stp.trans (TW.st _) S6⟩, rfl⟩))))
  refine wpQuiet_nil ?_
  rintro _ ⟨i, rfl⟩
  have G3 : Hid (Kep w i.val) := i.tb.kep
  go_wp2_with fail
  go_ret
  exact ⟨rfl, G3⟩

set_option maxRecDepth 100000 in
theorem lifted (os : Os) (started : os.Started) (H : Type) (enc : TypeId × Value → H) :
    ReturnsInHanded {} Try.checked os 4 .any (Rows.kindAsksSpec.pre6 enc Try.prog Try.f4 Rows.kindAsksRow.domain false) (Rows.kindAsksSpec.post enc Try.prog Try.f4 false true false false) := by
  refine returnsInHanded_of_change (C := Try.checked) own started (by kernel_rfl) Try.func4
    (ChangeSpec.witness6 (enc := enc) (C := Try.checked) false ⟨#[], #[.int .u8 0], []⟩ 8 (by kernel_rfl) (by kernel_rfl) (by kernel_rfl) (by kernel_rfl)) ?_
  intro W base args ds gs before hval0 hW hcnd _
  have hval : ∀ (j : Nat) t v, Try.f4.params[j]? = some t → args[j]? = some v → Value.okWide Try.prog W .any base t v := hval0
  have hW' := hW
  obtain ⟨p, q, hA0, hV, rfl, hfz, hnd⟩ := hW
  have hA : DataW.TrodAll enc Try.prog W 0 (fun _ => true) true Try.f4.params.toList args.toList ds p := hA0
  rw [Try.params4] at hA hval
  obtain ⟨v0, vs0, d0, ds0, p0, q0, hargs, rfl, rfl, h0, r0⟩ := trodAll_cons hA
  obtain ⟨rfl, rfl, rfl⟩ := trodAll_nil r0
  obtain rfl : args = #[v0] := by cases args; simp_all
  obtain ⟨rfl, rfl⟩ := trodVars_none hV
  have k0 := h0
  have lt0 : ∀ x ∈ p0, x.block < W.heap.size := by obtain ⟨m, hm⟩ := k0; exact DataW.trod_lt m _ _ _ hm
  obtain ⟨a0, rfl, rfl, rfl, w0⟩ := open_int Try.underlying5 (hval 0 5 v0 rfl rfl) h0
  clear hA0 hval0
  refine (walk a0 w0 W ).mono fun e W' ⟨he, bel0⟩ => ?_
  have bel : Below W.heap.size W W' := bel0
  subst he
  exact ⟨_, rfl, _, _, _, [], _, [], hW', trodAll_mk1 (shut_bool Try.underlying4 _), (trodAll_cons_mk (Below.trod laidOut (by kernel_rfl) (of_decide_eq_true (by kernel_rfl)) k0 bel lt0) trodAll_mk0), rfl, bel.frame _, fun h => by cases h⟩

theorem over : Rows.kindAsksRow.holds Try.pinned (OpenSpec.ofChange Rows.kindAsksSpec) :=
  OpenClaim.holds_of_wide 4 Try.f4 rfl rfl rfl rfl rfl rfl rfl ⟨rfl, rfl, rfl, rfl, rfl⟩ rfl rfl rfl rfl rfl (by kernel_rfl) Try.func4 (by kernel_rfl)
    (of_decide_eq_true (by kernel_rfl)) (by unfold Func.isWrapper; first | (rw [if_pos (by decide +kernel)]; kernel_rfl) | (rw [if_neg (by decide +kernel)]; exact ⟨rfl, rfl⟩))
    (fun os started H enc _ => lifted os started H enc)
end Go.Proofs.Ytppcfhaiogjfgaa.kindAsks
namespace Go.Proofs.Ytppcfhaiogjfgaa

theorem kindAsks_holds : Rows.KindAsksSaid := kindAsks.over
#print axioms kindAsks_holds
end Go.Proofs.Ytppcfhaiogjfgaa
