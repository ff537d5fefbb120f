/- For every step, the law RamNone returns true: a memory that is not there, and one that no call made, have no byte, no copy and no window. -/
import Derived.Test.YtiegihaagolmdaaRows
import Derived.Test.YtiegihaagolmdaaMnone
import Derived.WalkKit
import Derived.ProofKit
import Derived.OpenShut
import Derived.ShutString
import Derived.ChangeOld
import Derived.Below
import Derived.Lib.SmallJoins
namespace Go.Proofs.Ytiegihaagolmdaa.ramNone
open Go.ChangeShapes Go.WideShapes Go.ChangeAt Go.RowKit
set_option linter.unusedVariables false

theorem own : ownKnob Try.prog.godebug = none := by kernel_rfl
theorem laidOut : laidOutB Try.prog = true := by kernel_rfl

set_option maxHeartbeats 4000000 in
set_option maxRecDepth 100000 in
theorem walk (kd0 a0 z0 : Int) (x0 : Option Addr) (l0 c0 : Nat) (m0 : Int) (b0 : List Int) (w : World) (w0 : IsStep w kd0 a0 z0 x0 l0 c0 m0 b0) :
    Calls Try.prog 5 #[.agg (stepV kd0 a0 z0 x0 l0 c0 m0)] w fun e w' => e = .returned (.bool true) ∧ Kep w w' := by
  have hN : Hid (∀ w, Calls Try.prog 15 #[.int .i64 1] w fun e w' => ∃ p : Nat, e = .returned (.tuple #[.pointer (some ⟨p, 0, none⟩), .int .i64 0]) ∧ Own w w' (.pointer (some ⟨p, 0, none⟩)) w.heap.size 1 (List.replicate 64 0)) := fun w => new_any w 1 (by decide) (by decide)
  have hS : Hid (∀ w v R, Ram w v R (List.range 1) → Calls Try.prog 16 #[v] w fun e w' => e = .returned (.int .u32 64) ∧ w' = w) := fun w v R h => size_any w v R (List.range 1) h (by decide)
  have w0' : Hid (IsStep w kd0 a0 z0 x0 l0 c0 m0 b0) := w0
  clear w0
  go_enter Try.func5, Try.ntmps5
  go_wp2_with fail
  refine (hN.out _).mono ?_
  rintro e w1 ⟨p0, rfl, O⟩
  have O' : Hid (Own (w.alloc (.cells (stepV kd0 a0 z0 x0 l0 c0 m0) 31)) w1 (.pointer (some ⟨p0, 0, none⟩)) (w.heap.size + 1) 1 (List.replicate 64 0)) := by have h := O; rw [World.size_alloc] at h; exact h
  have hsz : w.heap.size + 1 < w1.heap.size := O'.out.row.lt (by simp)
  have K1 : Hid (Kep (w.alloc (.cells (stepV kd0 a0 z0 x0 l0 c0 m0) 31)) w1) := O.kep
  have hsz2 : w.heap.size + 4 ≤ w1.heap.size := by have := O'.out.sz; simp at this; omega
  clear O hN
  go_wp2_with (go_at_call 16; refine (hS.out _ _ _ O'.out.ram).mono ?_; rintro e w3 ⟨rfl, rfl⟩)
  rename World => w2
  obtain ⟨L, hL⟩ : ∃ L, L = w2.heap.size + 1 := ⟨_, rfl⟩
  go_loopw [7] (fun i wr => ∃ k : Nat, (k : Int) ≤ 2 ∧ i = .int .i64 k ∧ Hid (Put [w.heap.size + 1, w.heap.size + 2] ((w2.alloc (.cells #[.slice none 0 0] 48)).alloc (.cells #[.pointer none, .pointer (some ⟨w2.heap.size, 0, none⟩)] 23)) wr)) (fun i _ => 2 - (intOf i).toNat)
  case atStart => exact ⟨0, by omega, rfl, Put.refl _⟩
  case round =>
    obtain ⟨k, hk, rfl, P⟩ := hrel
    have s1 : w2.heap.size + 2 ≤ wr.heap.size := by have := P.out.size; simp at this; omega
    have bp : wr.heap[w2.heap.size]? = some (.cells #[.slice none 0 0] 48 (0, 0)) := P.out.keeps ((hsk _ _ _ (by simp)).trans (hat _ _ _ rfl)) (by simp; omega)
    have bL : wr.heap[w2.heap.size + 1]? = some (.cells #[.pointer none, .pointer (some ⟨w2.heap.size, 0, none⟩)] 23 (0, 0)) := P.out.keeps (hat _ _ _ (by simp)) (by simp; omega)
    have bs : wr.heap[w.heap.size]? = some (.cells (stepV kd0 a0 z0 x0 l0 c0 m0) 31 (0, 0)) := P.out.keeps ((hsk _ _ _ (by simp; omega)).trans ((hsk _ _ _ (by omega)).trans (K1.out.block (hat _ _ _ rfl)))) (by simp)
    have KW : Hid (Kep w wr) := (kep_trans (kep_trans ((Kep.refl w).alloc _) K1.out) (((Kep.refl _).alloc _).alloc _)).put P.out (by simp)
    by_cases hlt : k < 2
    · have hlt' : (k : Int) < 2 := by omega
      obtain ⟨v, hv, T⟩ : ∃ v : Value, wr.cell? ⟨w2.heap.size + 1, k, none⟩ = some v ∧ Hid (No wr v (w.heap.size + 1) (w.heap.size + 2)) := by
        rcases (by omega : k = 0 ∨ k = 1) with rfl | rfl
        · exact ⟨.pointer none, by rw [cell_of_block bL]; rfl, no_nil (by omega) (by omega) (by omega)⟩
        · exact ⟨.pointer (some ⟨w2.heap.size, 0, none⟩), by rw [cell_of_block bL]; rfl, no_zero (by omega) (by omega) (by omega) bp (by omega) (by omega)⟩
      have HW : Hid (∀ o x l c, Calls Try.prog 19 #[v, .slice x l c] (wr.alloc o) fun e w' => e = .returned (.tuple #[.pointer none, .int .i64 1]) ∧ w' = wr.alloc o) := fun o x l c => window_no _ v _ (T.out.kep ((Kep.refl _).alloc o)).ram x l c
      have lL : w2.heap.size + 1 < wr.heap.size := by omega
      have lw : w.heap.size < wr.heap.size := by omega
      clear bp bL
      go_wp2_with fail
      refine (HW.out _ _ _ _).mono ?_
      rintro e w4 ⟨rfl, hw4⟩
      have T4 : Hid (No w4 v (w.heap.size + 1) (w.heap.size + 2)) := by rw [hw4]; exact T.out.kep ((Kep.refl _).alloc _)
      have K4 : Hid (Kep wr w4) := by rw [hw4]; exact (Kep.refl _).alloc _
      have nL : w2.heap.size + 1 ≠ w.heap.size + 1 := by omega
      have nL2 : w2.heap.size + 1 ≠ w.heap.size + 2 := by omega
      have e0 : ∀ i : NW w4 v (w.heap.size + 1) (w.heap.size + 2), i.val.cell? ⟨w2.heap.size + 1, k, none⟩ = some v := fun i => (i.cell (K4.out.lt lL) nL nL2).trans ((K4.out.cell lL).trans hv)
      have q0 : ∀ i : NW w4 v (w.heap.size + 1) (w.heap.size + 2), i.val.cell? ⟨w.heap.size, 0, none⟩ = some (.int .i64 kd0) := fun i => (i.cell (K4.out.lt lw) (by omega) (by omega)).trans ((K4.out.cell lw).trans (by rw [cell_of_block bs]; rfl))
      have q1 : ∀ i : NW w4 v (w.heap.size + 1) (w.heap.size + 2), i.val.cell? ⟨w.heap.size, 1, none⟩ = some (.int .u32 a0) := fun i => (i.cell (K4.out.lt lw) (by omega) (by omega)).trans ((K4.out.cell lw).trans (by rw [cell_of_block bs]; rfl))
      have q2 : ∀ i : NW w4 v (w.heap.size + 1) (w.heap.size + 2), i.val.cell? ⟨w.heap.size, 2, none⟩ = some (.int .u32 z0) := fun i => (i.cell (K4.out.lt lw) (by omega) (by omega)).trans ((K4.out.cell lw).trans (by rw [cell_of_block bs]; rfl))
      have q3 : ∀ i : NW w4 v (w.heap.size + 1) (w.heap.size + 2), i.val.cell? ⟨w.heap.size, 3, none⟩ = some (.slice x0 l0 c0) := fun i => (i.cell (K4.out.lt lw) (by omega) (by omega)).trans ((K4.out.cell lw).trans (by rw [cell_of_block bs]; rfl))
      have q4 : ∀ i : NW w4 v (w.heap.size + 1) (w.heap.size + 2), i.val.cell? ⟨w.heap.size, 4, none⟩ = some (.int .i64 m0) := fun i => (i.cell (K4.out.lt lw) (by omega) (by omega)).trans ((K4.out.cell lw).trans (by rw [cell_of_block bs]; rfl))
      have hne : Nonempty (NW w4 v (w.heap.size + 1) (w.heap.size + 2)) := ⟨⟨_, T4.out, Put.refl _⟩⟩
      have HT : Hid (∀ i : NW w4 v (w.heap.size + 1) (w.heap.size + 2), Calls Try.prog 14 #[v, .agg #[.slice none 0 0], .agg #[.int .i64 kd0, .int .u32 a0, .int .u32 z0, .slice x0 l0 c0, .int .i64 m0]] i.val fun e w' => e = .returned (.bool true) ∧ ∃ j : NW w4 v (w.heap.size + 1) (w.heap.size + 2), w' = j.val) := fun i => by
        refine (step_no i.no (KW.out.put ((Put.of_kep K4.out).trans i.put) (by simp)) (by omega) (by omega) w0'.out).mono ?_
        rintro e w' ⟨rfl, h1, h2⟩
        exact ⟨rfl, i.on h1 h2⟩
      have HZ : Hid (∀ i : NW w4 v (w.heap.size + 1) (w.heap.size + 2), Calls Try.prog 16 #[v] i.val fun e w' => e = .returned (.int .u32 0) ∧ ∃ j : NW w4 v (w.heap.size + 1) (w.heap.size + 2), w' = j.val) := fun i => (size_any i.val v _ [] i.no.ram (by decide)).mono fun e w' h => ⟨h.1, i, h.2⟩
      have HC : Hid (∀ i : NW w4 v (w.heap.size + 1) (w.heap.size + 2), Calls Try.prog 10 #[v] i.val fun e w' => e = .returned (.pointer none) ∧ ∃ j : NW w4 v (w.heap.size + 1) (w.heap.size + 2), w' = j.val) := fun i => (copy_no i.val v _ i.no.ram).mono fun e w' h => ⟨h.1, i, h.2⟩
      clear hw4 HW hv bs T
      go_wp2_with fail
      refine region_nw (R := w.heap.size + 1) (Rb := w.heap.size + 2) (by kernel_rfl) (by kernel_rfl) T4.out ?_
      repeat (go_big_quiet_step ((first
        | (go_at_call 14; exact HT.out _)
        | (go_at_call 16; exact HZ.out _)
        | (go_at_call 10; exact HC.out _))))
      refine wpQuiet_nil ?_
      rintro _ ⟨i, rfl⟩
      have P5 : Hid (Put [w.heap.size + 1, w.heap.size + 2] ((w2.alloc (.cells #[.slice none 0 0] 48)).alloc (.cells #[.pointer none, .pointer (some ⟨w2.heap.size, 0, none⟩)] 23)) i.val) := (P.out.trans (Put.of_kep K4.out)).trans i.put
      clear e0 q0 q1 q2 q3 q4 hne HT HZ HC
      go_wp2_with fail
      go_roundw
      case rel => exact ⟨k + 1, by omega, by go_num, P5⟩
      case measure => simp [intOf]; omega
    · obtain rfl : k = 2 := by omega
      go_wp2_with fail
      go_ret
      exact ⟨rfl, KW.out⟩

set_option maxRecDepth 100000 in
theorem lifted (os : Os) (started : os.Started) (H : Type) (enc : TypeId × Value → H) :
    ReturnsInHanded {} Try.checked os 5 .any (Rows.ramNoneSpec.pre6 enc Try.prog Try.f5 Rows.ramNoneRow.domain false) (Rows.ramNoneSpec.post enc Try.prog Try.f5 false true false false) := by
  refine returnsInHanded_of_change (C := Try.checked) own started (by kernel_rfl) Try.func5
    (ChangeSpec.witness6 (enc := enc) (C := Try.checked) false ⟨#[], #[.agg #[.int .i64 0, .int .u32 0, .int .u32 0, .slice none 0 0, .int .i64 0]], []⟩ 8 (by kernel_rfl) (by kernel_rfl) (by kernel_rfl) (by kernel_rfl)) ?_
  intro W base args ds gs before hval0 hW hcnd _
  have hval : ∀ (j : Nat) t v, Try.f5.params[j]? = some t → args[j]? = some v → Value.okWide Try.prog W .any base t v := hval0
  have hW' := hW
  obtain ⟨p, q, hA0, hV, rfl, hfz, hnd⟩ := hW
  have hA : DataW.TrodAll enc Try.prog W 0 (fun _ => true) true Try.f5.params.toList args.toList ds p := hA0
  rw [Try.params5] at hA hval
  obtain ⟨v0, vs0, d0, ds0, p0, q0, hargs, rfl, rfl, h0, r0⟩ := trodAll_cons hA
  obtain ⟨rfl, rfl, rfl⟩ := trodAll_nil r0
  obtain rfl : args = #[v0] := by cases args; simp_all
  obtain ⟨rfl, rfl⟩ := trodVars_none hV
  have k0 := h0
  have lt0 : ∀ x ∈ p0, x.block < W.heap.size := by obtain ⟨m, hm⟩ := k0; exact DataW.trod_lt m _ _ _ hm
  obtain ⟨kd0, a0, z0, x0, l0, c0, m0, b0, rfl, w0⟩ := open_step (hval 0 31 v0 rfl rfl) h0
  clear hA0 hval0
  refine (walk kd0 a0 z0 x0 l0 c0 m0 b0 W w0).mono fun e W' ⟨he, bel0⟩ => ?_
  have bel : Below W.heap.size W W' := bel0
  subst he
  exact ⟨_, rfl, _, _, _, [], _, [], hW', trodAll_mk1 (shut_bool Try.underlying4 _), (trodAll_cons_mk (Below.trod laidOut (by kernel_rfl) (of_decide_eq_true (by kernel_rfl)) k0 bel lt0) trodAll_mk0), rfl, bel.frame _, fun h => by cases h⟩

theorem over : Rows.ramNoneRow.holds Try.pinned (OpenSpec.ofChange Rows.ramNoneSpec) :=
  OpenClaim.holds_of_wide 5 Try.f5 rfl rfl rfl rfl rfl rfl rfl ⟨rfl, rfl, rfl, rfl, rfl⟩ rfl rfl rfl rfl rfl (by kernel_rfl) Try.func5 (by kernel_rfl)
    (of_decide_eq_true (by kernel_rfl)) (by unfold Func.isWrapper; first | (rw [if_pos (by decide +kernel)]; kernel_rfl) | (rw [if_neg (by decide +kernel)]; exact ⟨rfl, rfl⟩))
    (fun os started H enc _ => lifted os started H enc)
end Go.Proofs.Ytiegihaagolmdaa.ramNone
namespace Go.Proofs.Ytiegihaagolmdaa

theorem ramNone_holds : Rows.RamNoneSaid := ramNone.over
#print axioms ramNone_holds
end Go.Proofs.Ytiegihaagolmdaa
