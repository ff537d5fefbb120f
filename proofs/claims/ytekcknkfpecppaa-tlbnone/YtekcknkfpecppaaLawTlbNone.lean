/- For every row of steps, the law TlbNone returns true: a TLB that is not there, and one that no call made, remember and count nothing. -/
import Derived.Test.YtekcknkfpecppaaRows
import Derived.Test.YtekcknkfpecppaaUopen
import Derived.WalkKit
import Derived.ProofKit
import Derived.OpenShut
import Derived.ShutString
import Derived.ChangeOld
import Derived.Below
import Derived.Lib.SmallJoins
namespace Go.Proofs.Ytekcknkfpecppaa.tlbNone
open Go.ChangeShapes Go.WideShapes Go.ChangeAt Go.RowKit
set_option linter.unusedVariables false

theorem own : ownKnob Try.prog.godebug = none := by kernel_rfl
theorem laidOut : laidOutB Try.prog = true := by kernel_rfl

set_option maxHeartbeats 4000000 in
set_option maxRecDepth 100000 in
theorem walk (x0 : Option Addr) (len0 cap0 : Nat) (z0 : List St) (w : World) (w0 : StRow w x0 len0 cap0 z0) :
    Calls Try.prog 5 #[.slice x0 len0 cap0] w fun e w' => e = .returned (.bool true) ∧ Kep w w' := by
  have hI : Hid (StRow w x0 len0 cap0 z0) := w0
  have hlen : (len0 : Int) ≤ 9223372036854775807 := by
    obtain ⟨h1, _, h3⟩ := w0
    rcases h3 with rfl | ⟨_, _, _, h4, h5, _⟩
    · simp at h1; omega
    · unfold maxLen at h5; omega
  have hM : Hid (∀ w, Calls Try.prog 8 #[.int .i64 3] w _) := fun w => made_own w 3 (by decide) (by decide)
  clear w0
  go_enter Try.func5, Try.ntmps5
  go_wp2_with fail
  generalize hW : (w.alloc (.cells #[.slice none 0 0, .int .i64 0, .int .i64 0] 49)).alloc (.cells #[.pointer none, .pointer (some ⟨w.heap.size, 0, none⟩)] 23) = W
  have K0 : Hid (Kep w W) := by unfold Hid; rw [← hW]; exact ((Kep.refl _).alloc _).alloc _
  have B1 : W.heap[w.heap.size]? = some (.cells #[.slice none 0 0, .int .i64 0, .int .i64 0] 49) := by rw [← hW]; exact (hsk _ _ _ (by simp)).trans (hat _ _ _ rfl)
  have B2 : W.heap[w.heap.size + 1]? = some (.cells #[.pointer none, .pointer (some ⟨w.heap.size, 0, none⟩)] 23) := by rw [← hW]; exact hat _ _ _ (by simp)
  have HV : Hid (∀ k : Nat, k < 2 → ∃ v, ∀ wr, Kep W wr → wr.cell? ⟨w.heap.size + 1, k, none⟩ = some v ∧ NoT wr v) := by
    intro k hk
    match k, hk with
    | 0, _ => exact ⟨.pointer none, fun wr h => ⟨cell_of_block (h.block B2), .inl rfl⟩⟩
    | 1, _ => exact ⟨.pointer (some ⟨w.heap.size, 0, none⟩), fun wr h => ⟨cell_of_block (h.block B2), .inr ⟨_, rfl, cell_of_block (h.block B1)⟩⟩⟩
  clear hW B1 B2
  go_loopw [5] (fun i wr => ∃ k : Nat, (k : Int) ≤ 2 ∧ i = .int .i64 k ∧ Hid (Kep W wr)) (fun i _ => 2 - (intOf i).toNat)
  case atStart => exact ⟨0, by omega, rfl, Kep.refl _⟩
  case round =>
    obtain ⟨k, hk, rfl, KR⟩ := hrel
    by_cases hlt : k < 2
    · obtain ⟨v, hv⟩ := HV.out k hlt
      have hV : Hid (∀ wr, Kep W wr → wr.cell? ⟨w.heap.size + 1, k, none⟩ = some v ∧ NoT wr v) := hv
      have hlt' : (k : Int) < 2 := by omega
      clear hv HV
      go_wp2_with fail
      go_loopw [6] (fun i ws => ∃ j : Nat, (j : Int) ≤ len0 ∧ (j : Int) ≤ 20 ∧ i = .int .i64 j ∧ Hid (Kep W ws)) (fun i _ => 30 - (intOf i).toNat)
      case atStart => exact ⟨0, by omega, by omega, rfl, KR⟩
      case round =>
        obtain ⟨j, hj1, hj2, rfl, KS⟩ := hrel
        by_cases hend : (j : Int) < len0 ∧ (j : Int) < 20
        · obtain ⟨hl, h20⟩ := hend
          obtain ⟨b, off, ⟨kd, xp, xb, xf⟩, _, hp, hx, hcap0, lb, m0, m1, m2, m3⟩ := hI.out.at (k := j) (by omega)
          subst hx
          have hcap : (len0 : Int) ≤ cap0 := by omega
          simp only at m0 m1 m2 m3 hp
          have KWr : Kep w wr := kep_trans K0.out KS.out
          have x0 := (KWr.cell lb).trans m0
          have x1 := (KWr.cell lb).trans m1
          have x2 := (KWr.cell lb).trans m2
          have x3 := (KWr.cell lb).trans m3
          have hv := (hV.out _ KS.out).1
          have HD : Hid (Calls Try.prog 9 #[v, .agg #[.int .i64 kd, .int .u32 xp, .int .u32 xb, .int .i64 xf]] wr.drew fun e w' => e = .returned (.tuple #[]) ∧ w' = wr.drew.alloc (.cells #[.int .i64 kd, .int .u32 xp, .int .u32 xb, .int .i64 xf] 29)) := do_nox _ v (hV.out _ KS.out.drew).2 kd xp xb xf
          have HL : Hid (∀ ws, Kep W ws → Calls Try.prog 10 #[v, .int .u32 xp] ws fun e w' => e = .returned (.tuple #[.int .u32 0, .int .i64 0, .bool false]) ∧ w' = ws) := fun ws h => look_nox ws v (hV.out _ h).2 xp
          clear m0 m1 m2 m3 KWr hcap0
          go_wp2_with fail
          go_region_held3 (fun w' => w'.cell? ⟨w.heap.size + 1, k, none⟩ = some v ∧ w'.cell? ⟨b, off + j * 4, none⟩ = some (.int .i64 kd) ∧ w'.cell? ⟨b, off + j * 4 + 1, none⟩ = some (.int .u32 xp) ∧ w'.cell? ⟨b, off + j * 4 + 2, none⟩ = some (.int .u32 xb) ∧ w'.cell? ⟨b, off + j * 4 + 3, none⟩ = some (.int .i64 xf)) (refine ⟨?_, ?_, ?_, ?_, ?_⟩ <;> (repeat (first | assumption | (with_reducible refine ck_alloc ?_) | (with_reducible refine ck_drew ?_)))) (first
            | (go_at_call 9; refine HD.out.mono ?_; rintro e w3 ⟨rfl, rfl⟩))
          all_goals
            go_wp2_with fail
            go_region_held3 (fun w' => w'.cell? ⟨w.heap.size + 1, k, none⟩ = some v ∧ w'.cell? ⟨b, off + j * 4 + 1, none⟩ = some (.int .u32 xp)) (refine ⟨?_, ?_⟩ <;> (repeat (first | assumption | (with_reducible refine ck_alloc ?_) | (with_reducible refine ck_drew ?_)))) (first
              | (go_at_call 10; refine (HL.out _ ((KS.out.alloc _).drew.drew)).mono ?_; rintro e w4 ⟨rfl, rfl⟩))
            all_goals
              clear HL HD x0 x1 x2 x3 hv
              go_wp2_with fail
              go_roundw
              case rel => exact ⟨j + 1, by omega, by omega, by go_num, (KS.out.alloc _).drew.drew⟩
              case measure => simp [intOf]; omega
        · have hv := (hV.out _ KS.out).1
          have HC : Hid (Calls Try.prog 12 #[v] wr fun e w' => e = .returned (.tuple #[.int .i64 0, .int .i64 0]) ∧ w' = wr) := counts_no wr v (hV.out _ KS.out).2
          rcases (by omega : ¬ (j : Int) < len0 ∨ ((j : Int) < len0 ∧ ¬ (j : Int) < 20)) with hq | ⟨hq, hq'⟩
          all_goals
            clear hend
            go_wp2_with (go_at_call 12; refine HC.out.mono ?_; rintro e w4 ⟨rfl, rfl⟩)
            go_roundw
            case rel => exact ⟨k + 1, by omega, by go_num, KS⟩
            case measure => simp [intOf]; omega
    · obtain rfl : k = 2 := by omega
      go_wp2_with fail
      refine (hM.out _).mono ?_
      rintro e w5 ⟨n, p, R, rfl, _, _, k5, _⟩
      have K5 : Hid (Kep w w5) := kep_trans (kep_trans K0.out KR.out) k5
      clear k5
      go_wp2_with fail
      go_ret
      exact ⟨rfl, K5.out⟩

set_option maxRecDepth 100000 in
theorem lifted (os : Os) (started : os.Started) (H : Type) (enc : TypeId × Value → H) :
    ReturnsInHanded {} Try.checked os 5 .any (Rows.tlbNoneSpec.pre6 enc Try.prog Try.f5 Rows.tlbNoneRow.domain false) (Rows.tlbNoneSpec.post enc Try.prog Try.f5 false true false false) := by
  refine returnsInHanded_of_change (C := Try.checked) own started (by kernel_rfl) Try.func5
    (ChangeSpec.witness6 (enc := enc) (C := Try.checked) false ⟨#[], #[.slice none 0 0], []⟩ 8 (by kernel_rfl) (by kernel_rfl) (by kernel_rfl) (by kernel_rfl)) ?_
  intro W base args ds gs before hval0 hW hcnd _
  have hval : ∀ (j : Nat) t v, Try.f5.params[j]? = some t → args[j]? = some v → Value.okWide Try.prog W .any base t v := hval0
  have hW' := hW
  obtain ⟨p, q, hA0, hV, rfl, hfz, hnd⟩ := hW
  have hA : DataW.TrodAll enc Try.prog W 0 (fun _ => true) true Try.f5.params.toList args.toList ds p := hA0
  rw [Try.params5] at hA hval
  obtain ⟨v0, vs0, d0, ds0, p0, q0, hargs, rfl, rfl, h0, r0⟩ := trodAll_cons hA
  obtain ⟨rfl, rfl, rfl⟩ := trodAll_nil r0
  obtain rfl : args = #[v0] := by cases args; simp_all
  obtain ⟨rfl, rfl⟩ := trodVars_none hV
  have k0 := h0
  have lt0 : ∀ x ∈ p0, x.block < W.heap.size := by obtain ⟨m, hm⟩ := k0; exact DataW.trod_lt m _ _ _ hm
  obtain ⟨x0, len0, cap0, rfl⟩ := okWide_slice Try.underlying22 (hval 0 22 v0 rfl rfl)
  obtain ⟨z0, w0⟩ : ∃ zs, StRow W x0 len0 cap0 zs := by
    obtain ⟨fuel, hf⟩ := h0
    exact sts_of hf
  clear hA0 hval0
  refine (walk x0 len0 cap0 z0 W w0).mono fun e W' ⟨he, bel0⟩ => ?_
  have bel : Below W.heap.size W W' := bel0
  subst he
  exact ⟨_, rfl, _, _, _, [], _, [], hW', trodAll_mk1 (shut_bool Try.underlying4 _), (trodAll_cons_mk (Below.trod laidOut (by kernel_rfl) (of_decide_eq_true (by kernel_rfl)) k0 bel lt0) trodAll_mk0), rfl, bel.frame _, fun h => by cases h⟩

theorem over : Rows.tlbNoneRow.holds Try.pinned (OpenSpec.ofChange Rows.tlbNoneSpec) :=
  OpenClaim.holds_of_wide 5 Try.f5 rfl rfl rfl rfl rfl rfl rfl ⟨rfl, rfl, rfl, rfl, rfl⟩ rfl rfl rfl rfl rfl (by kernel_rfl) Try.func5 (by kernel_rfl)
    (of_decide_eq_true (by kernel_rfl)) (by unfold Func.isWrapper; first | (rw [if_pos (by decide +kernel)]; kernel_rfl) | (rw [if_neg (by decide +kernel)]; exact ⟨rfl, rfl⟩))
    (fun os started H enc _ => lifted os started H enc)
end Go.Proofs.Ytekcknkfpecppaa.tlbNone
namespace Go.Proofs.Ytekcknkfpecppaa

theorem tlbNone_holds : Rows.TlbNoneSaid := tlbNone.over
#print axioms tlbNone_holds
end Go.Proofs.Ytekcknkfpecppaa
