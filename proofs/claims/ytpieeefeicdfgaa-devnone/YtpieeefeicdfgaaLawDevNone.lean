/- For every row of steps, the law DevNone returns true: devices that are not there, and such as no call made, answer nothing. -/
import Derived.Test.YtpieeefeicdfgaaRows
import Derived.Test.YtpieeefeicdfgaaVopen
import Derived.Test.YtpieeefeicdfgaaVnone
import Derived.WalkKit
import Derived.ProofKit
import Derived.OpenShut
import Derived.ShutString
import Derived.ChangeOld
import Derived.Below
import Derived.Lib.SmallJoins
namespace Go.Proofs.Ytpieeefeicdfgaa.devNone
open Go.ChangeShapes Go.WideShapes Go.ChangeAt Go.RowKit
set_option linter.unusedVariables false
set_option linter.unusedSimpArgs false

theorem own : ownKnob Try.prog.godebug = none := by kernel_rfl
theorem laidOut : laidOutB Try.prog = true := by kernel_rfl

abbrev zdev : Array Value := #[.bool false, .slice none 0 0, .int .u32 0, .int .u32 0, .slice none 0 0, .slice none 0 0, .slice none 0 0, .int .u32 0, .int .u32 0, .int .u32 0, .int .u32 0, .int .u32 0, .int .u32 0]

set_option maxHeartbeats 4000000 in
set_option maxRecDepth 100000 in
theorem walk (x0 : Option Addr) (len0 cap0 : Nat) (z0 : List Stp) (w : World) (w0 : StpRow w x0 len0 cap0 z0) :
    Calls Try.prog 5 #[.slice x0 len0 cap0] w fun e w' => e = .returned (.bool true) ∧ Kep w w' := by
  have hI : Hid (StpRow w x0 len0 cap0 z0) := w0
  have hlen : (len0 : Int) ≤ cap0 := by have := w0.hle; omega
  have hcap := w0.hmax
  have hM : Hid (∀ w, Calls Try.prog 11 #[] w fun e w' => e = .returned (.bool true) ∧ Kep w w') := works11_any
  clear w0
  go_enter Try.func5, Try.ntmps5
  go_wp2_with fail
  generalize hW : (w.alloc (.cells zdev 65)).alloc (.cells #[.pointer none, .pointer (some ⟨w.heap.size, 0, none⟩)] 25) = W
  have K0 : Hid (Kep w W) := by unfold Hid; rw [← hW]; exact ((Kep.refl _).alloc _).alloc _
  have B1 : W.heap[w.heap.size]? = some (.cells zdev 65) := by rw [← hW]; exact (hsk _ _ _ (by simp)).trans (hat _ _ _ rfl)
  have B2 : W.heap[w.heap.size + 1]? = some (.cells #[.pointer none, .pointer (some ⟨w.heap.size, 0, none⟩)] 25) := by rw [← hW]; exact hat _ _ _ (by simp)
  have HV : Hid (∀ k : Nat, k < 2 → ∃ va, ∀ wr, Kep W wr → wr.cell? ⟨w.heap.size + 1, k, none⟩ = some (.pointer va) ∧ NoDev wr (.pointer va)) := by
    intro k hk
    match k, hk with
    | 0, _ => exact ⟨none, fun wr h => ⟨cell_of_block (h.block B2), .inl rfl⟩⟩
    | 1, _ => exact ⟨some ⟨w.heap.size, 0, none⟩, fun wr h => ⟨cell_of_block (h.block B2), .inr ⟨_, rfl, cell_of_block (h.block B1)⟩⟩⟩
  clear hW B1 B2
  go_loopw [5] (fun i wr => ∃ k : Nat, (k : Int) ≤ 2 ∧ i = .int .i64 k ∧ Hid (Kep W wr)) (fun i _ => 2 - (intOf i).toNat)
  case atStart => exact ⟨0, by omega, rfl, Kep.refl _⟩
  case round =>
    obtain ⟨k, hk, rfl, KR⟩ := hrel
    by_cases hlt : k < 2
    · obtain ⟨va, hv0⟩ := HV.out k hlt
      have hV : Hid (∀ wr, Kep W wr → NoDev wr (.pointer va)) := fun wr h => (hv0 wr h).2
      have hv := (hv0 wr KR.out).1
      have hlt' : (k : Int) < 2 := by omega
      clear hv0 HV
      go_wp2_with fail
      clear hv
      go_loopw [7] (fun i ws => ∃ j : Nat, (j : Int) ≤ len0 ∧ (j : Int) ≤ 20 ∧ i = .int .i64 j ∧ Hid (Kep W ws)) (fun i _ => 30 - (intOf i).toNat)
      case atStart => exact ⟨0, by omega, by omega, rfl, KR⟩
      case round =>
        obtain ⟨j, hj1, hj2, rfl, KS⟩ := hrel
        by_cases hend : (j : Int) < len0 ∧ (j : Int) < 20
        · obtain ⟨hl, h20⟩ := hend
          obtain ⟨b, off, ⟨kd, xn, xv⟩, _, hp, hx, lb, m0, m1, m2⟩ := hI.out.at (k := j) (by omega)
          subst hx
          simp only at m0 m1 m2 hp
          have lbw : Hid (b < w.heap.size) := lb
          have CL : Hid (∀ ws, Kep W ws → ws.cell? ⟨b, off + j * 3 + 1, none⟩ = some (.int .i64 xn) ∧ ws.cell? ⟨b, off + j * 3 + 2, none⟩ = some (.int .u32 xv)) := fun ws h => ⟨((kep_trans K0.out h).cell lb).trans m1, ((kep_trans K0.out h).cell lb).trans m2⟩
          obtain ⟨x1, x2⟩ := CL.out _ KS.out
          have HT : Hid (∀ ws, Kep W ws → Calls Try.prog 22 #[.pointer va, .int .i64 xn] ws fun e w' => e = .returned (.tuple #[]) ∧ w' = ws) := fun ws h => taken_nox ws _ (hV.out _ h) xn
          have HR : Hid (∀ ws, Kep W ws → Calls Try.prog 19 #[.pointer va, .int .i64 xn, .int .u32 xv] ws fun e w' => e = .returned (.tuple #[]) ∧ w' = ws) := fun ws h => write_nox ws _ (hV.out _ h) xn xv
          have HN : Hid (∀ ws, Kep W ws → Calls Try.prog 25 #[.pointer va, .int .i64 xn] ws fun e w' => e = .returned (.tuple #[.int .i64 0, .bool false]) ∧ w' = ws) := fun ws h => next_nox ws _ (hV.out _ h) xn
          have HC : Hid (∀ ws, Kep W ws → Calls Try.prog 20 #[.pointer va, .int .i64 xn, .pointer none] ws fun e w' => e = .returned (.tuple #[.slice none 0 0, .slice none 0 0]) ∧ Kep ws w') := fun ws h => (come_nox ws va (hV.out _ h) xn).mono (by rintro e w' ⟨rfl, rfl⟩; exact ⟨rfl, ((Kep.refl _).alloc _).alloc _⟩)
          have HW : Hid (∀ ws, Kep W ws → Calls Try.prog 26 #[.pointer va, .int .u32 xv] ws fun e w' => e = .returned (.int .i64 0) ∧ w' = ws) := fun ws h => wants_nox ws _ (hV.out _ h) xv
          have HI : Hid (∀ ws, Kep W ws → Calls Try.prog 15 #[.pointer va, .int .i64 xn] ws fun e w' => e = .returned (.int .u32 0) ∧ w' = ws) := fun ws h => in_nox ws _ (hV.out _ h) xn
          have HD : Hid (∀ ws, Kep W ws → Calls Try.prog 21 #[.pointer va, .int .i64 xn] ws fun e w' => e = .returned (.int .u32 0) ∧ w' = ws) := fun ws h => read_nox ws _ (hV.out _ h) xn
          have HO : Hid (∀ ws, Kep W ws → Calls Try.prog 17 #[.pointer va] ws fun e w' => e = .returned (.slice none 0 0) ∧ w' = ws) := fun ws h => output_nox ws _ (hV.out _ h)
          have HK : Hid (∀ ws, Kep W ws → Calls Try.prog 18 #[.pointer va] ws fun e w' => e = .returned (.slice none 0 0) ∧ w' = ws) := fun ws h => disk_nox ws _ (hV.out _ h)
          have HY : Hid (∀ ws, Kep W ws → Calls Try.prog 14 #[.pointer va] ws fun e w' => e = .returned (.pointer none) ∧ w' = ws) := fun ws h => copy_nox ws _ (hV.out _ h)
          clear m0 m1 m2
          go_wp2_with (go_at_call 22; refine (HT.out _ KS.out).mono ?_; rintro e w3 ⟨rfl, rfl⟩)
          go_quiet ((go_at_call 19; exact (HR.out _ (KS.out.drewN _)).mono fun _ _ h => ⟨h.1, _, h.2⟩))
          have KD : Hid (Kep W (w3.drewN nq)) := KS.out.drewN nq
          obtain ⟨x1, x2⟩ := CL.out _ KD.out
          go_wp2_with (go_at_call 25; refine (HN.out _ KD.out).mono ?_; rintro e w4 ⟨rfl, rfl⟩)
          refine (HC.out _ KD.out).mono ?_
          rintro e w5 ⟨rfl, k5⟩
          have KE : Hid (Kep W w5) := kep_trans KD.out k5
          obtain ⟨y1, y2⟩ := CL.out _ KE.out
          clear k5 x1 x2 HT HR HN HC
          go_wp2_with (first
            | (go_at_call 26; refine (HW.out _ KE.out).mono ?_; rintro e w6 ⟨rfl, rfl⟩)
            | (go_at_call 15; refine (HI.out _ KE.out).mono ?_; rintro e w6 ⟨rfl, rfl⟩)
            | (go_at_call 21; refine (HD.out _ KE.out).mono ?_; rintro e w6 ⟨rfl, rfl⟩)
            | (go_at_call 17; refine (HO.out _ KE.out).mono ?_; rintro e w6 ⟨rfl, rfl⟩)
            | (go_at_call 18; refine (HK.out _ KE.out).mono ?_; rintro e w6 ⟨rfl, rfl⟩)
            | (go_at_call 14; refine (HY.out _ KE.out).mono ?_; rintro e w6 ⟨rfl, rfl⟩))
          go_roundw
          case rel => exact ⟨j + 1, by omega, by omega, by go_num, KE⟩
          case measure => simp [intOf]; omega
        · rcases (by omega : ¬ (j : Int) < len0 ∨ ((j : Int) < len0 ∧ ¬ (j : Int) < 20)) with hq | ⟨hq, hq'⟩
          all_goals
            clear hend
            go_wp2_with fail
            go_roundw
            case rel => exact ⟨k + 1, by omega, by go_num, KS⟩
            case measure => simp [intOf]; omega
    · obtain rfl : k = 2 := by omega
      go_wp2_with fail
      refine (hM.out _).mono ?_
      rintro e w5 ⟨rfl, k5⟩
      have K5 : Hid (Kep w w5) := kep_trans (kep_trans K0.out KR.out) k5
      clear k5
      go_wp2_with fail
      go_ret
      exact ⟨rfl, K5.out⟩

set_option maxRecDepth 100000 in
theorem lifted (os : Os) (started : os.Started) (H : Type) (enc : TypeId × Value → H) :
    ReturnsInHanded {} Try.checked os 5 .any (Rows.devNoneSpec.pre6 enc Try.prog Try.f5 Rows.devNoneRow.domain false) (Rows.devNoneSpec.post enc Try.prog Try.f5 false true false false) := by
  refine returnsInHanded_of_change (C := Try.checked) own started (by kernel_rfl) Try.func5
    (ChangeSpec.witness6 (enc := enc) (C := Try.checked) false ⟨#[], #[.slice none 0 0], []⟩ 8 (by kernel_rfl) (by kernel_rfl) (by kernel_rfl) (by kernel_rfl)) ?_
  intro W base args ds gs before hval0 hW hcnd _
  have hval : ∀ (j : Nat) t v, Try.f5.params[j]? = some t → args[j]? = some v → Value.okWide Try.prog W .any base t v := hval0
  have hW' := hW
  obtain ⟨p, q, hA0, hV, rfl, hfz, hnd⟩ := hW
  have hA : DataW.TrodAll enc Try.prog W 0 (fun _ => true) true Try.f5.params.toList args.toList ds p := hA0
  rw [Try.params5] at hA hval
  obtain ⟨v0, vs0, d0, ds0, p0, q0, hargs, rfl, rfl, h0, r0⟩ := trodAll_cons hA
  obtain ⟨rfl, rfl, rfl⟩ := trodAll_nil r0
  obtain rfl : args = #[v0] := by cases args; simp_all
  obtain ⟨rfl, rfl⟩ := trodVars_none hV
  have k0 := h0
  have lt0 : ∀ x ∈ p0, x.block < W.heap.size := by obtain ⟨m, hm⟩ := k0; exact DataW.trod_lt m _ _ _ hm
  obtain ⟨x0, len0, cap0, rfl⟩ := okWide_slice Try.underlying24 (hval 0 24 v0 rfl rfl)
  obtain ⟨z0, w0⟩ : ∃ zs, StpRow W x0 len0 cap0 zs := by
    obtain ⟨fuel, hf⟩ := h0
    exact stps_of hf
  clear hA0 hval0
  refine (walk x0 len0 cap0 z0 W w0).mono fun e W' ⟨he, bel0⟩ => ?_
  have bel : Below W.heap.size W W' := bel0
  subst he
  exact ⟨_, rfl, _, _, _, [], _, [], hW', trodAll_mk1 (shut_bool Try.underlying4 _), (trodAll_cons_mk (Below.trod laidOut (by kernel_rfl) (of_decide_eq_true (by kernel_rfl)) k0 bel lt0) trodAll_mk0), rfl, bel.frame _, fun h => by cases h⟩

theorem over : Rows.devNoneRow.holds Try.pinned (OpenSpec.ofChange Rows.devNoneSpec) :=
  OpenClaim.holds_of_wide 5 Try.f5 rfl rfl rfl rfl rfl rfl rfl ⟨rfl, rfl, rfl, rfl, rfl⟩ rfl rfl rfl rfl rfl (by kernel_rfl) Try.func5 (by kernel_rfl)
    (of_decide_eq_true (by kernel_rfl)) (by unfold Func.isWrapper; first | (rw [if_pos (by decide +kernel)]; kernel_rfl) | (rw [if_neg (by decide +kernel)]; exact ⟨rfl, rfl⟩))
    (fun os started H enc _ => lifted os started H enc)
end Go.Proofs.Ytpieeefeicdfgaa.devNone
namespace Go.Proofs.Ytpieeefeicdfgaa

theorem devNone_holds : Rows.DevNoneSaid := devNone.over
#print axioms devNone_holds
end Go.Proofs.Ytpieeefeicdfgaa
