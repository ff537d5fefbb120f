/- For every number, the law PoolNone returns true: a pool that is not there, and one that no call made, lend nothing. -/
import Derived.Test.YtjigjhmimocahaaRows
import Derived.Test.YtjigjhmimocahaaPlcode
import Derived.WalkKit
import Derived.ProofKit
import Derived.OpenShut
import Derived.ShutString
import Derived.ChangeOld
import Derived.Below
import Derived.Lib.SmallJoins
namespace Go.Proofs.Ytjigjhmimocahaa.poolNone
open Go.ChangeShapes Go.WideShapes Go.ChangeAt Go.RowKit
set_option linter.unusedVariables false
set_option linter.unusedSimpArgs false

theorem own : ownKnob Try.prog.godebug = none := by kernel_rfl
theorem laidOut : laidOutB Try.prog = true := by kernel_rfl

set_option maxHeartbeats 4000000 in
set_option maxRecDepth 100000 in
theorem walk (a0 : Int) (w0 : (Lit.int .i64 a0).wf = true) (w : World)  :
    Calls Try.prog 6 #[.int .i64 a0] w fun e w' => e = .returned (.bool true) ∧ Kep w w' := by
  have HW : Hid (∀ w, Calls Try.prog 16 #[] w fun e w' => e = .returned (.bool true) ∧ Kep w w') := works14_any
  clear w0
  go_enter Try.func6, Try.ntmps6
  go_wp2_with fail
  generalize hW : (w.alloc _).alloc _ = W
  have hK : Hid (Kep w W) := by rw [← hW]; exact ((Kep.refl _).alloc _).alloc _
  have c0 : W.cell? ⟨w.heap.size + 1, 0, none⟩ = some (.pointer none) := by rw [← hW]; exact (cell_of_block (hat _ _ _ (by simp))).trans rfl
  have c1 : W.cell? ⟨w.heap.size + 1, 1, none⟩ = some (.pointer (some ⟨w.heap.size, 0, none⟩)) := by rw [← hW]; exact (cell_of_block (hat _ _ _ (by simp))).trans rfl
  have hb : Hid (W.heap[w.heap.size]? = some (.cells #[.int .i64 0, .int .i64 0, .map none, .int .i64 0, .int .i64 0] 51 (0, 0))) := by rw [Hid, ← hW]; exact (hsk _ _ _ (by simp)).trans (hat _ _ _ rfl)
  clear hW
  have HV : Hid (∀ k : Nat, k < 2 → ∃ v, W.cell? ⟨w.heap.size + 1, k, none⟩ = some v ∧ NoPool W v) := by
    intro k hk
    match k, hk with
    | 0, _ => exact ⟨_, c0, .inl rfl⟩
    | 1, _ => exact ⟨_, c1, .inr ⟨_, rfl, hb.out⟩⟩
  clear c0 c1 hb
  go_loopw [5] (fun i wr => ∃ k : Nat, (k : Int) ≤ 2 ∧ i = .int .i64 k ∧ W = wr) (fun i _ => 2 - (intOf i).toNat)
  case atStart => exact ⟨0, by omega, rfl, rfl⟩
  case round =>
    obtain ⟨k, hk, rfl, rfl⟩ := hrel
    by_cases hlt : k < 2
    · obtain ⟨v, hv, hn⟩ := HV.out k hlt
      have HT : Hid (Calls Try.prog 8 #[v] W fun e w' => e = .returned (.tuple #[.int .i64 0, .bool false]) ∧ w' = W) := ptake_no W v hn
      have HG : Hid (∀ j, Calls Try.prog 10 #[v, .int .i64 j] W fun e w' => e = .returned (.bool false) ∧ w' = W) := fun j => pgive_no W v hn j
      have HR : Hid (Calls Try.prog 12 #[v] W fun e w' => e = .returned (.tuple #[]) ∧ w' = W) := preset_no W v hn
      have HL : Hid (Calls Try.prog 13 #[v] W fun e w' => e = .returned (.int .i64 0) ∧ w' = W) := pleft_no W v hn
      have HC : Hid (Calls Try.prog 15 #[v] W fun e w' => e = .returned (.tuple #[.int .i64 0, .int .i64 0]) ∧ w' = W) := pcounts_no W v hn
      have hlt' : (k : Int) < 2 := by omega
      clear hn HV
      go_wp2_with (first
        | (go_at_call 8; refine HT.out.mono ?_; rintro e w0 ⟨rfl, hq0⟩; rw [hq0]; clear hq0 w0)
        | (go_at_call 10; refine (HG.out _).mono ?_; rintro e w0 ⟨rfl, hq0⟩; rw [hq0]; clear hq0 w0)
        | (go_at_call 12; refine HR.out.mono ?_; rintro e w0 ⟨rfl, hq0⟩; rw [hq0]; clear hq0 w0)
        | (go_at_call 13; refine HL.out.mono ?_; rintro e w0 ⟨rfl, hq0⟩; rw [hq0]; clear hq0 w0)
        | (go_at_call 15; refine HC.out.mono ?_; rintro e w0 ⟨rfl, hq0⟩; rw [hq0]; clear hq0 w0))
      go_roundw
      case rel => exact ⟨k + 1, by omega, by go_num, trivial⟩
      case measure => simp [intOf]; omega
    · obtain rfl : k = 2 := by omega
      go_wp2_with (go_at_call 16; refine (HW.out _).mono ?_; rintro e w4 ⟨rfl, KW⟩)
      go_ret
      exact ⟨rfl, kep_trans hK.out KW⟩

set_option maxRecDepth 100000 in
theorem lifted (os : Os) (started : os.Started) (H : Type) (enc : TypeId × Value → H) :
    ReturnsInHanded {} Try.checked os 6 .any (Rows.poolNoneSpec.pre6 enc Try.prog Try.f6 Rows.poolNoneRow.domain false) (Rows.poolNoneSpec.post enc Try.prog Try.f6 false true false false) := by
  refine returnsInHanded_of_change (C := Try.checked) own started (by kernel_rfl) Try.func6
    (ChangeSpec.witness6 (enc := enc) (C := Try.checked) false ⟨#[], #[.int .i64 0], []⟩ 8 (by kernel_rfl) (by kernel_rfl) (by kernel_rfl) (by kernel_rfl)) ?_
  intro W base args ds gs before hval0 hW hcnd _
  have hval : ∀ (j : Nat) t v, Try.f6.params[j]? = some t → args[j]? = some v → Value.okWide Try.prog W .any base t v := hval0
  have hW' := hW
  obtain ⟨p, q, hA0, hV, rfl, hfz, hnd⟩ := hW
  have hA : DataW.TrodAll enc Try.prog W 0 (fun _ => true) true Try.f6.params.toList args.toList ds p := hA0
  rw [Try.params6] at hA hval
  obtain ⟨v0, vs0, d0, ds0, p0, q0, hargs, rfl, rfl, h0, r0⟩ := trodAll_cons hA
  obtain ⟨rfl, rfl, rfl⟩ := trodAll_nil r0
  obtain rfl : args = #[v0] := by cases args; simp_all
  obtain ⟨rfl, rfl⟩ := trodVars_none hV
  have k0 := h0
  have lt0 : ∀ x ∈ p0, x.block < W.heap.size := by obtain ⟨m, hm⟩ := k0; exact DataW.trod_lt m _ _ _ hm
  obtain ⟨a0, rfl, rfl, rfl, w0⟩ := open_int Try.underlying3 (hval 0 3 v0 rfl rfl) h0
  clear hA0 hval0
  refine (walk a0 w0 W ).mono fun e W' ⟨he, bel0⟩ => ?_
  have bel : Below W.heap.size W W' := bel0
  subst he
  exact ⟨_, rfl, _, _, _, [], _, [], hW', trodAll_mk1 (shut_bool Try.underlying4 _), (trodAll_cons_mk (Below.trod laidOut (by kernel_rfl) (of_decide_eq_true (by kernel_rfl)) k0 bel lt0) trodAll_mk0), rfl, bel.frame _, fun h => by cases h⟩

theorem over : Rows.poolNoneRow.holds Try.pinned (OpenSpec.ofChange Rows.poolNoneSpec) :=
  OpenClaim.holds_of_wide 6 Try.f6 rfl rfl rfl rfl rfl rfl rfl ⟨rfl, rfl, rfl, rfl, rfl⟩ rfl rfl rfl rfl rfl (by kernel_rfl) Try.func6 (by kernel_rfl)
    (of_decide_eq_true (by kernel_rfl)) (by unfold Func.isWrapper; first | (rw [if_pos (by decide +kernel)]; kernel_rfl) | (rw [if_neg (by decide +kernel)]; exact ⟨rfl, rfl⟩))
    (fun os started H enc _ => lifted os started H enc)
end Go.Proofs.Ytjigjhmimocahaa.poolNone
namespace Go.Proofs.Ytjigjhmimocahaa

theorem poolNone_holds : Rows.PoolNoneSaid := poolNone.over
#print axioms poolNone_holds
end Go.Proofs.Ytjigjhmimocahaa
