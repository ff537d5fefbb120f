/- For every number and every two steps, the law MarksApart returns true: one mark's turning turns no other one. -/
import Derived.Test.YtncfkbnjiacblaaRows
import Derived.Test.YtncfkbnjiacblaaMkturn
import Derived.WalkKit
import Derived.ProofKit
import Derived.OpenShut
import Derived.ShutString
import Derived.ChangeOld
import Derived.Below
import Derived.Lib.SmallJoins
namespace Go.Proofs.Ytncfkbnjiacblaa.marksApart
open Go.ChangeShapes Go.WideShapes Go.ChangeAt Go.RowKit
set_option linter.unusedVariables false
set_option linter.unusedSimpArgs false

theorem own : ownKnob Try.prog.godebug = none := by kernel_rfl
theorem laidOut : laidOutB Try.prog = true := by kernel_rfl

set_option maxHeartbeats 4000000 in
set_option maxRecDepth 100000 in
theorem walk (a0 : Int) (w0 : (Lit.int .u8 a0).wf = true) (a1f0 : Int) (w1f0 : (Lit.int .i64 a1f0).wf = true) (a1f1 : Int) (w1f1 : (Lit.int .i64 a1f1).wf = true) (a1f2 : Int) (w1f2 : (Lit.int .i64 a1f2).wf = true) (a2f0 : Int) (w2f0 : (Lit.int .i64 a2f0).wf = true) (a2f1 : Int) (w2f1 : (Lit.int .i64 a2f1).wf = true) (a2f2 : Int) (w2f2 : (Lit.int .i64 a2f2).wf = true) (w : World)  :
    Calls Try.prog 5 #[.int .u8 a0, .agg #[.int .i64 a1f0, .int .i64 a1f1, .int .i64 a1f2], .agg #[.int .i64 a2f0, .int .i64 a2f1, .int .i64 a2f2]] w fun e w' => e = .returned (.bool true) ∧ Kep w w' := by
  have HW : Hid (∀ w, Calls Try.prog 19 #[] w fun e w' => e = .returned (.bool true) ∧ Kep w w') := works15_any
  have b0 : 0 ≤ a0 ∧ a0 < 256 := by simp [Lit.wf, IntKind.min, IntKind.max, IntKind.signed, IntKind.bits] at w0; omega
  clear w0 w1f0 w1f1 w1f2 w2f0 w2f1 w2f2
  obtain ⟨m, hm, hmm⟩ : ∃ m : Nat, (m : Int) < 64 ∧ a0.tmod 64 = m := ⟨(a0 % 64).toNat, by omega, by rw [Int.tmod_eq_emod_of_nonneg b0.1]; omega⟩
  have HN : Hid (∀ w, Calls Try.prog 7 #[.int .i64 (1 + (m : Int))] w fun e w' => e = .returned (.tuple #[.pointer (some ⟨w.heap.size, 0, none⟩), .int .i64 0]) ∧ Kep w w' ∧ MarksAt w' w.heap.size (w.heap.size + 1) (w.heap.size + 2) (List.replicate (1 + m) false) (List.replicate (1 + m) false)) := fun w => mnew_any w (1 + m) (by omega) (by omega)
  go_enter Try.func5, Try.ntmps5
  go_wp2_with fail
  refine (HN.out _).mono ?_
  rintro e w1 ⟨rfl, K1, M1⟩
  generalize hW : (w.alloc _).alloc _ = W at K1 M1 ⊢
  have KW : Hid (Kep w W) := by rw [← hW]; exact ((Kep.refl _).alloc _).alloc _
  have hsz : Hid (W.heap.size = w.heap.size + 2) := by rw [Hid, ← hW]; simp
  have TW : Hid (Two W w.heap.size a1f2 a1f1 a2f2 a2f1 a2f0) := by
    have l0 : W.heap[w.heap.size]? = some (.cells #[.int .i64 a1f0, .int .i64 a1f1, .int .i64 a1f2] 32 (0, 0)) := by rw [← hW]; exact (hsk _ _ _ (by simp)).trans (hat _ _ _ rfl)
    have l1 : W.heap[w.heap.size + 1]? = some (.cells #[.int .i64 a2f0, .int .i64 a2f1, .int .i64 a2f2] 32 (0, 0)) := by rw [← hW]; exact hat _ _ _ (by simp)
    exact ⟨(cell_of_block l0).trans rfl, (cell_of_block l0).trans rfl, (cell_of_block l1).trans rfl, (cell_of_block l1).trans rfl, (cell_of_block l1).trans rfl, block_lt l1⟩
  clear hW HN
  generalize hZ : List.replicate (1 + m) false = Z at M1
  clear hZ
  obtain ⟨p, hp⟩ : ∃ p, p = W.heap.size := ⟨_, rfl⟩
  rw [← hp] at M1 ⊢
  have hpb : Hid (W.heap.size ≤ p + 1 ∧ W.heap.size ≤ p + 2) := by rw [Hid]; omega
  clear hp
  obtain ⟨c1, c2, -, -, -, -⟩ := TW.out.kep K1
  have HM : Hid (Calls Try.prog 10 #[.pointer (some ⟨p, 0, none⟩), .int .i64 a1f1, .int .i64 a1f2] w1 fun e w' => ∃ (r : Bool) (L0 L1 : List Bool), e = .returned (.bool r) ∧ MarksAt w' p (p + 1) (p + 2) L0 L1 ∧ Kep W w') := by
    refine (mmark_any a1f1 a1f2 M1).mono ?_
    rintro e w' ⟨rfl, M, P⟩
    exact ⟨_, _, _, rfl, M, K1.put P (by have := hpb.out; simp; omega)⟩
  clear M1 K1
  go_wp2_with fail
  refine HM.out.mono ?_
  rintro e w2 ⟨r, L0, L1, rfl, M2, K2⟩
  clear HM c1 c2
  obtain ⟨c1, c2, c3, c4, c5, -⟩ := TW.out.kep K2
  have HH : Hid (Calls Try.prog 14 #[.pointer (some ⟨p, 0, none⟩), .int .i64 a1f1, .int .i64 a1f2] w2 fun e w' => e = .returned (.bool (bears (kindL L0 L1 a1f2) a1f1)) ∧ w' = w2) := mhas_any a1f1 a1f2 M2.st
  have H0 : Hid (a2f0 ≠ 2 → Calls Try.prog 10 #[.pointer (some ⟨p, 0, none⟩), .int .i64 a2f1, .int .i64 a2f2] w2 fun e w' => ∃ r : Bool, e = .returned (.bool r) ∧ After W w' p (p + 1) (p + 2) a1f2 a1f1 a2f2 a2f1 a2f0 (bears (kindL L0 L1 a1f2) a1f1)) := fun h2 => by
    refine (mmark_any a2f1 a2f2 M2).mono ?_
    rintro e w' ⟨rfl, M, P⟩
    exact ⟨_, rfl, after_put M K2 P hpb.out h2⟩
  have H1 : Hid (a2f0 ≠ 2 → Calls Try.prog 12 #[.pointer (some ⟨p, 0, none⟩), .int .i64 a2f1, .int .i64 a2f2] w2 fun e w' => e = .returned (.tuple #[]) ∧ After W w' p (p + 1) (p + 2) a1f2 a1f1 a2f2 a2f1 a2f0 (bears (kindL L0 L1 a1f2) a1f1)) := fun h2 => by
    refine (mdrop_any a2f1 a2f2 M2).mono ?_
    rintro e w' ⟨rfl, M, P⟩
    exact ⟨rfl, after_put M K2 P hpb.out h2⟩
  have H2 : Hid (a2f0 = 2 → Calls Try.prog 13 #[.pointer (some ⟨p, 0, none⟩), .int .i64 a2f2] w2 fun e w' => e = .returned (.tuple #[]) ∧ After W w' p (p + 1) (p + 2) a1f2 a1f1 a2f2 a2f1 a2f0 (bears (kindL L0 L1 a1f2) a1f1)) := fun h2 => by
    refine (mclear_any a2f2 M2).mono ?_
    rintro e w' ⟨rfl, M, P⟩
    exact ⟨rfl, after_clear M K2 P hpb.out h2⟩
  have H3 : Hid (After W w2 p (p + 1) (p + 2) a1f2 a1f1 a2f2 a2f1 a2f0 (bears (kindL L0 L1 a1f2) a1f1)) := ⟨_, _, M2, fun _ => rfl, K2⟩
  have HF : Hid (∀ w', After W w' p (p + 1) (p + 2) a1f2 a1f1 a2f2 a2f1 a2f0 (bears (kindL L0 L1 a1f2) a1f1) → (a1f2 ≠ a2f2 ∨ (a1f1 ≠ a2f1 ∧ a2f0 ≠ 2)) → Calls Try.prog 14 #[.pointer (some ⟨p, 0, none⟩), .int .i64 a1f1, .int .i64 a1f2] w' fun e w'' => e = .returned (.bool (bears (kindL L0 L1 a1f2) a1f1)) ∧ w'' = w') := fun w' ⟨Q0, Q1, M, o, _⟩ ho => by
    have := mhas_any a1f1 a1f2 M.st
    rw [o ho] at this
    exact this
  clear M2 K2
  generalize bears (kindL L0 L1 a1f2) a1f1 = hd at *
  clear L0 L1
  go_upto_region 7 with (go_at_call 14; refine HH.out.mono ?_; rintro e w3 ⟨rfl, hq0⟩; rw [hq0]; clear hq0 w3)
  clear HH
  rcases (by omega : a1f2 ≠ a2f2 ∨ (a1f2 = a2f2 ∧ a1f1 = a2f1) ∨ (a1f2 = a2f2 ∧ a1f1 ≠ a2f1)) with g | ⟨rfl, rfl⟩ | ⟨rfl, g⟩
  all_goals
    rcases (by omega : a2f0 = 0 ∨ a2f0 = 1 ∨ a2f0 = 2 ∨ (a2f0 ≠ 0 ∧ a2f0 ≠ 1 ∧ a2f0 ≠ 2)) with rfl | rfl | rfl | ⟨t0, t1, t2⟩
    all_goals
      go_upto_region 15 with (first
        | (go_at_call 10; refine (H0.out (by omega)).mono ?_; rintro e w4 ⟨r2, rfl, A4⟩)
        | (go_at_call 12; refine (H1.out (by omega)).mono ?_; rintro e w4 ⟨rfl, A4⟩)
        | (go_at_call 13; refine (H2.out rfl).mono ?_; rintro e w4 ⟨rfl, A4⟩))
      first
        | have A5 := A4
        | have A5 := H3.out
      have HF5 := HF.out _ A5
      have HF6 : Hid _ := HF5
      obtain ⟨Q0, Q1, _, _, K5⟩ := A5
      obtain ⟨d1, d2, -, -, -, -⟩ := TW.out.kep K5
      have K6 : Hid _ := kep_trans KW.out K5
      clear K5 HF HF5 H0 H1 H2 H3 TW KW
      go_wp2_with (first
        | (go_at_call 14; refine (HF6.out (by omega)).mono ?_; rintro e w6 ⟨rfl, hq0⟩; rw [hq0]; clear hq0 w6)
        | (go_at_call 19; refine (HW.out _).mono ?_; rintro e w7 ⟨rfl, KW7⟩))
      go_ret
      exact ⟨rfl, kep_trans K6.out KW7⟩

set_option maxRecDepth 100000 in
theorem lifted (os : Os) (started : os.Started) (H : Type) (enc : TypeId × Value → H) :
    ReturnsInHanded {} Try.checked os 5 .any (Rows.marksApartSpec.pre6 enc Try.prog Try.f5 Rows.marksApartRow.domain false) (Rows.marksApartSpec.post enc Try.prog Try.f5 false true false false) := by
  refine returnsInHanded_of_change (C := Try.checked) own started (by kernel_rfl) Try.func5
    (ChangeSpec.witness6 (enc := enc) (C := Try.checked) false ⟨#[], #[.int .u8 0, .agg #[.int .i64 0, .int .i64 0, .int .i64 0], .agg #[.int .i64 0, .int .i64 0, .int .i64 0]], []⟩ 8 (by kernel_rfl) (by kernel_rfl) (by kernel_rfl) (by kernel_rfl)) ?_
  intro W base args ds gs before hval0 hW hcnd _
  have hval : ∀ (j : Nat) t v, Try.f5.params[j]? = some t → args[j]? = some v → Value.okWide Try.prog W .any base t v := hval0
  have hW' := hW
  obtain ⟨p, q, hA0, hV, rfl, hfz, hnd⟩ := hW
  have hA : DataW.TrodAll enc Try.prog W 0 (fun _ => true) true Try.f5.params.toList args.toList ds p := hA0
  rw [Try.params5] at hA hval
  obtain ⟨v0, vs0, d0, ds0, p0, q0, hargs, rfl, rfl, h0, r0⟩ := trodAll_cons hA
  obtain ⟨v1, vs1, d1, ds1, p1, q1, rfl, rfl, rfl, h1, r1⟩ := trodAll_cons r0
  obtain ⟨v2, vs2, d2, ds2, p2, q2, rfl, rfl, rfl, h2, r2⟩ := trodAll_cons r1
  obtain ⟨rfl, rfl, rfl⟩ := trodAll_nil r2
  obtain rfl : args = #[v0, v1, v2] := by cases args; simp_all
  obtain ⟨rfl, rfl⟩ := trodVars_none hV
  have k0 := h0
  have lt0 : ∀ x ∈ p0, x.block < W.heap.size := by obtain ⟨m, hm⟩ := k0; exact DataW.trod_lt m _ _ _ hm
  obtain ⟨a0, rfl, rfl, rfl, w0⟩ := open_int Try.underlying5 (hval 0 5 v0 rfl rfl) h0
  have k1 := h1
  have lt1 : ∀ x ∈ p1, x.block < W.heap.size := by obtain ⟨m, hm⟩ := k1; exact DataW.trod_lt m _ _ _ hm
  obtain ⟨c1f0, c1f1, c1f2, y1f0, y1f1, y1f2, m1, rfl, _, _, e1f0, e1f1, e1f2⟩ := Joins.open_agg3 Try.underlying32 (by kernel_rfl) (show Try.prog.cellsOf 32 = 3 by kernel_rfl) (hval 1 32 v1 rfl rfl) h1
  obtain ⟨a1f0, q1f0, _, w1f0⟩ := DataW.trod_int Try.underlying3 e1f0
  obtain rfl : c1f0 = .int .i64 a1f0 := by simpa using q1f0
  obtain ⟨a1f1, q1f1, _, w1f1⟩ := DataW.trod_int Try.underlying3 e1f1
  obtain rfl : c1f1 = .int .i64 a1f1 := by simpa using q1f1
  obtain ⟨a1f2, q1f2, _, w1f2⟩ := DataW.trod_int Try.underlying3 e1f2
  obtain rfl : c1f2 = .int .i64 a1f2 := by simpa using q1f2
  have k2 := h2
  have lt2 : ∀ x ∈ p2, x.block < W.heap.size := by obtain ⟨m, hm⟩ := k2; exact DataW.trod_lt m _ _ _ hm
  obtain ⟨c2f0, c2f1, c2f2, y2f0, y2f1, y2f2, m2, rfl, _, _, e2f0, e2f1, e2f2⟩ := Joins.open_agg3 Try.underlying32 (by kernel_rfl) (show Try.prog.cellsOf 32 = 3 by kernel_rfl) (hval 2 32 v2 rfl rfl) h2
  obtain ⟨a2f0, q2f0, _, w2f0⟩ := DataW.trod_int Try.underlying3 e2f0
  obtain rfl : c2f0 = .int .i64 a2f0 := by simpa using q2f0
  obtain ⟨a2f1, q2f1, _, w2f1⟩ := DataW.trod_int Try.underlying3 e2f1
  obtain rfl : c2f1 = .int .i64 a2f1 := by simpa using q2f1
  obtain ⟨a2f2, q2f2, _, w2f2⟩ := DataW.trod_int Try.underlying3 e2f2
  obtain rfl : c2f2 = .int .i64 a2f2 := by simpa using q2f2
  clear hA0 hval0
  refine (walk a0 w0 a1f0 w1f0 a1f1 w1f1 a1f2 w1f2 a2f0 w2f0 a2f1 w2f1 a2f2 w2f2 W ).mono fun e W' ⟨he, bel0⟩ => ?_
  have bel : Below W.heap.size W W' := bel0
  subst he
  exact ⟨_, rfl, _, _, _, [], _, [], hW', trodAll_mk1 (shut_bool Try.underlying4 _), (trodAll_cons_mk (Below.trod laidOut (by kernel_rfl) (of_decide_eq_true (by kernel_rfl)) k0 bel lt0) (trodAll_cons_mk (Below.trod laidOut (by kernel_rfl) (of_decide_eq_true (by kernel_rfl)) k1 bel lt1) (trodAll_cons_mk (Below.trod laidOut (by kernel_rfl) (of_decide_eq_true (by kernel_rfl)) k2 bel lt2) trodAll_mk0))), rfl, bel.frame _, fun h => by cases h⟩

theorem over : Rows.marksApartRow.holds Try.pinned (OpenSpec.ofChange Rows.marksApartSpec) :=
  OpenClaim.holds_of_wide 5 Try.f5 rfl rfl rfl rfl rfl rfl rfl ⟨rfl, rfl, rfl, rfl, rfl⟩ rfl rfl rfl rfl rfl (by kernel_rfl) Try.func5 (by kernel_rfl)
    (of_decide_eq_true (by kernel_rfl)) (by unfold Func.isWrapper; first | (rw [if_pos (by decide +kernel)]; kernel_rfl) | (rw [if_neg (by decide +kernel)]; exact ⟨rfl, rfl⟩))
    (fun os started H enc _ => lifted os started H enc)
end Go.Proofs.Ytncfkbnjiacblaa.marksApart
namespace Go.Proofs.Ytncfkbnjiacblaa

theorem marksApart_holds : Rows.MarksApartSaid := marksApart.over
#print axioms marksApart_holds
end Go.Proofs.Ytncfkbnjiacblaa
