/- For every root, address, status and kind, the law WalkNone returns true: a memory that is not there, and one that no call made, lead nowhere. -/
import Derived.Test.YtahnmppnfoeffaaRows
import Derived.Test.YtahnmppnfoeffaaWnone
import Derived.WalkKit
import Derived.ProofKit
import Derived.OpenShut
import Derived.ShutString
import Derived.ChangeOld
import Derived.Below
import Derived.Lib.SmallJoins
namespace Go.Proofs.Ytahnmppnfoeffaa.walkNone
open Go.ChangeShapes Go.WideShapes Go.ChangeAt Go.RowKit
set_option linter.unusedVariables false

theorem own : ownKnob Try.prog.godebug = none := by kernel_rfl
theorem laidOut : laidOutB Try.prog = true := by kernel_rfl

set_option maxHeartbeats 4000000 in
set_option maxRecDepth 100000 in
theorem walk (a0f0 : Int) (w0f0 : (Lit.int .u32 a0f0).wf = true) (a0f1 : Int) (w0f1 : (Lit.int .u32 a0f1).wf = true) (a0f2 : Int) (w0f2 : (Lit.int .u32 a0f2).wf = true) (a0f3 : Int) (w0f3 : (Lit.int .u32 a0f3).wf = true) (w : World)  :
    Calls Try.prog 6 #[.agg #[.int .u32 a0f0, .int .u32 a0f1, .int .u32 a0f2, .int .u32 a0f3]] w fun e w' => e = .returned (.bool true) ∧ Kep w w' := by
  have q0 := u32_of w0f0
  have q1 := u32_of w0f1
  have q2 := u32_of w0f2
  have q3 := u32_of w0f3
  clear w0f0 w0f1 w0f2 w0f3
  obtain ⟨root, rfl⟩ : ∃ x : Nat, a0f0 = x := ⟨a0f0.toNat, by omega⟩
  obtain ⟨va, rfl⟩ : ∃ x : Nat, a0f1 = x := ⟨a0f1.toNat, by omega⟩
  obtain ⟨ps, rfl⟩ : ∃ x : Nat, a0f2 = x := ⟨a0f2.toNat, by omega⟩
  have h3 : Hid (∀ w, Calls Try.prog 12 #[] w fun e w' => e = .returned (.bool true) ∧ Kep w w') := works6_any
  have hsm := way_same 0 0 0 0 0 0 ⟨by decide, by decide, by decide, by decide, by decide, by decide⟩
  have hL : Hid (∀ w v R, Ram w v R [] → Calls Try.prog 10 #[v, .int .u32 root, .int .i64 16, .int .u32 va] w fun e w' => e = .returned (.tuple #[.agg (wayV 0 0 0 0 0 0), .bool false]) ∧ Kep w w') := fun w v R h => look_no h root 16 va q0.2 q1.2
  have hT : Hid (∀ w v R, Ram w v R [] → Calls Try.prog 15 #[v, .int .u32 root, .int .i64 16, .int .u32 ps, .int .u32 va, .int .i64 (a0f3 % 5)] w fun e w' => e = .returned (.tuple #[.int .u32 0, .bool false]) ∧ Kep w w') := fun w v R h => to_no h root 16 ps va (a0f3 % 5) q0.2 (by omega) q1.2
  go_enter Try.func6, Try.ntmps6
  go_wp2_with fail
  obtain ⟨W0, hW0⟩ : ∃ W, W = ((w.alloc (.cells #[.int .u32 root, .int .u32 va, .int .u32 ps, .int .u32 a0f3] 46)).alloc (.cells #[.slice none 0 0] 49)).alloc (.cells #[.pointer none, .pointer (some ⟨w.heap.size + 1, 0, none⟩)] 25) := ⟨_, rfl⟩
  have b0 : Hid (W0.heap[w.heap.size]? = some (.cells #[.int .u32 root, .int .u32 va, .int .u32 ps, .int .u32 a0f3] 46 (0, 0))) := by
    rw [hW0]; exact (hsk _ _ _ (by simp; omega)).trans ((hsk _ _ _ (by simp)).trans (hat _ _ _ rfl))
  have b1 : Hid (W0.heap[w.heap.size + 1]? = some (.cells #[.slice none 0 0] 49 (0, 0))) := by
    rw [hW0]; exact (hsk _ _ _ (by simp)).trans (hat _ _ _ (by simp))
  have b2 : Hid (W0.heap[w.heap.size + 2]? = some (.cells #[.pointer none, .pointer (some ⟨w.heap.size + 1, 0, none⟩)] 25 (0, 0))) := by
    rw [hW0]; exact hat _ _ _ (by simp)
  have KW0 : Hid (Kep w W0) := by rw [hW0]; exact (((Kep.refl _).alloc _).alloc _).alloc _
  go_loopw [5] (fun i wr => ∃ k : Nat, (k : Int) ≤ 2 ∧ i = .int .i64 k ∧ Hid (Kep W0 wr)) (fun i _ => 2 - (intOf i).toNat)
  case atStart => exact ⟨0, by omega, rfl, by rw [Hid, hW0]; exact Kep.refl _⟩
  case round =>
    clear hW0
    obtain ⟨k, hk, rfl, KR⟩ := hrel
    have r0 := KR.out.block b0.out
    have r1 := KR.out.block b1.out
    have r2 := KR.out.block b2.out
    have l0 := block_lt r0
    have l2 := block_lt r2
    have x0 : wr.cell? ⟨w.heap.size, 0, none⟩ = some (.int .u32 root) := cell_of_block r0
    have x1 : wr.cell? ⟨w.heap.size, 1, none⟩ = some (.int .u32 va) := cell_of_block r0
    have x2 : wr.cell? ⟨w.heap.size, 2, none⟩ = some (.int .u32 ps) := cell_of_block r0
    have x3 : wr.cell? ⟨w.heap.size, 3, none⟩ = some (.int .u32 a0f3) := cell_of_block r0
    by_cases hlt : k < 2
    · obtain ⟨v, hv, T⟩ : ∃ v : Value, wr.cell? ⟨w.heap.size + 2, k, none⟩ = some v ∧ Hid (∀ w', Kep wr w' → Ram w' v (w'.heap.size + 5) []) := by
        rcases (by omega : k = 0 ∨ k = 1) with rfl | rfl
        · exact ⟨.pointer none, cell_of_block r2, fun w' K => .inl ⟨rfl, rfl⟩⟩
        · exact ⟨.pointer (some ⟨w.heap.size + 1, 0, none⟩), cell_of_block r2, fun w' K => .inr (.inl ⟨rfl, _, rfl, K.block r1, by have := block_lt (K.block r1); omega⟩)⟩
      have hlt' : (k : Int) < 2 := by omega
      have hL' : Hid (∀ w', Kep wr w' → Calls Try.prog 10 #[v, .int .u32 root, .int .i64 16, .int .u32 va] w' fun e w'' => e = .returned (.tuple #[.agg (wayV 0 0 0 0 0 0), .bool false]) ∧ Kep w' w'') := fun w' K => hL.out w' v _ (T.out w' K)
      have hT' : Hid (∀ w', Kep wr w' → Calls Try.prog 15 #[v, .int .u32 root, .int .i64 16, .int .u32 ps, .int .u32 va, .int .i64 (a0f3 % 5)] w' fun e w'' => e = .returned (.tuple #[.int .u32 0, .bool false]) ∧ Kep w' w'') := fun w' K => hT.out w' v _ (T.out w' K)
      clear hL hT r0 r1 r2
      have n0 : w.heap.size ≠ wr.heap.size := by omega
      have n2 : w.heap.size + 2 ≠ wr.heap.size := by omega
      have n0' : wr.heap.size ≠ w.heap.size := by omega
      have n2' : wr.heap.size ≠ w.heap.size + 2 := by omega
      have hXa : Hid ((16 : Int) ≤ ((va / 1024 : Nat) : Int) → ∀ w', Kep wr w' → Calls Try.prog 10 #[v, .int .u32 root, .int .i64 16, .int .u32 va] w' fun e w'' => e = .returned (.tuple #[.agg (wayV 0 0 0 0 0 0), .bool false]) ∧ w'' = w'.alloc (.cells (wayV 0 0 0 0 0 0) 32)) := fun hd w' K => look_dirsx w' v root 16 va q1.2 hd
      have hXb : Hid (((va / 1024 : Nat) : Int) < 16 → ∀ w', Kep wr w' → Calls Try.prog 10 #[v, .int .u32 root, .int .i64 16, .int .u32 va] w' fun e w'' => e = .returned (.tuple #[.agg (wayV 0 0 0 0 0 0), .bool false]) ∧ ∃ t d q : Int, w'' = (((w'.alloc (.cells (wayV 0 0 0 0 0 0) 32)).alloc (.cells #[.int .u32 t, .int .u32 0] 61)).alloc (.cells #[.int .u32 0, .int .u32 0] 61)).alloc (.cells #[.int .u32 d, .int .u32 q] 61)) := fun hd w' K => look_nox (T.out w' K) root 16 va q0.2 q1.2 hd
      clear q0 q1 q2 T hL'
      go_upto_region 6 with fail
      go_cut [6, 7] from 14 to 62 (fun s6 s7 wx => s7 = .bool false ∧ ∃ g : Nat, s6 = .pointer (some ⟨g, 0, none⟩) ∧ Hid (Kep wr wx ∧ wx.heap[g]? = some (.cells (wayV 0 0 0 0 0 0) 32 (0, 0))))
      case first =>
        rcases (by omega : (16 : Int) ≤ ((va / 1024 : Nat) : Int) ∨ ((va / 1024 : Nat) : Int) < 16) with hd | hd
        · have hX : Hid (∀ w', Kep wr w' → Calls Try.prog 10 #[v, .int .u32 root, .int .i64 16, .int .u32 va] w' fun e w'' => e = .returned (.tuple #[.agg (wayV 0 0 0 0 0 0), .bool false]) ∧ w'' = w'.alloc (.cells (wayV 0 0 0 0 0 0) 32)) := hXa.out hd
          clear hd hXa hXb
          go_region_held3 (fun w' => w'.cell? ⟨w.heap.size + 2, k, none⟩ = some v ∧ w'.cell? ⟨w.heap.size, 0, none⟩ = some (.int .u32 root) ∧ w'.cell? ⟨w.heap.size, 1, none⟩ = some (.int .u32 va)) (refine ⟨?_, ?_, ?_⟩ <;> (repeat (first | (with_reducible exact hv) | (with_reducible exact x0) | (with_reducible exact x1) | (with_reducible refine ck_alloc ?_) | (with_reducible refine ck_drew ?_)))) (first
            | (go_at_call 10; refine (hX.out _ (by repeat (first | exact Kep.refl _ | apply Kep.drew | apply Kep.alloc))).mono ?_; rintro e wa ⟨rfl, rfl⟩))
          all_goals
            go_wp2_with fail
            go_meet
            refine ⟨rfl, _, rfl, (by repeat (first | exact Kep.refl _ | apply Kep.drew | apply Kep.alloc)), ?_⟩
            first
              | exact at_a _ _ _
              | exact at_b _ _ _
        · have hX : Hid (∀ w', Kep wr w' → Calls Try.prog 10 #[v, .int .u32 root, .int .i64 16, .int .u32 va] w' fun e w'' => e = .returned (.tuple #[.agg (wayV 0 0 0 0 0 0), .bool false]) ∧ ∃ t d q : Int, w'' = (((w'.alloc (.cells (wayV 0 0 0 0 0 0) 32)).alloc (.cells #[.int .u32 t, .int .u32 0] 61)).alloc (.cells #[.int .u32 0, .int .u32 0] 61)).alloc (.cells #[.int .u32 d, .int .u32 q] 61)) := hXb.out hd
          clear hd hXa hXb
          go_region_held3 (fun w' => w'.cell? ⟨w.heap.size + 2, k, none⟩ = some v ∧ w'.cell? ⟨w.heap.size, 0, none⟩ = some (.int .u32 root) ∧ w'.cell? ⟨w.heap.size, 1, none⟩ = some (.int .u32 va)) (refine ⟨?_, ?_, ?_⟩ <;> (repeat (first | (with_reducible exact hv) | (with_reducible exact x0) | (with_reducible exact x1) | (with_reducible refine ck_alloc ?_) | (with_reducible refine ck_drew ?_)))) (first
            | (go_at_call 10; refine (hX.out _ (by repeat (first | exact Kep.refl _ | apply Kep.drew | apply Kep.alloc))).mono ?_; rintro e wa ⟨rfl, tt, dd, qq, rfl⟩))
          all_goals
            go_wp2_with fail
            go_meet
            refine ⟨rfl, _, rfl, (by repeat (first | exact Kep.refl _ | apply Kep.drew | apply Kep.alloc)), ?_⟩
            first
              | exact at_c _ _ _ _ _ _
              | exact at_d _ _ _ _ _ _
      case rest =>
      obtain ⟨rfl, g, rfl, hw⟩ := hcut
      have KC := hw.out.1
      obtain ⟨y0, y1, y2, y3, y4, y5, _⟩ := way_cells hw.out.2
      have lg := block_lt hw.out.2
      have e0 : ∀ i : KW wc, i.val.cell? ⟨w.heap.size + 2, k, none⟩ = some v := fun i => (i.ok.cell (KC.lt l2)).trans ((KC.cell l2).trans hv)
      have f0 : ∀ i : KW wc, i.val.cell? ⟨w.heap.size, 0, none⟩ = some (.int .u32 root) := fun i => (i.ok.cell (KC.lt l0)).trans ((KC.cell l0).trans x0)
      have f1 : ∀ i : KW wc, i.val.cell? ⟨w.heap.size, 1, none⟩ = some (.int .u32 va) := fun i => (i.ok.cell (KC.lt l0)).trans ((KC.cell l0).trans x1)
      have f2 : ∀ i : KW wc, i.val.cell? ⟨w.heap.size, 2, none⟩ = some (.int .u32 ps) := fun i => (i.ok.cell (KC.lt l0)).trans ((KC.cell l0).trans x2)
      have f3 : ∀ i : KW wc, i.val.cell? ⟨w.heap.size, 3, none⟩ = some (.int .u32 a0f3) := fun i => (i.ok.cell (KC.lt l0)).trans ((KC.cell l0).trans x3)
      have hne : Nonempty (KW wc) := ⟨⟨wc, Kep.refl _⟩⟩
      have HT : Hid (∀ i : KW wc, Calls Try.prog 15 #[v, .int .u32 root, .int .i64 16, .int .u32 ps, .int .u32 va, .int .i64 (a0f3 % 5)] i.val fun e w' => e = .returned (.tuple #[.int .u32 0, .bool false]) ∧ ∃ j : KW wc, w' = j.val) := fun i => (hT'.out i.val (kep_trans KC i.ok)).mono fun e w' h => ⟨h.1, ⟨w', kep_trans i.ok h.2⟩, rfl⟩
      have KC' : Hid (Kep wr wc) := KC
      clear KC hT' hXa hXb x0 x1 x2 x3 hv
      go_wp2_with fail
      refine region_kw (by kernel_rfl) (by kernel_rfl) ?_
      repeat (go_big_quiet_step ((go_at_call 15; exact HT.out _)))
      refine wpQuiet_nil ?_
      rintro _ ⟨i, rfl⟩
      have z0 := (i.ok.cell lg).trans y0
      have z1 := (i.ok.cell lg).trans y1
      have z2 := (i.ok.cell lg).trans y2
      have z3 := (i.ok.cell lg).trans y3
      have z4 := (i.ok.cell lg).trans y4
      have z5 := (i.ok.cell lg).trans y5
      have KI : Hid (Kep W0 i.val) := kep_trans (kep_trans KR.out KC'.out) i.ok
      clear e0 f0 f1 f2 f3 hne HT y0 y1 y2 y3 y4 y5
      go_wp2_with fail
      go_roundw
      case rel => exact ⟨k + 1, by omega, by go_num, KI⟩
      case measure => simp [intOf]; omega
    · obtain rfl : k = 2 := by omega
      go_wp2_with (go_at_call 12; refine (h3.out _).mono ?_; rintro e w4 ⟨rfl, k4⟩; have K4 : Hid (Kep w w4) := kep_trans (kep_trans KW0.out KR.out) k4; clear k4)
      go_ret
      exact ⟨rfl, K4.out⟩

set_option maxRecDepth 100000 in
theorem lifted (os : Os) (started : os.Started) (H : Type) (enc : TypeId × Value → H) :
    ReturnsInHanded {} Try.checked os 6 .any (Rows.walkNoneSpec.pre6 enc Try.prog Try.f6 Rows.walkNoneRow.domain false) (Rows.walkNoneSpec.post enc Try.prog Try.f6 false true false false) := by
  refine returnsInHanded_of_change (C := Try.checked) own started (by kernel_rfl) Try.func6
    (ChangeSpec.witness6 (enc := enc) (C := Try.checked) false ⟨#[], #[.agg #[.int .u32 0, .int .u32 0, .int .u32 0, .int .u32 0]], []⟩ 8 (by kernel_rfl) (by kernel_rfl) (by kernel_rfl) (by kernel_rfl)) ?_
  intro W base args ds gs before hval0 hW hcnd _
  have hval : ∀ (j : Nat) t v, Try.f6.params[j]? = some t → args[j]? = some v → Value.okWide Try.prog W .any base t v := hval0
  have hW' := hW
  obtain ⟨p, q, hA0, hV, rfl, hfz, hnd⟩ := hW
  have hA : DataW.TrodAll enc Try.prog W 0 (fun _ => true) true Try.f6.params.toList args.toList ds p := hA0
  rw [Try.params6] at hA hval
  obtain ⟨v0, vs0, d0, ds0, p0, q0, hargs, rfl, rfl, h0, r0⟩ := trodAll_cons hA
  obtain ⟨rfl, rfl, rfl⟩ := trodAll_nil r0
  obtain rfl : args = #[v0] := by cases args; simp_all
  obtain ⟨rfl, rfl⟩ := trodVars_none hV
  have k0 := h0
  have lt0 : ∀ x ∈ p0, x.block < W.heap.size := by obtain ⟨m, hm⟩ := k0; exact DataW.trod_lt m _ _ _ hm
  obtain ⟨zs0, hl0, rfl, hw0⟩ := open_arr Try.underlying46 Try.underlying23 (by kernel_rfl) (by kernel_rfl) (hval 0 46 v0 rfl rfl) h0
  obtain ⟨a0f0, a0f1, a0f2, a0f3, rfl⟩ := list4 zs0 hl0
  clear hA0 hval0
  refine (walk a0f0 (hw0 _ (by simp)) a0f1 (hw0 _ (by simp)) a0f2 (hw0 _ (by simp)) a0f3 (hw0 _ (by simp)) W ).mono fun e W' ⟨he, bel0⟩ => ?_
  have bel : Below W.heap.size W W' := bel0
  subst he
  exact ⟨_, rfl, _, _, _, [], _, [], hW', trodAll_mk1 (shut_bool Try.underlying4 _), (trodAll_cons_mk (Below.trod laidOut (by kernel_rfl) (of_decide_eq_true (by kernel_rfl)) k0 bel lt0) trodAll_mk0), rfl, bel.frame _, fun h => by cases h⟩

theorem over : Rows.walkNoneRow.holds Try.pinned (OpenSpec.ofChange Rows.walkNoneSpec) :=
  OpenClaim.holds_of_wide 6 Try.f6 rfl rfl rfl rfl rfl rfl rfl ⟨rfl, rfl, rfl, rfl, rfl⟩ rfl rfl rfl rfl rfl (by kernel_rfl) Try.func6 (by kernel_rfl)
    (of_decide_eq_true (by kernel_rfl)) (by unfold Func.isWrapper; first | (rw [if_pos (by decide +kernel)]; kernel_rfl) | (rw [if_neg (by decide +kernel)]; exact ⟨rfl, rfl⟩))
    (fun os started H enc _ => lifted os started H enc)
end Go.Proofs.Ytahnmppnfoeffaa.walkNone
namespace Go.Proofs.Ytahnmppnfoeffaa

theorem walkNone_holds : Rows.WalkNoneSaid := walkNone.over
#print axioms walkNone_holds
end Go.Proofs.Ytahnmppnfoeffaa
