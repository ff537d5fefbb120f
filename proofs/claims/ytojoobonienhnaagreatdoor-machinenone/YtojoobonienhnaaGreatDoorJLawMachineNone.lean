/- For every state and fault, the law MachineNone returns true: machines that are not there, and such as no call made, do and answer nothing. -/
import Derived.Test.YtojoobonienhnaaGreatDoorRows
import Derived.Test.YtojoobonienhnaaGreatDoorTie
import Derived.Test.YtojoobonienhnaaGreatDoorCards
import Derived.WalkKit
import Derived.ProofKit
import Derived.OpenShut
import Derived.ShutString
import Derived.ChangeOld
import Derived.Below
import Derived.Lib.SmallJoins
import Derived.Lay
import Derived.SevenTiedAt
import Derived.Stop.Joined
import Derived.Test.YtojoobonienhnaaGreatDoorJ91
namespace Go.Proofs.YtojoobonienhnaaGreatDoor.machineNone
open Go.ChangeShapes Go.WideShapes Go.ChangeAt Go.RowKit
set_option linter.unusedVariables false
set_option linter.unusedSimpArgs false
theorem own : ownKnob Tryz.prog.godebug = none := by kernel_rfl
theorem laidOut : laidOutB Tryz.prog = true := by kernel_rfl
abbrev laidL : List (String × DataW Unit) := [("mummer/isa.forms", Rows.laid_mummer_isa_forms), ("mummer/isa.spans", Rows.laid_mummer_isa_spans)]
theorem flt_same0 (w : World) : (Op.equalIn 10000 56 (.agg #[.int .i64 0, .int .u32 0]) (.agg #[.int .i64 0, .int .u32 0])).run Tryz.prog w = .ok true w := by kernel_rfl
set_option maxHeartbeats 8000000 in
set_option maxRecDepth 100000 in
theorem walk (s0 : Sta) (ok0 : s0.Ok) (a1f0 : Int) (w1f0 : (Lit.int .i64 a1f0).wf = true) (a1f1 : Int) (w1f1 : (Lit.int .u32 a1f1).wf = true) (w : World) (hT : Tabs w) :
    Calls Tryz.prog 7 #[.agg s0.v, .agg #[.int .i64 a1f0, .int .u32 a1f1]] w fun e w' => e = .returned (.bool true) ∧ Kep w w' := by
  have T' := hidd hT
  have HW : Hid (∀ w', Kep w w' → Calls Tryz.prog 11 #[] w' fun e w'' => e = .returned (.bool true) ∧ Kep w' w'') := fun w' k => works12_any w' (T'.out.grown k)
  clear hT ok0 w1f0 w1f1
  go_enter Tryz.func7, Tryz.ntmps7
  go_upto_region 4 with fail
  generalize hW : World.alloc (World.alloc (World.alloc (World.alloc w _) _) _) _ = W
  obtain ⟨i2, q2⟩ : ∃ i2, Hid (w.heap.size = i2) := ⟨_, rfl⟩
  have K0 : Hid (Kep w W) := by rw [Hid, ← hW]; exact ((((Kep.refl _).alloc _).alloc _).alloc _).alloc _
  have B0 : Hid (At W i2 s0) := by rw [Hid, ← hW, ← q2.out]; exact (hsk _ _ _ (by simp; try omega)).trans ((hsk _ _ _ (by simp; try omega)).trans ((hsk _ _ _ (by simp)).trans (hat _ _ _ rfl)))
  have B1 : Hid (W.heap[i2 + 1]? = some (.cells #[.int .i64 a1f0, .int .u32 a1f1] 56 (0, 0))) := by rw [Hid, ← hW, ← q2.out]; exact (hsk _ _ _ (by simp; try omega)).trans ((hsk _ _ _ (by simp)).trans (hat _ _ _ (by simp)))
  have B2 : Hid (W.cell? ⟨i2 + 1 + 1, 0, none⟩ = some (.pointer none)) := by rw [Hid, ← hW, ← q2.out]; exact (cell_of_block ((hsk _ _ _ (by simp)).trans (hat _ _ _ (by simp)))).trans rfl
  have B3 : Hid (W.heap[i2 + 1 + 1 + 1]? = some (.cells #[.pointer none, .pointer (some ⟨i2 + 1 + 1, 0, none⟩)] 27 (0, 0))) := by rw [Hid, ← hW, ← q2.out]; exact hat _ _ _ (by simp)
  rw [q2.out]
  clear hW q2
  go_loopw [7] (fun i wr => ∃ k : Nat, (k : Int) ≤ 2 ∧ i = .int .i64 k ∧ Hid (Kep W wr)) (fun i _ => 2 - (intOf i).toNat)
  case atStart => exact ⟨0, by omega, rfl, Kep.refl _⟩
  case round =>
    obtain ⟨k, hk, rfl, K⟩ := hrel
    have c0 : wr.cell? ⟨i2 + 1 + 1 + 1, 0, none⟩ = some (.pointer none) := (cell_of_block (K.out.block B3.out)).trans rfl
    have c1 : wr.cell? ⟨i2 + 1 + 1 + 1, 1, none⟩ = some (.pointer (some ⟨i2 + 1 + 1, 0, none⟩)) := (cell_of_block (K.out.block B3.out)).trans rfl
    have NM : Hid (NoM W (.pointer none) ∧ NoM W (.pointer (some ⟨i2 + 1 + 1, 0, none⟩))) := ⟨.inl rfl, .inr ⟨_, rfl, B2.out⟩⟩
    by_cases hlt : k < 2
    · obtain ⟨v, hv, hN⟩ : ∃ v, Hid (wr.cell? ⟨i2 + 1 + 1 + 1, k, none⟩ = some v) ∧ Hid (NoM W v) := by
        rcases (by omega : k = 0 ∨ k = 1) with rfl | rfl
        · exact ⟨_, c0, NM.out.1⟩
        · exact ⟨_, c1, NM.out.2⟩
      have cv := hv.out
      have hlt' : (k : Int) < 2 := by omega
      clear c0 c1 NM hv
      go_upto_region 7 with fail
      have f0 : wr.cell? ⟨i2 + 1, 0, none⟩ = some (.int .i64 a1f0) := (cell_of_block (K.out.block B1.out)).trans rfl
      have f1 : wr.cell? ⟨i2 + 1, 1, none⟩ = some (.int .u32 a1f1) := (cell_of_block (K.out.block B1.out)).trans rfl
      go_upto_region 8 with (go_at_call 31; refine (deliver_none (hN.out.kep K.out) _ _).mono ?_; rintro e w1 ⟨rfl, k1⟩)
      have K1 : Hid (Kep W w1) := kep_trans K.out k1
      clear k1 f0 f1 cv K
      go_upto_region 9 with (first
        | (refine wpList_load_row (by rfl) 26 _ (by rfl) i2 (by rfl) 26 _ (0, 0) _ (K1.out.block B0.out) Tryz.underlying26 rfl (by exact size_sta) ?_)
        | (go_at_call 32; refine (put_none (hN.out.kep K1.out) s0 _).mono ?_; rintro e w2 ⟨rfl, k2⟩))
      have K2 : Hid (Kep W w2) := kep_trans K1.out k2
      clear k2 K1
      go_upto_region 11 with (first
        | (go_at_call 33; refine (next_none (hN.out.kep K2.out)).mono ?_; rintro e w2 ⟨rfl, rfl⟩)
        | (go_at_call 21; refine (come_none (hN.out.kep K2.out)).mono ?_; rintro e w2 ⟨rfl, rfl⟩))
      have e1 : ∀ w, Sem.run Tryz.prog (Op.equalIn 10000 56 (.agg #[.int .i64 0, .int .u32 0]) (.agg #[.int .i64 0, .int .u32 0])) w = .ok true w := flt_same0
      have e2 : ∀ w, Sem.run Tryz.prog (Op.equalIn 10000 26 (.agg s00.v) (.agg #[.int .u32 0, .int .u32 0, .int .u32 0, .int .u32 0, .int .u32 0, .int .u32 0, .int .u32 0, .int .u32 0, .int .u32 0, .int .u32 0, .int .u32 0, .int .u32 0, .int .u32 0, .int .u32 0, .int .u32 0, .int .u32 0, .int .u32 0, .int .u32 0, .bool false])) w = .ok true w := fun w => sta_same s00 w
      have N2 := hidd (hN.out.kep K2.out)
      go_wp2_with (first
        | (go_at_call 22; refine (step_none N2.out).mono ?_; rintro e w2 ⟨rfl, rfl⟩)
        | (go_at_call 15; refine (run_none N2.out).mono ?_; rintro e w2 ⟨rfl, rfl⟩)
        | (go_at_call 34; refine (disk_none N2.out).mono ?_; rintro e w2 ⟨rfl, rfl⟩)
        | (go_at_call 23; refine (take_none N2.out).mono ?_; rintro e w2 ⟨rfl, rfl⟩)
        | (go_at_call 24; refine (one_none N2.out).mono ?_; rintro e w3 ⟨rfl, k3⟩; have N3 := hidd (N2.out.kep k3); have K3 : Hid (Kep W w3) := kep_trans K2.out k3; clear k3)
        | (go_at_call 16; refine (state_none N3.out).mono ?_; rintro e w4 ⟨rfl, k4⟩; have N4 := hidd (N3.out.kep k4); have K4 : Hid (Kep W w4) := kep_trans K3.out k4; clear k4)
        | (go_at_call 17; refine (steps_none N4.out).mono ?_; rintro e w4 ⟨rfl, rfl⟩)
        | (go_at_call 25; refine (ram_none N4.out).mono ?_; rintro e w4 ⟨rfl, rfl⟩)
        | (go_at_call 18; refine (output_none N4.out).mono ?_; rintro e w4 ⟨rfl, rfl⟩)
        | (go_at_call 20; refine (notes_none N4.out).mono ?_; rintro e w4 ⟨rfl, rfl⟩))
      go_roundw
      case rel => exact ⟨k + 1, by omega, by go_num, K4.out⟩
      case measure => simp [intOf]; omega
    · obtain rfl : k = 2 := by omega
      go_upto_region 13 with fail
      go_upto_region 14 with (first
        | (refine wpList_load_row (by rfl) 26 _ (by rfl) i2 (by rfl) 26 _ (0, 0) _ (K.out.block B0.out) Tryz.underlying26 rfl (by exact size_sta) ?_)
        | (go_at_call 35; refine (over_none _ s0).mono ?_; rintro e w2 ⟨rfl, k2⟩))
      have K2 : Hid (Kep w w2) := kep_trans K0.out (kep_trans K.out k2)
      go_wp2_with (go_at_call 11; refine (HW.out _ K2.out).mono ?_; rintro e w5 ⟨rfl, KW⟩)
      go_ret
      exact ⟨rfl, kep_trans K2.out KW⟩
set_option maxRecDepth 100000 in
theorem lifted (os : Os) (started : os.Started) (H : Type) (enc : TypeId × Value → H) :
    ReturnsInHanded {} Tryz.checked os 7 .any (fun w args => (Rows.machineNoneSpec.pre enc Tryz.prog Tryz.f7 Rows.machineNoneRow.domain false w args ∧ laidMetH Tryz.prog laidL w) ∧ sizedMet enc Tryz.prog Tryz.f7 (OpenSpec.ofChange Rows.machineNoneSpec) false w args)
      (Rows.machineNoneSpec.post enc Tryz.prog Tryz.f7 false true false false) := by
  refine returnsInHanded_of_change_and (C := Tryz.checked) (X := fun w _ => laidMetH Tryz.prog laidL w) (fun _ _ _ hh h => h.of_heap hh) own started (by kernel_rfl) Tryz.func7
    (ChangeSpec.witness_shaped (enc := enc) (C := Tryz.checked) (os := os) (X := fun w _ => laidMetH Tryz.prog laidL w) false (World.laidAll Tryz.prog os laidL) #[.agg #[.int .u32 0, .int .u32 0, .int .u32 0, .int .u32 0, .int .u32 0, .int .u32 0, .int .u32 0, .int .u32 0, .int .u32 0, .int .u32 0, .int .u32 0, .int .u32 0, .int .u32 0, .int .u32 0, .int .u32 0, .int .u32 0, .int .u32 0, .int .u32 0, .bool false], .agg #[.int .i64 0, .int .u32 0]] 8 (World.laidAll_os _ _ _)
      (World.shaped_of_ZipB (by kernel_rfl) (by kernel_rfl)) (by kernel_rfl) (by kernel_rfl) (by kernel_rfl)
      (by rw [MakeChecks.laidMetH_plain _ _ _ (by kernel_rfl)]; exact laidMet_laidAll _ (by kernel_rfl) (by kernel_rfl))) ?_
  intro W base args ds gs before hval0 hW hcnd hsz0 hL _
  have hval : ∀ (j : Nat) t v, Tryz.f7.params[j]? = some t → args[j]? = some v → Value.okWide Tryz.prog W .any base t v := hval0
  have hW' := hW
  obtain ⟨p, q, hA0, hV, rfl, hfz, hnd⟩ := hW
  have hA : DataW.TrodAll enc Tryz.prog W 0 (fun _ => true) true Tryz.f7.params.toList args.toList ds p := hA0
  rw [Tryz.params7] at hA hval
  obtain ⟨v0, vs0, d0, ds0, p0, q0, hargs, rfl, rfl, h0, r0⟩ := trodAll_cons hA
  obtain ⟨v1, vs1, d1, ds1, p1, q1, rfl, rfl, rfl, h1, r1⟩ := trodAll_cons r0
  obtain ⟨rfl, rfl, rfl⟩ := trodAll_nil r1
  obtain rfl : args = #[v0, v1] := by cases args; simp_all
  obtain ⟨rfl, rfl⟩ := trodVars_none hV
  have k0 := h0
  have lt0 : ∀ x ∈ p0, x.block < W.heap.size := by obtain ⟨m, hm⟩ := k0; exact DataW.trod_lt m _ _ _ hm
  obtain ⟨s0, rfl, ok0⟩ := open_sta (hval 0 26 v0 rfl rfl) h0
  have k1 := h1
  have lt1 : ∀ x ∈ p1, x.block < W.heap.size := by obtain ⟨m, hm⟩ := k1; exact DataW.trod_lt m _ _ _ hm
  obtain ⟨c1f0, c1f1, y1f0, y1f1, m1, rfl, _, _, e1f0, e1f1⟩ := Joins.open_agg2 Tryz.underlying56 (by kernel_rfl) (show Tryz.prog.cellsOf 56 = 2 by kernel_rfl) (hval 1 56 v1 rfl rfl) h1
  obtain ⟨a1f0, q1f0, _, w1f0⟩ := DataW.trod_int Tryz.underlying3 e1f0
  obtain rfl : c1f0 = .int .i64 a1f0 := by simpa using q1f0
  obtain ⟨a1f1, q1f1, _, w1f1⟩ := DataW.trod_int Tryz.underlying23 e1f1
  obtain rfl : c1f1 = .int .u32 a1f1 := by simpa using q1f1
  clear hA0 hval0
  refine (walk s0 ok0 a1f0 w1f0 a1f1 w1f1 W  (tabs_of_laid hL)).mono fun e W' ⟨he, bel0⟩ => ?_
  have bel : Below W.heap.size W W' := bel0
  subst he
  exact ⟨_, rfl, _, _, _, [], _, [], hW', trodAll_mk1 (shut_bool Tryz.underlying4 _), (trodAll_cons_mk (Below.trod laidOut (by kernel_rfl) (of_decide_eq_true (by kernel_rfl)) k0 bel lt0) (trodAll_cons_mk (Below.trod laidOut (by kernel_rfl) (of_decide_eq_true (by kernel_rfl)) k1 bel lt1) trodAll_mk0)), rfl, bel.frame _, fun h => by cases h⟩
theorem over : Rows.machineNoneRow.holds Tryz.pinned (OpenSpec.ofChange Rows.machineNoneSpec) :=
  OpenClaim.holds_of_wide 7 Tryz.f7 rfl rfl rfl rfl rfl rfl rfl ⟨rfl, rfl, rfl, rfl, rfl⟩ rfl rfl rfl rfl rfl (by kernel_rfl) Tryz.func7 (by kernel_rfl)
    (of_decide_eq_true (by kernel_rfl)) (by unfold Func.isWrapper; first | (rw [if_pos (by decide +kernel)]; kernel_rfl) | (rw [if_neg (by decide +kernel)]; exact ⟨rfl, rfl⟩))
    (fun os started H enc _ => lifted os started H enc)
end Go.Proofs.YtojoobonienhnaaGreatDoor.machineNone
namespace Go.Proofs.YtojoobonienhnaaGreatDoor
theorem machineNone_holds : Rows.MachineNoneCardSaid :=
  Claim7.holds_tied_plain_at .later [] [.data, .data] true (true, "5cbbd589b00704533d2a2cabec6c6acf0dc199b8b5d7e9fd7a5c8c054a7fc604") true machineNone.over (fun _ h => by cases h) (by kernel_rfl) (fun _ h => by cases h) machineNone_row_tie rfl ⟨rfl, rfl⟩ (by kernel_rfl) rfl
    (fun f fn hf hfn => by
      obtain rfl : f = 7 := Option.some.inj ((show Tryz.prog.funcNamed "mummer/mummerlaw12.MachineNone" = some 7 by kernel_rfl).symm.trans hf) |>.symm
      obtain rfl : fn = Tryz.f7 := (Option.some.inj (Tryz.func7.symm.trans hfn)).symm
      exact ⟨by kernel_rfl, fun j t ht => by
        rw [Tryz.params7] at ht
        have hm : t ∈ [26, 56] := by simpa using Array.mem_of_getElem? ht
        have hall : ([26, 56].all fun u => !Tryz.prog.wantsStandIn u) = true := by kernel_rfl
        exact (show Tryz.prog.wantsStandIn t = false by simpa using List.all_eq_true.1 hall t hm)⟩)
    (by kernel_rfl)
#print axioms machineNone_holds
end Go.Proofs.YtojoobonienhnaaGreatDoor
