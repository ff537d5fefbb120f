/- For every instruction, the law KindNone returns true: a table that is not there, and one that no call made, know nothing of it; the code's two tables of forms hold what its text lays. -/
import Derived.Test.YtppcfhaiogjfgaaDoorRows
import Derived.Test.YtppcfhaiogjfgaaDoorTie
import Derived.Test.YtppcfhaiogjfgaaDoorCards
import Derived.Test.YtppcfhaiogjfgaaDoorTab
import Derived.Test.YtppcfhaiogjfgaaDoorWord
import Derived.Test.YtppcfhaiogjfgaaDoorKnul
import Derived.WalkKit
import Derived.ProofKit
import Derived.OpenShut
import Derived.ShutString
import Derived.ChangeOld
import Derived.Below
import Derived.Lib.SmallJoins
import Derived.Lay
import Derived.SevenTiedAt
import Derived.Stop.Joined
namespace Go.Proofs.YtppcfhaiogjfgaaDoor.kindNone
open Go.ChangeShapes Go.WideShapes Go.ChangeAt Go.RowKit
set_option linter.unusedVariables false

theorem own : ownKnob Tryd.prog.godebug = none := by kernel_rfl
theorem laidOut : laidOutB Tryd.prog = true := by kernel_rfl

abbrev laidL : List (String × DataW Unit) := [("mummer/isa.forms", Rows.laid_mummer_isa_forms), ("mummer/isa.spans", Rows.laid_mummer_isa_spans)]

theorem c0 : gC (tabF 0) = 1 := by decide +kernel

set_option maxHeartbeats 8000000 in
theorem walk (a0f0 : Int) (w0f0 : (Lit.int .u8 a0f0).wf = true) (a0f1 : Int) (w0f1 : (Lit.int .u8 a0f1).wf = true) (a0f2 : Int) (w0f2 : (Lit.int .u8 a0f2).wf = true) (a0f3 : Int) (w0f3 : (Lit.int .i32 a0f3).wf = true) (w : World) (hT : Tabs w) :
    Calls Tryd.prog 4 #[.agg #[.int .u8 a0f0, .int .u8 a0f1, .int .u8 a0f2, .int .i32 a0f3]] w fun e w' => e = .returned (.bool true) ∧ Kep w w' := by
  have hw0 := word8 w0f0
  have hw1 := word8 w0f1
  have hw2 := word8 w0f2
  have hw3 := word32 w0f3
  have q1 : Hid (∀ v w, Nul w v → Calls Tryd.prog 10 #[v, .int .u8 a0f0] w fun e w' => e = .returned (.int .i64 0) ∧ Kep w w') := fun v w h => class_nul v a0f0 w h
  have q2 : Hid (∀ v w, Tabs w → Nul w v → Calls Tryd.prog 8 #[v, .agg (insA a0f0 a0f1 a0f2 a0f3)] w fun e w' => e = .returned (.int .u8 0) ∧ Kep w w') := fun v w hT h => reads_nul v a0f0 a0f1 a0f2 a0f3 hw0.1 hw0.2 hw3.1 hw3.2 hw1.1 hw2.1 w hT h
  have q3 : Hid (∀ v w, Tabs w → Nul w v → Calls Tryd.prog 9 #[v, .agg (insA a0f0 a0f1 a0f2 a0f3)] w fun e w' => e = .returned (.int .u8 0) ∧ Kep w w') := fun v w hT h => writes_nul v a0f0 a0f1 a0f2 a0f3 hw0.1 hw0.2 hw3.1 hw3.2 hw1.1 hw2.1 w hT h
  have q4 : Hid (∀ v w, Nul w v → Calls Tryd.prog 11 #[v, .int .u8 a0f0] w fun e w' => e = .returned (.bool false) ∧ Kep w w') := fun v w h => turns_nul v a0f0 w h
  have q5 : Hid (∀ v w, Nul w v → Calls Tryd.prog 12 #[v, .int .u8 a0f0] w fun e w' => e = .returned (.bool false) ∧ Kep w w') := fun v w h => fails_nul v a0f0 w h
  have q6 : Hid (∀ v w, Nul w v → Calls Tryd.prog 13 #[v, .int .u8 a0f0] w fun e w' => e = .returned (.bool false) ∧ Kep w w') := fun v w h => silent_nul v a0f0 w h
  have q7 : Hid (∀ v w, Nul w v → Calls Tryd.prog 14 #[v, .int .u8 a0f0] w fun e w' => e = .returned (.bool false) ∧ Kep w w') := fun v w h => ends_nul v a0f0 w h
  have hC : Hid (∀ w1 w2 p o kb, Tb w1 w2 p o kb → Calls Tryd.prog 10 #[.pointer (some ⟨p, 0, none⟩), .int .u8 0] w2 fun e w' => e = .returned (.int .i64 1) ∧ Tb w1 w' p o kb ∧ Stp o kb w2 w') := fun w1 w2 p o kb h => c0 ▸ class_any 0 (by decide) (by decide) w1 w2 p o kb h
  have hT' : Hid (Tabs w) := hT
  clear hw0 hw1 hw2 hw3 hT
  go_enter Tryd.func4, Tryd.ntmps4
  go_wp2_with fail
  refine (new_call _).mono ?_
  rintro e w1 ⟨p, o, kb, rfl, T1⟩
  go_wp2_with fail
  refine (hC.out _ _ _ _ _ T1.out).mono ?_
  rintro e w2 ⟨rfl, t2, _⟩
  have k2 : Hid (Kep (w.alloc (.cells (insA a0f0 a0f1 a0f2 a0f3) 23)) w2) := t2.kep
  have hs2 : w.heap.size < w2.heap.size := k2.out.lt (by simp)
  have hall : Hid (∀ wi, Kep ((w2.alloc (.cells #[.nilFunc] 33)).alloc (.cells #[.pointer none, .pointer (some ⟨w2.heap.size, 0, none⟩)] 24)) wi →
      (wi.cell? ⟨w.heap.size, 0, none⟩ = some (.int .u8 a0f0) ∧ wi.cell? ⟨w.heap.size, 1, none⟩ = some (.int .u8 a0f1) ∧ wi.cell? ⟨w.heap.size, 2, none⟩ = some (.int .u8 a0f2) ∧ wi.cell? ⟨w.heap.size, 3, none⟩ = some (.int .i32 a0f3) ∧ wi.cell? ⟨w2.heap.size + 1, 0, none⟩ = some (.pointer none) ∧ wi.cell? ⟨w2.heap.size + 1, 1, none⟩ = some (.pointer (some ⟨w2.heap.size, 0, none⟩))) ∧
      Hid (Nul wi (.pointer (some ⟨w2.heap.size, 0, none⟩))) ∧ Hid (Tabs wi) ∧ Hid (Kep w wi)) := fun wi k => by
    have kk : Kep (w.alloc (.cells (insA a0f0 a0f1 a0f2 a0f3) 23)) wi := kep_trans k2.out (kep_trans (((Kep.refl _).alloc _).alloc _) k)
    have kw : Kep w wi := kep_trans ((Kep.refl _).alloc _) kk
    have bs : wi.heap[w2.heap.size + 1]? = some (.cells #[.pointer none, .pointer (some ⟨w2.heap.size, 0, none⟩)] 24 (0, 0)) := k.block (hp_at _ _ _ (by simp))
    have bt : wi.heap[w2.heap.size]? = some (.cells #[.nilFunc] 33 (0, 0)) := k.block ((hp_skip _ _ _ (by simp)).trans (hp_at _ _ _ rfl))
    exact ⟨⟨(keep_row kk).trans rfl, (keep_row kk).trans rfl, (keep_row kk).trans rfl, (keep_row kk).trans rfl, cell_of_block bs, cell_of_block bs⟩, .inr ⟨_, rfl, bt⟩, hT'.out.grown kw, kw⟩
  clear t2 T1
  have e0 : w2.cell? ⟨w.heap.size, 0, none⟩ = some (.int .u8 a0f0) := (keep_row k2.out).trans rfl
  go_wp2_with fail
  obtain ⟨⟨c0, c1, c2, c3, s0, s1⟩, N0, B0, K0⟩ := hall.out _ (Kep.refl _)
  have k0 : Hid (Kep ((w2.alloc (.cells #[.nilFunc] 33)).alloc (.cells #[.pointer none, .pointer (some ⟨w2.heap.size, 0, none⟩)] 24)) ((w2.alloc (.cells #[.nilFunc] 33)).alloc (.cells #[.pointer none, .pointer (some ⟨w2.heap.size, 0, none⟩)] 24))) := Kep.refl _
  clear c0 c1 c2 c3 s0 s1
  refine wp_loop_rounds 3 ?_
  rw [rounds_succ]
  go_wp2_with fail
  refine (q1.out _ _ (.inl rfl)).mono ?_
  rintro e v1 ⟨rfl, g⟩
  have k1 : Hid (Kep _ v1) := kep_trans k0.out g
  clear g
  skip
  obtain ⟨⟨c0, c1, c2, c3, s0, s1⟩, N1, B1, K1⟩ := hall.out _ k1.out
  clear k0 N0 B0 K0
  go_wp2_with fail
  refine (q2.out _ _ B1.out (.inl rfl)).mono ?_
  rintro e v2 ⟨rfl, g⟩
  have k2 : Hid (Kep _ v2) := kep_trans k1.out g
  clear g
  clear c0 c1 c2 c3 s0 s1
  obtain ⟨⟨c0, c1, c2, c3, s0, s1⟩, N2, B2, K2⟩ := hall.out _ k2.out
  clear k1 N1 B1 K1
  go_wp2_with fail
  refine (q3.out _ _ B2.out (.inl rfl)).mono ?_
  rintro e v3 ⟨rfl, g⟩
  have k3 : Hid (Kep _ v3) := kep_trans k2.out g
  clear g
  clear c0 c1 c2 c3 s0 s1
  obtain ⟨⟨c0, c1, c2, c3, s0, s1⟩, N3, B3, K3⟩ := hall.out _ k3.out
  clear k2 N2 B2 K2
  go_wp2_with fail
  refine (q4.out _ _ (.inl rfl)).mono ?_
  rintro e v4 ⟨rfl, g⟩
  have k4 : Hid (Kep _ v4) := kep_trans k3.out g
  clear g
  clear c0 c1 c2 c3 s0 s1
  obtain ⟨⟨c0, c1, c2, c3, s0, s1⟩, N4, B4, K4⟩ := hall.out _ k4.out
  clear k3 N3 B3 K3
  go_wp2_with fail
  refine (q5.out _ _ (.inl rfl)).mono ?_
  rintro e v5 ⟨rfl, g⟩
  have k5 : Hid (Kep _ v5) := kep_trans k4.out g
  clear g
  clear c0 c1 c2 c3 s0 s1
  obtain ⟨⟨c0, c1, c2, c3, s0, s1⟩, N5, B5, K5⟩ := hall.out _ k5.out
  clear k4 N4 B4 K4
  go_wp2_with fail
  refine (q6.out _ _ (.inl rfl)).mono ?_
  rintro e v6 ⟨rfl, g⟩
  have k6 : Hid (Kep _ v6) := kep_trans k5.out g
  clear g
  clear c0 c1 c2 c3 s0 s1
  obtain ⟨⟨c0, c1, c2, c3, s0, s1⟩, N6, B6, K6⟩ := hall.out _ k6.out
  clear k5 N5 B5 K5
  go_wp2_with fail
  refine (q7.out _ _ (.inl rfl)).mono ?_
  rintro e v7 ⟨rfl, g⟩
  have k7 : Hid (Kep _ v7) := kep_trans k6.out g
  clear g
  clear c0 c1 c2 c3 s0 s1
  obtain ⟨⟨c0, c1, c2, c3, s0, s1⟩, N7, B7, K7⟩ := hall.out _ k7.out
  clear k6 N6 B6 K6
  go_wp2_with fail
  rw [rounds_succ]
  go_wp2_with fail
  refine (q1.out _ _ N7.out).mono ?_
  rintro e v8 ⟨rfl, g⟩
  have k8 : Hid (Kep _ v8) := kep_trans k7.out g
  clear g
  clear c0 c1 c2 c3 s0 s1
  obtain ⟨⟨c0, c1, c2, c3, s0, s1⟩, N8, B8, K8⟩ := hall.out _ k8.out
  clear k7 N7 B7 K7
  go_wp2_with fail
  refine (q2.out _ _ B8.out N8.out).mono ?_
  rintro e v9 ⟨rfl, g⟩
  have k9 : Hid (Kep _ v9) := kep_trans k8.out g
  clear g
  clear c0 c1 c2 c3 s0 s1
  obtain ⟨⟨c0, c1, c2, c3, s0, s1⟩, N9, B9, K9⟩ := hall.out _ k9.out
  clear k8 N8 B8 K8
  go_wp2_with fail
  refine (q3.out _ _ B9.out N9.out).mono ?_
  rintro e v10 ⟨rfl, g⟩
  have k10 : Hid (Kep _ v10) := kep_trans k9.out g
  clear g
  clear c0 c1 c2 c3 s0 s1
  obtain ⟨⟨c0, c1, c2, c3, s0, s1⟩, N10, B10, K10⟩ := hall.out _ k10.out
  clear k9 N9 B9 K9
  go_wp2_with fail
  refine (q4.out _ _ N10.out).mono ?_
  rintro e v11 ⟨rfl, g⟩
  have k11 : Hid (Kep _ v11) := kep_trans k10.out g
  clear g
  clear c0 c1 c2 c3 s0 s1
  obtain ⟨⟨c0, c1, c2, c3, s0, s1⟩, N11, B11, K11⟩ := hall.out _ k11.out
  clear k10 N10 B10 K10
  go_wp2_with fail
  refine (q5.out _ _ N11.out).mono ?_
  rintro e v12 ⟨rfl, g⟩
  have k12 : Hid (Kep _ v12) := kep_trans k11.out g
  clear g
  clear c0 c1 c2 c3 s0 s1
  obtain ⟨⟨c0, c1, c2, c3, s0, s1⟩, N12, B12, K12⟩ := hall.out _ k12.out
  clear k11 N11 B11 K11
  go_wp2_with fail
  refine (q6.out _ _ N12.out).mono ?_
  rintro e v13 ⟨rfl, g⟩
  have k13 : Hid (Kep _ v13) := kep_trans k12.out g
  clear g
  clear c0 c1 c2 c3 s0 s1
  obtain ⟨⟨c0, c1, c2, c3, s0, s1⟩, N13, B13, K13⟩ := hall.out _ k13.out
  clear k12 N12 B12 K12
  go_wp2_with fail
  refine (q7.out _ _ N13.out).mono ?_
  rintro e v14 ⟨rfl, g⟩
  have k14 : Hid (Kep _ v14) := kep_trans k13.out g
  clear g
  clear c0 c1 c2 c3 s0 s1
  obtain ⟨⟨c0, c1, c2, c3, s0, s1⟩, N14, B14, K14⟩ := hall.out _ k14.out
  clear k13 N13 B13 K13
  go_wp2_with fail
  rw [rounds_succ]
  go_wp2_with fail
  go_ret
  exact ⟨rfl, K14.out⟩

set_option maxRecDepth 100000 in
theorem lifted (os : Os) (started : os.Started) (H : Type) (enc : TypeId × Value → H) :
    ReturnsInHanded {} Tryd.checked os 4 .any (fun w args => (Rows.kindNoneSpec.pre enc Tryd.prog Tryd.f4 Rows.kindNoneRow.domain false w args ∧ laidMetH Tryd.prog laidL w) ∧ sizedMet enc Tryd.prog Tryd.f4 (OpenSpec.ofChange Rows.kindNoneSpec) false w args)
      (Rows.kindNoneSpec.post enc Tryd.prog Tryd.f4 false true false false) := by
  refine returnsInHanded_of_change_and (C := Tryd.checked) (X := fun w _ => laidMetH Tryd.prog laidL w) (fun _ _ _ hh h => h.of_heap hh) own started (by kernel_rfl) Tryd.func4
    (ChangeSpec.witness_shaped (enc := enc) (C := Tryd.checked) (os := os) (X := fun w _ => laidMetH Tryd.prog laidL w) false (World.laidAll Tryd.prog os laidL) #[.agg #[.int .u8 0, .int .u8 0, .int .u8 0, .int .i32 0]] 8 (World.laidAll_os _ _ _)
      (World.shaped_of_ZipB (by kernel_rfl) (by kernel_rfl)) (by kernel_rfl) (by kernel_rfl) (by kernel_rfl)
      (by rw [MakeChecks.laidMetH_plain _ _ _ (by kernel_rfl)]; exact laidMet_laidAll _ (by kernel_rfl) (by kernel_rfl))) ?_
  intro W base args ds gs before hval0 hW hcnd _ hL _
  have hval : ∀ (j : Nat) t v, Tryd.f4.params[j]? = some t → args[j]? = some v → Value.okWide Tryd.prog W .any base t v := hval0
  have hW' := hW
  obtain ⟨p, q, hA0, hV, rfl, hfz, hnd⟩ := hW
  have hA : DataW.TrodAll enc Tryd.prog W 0 (fun _ => true) true Tryd.f4.params.toList args.toList ds p := hA0
  rw [Tryd.params4] at hA hval
  obtain ⟨v0, vs0, d0, ds0, p0, q0, hargs, rfl, rfl, h0, r0⟩ := trodAll_cons hA
  obtain ⟨rfl, rfl, rfl⟩ := trodAll_nil r0
  obtain rfl : args = #[v0] := by cases args; simp_all
  obtain ⟨rfl, rfl⟩ := trodVars_none hV
  have k0 := h0
  have lt0 : ∀ x ∈ p0, x.block < W.heap.size := by obtain ⟨m, hm⟩ := k0; exact DataW.trod_lt m _ _ _ hm
  obtain ⟨c0f0, c0f1, c0f2, c0f3, y0f0, y0f1, y0f2, y0f3, m0, rfl, _, _, e0f0, e0f1, e0f2, e0f3⟩ := Joins.open_agg4 Tryd.underlying23 (by kernel_rfl) (show Tryd.prog.cellsOf 23 = 4 by kernel_rfl) (hval 0 23 v0 rfl rfl) h0
  obtain ⟨a0f0, q0f0, _, w0f0⟩ := DataW.trod_int Tryd.underlying5 e0f0
  obtain rfl : c0f0 = .int .u8 a0f0 := by simpa using q0f0
  obtain ⟨a0f1, q0f1, _, w0f1⟩ := DataW.trod_int Tryd.underlying5 e0f1
  obtain rfl : c0f1 = .int .u8 a0f1 := by simpa using q0f1
  obtain ⟨a0f2, q0f2, _, w0f2⟩ := DataW.trod_int Tryd.underlying5 e0f2
  obtain rfl : c0f2 = .int .u8 a0f2 := by simpa using q0f2
  obtain ⟨a0f3, q0f3, _, w0f3⟩ := DataW.trod_int Tryd.underlying21 e0f3
  obtain rfl : c0f3 = .int .i32 a0f3 := by simpa using q0f3
  clear hA0 hval0
  refine (walk a0f0 w0f0 a0f1 w0f1 a0f2 w0f2 a0f3 w0f3 W  (tabs_of_laid hL)).mono fun e W' ⟨he, bel0⟩ => ?_
  have bel : Below W.heap.size W W' := bel0
  subst he
  exact ⟨_, rfl, _, _, _, [], _, [], hW', trodAll_mk1 (shut_bool Tryd.underlying4 _), (trodAll_cons_mk (Below.trod laidOut (by kernel_rfl) (of_decide_eq_true (by kernel_rfl)) k0 bel lt0) trodAll_mk0), rfl, bel.frame _, fun h => by cases h⟩

theorem over : Rows.kindNoneRow.holds Tryd.pinned (OpenSpec.ofChange Rows.kindNoneSpec) :=
  OpenClaim.holds_of_wide 4 Tryd.f4 rfl rfl rfl rfl rfl rfl rfl ⟨rfl, rfl, rfl, rfl, rfl⟩ rfl rfl rfl rfl rfl (by kernel_rfl) Tryd.func4 (by kernel_rfl)
    (of_decide_eq_true (by kernel_rfl)) (by unfold Func.isWrapper; first | (rw [if_pos (by decide +kernel)]; kernel_rfl) | (rw [if_neg (by decide +kernel)]; exact ⟨rfl, rfl⟩))
    (fun os started H enc _ => lifted os started H enc)
end Go.Proofs.YtppcfhaiogjfgaaDoor.kindNone
namespace Go.Proofs.YtppcfhaiogjfgaaDoor

theorem kindNone_holds : Rows.KindNoneCardSaid :=
  Claim7.holds_tied_plain_at .later [] [.data, .data] true (true, "dcc5c0a8c2621bee4e9d18ea5a38d5e75f9257e1f8a7fff92252ec11809eac3a") false kindNone.over (fun _ h => by cases h) (by kernel_rfl) (fun _ h => by cases h) kindNone_row_tie rfl ⟨rfl, rfl⟩ (by kernel_rfl) rfl
    (fun f fn hf hfn => by
      obtain rfl : f = 4 := Option.some.inj ((show Tryd.prog.funcNamed "mummer/mummerlaw03.KindNone" = some 4 by kernel_rfl).symm.trans hf) |>.symm
      obtain rfl : fn = Tryd.f4 := (Option.some.inj (Tryd.func4.symm.trans hfn)).symm
      exact ⟨by kernel_rfl, fun j t ht => by
        rw [Tryd.params4] at ht
        have hm : t ∈ [23] := by simpa using Array.mem_of_getElem? ht
        have hall : ([23].all fun u => !Tryd.prog.wantsStandIn u) = true := by kernel_rfl
        exact (show Tryd.prog.wantsStandIn t = false by simpa using List.all_eq_true.1 hall t hm)⟩)
    (by kernel_rfl)
#print axioms kindNone_holds
end Go.Proofs.YtppcfhaiogjfgaaDoor
