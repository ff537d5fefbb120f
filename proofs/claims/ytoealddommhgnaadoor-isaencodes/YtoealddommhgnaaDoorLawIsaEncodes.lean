/- For every instruction, of a guest or of a host, the law IsaEncodes returns true: the code's bytes are the document's, or both refuse; the code's two tables hold what its text lays. -/
import Derived.Test.YtoealddommhgnaaDoorRows
import Derived.Test.YtoealddommhgnaaDoorTie
import Derived.Test.YtoealddommhgnaaDoorCards
import Derived.Test.YtoealddommhgnaaDoorTab
import Derived.Test.YtoealddommhgnaaDoorWord
import Derived.Test.YtoealddommhgnaaDoorWorks
import Derived.Test.YtoealddommhgnaaDoorRefmay
import Derived.Test.YtoealddommhgnaaDoorRefenc
import Derived.WalkKit
import Derived.ProofKit
import Derived.OpenShut
import Derived.ShutString
import Derived.ChangeOld
import Derived.Below
import Derived.Lib.SmallJoins
import Derived.Lay
import Derived.SevenTiedAt
import Derived.Stop.Joined
namespace Go.Proofs.YtoealddommhgnaaDoor.isaEncodes
open Go.ChangeShapes Go.WideShapes Go.ChangeAt Go.RowKit
set_option linter.unusedVariables false

theorem own : ownKnob Tryd.prog.godebug = none := by kernel_rfl
theorem laidOut : laidOutB Tryd.prog = true := by kernel_rfl

abbrev laidL : List (String × DataW Unit) := [("mummer/isa.forms", Rows.laid_mummer_isa_forms), ("mummer/isa.spans", Rows.laid_mummer_isa_spans)]

set_option maxHeartbeats 40000000 in
theorem walk (a0f0 : Int) (w0f0 : (Lit.int .u8 a0f0).wf = true) (a0f1 : Int) (w0f1 : (Lit.int .u8 a0f1).wf = true) (a0f2 : Int) (w0f2 : (Lit.int .u8 a0f2).wf = true) (a0f3 : Int) (w0f3 : (Lit.int .i32 a0f3).wf = true) (a1 : Bool) (w : World) (hT : Tabs w) :
    Calls Tryd.prog 5 #[.agg #[.int .u8 a0f0, .int .u8 a0f1, .int .u8 a0f2, .int .i32 a0f3], .bool a1] w fun e w' => e = .returned (.bool true) ∧ Kep w w' := by
  have hw0 := word8 w0f0
  have hw1 := word8 w0f1
  have hw2 := word8 w0f2
  have hw3 := word32 w0f3
  have hT' : Hid (Tabs w) := hT
  cases hm : mayB (rowOf a0f0 a1) a0f1 a0f2 a0f3
  · have hm' : Hid (mayB (rowOf a0f0 a1) a0f1 a0f2 a0f3 = false) := hm
    clear hT hm
    go_enter Tryd.func5, Tryd.ntmps5
    go_wp2_with fail
    refine (encode_no a0f0 a0f1 a0f2 a0f3 a1 hm' _ hw0.1 hw0.2 hw3.1 hw3.2 (hT'.grown ((Kep.refl _).alloc _))).mono ?_
    rintro e w1 ⟨rfl, g1⟩
    have G1 : Hid (Kep w w1) := kep_trans ((Kep.refl _).alloc _) g1
    have d0 := g1.cell (o := 0) (b := w.heap.size) (by simp)
    have d1 := g1.cell (o := 1) (b := w.heap.size) (by simp)
    have d2 := g1.cell (o := 2) (b := w.heap.size) (by simp)
    have d3 := g1.cell (o := 3) (b := w.heap.size) (by simp)
    simp at d0 d1 d2 d3
    clear g1
    go_wp2_with fail
    refine (refMay_any a0f0 a0f1 a0f2 a0f3 a1 w1 hw1.1 hw2.1 hw3.1 hw3.2).mono ?_
    rintro e w2 ⟨rfl, g2⟩
    rw [hm'.out]
    have G2 : Hid (Kep w w2) := kep_trans G1 g2
    clear g2
    go_wp2_with fail
    refine (works_any _ (hT'.grown G2)).mono ?_
    rintro e w3 ⟨rfl, g3⟩
    go_wp2_with fail
    go_ret
    exact ⟨rfl, kep_trans G2 g3⟩
  · have hr := rowOf_lt a0f0 a1
    obtain ⟨m0, m1, m2, m3, m4⟩ := may_parts hm
    obtain ⟨p1, p2, _, _⟩ := f12 _ hr
    have hE : Hid (∀ w, Tabs w → _) := fun w hT => encode_ok (rowOf a0f0 a1) hr m0 a0f0 a0f1 a0f2 a0f3 a1 rfl hm w hw0.1 hw0.2 hw3.1 hw3.2 hw1.1 (by omega) hw2.1 (by omega) hT
    have hF : Hid (∀ w, _) := fun w => refEnc_any (rowOf a0f0 a1) hr m0 a0f0 a0f1 a0f2 a0f3 a1 rfl w hw0.1 hw0.2 hw3.1 hw3.2 hw1.1 (by omega) hw2.1 (by omega)
    have hm' : Hid (mayB (rowOf a0f0 a1) a0f1 a0f2 a0f3 = true) := hm
    generalize encL (rowOf a0f0 a1) a0f0 a0f1 a0f2 a0f3 = L at hE hF
    obtain ⟨n, hn⟩ : ∃ n, L.length = n := ⟨_, rfl⟩
    rw [hn] at hE hF
    clear hT hm m0 m1 m2 m3 m4 p1 p2 hr hn
    go_enter Tryd.func5, Tryd.ntmps5
    go_wp2_with fail
    refine Calls.mono (hE.out _ (hT'.grown ((Kep.refl _).alloc _))) ?_
    rintro e w1 ⟨B, rfl, hown, g1⟩
    have G1 : Hid (Kep w w1) := kep_trans ((Kep.refl _).alloc _) g1
    have d0 := g1.cell (o := 0) (b := w.heap.size) (by simp)
    have d1 := g1.cell (o := 1) (b := w.heap.size) (by simp)
    have d2 := g1.cell (o := 2) (b := w.heap.size) (by simp)
    have d3 := g1.cell (o := 3) (b := w.heap.size) (by simp)
    simp at d0 d1 d2 d3
    have z1 : w.heap.size < w1.heap.size := g1.lt (by simp)
    have hown' : Hid (w1.ownsRow _ 5 1 (.slice (some ⟨B, 0, none⟩) n n) n (bs L)) := hown
    clear g1 hE hown
    go_wp2_with fail
    refine (refMay_any a0f0 a0f1 a0f2 a0f3 a1 w1 hw1.1 hw2.1 hw3.1 hw3.2).mono ?_
    rintro e w2 ⟨rfl, g2⟩
    rw [hm'.out]
    have G2 : Hid (Kep w w2) := kep_trans G1 g2
    have c0 := (g2.cell (o := 0) z1).trans d0
    have c1 := (g2.cell (o := 1) z1).trans d1
    have c2 := (g2.cell (o := 2) z1).trans d2
    have c3 := (g2.cell (o := 3) z1).trans d3
    have hown2 : Hid (∀ w5, Kep w2 w5 → Sem.run Tryd.prog (convert 31 9 (.slice (some ⟨B, 0, none⟩) n n)) w5 = .ok (.string (strOf L)) w5) := by
      intro w5 hk
      obtain ⟨h1, h2⟩ := hown'.out
      refine owned_string (w := w5) (base := 0) ⟨h1, ?_⟩
      rcases h2 with h2 | ⟨g, cp, cur, e1, e2, e3, e4⟩
      · exact .inl h2
      · exact .inr ⟨g, cp, cur, e1, Nat.zero_le _, hk.block (g2.block e3), e4⟩
    have s0 := hown2.out w2.drew (Kep.refl _).drew
    clear d0 d1 d2 d3 g2 z1 hown' hm' G1
    go_wp2_with fail
    go_region_with (first
      | (go_at_call 15; refine Calls.mono (hF.out _) ?_; rintro e w3 ⟨C, c, rfl, hownC, g3⟩; have s1 := owned_string hownC; have s2 := hown2.out w3 (kep_trans (Kep.refl _).drew g3); have G3 : Hid (Kep w w3) := kep_trans G2.drew g3; clear g3 hownC)
      | (go_at_call 11; refine (works_any _ (hT'.grown G3)).mono ?_; rintro e w4 ⟨rfl, g4⟩; have G4 : Hid (Kep w w4) := kep_trans G3 g4; clear g4))
    all_goals
      go_wp2_with fail
      go_ret
      exact ⟨rfl, G4⟩

set_option maxRecDepth 100000 in
theorem lifted (os : Os) (started : os.Started) (H : Type) (enc : TypeId × Value → H) :
    ReturnsInHanded {} Tryd.checked os 5 .any (fun w args => (Rows.isaEncodesSpec.pre enc Tryd.prog Tryd.f5 Rows.isaEncodesRow.domain false w args ∧ laidMetH Tryd.prog laidL w) ∧ sizedMet enc Tryd.prog Tryd.f5 (OpenSpec.ofChange Rows.isaEncodesSpec) false w args)
      (Rows.isaEncodesSpec.post enc Tryd.prog Tryd.f5 false true false false) := by
  refine returnsInHanded_of_change_and (C := Tryd.checked) (X := fun w _ => laidMetH Tryd.prog laidL w) (fun _ _ _ hh h => h.of_heap hh) own started (by kernel_rfl) Tryd.func5
    (ChangeSpec.witness_shaped (enc := enc) (C := Tryd.checked) (os := os) (X := fun w _ => laidMetH Tryd.prog laidL w) false (World.laidAll Tryd.prog os laidL) #[.agg #[.int .u8 0, .int .u8 0, .int .u8 0, .int .i32 0], .bool false] 8 (World.laidAll_os _ _ _)
      (World.shaped_of_ZipB (by kernel_rfl) (by kernel_rfl)) (by kernel_rfl) (by kernel_rfl) (by kernel_rfl)
      (by rw [MakeChecks.laidMetH_plain _ _ _ (by kernel_rfl)]; exact laidMet_laidAll _ (by kernel_rfl) (by kernel_rfl))) ?_
  intro W base args ds gs before hval0 hW hcnd _ hL _
  have hval : ∀ (j : Nat) t v, Tryd.f5.params[j]? = some t → args[j]? = some v → Value.okWide Tryd.prog W .any base t v := hval0
  have hW' := hW
  obtain ⟨p, q, hA0, hV, rfl, hfz, hnd⟩ := hW
  have hA : DataW.TrodAll enc Tryd.prog W 0 (fun _ => true) true Tryd.f5.params.toList args.toList ds p := hA0
  rw [Tryd.params5] at hA hval
  obtain ⟨v0, vs0, d0, ds0, p0, q0, hargs, rfl, rfl, h0, r0⟩ := trodAll_cons hA
  obtain ⟨v1, vs1, d1, ds1, p1, q1, rfl, rfl, rfl, h1, r1⟩ := trodAll_cons r0
  obtain ⟨rfl, rfl, rfl⟩ := trodAll_nil r1
  obtain rfl : args = #[v0, v1] := by cases args; simp_all
  obtain ⟨rfl, rfl⟩ := trodVars_none hV
  have k0 := h0
  have lt0 : ∀ x ∈ p0, x.block < W.heap.size := by obtain ⟨m, hm⟩ := k0; exact DataW.trod_lt m _ _ _ hm
  obtain ⟨c0f0, c0f1, c0f2, c0f3, y0f0, y0f1, y0f2, y0f3, m0, rfl, _, _, e0f0, e0f1, e0f2, e0f3⟩ := Joins.open_agg4 Tryd.underlying29 (by kernel_rfl) (show Tryd.prog.cellsOf 29 = 4 by kernel_rfl) (hval 0 29 v0 rfl rfl) h0
  obtain ⟨a0f0, q0f0, _, w0f0⟩ := DataW.trod_int Tryd.underlying5 e0f0
  obtain rfl : c0f0 = .int .u8 a0f0 := by simpa using q0f0
  obtain ⟨a0f1, q0f1, _, w0f1⟩ := DataW.trod_int Tryd.underlying5 e0f1
  obtain rfl : c0f1 = .int .u8 a0f1 := by simpa using q0f1
  obtain ⟨a0f2, q0f2, _, w0f2⟩ := DataW.trod_int Tryd.underlying5 e0f2
  obtain rfl : c0f2 = .int .u8 a0f2 := by simpa using q0f2
  obtain ⟨a0f3, q0f3, _, w0f3⟩ := DataW.trod_int Tryd.underlying21 e0f3
  obtain rfl : c0f3 = .int .i32 a0f3 := by simpa using q0f3
  have k1 := h1
  have lt1 : ∀ x ∈ p1, x.block < W.heap.size := by obtain ⟨m, hm⟩ := k1; exact DataW.trod_lt m _ _ _ hm
  obtain ⟨a1, rfl, rfl, rfl⟩ := open_bool Tryd.underlying4 (hval 1 4 v1 rfl rfl) h1
  clear hA0 hval0
  refine (walk a0f0 w0f0 a0f1 w0f1 a0f2 w0f2 a0f3 w0f3 a1 W  (tabs_of_laid hL)).mono fun e W' ⟨he, bel0⟩ => ?_
  have bel : Below W.heap.size W W' := bel0
  subst he
  exact ⟨_, rfl, _, _, _, [], _, [], hW', trodAll_mk1 (shut_bool Tryd.underlying4 _), (trodAll_cons_mk (Below.trod laidOut (by kernel_rfl) (of_decide_eq_true (by kernel_rfl)) k0 bel lt0) (trodAll_cons_mk (Below.trod laidOut (by kernel_rfl) (of_decide_eq_true (by kernel_rfl)) k1 bel lt1) trodAll_mk0)), rfl, bel.frame _, fun h => by cases h⟩

theorem over : Rows.isaEncodesRow.holds Tryd.pinned (OpenSpec.ofChange Rows.isaEncodesSpec) :=
  OpenClaim.holds_of_wide 5 Tryd.f5 rfl rfl rfl rfl rfl rfl rfl ⟨rfl, rfl, rfl, rfl, rfl⟩ rfl rfl rfl rfl rfl (by kernel_rfl) Tryd.func5 (by kernel_rfl)
    (of_decide_eq_true (by kernel_rfl)) (by unfold Func.isWrapper; first | (rw [if_pos (by decide +kernel)]; kernel_rfl) | (rw [if_neg (by decide +kernel)]; exact ⟨rfl, rfl⟩))
    (fun os started H enc _ => lifted os started H enc)
end Go.Proofs.YtoealddommhgnaaDoor.isaEncodes
namespace Go.Proofs.YtoealddommhgnaaDoor

theorem isaEncodes_holds : Rows.IsaEncodesCardSaid :=
  Claim7.holds_tied_plain_at .later [] [.data, .data] true (true, "4a4c378768b5a2fc616b7a386bed56ba70b6b05b59bcd584326e4ab8cf124c1f") false isaEncodes.over (fun _ h => by cases h) (by kernel_rfl) (fun _ h => by cases h) isaEncodes_row_tie rfl ⟨rfl, rfl⟩ (by kernel_rfl) rfl
    (fun f fn hf hfn => by
      obtain rfl : f = 5 := Option.some.inj ((show Tryd.prog.funcNamed "mummer/mummerlaw02.IsaEncodes" = some 5 by kernel_rfl).symm.trans hf) |>.symm
      obtain rfl : fn = Tryd.f5 := (Option.some.inj (Tryd.func5.symm.trans hfn)).symm
      exact ⟨by kernel_rfl, fun j t ht => by
        rw [Tryd.params5] at ht
        have hm : t ∈ [29, 4] := by simpa using Array.mem_of_getElem? ht
        have hall : ([29, 4].all fun u => !Tryd.prog.wantsStandIn u) = true := by kernel_rfl
        exact (show Tryd.prog.wantsStandIn t = false by simpa using List.all_eq_true.1 hall t hm)⟩)
    (by kernel_rfl)
#print axioms isaEncodes_holds
end Go.Proofs.YtoealddommhgnaaDoor
