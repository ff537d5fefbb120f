/- For any numbers that may be, and any byte more, the law StubBack returns true: the stub that was made is read as it was; with less, or more, it is none; the code's two tables hold what its text lays. -/
import Derived.Test.YtfpknklibiigfaaDoorRows
import Derived.Test.YtfpknklibiigfaaDoorTie
import Derived.Test.YtfpknklibiigfaaDoorCards
import Derived.Test.YtfpknklibiigfaaDoorRowin
import Derived.Test.YtfpknklibiigfaaDoorWord
import Derived.Test.YtfpknklibiigfaaDoorStref
import Derived.WalkKit
import Derived.ProofKit
import Derived.OpenShut
import Derived.ShutString
import Derived.ChangeOld
import Derived.Below
import Derived.Lib.SmallJoins
import Derived.Lay
import Derived.SevenTiedAt
import Derived.Stop.Joined
namespace Go.Proofs.YtfpknklibiigfaaDoor.stubBack
open Go.ChangeShapes Go.WideShapes Go.ChangeAt Go.RowKit
set_option linter.unusedVariables false
set_option linter.unusedSimpArgs false

theorem own : ownKnob Tryd.prog.godebug = none := by kernel_rfl
theorem laidOut : laidOutB Tryd.prog = true := by kernel_rfl

abbrev laidL : List (String × DataW Unit) := [("mummer/isa.forms", Rows.laid_mummer_isa_forms), ("mummer/isa.spans", Rows.laid_mummer_isa_spans)]

theorem owns_rb {w w' : World} {base B n c : Nat} {L : List Int} (h : w.ownsRow base 5 1 (.slice (some ⟨B, 0, none⟩) n c) n (bs L)) (hf : ∀ x ∈ L, 0 ≤ x ∧ x < 256) (k : Kep w w') (m : Nat) (hm : m ≤ n) (h0 : 0 < m) : RB w' (some ⟨B, 0, none⟩) m c L :=
  .inr ⟨B, 0, rfl, h0, (owns_bytes h hf hm).kep k⟩
theorem one_own (x : Int) (w : World) : ∀ j u, ([Value.int .u8 x])[j]? = some u → (w.alloc (.cells #[.int .u8 x] 5)).cell? ((⟨w.heap.size, 0, none⟩ : Addr).add j) = some u := one_cell x w
theorem u16_of {a : Int} (h : (Lit.int .u16 a).wf = true) : 0 ≤ a ∧ a < 65536 := by
  simp [Lit.wf, IntKind.min, IntKind.max, IntKind.signed, IntKind.bits] at h; omega

set_option maxHeartbeats 4000000 in
set_option maxRecDepth 100000 in
theorem walk (a0 : Int) (w0 : (Lit.int .u8 a0).wf = true) (a1 : Int) (w1 : (Lit.int .u16 a1).wf = true) (a2 : Int) (w2 : (Lit.int .u8 a2).wf = true) (w : World) (hT : Tabs w) :
    Calls Tryd.prog 6 #[.int .u8 a0, .int .u16 a1, .int .u8 a2] w fun e w' => e = .returned (.bool true) ∧ Kep w w' := by
  have hw0 := word8 w0
  have hw1 := u16_of w1
  have hw2 := word8 w2
  have hT' : Hid (Tabs w) := hT
  have hS : Hid _ := ststub_ok a0 a1 hw0.1 (by omega) hw1.1 (by omega) w hT
  obtain ⟨L, hL⟩ : ∃ L, L = [112, a0, 113, a1 % 256, a1 / 256] := ⟨_, rfl⟩
  rw [← hL] at hS
  have hfit : Hid (∀ x ∈ L, 0 ≤ x ∧ x < 256) := by
    intro x hx
    rw [hL] at hx
    simp at hx
    omega
  have hV5 : Hid (∀ m, rdV 5 (L ++ m) = #[.int .i64 a0, .int .i64 a1, .bool true]) := by
    intro m
    rw [hL]
    show #[Value.int .i64 a0, .int .i64 (a1 % 256 + 256 * (a1 / 256)), .bool true] = _
    rw [show a1 % 256 + 256 * (a1 / 256) = a1 from by omega]
  have hV4 : Hid (∀ m, rdV 4 m = #[.int .i64 0, .int .i64 0, .bool false]) := fun m => rfl
  have hV6 : Hid (∀ m, rdV 6 m = #[.int .i64 0, .int .i64 0, .bool false]) := fun m => rfl
  have hl : Hid (L.length = 5) := by rw [hL]; exact rfl
  have hV5' : rdV 5 L = #[.int .i64 a0, .int .i64 a1, .bool true] := by
    have h := hV5.out []
    rw [List.append_nil] at h
    exact h
  obtain ⟨i5, hi5, hz0, hz1, hz2⟩ := info_parts info5
  clear hT hL
  go_enter Tryd.func6, Tryd.ntmps6
  go_wp2_with fail
  refine Calls.mono hS.out ?_
  rintro e w3 ⟨C, c, rfl, hown, g1⟩
  have G1 : Hid (Kep w w3) := g1
  have hown1 : Hid (w3.ownsRow w.heap.size 5 1 (.slice (some ⟨C, 0, none⟩) 5 c) 5 (bs L)) := hown
  have hcap : (5 : Int) ≤ c ∧ (c : Int) ≤ 9223372036854775807 := by
    have h := (owns_bytes hown hfit (Nat.le_refl _))
    have h1 := h.le
    have h2 := h.max
    unfold maxLen at h2
    omega
  clear g1 hown hS
  go_wp2_with fail
  refine Calls.mono (stread_any (some ⟨C, 0, none⟩) 5 c L w3 (owns_rb hown1 hfit (Kep.refl _) 5 (by decide) (by decide)) (hT'.out.grown G1.out)) ?_
  rw [hV5']
  rintro e w4 ⟨rfl, g4⟩
  have G4 : Hid (Kep w3 w4) := g4
  clear g4
  go_wp2_with fail
  refine Calls.mono (stread_any (some ⟨C, 0, none⟩) 4 c L w4 (owns_rb hown1 hfit G4 4 (by decide) (by decide)) (hT'.out.grown (kep_trans G1.out G4.out))) ?_
  rw [hV4.out]
  rintro e w5 ⟨rfl, g5⟩
  have G5 : Hid (Kep w3 w5) := kep_trans G4.out g5
  have hown5 : Hid (w5.ownsRow w.heap.size 5 1 (.slice (some ⟨C, 0, none⟩) 5 c) 5 (bs L)) := by
    obtain ⟨h1, h2⟩ := hown1.out
    refine ⟨h1, ?_⟩
    rcases h2 with h2 | ⟨g, cp, cur, e1, e2, e3, e4⟩
    · exact .inl h2
    · exact .inr ⟨g, cp, cur, e1, e2, G5.out.block e3, e4⟩
  have hbase : Hid (w.heap.size ≤ w5.heap.size) := (kep_trans G1.out G5.out).size
  clear g5 G4
  go_wp2_with (at_builtin; (refine wpList_append_own _ rfl _ _ 22 rfl w.heap.size 5 i5 (.int .u8 0) 1 1 Tryd.underlying22 hi5 hz0 hz1 hz2 rfl (by decide) (.slice (some ⟨C, 0, none⟩) 5 c) 5 (bs L) rfl (World.ownsRow.alloc hown5.out _) ⟨w5.heap.size, 0, none⟩ 1 1 [.int .u8 a2] rfl rfl (one_own _ _) (one_one _) (by unfold maxLen; omega) (by omega) (by have := hbase.out; simp only [World.size_alloc]; omega) ?_); (intro v6 w6 hown6 hgrow6 hnil6; obtain ⟨D, d, hv6, hD⟩ := st_own hown6 (by omega); subst hv6; have G6 : Hid (Kep w w6) := ((kep_trans G1.out G5.out).alloc _).by hgrow6 (by intro j hj; have h5 : some C = some j := hj; simp at h5; subst h5; exact owns_base hown5.out); have hown7 : Hid (w6.ownsRow w.heap.size 5 1 (.slice (some ⟨D, 0, none⟩) 6 d) 6 (bs (L ++ [a2]))) := (by have h := hown6; unfold bs; rw [List.map_append]; exact h); clear hgrow6 hown6 hnil6))
  have hfit6 : Hid (∀ x ∈ L ++ [a2], 0 ≤ x ∧ x < 256) := by
    intro x hx
    rcases List.mem_append.1 hx with h | h
    · exact hfit.out x h
    · simp at h; omega
  refine Calls.mono (stread_any (some ⟨D, 0, none⟩) 6 d (L ++ [a2]) w6 (owns_rb hown7 hfit6 (Kep.refl _) 6 (by decide) (by decide)) (hT'.out.grown G6.out)) ?_
  rw [hV6.out]
  rintro e w7 ⟨rfl, g7⟩
  have G7 : Hid (Kep w w7) := kep_trans G6.out g7
  clear g7
  go_wp2_with fail
  refine (works19_any _ (hT'.out.grown G7.out)).mono ?_
  rintro e w8 ⟨rfl, g8⟩
  go_wp2_with fail
  go_ret
  exact ⟨rfl, kep_trans G7.out g8⟩

set_option maxRecDepth 100000 in
theorem lifted (os : Os) (started : os.Started) (H : Type) (enc : TypeId × Value → H) :
    ReturnsInHanded {} Tryd.checked os 6 .any (fun w args => (Rows.stubBackSpec.pre enc Tryd.prog Tryd.f6 Rows.stubBackRow.domain false w args ∧ laidMetH Tryd.prog laidL w) ∧ sizedMet enc Tryd.prog Tryd.f6 (OpenSpec.ofChange Rows.stubBackSpec) false w args)
      (Rows.stubBackSpec.post enc Tryd.prog Tryd.f6 false true false false) := by
  refine returnsInHanded_of_change_and (C := Tryd.checked) (X := fun w _ => laidMetH Tryd.prog laidL w) (fun _ _ _ hh h => h.of_heap hh) own started (by kernel_rfl) Tryd.func6
    (ChangeSpec.witness_shaped (enc := enc) (C := Tryd.checked) (os := os) (X := fun w _ => laidMetH Tryd.prog laidL w) false (World.laidAll Tryd.prog os laidL) #[.int .u8 0, .int .u16 0, .int .u8 0] 8 (World.laidAll_os _ _ _)
      (World.shaped_of_ZipB (by kernel_rfl) (by kernel_rfl)) (by kernel_rfl) (by kernel_rfl) (by kernel_rfl)
      (by rw [MakeChecks.laidMetH_plain _ _ _ (by kernel_rfl)]; exact laidMet_laidAll _ (by kernel_rfl) (by kernel_rfl))) ?_
  intro W base args ds gs before hval0 hW hcnd hsz0 hL _
  have hval : ∀ (j : Nat) t v, Tryd.f6.params[j]? = some t → args[j]? = some v → Value.okWide Tryd.prog W .any base t v := hval0
  have hW' := hW
  obtain ⟨p, q, hA0, hV, rfl, hfz, hnd⟩ := hW
  have hA : DataW.TrodAll enc Tryd.prog W 0 (fun _ => true) true Tryd.f6.params.toList args.toList ds p := hA0
  rw [Tryd.params6] at hA hval
  obtain ⟨v0, vs0, d0, ds0, p0, q0, hargs, rfl, rfl, h0, r0⟩ := trodAll_cons hA
  obtain ⟨v1, vs1, d1, ds1, p1, q1, rfl, rfl, rfl, h1, r1⟩ := trodAll_cons r0
  obtain ⟨v2, vs2, d2, ds2, p2, q2, rfl, rfl, rfl, h2, r2⟩ := trodAll_cons r1
  obtain ⟨rfl, rfl, rfl⟩ := trodAll_nil r2
  obtain rfl : args = #[v0, v1, v2] := by cases args; simp_all
  obtain ⟨rfl, rfl⟩ := trodVars_none hV
  have k0 := h0
  have lt0 : ∀ x ∈ p0, x.block < W.heap.size := by obtain ⟨m, hm⟩ := k0; exact DataW.trod_lt m _ _ _ hm
  obtain ⟨a0, rfl, rfl, rfl, w0⟩ := open_int Tryd.underlying5 (hval 0 5 v0 rfl rfl) h0
  have k1 := h1
  have lt1 : ∀ x ∈ p1, x.block < W.heap.size := by obtain ⟨m, hm⟩ := k1; exact DataW.trod_lt m _ _ _ hm
  obtain ⟨a1, rfl, rfl, rfl, w1⟩ := open_int Tryd.underlying34 (hval 1 34 v1 rfl rfl) h1
  have k2 := h2
  have lt2 : ∀ x ∈ p2, x.block < W.heap.size := by obtain ⟨m, hm⟩ := k2; exact DataW.trod_lt m _ _ _ hm
  obtain ⟨a2, rfl, rfl, rfl, w2⟩ := open_int Tryd.underlying5 (hval 2 5 v2 rfl rfl) h2
  clear hA0 hval0
  refine (walk a0 w0 a1 w1 a2 w2 W  (tabs_of_laid hL)).mono fun e W' ⟨he, bel0⟩ => ?_
  have bel : Below W.heap.size W W' := bel0
  subst he
  exact ⟨_, rfl, _, _, _, [], _, [], hW', trodAll_mk1 (shut_bool Tryd.underlying4 _), (trodAll_cons_mk (Below.trod laidOut (by kernel_rfl) (of_decide_eq_true (by kernel_rfl)) k0 bel lt0) (trodAll_cons_mk (Below.trod laidOut (by kernel_rfl) (of_decide_eq_true (by kernel_rfl)) k1 bel lt1) (trodAll_cons_mk (Below.trod laidOut (by kernel_rfl) (of_decide_eq_true (by kernel_rfl)) k2 bel lt2) trodAll_mk0))), rfl, bel.frame _, fun h => by cases h⟩

theorem over : Rows.stubBackRow.holds Tryd.pinned (OpenSpec.ofChange Rows.stubBackSpec) :=
  OpenClaim.holds_of_wide 6 Tryd.f6 rfl rfl rfl rfl rfl rfl rfl ⟨rfl, rfl, rfl, rfl, rfl⟩ rfl rfl rfl rfl rfl (by kernel_rfl) Tryd.func6 (by kernel_rfl)
    (of_decide_eq_true (by kernel_rfl)) (by unfold Func.isWrapper; first | (rw [if_pos (by decide +kernel)]; kernel_rfl) | (rw [if_neg (by decide +kernel)]; exact ⟨rfl, rfl⟩))
    (fun os started H enc _ => lifted os started H enc)
end Go.Proofs.YtfpknklibiigfaaDoor.stubBack
namespace Go.Proofs.YtfpknklibiigfaaDoor

theorem stubBack_holds : Rows.StubBackCardSaid :=
  Claim7.holds_tied_plain_at .later [] [.data, .data] true (true, "676b17985a43b2066e486873b87786ea447950c48d3136ce4c60c0da833c37cb") true stubBack.over (fun _ h => by cases h) (by kernel_rfl) (fun _ h => by cases h) stubBack_row_tie rfl ⟨rfl, rfl⟩ (by kernel_rfl) rfl
    (fun f fn hf hfn => by
      obtain rfl : f = 6 := Option.some.inj ((show Tryd.prog.funcNamed "mummer/mummerlaw19.StubBack" = some 6 by kernel_rfl).symm.trans hf) |>.symm
      obtain rfl : fn = Tryd.f6 := (Option.some.inj (Tryd.func6.symm.trans hfn)).symm
      exact ⟨by kernel_rfl, fun j t ht => by
        rw [Tryd.params6] at ht
        have hm : t ∈ [5, 34, 5] := by simpa using Array.mem_of_getElem? ht
        have hall : ([5, 34, 5].all fun u => !Tryd.prog.wantsStandIn u) = true := by kernel_rfl
        exact (show Tryd.prog.wantsStandIn t = false by simpa using List.all_eq_true.1 hall t hm)⟩)
    (by kernel_rfl)
#print axioms stubBack_holds
end Go.Proofs.YtfpknklibiigfaaDoor
