/- For every row of bytes, read as a guest's or as a host's, the law IsaDecodes returns true: the bytes begin with the instruction that the document tells, of so many bytes, or with none, for the document's reason; the code's two tables hold what its text lays. -/
import Derived.Test.YtmmgknchbebbjaaDoorRows
import Derived.Test.YtmmgknchbebbjaaDoorTie
import Derived.Test.YtmmgknchbebbjaaDoorCards
import Derived.Test.YtmmgknchbebbjaaDoorTab
import Derived.Test.YtmmgknchbebbjaaDoorWord
import Derived.Test.YtmmgknchbebbjaaDoorWorks
import Derived.Test.YtmmgknchbebbjaaDoorInseq
import Derived.Test.YtmmgknchbebbjaaDoorRowin
import Derived.Test.YtmmgknchbebbjaaDoorRefdec
import Derived.Test.YtmmgknchbebbjaaDoorRefmay
import Derived.WalkKit
import Derived.ProofKit
import Derived.OpenShut
import Derived.ShutString
import Derived.ChangeOld
import Derived.Below
import Derived.Lib.SmallJoins
import Derived.Lay
import Derived.SevenTiedAt
import Derived.Stop.Joined
namespace Go.Proofs.YtmmgknchbebbjaaDoor.isaDecodes
open Go.ChangeShapes Go.WideShapes Go.ChangeAt Go.RowKit
set_option linter.unusedVariables false

theorem own : ownKnob Tryd.prog.godebug = none := by kernel_rfl
theorem laidOut : laidOutB Tryd.prog = true := by kernel_rfl

abbrev laidL : List (String × DataW Unit) := [("mummer/isa.forms", Rows.laid_mummer_isa_forms), ("mummer/isa.spans", Rows.laid_mummer_isa_spans)]

set_option maxHeartbeats 4000000 in
theorem dec_walk (x : Option Addr) (len cap : Nat) (host : Bool) (w : World) (hT : Tabs w) (op a b imm N E : Int) (q0 : (Lit.int .u8 op).wf = true) (q1 : (Lit.int .u8 a).wf = true) (q2 : (Lit.int .u8 b).wf = true) (q3 : (Lit.int .i32 imm).wf = true)
    (hd : Hid (Calls Tryd.prog 4 #[.slice x len cap, .bool host] w fun e w' => e = .returned (.tuple #[.agg (insA op a b imm), .int .i64 N, .int .i64 E]) ∧ Kep w w'))
    (hr : Hid (∀ w', Kep w w' → Calls Tryd.prog 5 #[.slice x len cap, .bool host] w' fun e w'' => e = .returned (.tuple #[.agg (insA op a b imm), .int .i64 N, .int .i64 E]) ∧ Kep w' w'')) :
    Calls Tryd.prog 3 #[.slice x len cap, .bool host] w fun e w' => e = .returned (.bool true) ∧ Kep w w' := by
  have hsame := ins_same op a b imm q0 q1 q2 q3
  have hT' : Hid (Tabs w) := hT
  clear hT q0 q1 q2 q3
  go_enter Tryd.func3, Tryd.ntmps3
  go_wp2_with fail
  refine hd.out.mono ?_
  rintro e w1 ⟨rfl, g1⟩
  have G1 : Hid (∀ o, Kep w (w1.alloc o)) := fun o => g1.alloc o
  clear g1 hd
  go_wp2_with fail
  refine (hr.out _ (G1.out _)).mono ?_
  rintro e w2 ⟨rfl, g2⟩
  have d0 := g2.cell (o := 0) (b := w1.heap.size) (by simp)
  have d1 := g2.cell (o := 1) (b := w1.heap.size) (by simp)
  have d2 := g2.cell (o := 2) (b := w1.heap.size) (by simp)
  have d3 := g2.cell (o := 3) (b := w1.heap.size) (by simp)
  simp at d0 d1 d2 d3
  have z2 : w1.heap.size < w2.heap.size := g2.lt (by simp)
  have G2 : Hid (∀ o, Kep w (w2.alloc o)) := fun o => (kep_trans (G1.out _) g2).alloc o
  clear g2 hr
  go_wp2_with fail
  refine (works_any _ (hT'.grown (G2.out _))).mono ?_
  rintro e w3 ⟨rfl, g3⟩
  have G3 : Hid (Kep w w3) := kep_trans (G2.out _) g3
  clear g3
  go_wp2_with fail
  go_ret
  exact ⟨rfl, G3.out⟩

theorem walk (x0 : Option Addr) (len0 cap0 : Nat) (z0 : List Int) (a1 : Bool) (w : World) (w0 : IsRow .u8 w x0 len0 cap0 z0) (hT : Tabs w) :
    Calls Tryd.prog 3 #[.slice x0 len0 cap0, .bool a1] w fun e w' => e = .returned (.bool true) ∧ Kep w w' := by
  rcases row_cases w0 with h | ⟨b, off, hx, hlen, hB⟩
  · subst h
    exact dec_walk x0 0 cap0 a1 w hT 0 0 0 0 0 20 (by decide) (by decide) (by decide) (by decide) (dec_empty x0 cap0 a1 w) (fun w' _ => refdec_empty x0 cap0 a1 w')
  · subst hx
    have hr := rowOf_lt (zat z0 0) a1
    have hd := decode_any b off len0 cap0 z0 a1 _ rfl w hlen hB hT
    have hq : ∀ w', Kep w w' → _ := fun w' k => refdec_any b off len0 cap0 z0 a1 _ rfl w' hlen (hB.kep k)
    obtain ⟨f0, f1, f2, f3⟩ := fits_all hB.fit (rowOf (zat z0 0) a1) hr
    cases hok : okD (rowOf (zat z0 0) a1) z0 len0
    · have e : insD (rowOf (zat z0 0) a1) z0 len0 = zeroI := by unfold insD; rw [hok]; rfl
      rw [e] at hd
      exact dec_walk _ len0 cap0 a1 w hT 0 0 0 0 _ _ (by decide) (by decide) (by decide) (by decide) hd (fun w' k => by have h := hq w' k; rw [e] at h; exact h)
    · have e : insD (rowOf (zat z0 0) a1) z0 len0 = insA (zat z0 0) (aOf (rowOf (zat z0 0) a1) z0) (bOf (rowOf (zat z0 0) a1) z0) (immOf (rowOf (zat z0 0) a1) z0) := by unfold insD; rw [hok]; rfl
      rw [e] at hd
      exact dec_walk _ len0 cap0 a1 w hT _ _ _ _ _ _ f0 f1 f2 f3 hd (fun w' k => by have h := hq w' k; rw [e] at h; exact h)

set_option maxRecDepth 100000 in
theorem lifted (os : Os) (started : os.Started) (H : Type) (enc : TypeId × Value → H) :
    ReturnsInHanded {} Tryd.checked os 3 .any (fun w args => (Rows.isaDecodesSpec.pre enc Tryd.prog Tryd.f3 Rows.isaDecodesRow.domain false w args ∧ laidMetH Tryd.prog laidL w) ∧ sizedMet enc Tryd.prog Tryd.f3 (OpenSpec.ofChange Rows.isaDecodesSpec) false w args)
      (Rows.isaDecodesSpec.post enc Tryd.prog Tryd.f3 false true false false) := by
  refine returnsInHanded_of_change_and (C := Tryd.checked) (X := fun w _ => laidMetH Tryd.prog laidL w) (fun _ _ _ hh h => h.of_heap hh) own started (by kernel_rfl) Tryd.func3
    (ChangeSpec.witness_shaped (enc := enc) (C := Tryd.checked) (os := os) (X := fun w _ => laidMetH Tryd.prog laidL w) false (World.laidAll Tryd.prog os laidL) #[.slice none 0 0, .bool false] 8 (World.laidAll_os _ _ _)
      (World.shaped_of_ZipB (by kernel_rfl) (by kernel_rfl)) (by kernel_rfl) (by kernel_rfl) (by kernel_rfl)
      (by rw [MakeChecks.laidMetH_plain _ _ _ (by kernel_rfl)]; exact laidMet_laidAll _ (by kernel_rfl) (by kernel_rfl))) ?_
  intro W base args ds gs before hval0 hW hcnd _ hL _
  have hval : ∀ (j : Nat) t v, Tryd.f3.params[j]? = some t → args[j]? = some v → Value.okWide Tryd.prog W .any base t v := hval0
  have hW' := hW
  obtain ⟨p, q, hA0, hV, rfl, hfz, hnd⟩ := hW
  have hA : DataW.TrodAll enc Tryd.prog W 0 (fun _ => true) true Tryd.f3.params.toList args.toList ds p := hA0
  rw [Tryd.params3] at hA hval
  obtain ⟨v0, vs0, d0, ds0, p0, q0, hargs, rfl, rfl, h0, r0⟩ := trodAll_cons hA
  obtain ⟨v1, vs1, d1, ds1, p1, q1, rfl, rfl, rfl, h1, r1⟩ := trodAll_cons r0
  obtain ⟨rfl, rfl, rfl⟩ := trodAll_nil r1
  obtain rfl : args = #[v0, v1] := by cases args; simp_all
  obtain ⟨rfl, rfl⟩ := trodVars_none hV
  have k0 := h0
  have lt0 : ∀ x ∈ p0, x.block < W.heap.size := by obtain ⟨m, hm⟩ := k0; exact DataW.trod_lt m _ _ _ hm
  obtain ⟨x0, len0, cap0, rfl⟩ := okWide_slice Tryd.underlying22 (hval 0 22 v0 rfl rfl)
  obtain ⟨z0, w0⟩ : ∃ zs, IsRow .u8 W x0 len0 cap0 zs := by
    obtain ⟨fuel, hf⟩ := h0
    rcases open_ints Tryd.underlying22 Tryd.underlying5 (by kernel_rfl) hf with ⟨hcs, _⟩ | ⟨x, l, c, zs, hcs, _, hl, hm, hz, _, hcell, hwz⟩
    · simp [Value.cells] at hcs
      obtain ⟨rfl, rfl, rfl⟩ := hcs
      exact ⟨[], .inl ⟨rfl, rfl, rfl, rfl⟩⟩
    · simp [Value.cells] at hcs
      obtain ⟨rfl, rfl, rfl⟩ := hcs
      exact ⟨zs, .inr ⟨_, rfl, hl, hm, by simpa using hz, hcell, hwz⟩⟩
  have k1 := h1
  have lt1 : ∀ x ∈ p1, x.block < W.heap.size := by obtain ⟨m, hm⟩ := k1; exact DataW.trod_lt m _ _ _ hm
  obtain ⟨a1, rfl, rfl, rfl⟩ := open_bool Tryd.underlying4 (hval 1 4 v1 rfl rfl) h1
  clear hA0 hval0
  refine (walk x0 len0 cap0 z0 a1 W w0 (tabs_of_laid hL)).mono fun e W' ⟨he, bel0⟩ => ?_
  have bel : Below W.heap.size W W' := bel0
  subst he
  exact ⟨_, rfl, _, _, _, [], _, [], hW', trodAll_mk1 (shut_bool Tryd.underlying4 _), (trodAll_cons_mk (Below.trod laidOut (by kernel_rfl) (of_decide_eq_true (by kernel_rfl)) k0 bel lt0) (trodAll_cons_mk (Below.trod laidOut (by kernel_rfl) (of_decide_eq_true (by kernel_rfl)) k1 bel lt1) trodAll_mk0)), rfl, bel.frame _, fun h => by cases h⟩

theorem over : Rows.isaDecodesRow.holds Tryd.pinned (OpenSpec.ofChange Rows.isaDecodesSpec) :=
  OpenClaim.holds_of_wide 3 Tryd.f3 rfl rfl rfl rfl rfl rfl rfl ⟨rfl, rfl, rfl, rfl, rfl⟩ rfl rfl rfl rfl rfl (by kernel_rfl) Tryd.func3 (by kernel_rfl)
    (of_decide_eq_true (by kernel_rfl)) (by unfold Func.isWrapper; first | (rw [if_pos (by decide +kernel)]; kernel_rfl) | (rw [if_neg (by decide +kernel)]; exact ⟨rfl, rfl⟩))
    (fun os started H enc _ => lifted os started H enc)
end Go.Proofs.YtmmgknchbebbjaaDoor.isaDecodes
namespace Go.Proofs.YtmmgknchbebbjaaDoor

theorem isaDecodes_holds : Rows.IsaDecodesCardSaid :=
  Claim7.holds_tied_plain_at .later [] [.data, .data] true (true, "392c2866d32e0250eb945074a2a03fd1472b334fbdb27acfb87958fb661295e3") false isaDecodes.over (fun _ h => by cases h) (by kernel_rfl) (fun _ h => by cases h) isaDecodes_row_tie rfl ⟨rfl, rfl⟩ (by kernel_rfl) rfl
    (fun f fn hf hfn => by
      obtain rfl : f = 3 := Option.some.inj ((show Tryd.prog.funcNamed "mummer/mummerlaw02.IsaDecodes" = some 3 by kernel_rfl).symm.trans hf) |>.symm
      obtain rfl : fn = Tryd.f3 := (Option.some.inj (Tryd.func3.symm.trans hfn)).symm
      exact ⟨by kernel_rfl, fun j t ht => by
        rw [Tryd.params3] at ht
        have hm : t ∈ [22, 4] := by simpa using Array.mem_of_getElem? ht
        have hall : ([22, 4].all fun u => !Tryd.prog.wantsStandIn u) = true := by kernel_rfl
        exact (show Tryd.prog.wantsStandIn t = false by simpa using List.all_eq_true.1 hall t hm)⟩)
    (by kernel_rfl)
#print axioms isaDecodes_holds
end Go.Proofs.YtmmgknchbebbjaaDoor
