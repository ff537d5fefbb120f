/- For every instruction, of a guest or of a host, and every number, the law IsaTorn returns true: an instruction's beginning is no other instruction, it goes on; the code's two tables hold what its text lays. -/
import Derived.Test.YtoealddommhgnabDoorRows
import Derived.Test.YtoealddommhgnabDoorTie
import Derived.Test.YtoealddommhgnabDoorCards
import Derived.Test.YtoealddommhgnabDoorTab
import Derived.Test.YtoealddommhgnabDoorWord
import Derived.Test.YtoealddommhgnabDoorWorks
import Derived.Test.YtoealddommhgnabDoorRowin
import Derived.Test.YtoealddommhgnabDoorInseq
import Derived.Test.YtoealddommhgnabDoorEncb
import Derived.WalkKit
import Derived.ProofKit
import Derived.OpenShut
import Derived.ShutString
import Derived.ChangeOld
import Derived.Below
import Derived.Lib.SmallJoins
import Derived.Lay
import Derived.SevenTiedAt
import Derived.Stop.Joined
namespace Go.Proofs.YtoealddommhgnabDoor.isaTorn
open Go.ChangeShapes Go.WideShapes Go.ChangeAt Go.RowKit
set_option linter.unusedVariables false

theorem own : ownKnob Tryd.prog.godebug = none := by kernel_rfl
theorem laidOut : laidOutB Tryd.prog = true := by kernel_rfl

abbrev laidL : List (String × DataW Unit) := [("mummer/isa.forms", Rows.laid_mummer_isa_forms), ("mummer/isa.spans", Rows.laid_mummer_isa_spans)]

theorem short_dec (r : Nat) (zs : List Int) (len : Nat) (h0 : r ≠ 0) (h : (len : Int) < sz r) : insD r zs len = zeroI ∧ numD r zs len = 0 ∧ errD r zs len = 20 := by
  have hno : okD r zs len = false := by unfold okD; simp; intro _ h'; omega
  refine ⟨?_, ?_, ?_⟩
  · unfold insD; rw [hno]; rfl
  · unfold numD; rw [hno]; rfl
  · unfold errD; rw [if_neg h0, if_pos h]

set_option maxHeartbeats 2000000 in
theorem walk (a0f0 : Int) (w0f0 : (Lit.int .u8 a0f0).wf = true) (a0f1 : Int) (w0f1 : (Lit.int .u8 a0f1).wf = true) (a0f2 : Int) (w0f2 : (Lit.int .u8 a0f2).wf = true) (a0f3 : Int) (w0f3 : (Lit.int .i32 a0f3).wf = true) (a1 : Bool) (a2 : Int) (w2 : (Lit.int .i64 a2).wf = true) (w : World) (hT : Tabs w) :
    Calls Tryd.prog 3 #[.agg #[.int .u8 a0f0, .int .u8 a0f1, .int .u8 a0f2, .int .i32 a0f3], .bool a1, .int .i64 a2] w fun e w' => e = .returned (.bool true) ∧ Kep w w' := by
  have hw0 := word8 w0f0
  have hw1 := word8 w0f1
  have hw2 := word8 w0f2
  have hw3 := word32 w0f3
  have hT' : Hid (Tabs w) := hT
  cases hm : mayB (rowOf a0f0 a1) a0f1 a0f2 a0f3
  · clear hT
    go_enter Tryd.func3, Tryd.ntmps3
    go_wp2_with fail
    refine (encode_no a0f0 a0f1 a0f2 a0f3 a1 hm _ hw0.1 hw0.2 hw3.1 hw3.2 (hT'.grown ((Kep.refl _).alloc _))).mono ?_
    rintro e w1 ⟨rfl, g1⟩
    have G1 : Hid (Kep w w1) := kep_trans ((Kep.refl _).alloc _) g1
    clear g1 hm
    go_wp2_with fail
    refine (works_any _ (hT'.grown G1)).mono ?_
    rintro e w2 ⟨rfl, g2⟩
    go_wp2_with fail
    go_ret
    exact ⟨rfl, kep_trans G1 g2⟩
  · have hr := rowOf_lt a0f0 a1
    obtain ⟨m0, m1, m2, m3, m4⟩ := may_parts hm
    obtain ⟨p1, p2, _, _⟩ := f12 _ hr
    have hlen := enc_len (rowOf a0f0 a1) a0f0 a0f1 a0f2 a0f3 hr m0
    have hs1 : 1 ≤ sz (rowOf a0f0 a1) ∧ sz (rowOf a0f0 a1) ≤ 6 := by rcases sz_cases _ hr m0 with h | h | h | h <;> omega
    have hfit := enc_fit (rowOf a0f0 a1) a0f0 a0f1 a0f2 a0f3 hw0.1 hw0.2 hw1.1 (by omega) hw2.1 (by omega)
    have hop := enc_op (rowOf a0f0 a1) a0f0 a0f1 a0f2 a0f3 []
    rw [List.append_nil] at hop
    go_enter Tryd.func3, Tryd.ntmps3
    go_wp2_with fail
    refine (encode_ok (rowOf a0f0 a1) hr m0 a0f0 a0f1 a0f2 a0f3 a1 rfl hm _ hw0.1 hw0.2 hw3.1 hw3.2 hw1.1 (by omega) hw2.1 (by omega) (hT'.grown ((Kep.refl _).alloc _))).mono ?_
    rintro e w1 ⟨B, rfl, hown, g1⟩
    have G1 : Hid (Kep w w1) := kep_trans ((Kep.refl _).alloc _) g1
    generalize encL (rowOf a0f0 a1) a0f0 a0f1 a0f2 a0f3 = L at *
    obtain ⟨n, hn⟩ : ∃ n, L.length = n := ⟨_, rfl⟩
    rw [hn] at hlen hown ⊢
    have hn1 : (1 : Int) ≤ n := by omega
    have hn6 : (n : Int) ≤ 6 := by omega
    have hn0 : ((n : Int) == 0) = false := by rw [beq_eq_false_iff_ne]; omega
    have hown' : Hid (w1.ownsRow _ 5 1 (.slice (some ⟨B, 0, none⟩) n n) n (bs L)) := hown
    obtain ⟨c, hc, hcn⟩ : ∃ c : Nat, wrap64 ((IntKind.u64.wrap a2).tmod (n : Int)) = c ∧ (c : Int) < n := by
      have h1 : 0 ≤ IntKind.u64.wrap a2 := by rw [IntKind.wrap_u64]; omega
      have h2 : (IntKind.u64.wrap a2).tmod (n : Int) = IntKind.u64.wrap a2 % n := Int.tmod_eq_emod_of_nonneg h1
      have h3 := Int.emod_nonneg (IntKind.u64.wrap a2) (b := (n : Int)) (by omega)
      have h4 := Int.emod_lt_of_pos (IntKind.u64.wrap a2) (b := (n : Int)) (by omega)
      refine ⟨(IntKind.u64.wrap a2 % n).toNat, ?_, by omega⟩
      rw [h2]; unfold wrap64; omega
    have hlen' : Hid ((n : Int) = sz (rowOf a0f0 a1)) := hlen
    have hrow : Hid (rowOf (zat L 0) a1 = rowOf a0f0 a1) := by unfold Hid; rw [hop]
    have hfit' : Hid (∀ x ∈ L, 0 ≤ x ∧ x < 256) := hfit
    have hsame := ins_same 0 0 0 0 (by decide) (by decide) (by decide) (by decide)
    have hcall : Hid (Calls Tryd.prog 7 #[.slice (some ⟨B, 0, none⟩) c n, .bool a1] w1 fun e w' => e = .returned (.tuple #[.agg zeroI, .int .i64 0, .int .i64 20]) ∧ Kep w1 w') := by
      rcases Nat.eq_zero_or_pos c with h | h
      · subst h; exact dec_empty _ _ _ _
      · have hd := short_dec (rowOf a0f0 a1) L c m0 (by omega)
        have := decode_any B 0 c n L a1 (rowOf a0f0 a1) hrow w1 h (owns_bytes hown' hfit (by omega)) (hT'.grown G1)
        rw [hd.1, hd.2.1, hd.2.2] at this
        exact this
    clear g1 hm hT hown hlen hop hfit hrow hlen' hown' hfit' hn m1 m2 m3 m4 p1 p2 hr m0 hs1
    go_wp2_with fail
    refine Calls.mono hcall.out ?_
    rintro e w2 ⟨rfl, g2⟩
    have G2 : Hid (∀ o, Kep w (w2.alloc o)) := fun o => (kep_trans G1 g2).alloc o
    clear g2 hcall
    go_wp2_with fail
    refine (works_any _ (hT'.grown (G2.out _))).mono ?_
    rintro e w3 ⟨rfl, g3⟩
    go_wp2_with fail
    go_ret
    exact ⟨rfl, kep_trans (G2.out _) g3⟩

set_option maxRecDepth 100000 in
theorem lifted (os : Os) (started : os.Started) (H : Type) (enc : TypeId × Value → H) :
    ReturnsInHanded {} Tryd.checked os 3 .any (fun w args => (Rows.isaTornSpec.pre enc Tryd.prog Tryd.f3 Rows.isaTornRow.domain false w args ∧ laidMetH Tryd.prog laidL w) ∧ sizedMet enc Tryd.prog Tryd.f3 (OpenSpec.ofChange Rows.isaTornSpec) false w args)
      (Rows.isaTornSpec.post enc Tryd.prog Tryd.f3 false true false false) := by
  refine returnsInHanded_of_change_and (C := Tryd.checked) (X := fun w _ => laidMetH Tryd.prog laidL w) (fun _ _ _ hh h => h.of_heap hh) own started (by kernel_rfl) Tryd.func3
    (ChangeSpec.witness_shaped (enc := enc) (C := Tryd.checked) (os := os) (X := fun w _ => laidMetH Tryd.prog laidL w) false (World.laidAll Tryd.prog os laidL) #[.agg #[.int .u8 0, .int .u8 0, .int .u8 0, .int .i32 0], .bool false, .int .i64 0] 8 (World.laidAll_os _ _ _)
      (World.shaped_of_ZipB (by kernel_rfl) (by kernel_rfl)) (by kernel_rfl) (by kernel_rfl) (by kernel_rfl)
      (by rw [MakeChecks.laidMetH_plain _ _ _ (by kernel_rfl)]; exact laidMet_laidAll _ (by kernel_rfl) (by kernel_rfl))) ?_
  intro W base args ds gs before hval0 hW hcnd _ hL _
  have hval : ∀ (j : Nat) t v, Tryd.f3.params[j]? = some t → args[j]? = some v → Value.okWide Tryd.prog W .any base t v := hval0
  have hW' := hW
  obtain ⟨p, q, hA0, hV, rfl, hfz, hnd⟩ := hW
  have hA : DataW.TrodAll enc Tryd.prog W 0 (fun _ => true) true Tryd.f3.params.toList args.toList ds p := hA0
  rw [Tryd.params3] at hA hval
  obtain ⟨v0, vs0, d0, ds0, p0, q0, hargs, rfl, rfl, h0, r0⟩ := trodAll_cons hA
  obtain ⟨v1, vs1, d1, ds1, p1, q1, rfl, rfl, rfl, h1, r1⟩ := trodAll_cons r0
  obtain ⟨v2, vs2, d2, ds2, p2, q2, rfl, rfl, rfl, h2, r2⟩ := trodAll_cons r1
  obtain ⟨rfl, rfl, rfl⟩ := trodAll_nil r2
  obtain rfl : args = #[v0, v1, v2] := by cases args; simp_all
  obtain ⟨rfl, rfl⟩ := trodVars_none hV
  have k0 := h0
  have lt0 : ∀ x ∈ p0, x.block < W.heap.size := by obtain ⟨m, hm⟩ := k0; exact DataW.trod_lt m _ _ _ hm
  obtain ⟨c0f0, c0f1, c0f2, c0f3, y0f0, y0f1, y0f2, y0f3, m0, rfl, _, _, e0f0, e0f1, e0f2, e0f3⟩ := Joins.open_agg4 Tryd.underlying23 (by kernel_rfl) (show Tryd.prog.cellsOf 23 = 4 by kernel_rfl) (hval 0 23 v0 rfl rfl) h0
  obtain ⟨a0f0, q0f0, _, w0f0⟩ := DataW.trod_int Tryd.underlying5 e0f0
  obtain rfl : c0f0 = .int .u8 a0f0 := by simpa using q0f0
  obtain ⟨a0f1, q0f1, _, w0f1⟩ := DataW.trod_int Tryd.underlying5 e0f1
  obtain rfl : c0f1 = .int .u8 a0f1 := by simpa using q0f1
  obtain ⟨a0f2, q0f2, _, w0f2⟩ := DataW.trod_int Tryd.underlying5 e0f2
  obtain rfl : c0f2 = .int .u8 a0f2 := by simpa using q0f2
  obtain ⟨a0f3, q0f3, _, w0f3⟩ := DataW.trod_int Tryd.underlying21 e0f3
  obtain rfl : c0f3 = .int .i32 a0f3 := by simpa using q0f3
  have k1 := h1
  have lt1 : ∀ x ∈ p1, x.block < W.heap.size := by obtain ⟨m, hm⟩ := k1; exact DataW.trod_lt m _ _ _ hm
  obtain ⟨a1, rfl, rfl, rfl⟩ := open_bool Tryd.underlying4 (hval 1 4 v1 rfl rfl) h1
  have k2 := h2
  have lt2 : ∀ x ∈ p2, x.block < W.heap.size := by obtain ⟨m, hm⟩ := k2; exact DataW.trod_lt m _ _ _ hm
  obtain ⟨a2, rfl, rfl, rfl, w2⟩ := open_int Tryd.underlying3 (hval 2 3 v2 rfl rfl) h2
  clear hA0 hval0
  refine (walk a0f0 w0f0 a0f1 w0f1 a0f2 w0f2 a0f3 w0f3 a1 a2 w2 W  (tabs_of_laid hL)).mono fun e W' ⟨he, bel0⟩ => ?_
  have bel : Below W.heap.size W W' := bel0
  subst he
  exact ⟨_, rfl, _, _, _, [], _, [], hW', trodAll_mk1 (shut_bool Tryd.underlying4 _), (trodAll_cons_mk (Below.trod laidOut (by kernel_rfl) (of_decide_eq_true (by kernel_rfl)) k0 bel lt0) (trodAll_cons_mk (Below.trod laidOut (by kernel_rfl) (of_decide_eq_true (by kernel_rfl)) k1 bel lt1) (trodAll_cons_mk (Below.trod laidOut (by kernel_rfl) (of_decide_eq_true (by kernel_rfl)) k2 bel lt2) trodAll_mk0))), rfl, bel.frame _, fun h => by cases h⟩

theorem over : Rows.isaTornRow.holds Tryd.pinned (OpenSpec.ofChange Rows.isaTornSpec) :=
  OpenClaim.holds_of_wide 3 Tryd.f3 rfl rfl rfl rfl rfl rfl rfl ⟨rfl, rfl, rfl, rfl, rfl⟩ rfl rfl rfl rfl rfl (by kernel_rfl) Tryd.func3 (by kernel_rfl)
    (of_decide_eq_true (by kernel_rfl)) (by unfold Func.isWrapper; first | (rw [if_pos (by decide +kernel)]; kernel_rfl) | (rw [if_neg (by decide +kernel)]; exact ⟨rfl, rfl⟩))
    (fun os started H enc _ => lifted os started H enc)
end Go.Proofs.YtoealddommhgnabDoor.isaTorn
namespace Go.Proofs.YtoealddommhgnabDoor

theorem isaTorn_holds : Rows.IsaTornCardSaid :=
  Claim7.holds_tied_plain_at .later [] [.data, .data] true (true, "b5535cc89f79ead74fbfa3d1c9c6e7fd6ff38318b1f7a69967c6e4a9dc5bfff0") false isaTorn.over (fun _ h => by cases h) (by kernel_rfl) (fun _ h => by cases h) isaTorn_row_tie rfl ⟨rfl, rfl⟩ (by kernel_rfl) rfl
    (fun f fn hf hfn => by
      obtain rfl : f = 3 := Option.some.inj ((show Tryd.prog.funcNamed "mummer/mummerlaw02.IsaTorn" = some 3 by kernel_rfl).symm.trans hf) |>.symm
      obtain rfl : fn = Tryd.f3 := (Option.some.inj (Tryd.func3.symm.trans hfn)).symm
      exact ⟨by kernel_rfl, fun j t ht => by
        rw [Tryd.params3] at ht
        have hm : t ∈ [23, 4, 3] := by simpa using Array.mem_of_getElem? ht
        have hall : ([23, 4, 3].all fun u => !Tryd.prog.wantsStandIn u) = true := by kernel_rfl
        exact (show Tryd.prog.wantsStandIn t = false by simpa using List.all_eq_true.1 hall t hm)⟩)
    (by kernel_rfl)
#print axioms isaTorn_holds
end Go.Proofs.YtoealddommhgnabDoor
