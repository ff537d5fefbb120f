/- For every row of instructions, the law KindAgain returns true: a table that was asked ahead knows the same as one that was just made; the code's two tables of forms hold what its text lays. -/
import Derived.Test.YtppcfhaiogjfgaaDoorRows
import Derived.Test.YtppcfhaiogjfgaaDoorTie
import Derived.Test.YtppcfhaiogjfgaaDoorCards
import Derived.Test.YtppcfhaiogjfgaaDoorTab
import Derived.Test.YtppcfhaiogjfgaaDoorWord
import Derived.Test.YtppcfhaiogjfgaaDoorKag
import Derived.Test.YtppcfhaiogjfgaaDoorInsrow
import Derived.WalkKit
import Derived.ProofKit
import Derived.OpenShut
import Derived.ShutString
import Derived.ChangeOld
import Derived.Below
import Derived.Lib.SmallJoins
import Derived.Lay
import Derived.SevenTiedAt
import Derived.Stop.Joined
namespace Go.Proofs.YtppcfhaiogjfgaaDoor.kindAgain
open Go.ChangeShapes Go.WideShapes Go.ChangeAt Go.RowKit
set_option linter.unusedVariables false

theorem own : ownKnob Tryd.prog.godebug = none := by kernel_rfl
theorem laidOut : laidOutB Tryd.prog = true := by kernel_rfl

abbrev laidL : List (String × DataW Unit) := [("mummer/isa.forms", Rows.laid_mummer_isa_forms), ("mummer/isa.spans", Rows.laid_mummer_isa_spans)]

theorem c0 : gC (tabF 0) = 1 := by decide +kernel

set_option maxHeartbeats 8000000 in
theorem walk (x0 : Option Addr) (len0 cap0 : Nat) (w : World) (w0 : InsRow w x0 len0 cap0) (hT : Tabs w) :
    Calls Tryd.prog 5 #[.slice x0 len0 cap0] w fun e w' => e = .returned (.bool true) ∧ Kep w w' := by
  have hC0 : Hid (∀ w2 p o kb, Tb w w2 p o kb → Calls Tryd.prog 10 #[.pointer (some ⟨p, 0, none⟩), .int .u8 0] w2 fun e w' => e = .returned (.int .i64 1) ∧ Tb w w' p o kb ∧ Stp o kb w2 w') := fun w2 p o kb h => c0 ▸ class_any 0 (by decide) (by decide) w w2 p o kb h
  have hT' : Hid (Tabs w) := hT
  have hI : Hid (InsRow w x0 len0 cap0) := w0
  have hlen : (len0 : Int) ≤ 9223372036854775807 := by
    rcases w0 with h | ⟨_, _, _, h1, h2, _⟩
    · omega
    · unfold maxLen at h2; omega
  clear hT w0
  go_enter Tryd.func5, Tryd.ntmps5
  go_wp2_with fail
  refine (new_call _).mono ?_
  rintro e w1 ⟨p, o, kb, rfl, T1⟩
  go_wp2_with fail
  go_loopw [4] (fun i wr => ∃ k : Nat, (k : Int) ≤ 50 ∧ (k : Int) ≤ len0 ∧ i = .int .i64 k ∧ Hid (Tb w wr p o kb)) (fun i _ => 60 - (intOf i).toNat)
  case atStart => exact ⟨0, by omega, by omega, rfl, T1⟩
  case round =>
    obtain ⟨k, hk1, hk2, rfl, Tk⟩ := hrel
    clear T1
    by_cases hend : (k : Int) < len0 ∧ (k : Int) < 50
    · obtain ⟨hl, h50⟩ := hend
      rcases hI.out with h0 | ⟨b, off, hx, g1, g2, g3, g4⟩
      · omega
      obtain ⟨op, a, c, imm, ⟨m0, m1, m2, m3⟩, q0, q1, q2, q3⟩ := g4 k (by omega)
      have r0 := word8 q0
      have r1 := word8 q1
      have r2 := word8 q2
      have r3 := word32 q3
      subst hx
      have hA : Hid (∀ w2 p o kb, Tb w w2 p o kb → Calls Tryd.prog 10 #[.pointer (some ⟨p, 0, none⟩), .int .u8 op] w2 fun e w' => e = .returned (.int .i64 (gC (tabF op))) ∧ Tb w w' p o kb ∧ Stp o kb w2 w') := fun w2 p o kb h => class_any op r0.1 r0.2 w w2 p o kb h
      have hB : Hid (∀ w2 p o kb, Tb w w2 p o kb → Calls Tryd.prog 8 #[.pointer (some ⟨p, 0, none⟩), .agg (insA op a c imm)] w2 fun e w' => e = .returned (.int .u8 (setB (mayB (rowOf op true) a c imm) (gRa (tabF op)) (gRb (tabF op)) (gRi (tabF op)) a c)) ∧ Tb w w' p o kb ∧ Stp o kb w2 w') := fun w2 p o kb h => reads_any op a c imm r0.1 r0.2 r3.1 r3.2 r1.1 r2.1 w w2 p o kb hT'.out h
      have hC : Hid (∀ w2 p o kb, Tb w w2 p o kb → Calls Tryd.prog 9 #[.pointer (some ⟨p, 0, none⟩), .agg (insA op a c imm)] w2 fun e w' => e = .returned (.int .u8 (setB (mayB (rowOf op true) a c imm) (gWa (tabF op)) (gWb (tabF op)) (gWi (tabF op)) a c)) ∧ Tb w w' p o kb ∧ Stp o kb w2 w') := fun w2 p o kb h => writes_any op a c imm r0.1 r0.2 r3.1 r3.2 r1.1 r2.1 w w2 p o kb hT'.out h
      have hD : Hid (∀ w2 p o kb, Tb w w2 p o kb → Calls Tryd.prog 11 #[.pointer (some ⟨p, 0, none⟩), .int .u8 op] w2 fun e w' => e = .returned (.bool (gT (tabF op))) ∧ Tb w w' p o kb ∧ Stp o kb w2 w') := fun w2 p o kb h => turns_any op r0.1 r0.2 w w2 p o kb h
      generalize setB (mayB (rowOf op true) a c imm) (gRa (tabF op)) (gRb (tabF op)) (gRi (tabF op)) a c = RR at hB
      generalize setB (mayB (rowOf op true) a c imm) (gWa (tabF op)) (gWb (tabF op)) (gWi (tabF op)) a c = VV at hC
      generalize gC (tabF op) = CC at hA
      generalize gT (tabF op) = TT at hD
      have hwb : b < wr.heap.size := Tk.out.kep.lt g3
      have x0 : wr.cell? ⟨b, off + k * 4, none⟩ = some (.int .u8 op) := (Tk.out.kep.cell g3).trans m0
      have x1 : wr.cell? ⟨b, off + k * 4 + 1, none⟩ = some (.int .u8 a) := (Tk.out.kep.cell g3).trans m1
      have x2 : wr.cell? ⟨b, off + k * 4 + 2, none⟩ = some (.int .u8 c) := (Tk.out.kep.cell g3).trans m2
      have x3 : wr.cell? ⟨b, off + k * 4 + 3, none⟩ = some (.int .i32 imm) := (Tk.out.kep.cell g3).trans m3
      have hcap : (len0 : Int) ≤ cap0 := by omega
      have hlo := Tk.out.asked.lt
      have hlp := block_ge Tk.out.tab
      have hws := Tk.out.kep.size
      clear g1 g2 g4 m0 m1 m2 m3 q0 q1 q2 q3 r0 r1 r2 r3
      go_wp2_with fail
      refine (new_any _).mono ?_
      rintro e w2 ⟨rfl, U2⟩
      have hk2' : Kep wr w2 := U2.kep
      have T2 : Tb w w2 p o kb := Tk.out.kp hk2'
      have V2 : Tb w w2 (wr.heap.size + 2) wr.heap.size (wr.heap.size + 1) := ⟨U2.tab, U2.asked, U2.po, U2.pk, T2.kep, hws, by omega⟩
      have y0 := (hk2'.cell (o := off + k * 4) hwb).trans x0
      have y1 := (hk2'.cell (o := off + k * 4 + 1) hwb).trans x1
      have y2 := (hk2'.cell (o := off + k * 4 + 2) hwb).trans x2
      have y3 := (hk2'.cell (o := off + k * 4 + 3) hwb).trans x3
      have zp := block_ge V2.tab
      have T3 : Hid (∀ x, Tb w (w2.alloc x) p o kb) := fun x => T2.kp ((Kep.refl _).alloc _)
      have V3 : Hid (∀ x, Tb w (w2.alloc x) (wr.heap.size + 2) wr.heap.size (wr.heap.size + 1)) := fun x => V2.kp ((Kep.refl _).alloc _)
      have hs2 := hk2'.size
      clear U2 hk2' T2 V2 x0 x1 x2 x3
      go_wp2_with fail
      have n1 : Hid (Apart p o kb (wr.heap.size + 2) wr.heap.size (wr.heap.size + 1)) := ⟨by omega, by omega, by omega, by omega, by omega, by omega⟩
      have n2 : Hid (Apart (wr.heap.size + 2) wr.heap.size (wr.heap.size + 1) p o kb) := ⟨by omega, by omega, by omega, by omega, by omega, by omega⟩
      have l0 : ∀ i : TW2 w (w2.alloc (.cells (insA op a c imm) 23)) p o kb (wr.heap.size + 2) wr.heap.size (wr.heap.size + 1), i.val.cell? ⟨w2.heap.size, 0, none⟩ = some (.int .u8 op) := fun i => (i.cell (by simp) (by omega) (by omega) (by omega) (by omega)).trans (cell_of_block (heap_alloc_new _ _))
      have l1 : ∀ i : TW2 w (w2.alloc (.cells (insA op a c imm) 23)) p o kb (wr.heap.size + 2) wr.heap.size (wr.heap.size + 1), i.val.cell? ⟨w2.heap.size, 1, none⟩ = some (.int .u8 a) := fun i => (i.cell (by simp) (by omega) (by omega) (by omega) (by omega)).trans (cell_of_block (heap_alloc_new _ _))
      have l2 : ∀ i : TW2 w (w2.alloc (.cells (insA op a c imm) 23)) p o kb (wr.heap.size + 2) wr.heap.size (wr.heap.size + 1), i.val.cell? ⟨w2.heap.size, 2, none⟩ = some (.int .u8 c) := fun i => (i.cell (by simp) (by omega) (by omega) (by omega) (by omega)).trans (cell_of_block (heap_alloc_new _ _))
      have l3 : ∀ i : TW2 w (w2.alloc (.cells (insA op a c imm) 23)) p o kb (wr.heap.size + 2) wr.heap.size (wr.heap.size + 1), i.val.cell? ⟨w2.heap.size, 3, none⟩ = some (.int .i32 imm) := fun i => (i.cell (by simp) (by omega) (by omega) (by omega) (by omega)).trans (cell_of_block (heap_alloc_new _ _))
      have hne : Nonempty (TW2 w (w2.alloc (.cells (insA op a c imm) 23)) p o kb (wr.heap.size + 2) wr.heap.size (wr.heap.size + 1)) := ⟨⟨_, T3.out _, V3.out _, Nat.le_refl _, fun _ _ _ _ _ _ => rfl⟩⟩
      refine region_tw2 (p2 := wr.heap.size + 2) (o2 := wr.heap.size) (kb2 := wr.heap.size + 1) (by kernel_rfl) (by kernel_rfl) (T3.out _) (V3.out _) ?_
      clear y0 y1 y2 y3
      repeat (go_big_quiet_step ((first
        | (go_at_call_of 10 (Value.pointer (some ⟨p, 0, none⟩)); refine (hA.out _ _ _ _ (TW2.t1 _)).mono ?_; rintro e w6 ⟨rfl, T6, S6⟩; exact ⟨rfl, TW2.on1 n1.out _ T6 S6⟩)
        | (go_at_call 10; refine (hA.out _ _ _ _ (TW2.t2 _)).mono ?_; rintro e w6 ⟨rfl, T6, S6⟩; exact ⟨rfl, TW2.on2 n2.out _ T6 S6⟩)
        | (go_at_call_of 8 (Value.pointer (some ⟨p, 0, none⟩)); refine (hB.out _ _ _ _ (TW2.t1 _)).mono ?_; rintro e w6 ⟨rfl, T6, S6⟩; exact ⟨rfl, TW2.on1 n1.out _ T6 S6⟩)
        | (go_at_call 8; refine (hB.out _ _ _ _ (TW2.t2 _)).mono ?_; rintro e w6 ⟨rfl, T6, S6⟩; exact ⟨rfl, TW2.on2 n2.out _ T6 S6⟩)
        | (go_at_call_of 9 (Value.pointer (some ⟨p, 0, none⟩)); refine (hC.out _ _ _ _ (TW2.t1 _)).mono ?_; rintro e w6 ⟨rfl, T6, S6⟩; exact ⟨rfl, TW2.on1 n1.out _ T6 S6⟩)
        | (go_at_call 9; refine (hC.out _ _ _ _ (TW2.t2 _)).mono ?_; rintro e w6 ⟨rfl, T6, S6⟩; exact ⟨rfl, TW2.on2 n2.out _ T6 S6⟩)
        | (go_at_call_of 11 (Value.pointer (some ⟨p, 0, none⟩)); refine (hD.out _ _ _ _ (TW2.t1 _)).mono ?_; rintro e w6 ⟨rfl, T6, S6⟩; exact ⟨rfl, TW2.on1 n1.out _ T6 S6⟩)
        | (go_at_call 11; refine (hD.out _ _ _ _ (TW2.t2 _)).mono ?_; rintro e w6 ⟨rfl, T6, S6⟩; exact ⟨rfl, TW2.on2 n2.out _ T6 S6⟩))))
      refine wpQuiet_nil ?_
      rintro _ ⟨i, rfl⟩
      have G3 : Hid (Tb w i.val p o kb) := i.t1
      clear l0 l1 l2 l3 hne
      go_wp2_with fail
      exact ⟨⟨k + 1, by omega, by omega, rfl, G3⟩, by simp [intOf]; omega⟩
    · rcases (by omega : ¬ (k : Int) < len0 ∨ ((k : Int) < len0 ∧ ¬ (k : Int) < 50)) with hq | ⟨hq, hq'⟩
      all_goals
        go_wp2_with fail
        refine (hC0.out _ _ _ _ Tk.out).mono ?_
        rintro e w5 ⟨rfl, t5, _⟩
        have T5 : Hid (Kep w w5) := t5.kep
        clear t5
        go_wp2_with fail
        go_ret
        exact ⟨rfl, T5.out⟩

set_option maxRecDepth 100000 in
theorem lifted (os : Os) (started : os.Started) (H : Type) (enc : TypeId × Value → H) :
    ReturnsInHanded {} Tryd.checked os 5 .any (fun w args => (Rows.kindAgainSpec.pre enc Tryd.prog Tryd.f5 Rows.kindAgainRow.domain false w args ∧ laidMetH Tryd.prog laidL w) ∧ sizedMet enc Tryd.prog Tryd.f5 (OpenSpec.ofChange Rows.kindAgainSpec) false w args)
      (Rows.kindAgainSpec.post enc Tryd.prog Tryd.f5 false true false false) := by
  refine returnsInHanded_of_change_and (C := Tryd.checked) (X := fun w _ => laidMetH Tryd.prog laidL w) (fun _ _ _ hh h => h.of_heap hh) own started (by kernel_rfl) Tryd.func5
    (ChangeSpec.witness_shaped (enc := enc) (C := Tryd.checked) (os := os) (X := fun w _ => laidMetH Tryd.prog laidL w) false (World.laidAll Tryd.prog os laidL) #[.slice none 0 0] 8 (World.laidAll_os _ _ _)
      (World.shaped_of_ZipB (by kernel_rfl) (by kernel_rfl)) (by kernel_rfl) (by kernel_rfl) (by kernel_rfl)
      (by rw [MakeChecks.laidMetH_plain _ _ _ (by kernel_rfl)]; exact laidMet_laidAll _ (by kernel_rfl) (by kernel_rfl))) ?_
  intro W base args ds gs before hval0 hW hcnd _ hL _
  have hval : ∀ (j : Nat) t v, Tryd.f5.params[j]? = some t → args[j]? = some v → Value.okWide Tryd.prog W .any base t v := hval0
  have hW' := hW
  obtain ⟨p, q, hA0, hV, rfl, hfz, hnd⟩ := hW
  have hA : DataW.TrodAll enc Tryd.prog W 0 (fun _ => true) true Tryd.f5.params.toList args.toList ds p := hA0
  rw [Tryd.params5] at hA hval
  obtain ⟨v0, vs0, d0, ds0, p0, q0, hargs, rfl, rfl, h0, r0⟩ := trodAll_cons hA
  obtain ⟨rfl, rfl, rfl⟩ := trodAll_nil r0
  obtain rfl : args = #[v0] := by cases args; simp_all
  obtain ⟨rfl, rfl⟩ := trodVars_none hV
  have k0 := h0
  have lt0 : ∀ x ∈ p0, x.block < W.heap.size := by obtain ⟨m, hm⟩ := k0; exact DataW.trod_lt m _ _ _ hm
  obtain ⟨x0, len0, cap0, rfl⟩ := okWide_slice Tryd.underlying36 (hval 0 36 v0 rfl rfl)
  have w0 : InsRow W x0 len0 cap0 := by
    obtain ⟨fuel, hf⟩ := h0
    exact ins_of hf
  clear hA0 hval0
  refine (walk x0 len0 cap0 W w0 (tabs_of_laid hL)).mono fun e W' ⟨he, bel0⟩ => ?_
  have bel : Below W.heap.size W W' := bel0
  subst he
  exact ⟨_, rfl, _, _, _, [], _, [], hW', trodAll_mk1 (shut_bool Tryd.underlying4 _), (trodAll_cons_mk (Below.trod laidOut (by kernel_rfl) (of_decide_eq_true (by kernel_rfl)) k0 bel lt0) trodAll_mk0), rfl, bel.frame _, fun h => by cases h⟩

theorem over : Rows.kindAgainRow.holds Tryd.pinned (OpenSpec.ofChange Rows.kindAgainSpec) :=
  OpenClaim.holds_of_wide 5 Tryd.f5 rfl rfl rfl rfl rfl rfl rfl ⟨rfl, rfl, rfl, rfl, rfl⟩ rfl rfl rfl rfl rfl (by kernel_rfl) Tryd.func5 (by kernel_rfl)
    (of_decide_eq_true (by kernel_rfl)) (by unfold Func.isWrapper; first | (rw [if_pos (by decide +kernel)]; kernel_rfl) | (rw [if_neg (by decide +kernel)]; exact ⟨rfl, rfl⟩))
    (fun os started H enc _ => lifted os started H enc)
end Go.Proofs.YtppcfhaiogjfgaaDoor.kindAgain
namespace Go.Proofs.YtppcfhaiogjfgaaDoor

theorem kindAgain_holds : Rows.KindAgainCardSaid :=
  Claim7.holds_tied_plain_at .later [] [.data, .data] true (true, "dcc5c0a8c2621bee4e9d18ea5a38d5e75f9257e1f8a7fff92252ec11809eac3a") false kindAgain.over (fun _ h => by cases h) (by kernel_rfl) (fun _ h => by cases h) kindAgain_row_tie rfl ⟨rfl, rfl⟩ (by kernel_rfl) rfl
    (fun f fn hf hfn => by
      obtain rfl : f = 5 := Option.some.inj ((show Tryd.prog.funcNamed "mummer/mummerlaw03.KindAgain" = some 5 by kernel_rfl).symm.trans hf) |>.symm
      obtain rfl : fn = Tryd.f5 := (Option.some.inj (Tryd.func5.symm.trans hfn)).symm
      exact ⟨by kernel_rfl, fun j t ht => by
        rw [Tryd.params5] at ht
        have hm : t ∈ [36] := by simpa using Array.mem_of_getElem? ht
        have hall : ([36].all fun u => !Tryd.prog.wantsStandIn u) = true := by kernel_rfl
        exact (show Tryd.prog.wantsStandIn t = false by simpa using List.all_eq_true.1 hall t hm)⟩)
    (by kernel_rfl)
#print axioms kindAgain_holds
end Go.Proofs.YtppcfhaiogjfgaaDoor
