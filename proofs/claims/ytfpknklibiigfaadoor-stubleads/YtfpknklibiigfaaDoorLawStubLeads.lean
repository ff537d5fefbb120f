/- For any two addresses, each below 32768, the law StubLeads returns true: a jump that may be leads, done where it stands, to where it was asked to; the code's two tables hold what its text lays. -/
import Derived.Test.YtfpknklibiigfaaDoorRows
import Derived.Test.YtfpknklibiigfaaDoorTie
import Derived.Test.YtfpknklibiigfaaDoorCards
import Derived.Test.YtfpknklibiigfaaDoorRowin
import Derived.Test.YtfpknklibiigfaaDoorStmk
import Derived.Test.YtfpknklibiigfaaDoorStdo
import Derived.Test.YtfpknklibiigfaaDoorDecode
import Derived.WalkKit
import Derived.ProofKit
import Derived.OpenShut
import Derived.ShutString
import Derived.ChangeOld
import Derived.Below
import Derived.Lib.SmallJoins
import Derived.Lay
import Derived.SevenTiedAt
import Derived.Stop.Joined
namespace Go.Proofs.YtfpknklibiigfaaDoor.stubLeads
open Go.ChangeShapes Go.WideShapes Go.ChangeAt Go.RowKit
set_option linter.unusedVariables false
set_option linter.unusedSimpArgs false

theorem own : ownKnob Tryd.prog.godebug = none := by kernel_rfl
theorem laidOut : laidOutB Tryd.prog = true := by kernel_rfl

abbrev laidL : List (String × DataW Unit) := [("mummer/isa.forms", Rows.laid_mummer_isa_forms), ("mummer/isa.spans", Rows.laid_mummer_isa_spans)]

theorem u16_of {a : Int} (h : (Lit.int .u16 a).wf = true) : 0 ≤ a ∧ a < 65536 := by
  simp [Lit.wf, IntKind.min, IntKind.max, IntKind.signed, IntKind.bits] at h; omega
theorem jdec (f : Int) (h2 : -32768 ≤ f) (h3 : f ≤ 32767) : insD 7 [64, f % 256, f / 256 % 256] 3 = insA 64 0 0 f ∧ numD 7 [64, f % 256, f / 256 % 256] 3 = 3 ∧ errD 7 [64, f % 256, f / 256 % 256] 3 = 0 := by
  have hok : okD 7 [64, f % 256, f / 256 % 256] 3 = true := rfl
  obtain ⟨y1, y2, y3, _⟩ := dec_yes hok
  refine ⟨?_, y2, y3⟩
  have e1 : rawOf 7 [64, f % 256, f / 256 % 256] = f % 65536 := by show (0 : Int) + f % 256 * 2 ^ (8 * 0) + f / 256 % 256 * 2 ^ (8 * 1) = _; omega
  have e : immOf 7 [64, f % 256, f / 256 % 256] = f := by
    unfold immOf; rw [e1, show hi 7 = 32767 from rfl, show lo 7 = -32768 from rfl]; split <;> omega
  rw [y1, e]; rfl
theorem sJ_v (a : Int) : (sJ a).v = #[.int .u32 0, .int .u32 0, .int .u32 0, .int .u32 0, .int .u32 0, .int .u32 0, .int .u32 0, .int .u32 0, .int .u32 a, .int .u32 0, .int .u32 0, .int .u32 0, .int .u32 0, .int .u32 0, .int .u32 0, .int .u32 0, .int .u32 0, .int .u32 0, .bool false] := rfl

set_option maxHeartbeats 4000000 in
set_option maxRecDepth 100000 in
theorem walk (a0 : Int) (w0 : (Lit.int .u16 a0).wf = true) (a1 : Int) (w1 : (Lit.int .u16 a1).wf = true) (w : World) (hT : Tabs w) :
    Calls Tryd.prog 7 #[.int .u16 a0, .int .u16 a1] w fun e w' => e = .returned (.bool true) ∧ Kep w w' := by
  have hw0 := u16_of w0
  have hw1 := u16_of w1
  have hT' : Hid (Tabs w) := hT
  obtain ⟨a, ha⟩ : ∃ a, Hid (a0 % 32768 = a) := ⟨_, rfl⟩
  obtain ⟨t, ht⟩ : ∃ t, Hid (a1 % 32768 = t) := ⟨_, rfl⟩
  have ra : 0 ≤ a ∧ a ≤ 32767 := by have := ha.out; omega
  have rt : 0 ≤ t ∧ t ≤ 32767 := by have := ht.out; omega
  have hj : jokB a t = true := by unfold jokB; simp [ra, rt]
  have qa := ha.out
  have qt := ht.out
  by_cases hf : -32768 ≤ jfar a t
  · have hS : Hid (∀ w, Tabs w → _) := fun w hT => stjump_ok a t hj hf w hT
    have e0 : jfar a t = t - a - 3 := rfl
    have hD : Hid (∀ w, Tabs w → _) := fun w hT => stdo a (jfar a t) t ra.1 ra.2 hf (by omega) rt.1 (by omega) w hT
    have hJ : Hid (insD 7 [64, jfar a t % 256, jfar a t / 256 % 256] 3 = insA 64 0 0 (jfar a t) ∧ numD 7 [64, jfar a t % 256, jfar a t / 256 % 256] 3 = 3 ∧ errD 7 [64, jfar a t % 256, jfar a t / 256 % 256] 3 = 0) := jdec _ hf (by omega)
    have hfit : Hid (∀ x ∈ [64, jfar a t % 256, jfar a t / 256 % 256], 0 ≤ x ∧ x < 256) := by
      intro x hx; simp at hx; omega
    have hzat : Hid (zat [64, jfar a t % 256, jfar a t / 256 % 256] 0 = 64) := by exact (rfl : zat [64, jfar a t % 256, jfar a t / 256 % 256] 0 = 64)
    clear e0
    generalize jfar a t = f at hS hD hJ hfit hf hzat
    generalize [64, f % 256, f / 256 % 256] = L at hS hJ hfit hzat
    clear hj hT hf
    go_enter Tryd.func7, Tryd.ntmps7
    go_wp2_with fail
    refine Calls.mono (hS.out _ hT'.out) ?_
    rintro e w3 ⟨C, c, rfl, hown, g1⟩
    have G1 : Hid (Kep w w3) := g1
    have hB : Bytes w3 C 0 3 c L := owns_bytes hown hfit.out (Nat.le_refl _)
    have hd := decode_any C 0 3 c L false 7 (by rw [hzat.out]; rfl) w3 (by decide) hB (hT'.out.grown G1.out)
    rw [hJ.out.1, hJ.out.2.1, hJ.out.2.2] at hd
    have hd' : Hid _ := hd
    clear hd hB hown g1 hS hJ hfit hzat
    go_wp2_with fail
    refine Calls.mono hd'.out ?_
    rintro e w4 ⟨rfl, g4⟩
    have G4 : Hid (Kep w w4) := kep_trans G1.out g4
    clear g4 hd' G1
    go_wp2_with fail
    refine Calls.mono (hD.out _ (hT'.out.grown (G4.out.alloc _))) ?_
    rintro e w5 ⟨S, hpc, rfl, g5⟩
    have G5 : Hid (Kep w w5) := kep_trans (G4.out.alloc _) g5
    clear g5 hD G4
    go_upto_region 7 with (first | (refine wpList_store_row (by rfl) 43 _ _ (by rfl) _ _ (by rfl) (by rfl) 43 #[.int .u32 0, .int .u32 0, .int .u32 0, .int .u32 0, .int .u32 0, .int .u32 0, .int .u32 0, .int .u32 0, .int .u32 0, .int .u32 0, .int .u32 0, .int .u32 0, .int .u32 0, .int .u32 0, .int .u32 0, .int .u32 0, .int .u32 0, .int .u32 0, .bool false] blkA (by exact size_sta) (by rfl) (v_one _) ?_) | (refine wpList_store_row (by rfl) 45 _ _ (by rfl) _ _ (by rfl) (by rfl) 45 #[.int .i64 0, .int .u32 0] blkA (by exact size_flt) (by rfl) (by simp [Value.oneCell']) ?_))
    dsimp only [Act.put]
    generalize hV : World.setRow (World.setRow (World.alloc (World.alloc w5 _) _) _ _) _ _ = V
    have AV : At V w5.heap.size S := by rw [← hV]; unfold At; (repeat (first | (with_reducible assumption) | (with_reducible exact Hid.out (by assumption)) | (with_reducible refine (hsk _ _ _ (by (first | omega | (simp only [World.size_alloc, World.size_setCell, size_setRow, World.size_drew]; done) | (simp only [World.size_alloc, World.size_setCell, size_setRow, World.size_drew]; omega)))).trans ?_) | (with_reducible refine (hat _ _ _ (by (first | omega | (simp only [World.size_alloc, World.size_setCell, size_setRow, World.size_drew]; done) | (simp only [World.size_alloc, World.size_setCell, size_setRow, World.size_drew]; omega))))) | (with_reducible refine Kep.block (Kep.alloc (Kep.refl _) _) ?_) | (with_reducible refine (heap_setCell_other _ _ _ _ (by (first | omega | (simp only []; omega) | (show _ ≠ _; omega)))).trans ?_) | (with_reducible refine (setRow_other _ _ _ _ (by (first | omega | (simp only []; omega) | (show _ ≠ _; omega)))).trans ?_) | (with_reducible refine (drew_heap _ _).trans ?_) | (with_reducible refine (drewN_heap _ _ _).trans ?_) | (with_reducible refine Kep.block (by assumption) ?_) | (with_reducible exact setRow_heap _ _ _ _ _ _ (by (repeat (first | (with_reducible assumption) | (with_reducible exact Hid.out (by assumption)) | (with_reducible refine (hsk _ _ _ (by (first | omega | (simp only [World.size_alloc, World.size_setCell, size_setRow, World.size_drew]; done) | (simp only [World.size_alloc, World.size_setCell, size_setRow, World.size_drew]; omega)))).trans ?_) | (with_reducible refine (hat _ _ _ (by (first | omega | (simp only [World.size_alloc, World.size_setCell, size_setRow, World.size_drew]; done) | (simp only [World.size_alloc, World.size_setCell, size_setRow, World.size_drew]; omega))))) | (with_reducible refine Kep.block (Kep.alloc (Kep.refl _) _) ?_) | (with_reducible refine (heap_setCell_other _ _ _ _ (by (first | omega | (simp only []; omega) | (show _ ≠ _; omega)))).trans ?_) | (with_reducible refine (setRow_other _ _ _ _ (by (first | omega | (simp only []; omega) | (show _ ≠ _; omega)))).trans ?_) | (with_reducible refine (drew_heap _ _).trans ?_) | (with_reducible refine (drewN_heap _ _ _).trans ?_)))))))
    have FV : V.heap[w5.heap.size + 1]? = some (.cells (fltV (0, 0)) 45 (0, 0)) := by rw [← hV]; (repeat (first | (with_reducible assumption) | (with_reducible exact Hid.out (by assumption)) | (with_reducible refine (hsk _ _ _ (by (first | omega | (simp only [World.size_alloc, World.size_setCell, size_setRow, World.size_drew]; done) | (simp only [World.size_alloc, World.size_setCell, size_setRow, World.size_drew]; omega)))).trans ?_) | (with_reducible refine (hat _ _ _ (by (first | omega | (simp only [World.size_alloc, World.size_setCell, size_setRow, World.size_drew]; done) | (simp only [World.size_alloc, World.size_setCell, size_setRow, World.size_drew]; omega))))) | (with_reducible refine Kep.block (Kep.alloc (Kep.refl _) _) ?_) | (with_reducible refine (heap_setCell_other _ _ _ _ (by (first | omega | (simp only []; omega) | (show _ ≠ _; omega)))).trans ?_) | (with_reducible refine (setRow_other _ _ _ _ (by (first | omega | (simp only []; omega) | (show _ ≠ _; omega)))).trans ?_) | (with_reducible refine (drew_heap _ _).trans ?_) | (with_reducible refine (drewN_heap _ _ _).trans ?_) | (with_reducible refine Kep.block (by assumption) ?_) | (with_reducible exact setRow_heap _ _ _ _ _ _ (by (repeat (first | (with_reducible assumption) | (with_reducible exact Hid.out (by assumption)) | (with_reducible refine (hsk _ _ _ (by (first | omega | (simp only [World.size_alloc, World.size_setCell, size_setRow, World.size_drew]; done) | (simp only [World.size_alloc, World.size_setCell, size_setRow, World.size_drew]; omega)))).trans ?_) | (with_reducible refine (hat _ _ _ (by (first | omega | (simp only [World.size_alloc, World.size_setCell, size_setRow, World.size_drew]; done) | (simp only [World.size_alloc, World.size_setCell, size_setRow, World.size_drew]; omega))))) | (with_reducible refine Kep.block (Kep.alloc (Kep.refl _) _) ?_) | (with_reducible refine (heap_setCell_other _ _ _ _ (by (first | omega | (simp only []; omega) | (show _ ≠ _; omega)))).trans ?_) | (with_reducible refine (setRow_other _ _ _ _ (by (first | omega | (simp only []; omega) | (show _ ≠ _; omega)))).trans ?_) | (with_reducible refine (drew_heap _ _).trans ?_) | (with_reducible refine (drewN_heap _ _ _).trans ?_)))))))
    have GV : Hid (Kep w V) := kep_trans G5.out (by rw [← hV]; (repeat (first | (with_reducible assumption) | (with_reducible exact Kep.refl _) | (with_reducible exact Hid.out (by assumption)) | (with_reducible refine Kep.alloc ?_ _) | (with_reducible refine Kep.drew ?_) | (with_reducible refine Kep.drewN ?_ _) | (with_reducible refine Kep.setRow ?_ _ _ (by (first | omega | (simp only [World.size_alloc, World.size_setCell, size_setRow, World.size_drew]; done) | (simp only [World.size_alloc, World.size_setCell, size_setRow, World.size_drew]; omega)))) | (with_reducible refine Kep.setCell ?_ (by first | omega | (simp only []; omega) | (show _ ≤ _; omega)) _))))
    have d8 := AV.pc
    rw [hpc] at d8
    have f0 : V.cell? ⟨w5.heap.size + 1, 0, none⟩ = some (.int .i64 0) := cell_of_block FV
    clear AV FV hV hpc
    go_wp2_with fail
    refine (works19_any _ (hT'.out.grown GV.out)).mono ?_
    rintro e w8 ⟨rfl, g8⟩
    go_wp2_with fail
    go_ret
    exact ⟨rfl, kep_trans GV.out g8⟩
  · have hS : Hid (∀ w, Tabs w → _) := fun w hT => stjump_long a t hj (by omega) w hT
    have hl : t - a - 3 < -32768 := by unfold jfar at hf; omega
    clear hj hT hf
    go_enter Tryd.func7, Tryd.ntmps7
    go_wp2_with fail
    refine Calls.mono (hS.out _ hT'.out) ?_
    rintro e w3 ⟨rfl, g1⟩
    have G1 : Hid (Kep w w3) := g1
    clear g1
    go_wp2_with fail
    refine (works19_any _ (hT'.out.grown G1.out)).mono ?_
    rintro e w8 ⟨rfl, g8⟩
    go_wp2_with fail
    go_ret
    exact ⟨rfl, kep_trans G1.out g8⟩

set_option maxRecDepth 100000 in
theorem lifted (os : Os) (started : os.Started) (H : Type) (enc : TypeId × Value → H) :
    ReturnsInHanded {} Tryd.checked os 7 .any (fun w args => (Rows.stubLeadsSpec.pre enc Tryd.prog Tryd.f7 Rows.stubLeadsRow.domain false w args ∧ laidMetH Tryd.prog laidL w) ∧ sizedMet enc Tryd.prog Tryd.f7 (OpenSpec.ofChange Rows.stubLeadsSpec) false w args)
      (Rows.stubLeadsSpec.post enc Tryd.prog Tryd.f7 false true false false) := by
  refine returnsInHanded_of_change_and (C := Tryd.checked) (X := fun w _ => laidMetH Tryd.prog laidL w) (fun _ _ _ hh h => h.of_heap hh) own started (by kernel_rfl) Tryd.func7
    (ChangeSpec.witness_shaped (enc := enc) (C := Tryd.checked) (os := os) (X := fun w _ => laidMetH Tryd.prog laidL w) false (World.laidAll Tryd.prog os laidL) #[.int .u16 0, .int .u16 0] 8 (World.laidAll_os _ _ _)
      (World.shaped_of_ZipB (by kernel_rfl) (by kernel_rfl)) (by kernel_rfl) (by kernel_rfl) (by kernel_rfl)
      (by rw [MakeChecks.laidMetH_plain _ _ _ (by kernel_rfl)]; exact laidMet_laidAll _ (by kernel_rfl) (by kernel_rfl))) ?_
  intro W base args ds gs before hval0 hW hcnd hsz0 hL _
  have hval : ∀ (j : Nat) t v, Tryd.f7.params[j]? = some t → args[j]? = some v → Value.okWide Tryd.prog W .any base t v := hval0
  have hW' := hW
  obtain ⟨p, q, hA0, hV, rfl, hfz, hnd⟩ := hW
  have hA : DataW.TrodAll enc Tryd.prog W 0 (fun _ => true) true Tryd.f7.params.toList args.toList ds p := hA0
  rw [Tryd.params7] at hA hval
  obtain ⟨v0, vs0, d0, ds0, p0, q0, hargs, rfl, rfl, h0, r0⟩ := trodAll_cons hA
  obtain ⟨v1, vs1, d1, ds1, p1, q1, rfl, rfl, rfl, h1, r1⟩ := trodAll_cons r0
  obtain ⟨rfl, rfl, rfl⟩ := trodAll_nil r1
  obtain rfl : args = #[v0, v1] := by cases args; simp_all
  obtain ⟨rfl, rfl⟩ := trodVars_none hV
  have k0 := h0
  have lt0 : ∀ x ∈ p0, x.block < W.heap.size := by obtain ⟨m, hm⟩ := k0; exact DataW.trod_lt m _ _ _ hm
  obtain ⟨a0, rfl, rfl, rfl, w0⟩ := open_int Tryd.underlying34 (hval 0 34 v0 rfl rfl) h0
  have k1 := h1
  have lt1 : ∀ x ∈ p1, x.block < W.heap.size := by obtain ⟨m, hm⟩ := k1; exact DataW.trod_lt m _ _ _ hm
  obtain ⟨a1, rfl, rfl, rfl, w1⟩ := open_int Tryd.underlying34 (hval 1 34 v1 rfl rfl) h1
  clear hA0 hval0
  refine (walk a0 w0 a1 w1 W  (tabs_of_laid hL)).mono fun e W' ⟨he, bel0⟩ => ?_
  have bel : Below W.heap.size W W' := bel0
  subst he
  exact ⟨_, rfl, _, _, _, [], _, [], hW', trodAll_mk1 (shut_bool Tryd.underlying4 _), (trodAll_cons_mk (Below.trod laidOut (by kernel_rfl) (of_decide_eq_true (by kernel_rfl)) k0 bel lt0) (trodAll_cons_mk (Below.trod laidOut (by kernel_rfl) (of_decide_eq_true (by kernel_rfl)) k1 bel lt1) trodAll_mk0)), rfl, bel.frame _, fun h => by cases h⟩

theorem over : Rows.stubLeadsRow.holds Tryd.pinned (OpenSpec.ofChange Rows.stubLeadsSpec) :=
  OpenClaim.holds_of_wide 7 Tryd.f7 rfl rfl rfl rfl rfl rfl rfl ⟨rfl, rfl, rfl, rfl, rfl⟩ rfl rfl rfl rfl rfl (by kernel_rfl) Tryd.func7 (by kernel_rfl)
    (of_decide_eq_true (by kernel_rfl)) (by unfold Func.isWrapper; first | (rw [if_pos (by decide +kernel)]; kernel_rfl) | (rw [if_neg (by decide +kernel)]; exact ⟨rfl, rfl⟩))
    (fun os started H enc _ => lifted os started H enc)
end Go.Proofs.YtfpknklibiigfaaDoor.stubLeads
namespace Go.Proofs.YtfpknklibiigfaaDoor

theorem stubLeads_holds : Rows.StubLeadsCardSaid :=
  Claim7.holds_tied_plain_at .later [] [.data, .data] true (true, "676b17985a43b2066e486873b87786ea447950c48d3136ce4c60c0da833c37cb") true stubLeads.over (fun _ h => by cases h) (by kernel_rfl) (fun _ h => by cases h) stubLeads_row_tie rfl ⟨rfl, rfl⟩ (by kernel_rfl) rfl
    (fun f fn hf hfn => by
      obtain rfl : f = 7 := Option.some.inj ((show Tryd.prog.funcNamed "mummer/mummerlaw19.StubLeads" = some 7 by kernel_rfl).symm.trans hf) |>.symm
      obtain rfl : fn = Tryd.f7 := (Option.some.inj (Tryd.func7.symm.trans hfn)).symm
      exact ⟨by kernel_rfl, fun j t ht => by
        rw [Tryd.params7] at ht
        have hm : t ∈ [34, 34] := by simpa using Array.mem_of_getElem? ht
        have hall : ([34, 34].all fun u => !Tryd.prog.wantsStandIn u) = true := by kernel_rfl
        exact (show Tryd.prog.wantsStandIn t = false by simpa using List.all_eq_true.1 hall t hm)⟩)
    (by kernel_rfl)
#print axioms stubLeads_holds
end Go.Proofs.YtfpknklibiigfaaDoor
