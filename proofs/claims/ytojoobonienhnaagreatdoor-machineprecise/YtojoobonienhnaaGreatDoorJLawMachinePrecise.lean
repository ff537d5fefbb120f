/- For every guest and number, the law MachinePrecise returns true: an instruction that comes to a fault leaves no other trace than the delivery of that fault. -/
import Derived.Test.YtojoobonienhnaaGreatDoorRows
import Derived.Test.YtojoobonienhnaaGreatDoorTie
import Derived.Test.YtojoobonienhnaaGreatDoorCards
import Derived.WalkKit
import Derived.ProofKit
import Derived.OpenShut
import Derived.ShutString
import Derived.ChangeOld
import Derived.Below
import Derived.Lib.SmallJoins
import Derived.Lay
import Derived.SevenTiedAt
import Derived.Stop.Joined
import Derived.Test.YtojoobonienhnaaGreatDoorJ94
namespace Go.Proofs.YtojoobonienhnaaGreatDoor.machinePrecise
open Go.ChangeShapes Go.WideShapes Go.ChangeAt Go.RowKit
set_option linter.unusedVariables false
set_option linter.unusedSimpArgs false
theorem own : ownKnob Tryz.prog.godebug = none := by kernel_rfl
theorem laidOut : laidOutB Tryz.prog = true := by kernel_rfl
abbrev laidL : List (String × DataW Unit) := [("mummer/isa.forms", Rows.laid_mummer_isa_forms), ("mummer/isa.spans", Rows.laid_mummer_isa_spans)]
theorem gst_size (fr : Int) (vi vc : Value) (en : Int) (s : Sta) (vs vd : Value) : (Tryz.prog.info? 41).map (·.size) = some (gstV fr vi vc en s vs vd).size := by kernel_rfl
theorem room_of {k : Nat} {x : MS} (hN : x.N = []) (hn : x.n = 0) (hO : x.d.O = []) (hk : k ≤ 900000) : Room k x := ⟨by rw [hN]; simpa using hk, by rw [hO]; simpa using hk, by rw [hn]; omega⟩
theorem prec_view {B : List Int} {f k : Nat} (hF : Fits B (List.range f)) (hk : k < f) : frameL (view B (List.range f)) k = frameL B k := by
  have h : 64 * f ≤ B.length := by have := hF (f - 1) (by simp; omega); omega
  rw [view_range f B h]
  unfold frameL
  rw [List.drop_take, List.take_take, Nat.min_eq_left (by omega)]
theorem oneB_ne {x : MS} {ix : List Nat} (ok : x.Ok) (hb : Byts x.B) (hf : Fits x.B ix) : (oneX x ix).B ≠ [] := (one_ok ok hb).B
theorem prec_str {w : World} {v : Value} {R : Nat} {ix : List Nat} {B : List Int} (h : Ram w v R ix) (hB : RowB w R B) (hf : Fits B ix) (n : Nat) (hn : n < ix.length) :
    Calls Tryz.prog 30 #[v, .int .i64 n] w fun e w' => ∃ b : Nat, e = .returned (.slice (some ⟨b, 0, none⟩) 64 64) ∧ Kep w w' ∧ Str w' (.slice (some ⟨b, 0, none⟩) 64 64) (strL (frameL B (ix.getD n 0))) := by
  refine (frame_yes w v R ix B h hB hf n hn).mono ?_
  rintro e w' ⟨rfl, k, hh⟩
  have hl : (frameL B (ix.getD n 0)).length = 64 := by
    have := hf (ix.getD n 0) (by simp [List.getD, hn])
    generalize ix.getD n 0 = m at *
    unfold frameL; simp; omega
  have hs := Lies.strAny (cap := 64) (lies_row (w := w') (rb := w.heap.size) (B := frameL B (ix.getD n 0)) (fun _ => hh) (by intro e; rw [e] at hl; simp at hl))
  rw [hl] at hs
  exact ⟨_, rfl, k, hs⟩
theorem one_fault {x : MS} {ix : List Nat} (ok : x.Ok) (hb : Byts x.B) (h : (oneV x ix).1 ≠ 0) : oneX x ix = dlvX x (oneV x ix).1 (oneV x ix).2 (backI x.s.pc (oneV x ix).1) ∧ 0 ≤ (oneV x ix).2 ∧ (oneV x ix).2 < 4294967296 := by
  have ht := try_ok ok.s ok.d hb ix
  unfold oneX oneV at *
  cases hh : x.s.h with
  | true => rw [hh] at h; simp at h
  | false =>
    rw [hh] at h
    simp only [Bool.false_eq_true, if_false] at h ⊢
    unfold oneF at *
    cases hf : tryF x.d x.B ix x.s with
    | fail k a => rw [hf] at ht; exact ⟨rfl, ht⟩
    | ok t q at_ rd wr port value => rw [hf] at h; exact absurd rfl h
set_option maxHeartbeats 8000000 in
set_option maxRecDepth 100000 in
theorem walk (fr : Int) (xi : Option Addr) (li ci : Nat) (Z : List Int) (xc : Option Addr) (lc cc : Nat) (C : List In4) (en : Int) (s : Sta) (xs : Option Addr) (ls cs : Nat) (E : List Ev) (xd : Option Addr) (ld cd : Nat) (D : List Int) (hfr : -9223372036854775808 ≤ fr ∧ fr ≤ 9223372036854775807) (a1 : Int) (w1 : (Lit.int .u8 a1).wf = true) (w : World) (w0 : GstIn w fr xi li ci Z xc lc cc C en s xs ls cs E xd ld cd D) (hT : Tabs w) :
    Calls Tryz.prog 6 #[.agg (gstV fr (.slice xi li ci) (.slice xc lc cc) en s (.slice xs ls cs) (.slice xd ld cd)), .int .u8 a1] w fun e w' => e = .returned (.bool true) ∧ Kep w w' := by
  have I' := hidd w0
  have T' := hidd hT
  have F' := hidd hfr
  obtain ⟨V, hV⟩ : ∃ V, Hid (gstV fr (.slice xi li ci) (.slice xc lc cc) en s (.slice xs ls cs) (.slice xd ld cd) = V) := ⟨_, rfl⟩
  obtain ⟨n, hn⟩ : ∃ n : Nat, a1 % 60 = (n : Int) ∧ n < 60 := ⟨(a1 % 60).toNat, by omega, by omega⟩
  obtain ⟨eqn, hn⟩ := hn
  have g1 := gu8_of w1
  have HM : Hid (∀ w', Kep w w' → Calls Tryz.prog 14 #[.agg V] w' (MadeP w' (nFr fr) (gstX fr Z C en s E D) (.slice xs ls cs) E D)) := fun w' k => by rw [← hV.out]; exact made12_any (I'.out.kep k) F'.out (T'.out.grown k)
  have HW : Hid (∀ w', Kep w w' → Calls Tryz.prog 11 #[] w' fun e w'' => e = .returned (.bool true) ∧ Kep w' w'') := fun w' k => works12_any w' (T'.out.grown k)
  rw [hV.out]
  have hsz : Hid ((Tryz.prog.info? 41).map (·.size) = some V.size) := by rw [Hid, ← hV.out]; exact gst_size _ _ _ _ _ _ _
  have HN := hidd hn
  clear w0 hfr hT w1 hn
  go_enter Tryz.func6, Tryz.ntmps6
  go_upto_region 1 with fail
  obtain ⟨i1, q1⟩ : ∃ i1, Hid (i1 = w.heap.size) := ⟨_, rfl⟩
  rw [← q1.out]
  have B1 := hidd (show (w.alloc (.cells V 41)).heap[i1]? = some (.cells V 41 (0, 0)) by rw [q1.out]; exact hat _ _ _ rfl)
  have K1 := hidd ((Kep.refl w).alloc (.cells V 41))
  generalize w.alloc (.cells V 41) = W1 at B1 K1 ⊢
  refine wp_region_lit ?_
  refine wpList_load_row (by rfl) 41 _ (by rfl) i1 (by rfl) 41 _ (0, 0) _ B1.out Tryz.underlying41 rfl hsz.out ?_
  go_wp2_with fail
  refine (HM.out W1 K1.out).mono ?_
  rintro e w3 (⟨he, rfl, k3⟩ | ⟨he, p, pm, R, G, q, Rb, G2, rfl, P⟩)
  · go_wp2_with fail
    go_ret
    exact ⟨rfl, kep_trans K1.out k3⟩
  obtain ⟨x, hx⟩ : ∃ x, Hid (gstX fr Z C en s E D = x) := ⟨_, rfl⟩
  have xn : Hid (x.n = 0) := by rw [Hid, ← hx.out]; rfl
  have xN : Hid (x.N = []) := by rw [Hid, ← hx.out]; rfl
  have xO : Hid (x.d.O = []) := by rw [Hid, ← hx.out]; rfl
  have xB : Hid (x.B ≠ []) := by
    rw [Hid, ← hx.out]
    intro e
    have h1 := gstL_len fr Z C en
    have h2 := nFr_range fr
    rw [show gstL fr Z C en = [] from e] at h1
    simp at h1; omega
  have okx : Hid x.Ok := by
    rw [Hid, ← hx.out]
    exact ms0_ok (ds0_ok he I'.out.ev I'.out.db) (errI_small he).1 (msk_ok I'.out.so) (by have h := xB.out; rw [← hx.out] at h; exact h)
  have nf := hidd (nFr_range fr)
  obtain ⟨f, hf⟩ : ∃ f, Hid (nFr fr = f) := ⟨_, rfl⟩
  rw [hf.out] at nf
  have M3 : Hid (Mine w [] p pm R (List.range f) x w3) := by
    rw [Hid, ← hf.out, ← hx.out]
    exact ⟨G, P.mch, kep_trans K1.out P.kep, fun g hg => by have := P.new g hg; have := K1.out.size; omega, by simp⟩
  have by3 : Hid (Byts x.B ∧ Fits x.B (List.range f)) := by obtain ⟨_, ⟨_, _, _, _, m, _⟩, _⟩ := M3.out; exact ⟨m.mem.byts, m.mem.fits⟩
  clear P HM B1 K1 he hf
  have rm0 : Hid (Room 200 x) := room_of xN.out xn.out xO.out (by omega)
  have okX := hidd (run_ok (m := 100) n okx.out by3.out.1 by3.out.2 (rm0.out.less (by have := HN.out; omega)))
  have ru1 : Hid (Calls Tryz.prog 15 #[.pointer (some ⟨p, 0, none⟩), .int .i64 n] w3 fun e w' => e = .returned (.int .i64 (runN (List.range f) n x)) ∧ Mine w [] p pm R (List.range f) (runX (List.range f) n x) w' ∧ Still [] w3 w') := M3.out.run okx.out T'.out n (by have := HN.out; omega) (rm0.out.less (by have := HN.out; omega))
  generalize runX (List.range f) n x = X at okX ru1
  generalize runN (List.range f) n x = a at ru1
  have in_ : (n : Int) < 60 := by have := HN.out; omega
  go_upto_region 5 with (go_at_call 15; refine ru1.out.mono ?_; rintro e w4 ⟨rfl, m4, _⟩)
  obtain ⟨G4, m4, k4, f4, _⟩ := m4
  have M4 := hidd m4
  have K4 := hidd k4
  have N4 := hidd f4
  clear m4 k4 f4 ru1 M3
  go_upto_region 6 with (first
    | (go_at_call 16; refine (mstate_any M4.out).mono ?_; rintro e w5 ⟨rfl, k5⟩)
    | (refine wpList_store_row (by rfl) 26 _ _ (by rfl) w5.heap.size X.s.v (by rfl) (by rfl) 26 #[.int .u32 0, .int .u32 0, .int .u32 0, .int .u32 0, .int .u32 0, .int .u32 0, .int .u32 0, .int .u32 0, .int .u32 0, .int .u32 0, .int .u32 0, .int .u32 0, .int .u32 0, .int .u32 0, .int .u32 0, .int .u32 0, .int .u32 0, .int .u32 0, .bool false] (hat _ _ _ rfl) (by exact size_sta) (by rfl) (v_one _) ?_))
  obtain ⟨i8, q8⟩ : ∃ i8, Hid (i8 = w5.heap.size) := ⟨_, rfl⟩
  rw [← q8.out]
  have l8 : Hid (w4.heap.size ≤ i8) := by rw [Hid, q8.out]; exact k5.size
  have A6 : Hid (At ((w5.alloc (.cells #[.int .u32 0, .int .u32 0, .int .u32 0, .int .u32 0, .int .u32 0, .int .u32 0, .int .u32 0, .int .u32 0, .int .u32 0, .int .u32 0, .int .u32 0, .int .u32 0, .int .u32 0, .int .u32 0, .int .u32 0, .int .u32 0, .int .u32 0, .int .u32 0, .bool false] 26)).setRow i8 X.s.v) i8 X.s) := by rw [q8.out]; exact setRow_heap _ _ _ _ _ _ (hat _ _ _ rfl)
  have k6 : Hid (Kep w4 ((w5.alloc (.cells #[.int .u32 0, .int .u32 0, .int .u32 0, .int .u32 0, .int .u32 0, .int .u32 0, .int .u32 0, .int .u32 0, .int .u32 0, .int .u32 0, .int .u32 0, .int .u32 0, .int .u32 0, .int .u32 0, .int .u32 0, .int .u32 0, .int .u32 0, .int .u32 0, .bool false] 26)).setRow i8 X.s.v)) := kep_trans k5 (((Kep.refl w5).alloc _).setRow _ _ (by rw [q8.out]; exact Nat.le_refl _))
  generalize (w5.alloc (.cells #[.int .u32 0, .int .u32 0, .int .u32 0, .int .u32 0, .int .u32 0, .int .u32 0, .int .u32 0, .int .u32 0, .int .u32 0, .int .u32 0, .int .u32 0, .int .u32 0, .int .u32 0, .int .u32 0, .int .u32 0, .int .u32 0, .int .u32 0, .int .u32 0, .bool false] 26)).setRow i8 X.s.v = w6 at A6 k6 ⊢
  have M6 := hidd (M4.out.kep k6.out)
  clear k5
  have hCp : Hid (Calls Tryz.prog 26 #[mpt pm] w6 fun e w' => ∃ pc : Nat, e = .returned (mpt pc) ∧ Own w6 w' (mpt pc) w6.heap.size f (view X.B (List.range f))) := by
    obtain ⟨_, _, _, _, m, _⟩ := M6.out
    have h := copy_any w6 (mpt pm) R (List.range f) X.B m.mem.ram (by intro e; have := congrArg List.length e; simp at this; have := nf.out; omega) (by have := nf.out; simp; omega) m.mem.row m.mem.fits m.mem.byts
    rw [List.length_range] at h
    exact h
  go_wp2_with fail
  refine (mram_any M6.out).mono ?_
  rintro e w7 ⟨rfl, hw⟩
  rw [hw]
  clear hw w7
  go_wp2_with fail
  refine hCp.out.mono ?_
  rintro e w8 ⟨pc, rfl, O8⟩
  have M8 := hidd (M6.out.kep O8.kep)
  have A8 := hidd (A6.out.kep O8.kep)
  have K8 := hidd (kep_trans K4.out (kep_trans k6.out O8.kep))
  have C8 : Hid (Ram w8 (mpt pc) w6.heap.size (List.range f) ∧ RowB w8 w6.heap.size (view X.B (List.range f))) := ⟨O8.ram, O8.row⟩
  obtain ⟨RC, hRC⟩ : ∃ RC, Hid (w6.heap.size = RC) := ⟨_, rfl⟩
  have lRC : Hid (w4.heap.size ≤ RC) := by rw [Hid, ← hRC.out]; exact k6.out.size
  rw [hRC.out] at C8
  clear O8 hCp M6 A6 k6 hRC
  have Oc : Hid ((X.d.O.length : Int) ≤ 900000) := by have := okX.out.2.2.2.O; unfold Hid; omega
  go_upto_region 7 with fail
  go_wp2_with fail
  refine (moutput_any M8.out (by have := Oc.out; omega)).mono ?_
  rintro e w9 ⟨v9, rfl, ⟨F9, sl9, _⟩, k9⟩
  obtain ⟨x9, c9, rfl, L9, _⟩ := sl9.lies
  have hc : Sem.run Tryz.prog (convert 22 9 (.slice x9 X.d.O.length c9)) w9 = .ok (.string (strL X.d.O)) w9 := (L9.strAny (cap := c9)) w9 (Kep.refl _)
  have M9 := hidd (M8.out.kep k9)
  have A9 := hidd (A8.out.kep k9)
  have K9 := hidd (kep_trans K8.out k9)
  have C9 : Hid (Ram w9 (mpt pc) RC (List.range f) ∧ RowB w9 RC (view X.B (List.range f))) := ⟨C8.out.1.kep k9, C8.out.2.kep k9⟩
  clear k9 M8 A8 K8 C8 sl9 L9
  have S9 : Hid (w4.heap.size ≤ w9.heap.size ∧ i8 < w9.heap.size) := ⟨by have := l8.out; have := A9.out.lt; omega, A9.out.lt⟩
  go_upto_region 8 with fail
  clear hc
  have G4l := hidd (M4.out.lt okX.out.1.B)
  obtain ⟨c, ad, hV1⟩ : ∃ c ad, Hid (oneV X (List.range f) = (c, ad)) := ⟨_, _, rfl⟩
  have HO := hidd (mone_any M9.out okX.out.1 (okX.out.2.2.2.less (by omega)) (T'.out.grown K9.out))
  have OF : Hid (c ≠ 0 → oneX X (List.range f) = dlvX X c ad (backI X.s.pc c) ∧ 0 ≤ ad ∧ ad < 4294967296) := fun h => by
    have := one_fault okX.out.1 okX.out.2.1 (ix := List.range f) (by rw [hV1.out]; exact h)
    rw [hV1.out] at this
    exact this
  rw [hV1.out] at HO
  have okY : Hid ((oneX X (List.range f)).B ≠ []) := oneB_ne okX.out.1 okX.out.2.1 okX.out.2.2.1
  generalize oneX X (List.range f) = Y at HO OF okY
  go_wp2_with fail
  refine HO.out.mono ?_
  rintro e w10 ⟨rfl, G10, m10, p10, f10⟩
  have A10 : Hid (At w10 i8 X.s) := p10.keeps A9.out (fun hm => by have := G4l.out i8 hm; have := l8.out; omega)
  have C10 : Hid (Ram w10 (mpt pc) RC (List.range f) ∧ RowB w10 RC (view X.B (List.range f))) := ⟨C9.out.1.off p10 (M9.out.offx okX.out.1.B C9.out.1), C9.out.2.put p10 (fun hm => by have := G4l.out RC hm; have := lRC.out; omega)⟩
  have K10 : Hid (Kep w w10) := K9.out.put p10 N4.out
  have M10 := hidd m10
  clear m10 p10 f10 HO M9 A9 C9 K9
  go_upto_region 9 with fail
  obtain ⟨i11, q11⟩ : ∃ i11, Hid (i11 = w10.heap.size) := ⟨_, rfl⟩
  rw [← q11.out]
  have FV : Hid ((w10.alloc (.cells #[.int .i64 c, .int .u32 ad] 56)).heap[i11]? = some (.cells #[.int .i64 c, .int .u32 ad] 56 (0, 0))) := by rw [Hid, q11.out]; exact hat _ _ _ rfl
  have kV : Hid (Kep w10 (w10.alloc (.cells #[.int .i64 c, .int .u32 ad] 56))) := (Kep.refl _).alloc _
  generalize w10.alloc (.cells #[.int .i64 c, .int .u32 ad] 56) = V at FV kV ⊢
  have AV : Hid (V.heap[i8]? = some (.cells X.s.v 26 (0, 0))) := A10.out.kep kV.out
  have MV := hidd (M10.out.kep kV.out)
  have CV : Hid (Ram V (mpt pc) RC (List.range f) ∧ RowB V RC (view X.B (List.range f))) := ⟨C10.out.1.kep kV.out, C10.out.2.kep kV.out⟩
  have GV : Hid (Kep w V) := kep_trans K10.out kV.out
  have cc0 : V.cell? ⟨i11, 0, none⟩ = some (.int .i64 c) := (cell_of_block FV.out).trans rfl
  clear A10 M10 C10 K10 kV q11
  by_cases h0 : c = 0
  · subst h0
    go_wp2_with (go_at_call 11; refine (HW.out _ GV.out).mono ?_; rintro e w20 ⟨rfl, KW⟩)
    go_ret
    exact ⟨rfl, kep_trans GV.out KW⟩
  have hc0 : (c == 0) = false := by simpa using h0
  obtain ⟨eY, hadr⟩ := OF.out h0
  obtain ⟨Es, hEs⟩ : ∃ Es, Hid (entS X.s c ad (backI X.s.pc c) = Es) := ⟨_, rfl⟩
  have YS : Hid (Y.s = Es) := by rw [Hid, eY, ← hEs.out]; rfl
  have YB : Hid (Y.B = X.B) := by rw [Hid, eY]; rfl
  have YO : Hid (Y.d.O = X.d.O) := by rw [Hid, eY]; rfl
  have D0 : Hid (∀ w', Tabs w' → Calls Tryz.prog 28 #[.agg X.s.v, .agg #[.int .i64 c, .int .u32 ad]] w' fun e w'' => e = .returned (.int .u32 (backI X.s.pc c)) ∧ Kep w' w'') := fun w' h => back_any X.s c ad w' okX.out.1.s h
  have D1 : Hid (∀ w', Calls Tryz.prog 27 #[.agg X.s.v, .agg #[.int .i64 c, .int .u32 ad], .int .u32 (backI X.s.pc c)] w' fun e w'' => e = .returned (.agg Es.v) ∧ Kep w' w'') := fun w' => by rw [← hEs.out]; exact enter10_any X.s c ad (backI X.s.pc c) w' okX.out.1.s hadr (backI_range okX.out.1.s.pc)
  clear OF eY hadr hEs h0
  go_upto_region 11 with fail
  clear cc0 hc0
  go_cut [12] from 42 to 47 (fun t12 wx => ∃ g12 : Nat, t12 = .pointer (some ⟨g12, 0, none⟩) ∧ wx.heap[g12]? = some (.cells Es.v 26 (0, 0)) ∧ Kep V wx)
  case first =>
    have zp := block_lt AV.out
    have zi := block_lt FV.out
    refine wp_region_held_drew (S := fun w' => w'.heap[i8]? = some (.cells X.s.v 26 (0, 0)) ∧ w'.heap[i11]? = some (.cells #[.int .i64 c, .int .u32 ad] 56 (0, 0))) (by kernel_rfl) ⟨AV.out, FV.out⟩ (fun hH => ?_)
    have HB : V.heap[i8]? = some (.cells X.s.v 26 (0, 0)) ∧ V.heap[i11]? = some (.cells #[.int .i64 c, .int .u32 ad] 56 (0, 0)) := ⟨AV.out, FV.out⟩
    refine wpAnyH_take (i := 0) (v := .agg X.s.v) rfl (by kernel_rfl) (by kernel_rfl) (by kernel_rfl) (fun _ _ _ h => h) (yields_row rfl 26 _ rfl i8 rfl 26 X.s.v (0, 0) _ (fun w h => h.1) Tryz.underlying26 rfl size_sta) hH ?_
    (try dsimp only [Act.put]); (try simp only [Act.put, jD, jE, jF])
    refine wpAnyH_take (i := 1) (v := .agg #[.int .i64 c, .int .u32 ad]) rfl (by kernel_rfl) (by kernel_rfl) (by kernel_rfl) (fun _ _ _ h => h) (yields_row rfl 56 _ rfl i11 rfl 56 #[.int .i64 c, .int .u32 ad] (0, 0) _ (fun w h => h.2) Tryz.underlying56 rfl size_flt) hH ?_
    (try dsimp only [Act.put]); (try simp only [Act.put, jD, jE, jF])
    refine wpAnyH_take (i := 2) (v := .agg X.s.v) rfl (by kernel_rfl) (by kernel_rfl) (by kernel_rfl) (fun _ _ _ h => h) (yields_row rfl 26 _ rfl i8 rfl 26 X.s.v (0, 0) _ (fun w h => h.1) Tryz.underlying26 rfl size_sta) hH ?_
    (try dsimp only [Act.put]); (try simp only [Act.put, jD, jE, jF])
    refine wpAnyH_take (i := 3) (v := .agg #[.int .i64 c, .int .u32 ad]) rfl (by kernel_rfl) (by kernel_rfl) (by kernel_rfl) (fun _ _ _ h => h) (yields_row rfl 56 _ rfl i11 rfl 56 #[.int .i64 c, .int .u32 ad] (0, 0) _ (fun w h => h.2) Tryz.underlying56 rfl size_flt) hH ?_
    (try dsimp only [Act.put]); (try simp only [Act.put, jD, jE, jF])
    refine wpAnyH_ready (rs := [4, 6]) (by kernel_rfl) (by simp) ?_
    refine AllReadyH.cons rfl (fun K hK => ?_) ?_
    · skip
      rw [if_pos (by rfl)]
      go_simp
      refine (D0.out _ (T'.out.grown (kep_trans GV.out kepA))).mono ?_
      rintro e wa ⟨rfl, K4⟩
      refine hK.out _ _ ⟨K4.block hH.1, K4.block hH.2⟩ (fun hH => ?_)
      clear hK K
      (try dsimp only [Act.put]); (try simp only [Act.put, jD, jE, jF])
      have S4 := hH
      have zk4 := K4.size
      try simp only [World.size_alloc, World.size_drew] at zk4
      have KW4 : Hid (Kep V wa) := kep_trans kepA K4
      refine wpAnyH_ready (rs := [5, 6]) (by kernel_rfl) (by simp) ?_
      refine AllReadyH.cons rfl (fun K hK => ?_) ?_
      · skip
        rw [if_pos (by rfl)]
        go_simp
        refine (D1.out _).mono ?_
        rintro e wb ⟨rfl, K5⟩
        refine hK.out _ _ ⟨K5.block hH.1, K5.block hH.2⟩ (fun hH => ?_)
        clear hK K
        (try dsimp only [Act.put]); (try simp only [Act.put, jD, jE, jF])
        have S5 := hH
        have zk5 := K5.size
        try simp only [World.size_alloc, World.size_drew] at zk5
        have KW5 : Hid (Kep V wb) := kep_trans kepA K5
        refine wpAnyH_ready (rs := [6]) (by kernel_rfl) (by simp) ?_
        refine AllReadyH.cons rfl (fun K hK => ?_) AllReadyH.nil
        rw [if_pos (by rfl)]
        go_simp
        refine hK.out _ _ ⟨Kep.block kepA S5.1, Kep.block kepA S5.2⟩ (fun hH => ?_)
        clear hK K
        (try dsimp only [Act.put]); (try simp only [Act.put, jD, jE, jF])
        refine wpAnyH_ready (rs := [7]) (by kernel_rfl) (by simp) ?_
        refine AllReadyH.cons rfl (fun K hK => ?_) AllReadyH.nil
        rw [if_pos (by rfl)]
        refine wp_store_row 26 _ _ rfl (wb.heap.size) Es.v rfl rfl 26 #[.int .u32 0, .int .u32 0, .int .u32 0, .int .u32 0, .int .u32 0, .int .u32 0, .int .u32 0, .int .u32 0, .int .u32 0, .int .u32 0, .int .u32 0, .int .u32 0, .int .u32 0, .int .u32 0, .int .u32 0, .int .u32 0, .int .u32 0, .int .u32 0, .bool false] blkA (by exact size_sta) rfl (v_one _) ?_
        refine hK.out _ _ ⟨(setRow_other _ _ _ _ (by omega)).trans hH.1, (setRow_other _ _ _ _ (by omega)).trans hH.2⟩ (fun hH => ?_)
        clear hK K
        (try dsimp only [Act.put]); (try simp only [Act.put, jD, jE, jF])
        refine wpAnyH_done (by kernel_rfl) ?_ _
        go_wp2_with fail
        go_meet
        exact ⟨wb.heap.size, rfl, setRow_heap _ _ _ _ _ _ blkA, kepA⟩
      refine AllReadyH.cons rfl (fun K hK => ?_) AllReadyH.nil
      rw [if_pos (by rfl)]
      go_simp
      refine hK.out _ _ ⟨Kep.block kepA S4.1, Kep.block kepA S4.2⟩ (fun hH => ?_)
      clear hK K
      (try dsimp only [Act.put]); (try simp only [Act.put, jD, jE, jF])
      refine wpAnyH_ready (rs := [5]) (by kernel_rfl) (by simp) ?_
      refine AllReadyH.cons rfl (fun K hK => ?_) AllReadyH.nil
      rw [if_pos (by rfl)]
      go_simp
      refine (D1.out _).mono ?_
      rintro e wb ⟨rfl, K5⟩
      refine hK.out _ _ ⟨K5.block hH.1, K5.block hH.2⟩ (fun hH => ?_)
      clear hK K
      (try dsimp only [Act.put]); (try simp only [Act.put, jD, jE, jF])
      have S5 := hH
      have zk5 := K5.size
      try simp only [World.size_alloc, World.size_drew] at zk5
      have KW5 : Hid (Kep V wb) := kep_trans kepA K5
      have Z5 : wb.heap[wa.heap.size]? = some (.cells #[.int .u32 0, .int .u32 0, .int .u32 0, .int .u32 0, .int .u32 0, .int .u32 0, .int .u32 0, .int .u32 0, .int .u32 0, .int .u32 0, .int .u32 0, .int .u32 0, .int .u32 0, .int .u32 0, .int .u32 0, .int .u32 0, .int .u32 0, .int .u32 0, .bool false] 26 (0, 0)) := K5.block blkA
      refine wpAnyH_ready (rs := [7]) (by kernel_rfl) (by simp) ?_
      refine AllReadyH.cons rfl (fun K hK => ?_) AllReadyH.nil
      rw [if_pos (by rfl)]
      refine wp_store_row 26 _ _ rfl (wa.heap.size) Es.v rfl rfl 26 #[.int .u32 0, .int .u32 0, .int .u32 0, .int .u32 0, .int .u32 0, .int .u32 0, .int .u32 0, .int .u32 0, .int .u32 0, .int .u32 0, .int .u32 0, .int .u32 0, .int .u32 0, .int .u32 0, .int .u32 0, .int .u32 0, .int .u32 0, .int .u32 0, .bool false] blkA (by exact size_sta) rfl (v_one _) ?_
      refine hK.out _ _ ⟨(setRow_other _ _ _ _ (by omega)).trans hH.1, (setRow_other _ _ _ _ (by omega)).trans hH.2⟩ (fun hH => ?_)
      clear hK K
      (try dsimp only [Act.put]); (try simp only [Act.put, jD, jE, jF])
      refine wpAnyH_done (by kernel_rfl) ?_ _
      go_wp2_with fail
      go_meet
      exact ⟨wa.heap.size, rfl, setRow_heap _ _ _ _ _ _ blkA, kepA⟩
    refine AllReadyH.cons rfl (fun K hK => ?_) AllReadyH.nil
    rw [if_pos (by rfl)]
    go_simp
    refine hK.out _ _ ⟨Kep.block kepA HB.1, Kep.block kepA HB.2⟩ (fun hH => ?_)
    clear hK K
    (try dsimp only [Act.put]); (try simp only [Act.put, jD, jE, jF])
    refine wpAnyH_ready (rs := [4]) (by kernel_rfl) (by simp) ?_
    refine AllReadyH.cons rfl (fun K hK => ?_) AllReadyH.nil
    rw [if_pos (by rfl)]
    go_simp
    refine (D0.out _ (T'.out.grown (kep_trans GV.out kepA))).mono ?_
    rintro e wa ⟨rfl, K4⟩
    refine hK.out _ _ ⟨K4.block hH.1, K4.block hH.2⟩ (fun hH => ?_)
    clear hK K
    (try dsimp only [Act.put]); (try simp only [Act.put, jD, jE, jF])
    have S4 := hH
    have zk4 := K4.size
    try simp only [World.size_alloc, World.size_drew] at zk4
    have KW4 : Hid (Kep V wa) := kep_trans kepA K4
    have Z4 : wa.heap[V.heap.size]? = some (.cells #[.int .u32 0, .int .u32 0, .int .u32 0, .int .u32 0, .int .u32 0, .int .u32 0, .int .u32 0, .int .u32 0, .int .u32 0, .int .u32 0, .int .u32 0, .int .u32 0, .int .u32 0, .int .u32 0, .int .u32 0, .int .u32 0, .int .u32 0, .int .u32 0, .bool false] 26 (0, 0)) := K4.block blkA
    refine wpAnyH_ready (rs := [5]) (by kernel_rfl) (by simp) ?_
    refine AllReadyH.cons rfl (fun K hK => ?_) AllReadyH.nil
    rw [if_pos (by rfl)]
    go_simp
    refine (D1.out _).mono ?_
    rintro e wb ⟨rfl, K5⟩
    refine hK.out _ _ ⟨K5.block hH.1, K5.block hH.2⟩ (fun hH => ?_)
    clear hK K
    (try dsimp only [Act.put]); (try simp only [Act.put, jD, jE, jF])
    have S5 := hH
    have zk5 := K5.size
    try simp only [World.size_alloc, World.size_drew] at zk5
    have KW5 : Hid (Kep V wb) := kep_trans kepA K5
    have Z5 : wb.heap[V.heap.size]? = some (.cells #[.int .u32 0, .int .u32 0, .int .u32 0, .int .u32 0, .int .u32 0, .int .u32 0, .int .u32 0, .int .u32 0, .int .u32 0, .int .u32 0, .int .u32 0, .int .u32 0, .int .u32 0, .int .u32 0, .int .u32 0, .int .u32 0, .int .u32 0, .int .u32 0, .bool false] 26 (0, 0)) := K5.block blkA
    refine wpAnyH_ready (rs := [7]) (by kernel_rfl) (by simp) ?_
    refine AllReadyH.cons rfl (fun K hK => ?_) AllReadyH.nil
    rw [if_pos (by rfl)]
    refine wp_store_row 26 _ _ rfl (V.heap.size) Es.v rfl rfl 26 #[.int .u32 0, .int .u32 0, .int .u32 0, .int .u32 0, .int .u32 0, .int .u32 0, .int .u32 0, .int .u32 0, .int .u32 0, .int .u32 0, .int .u32 0, .int .u32 0, .int .u32 0, .int .u32 0, .int .u32 0, .int .u32 0, .int .u32 0, .int .u32 0, .bool false] blkA (by exact size_sta) rfl (v_one _) ?_
    refine hK.out _ _ ⟨(setRow_other _ _ _ _ (by omega)).trans hH.1, (setRow_other _ _ _ _ (by omega)).trans hH.2⟩ (fun hH => ?_)
    clear hK K
    (try dsimp only [Act.put]); (try simp only [Act.put, jD, jE, jF])
    refine wpAnyH_done (by kernel_rfl) ?_ _
    go_wp2_with fail
    go_meet
    exact ⟨V.heap.size, rfl, setRow_heap _ _ _ _ _ _ blkA, kepA⟩
  case rest =>
    obtain ⟨g12, rfl, E12, kc⟩ := hcut
    have MC := hidd (MV.out.kep kc)
    have CC : Hid (Ram wc (mpt pc) RC (List.range f) ∧ RowB wc RC (view X.B (List.range f))) := ⟨CV.out.1.kep kc, CV.out.2.kep kc⟩
    have GC : Hid (Kep w wc) := kep_trans GV.out kc
    have E12' := hidd E12
    have fX : Hid (Fits X.B (List.range f)) := okX.out.2.2.1
    have fV : Hid (Fits (view X.B (List.range f)) (List.range f)) := fun i hi => by
      have := view_len (ix := List.range f) fX.out
      rw [this]; simp at hi ⊢; omega
    have e64 : (64 * (f : Int)) / 64 = f := by omega
    have hf24 : (f : Int) ≤ 24 := by have := nf.out; omega
    have hf1 : (1 : Int) ≤ f := by have := nf.out; omega
    have HSz : Hid (∀ w', Kep wc w' → Calls Tryz.prog 29 #[mpt pc] w' fun e w'' => e = .returned (.int .u32 (64 * (f : Int))) ∧ w'' = w') := fun w' k => by
      have h := msize_any w' (mpt pc) RC (List.range f) (CC.out.1.kep k) (by simp; omega)
      simpa using h
    have F1 : Hid (∀ (k : Nat) w', k < f → Kep wc w' → Calls Tryz.prog 30 #[mpt pc, .int .i64 k] w' fun e w'' => ∃ b : Nat, e = .returned (.slice (some ⟨b, 0, none⟩) 64 64) ∧ Kep w' w'' ∧ Str w'' (.slice (some ⟨b, 0, none⟩) 64 64) (strL (frameL X.B k))) := fun k w' hk kp => by
      have h := prec_str (CC.out.1.kep kp) (CC.out.2.kep kp) fV.out k (by simpa using hk)
      rw [show (List.range f).getD k 0 = k by simp [List.getD, hk], prec_view fX.out hk] at h
      exact h
    have F2 : Hid (∀ (k : Nat) w', k < f → Kep wc w' → Calls Tryz.prog 30 #[mpt pm, .int .i64 k] w' fun e w'' => ∃ b : Nat, e = .returned (.slice (some ⟨b, 0, none⟩) 64 64) ∧ Kep w' w'' ∧ Str w'' (.slice (some ⟨b, 0, none⟩) 64 64) (strL (frameL X.B k))) := fun k w' hk kp => by
      obtain ⟨_, _, _, _, m, _⟩ := MC.out.kep kp
      have h := prec_str m.mem.ram m.mem.row m.mem.fits k (by simpa using hk)
      rw [show (List.range f).getD k 0 = k by simp [List.getD, hk], YB.out] at h
      exact h
    clear E12 kc D0 D1 CV MV AV FV GV fX fV
    go_wp2_with fail
    go_loopw [13] (fun i wr => ∃ k : Nat, (k : Int) ≤ f ∧ i = .int .i64 k ∧ Hid (Kep wc wr)) (fun i _ => f - (intOf i).toNat)
    case atStart => exact ⟨0, by omega, rfl, Kep.refl _⟩
    case round =>
      obtain ⟨k, hk, rfl, K⟩ := hrel
      by_cases hlt : k < f
      · have hlt' : (k : Int) < f := by omega
        go_upto_region 15 with (go_at_call 29; refine (HSz.out _ K.out).mono ?_; rintro e w21 ⟨rfl, hw⟩; rw [hw]; clear hw w21)
        have Kd : Hid (Kep wc wr.drew) := K.out.drew
        refine wp_region_held_drew (S := fun w' => Kep wr.drew w') (by kernel_rfl) (Kep.refl _) (fun hH => ?_)
        refine wpAnyH_take (i := 0) (v := mpt pc) rfl (by kernel_rfl) (by kernel_rfl) (by kernel_rfl) (fun _ _ _ h => h) (.inl ⟨by rfl, by intro w hS; go_simp⟩) hH ?_
        (try dsimp only [Act.put]); (try simp only [jA, jB, jC, Act.put, jD, jE, jF])
        refine wpAnyH_take (i := 1) (v := .int .i64 (k : Int)) rfl (by kernel_rfl) (by kernel_rfl) (by kernel_rfl) (fun _ _ _ h => h) (.inl ⟨by rfl, by intro w hS; go_simp⟩) hH ?_
        (try dsimp only [Act.put]); (try simp only [jA, jB, jC, Act.put, jD, jE, jF])
        refine wpAnyH_take (i := 4) (v := mpt p) rfl (by kernel_rfl) (by kernel_rfl) (by kernel_rfl) (fun _ _ _ h => h) (.inl ⟨by rfl, by intro w hS; go_simp⟩) hH ?_
        (try dsimp only [Act.put]); (try simp only [jA, jB, jC, Act.put, jD, jE, jF])
        refine wpAnyH_take (i := 6) (v := .int .i64 (k : Int)) rfl (by kernel_rfl) (by kernel_rfl) (by kernel_rfl) (fun _ _ _ h => h) (.inl ⟨by rfl, by intro w hS; go_simp⟩) hH ?_
        (try dsimp only [Act.put]); (try simp only [jA, jB, jC, Act.put, jD, jE, jF])
        refine wpAnyH_ready (rs := [2]) (by kernel_rfl) (by simp) ?_
        refine AllReadyH.cons rfl (fun K hK => ?_) AllReadyH.nil
        rw [if_pos (by rfl)]
        go_simp
        refine (F1.out k _ hlt Kd.out).mono ?_
        rintro e w30 ⟨b30, rfl, k30, s30⟩
        refine hK.out _ _ (kep_trans hH k30) (fun hH => ?_)
        refine wpAnyH_to (S' := fun w' => Kep w30 w') (fun w' h => kep_trans hH h) ?_
        have hH : Kep w30 w30 := Kep.refl _
        have S30 := hidd s30
        have K30 : Hid (Kep wc w30) := kep_trans Kd.out k30
        clear k30 s30
        clear hK K
        (try dsimp only [Act.put]); (try simp only [jA, jB, jC, Act.put, jD, jE, jF])
        refine wpAnyH_take (i := 3) (v := .string (strL (frameL X.B k))) rfl (by kernel_rfl) (by kernel_rfl) (by kernel_rfl) (fun _ _ _ h => h) (.inl ⟨by rfl, by intro w hS; have hc := S30.out w hS; clear hS; go_simp⟩) hH ?_
        (try dsimp only [Act.put]); (try simp only [jA, jB, jC, Act.put, jD, jE, jF])
        refine wpAnyH_ready (rs := [5]) (by kernel_rfl) (by simp) ?_
        refine AllReadyH.cons rfl (fun K hK => ?_) AllReadyH.nil
        rw [if_pos (by rfl)]
        go_simp
        refine (mram_any (MC.out.kep K30.out)).mono ?_
        rintro e w32 ⟨rfl, hw⟩
        rw [hw]
        clear hw w32
        refine hK.out _ _ hH (fun hH => ?_)
        clear hK K
        (try dsimp only [Act.put]); (try simp only [jA, jB, jC, Act.put, jD, jE, jF])
        refine wpAnyH_ready (rs := [7]) (by kernel_rfl) (by simp) ?_
        refine AllReadyH.cons rfl (fun K hK => ?_) AllReadyH.nil
        rw [if_pos (by rfl)]
        go_simp
        refine (F2.out k _ hlt K30.out).mono ?_
        rintro e w31 ⟨b31, rfl, k31, s31⟩
        refine hK.out _ _ (kep_trans hH k31) (fun hH => ?_)
        refine wpAnyH_to (S' := fun w' => Kep w31 w') (fun w' h => kep_trans hH h) ?_
        have hH : Kep w31 w31 := Kep.refl _
        have S31 := hidd s31
        have K31 : Hid (Kep wc w31) := kep_trans K30.out k31
        clear k31 s31
        clear hK K
        (try dsimp only [Act.put]); (try simp only [jA, jB, jC, Act.put, jD, jE, jF])
        refine wpAnyH_take (i := 8) (v := .string (strL (frameL X.B k))) rfl (by kernel_rfl) (by kernel_rfl) (by kernel_rfl) (fun _ _ _ h => h) (.inl ⟨by rfl, by intro w hS; have hc := S31.out w hS; clear hS; go_simp⟩) hH ?_
        (try dsimp only [Act.put]); (try simp only [jA, jB, jC, Act.put, jD, jE, jF])
        refine wpAnyH_take (i := 9) (v := .bool false) rfl (by kernel_rfl) (by kernel_rfl) (by kernel_rfl) (fun _ _ _ h => h) (.inl ⟨by rfl, by intro w hS; go_simp⟩) hH ?_
        (try dsimp only [Act.put]); (try simp only [jA, jB, jC, Act.put, jD, jE, jF])
        refine wpAnyH_done (by kernel_rfl) ?_ _
        have KR : Hid (Kep wc w31) := K31
        go_wp2_with fail
        go_roundw
        case rel => exact ⟨k + 1, by omega, by go_num, KR⟩
        case measure => simp [intOf]; omega
      · obtain rfl : k = f := by omega
        have hss : ∀ w, Sem.run Tryz.prog (Op.equalIn 10000 26 (.agg Es.v) (.agg Es.v)) w = .ok true w := fun w => sta_same Es w
        go_upto_region 17 with (go_at_call 29; refine (HSz.out _ K.out).mono ?_; rintro e w21 ⟨rfl, hw⟩; rw [hw]; clear hw w21)
        have Ed : Hid (wr.drew.heap[g12]? = some (.cells Es.v 26 (0, 0))) := K.out.drew.block E12'.out
        have Md := hidd (MC.out.kep K.out.drew)
        have Kd : Hid (Kep w wr.drew) := kep_trans GC.out K.out.drew
        refine wp_region_held_drew (S := fun w' => Kep wr.drew w') (by kernel_rfl) (Kep.refl _) (fun hH => ?_)
        refine wpAnyH_take (i := 0) (v := mpt p) rfl (by kernel_rfl) (by kernel_rfl) (by kernel_rfl) (fun _ _ _ h => h) (.inl ⟨by rfl, by intro w hS; go_simp⟩) hH ?_
        (try dsimp only [Act.put]); (try simp only [jA, jB, jC, Act.put, jD, jE, jF])
        refine wpAnyH_take (i := 2) (v := .agg Es.v) rfl (by kernel_rfl) (by kernel_rfl) (by kernel_rfl) (fun _ _ _ h => h) (yields_row rfl 26 _ rfl g12 rfl 26 Es.v (0, 0) _ (fun w h => Kep.block h Ed.out) Tryz.underlying26 rfl size_sta) hH ?_
        (try dsimp only [Act.put]); (try simp only [jA, jB, jC, Act.put, jD, jE, jF])
        refine wpAnyH_ready (rs := [1]) (by kernel_rfl) (by simp) ?_
        refine AllReadyH.cons rfl (fun K hK => ?_) AllReadyH.nil
        rw [if_pos (by rfl)]
        go_simp
        refine (mstate_any Md.out).mono ?_
        rintro e w40 ⟨rfl, k40⟩
        rw [YS.out]
        refine hK.out _ _ (kep_trans hH k40) (fun hH => ?_)
        refine wpAnyH_to (S' := fun w' => Kep w40 w') (fun w' h => kep_trans hH h) ?_
        have hH : Kep w40 w40 := Kep.refl _
        have M40 := hidd (Md.out.kep k40)
        have K40 : Hid (Kep w w40) := kep_trans Kd.out k40
        clear k40
        clear hK K
        (try dsimp only [Act.put]); (try simp only [jA, jB, jC, Act.put, jD, jE, jF])
        refine wpAnyH_take (i := 3) (v := .bool true) rfl (by kernel_rfl) (by kernel_rfl) (by kernel_rfl) (fun _ _ _ h => h) (.inl ⟨by rfl, by intro w hS; go_simp⟩) hH ?_
        (try dsimp only [Act.put]); (try simp only [jA, jB, jC, Act.put, jD, jE, jF])
        refine wpAnyH_take (i := 4) (v := .bool true) rfl (by kernel_rfl) (by kernel_rfl) (by kernel_rfl) (fun _ _ _ h => h) (.inl ⟨by rfl, by intro w hS; go_simp⟩) hH ?_
        (try dsimp only [Act.put]); (try simp only [jA, jB, jC, Act.put, jD, jE, jF])
        refine wpAnyH_take (i := 5) (v := mpt p) rfl (by kernel_rfl) (by kernel_rfl) (by kernel_rfl) (fun _ _ _ h => h) (.inl ⟨by rfl, by intro w hS; go_simp⟩) hH ?_
        (try dsimp only [Act.put]); (try simp only [jA, jB, jC, Act.put, jD, jE, jF])
        refine wpAnyH_take (i := 8) (v := .string (strL X.d.O)) rfl (by kernel_rfl) (by kernel_rfl) (by kernel_rfl) (fun _ _ _ h => h) (.inl ⟨by rfl, by intro w hS; go_simp⟩) hH ?_
        (try dsimp only [Act.put]); (try simp only [jA, jB, jC, Act.put, jD, jE, jF])
        refine wpAnyH_ready (rs := [6]) (by kernel_rfl) (by simp) ?_
        refine AllReadyH.cons rfl (fun K hK => ?_) AllReadyH.nil
        rw [if_pos (by rfl)]
        go_simp
        refine (moutput_any M40.out (by rw [YO.out]; have := Oc.out; omega)).mono ?_
        rintro e w41 ⟨v41, rfl, ⟨F41, sl41, _⟩, k41⟩
        rw [YO.out] at sl41
        obtain ⟨x41, c41, rfl, L41, _⟩ := sl41.lies
        have S41 := hidd (L41.strAny (cap := c41))
        refine hK.out _ _ (kep_trans hH k41) (fun hH => ?_)
        refine wpAnyH_to (S' := fun w' => Kep w41 w') (fun w' h => kep_trans hH h) ?_
        have hH : Kep w41 w41 := Kep.refl _
        have K41 : Hid (Kep w w41) := kep_trans K40.out k41
        clear k41 sl41 L41
        clear hK K
        (try dsimp only [Act.put]); (try simp only [jA, jB, jC, Act.put, jD, jE, jF])
        refine wpAnyH_take (i := 7) (v := .string (strL X.d.O)) rfl (by kernel_rfl) (by kernel_rfl) (by kernel_rfl) (fun _ _ _ h => h) (.inl ⟨by rfl, by intro w hS; have hc := S41.out w hS; clear hS; go_simp⟩) hH ?_
        (try dsimp only [Act.put]); (try simp only [jA, jB, jC, Act.put, jD, jE, jF])
        refine wpAnyH_take (i := 9) (v := .bool true) rfl (by kernel_rfl) (by kernel_rfl) (by kernel_rfl) (fun _ _ _ h => h) (.inl ⟨by rfl, by intro w hS; go_simp⟩) hH ?_
        (try dsimp only [Act.put]); (try simp only [jA, jB, jC, Act.put, jD, jE, jF])
        refine wpAnyH_take (i := 10) (v := .bool true) rfl (by kernel_rfl) (by kernel_rfl) (by kernel_rfl) (fun _ _ _ h => h) (.inl ⟨by rfl, by intro w hS; go_simp⟩) hH ?_
        (try dsimp only [Act.put]); (try simp only [jA, jB, jC, Act.put, jD, jE, jF])
        refine wpAnyH_take (i := 11) (v := .bool true) rfl (by kernel_rfl) (by kernel_rfl) (by kernel_rfl) (fun _ _ _ h => h) (.inl ⟨by rfl, by intro w hS; go_simp⟩) hH ?_
        (try dsimp only [Act.put]); (try simp only [jA, jB, jC, Act.put, jD, jE, jF])
        refine wpAnyH_ready (rs := [12]) (by kernel_rfl) (by simp) ?_
        refine AllReadyH.cons rfl (fun K hK => ?_) AllReadyH.nil
        rw [if_pos (by rfl)]
        go_simp
        refine (HW.out _ K41.out).mono ?_
        rintro e w42 ⟨rfl, k42⟩
        refine hK.out _ _ (kep_trans hH k42) (fun hH => ?_)
        have KE : Hid (Kep w w42) := kep_trans K41.out k42
        clear k42
        clear hK K
        (try dsimp only [Act.put]); (try simp only [jA, jB, jC, Act.put, jD, jE, jF])
        refine wpAnyH_take (i := 13) (v := .bool true) rfl (by kernel_rfl) (by kernel_rfl) (by kernel_rfl) (fun _ _ _ h => h) (.inl ⟨by rfl, by intro w hS; go_simp⟩) hH ?_
        (try dsimp only [Act.put]); (try simp only [jA, jB, jC, Act.put, jD, jE, jF])
        refine wpAnyH_take (i := 14) (v := .bool true) rfl (by kernel_rfl) (by kernel_rfl) (by kernel_rfl) (fun _ _ _ h => h) (.inl ⟨by rfl, by intro w hS; go_simp⟩) hH ?_
        (try dsimp only [Act.put]); (try simp only [jA, jB, jC, Act.put, jD, jE, jF])
        refine wpAnyH_done (by kernel_rfl) ?_ _
        go_wp2_with fail
        go_ret
        exact ⟨rfl, KE.out⟩
set_option maxRecDepth 100000 in
theorem lifted (os : Os) (started : os.Started) (H : Type) (enc : TypeId × Value → H) :
    ReturnsInHanded {} Tryz.checked os 6 .any (fun w args => (Rows.machinePreciseSpec.pre enc Tryz.prog Tryz.f6 Rows.machinePreciseRow.domain false w args ∧ laidMetH Tryz.prog laidL w) ∧ sizedMet enc Tryz.prog Tryz.f6 (OpenSpec.ofChange Rows.machinePreciseSpec) false w args)
      (Rows.machinePreciseSpec.post enc Tryz.prog Tryz.f6 false true false false) := by
  refine returnsInHanded_of_change_and (C := Tryz.checked) (X := fun w _ => laidMetH Tryz.prog laidL w) (fun _ _ _ hh h => h.of_heap hh) own started (by kernel_rfl) Tryz.func6
    (ChangeSpec.witness_shaped (enc := enc) (C := Tryz.checked) (os := os) (X := fun w _ => laidMetH Tryz.prog laidL w) false (World.laidAll Tryz.prog os laidL) #[.agg #[.int .i64 0, .slice none 0 0, .slice none 0 0, .int .u16 0, .int .u32 0, .int .u32 0, .int .u32 0, .int .u32 0, .int .u32 0, .int .u32 0, .int .u32 0, .int .u32 0, .int .u32 0, .int .u32 0, .int .u32 0, .int .u32 0, .int .u32 0, .int .u32 0, .int .u32 0, .int .u32 0, .int .u32 0, .int .u32 0, .bool false, .slice none 0 0, .slice none 0 0], .int .u8 0] 8 (World.laidAll_os _ _ _)
      (World.shaped_of_ZipB (by kernel_rfl) (by kernel_rfl)) (by kernel_rfl) (by kernel_rfl) (by kernel_rfl)
      (by rw [MakeChecks.laidMetH_plain _ _ _ (by kernel_rfl)]; exact laidMet_laidAll _ (by kernel_rfl) (by kernel_rfl))) ?_
  intro W base args ds gs before hval0 hW hcnd hsz0 hL _
  have hval : ∀ (j : Nat) t v, Tryz.f6.params[j]? = some t → args[j]? = some v → Value.okWide Tryz.prog W .any base t v := hval0
  have hW' := hW
  obtain ⟨p, q, hA0, hV, rfl, hfz, hnd⟩ := hW
  have hA : DataW.TrodAll enc Tryz.prog W 0 (fun _ => true) true Tryz.f6.params.toList args.toList ds p := hA0
  rw [Tryz.params6] at hA hval
  obtain ⟨v0, vs0, d0, ds0, p0, q0, hargs, rfl, rfl, h0, r0⟩ := trodAll_cons hA
  obtain ⟨v1, vs1, d1, ds1, p1, q1, rfl, rfl, rfl, h1, r1⟩ := trodAll_cons r0
  obtain ⟨rfl, rfl, rfl⟩ := trodAll_nil r1
  obtain rfl : args = #[v0, v1] := by cases args; simp_all
  obtain ⟨rfl, rfl⟩ := trodVars_none hV
  have k0 := h0
  have lt0 : ∀ x ∈ p0, x.block < W.heap.size := by obtain ⟨m, hm⟩ := k0; exact DataW.trod_lt m _ _ _ hm
  obtain ⟨fr, xi, li, ci, Z, xc, lc, cc, C, en, s, xs, ls, cs, E, xd, ld, cd, D, rfl, hfr, w0⟩ := open_gst (hval 0 41 v0 rfl rfl) h0
  have k1 := h1
  have lt1 : ∀ x ∈ p1, x.block < W.heap.size := by obtain ⟨m, hm⟩ := k1; exact DataW.trod_lt m _ _ _ hm
  obtain ⟨a1, rfl, rfl, rfl, w1⟩ := open_int Tryz.underlying5 (hval 1 5 v1 rfl rfl) h1
  clear hA0 hval0
  refine (walk fr xi li ci Z xc lc cc C en s xs ls cs E xd ld cd D hfr a1 w1 W w0 (tabs_of_laid hL)).mono fun e W' ⟨he, bel0⟩ => ?_
  have bel : Below W.heap.size W W' := bel0
  subst he
  exact ⟨_, rfl, _, _, _, [], _, [], hW', trodAll_mk1 (shut_bool Tryz.underlying4 _), (trodAll_cons_mk (Below.trod laidOut (by kernel_rfl) (of_decide_eq_true (by kernel_rfl)) k0 bel lt0) (trodAll_cons_mk (Below.trod laidOut (by kernel_rfl) (of_decide_eq_true (by kernel_rfl)) k1 bel lt1) trodAll_mk0)), rfl, bel.frame _, fun h => by cases h⟩
theorem over : Rows.machinePreciseRow.holds Tryz.pinned (OpenSpec.ofChange Rows.machinePreciseSpec) :=
  OpenClaim.holds_of_wide 6 Tryz.f6 rfl rfl rfl rfl rfl rfl rfl ⟨rfl, rfl, rfl, rfl, rfl⟩ rfl rfl rfl rfl rfl (by kernel_rfl) Tryz.func6 (by kernel_rfl)
    (of_decide_eq_true (by kernel_rfl)) (by unfold Func.isWrapper; first | (rw [if_pos (by decide +kernel)]; kernel_rfl) | (rw [if_neg (by decide +kernel)]; exact ⟨rfl, rfl⟩))
    (fun os started H enc _ => lifted os started H enc)
end Go.Proofs.YtojoobonienhnaaGreatDoor.machinePrecise
namespace Go.Proofs.YtojoobonienhnaaGreatDoor
theorem machinePrecise_holds : Rows.MachinePreciseCardSaid :=
  Claim7.holds_tied_plain_at .later [] [.data, .data] true (true, "5cbbd589b00704533d2a2cabec6c6acf0dc199b8b5d7e9fd7a5c8c054a7fc604") true machinePrecise.over (fun _ h => by cases h) (by kernel_rfl) (fun _ h => by cases h) machinePrecise_row_tie rfl ⟨rfl, rfl⟩ (by kernel_rfl) rfl
    (fun f fn hf hfn => by
      obtain rfl : f = 6 := Option.some.inj ((show Tryz.prog.funcNamed "mummer/mummerlaw12.MachinePrecise" = some 6 by kernel_rfl).symm.trans hf) |>.symm
      obtain rfl : fn = Tryz.f6 := (Option.some.inj (Tryz.func6.symm.trans hfn)).symm
      exact ⟨by kernel_rfl, fun j t ht => by
        rw [Tryz.params6] at ht
        have hm : t ∈ [41, 5] := by simpa using Array.mem_of_getElem? ht
        have hall : ([41, 5].all fun u => !Tryz.prog.wantsStandIn u) = true := by kernel_rfl
        exact (show Tryz.prog.wantsStandIn t = false by simpa using List.all_eq_true.1 hall t hm)⟩)
    (by kernel_rfl)
#print axioms machinePrecise_holds
end Go.Proofs.YtojoobonienhnaaGreatDoor
