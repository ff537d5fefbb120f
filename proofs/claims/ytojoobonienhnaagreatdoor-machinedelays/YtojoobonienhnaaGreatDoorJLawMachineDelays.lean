/- For every guest and number, the law MachineDelays returns true: an event is there at the first step that is not ahead of its own: no other step hangs on it. -/
import Derived.Test.YtojoobonienhnaaGreatDoorRows
import Derived.Test.YtojoobonienhnaaGreatDoorTie
import Derived.Test.YtojoobonienhnaaGreatDoorCards
import Derived.WalkKit
import Derived.ProofKit
import Derived.OpenShut
import Derived.ShutString
import Derived.ChangeOld
import Derived.Below
import Derived.Lib.SmallJoins
import Derived.Lay
import Derived.SevenTiedAt
import Derived.Stop.Joined
import Derived.Test.YtojoobonienhnaaGreatDoorJ93
namespace Go.Proofs.YtojoobonienhnaaGreatDoor.machineDelays
open Go.ChangeShapes Go.WideShapes Go.ChangeAt Go.RowKit
set_option linter.unusedVariables false
set_option linter.unusedSimpArgs false
theorem own : ownKnob Tryz.prog.godebug = none := by kernel_rfl
theorem laidOut : laidOutB Tryz.prog = true := by kernel_rfl
abbrev laidL : List (String × DataW Unit) := [("mummer/isa.forms", Rows.laid_mummer_isa_forms), ("mummer/isa.spans", Rows.laid_mummer_isa_spans)]
theorem gst_size (fr : Int) (vi vc : Value) (en : Int) (s : Sta) (vs vd : Value) : (Tryz.prog.info? 41).map (·.size) = some (gstV fr vi vc en s vs vd).size := by kernel_rfl
theorem gst_script (fr : Int) (vi vc : Value) (en : Int) (s : Sta) (vs vd v : Value) : (gstV fr vi vc en s vs vd).setIfInBounds 23 v = gstV fr vi vc en s v vd := rfl
theorem room_of {k : Nat} {x : MS} (hN : x.N = []) (hn : x.n = 0) (hO : x.d.O = []) (hk : k ≤ 900000) : Room k x := ⟨by rw [hN]; simpa using hk, by rw [hO]; simpa using hk, by rw [hn]; omega⟩
set_option maxHeartbeats 8000000 in
set_option maxRecDepth 100000 in
theorem walk (fr : Int) (xi : Option Addr) (li ci : Nat) (Z : List Int) (xc : Option Addr) (lc cc : Nat) (C : List In4) (en : Int) (s : Sta) (xs : Option Addr) (ls cs : Nat) (E : List Ev) (xd : Option Addr) (ld cd : Nat) (D : List Int) (hfr : -9223372036854775808 ≤ fr ∧ fr ≤ 9223372036854775807) (a1 : Int) (w1 : (Lit.int .u8 a1).wf = true) (w : World) (w0 : GstIn w fr xi li ci Z xc lc cc C en s xs ls cs E xd ld cd D) (hT : Tabs w) :
    Calls Tryz.prog 8 #[.agg (gstV fr (.slice xi li ci) (.slice xc lc cc) en s (.slice xs ls cs) (.slice xd ld cd)), .int .u8 a1] w fun e w' => e = .returned (.bool true) ∧ Kep w w' := by
  have I' := hidd w0
  have T' := hidd hT
  have F' := hidd hfr
  obtain ⟨k, hk⟩ : ∃ k : Nat, a1 = (k : Int) ∧ k < 256 := by
    have := gu8_of w1
    exact ⟨a1.toNat, by omega, by omega⟩
  obtain ⟨rfl, hk⟩ := hk
  have HK := hidd hk
  obtain ⟨vs, hvs⟩ : ∃ vs, Hid ((Value.slice xs ls cs) = vs) := ⟨_, rfl⟩
  rw [hvs.out]
  have HM1 : Hid (∀ w', Kep w w' → Calls Tryz.prog 14 #[.agg (gstV fr (.slice xi li ci) (.slice xc lc cc) en s (.slice none 0 0) (.slice xd ld cd))] w' (MadeP w' (nFr fr) (gstX fr Z C en s [] D) (.slice none 0 0) [] D)) := fun w' k => by
    have i := I'.out.kep k
    exact made12_any (xs := none) (ls := 0) (cs := 0) (E := []) ⟨i.il, i.ic, i.im, i.ii, i.ib, i.kl, i.kc, i.km, i.ki, i.ko, i.eo, i.so, ⟨rfl, by omega, by omega, .inl rfl, i.sd.zl, i.sd.zc, i.sd.zm, i.sd.zi⟩, by simp, i.db⟩ F'.out (T'.out.grown k)
  have HM2 : Hid (∀ w' b, Kep w w' → w'.heap[b]? = some (.cells #[.int .i64 (k : Int), .int .i64 0, .int .u8 0] 76 (0, 0)) → Calls Tryz.prog 14 #[.agg (gstV fr (.slice xi li ci) (.slice xc lc cc) en s (.slice (some ⟨b, 0, none⟩) 1 1) (.slice xd ld cd))] w' (MadeP w' (nFr fr) (gstX fr Z C en s [((k : Int), 0, 0)] D) (.slice (some ⟨b, 0, none⟩) 1 1) [((k : Int), 0, 0)] D)) := fun w' b kp hb => by
    have i := I'.out.kep kp
    refine made12_any (xs := some ⟨b, 0, none⟩) (ls := 1) (cs := 1) (E := [((k : Int), 0, 0)]) ⟨i.il, i.ic, i.im, i.ii, i.ib, i.kl, i.kc, i.km, i.ki, i.ko, i.eo, i.so, ⟨rfl, by omega, by omega, .inr ⟨b, 0, rfl, block_lt hb, fun j u hj => ?_⟩, i.sd.zl, i.sd.zc, i.sd.zm, i.sd.zi⟩, by simp, i.db⟩ F'.out (T'.out.grown kp)
    rw [Nat.zero_add, cell_of_block hb, ← hj]
    simp [evs, evV]
  have HW : Hid (∀ w', Kep w w' → Calls Tryz.prog 11 #[] w' fun e w'' => e = .returned (.bool true) ∧ Kep w' w'') := fun w' k => works12_any w' (T'.out.grown k)
  obtain ⟨V, hV⟩ : ∃ V, Hid (gstV fr (.slice xi li ci) (.slice xc lc cc) en s vs (.slice xd ld cd) = V) := ⟨_, rfl⟩
  obtain ⟨V1, hV1⟩ : ∃ V1, Hid (gstV fr (.slice xi li ci) (.slice xc lc cc) en s (.slice none 0 0) (.slice xd ld cd) = V1) := ⟨_, rfl⟩
  obtain ⟨V2, hV2⟩ : ∃ V2 : Nat → Array Value, Hid (∀ b, gstV fr (.slice xi li ci) (.slice xc lc cc) en s (.slice (some ⟨b, 0, none⟩) 1 1) (.slice xd ld cd) = V2 b) := ⟨_, fun _ => rfl⟩
  have st1 : Hid (V.setIfInBounds 23 (.slice none 0 0) = V1) := by rw [Hid, ← hV.out, ← hV1.out, gst_script]
  have st2 : Hid (∀ b, V1.setIfInBounds 23 (.slice (some ⟨b, 0, none⟩) 1 1) = V2 b) := fun b => by rw [← hV1.out, ← hV2.out, gst_script]
  have z1 : Hid ((Tryz.prog.info? 41).map (·.size) = some V1.size) := by rw [Hid, ← hV1.out]; exact gst_size _ _ _ _ _ _ _
  have z2 : Hid (∀ b, (Tryz.prog.info? 41).map (·.size) = some (V2 b).size) := fun b => by rw [← hV2.out]; exact gst_size _ _ _ _ _ _ _
  have e23 : Hid (V[23]? = some vs ∧ V1[23]? = some (.slice none 0 0)) := by rw [Hid, ← hV.out, ← hV1.out]; exact ⟨rfl, rfl⟩
  rw [hV1.out] at HM1
  have HM2' : Hid (∀ w' b, Kep w w' → w'.heap[b]? = some (.cells #[.int .i64 (k : Int), .int .i64 0, .int .u8 0] 76 (0, 0)) → Calls Tryz.prog 14 #[.agg (V2 b)] w' (MadeP w' (nFr fr) (gstX fr Z C en s [((k : Int), 0, 0)] D) (.slice (some ⟨b, 0, none⟩) 1 1) [((k : Int), 0, 0)] D)) := fun w' b h1 h2 => by
    have h := HM2.out w' b h1 h2
    rw [hV2.out] at h
    exact h
  have xds : Hid (D = D ∧ (errI [] D = 0 → (gstX fr Z C en s [] D).Ok) ∧ (gstX fr Z C en s [] D).B ≠ []) := by
    have hB : (gstX fr Z C en s [] D).B ≠ [] := by
      intro e
      have h1 := gstL_len fr Z C en
      have h2 := nFr_range fr
      rw [show gstL fr Z C en = [] from e] at h1
      simp at h1; omega
    exact ⟨rfl, fun he => ms0_ok (ds0_ok he (by simp) I'.out.db) (by simp [ds0]) (msk_ok I'.out.so) hB, hB⟩
  have eE : Hid (errI [((k : Int), 0, 0)] D = errI [] D) := err_one k HK.out D
  have ik_ : (k : Int) < 256 := by have := HK.out; omega
  rw [hV.out]
  clear w0 hfr hT w1 hk HM2 hV hV1 hV2 hvs
  go_enter Tryz.func8, Tryz.ntmps8
  go_upto_region 1 with fail
  obtain ⟨i1, q1⟩ : ∃ i1, Hid (i1 = w.heap.size) := ⟨_, rfl⟩
  rw [← q1.out]
  have B1 := hidd (show (w.alloc (.cells V 41)).heap[i1]? = some (.cells V 41 (0, 0)) by rw [q1.out]; exact hat _ _ _ rfl)
  have K1 := hidd ((Kep.refl w).alloc (.cells V 41))
  generalize w.alloc (.cells V 41) = W1 at B1 K1 ⊢
  have c1 : W1.cell? ⟨i1, 23, none⟩ = some vs := by rw [cell_of_block B1.out]; exact e23.out.1
  have f1 : W1.frozen? ⟨i1, 23, none⟩ = false := frozen_of_row _ _ _ _ _ B1.out
  go_upto_region 2 with fail
  have B2 : Hid ((W1.setCell ⟨i1, 23, none⟩ (.slice none 0 0)).heap[i1]? = some (.cells V1 41 (0, 0))) := by rw [Hid, heap_setCell_row B1.out, st1.out]
  have K2 : Hid (Kep w (W1.setCell ⟨i1, 23, none⟩ (.slice none 0 0))) := K1.out.setCell (by rw [q1.out]; exact Nat.le_refl _) _
  generalize W1.setCell ⟨i1, 23, none⟩ (.slice none 0 0) = W2 at B2 K2 ⊢
  clear c1 f1 B1 K1
  refine wp_region_lit ?_
  refine wpList_load_row (by rfl) 41 _ (by rfl) i1 (by rfl) 41 _ (0, 0) _ B2.out Tryz.underlying41 rfl z1.out ?_
  go_wp2_with fail
  refine (HM1.out W2 K2.out).mono ?_
  intro e w3 hm
  obtain ⟨ev, hev⟩ : ∃ ev : Obj, Hid (.cells #[.int .i64 (k : Int), .int .i64 0, .int .u8 0] 76 = ev) := ⟨_, rfl⟩
  have K23 : Hid (Kep W2 w3) := by
    rcases hm with ⟨_, _, k3⟩ | ⟨_, p, pm, R, G, q, Rb, G2, _, P⟩
    · exact k3
    · exact P.kep
  have B3 := hidd (K23.out.block B2.out)
  have K3 := hidd (kep_trans K2.out K23.out)
  have li : Hid (i1 < w3.heap.size) := block_lt B3.out
  have c3 : (w3.alloc (.cells #[.int .i64 (k : Int), .int .i64 0, .int .u8 0] 76)).cell? ⟨i1, 23, none⟩ = some (.slice none 0 0) := by rw [cell_of_block ((hsk _ _ _ li.out).trans B3.out)]; exact e23.out.2
  have f3 : (w3.alloc (.cells #[.int .i64 (k : Int), .int .i64 0, .int .u8 0] 76)).frozen? ⟨i1, 23, none⟩ = false := frozen_of_row _ _ _ _ _ ((hsk _ _ _ li.out).trans B3.out)
  obtain ⟨W4, hW4⟩ : ∃ W4, Hid ((w3.alloc (.cells #[.int .i64 (k : Int), .int .i64 0, .int .u8 0] 76)).setCell ⟨i1, 23, none⟩ (.slice (some ⟨w3.heap.size, 0, none⟩) 1 1) = W4) := ⟨_, rfl⟩
  have P4 : Hid (Put [i1] w3 W4) := by rw [Hid, ← hW4.out]; exact ((Put.refl _).alloc _).setCell (by simp) _
  have K4 : Hid (Kep w W4) := K3.out.put P4.out (by simp; rw [q1.out]; exact Nat.le_refl _)
  have B4 : Hid (W4.heap[i1]? = some (.cells (V2 w3.heap.size) 41 (0, 0))) := by rw [Hid, ← hW4.out, heap_setCell_row ((hsk _ _ _ li.out).trans B3.out), st2.out]
  have E4 : Hid (W4.heap[w3.heap.size]? = some (.cells #[.int .i64 (k : Int), .int .i64 0, .int .u8 0] 76 (0, 0))) := by rw [Hid, ← hW4.out, heap_setCell_other _ _ _ _ (by have := li.out; simp; omega)]; exact hat _ _ _ rfl
  clear K23
  rcases hm with ⟨he, rfl, k3⟩ | ⟨he, p, pm, R, G, q, Rb, G2, rfl, P⟩
  · clear k3
    go_upto_region 4 with fail
    rw [hW4.out]
    refine wp_region_lit ?_
    refine wpList_load_row (by rfl) 41 _ (by rfl) i1 (by rfl) 41 _ (0, 0) _ B4.out Tryz.underlying41 rfl (z2.out _) ?_
    go_wp2_with fail
    refine (HM2'.out W4 _ K4.out E4.out).mono ?_
    rintro e w5 (⟨_, rfl, k5⟩ | ⟨he', _⟩)
    · go_wp2_with fail
      go_ret
      exact ⟨rfl, kep_trans K4.out k5⟩
    · exact absurd (eE.out ▸ he') he
  obtain ⟨x, hx⟩ : ∃ x, Hid (gstX fr Z C en s [] D = x) := ⟨_, rfl⟩
  have okx : Hid x.Ok := by rw [Hid, ← hx.out]; exact xds.out.2.1 he
  have xB : Hid (x.B ≠ []) := by rw [Hid, ← hx.out]; exact xds.out.2.2
  have xn : Hid (x.n = 0) := by rw [Hid, ← hx.out]; rfl
  have xN : Hid (x.N = []) := by rw [Hid, ← hx.out]; rfl
  have xO : Hid (x.d.O = []) := by rw [Hid, ← hx.out]; rfl
  have xE : Hid (x.d.E = []) := by rw [Hid, ← hx.out]; rfl
  have hx2 : Hid (gstX fr Z C en s [((k : Int), 0, 0)] D = scX x [((k : Int), 0, 0)]) := by rw [Hid, ← hx.out]; rfl
  rw [hx2.out] at HM2'
  obtain ⟨ix, hix⟩ : ∃ ix, Hid (List.range (nFr fr) = ix) := ⟨_, rfl⟩
  have A3 : Hid (Mach w3 p pm R ix x G) := by rw [Hid, ← hix.out, ← hx.out]; exact P.mch
  have N3 : Hid (∀ g ∈ R :: G, W2.heap.size ≤ g) := P.new
  have A4 : Hid (Mach W4 p pm R ix x G) := A3.out.put P4.out (fun g hg hm => by
      have h1 := N3.out g hg
      have h2 := block_lt B2.out
      simp at hm; omega) (off_tag A3.out.ram B3.out (by decide) (by decide))
  have N4 : Hid (∀ g ∈ R :: G, w.heap.size ≤ g) := fun g hg => by have := N3.out g hg; have := K2.out.size; omega
  have he' := hidd he
  clear P he A3 N3
  go_upto_region 4 with fail
  rw [hW4.out]
  refine wp_region_lit ?_
  refine wpList_load_row (by rfl) 41 _ (by rfl) i1 (by rfl) 41 _ (0, 0) _ B4.out Tryz.underlying41 rfl (z2.out _) ?_
  go_wp2_with fail
  refine (HM2'.out W4 _ K4.out E4.out).mono ?_
  rintro e w5 (⟨he2, _⟩ | ⟨_, p', pm', R', G', q', Rb', G2', rfl, P⟩)
  · exact absurd (eE.out.trans he'.out) he2
  have yB : Hid ((scX x [((k : Int), 0, 0)]).B ≠ []) := xB.out
  have T5 : Hid (Twin w p pm R ix x p' pm' R' ix (scX x [((k : Int), 0, 0)]) G G' w5) := Twin.of A4.out xB.out K4.out N4.out (by rw [← hix.out]; exact P.mch) yB.out P.kep P.new
  have by5 : Hid (Byts x.B ∧ Fits x.B ix) := by obtain ⟨_, _, _, _, m, _⟩ := A4.out; exact ⟨m.mem.byts, m.mem.fits⟩
  clear P A4 B4 E4 K4 P4 HM2' hW4 c3 f3
  have rm0 : Hid (Room 300 x) := room_of xN.out xn.out xO.out (by omega)
  have okX := hidd (run_ok (m := 0) k okx.out by5.out.1 by5.out.2 (rm0.out.less (by have := HK.out; omega)))
  have oky : Hid (scX x [((k : Int), 0, 0)]).Ok := by
    have h := okx.out
    have hd := h.d
    exact ⟨ok_sc hd _ (by intro e he; simp at he; subst he; exact ⟨wrong_at k HK.out, by simp, by simp⟩), by simp [scX], h.s, h.B, h.n⟩
  have DL := hidd (run_delay ix ((k : Int), 0, 0) k x xE.out (by rw [xn.out]; omega))
  have ru1 : Hid (Calls Tryz.prog 15 #[.pointer (some ⟨p, 0, none⟩), .int .i64 (k : Int)] w5 fun e w'' => e = .returned (.int .i64 (runN ix k x)) ∧ ∃ G1, Twin w p pm R ix (runX ix k x) p' pm' R' ix (scX x [((k : Int), 0, 0)]) G1 G' w'') := T5.out.run okx.out yB.out T'.out k (by have := HK.out; omega) (rm0.out.less (by have := HK.out; omega))
  have ru2 : Hid (∀ w' G1, Twin w p' pm' R' ix (scX x [((k : Int), 0, 0)]) p pm R ix (runX ix k x) G' G1 w' → Calls Tryz.prog 15 #[.pointer (some ⟨p', 0, none⟩), .int .i64 (k : Int)] w' fun e w'' => e = .returned (.int .i64 (runN ix k x)) ∧ ∃ G2, Twin w p' pm' R' ix (scX (runX ix k x) [((k : Int), 0, 0)]) p pm R ix (runX ix k x) G2 G1 w'') := fun w' G1 t => by
    have h := t.run oky.out okX.out.1.B T'.out k (by have := HK.out; omega) (let r := rm0.out.less (m := k) (by have := HK.out; omega); ⟨r.N, r.O, r.n⟩)
    rw [DL.out.1, DL.out.2] at h
    exact h
  clear DL
  generalize runX ix k x = X at ru1 ru2 okX
  generalize runN ix k x = a at ru1 ru2
  go_upto_region 7 with fail
  go_wp2_with fail
  refine ru1.out.mono ?_
  rintro e w6 ⟨rfl, G6, t6⟩
  have T6 := hidd t6.swap
  clear t6 T5 ru1
  go_wp2_with fail
  refine (ru2.out _ _ T6.out).mono ?_
  rintro e w7 ⟨rfl, G7, t7⟩
  have T7 := hidd t7
  clear t7 T6 ru2
  have hss : ∀ w, Sem.run Tryz.prog (Op.equalIn 10000 26 (.agg X.s.v) (.agg X.s.v)) w = .ok true w := fun w => sta_same X.s w
  have Nc : Hid ((X.N.length : Int) ≤ 900000) := by have := okX.out.2.2.2.N; unfold Hid; omega
  go_wp2_with fail
  refine (mstate_any T7.out.b).mono ?_
  rintro e w8 ⟨rfl, k8⟩
  have T8 := hidd (T7.out.kept k8)
  clear k8 T7
  go_wp2_with fail
  refine (mstate_any T8.out.a).mono ?_
  rintro e w9 ⟨rfl, k9⟩
  have T9 := hidd (T8.out.kept k9)
  clear k9 T8
  have eS : (scX X [((k : Int), 0, 0)]).s = X.s := rfl
  rw [eS]
  clear eS
  go_wp2_with fail
  refine (mnotes_any T9.out.b (by have := Nc.out; omega)).mono ?_
  rintro e w10 ⟨v10, rfl, ⟨F10, sl10, _⟩, k10⟩
  obtain ⟨x10, c10, rfl, L10, _⟩ := sl10.lies
  have T10 := hidd (T9.out.kept k10)
  have L10 := hidd L10
  clear k10 T9 sl10
  go_wp2_with fail
  refine (mnotes_any T10.out.a (by have := Nc.out; exact (show ((X.N.length : Int) ≤ 5000000000) by omega))).mono ?_
  rintro e w11 ⟨v11, rfl, ⟨F11, sl11, _⟩, k11⟩
  obtain ⟨x11, c11, rfl, L11, _⟩ := sl11.lies
  have T11 := hidd (T10.out.kept k11)
  have HS : Hid (Calls Tryz.prog 19 #[.slice x10 X.N.length c10, .slice x11 X.N.length c11] w11 fun e w' => e = .returned (.bool true) ∧ Kep w11 w') := notes12_same w11 x10 x11 c10 c11 X.N Nc.out (L10.out.kep k11) L11
  have eN : (scX X [((k : Int), 0, 0)]).N = X.N := rfl
  rw [eN]
  clear k11 T10 sl11 L10 L11 eN
  go_wp2_with fail
  refine HS.out.mono ?_
  rintro e w12 ⟨rfl, k12⟩
  have K12 := hidd (kep_trans T11.out.kep k12)
  clear k12 T11 HS
  go_wp2_with (go_at_call 11; refine (HW.out _ K12.out).mono ?_; rintro e w13 ⟨rfl, KW⟩)
  go_ret
  exact ⟨rfl, kep_trans K12.out KW⟩
set_option maxRecDepth 100000 in
theorem lifted (os : Os) (started : os.Started) (H : Type) (enc : TypeId × Value → H) :
    ReturnsInHanded {} Tryz.checked os 8 .any (fun w args => (Rows.machineDelaysSpec.pre enc Tryz.prog Tryz.f8 Rows.machineDelaysRow.domain false w args ∧ laidMetH Tryz.prog laidL w) ∧ sizedMet enc Tryz.prog Tryz.f8 (OpenSpec.ofChange Rows.machineDelaysSpec) false w args)
      (Rows.machineDelaysSpec.post enc Tryz.prog Tryz.f8 false true false false) := by
  refine returnsInHanded_of_change_and (C := Tryz.checked) (X := fun w _ => laidMetH Tryz.prog laidL w) (fun _ _ _ hh h => h.of_heap hh) own started (by kernel_rfl) Tryz.func8
    (ChangeSpec.witness_shaped (enc := enc) (C := Tryz.checked) (os := os) (X := fun w _ => laidMetH Tryz.prog laidL w) false (World.laidAll Tryz.prog os laidL) #[.agg #[.int .i64 0, .slice none 0 0, .slice none 0 0, .int .u16 0, .int .u32 0, .int .u32 0, .int .u32 0, .int .u32 0, .int .u32 0, .int .u32 0, .int .u32 0, .int .u32 0, .int .u32 0, .int .u32 0, .int .u32 0, .int .u32 0, .int .u32 0, .int .u32 0, .int .u32 0, .int .u32 0, .int .u32 0, .int .u32 0, .bool false, .slice none 0 0, .slice none 0 0], .int .u8 0] 8 (World.laidAll_os _ _ _)
      (World.shaped_of_ZipB (by kernel_rfl) (by kernel_rfl)) (by kernel_rfl) (by kernel_rfl) (by kernel_rfl)
      (by rw [MakeChecks.laidMetH_plain _ _ _ (by kernel_rfl)]; exact laidMet_laidAll _ (by kernel_rfl) (by kernel_rfl))) ?_
  intro W base args ds gs before hval0 hW hcnd hsz0 hL _
  have hval : ∀ (j : Nat) t v, Tryz.f8.params[j]? = some t → args[j]? = some v → Value.okWide Tryz.prog W .any base t v := hval0
  have hW' := hW
  obtain ⟨p, q, hA0, hV, rfl, hfz, hnd⟩ := hW
  have hA : DataW.TrodAll enc Tryz.prog W 0 (fun _ => true) true Tryz.f8.params.toList args.toList ds p := hA0
  rw [Tryz.params8] at hA hval
  obtain ⟨v0, vs0, d0, ds0, p0, q0, hargs, rfl, rfl, h0, r0⟩ := trodAll_cons hA
  obtain ⟨v1, vs1, d1, ds1, p1, q1, rfl, rfl, rfl, h1, r1⟩ := trodAll_cons r0
  obtain ⟨rfl, rfl, rfl⟩ := trodAll_nil r1
  obtain rfl : args = #[v0, v1] := by cases args; simp_all
  obtain ⟨rfl, rfl⟩ := trodVars_none hV
  have k0 := h0
  have lt0 : ∀ x ∈ p0, x.block < W.heap.size := by obtain ⟨m, hm⟩ := k0; exact DataW.trod_lt m _ _ _ hm
  obtain ⟨fr, xi, li, ci, Z, xc, lc, cc, C, en, s, xs, ls, cs, E, xd, ld, cd, D, rfl, hfr, w0⟩ := open_gst (hval 0 41 v0 rfl rfl) h0
  have k1 := h1
  have lt1 : ∀ x ∈ p1, x.block < W.heap.size := by obtain ⟨m, hm⟩ := k1; exact DataW.trod_lt m _ _ _ hm
  obtain ⟨a1, rfl, rfl, rfl, w1⟩ := open_int Tryz.underlying5 (hval 1 5 v1 rfl rfl) h1
  clear hA0 hval0
  refine (walk fr xi li ci Z xc lc cc C en s xs ls cs E xd ld cd D hfr a1 w1 W w0 (tabs_of_laid hL)).mono fun e W' ⟨he, bel0⟩ => ?_
  have bel : Below W.heap.size W W' := bel0
  subst he
  exact ⟨_, rfl, _, _, _, [], _, [], hW', trodAll_mk1 (shut_bool Tryz.underlying4 _), (trodAll_cons_mk (Below.trod laidOut (by kernel_rfl) (of_decide_eq_true (by kernel_rfl)) k0 bel lt0) (trodAll_cons_mk (Below.trod laidOut (by kernel_rfl) (of_decide_eq_true (by kernel_rfl)) k1 bel lt1) trodAll_mk0)), rfl, bel.frame _, fun h => by cases h⟩
theorem over : Rows.machineDelaysRow.holds Tryz.pinned (OpenSpec.ofChange Rows.machineDelaysSpec) :=
  OpenClaim.holds_of_wide 8 Tryz.f8 rfl rfl rfl rfl rfl rfl rfl ⟨rfl, rfl, rfl, rfl, rfl⟩ rfl rfl rfl rfl rfl (by kernel_rfl) Tryz.func8 (by kernel_rfl)
    (of_decide_eq_true (by kernel_rfl)) (by unfold Func.isWrapper; first | (rw [if_pos (by decide +kernel)]; kernel_rfl) | (rw [if_neg (by decide +kernel)]; exact ⟨rfl, rfl⟩))
    (fun os started H enc _ => lifted os started H enc)
end Go.Proofs.YtojoobonienhnaaGreatDoor.machineDelays
namespace Go.Proofs.YtojoobonienhnaaGreatDoor
theorem machineDelays_holds : Rows.MachineDelaysCardSaid :=
  Claim7.holds_tied_plain_at .later [] [.data, .data] true (true, "5cbbd589b00704533d2a2cabec6c6acf0dc199b8b5d7e9fd7a5c8c054a7fc604") true machineDelays.over (fun _ h => by cases h) (by kernel_rfl) (fun _ h => by cases h) machineDelays_row_tie rfl ⟨rfl, rfl⟩ (by kernel_rfl) rfl
    (fun f fn hf hfn => by
      obtain rfl : f = 8 := Option.some.inj ((show Tryz.prog.funcNamed "mummer/mummerlaw12.MachineDelays" = some 8 by kernel_rfl).symm.trans hf) |>.symm
      obtain rfl : fn = Tryz.f8 := (Option.some.inj (Tryz.func8.symm.trans hfn)).symm
      exact ⟨by kernel_rfl, fun j t ht => by
        rw [Tryz.params8] at ht
        have hm : t ∈ [41, 5] := by simpa using Array.mem_of_getElem? ht
        have hall : ([41, 5].all fun u => !Tryz.prog.wantsStandIn u) = true := by kernel_rfl
        exact (show Tryz.prog.wantsStandIn t = false by simpa using List.all_eq_true.1 hall t hm)⟩)
    (by kernel_rfl)
#print axioms machineDelays_holds
end Go.Proofs.YtojoobonienhnaaGreatDoor
