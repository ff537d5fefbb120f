/- For every guest and any bound, the law ScanEnds returns true: a block has one instruction at least, and at most as many as may be; only the last one ends a block; its places follow one another. -/
import Derived.Test.YtamffningddgbaaGreatDoorRows
import Derived.Test.YtamffningddgbaaGreatDoorTie
import Derived.Test.YtamffningddgbaaGreatDoorCards
import Derived.WalkKit
import Derived.ProofKit
import Derived.OpenShut
import Derived.ShutString
import Derived.ChangeOld
import Derived.Below
import Derived.Lib.SmallJoins
import Derived.Lay
import Derived.SevenTiedAt
import Derived.Stop.Joined
import Derived.Test.YtamffningddgbaaGreatDoorJ92
namespace Go.Proofs.YtamffningddgbaaGreatDoor.scanEnds
open Go.ChangeShapes Go.WideShapes Go.ChangeAt Go.RowKit
set_option linter.unusedVariables false
set_option linter.unusedSimpArgs false
theorem own : ownKnob Tryz.prog.godebug = none := by kernel_rfl
theorem laidOut : laidOutB Tryz.prog = true := by kernel_rfl
abbrev laidL : List (String × DataW Unit) := [("mummer/isa.forms", Rows.laid_mummer_isa_forms), ("mummer/isa.spans", Rows.laid_mummer_isa_spans)]
theorem endI_no (op : Int) : endI op = 1 ↔ gE (tabF op) = false := by
  unfold endI
  cases gE (tabF op) <;> simp
  split
  · decide
  · split <;> decide
theorem pg_and (s : Sta) (ok : s.Ok) : (bits .and .u32 s.ps 4 == 0) = !pgB s := by
  rw [and4_is s.ps ok.ps]
  unfold pgB
  have := ok.ps
  by_cases h : s.ps / 4 % 2 = 1
  · have h2 : s.ps.toNat / 4 % 2 = 1 := by omega
    rw [h, h2]; rfl
  · have h1 : s.ps / 4 % 2 = 0 := by omega
    have h2 : s.ps.toNat / 4 % 2 = 0 := by omega
    rw [h1, h2]; rfl
set_option maxHeartbeats 8000000 in
set_option maxRecDepth 100000 in
theorem walk (fr : Int) (xi : Option Addr) (li ci : Nat) (Z : List Int) (xc : Option Addr) (lc cc : Nat) (C : List In4) (en : Int) (s : Sta) (xs : Option Addr) (ls cs : Nat) (E : List Ev) (xd : Option Addr) (ld cd : Nat) (D : List Int) (hfr : -9223372036854775808 ≤ fr ∧ fr ≤ 9223372036854775807) (a1 : Int) (w1 : (Lit.int .i64 a1).wf = true) (w : World) (w0 : GstIn w fr xi li ci Z xc lc cc C en s xs ls cs E xd ld cd D) (hT : Tabs w) :
    Calls Tryz.prog 4 #[.agg (gstV fr (.slice xi li ci) (.slice xc lc cc) en s (.slice xs ls cs) (.slice xd ld cd)), .int .i64 a1] w fun e w' => e = .returned (.bool true) ∧ Kep w w' := by
  have I' := hidd w0
  have T' := hidd hT
  have F' := hidd hfr
  have SO : Hid s.Ok := ⟨w0.so.r, w0.so.pc, w0.so.ps, w0.so.c⟩
  have BL : Hid ((gstL fr Z C en).length = 64 * nFr fr) := gstL_len fr Z C en
  have NR : Hid (1 ≤ nFr fr ∧ nFr fr ≤ 24) := nFr_range fr
  have BN : Hid (gstL fr Z C en ≠ []) := by
    intro e
    have h1 := BL.out
    have h2 := NR.out
    rw [e] at h1
    simp at h1; omega
  obtain ⟨V, hV⟩ : ∃ V, Hid (gstV fr (.slice xi li ci) (.slice xc lc cc) en s (.slice xs ls cs) (.slice xd ld cd) = V) := ⟨_, rfl⟩
  have VZ : Hid ((Tryz.prog.info? 31).map (·.size) = some V.size) := by rw [Hid, ← hV.out]; kernel_rfl
  have RA : Hid (∀ (w' : World) (g : Nat), w'.heap[g]? = some (.cells V 31 (0, 0)) → w'.rangeAt g 4 s.v.toList) := fun w' g h => by rw [← hV.out] at h; exact sta_midd h
  have HM : Hid (∀ w', Kep w w' → Calls Tryz.prog 7 #[.agg V] w' fun e w'' => ∃ p R Rb : Nat, e = .returned (.tuple #[.pointer (some ⟨p, 0, none⟩), refV (some ⟨Rb, 0, none⟩) (64 * nFr fr)]) ∧
      Two w'' (.pointer (some ⟨p, 0, none⟩)) R (nFr fr) (some ⟨Rb, 0, none⟩) Rb (gstL fr Z C en) ∧ Kep w' w'' ∧ w'.heap.size ≤ R ∧ w'.heap.size ≤ Rb) := fun w' k => by rw [← hV.out]; exact made18_any (I'.out.kep k) F'.out
  have HW : Hid (∀ w', Kep w w' → Calls Tryz.prog 11 #[] w' fun e w'' => e = .returned (.bool true) ∧ Kep w' w'') := fun w' k => works18_any w' (T'.out.grown k)
  rw [hV.out]
  have MR := i64_of w1
  clear w0 hfr hT w1
  generalize nFr fr = n at *
  generalize gstL fr Z C en = B at *
  obtain ⟨N, hN⟩ : ∃ N, Hid (64 * n = N) := ⟨_, rfl⟩
  have HM' := HM.out
  rw [hN.out] at HM'
  have HM2 := hidd HM'
  clear HM HM'
  go_enter Tryz.func4, Tryz.ntmps4
  go_upto_region 1 with fail
  obtain ⟨i1, q1⟩ : ∃ i1, Hid (i1 = w.heap.size) := ⟨_, rfl⟩
  rw [← q1.out]
  have B1 := hidd (show (w.alloc (.cells V 31)).heap[i1]? = some (.cells V 31 (0, 0)) by rw [q1.out]; exact hat _ _ _ rfl)
  have K1 := hidd ((Kep.refl w).alloc (.cells V 31))
  generalize w.alloc (.cells V 31) = W1 at B1 K1 ⊢
  refine wp_region_lit ?_
  refine wpList_load_row (by rfl) 31 _ (by rfl) i1 (by rfl) 31 _ (0, 0) _ B1.out Tryz.underlying31 rfl VZ.out ?_
  go_wp2_with fail
  refine (HM2.out W1 K1.out).mono ?_
  rintro e w3 ⟨p, R, Rb, rfl, T2, k3, lR, lRb⟩
  have K3 := hidd (kep_trans K1.out k3)
  have B3 := hidd (k3.block B1.out)
  have M3 := hidd (Two.mem19 T2)
  have HS : Hid (∀ w', Kep w3 w' → ∀ m, Calls Tryz.prog 8 #[.pointer (some ⟨p, 0, none⟩), .agg s.v, .int .i64 m] w' fun e w'' => ∃ vI vA vF vT, e = .returned (.tuple #[.agg (blkC vI vA (scU B (List.range n) s m).n (scU B (List.range n) s m).t (scU B (List.range n) s m).e vF vT), .agg #[.int .i64 (fetF B (List.range n) s).1, .int .u32 (fetF B (List.range n) s).2]]) ∧ BlkV w'' B (List.range n) s m vI vA vF vT ∧ Kep w' w'') := fun w' k m =>
    scan_all (M3.out.kep k) BN.out SO.out (T'.out.grown (kep_trans K3.out k)) m
  clear HM2 T2 k3 lR lRb B1 K1
  obtain ⟨fc, fd, fq⟩ : ∃ c d, Hid (fetF B (List.range n) s = (c, d)) := ⟨_, _, rfl⟩
  obtain ⟨Ua, ua⟩ : ∃ U, Hid (scU B (List.range n) s a1 = U) := ⟨_, rfl⟩
  obtain ⟨Fa, sfa⟩ : ∃ F, Hid (scF B (List.range n) s a1 = F) := ⟨_, rfl⟩
  obtain ⟨Ta, sta⟩ : ∃ T, Hid (scT B (List.range n) s a1 = T) := ⟨_, rfl⟩
  have HE : Hid (fc = 0 → Whole B (List.range n) s Ua ∧ 1 ≤ Ua.I.length ∧ Ua.I.length ≤ 32 ∧ ((1 : Int) < Ua.I.length → (Ua.I.length : Int) ≤ a1) ∧ 1 ≤ Fa.length ∧ Fa.length ≤ 2 ∧ (pgB s = false ↔ Ta.length = 0)) := fun h0 => by
    have hz : (fetF B (List.range n) s).1 = 0 := by rw [fq.out]; exact h0
    have := scn_ends (n := n) M3.out.byts (by have := NR.out; omega) SO.out a1 hz
    have e1 : scU B (List.range n) s a1 = scnB B (List.range n) s a1 := by unfold scU; exact if_pos hz
    have e2 : scF B (List.range n) s a1 = fmL (scnB B (List.range n) s a1).R := by unfold scF; exact if_pos hz
    have e3 : scT B (List.range n) s a1 = scnT s (scnB B (List.range n) s a1) := by unfold scT; exact if_pos hz
    have hU := ua.out.symm.trans e1
    have hF := sfa.out.symm.trans e2
    have hT := sta.out.symm.trans e3
    rw [hU, hF, hT]
    exact this
  have HZ : Hid (fc ≠ 0 → Ua = ⟨[], [], [], 0, 0, 0⟩ ∧ Fa = [] ∧ Ta = []) := fun h0 => by
    have hz : ¬ (fetF B (List.range n) s).1 = 0 := by rw [fq.out]; exact h0
    refine ⟨?_, ?_, ?_⟩
    · rw [← ua.out]; unfold scU; exact if_neg hz
    · rw [← sfa.out]; unfold scF; exact if_neg hz
    · rw [← sta.out]; unfold scT; exact if_neg hz
  have SA := hidd (scU_same B (List.range n) s a1)
  rw [ua.out] at SA
  go_upto_region 4 with fail
  have K4 := hidd ((Kep.refl w3).alloc (.cells #[.slice (some ⟨Rb, 0, none⟩) N N] 34))
  have B4 := hidd (K4.out.block B3.out)
  generalize w3.alloc (.cells #[.slice (some ⟨Rb, 0, none⟩) N N] 34) = W4 at K4 B4 ⊢
  refine wp_region_lit ?_
  go_wp2_with (refine load_sta19 (by rfl) _ (by rfl) i1 4 (by rfl) s (RA.out _ _ B4.out) ?_)
  refine (HS.out W4 K4.out a1).mono ?_
  rintro e wa ⟨vI, vA, vF, vT, he, ⟨⟨xia, cia, rfl, i1a, i2a, i3a⟩, ⟨xaa, caa, rfl, a1a, a2a, a3a⟩, ⟨xfa, cfa, rfl, f1a, f2a, f3a⟩, ⟨xta, cta, rfl, t1a, t2a, t3a⟩⟩, ka⟩
  have LIa := hidd (And.intro i1a (And.intro i2a i3a))
  have LAa := hidd (And.intro a1a (And.intro a2a a3a))
  have LFa := hidd (And.intro f1a (And.intro f2a f3a))
  have LTa := hidd (And.intro t1a (And.intro t2a t3a))
  clear i1a i2a i3a a1a a2a a3a f1a f2a f3a t1a t2a t3a
  rw [fq.out] at he
  rw [sfa.out] at he LFa
  rw [sta.out] at he LTa
  obtain ⟨Va, hVa⟩ : ∃ V, Hid (blkC (.slice xia Ua.I.length cia) (.slice xaa Ua.A.length caa) Ua.n Ua.t Ua.e (.slice xfa Fa.length cfa) (.slice xta Ta.length cta) = V) := ⟨_, rfl⟩
  have VZa : Hid ((Tryz.prog.info? 40).map (·.size) = some Va.size) := by rw [Hid, ← hVa.out]; exact size_blk
  have VSa : Hid (7 = Va.size) := by rw [Hid, ← hVa.out]; rfl
  have VOa : Hid (Va.all Value.oneCell' = true) := by rw [Hid, ← hVa.out]; simp [Value.oneCell']
  have V0a : Hid (Va[0]? = some (.slice xia Ua.I.length cia)) := by rw [Hid, ← hVa.out]; rfl
  have V1a : Hid (Va[1]? = some (.slice xaa Ua.A.length caa)) := by rw [Hid, ← hVa.out]; rfl
  have V4a : Hid (Va[4]? = some (.int .i64 Ua.e)) := by rw [Hid, ← hVa.out]; rfl
  have V5a : Hid (Va[5]? = some (.slice xfa Fa.length cfa)) := by rw [Hid, ← hVa.out]; rfl
  have V6a : Hid (Va[6]? = some (.slice xta Ta.length cta)) := by rw [Hid, ← hVa.out]; rfl
  rw [ua.out, hVa.out] at he
  rw [ua.out] at LIa LAa
  obtain rfl := he
  have Ka := hidd (kep_trans K4.out ka)
  have Kca := hidd ka
  clear ka
  obtain ⟨Ya, hYa⟩ : ∃ W, Hid ((wa.alloc (.cells #[.slice none 0 0, .slice none 0 0, .int .u32 0, .int .u32 0, .int .i64 0, .slice none 0 0, .slice none 0 0] 40)).alloc (.cells #[.int .i64 0, .int .u32 0] 42) = W) := ⟨_, rfl⟩
  obtain ⟨ia, qia⟩ : ∃ i, Hid (i = wa.heap.size) := ⟨_, rfl⟩
  obtain ⟨fa, qfa⟩ : ∃ i, Hid (i = wa.heap.size + 1) := ⟨_, rfl⟩
  have BIa : Hid (Ya.heap[ia]? = some (.cells #[.slice none 0 0, .slice none 0 0, .int .u32 0, .int .u32 0, .int .i64 0, .slice none 0 0, .slice none 0 0] 40 (0, 0))) := by rw [← hYa.out, qia.out]; exact ((Kep.refl _).alloc _).block (hat _ _ _ rfl)
  have BFa : Hid (Ya.heap[fa]? = some (.cells #[.int .i64 0, .int .u32 0] 42 (0, 0))) := by rw [← hYa.out, qfa.out]; exact hat _ _ _ (by simp)
  have KYa : Hid (Kep wa Ya) := by rw [← hYa.out]; exact ((Kep.refl _).alloc _).alloc _
  have NEa : Hid (ia ≠ fa) := by rw [qia.out, qfa.out]; exact Nat.ne_of_lt (Nat.lt_succ_self _)
  have BGa := hidd ((setRow_other Ya ia fa Va (Ne.symm NEa.out)).trans BFa.out)
  have Pa : Hid (Put [ia, fa] Ya ((Ya.setRow ia Va).setRow fa #[.int .i64 fc, .int .u32 fd])) := ((Put.refl _).setRow (by simp) _).setRow (by simp) _
  obtain ⟨Xa, hXa⟩ : ∃ W, Hid ((Ya.setRow ia Va).setRow fa #[.int .i64 fc, .int .u32 fd] = W) := ⟨_, rfl⟩
  have CIa : Hid (Xa.heap[ia]? = some (.cells Va 40 (0, 0))) := by rw [← hXa.out]; exact (setRow_other _ _ _ _ NEa.out).trans (setRow_heap _ _ _ _ _ _ BIa.out)
  have CFa : Hid (Xa.heap[fa]? = some (.cells #[.int .i64 fc, .int .u32 fd] 42 (0, 0))) := by rw [← hXa.out]; exact setRow_heap _ _ _ _ _ _ BGa.out
  have KXa : Hid (Kep wa Xa) := by rw [← hXa.out]; exact KYa.out.put Pa.out (by have := qia.out; have := qfa.out; simp; omega)
  go_upto_region 5 with (first
    | (rw [hYa.out, ← qfa.out, ← qia.out]; refine wpList_store_row (by rfl) 40 _ _ (by rfl) ia Va (by rfl) (by rfl) 40 #[.slice none 0 0, .slice none 0 0, .int .u32 0, .int .u32 0, .int .i64 0, .slice none 0 0, .slice none 0 0] BIa.out (by exact VZa.out) (by exact VSa.out) VOa.out ?_)
    | (refine wpList_store_row (by rfl) 42 _ _ (by rfl) fa #[.int .i64 fc, .int .u32 fd] (by rfl) (by rfl) 42 #[.int .i64 0, .int .u32 0] BGa.out (by exact size_flt) (by rfl) (by simp [Value.oneCell']) ?_; rw [hXa.out]))
  have K5 := hidd (kep_trans Ka.out KXa.out)
  have KV := hidd (kep_trans Kca.out KXa.out)
  have B5 := hidd (KV.out.block B4.out)
  have LI5 := hidd (And.intro LIa.out.1 (And.intro LIa.out.2.1 (LIa.out.2.2.kep KXa.out)))
  have LA5 := hidd (And.intro LAa.out.1 (And.intro LAa.out.2.1 (LAa.out.2.2.kep KXa.out)))
  have LF5 := hidd (And.intro LFa.out.1 (And.intro LFa.out.2.1 (LFa.out.2.2.kep KXa.out)))
  have LT5 := hidd (And.intro LTa.out.1 (And.intro LTa.out.2.1 (LTa.out.2.2.kep KXa.out)))
  clear VSa VOa hYa BIa BFa KYa NEa BGa Pa hXa KXa Ka Kca K4 B4 LIa LAa LFa LTa qia qfa KV
  have cf0 : Xa.cell? ⟨fa, 0, none⟩ = some (.int .i64 fc) := cell_of_block CFa.out
  have KW5 := hidd (kep_trans K3.out K5.out)
  by_cases h0 : fc = 0
  · have hn0 : (fc != 0) = false := by simpa using h0
    obtain ⟨W0, n1, n32, nm, f1, f2, tt⟩ := HE.out h0
    have WH := hidd W0
    have NM := hidd nm
    have TT := hidd tt
    clear W0 nm tt HE HZ h0
    have nu : (Ua.I.length : Int) < 1 → False := by omega
    have ca0 : Xa.cell? ⟨ia, 0, none⟩ = some (.slice xia Ua.I.length cia) := (cell_of_block CIa.out).trans V0a.out
    have ca1 : Xa.cell? ⟨ia, 1, none⟩ = some (.slice xaa Ua.A.length caa) := (cell_of_block CIa.out).trans V1a.out
    have ca4 : Xa.cell? ⟨ia, 4, none⟩ = some (.int .i64 Ua.e) := (cell_of_block CIa.out).trans V4a.out
    have ca5 : Xa.cell? ⟨ia, 5, none⟩ = some (.slice xfa Fa.length cfa) := (cell_of_block CIa.out).trans V5a.out
    have ca6 : Xa.cell? ⟨ia, 6, none⟩ = some (.slice xta Ta.length cta) := (cell_of_block CIa.out).trans V6a.out
    have eaa : Ua.A.length = Ua.I.length := SA.out.symm
    rw [eaa] at ca1
    have hmax : (Ua.I.length : Int) ≤ 9223372036854775807 := by omega
    have RM := hidd (RA.out _ _ B5.out)
    have sp : Xa.cell? ⟨i1, 12, none⟩ = some (.int .u32 s.pc) := RM.out 8 _ rfl
    have ss : Xa.cell? ⟨i1, 13, none⟩ = some (.int .u32 s.ps) := RM.out 9 _ rfl
    obtain ⟨g0, hg0⟩ : ∃ g, Ua.A[0]? = some g := ⟨_, List.getElem?_eq_getElem (by omega)⟩
    have ge0 := WH.out.a0 g0 hg0
    obtain ⟨b3, o3, hx3, ga⟩ := lies_nu19 LA5.out.2.2 hg0
    rw [ge0] at ga
    have ga0 : Xa.cell? ⟨b3, o3, none⟩ = some (.int .u32 s.pc) := ga
    obtain rfl := hx3
    clear ga hg0 ge0 eaa nu
    have c3 : (1 : Int) < Ua.I.length ∧ ¬ a1 < (Ua.I.length : Int) ∨ ¬ (1 : Int) < Ua.I.length ∧ a1 < (Ua.I.length : Int) ∨ ¬ (1 : Int) < Ua.I.length ∧ ¬ a1 < (Ua.I.length : Int) := by
      have := NM.out
      by_cases h1 : (1 : Int) < Ua.I.length
      · exact .inl ⟨h1, by have := this h1; omega⟩
      · by_cases h2 : a1 < (Ua.I.length : Int)
        · exact .inr (.inl ⟨h1, h2⟩)
        · exact .inr (.inr ⟨h1, h2⟩)
    have q1 : decide ((Ua.I.length : Int) < 1) = false := decide_eq_false (by omega)
    have q32 : decide ((32 : Int) < Ua.I.length) = false := decide_eq_false (by omega)
    have LEN := hidd (And.intro n1 n32)
    have FL := hidd (And.intro f1 f2)
    go_upto_region 8 with fail
    obtain ⟨nl, hnl⟩ : ∃ m : Nat, Hid (Ua.I.length = m) := ⟨_, rfl⟩
    rcases c3 with ⟨x1, x2⟩ | ⟨x1, x2⟩ | ⟨x1, x2⟩
    case' inl => have y1 : decide ((1 : Int) < Ua.I.length) = true := decide_eq_true x1; have y2 : decide (a1 < (Ua.I.length : Int)) = false := decide_eq_false x2
    case' inr.inl => have y1 : decide ((1 : Int) < Ua.I.length) = false := decide_eq_false x1; have y2 : decide (a1 < (Ua.I.length : Int)) = true := decide_eq_true x2
    case' inr.inr => have y1 : decide ((1 : Int) < Ua.I.length) = false := decide_eq_false x1; have y2 : decide (a1 < (Ua.I.length : Int)) = false := decide_eq_false x2
    all_goals
      go_quiet (fail)
      have KQ : Hid (Kep w (Xa.drewN nq)) := KW5.out.drewN nq
      have KQa : Hid (Kep Xa (Xa.drewN nq)) := (Kep.refl _).drewN nq
      go_upto_region 10 with fail
      clear ca5 ca6 sp ss ga0 ca0 ca1 ca4 y1 y2 x1 x2 q1 q32 hnl nl cf0 hn0
      generalize Xa.drewN nq = XD at KQ KQa ⊢
      go_wp2_with fail
      refine (knew_any XD).mono ?_
      rintro e w8 ⟨rfl, T8⟩
      generalize XD.heap.size + 2 = kp at T8 ⊢
      generalize XD.heap.size + 1 = kk at T8 ⊢
      generalize XD.heap.size = ko at T8 ⊢
      have T8' := hidd T8
      clear T8
      go_wp2_with fail
      go_loopw [11] (fun i wr => ∃ k : Nat, (k : Int) ≤ Ua.I.length ∧ i = .int .i64 k ∧ Hid (Tb XD wr kp ko kk)) (fun i _ => Ua.I.length - (intOf i).toNat)
      case atStart => exact ⟨0, by omega, rfl, T8'.out⟩
      case round =>
        obtain ⟨k, hk, rfl, hTb⟩ := hrel
        by_cases hlt : k < Ua.I.length
        · obtain ⟨e, he⟩ : ∃ e, Ua.I[k]? = some e := ⟨_, List.getElem?_eq_getElem hlt⟩
          obtain ⟨g, hg⟩ : ∃ g, Ua.A[k]? = some g := ⟨_, List.getElem?_eq_getElem (by rw [← SA.out]; exact hlt)⟩
          obtain ⟨b1, o1, hx1, ra⟩ := lies_in19 LI5.out.2.2 he
          obtain ⟨b4, o4, hx4, gb⟩ := lies_nu19 LA5.out.2.2 hg
          obtain ⟨rfl, rfl⟩ : b3 = b4 ∧ o3 = o4 := by simpa using hx4
          have hop := WH.out.op e (List.mem_of_getElem? he)
          have hgr := WH.out.ar g (List.mem_of_getElem? hg)
          have ra0 : Xa.cell? ⟨b1, o1 + k * 4, none⟩ = some (.int .u8 e.1) := ra 0 _ rfl
          obtain ⟨bE, hbE⟩ : ∃ b, gE (tabF e.1) = b := ⟨_, rfl⟩
          have HEn : Hid (∀ w2 p o kb, Tb XD w2 p o kb → Calls Tryz.prog 13 #[.pointer (some ⟨p, 0, none⟩), .int .u8 e.1] w2 fun x w' => x = .returned (.bool bE) ∧ Tb XD w' p o kb ∧ Stp o kb w2 w') := fun w2 p o kb h => by
            have := ends_any e.1 hop.1 hop.2 XD w2 p o kb h
            rw [hbE] at this
            exact this
          have hno := endI_no e.1
          rw [hbE] at hno
          obtain ⟨m1, hm1⟩ : ∃ m : Int, Hid ((Ua.I.length : Int) - 1 = m) := ⟨_, rfl⟩
          have hcs : (((k : Int) == m1) = false ∧ bE = false) ∨ (((k : Int) == m1) = true ∧ (Ua.e != 1) = bE) := by
            have hmm := hm1.out
            by_cases h1 : k + 1 < Ua.I.length
            · exact .inl ⟨by simp; omega, hno.1 (WH.out.e1 k e he h1)⟩
            · refine .inr ⟨by simp; omega, ?_⟩
              have h2 := WH.out.e2 e (by rw [show Ua.I.length - 1 = k from by omega]; exact he)
              rw [← h2]
              cases bE with
              | false => simpa using hno.2 rfl
              | true => simp; exact fun q => by have := hno.1 q; cases this
          have l0 : ∀ i : TW XD wr kp ko kk, i.val.cell? ⟨ia, 0, none⟩ = some (.slice xia Ua.I.length cia) := fun i => kcell19 (kep_trans KQa.out i.tb.kep) ((cell_of_block CIa.out).trans V0a.out)
          have l1 : ∀ i : TW XD wr kp ko kk, i.val.cell? ⟨ia, 1, none⟩ = some (.slice (some ⟨b3, o3, none⟩) Ua.I.length caa) := fun i => kcell19 (kep_trans KQa.out i.tb.kep) ((cell_of_block CIa.out).trans (by rw [SA.out]; exact V1a.out))
          have l4 : ∀ i : TW XD wr kp ko kk, i.val.cell? ⟨ia, 4, none⟩ = some (.int .i64 Ua.e) := fun i => kcell19 (kep_trans KQa.out i.tb.kep) ((cell_of_block CIa.out).trans V4a.out)
          have lo : ∀ i : TW XD wr kp ko kk, i.val.cell? ⟨b1, o1 + k * 4, none⟩ = some (.int .u8 e.1) := fun i => kcell19 (kep_trans KQa.out i.tb.kep) ra0
          have lg : ∀ i : TW XD wr kp ko kk, i.val.cell? ⟨b3, o3 + k, none⟩ = some (.int .u32 g) := fun i => kcell19 (kep_trans KQa.out i.tb.kep) gb
          have hprev : Hid (k = 0 ∨ ∃ j g1, k = j + 1 ∧ Ua.A[j]? = some g1 ∧ (g - g1) % 4294967296 ≤ 6 ∧ 0 ≤ g1 ∧ g1 < 4294967296 ∧ ∀ i : TW XD wr kp ko kk, i.val.cell? ⟨b3, o3 + j, none⟩ = some (.int .u32 g1)) := by
            cases k with
            | zero => exact .inl rfl
            | succ j =>
              obtain ⟨g1, hg1⟩ : ∃ g, Ua.A[j]? = some g := ⟨_, List.getElem?_eq_getElem (by rw [← SA.out]; omega)⟩
              obtain ⟨b5, o5, hx5, gc⟩ := lies_nu19 LA5.out.2.2 hg1
              obtain ⟨rfl, rfl⟩ : b3 = b5 ∧ o3 = o5 := by simpa using hx5
              have hr := WH.out.ar g1 (List.mem_of_getElem? hg1)
              exact .inr ⟨j, g1, rfl, hg1, WH.out.a1 j g1 g hg1 hg, hr.1, hr.2, fun i => kcell19 (kep_trans KQa.out i.tb.kep) gc⟩
          obtain rfl := hx1
          have hne : Nonempty (TW XD wr kp ko kk) := ⟨⟨_, hTb.out, Stp.refl _⟩⟩
          obtain ⟨eo, ea, eb, em⟩ := e
          simp only at lo HEn
          clear he hg ra gb ra0 hbE hno hop hx4 hgr
          have hbb : (bE != bE) = false := by cases bE <;> rfl
          have hp' := hprev.out
          go_upto_region 14 with fail
          rcases hcs with ⟨hkn, hb⟩ | ⟨hkn, hb⟩
          case' inl => subst hb
          all_goals
            rcases hp' with hk0 | ⟨j, g1, hj, _, hdd, hr0, hr1, l5⟩
            case' inl => (have hk1 : decide ((0 : Int) < k) = false := decide_eq_false (by omega); have hk2 : decide (0 < k) = false := decide_eq_false (by omega))
            case' inr => (have hk1 : decide ((0 : Int) < k) = true := decide_eq_true (by omega); obtain ⟨dd, hdl, hdw, hde⟩ : ∃ d : Int, decide ((6 : Int) < d) = false ∧ IntKind.u32.wrap (g - g1) = d ∧ (g - g1) % 4294967296 = d := ⟨_, decide_eq_false (by omega), IntKind.wrap_u32 _, rfl⟩; have hkw2 : wrap64 ((k : Int) - 1) = (j : Int) := (IntWalk.wrap64_in _ (by omega)).trans (by omega); have hkw : IntKind.i64.wrap ((k : Int) - 1) = (j : Int) := (IntKind.wrap_i64 _).trans (by first | exact hkw2 | (unfold wrap64 at hkw2; omega)); have hk2 : decide (0 < k) = true := decide_eq_true (by omega); have hjl : j < Ua.I.length := by omega)
            all_goals
              have hnw : IntKind.i64.wrap ((Ua.I.length : Int) - 1) = m1 := by have := hm1.out; rw [IntKind.wrap_i64]; omega
              have hnw2 : wrap64 ((Ua.I.length : Int) - 1) = m1 := (IntWalk.wrap64_in _ (by omega)).trans hm1.out
              try clear hk0
              try clear hj
              refine region_tw (by kernel_rfl) (by kernel_rfl) hTb.out ?_
              repeat (go_big_quiet_step ((go_at_call 13; refine (HEn.out _ _ _ _ (TW.tb _)).mono ?_; rintro e w6 ⟨rfl, T6, S6⟩; exact ⟨rfl, ⟨_, T6, Stp.trans (TW.st _) S6⟩, rfl⟩)))
              refine wpQuiet_nil ?_
              rintro _ ⟨i, rfl⟩
              have T9 := hidd i.tb
              generalize i.val = wz at T9 ⊢
              clear l0 l1 l4 lo lg hprev hTb HEn
              try clear l5
              go_wp2_with fail
              go_roundw
              case rel => exact ⟨k + 1, by omega, by go_num, T9.out⟩
              case measure => simp [intOf]; omega
        · obtain rfl : k = Ua.I.length := by omega
          have KE : Hid (Kep Xa wr) := kep_trans KQa.out hTb.out.kep
          obtain ⟨qb, hqb⟩ : ∃ b, (!pgB s) = b := ⟨_, rfl⟩
          have e1 : (bits .and .u32 s.ps 4 == 0) = qb := (pg_and s SO.out).trans hqb
          have e2 : ((Ta.length : Int) == 0) = qb := by
            rw [← hqb]
            have h := TT.out
            cases hp : pgB s with
            | false => rw [h.1 hp]; rfl
            | true =>
              have : Ta.length ≠ 0 := fun q => by have := h.2 q; rw [hp] at this; cases this
              show ((Ta.length : Int) == 0) = false
              rw [beq_eq_false_iff_ne]
              omega
          have e3 : (qb == qb) = true := by cases qb <;> rfl
          have x5 := kcell19 KE.out ((cell_of_block CIa.out).trans V5a.out)
          have x6 := kcell19 KE.out ((cell_of_block CIa.out).trans V6a.out)
          have xs := kcell19 KE.out (RM.out 9 _ rfl : Xa.cell? ⟨i1, 13, none⟩ = some (.int .u32 s.ps))
          have f1 : (1 : Int) ≤ Fa.length := by have := FL.out.1; omega
          have f2 : (Fa.length : Int) ≤ 2 := by have := FL.out.2; omega
          have KEw := hidd (kep_trans KW5.out KE.out)
          clear hTb hlt hk hqb
          go_wp2_with fail
          refine (HW.out _ KEw.out).mono ?_
          rintro e w14 ⟨rfl, k14⟩
          go_wp2_with fail
          go_ret
          exact ⟨rfl, kep_trans KEw.out k14⟩
  · have hn0 : (fc != 0) = true := by simpa using h0
    obtain ⟨z1, z2, z3⟩ := HZ.out h0
    clear HE HZ h0
    have HSM : Hid (∀ w', Kep Xa w' → Calls Tryz.prog 10 #[.agg Va, .agg #[.slice none 0 0, .slice none 0 0, .int .u32 0, .int .u32 0, .int .i64 0, .slice none 0 0, .slice none 0 0]] w' fun e w'' => e = .returned (.bool true) ∧ Kep w' w'') := fun w' k => by
      have h := same18_yes (w := w') (I := []) (A := []) (F := []) (T := []) (n := 0) (t := 0) (e := 0) (vIa := .slice xia Ua.I.length cia) (vAa := .slice xaa Ua.A.length caa) (vFa := .slice xfa Fa.length cfa) (vTa := .slice xta Ta.length cta) (vIb := nilS) (vAb := nilS) (vFb := nilS) (vTb := nilS)
        (by rw [z1]; exact ⟨_, _, rfl, Nat.zero_le _, by have := LI5.out.2.1; exact this, .inl rfl⟩) (by rw [z1]; exact ⟨_, _, rfl, Nat.zero_le _, by have := LA5.out.2.1; exact this, .inl rfl⟩) (by rw [z2]; exact ⟨_, _, rfl, Nat.zero_le _, by have := LF5.out.2.1; exact this, .inl rfl⟩) (by rw [z3]; exact ⟨_, _, rfl, Nat.zero_le _, by have := LT5.out.2.1; exact this, .inl rfl⟩)
        (rowv_nil _) (rowv_nil _) (rowv_nil _) (rowv_nil _) rfl
      rw [← hVa.out, z1]
      rw [z1] at h
      exact h
    clear z1 z2 z3
    go_upto_region 6 with fail
    refine wp_region_lit ?_
    refine wpList_load_row (by rfl) 40 _ (by rfl) ia (by rfl) 40 Va (0, 0) _ CIa.out Tryz.underlying40 rfl VZa.out ?_
    go_wp2_with fail
    refine (HSM.out _ (Kep.refl _)).mono ?_
    rintro e w8 ⟨rfl, k8⟩
    have K8 := hidd (kep_trans KW5.out k8)
    clear k8
    go_wp2_with fail
    refine (HW.out _ K8.out).mono ?_
    rintro e w9 ⟨rfl, k9⟩
    go_wp2_with fail
    go_ret
    exact ⟨rfl, kep_trans K8.out k9⟩
set_option maxRecDepth 100000 in
theorem lifted (os : Os) (started : os.Started) (H : Type) (enc : TypeId × Value → H) :
    ReturnsInHanded {} Tryz.checked os 4 .any (fun w args => (Rows.scanEndsSpec.pre enc Tryz.prog Tryz.f4 Rows.scanEndsRow.domain false w args ∧ laidMetH Tryz.prog laidL w) ∧ sizedMet enc Tryz.prog Tryz.f4 (OpenSpec.ofChange Rows.scanEndsSpec) false w args)
      (Rows.scanEndsSpec.post enc Tryz.prog Tryz.f4 false true false false) := by
  refine returnsInHanded_of_change_and (C := Tryz.checked) (X := fun w _ => laidMetH Tryz.prog laidL w) (fun _ _ _ hh h => h.of_heap hh) own started (by kernel_rfl) Tryz.func4
    (ChangeSpec.witness_shaped (enc := enc) (C := Tryz.checked) (os := os) (X := fun w _ => laidMetH Tryz.prog laidL w) false (World.laidAll Tryz.prog os laidL) #[.agg #[.int .i64 0, .slice none 0 0, .slice none 0 0, .int .u16 0, .int .u32 0, .int .u32 0, .int .u32 0, .int .u32 0, .int .u32 0, .int .u32 0, .int .u32 0, .int .u32 0, .int .u32 0, .int .u32 0, .int .u32 0, .int .u32 0, .int .u32 0, .int .u32 0, .int .u32 0, .int .u32 0, .int .u32 0, .int .u32 0, .bool false, .slice none 0 0, .slice none 0 0], .int .i64 0] 8 (World.laidAll_os _ _ _)
      (World.shaped_of_ZipB (by kernel_rfl) (by kernel_rfl)) (by kernel_rfl) (by kernel_rfl) (by kernel_rfl)
      (by rw [MakeChecks.laidMetH_plain _ _ _ (by kernel_rfl)]; exact laidMet_laidAll _ (by kernel_rfl) (by kernel_rfl))) ?_
  intro W base args ds gs before hval0 hW hcnd hsz0 hL _
  have hval : ∀ (j : Nat) t v, Tryz.f4.params[j]? = some t → args[j]? = some v → Value.okWide Tryz.prog W .any base t v := hval0
  have hW' := hW
  obtain ⟨p, q, hA0, hV, rfl, hfz, hnd⟩ := hW
  have hA : DataW.TrodAll enc Tryz.prog W 0 (fun _ => true) true Tryz.f4.params.toList args.toList ds p := hA0
  rw [Tryz.params4] at hA hval
  obtain ⟨v0, vs0, d0, ds0, p0, q0, hargs, rfl, rfl, h0, r0⟩ := trodAll_cons hA
  obtain ⟨v1, vs1, d1, ds1, p1, q1, rfl, rfl, rfl, h1, r1⟩ := trodAll_cons r0
  obtain ⟨rfl, rfl, rfl⟩ := trodAll_nil r1
  obtain rfl : args = #[v0, v1] := by cases args; simp_all
  obtain ⟨rfl, rfl⟩ := trodVars_none hV
  have k0 := h0
  have lt0 : ∀ x ∈ p0, x.block < W.heap.size := by obtain ⟨m, hm⟩ := k0; exact DataW.trod_lt m _ _ _ hm
  obtain ⟨fr, xi, li, ci, Z, xc, lc, cc, C, en, s, xs, ls, cs, E, xd, ld, cd, D, rfl, hfr, w0⟩ := open_gst (hval 0 31 v0 rfl rfl) h0
  have k1 := h1
  have lt1 : ∀ x ∈ p1, x.block < W.heap.size := by obtain ⟨m, hm⟩ := k1; exact DataW.trod_lt m _ _ _ hm
  obtain ⟨a1, rfl, rfl, rfl, w1⟩ := open_int Tryz.underlying3 (hval 1 3 v1 rfl rfl) h1
  clear hA0 hval0
  refine (walk fr xi li ci Z xc lc cc C en s xs ls cs E xd ld cd D hfr a1 w1 W w0 (tabs_of_laid hL)).mono fun e W' ⟨he, bel0⟩ => ?_
  have bel : Below W.heap.size W W' := bel0
  subst he
  exact ⟨_, rfl, _, _, _, [], _, [], hW', trodAll_mk1 (shut_bool Tryz.underlying4 _), (trodAll_cons_mk (Below.trod laidOut (by kernel_rfl) (of_decide_eq_true (by kernel_rfl)) k0 bel lt0) (trodAll_cons_mk (Below.trod laidOut (by kernel_rfl) (of_decide_eq_true (by kernel_rfl)) k1 bel lt1) trodAll_mk0)), rfl, bel.frame _, fun h => by cases h⟩
theorem over : Rows.scanEndsRow.holds Tryz.pinned (OpenSpec.ofChange Rows.scanEndsSpec) :=
  OpenClaim.holds_of_wide 4 Tryz.f4 rfl rfl rfl rfl rfl rfl rfl ⟨rfl, rfl, rfl, rfl, rfl⟩ rfl rfl rfl rfl rfl (by kernel_rfl) Tryz.func4 (by kernel_rfl)
    (of_decide_eq_true (by kernel_rfl)) (by unfold Func.isWrapper; first | (rw [if_pos (by decide +kernel)]; kernel_rfl) | (rw [if_neg (by decide +kernel)]; exact ⟨rfl, rfl⟩))
    (fun os started H enc _ => lifted os started H enc)
end Go.Proofs.YtamffningddgbaaGreatDoor.scanEnds
namespace Go.Proofs.YtamffningddgbaaGreatDoor
theorem scanEnds_holds : Rows.ScanEndsCardSaid :=
  Claim7.holds_tied_plain_at .later [] [.data, .data] true (true, "7fa92bc0b72429e4af1d2cd01e9a8d1e088acfc86bc952062cfda82cc5830e59") false scanEnds.over (fun _ h => by cases h) (by kernel_rfl) (fun _ h => by cases h) scanEnds_row_tie rfl ⟨rfl, rfl⟩ (by kernel_rfl) rfl
    (fun f fn hf hfn => by
      obtain rfl : f = 4 := Option.some.inj ((show Tryz.prog.funcNamed "mummer/mummerlaw18.ScanEnds" = some 4 by kernel_rfl).symm.trans hf) |>.symm
      obtain rfl : fn = Tryz.f4 := (Option.some.inj (Tryz.func4.symm.trans hfn)).symm
      exact ⟨by kernel_rfl, fun j t ht => by
        rw [Tryz.params4] at ht
        have hm : t ∈ [31, 3] := by simpa using Array.mem_of_getElem? ht
        have hall : ([31, 3].all fun u => !Tryz.prog.wantsStandIn u) = true := by kernel_rfl
        exact (show Tryz.prog.wantsStandIn t = false by simpa using List.all_eq_true.1 hall t hm)⟩)
    (by kernel_rfl)
#print axioms scanEnds_holds
end Go.Proofs.YtamffningddgbaaGreatDoor
