/- Of any block and first exit the law TranslateCounts returns true: ahead of each way out as many instructions are tallied as are done there, and exits are numbered one behind the other; the code's two tables hold what its text lays. -/
import Derived.Test.YtpalbpjmjbcelaaDoorRows
import Derived.Test.YtpalbpjmjbcelaaDoorTie
import Derived.Test.YtpalbpjmjbcelaaDoorCards
import Derived.WalkKit
import Derived.ProofKit
import Derived.OpenShut
import Derived.ShutString
import Derived.ChangeOld
import Derived.Below
import Derived.Lib.SmallJoins
import Derived.Lay
import Derived.SevenTiedAt
import Derived.Stop.Joined
import Derived.Test.YtpalbpjmjbcelaaDoorJ93
namespace Go.Proofs.YtpalbpjmjbcelaaDoor.translateCounts
open Go.ChangeShapes Go.WideShapes Go.ChangeAt Go.RowKit
set_option linter.unusedVariables false
set_option linter.unusedSimpArgs false
theorem own : ownKnob Tryd.prog.godebug = none := by kernel_rfl
theorem laidOut : laidOutB Tryd.prog = true := by kernel_rfl
abbrev laidL : List (String × DataW Unit) := [("mummer/isa.forms", Rows.laid_mummer_isa_forms), ("mummer/isa.spans", Rows.laid_mummer_isa_spans)]
set_option maxHeartbeats 8000000 in
set_option maxRecDepth 100000 in
theorem walk (xi : Option Addr) (li ci : Nat) (I : List In4) (xa : Option Addr) (la ca : Nat) (A : List Int) (n t e : Int) (xf : Option Addr) (lf cf : Nat) (xt : Option Addr) (lt ct : Nat) (a1 : Int) (w1 : (Lit.int .u8 a1).wf = true) (w : World) (w0 : BlkIn w xi li ci I xa la ca A n t e) (hT : Tabs w) :
    Calls Tryd.prog 6 #[.agg (blkC (.slice xi li ci) (.slice xa la ca) n t e (.slice xf lf cf) (.slice xt lt ct)), .int .u8 a1] w fun e w' => e = .returned (.bool true) ∧ Kep w w' := by
  have f0 : 0 ≤ a1 ∧ a1 ≤ 255 := by have := gu8_of w1; omega
  have q0 : 0 ≤ a1 := f0.1
  have q1 : a1 ≤ 255 := f0.2
  have f0 := hidd f0
  have H := hidd w0
  have T0 := hidd hT
  have WK : Hid (∀ w', Kep w w' → Calls Tryd.prog 10 #[] w' fun r w'' => r = .returned (.bool true) ∧ Kep w' w'') := fun w' k => works20_any w' (T0.out.grown k)
  clear w0 hT w1
  cases hm : mayL I la e
  · have TR : Hid (∀ w', Kep w w' → Calls Tryd.prog 11 #[.agg (blkC (.slice xi li ci) (.slice xa la ca) n t e (.slice xf lf cf) (.slice xt lt ct)), .int .i64 a1] w' fun r w'' => r = .returned (.tuple #[.agg #[nilS, nilS], .int .i64 2]) ∧ Kep w' w'') := fun w' k => lttr_no (H.out.kep k) a1 (.inl hm) (T0.out.grown k)
    clear hm H
    go_enter Tryd.func6, Tryd.ntmps6
    go_upto_region 1 with fail
    obtain ⟨bb, qb⟩ : ∃ i, Hid (i = w.heap.size) := ⟨_, rfl⟩
    rw [← qb.out]
    obtain ⟨W, hW⟩ : ∃ V, Hid (w.alloc (.cells (blkC (.slice xi li ci) (.slice xa la ca) n t e (.slice xf lf cf) (.slice xt lt ct)) 27) = V) := ⟨_, rfl⟩
    rw [hW.out]
    have K1 : Hid (Kep w W) := by rw [Hid, ← hW.out]; exact (Kep.refl _).alloc _
    have Bb : Hid (W.heap[bb]? = some (.cells (blkC (.slice xi li ci) (.slice xa la ca) n t e (.slice xf lf cf) (.slice xt lt ct)) 27 (0, 0))) := by rw [Hid, ← hW.out]; exact hat _ _ _ qb.out
    clear hW qb
    obtain ⟨c0, c1, c2, c3, c4, c5, c6⟩ := blk_cells Bb.out
    go_wp2_with fail
    refine (TR.out W K1.out).mono ?_
    rintro r w1 ⟨rfl, k1⟩
    have KW := hidd (kep_trans K1.out k1)
    clear k1 c0 c1 c2 c3 c4 c5 c6 TR
    go_wp2_with fail
    refine (WK.out _ (KW.out.alloc _)).mono ?_
    rintro r w2 ⟨rfl, k2⟩
    have K2 := hidd (kep_trans (KW.out.alloc _) k2)
    clear k2
    go_wp2_with fail
    go_ret
    exact ⟨rfl, K2.out⟩
  · have IT : Hid (∀ x ∈ trI I A n t e a1, Itm e x) := fun x hx => trI_item H.out.hn hm H.out.io ⟨f0.out.1, by have := f0.out.2; omega⟩ hx
    have TL : Hid (2 ≤ (trI I A n t e a1).length ∧ (trI I A n t e a1).length ≤ 36) := trI_len hm
    have TR : Hid (∀ w', Kep w w' → Calls Tryd.prog 11 #[.agg (blkC (.slice xi li ci) (.slice xa la ca) n t e (.slice xf lf cf) (.slice xt lt ct)), .int .i64 a1] w' fun r w'' => ∃ g o c g2 o2 c2, r = .returned (.tuple #[.agg #[.slice (some ⟨g, o, none⟩) (itB (trI I A n t e a1)).length c, .slice (some ⟨g2, o2, none⟩) (trI I A n t e a1).length c2], .int .i64 0]) ∧ CdR w'' g o c g2 o2 c2 (trI I A n t e a1) ∧ Kep w' w'') := fun w' k => lttr_read (H.out.kep k) a1 hm ⟨f0.out.1, by have := f0.out.2; omega⟩ (T0.out.grown k)
    have CN : Hid (CntOk (trI I A n t e a1) a1 (if e = 3 then 2 else 1)) := trI_cnt H.out.hn hm H.out.io f0.out.1
    generalize trI I A n t e a1 = T at *
    clear hm H f0
    go_enter Tryd.func6, Tryd.ntmps6
    go_upto_region 1 with fail
    obtain ⟨bb, qb⟩ : ∃ i, Hid (i = w.heap.size) := ⟨_, rfl⟩
    rw [← qb.out]
    obtain ⟨W, hW⟩ : ∃ V, Hid (w.alloc (.cells (blkC (.slice xi li ci) (.slice xa la ca) n t e (.slice xf lf cf) (.slice xt lt ct)) 27) = V) := ⟨_, rfl⟩
    rw [hW.out]
    have K1 : Hid (Kep w W) := by rw [Hid, ← hW.out]; exact (Kep.refl _).alloc _
    have Bb : Hid (W.heap[bb]? = some (.cells (blkC (.slice xi li ci) (.slice xa la ca) n t e (.slice xf lf cf) (.slice xt lt ct)) 27 (0, 0))) := by rw [Hid, ← hW.out]; exact hat _ _ _ qb.out
    clear hW qb
    obtain ⟨c0, c1, c2, c3, c4, c5, c6⟩ := blk_cells Bb.out
    go_wp2_with fail
    refine (TR.out W K1.out).mono ?_
    rintro r w1 ⟨g, o, c, g2, o2, m2, rfl, cr, k1⟩
    have CR1 := hidd cr
    have KW1 := hidd (kep_trans K1.out k1)
    have Bb1 := hidd (k1.block Bb.out)
    clear cr k1 c0 c1 c2 c3 c4 c5 c6 TR
    go_upto_region 2 with fail
    obtain ⟨bc, qc⟩ : ∃ i, Hid (i = w1.heap.size) := ⟨_, rfl⟩
    rw [← qc.out]
    obtain ⟨W2, hW2⟩ : ∃ V, Hid (w1.alloc (.cells #[.slice (some ⟨g, o, none⟩) (itB T).length c, .slice (some ⟨g2, o2, none⟩) T.length m2] 33) = V) := ⟨_, rfl⟩
    rw [hW2.out]
    have kW2 : Kep w1 W2 := by rw [← hW2.out]; exact (Kep.refl _).alloc _
    have KW := hidd (kep_trans KW1.out kW2)
    have CR := hidd (CR1.out.kep kW2)
    have B0 := hidd (kW2.block Bb1.out)
    have BC : Hid (W2.heap[bc]? = some (.cells #[.slice (some ⟨g, o, none⟩) (itB T).length c, .slice (some ⟨g2, o2, none⟩) T.length m2] 33 (0, 0))) := by rw [Hid, ← hW2.out]; exact hat _ _ _ qc.out
    clear hW2 qc kW2 CR1 KW1 Bb1 Bb K1
    have TG := hidd (T0.out.grown KW.out)
    have n1 : ((itB T).length : Int) ≤ c := by have := CR.out.le; omega
    have n2 : (c : Int) ≤ 9223372036854775807 := by have := CR.out.mx; unfold maxLen at this; omega
    have n3 : (T.length : Int) ≤ m2 := by have := CR.out.le2; omega
    have n4 : (m2 : Int) ≤ 9223372036854775807 := by have := CR.out.mx2; unfold maxLen at this; omega
    have n5 : (T.length : Int) ≤ 36 := by have := TL.out.2; omega
    have X1 : Hid (exN T 1 = 0) := by
      obtain ⟨_, _, x, hx, hx2⟩ := CN.out
      rw [Hid, show (1 : Nat) = 0 + 1 from rfl, exN_succ hx, if_neg (by omega)]; simp [exN]
    have l2 : (2 : Int) ≤ T.length := by have := TL.out.1; omega
    go_wp2_with fail
    go_loopw [7, 8] (fun a i wr => ∃ k : Nat, 1 ≤ k ∧ (k : Int) ≤ T.length ∧ i = .int .i64 k ∧ a = .int .i64 (a1 + exN T k) ∧ Hid (Kep W2 wr)) (fun _ i _ => T.length - (intOf i).toNat)
    case atStart => exact ⟨1, by omega, by omega, rfl, by rw [X1.out]; exact congrArg (Value.int .i64) (by omega), hidd (Kep.refl _)⟩
    case round =>
      obtain ⟨k, k1, hk, rfl, rfl, KR⟩ := hrel
      have b0 : wr.cell? ⟨bc, 0, none⟩ = some (.slice (some ⟨g, o, none⟩) (itB T).length c) := cell_of_block (KR.out.block BC.out)
      have b1 : wr.cell? ⟨bc, 1, none⟩ = some (.slice (some ⟨g2, o2, none⟩) T.length m2) := cell_of_block (KR.out.block BC.out)
      have xl : (exN T k : Int) ≤ 36 := by have := exN_le T k; omega
      by_cases hlt : k < T.length
      · obtain ⟨x, hx⟩ : ∃ z, T[k]? = some z := ⟨_, List.getElem?_eq_getElem hlt⟩
        obtain ⟨r0, r1, r2, r3⟩ := (CR.out.kep KR.out).row hx
        have cn := CN.out.1 k x hx
        obtain ⟨⟨op, a, b, im⟩, pc, dn, ex⟩ := x
        simp only at r0 r1 r2 r3 cn
        have kl : (k : Int) < T.length := by omega
        rcases cn with ⟨x1, x2⟩ | ⟨x1, x2, x3, x4, d, hy, x5, x6⟩
        · have x2 := hidd x2
          clear hx r0 r1 r2
          go_wp2_with fail
          go_roundw
          case rel => exact ⟨k + 1, by omega, by omega, by go_num, by rw [x2.out], KR⟩
          case measure => simp [intOf]; omega
        · obtain ⟨y0, y1, y2, y3⟩ := (CR.out.kep KR.out).row hy
          obtain ⟨t1, t2⟩ := take_lt (fun x hx => (IT.out x hx).1) hy
          have DC : Hid (∀ w', Kep wr w' → ∀ l cc, l = (itB T).length - (itB (T.take (k - 1))).length → cc = c - (itB (T.take (k - 1))).length → Calls Tryd.prog 14 #[.slice (some ⟨g, o + (itB (T.take (k - 1))).length, none⟩) l cc, .bool true] w' fun e w'' => e = .returned (.tuple #[.agg (insA 112 0 0 d), .int .i64 (encH (112, 0, 0, d)).length, .int .i64 0]) ∧ Kep w' w'') :=
            fun w' kk l cc hl hcc => ((CR.out.kep KR.out).kep kk).dec (fun x hx => (IT.out x hx).1) hy (TG.out.grown (kep_trans KR.out kk)) l cc hl hcc
          generalize (itB (T.take (k - 1))).length = off at *
          simp only at y0 y1 y2 y3
          have s1 : (off : Int) < (itB T).length := by omega
          have s4 : (off : Int) ≤ (itB T).length := by omega
          have x1' : ¬ ex < 0 := by omega
          have ex4 : Hid (ex = a1 + exN T k) := x4
          have x2 := hidd x2
          have km : (1 : Int) ≤ k := by omega
          have lg : Hid (g2 < wr.heap.size) := World.block_lt_of_cell? wr _ r1
          have R1 := hidd r1
          have R3 := hidd r3
          have C0 := hidd b0
          have C1 := hidd b1
          clear x4 hx hy t1 t2 r0 r1 r2
          go_upto_region 10 with fail
          obtain ⟨bt, qt⟩ : ∃ i, Hid (i = wr.heap.size) := ⟨_, rfl⟩
          rw [← qt.out]
          obtain ⟨W3, hW3⟩ : ∃ V, Hid (wr.alloc (.cells #[.int .i64 off, .int .u32 pc, .int .i64 d, .int .i64 (-1)] 41) = V) := ⟨_, rfl⟩
          rw [hW3.out]
          have kW3 : Kep wr W3 := by rw [← hW3.out]; exact (Kep.refl _).alloc _
          have Bt : Hid (W3.heap[bt]? = some (.cells #[.int .i64 off, .int .u32 pc, .int .i64 d, .int .i64 (-1)] 41 (0, 0))) := by rw [Hid, ← hW3.out]; exact hat _ _ _ qt.out
          have kW3 := hidd kW3
          clear hW3 qt y0 y1 y2 y3 b0 b1 r3
          have b0 : W3.cell? ⟨bc, 0, none⟩ = some (.slice (some ⟨g, o, none⟩) (itB T).length c) := cell_of_block ((kep_trans KR.out kW3.out).block BC.out)
          have t0 : W3.cell? ⟨bt, 0, none⟩ = some (.int .i64 off) := cell_of_block Bt.out
          go_wp2_with fail
          refine (DC.out W3 kW3.out _ _ (by omega) (by omega)).mono ?_
          rintro r w4 ⟨rfl, k4⟩
          have K4 := hidd (kep_trans kW3.out k4)
          have Bt4 := hidd (k4.block Bt.out)
          clear b0 t0 k4 kW3 Bt
          go_upto_region 11 with fail
          obtain ⟨bx, qx⟩ : ∃ i, Hid (i = w4.heap.size) := ⟨_, rfl⟩
          rw [← qx.out]
          obtain ⟨W5, hW5⟩ : ∃ V, Hid (w4.alloc (.cells (insA 112 0 0 d) 43) = V) := ⟨_, rfl⟩
          rw [hW5.out]
          have kW5 : Kep w4 W5 := by rw [← hW5.out]; exact (Kep.refl _).alloc _
          have Bx : Hid (W5.heap[bx]? = some (.cells (insA 112 0 0 d) 43 (0, 0))) := by rw [Hid, ← hW5.out]; exact hat _ _ _ qx.out
          have K5 := hidd (kep_trans K4.out kW5)
          have Bt5 := hidd (kW5.block Bt4.out)
          clear hW5 qx kW5 K4 Bt4
          have e0 : W5.cell? ⟨bx, 0, none⟩ = some (.int .u8 112) := cell_of_block Bx.out
          have e3 : W5.cell? ⟨bx, 3, none⟩ = some (.int .i32 d) := cell_of_block Bx.out
          have u1 : W5.cell? ⟨bt, 1, none⟩ = some (.int .u32 pc) := cell_of_block Bt5.out
          have u2 : W5.cell? ⟨bt, 2, none⟩ = some (.int .i64 d) := cell_of_block Bt5.out
          have b1 : W5.cell? ⟨bc, 1, none⟩ = some (.slice (some ⟨g2, o2, none⟩) T.length m2) := cell_of_block ((kep_trans KR.out K5.out).block BC.out)
          have r1 : W5.cell? ⟨g2, o2 + k * 4 + 1, none⟩ = some (.int .u32 pc) := (K5.out.cell lg.out).trans R1.out
          have r3 : W5.cell? ⟨g2, o2 + k * 4 + 3, none⟩ = some (.int .i64 (a1 + exN T k)) := by rw [← ex4.out]; exact (K5.out.cell lg.out).trans R3.out
          generalize hxN : exN T k = N at *
          go_quiet (fail)
          go_wp2_with fail
          go_roundw
          case rel => exact ⟨k + 1, by omega, by omega, by go_num, by rw [x2.out]; exact congrArg (Value.int .i64) (by omega), hidd ((kep_trans KR.out K5.out).drewN _)⟩
          case measure => simp [intOf]; omega
      · obtain rfl : k = T.length := by omega
        have e4 : wr.cell? ⟨bb, 4, none⟩ = some (.int .i64 e) := cell_of_block (KR.out.block B0.out)
        have xn := CN.out.2.1
        by_cases h3 : e = 3
        · rw [if_pos h3] at xn
          rw [h3] at e4
          rw [xn]
          go_wp2_with fail
          refine (WK.out _ (kep_trans KW.out KR.out)).mono ?_
          rintro r w3 ⟨rfl, k3⟩
          have k3 := hidd k3
          go_wp2_with fail
          go_ret
          exact ⟨rfl, kep_trans KW.out (kep_trans KR.out k3.out)⟩
        · rw [if_neg h3] at xn
          have x3 : (e == 3) = false := by rw [beq_eq_false_iff_ne]; exact h3
          rw [xn]
          go_wp2_with fail
          refine (WK.out _ (kep_trans KW.out KR.out)).mono ?_
          rintro r w3 ⟨rfl, k3⟩
          have k3 := hidd k3
          go_wp2_with fail
          go_ret
          exact ⟨rfl, kep_trans KW.out (kep_trans KR.out k3.out)⟩
set_option maxRecDepth 100000 in
theorem lifted (os : Os) (started : os.Started) (H : Type) (enc : TypeId × Value → H) :
    ReturnsInHanded {} Tryd.checked os 6 .any (fun w args => (Rows.translateCountsSpec.pre enc Tryd.prog Tryd.f6 Rows.translateCountsRow.domain false w args ∧ laidMetH Tryd.prog laidL w) ∧ sizedMet enc Tryd.prog Tryd.f6 (OpenSpec.ofChange Rows.translateCountsSpec) false w args)
      (Rows.translateCountsSpec.post enc Tryd.prog Tryd.f6 false true false false) := by
  refine returnsInHanded_of_change_and (C := Tryd.checked) (X := fun w _ => laidMetH Tryd.prog laidL w) (fun _ _ _ hh h => h.of_heap hh) own started (by kernel_rfl) Tryd.func6
    (ChangeSpec.witness_shaped (enc := enc) (C := Tryd.checked) (os := os) (X := fun w _ => laidMetH Tryd.prog laidL w) false (World.laidAll Tryd.prog os laidL) #[.agg #[.slice none 0 0, .slice none 0 0, .int .u32 0, .int .u32 0, .int .i64 0, .slice none 0 0, .slice none 0 0], .int .u8 0] 8 (World.laidAll_os _ _ _)
      (World.shaped_of_ZipB (by kernel_rfl) (by kernel_rfl)) (by kernel_rfl) (by kernel_rfl) (by kernel_rfl)
      (by rw [MakeChecks.laidMetH_plain _ _ _ (by kernel_rfl)]; exact laidMet_laidAll _ (by kernel_rfl) (by kernel_rfl))) ?_
  intro W base args ds gs before hval0 hW hcnd hsz0 hL _
  have hval : ∀ (j : Nat) t v, Tryd.f6.params[j]? = some t → args[j]? = some v → Value.okWide Tryd.prog W .any base t v := hval0
  have hW' := hW
  obtain ⟨p, q, hA0, hV, rfl, hfz, hnd⟩ := hW
  have hA : DataW.TrodAll enc Tryd.prog W 0 (fun _ => true) true Tryd.f6.params.toList args.toList ds p := hA0
  rw [Tryd.params6] at hA hval
  obtain ⟨v0, vs0, d0, ds0, p0, q0, hargs, rfl, rfl, h0, r0⟩ := trodAll_cons hA
  obtain ⟨v1, vs1, d1, ds1, p1, q1, rfl, rfl, rfl, h1, r1⟩ := trodAll_cons r0
  obtain ⟨rfl, rfl, rfl⟩ := trodAll_nil r1
  obtain rfl : args = #[v0, v1] := by cases args; simp_all
  obtain ⟨rfl, rfl⟩ := trodVars_none hV
  have k0 := h0
  have lt0 : ∀ x ∈ p0, x.block < W.heap.size := by obtain ⟨m, hm⟩ := k0; exact DataW.trod_lt m _ _ _ hm
  obtain ⟨xi, li, ci, I, xa, la, ca, A, n, t, e, xf, lf, cf, xt, lt, ct, rfl, w0⟩ := open_blk (hval 0 27 v0 rfl rfl) h0
  have k1 := h1
  have lt1 : ∀ x ∈ p1, x.block < W.heap.size := by obtain ⟨m, hm⟩ := k1; exact DataW.trod_lt m _ _ _ hm
  obtain ⟨a1, rfl, rfl, rfl, w1⟩ := open_int Tryd.underlying5 (hval 1 5 v1 rfl rfl) h1
  clear hA0 hval0
  refine (walk xi li ci I xa la ca A n t e xf lf cf xt lt ct a1 w1 W w0 (tabs_of_laid hL)).mono fun e W' ⟨he, bel0⟩ => ?_
  have bel : Below W.heap.size W W' := bel0
  subst he
  exact ⟨_, rfl, _, _, _, [], _, [], hW', trodAll_mk1 (shut_bool Tryd.underlying4 _), (trodAll_cons_mk (Below.trod laidOut (by kernel_rfl) (of_decide_eq_true (by kernel_rfl)) k0 bel lt0) (trodAll_cons_mk (Below.trod laidOut (by kernel_rfl) (of_decide_eq_true (by kernel_rfl)) k1 bel lt1) trodAll_mk0)), rfl, bel.frame _, fun h => by cases h⟩
theorem over : Rows.translateCountsRow.holds Tryd.pinned (OpenSpec.ofChange Rows.translateCountsSpec) :=
  OpenClaim.holds_of_wide 6 Tryd.f6 rfl rfl rfl rfl rfl rfl rfl ⟨rfl, rfl, rfl, rfl, rfl⟩ rfl rfl rfl rfl rfl (by kernel_rfl) Tryd.func6 (by kernel_rfl)
    (of_decide_eq_true (by kernel_rfl)) (by unfold Func.isWrapper; first | (rw [if_pos (by decide +kernel)]; kernel_rfl) | (rw [if_neg (by decide +kernel)]; exact ⟨rfl, rfl⟩))
    (fun os started H enc _ => lifted os started H enc)
end Go.Proofs.YtpalbpjmjbcelaaDoor.translateCounts
namespace Go.Proofs.YtpalbpjmjbcelaaDoor
theorem translateCounts_holds : Rows.TranslateCountsCardSaid :=
  Claim7.holds_tied_plain_at .later [] [.data, .data] true (true, "69482087f36a3cba66cc0542b4e91fc553cdd2ce9722dae708e01783fddc43ec") true translateCounts.over (fun _ h => by cases h) (by kernel_rfl) (fun _ h => by cases h) translateCounts_row_tie rfl ⟨rfl, rfl⟩ (by kernel_rfl) rfl
    (fun f fn hf hfn => by
      obtain rfl : f = 6 := Option.some.inj ((show Tryd.prog.funcNamed "mummer/mummerlaw20.TranslateCounts" = some 6 by kernel_rfl).symm.trans hf) |>.symm
      obtain rfl : fn = Tryd.f6 := (Option.some.inj (Tryd.func6.symm.trans hfn)).symm
      exact ⟨by kernel_rfl, fun j t ht => by
        rw [Tryd.params6] at ht
        have hm : t ∈ [27, 5] := by simpa using Array.mem_of_getElem? ht
        have hall : ([27, 5].all fun u => !Tryd.prog.wantsStandIn u) = true := by kernel_rfl
        exact (show Tryd.prog.wantsStandIn t = false by simpa using List.all_eq_true.1 hall t hm)⟩)
    (by kernel_rfl)
#print axioms translateCounts_holds
end Go.Proofs.YtpalbpjmjbcelaaDoor
