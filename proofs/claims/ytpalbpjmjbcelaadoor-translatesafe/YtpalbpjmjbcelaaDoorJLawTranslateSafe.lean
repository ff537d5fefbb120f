/- Of any block and first exit the law TranslateSafe returns true: in code no instruction of the class Sense is left, no trap, and no jump but the branch at its end; the code's two tables hold what its text lays. -/
import Derived.Test.YtpalbpjmjbcelaaDoorRows
import Derived.Test.YtpalbpjmjbcelaaDoorTie
import Derived.Test.YtpalbpjmjbcelaaDoorCards
import Derived.WalkKit
import Derived.ProofKit
import Derived.OpenShut
import Derived.ShutString
import Derived.ChangeOld
import Derived.Below
import Derived.Lib.SmallJoins
import Derived.Lay
import Derived.SevenTiedAt
import Derived.Stop.Joined
import Derived.Test.YtpalbpjmjbcelaaDoorJ94
namespace Go.Proofs.YtpalbpjmjbcelaaDoor.translateSafe
open Go.ChangeShapes Go.WideShapes Go.ChangeAt Go.RowKit
set_option linter.unusedVariables false
set_option linter.unusedSimpArgs false
theorem own : ownKnob Tryd.prog.godebug = none := by kernel_rfl
theorem laidOut : laidOutB Tryd.prog = true := by kernel_rfl
abbrev laidL : List (String × DataW Unit) := [("mummer/isa.forms", Rows.laid_mummer_isa_forms), ("mummer/isa.spans", Rows.laid_mummer_isa_spans)]
set_option maxHeartbeats 8000000 in
set_option maxRecDepth 100000 in
theorem walk (xi : Option Addr) (li ci : Nat) (I : List In4) (xa : Option Addr) (la ca : Nat) (A : List Int) (n t e : Int) (xf : Option Addr) (lf cf : Nat) (xt : Option Addr) (lt ct : Nat) (a1 : Int) (w1 : (Lit.int .u8 a1).wf = true) (w : World) (w0 : BlkIn w xi li ci I xa la ca A n t e) (hT : Tabs w) :
    Calls Tryd.prog 7 #[.agg (blkC (.slice xi li ci) (.slice xa la ca) n t e (.slice xf lf cf) (.slice xt lt ct)), .int .u8 a1] w fun e w' => e = .returned (.bool true) ∧ Kep w w' := by
  have f0 : 0 ≤ a1 ∧ a1 ≤ 255 := by have := gu8_of w1; omega
  have q0 : 0 ≤ a1 := f0.1
  have q1 : a1 ≤ 255 := f0.2
  have f0 := hidd f0
  have H := hidd w0
  have T0 := hidd hT
  have WK : Hid (∀ w', Kep w w' → Calls Tryd.prog 10 #[] w' fun r w'' => r = .returned (.bool true) ∧ Kep w' w'') := fun w' k => works20_any w' (T0.out.grown k)
  clear w0 hT w1
  cases hm : mayL I la e
  · have TR : Hid (∀ w', Kep w w' → Calls Tryd.prog 11 #[.agg (blkC (.slice xi li ci) (.slice xa la ca) n t e (.slice xf lf cf) (.slice xt lt ct)), .int .i64 a1] w' fun r w'' => r = .returned (.tuple #[.agg #[nilS, nilS], .int .i64 2]) ∧ Kep w' w'') := fun w' k => lttr_no (H.out.kep k) a1 (.inl hm) (T0.out.grown k)
    clear hm H
    go_enter Tryd.func7, Tryd.ntmps7
    go_upto_region 1 with fail
    obtain ⟨bb, qb⟩ : ∃ i, Hid (i = w.heap.size) := ⟨_, rfl⟩
    rw [← qb.out]
    obtain ⟨W, hW⟩ : ∃ V, Hid (w.alloc (.cells (blkC (.slice xi li ci) (.slice xa la ca) n t e (.slice xf lf cf) (.slice xt lt ct)) 27) = V) := ⟨_, rfl⟩
    rw [hW.out]
    have K1 : Hid (Kep w W) := by rw [Hid, ← hW.out]; exact (Kep.refl _).alloc _
    have Bb : Hid (W.heap[bb]? = some (.cells (blkC (.slice xi li ci) (.slice xa la ca) n t e (.slice xf lf cf) (.slice xt lt ct)) 27 (0, 0))) := by rw [Hid, ← hW.out]; exact hat _ _ _ qb.out
    clear hW qb
    obtain ⟨c0, c1, c2, c3, c4, c5, c6⟩ := blk_cells Bb.out
    go_wp2_with fail
    refine (TR.out W K1.out).mono ?_
    rintro r w1 ⟨rfl, k1⟩
    have KW := hidd (kep_trans K1.out k1)
    clear k1 c0 c1 c2 c3 c4 c5 c6 TR
    go_wp2_with fail
    refine (WK.out _ (KW.out.alloc _)).mono ?_
    rintro r w2 ⟨rfl, k2⟩
    have K2 := hidd (kep_trans (KW.out.alloc _) k2)
    clear k2
    go_wp2_with fail
    go_ret
    exact ⟨rfl, K2.out⟩
  · have IT : Hid (∀ x ∈ trI I A n t e a1, Itm e x) := fun x hx => trI_item H.out.hn hm H.out.io ⟨f0.out.1, by have := f0.out.2; omega⟩ hx
    have TL : Hid (2 ≤ (trI I A n t e a1).length ∧ (trI I A n t e a1).length ≤ 36) := trI_len hm
    have TR : Hid (∀ w', Kep w w' → Calls Tryd.prog 11 #[.agg (blkC (.slice xi li ci) (.slice xa la ca) n t e (.slice xf lf cf) (.slice xt lt ct)), .int .i64 a1] w' fun r w'' => ∃ g o c g2 o2 c2, r = .returned (.tuple #[.agg #[.slice (some ⟨g, o, none⟩) (itB (trI I A n t e a1)).length c, .slice (some ⟨g2, o2, none⟩) (trI I A n t e a1).length c2], .int .i64 0]) ∧ CdR w'' g o c g2 o2 c2 (trI I A n t e a1) ∧ Kep w' w'') := fun w' k => lttr_read (H.out.kep k) a1 hm ⟨f0.out.1, by have := f0.out.2; omega⟩ (T0.out.grown k)
    generalize trI I A n t e a1 = T at *
    clear hm H f0
    go_enter Tryd.func7, Tryd.ntmps7
    go_upto_region 1 with fail
    obtain ⟨bb, qb⟩ : ∃ i, Hid (i = w.heap.size) := ⟨_, rfl⟩
    rw [← qb.out]
    obtain ⟨W, hW⟩ : ∃ V, Hid (w.alloc (.cells (blkC (.slice xi li ci) (.slice xa la ca) n t e (.slice xf lf cf) (.slice xt lt ct)) 27) = V) := ⟨_, rfl⟩
    rw [hW.out]
    have K1 : Hid (Kep w W) := by rw [Hid, ← hW.out]; exact (Kep.refl _).alloc _
    have Bb : Hid (W.heap[bb]? = some (.cells (blkC (.slice xi li ci) (.slice xa la ca) n t e (.slice xf lf cf) (.slice xt lt ct)) 27 (0, 0))) := by rw [Hid, ← hW.out]; exact hat _ _ _ qb.out
    clear hW qb
    obtain ⟨c0, c1, c2, c3, c4, c5, c6⟩ := blk_cells Bb.out
    go_wp2_with fail
    refine (TR.out W K1.out).mono ?_
    rintro r w1 ⟨g, o, c, g2, o2, m2, rfl, cr, k1⟩
    have CR1 := hidd cr
    have KW1 := hidd (kep_trans K1.out k1)
    have Bb1 := hidd (k1.block Bb.out)
    clear cr k1 c0 c1 c2 c3 c4 c5 c6 TR
    go_upto_region 2 with fail
    obtain ⟨bc, qc⟩ : ∃ i, Hid (i = w1.heap.size) := ⟨_, rfl⟩
    rw [← qc.out]
    obtain ⟨W2, hW2⟩ : ∃ V, Hid (w1.alloc (.cells #[.slice (some ⟨g, o, none⟩) (itB T).length c, .slice (some ⟨g2, o2, none⟩) T.length m2] 33) = V) := ⟨_, rfl⟩
    rw [hW2.out]
    have kW2 : Kep w1 W2 := by rw [← hW2.out]; exact (Kep.refl _).alloc _
    have KW := hidd (kep_trans KW1.out kW2)
    have CR := hidd (CR1.out.kep kW2)
    have B0 := hidd (kW2.block Bb1.out)
    have BC : Hid (W2.heap[bc]? = some (.cells #[.slice (some ⟨g, o, none⟩) (itB T).length c, .slice (some ⟨g2, o2, none⟩) T.length m2] 33 (0, 0))) := by rw [Hid, ← hW2.out]; exact hat _ _ _ qc.out
    clear hW2 qc kW2 CR1 KW1 Bb1 Bb K1
    have TG := hidd (T0.out.grown KW.out)
    have n1 : ((itB T).length : Int) ≤ c := by have := CR.out.le; omega
    have n2 : (c : Int) ≤ 9223372036854775807 := by have := CR.out.mx; unfold maxLen at this; omega
    have n3 : (T.length : Int) ≤ m2 := by have := CR.out.le2; omega
    have n4 : (m2 : Int) ≤ 9223372036854775807 := by have := CR.out.mx2; unfold maxLen at this; omega
    have n5 : (T.length : Int) ≤ 36 := by have := TL.out.2; omega
    go_wp2_with fail
    go_loopw [7] (fun i wr => ∃ k : Nat, (k : Int) ≤ T.length ∧ i = .int .i64 k ∧ Hid (Kep W2 wr)) (fun i _ => T.length - (intOf i).toNat)
    case atStart => exact ⟨0, by omega, rfl, hidd (Kep.refl _)⟩
    case round =>
      obtain ⟨k, hk, rfl, KR⟩ := hrel
      have b0 : wr.cell? ⟨bc, 0, none⟩ = some (.slice (some ⟨g, o, none⟩) (itB T).length c) := cell_of_block (KR.out.block BC.out)
      have b1 : wr.cell? ⟨bc, 1, none⟩ = some (.slice (some ⟨g2, o2, none⟩) T.length m2) := cell_of_block (KR.out.block BC.out)
      by_cases hlt : k < T.length
      · obtain ⟨x, hx⟩ : ∃ z, T[k]? = some z := ⟨_, List.getElem?_eq_getElem hlt⟩
        obtain ⟨r0, _, _, _⟩ := (CR.out.kep KR.out).row hx
        have it := hidd (IT.out x (List.mem_of_getElem? hx))
        obtain ⟨t1, t2⟩ := take_lt (fun x hx => (IT.out x hx).1) hx
        have DC : Hid (∀ w', Kep wr w' → ∀ l cc, l = (itB T).length - (itB (T.take k)).length → cc = c - (itB (T.take k)).length → Calls Tryd.prog 14 #[.slice (some ⟨g, o + (itB (T.take k)).length, none⟩) l cc, .bool true] w' fun e w'' => e = .returned (.tuple #[.agg (insA x.1.1 x.1.2.1 x.1.2.2.1 x.1.2.2.2), .int .i64 (encH x.1).length, .int .i64 0]) ∧ Kep w' w'') :=
          fun w' kk l cc hl hcc => ((CR.out.kep KR.out).kep kk).dec (fun x hx => (IT.out x hx).1) hx (TG.out.grown (kep_trans KR.out kk)) l cc hl hcc
        generalize (itB (T.take k)).length = off at *
        have s1 : Hid ((off : Int) < (itB T).length) := by rw [Hid]; omega
        have kl : Hid ((k : Int) < T.length) := by rw [Hid]; omega
        have m1 : Hid (((itB T).length : Int) ≤ c) := n1
        have m2' : Hid ((c : Int) ≤ 9223372036854775807) := n2
        have m3 : Hid ((T.length : Int) ≤ m2) := n3
        have m4 : Hid ((m2 : Int) ≤ 9223372036854775807) := n4
        have lg : Hid (g2 < wr.heap.size) := World.block_lt_of_cell? wr _ r0
        have R0 := hidd r0
        have C0 := hidd b0
        have C1 := hidd b1
        have lc : Hid (bc < wr.heap.size) := World.block_lt_of_cell? wr _ b0
        obtain ⟨⟨op, a, b, im⟩, pc, dn, ex⟩ := x
        simp only at it DC t1 t2
        clear hx t1 t2 r0
        go_upto_region 7 with fail
        clear b0 b1
        refine wp_region_held_drew (S := fun w' => Kep wr w') (by kernel_rfl) ((Kep.refl _).drew) (fun hH => ?_)
        have kD := hidd ((Kep.refl wr).drew)
        generalize wr.drew = D at hH kD ⊢
        refine wpAnyH_take (i := 0) (v := .pointer (some ⟨bc, 0, none⟩)) rfl (by kernel_rfl) (by kernel_rfl) (by kernel_rfl) (fun _ _ _ h => h) (.inl ⟨by rfl, by intro w hS; go_simp⟩) hH ?_
        (try dsimp only [Act.put]); (try simp only [jA, jB, jC, Act.put, jD, jE, jF])
        refine wpAnyH_take (i := 1) (v := .slice (some ⟨g, o, none⟩) (itB T).length c) rfl (by kernel_rfl) (by kernel_rfl) (by kernel_rfl) (fun _ _ _ h => h) (.inl ⟨by rfl, by intro w hS; have c := (hS.cell lc.out).trans C0.out; clear hS; go_simp⟩) hH ?_
        (try dsimp only [Act.put]); (try simp only [jA, jB, jC, Act.put, jD, jE, jF])
        refine wpAnyH_take (i := 2) (v := .pointer (some ⟨bc, 1, none⟩)) rfl (by kernel_rfl) (by kernel_rfl) (by kernel_rfl) (fun _ _ _ h => h) (.inl ⟨by rfl, by intro w hS; go_simp⟩) hH ?_
        (try dsimp only [Act.put]); (try simp only [jA, jB, jC, Act.put, jD, jE, jF])
        refine wpAnyH_take (i := 3) (v := .slice (some ⟨g2, o2, none⟩) T.length m2) rfl (by kernel_rfl) (by kernel_rfl) (by kernel_rfl) (fun _ _ _ h => h) (.inl ⟨by rfl, by intro w hS; have c := (hS.cell lc.out).trans C1.out; clear hS; go_simp⟩) hH ?_
        (try dsimp only [Act.put]); (try simp only [jA, jB, jC, Act.put, jD, jE, jF])
        refine wpAnyH_take (i := 4) (v := .int .i64 k) rfl (by kernel_rfl) (by kernel_rfl) (by kernel_rfl) (fun _ _ _ h => h) (.inl ⟨by rfl, by intro w hS; go_simp⟩) hH ?_
        (try dsimp only [Act.put]); (try simp only [jA, jB, jC, Act.put, jD, jE, jF])
        refine wpAnyH_take (i := 5) (v := .pointer (some ⟨g2, o2 + k * 4, none⟩)) rfl (by kernel_rfl) (by kernel_rfl) (by kernel_rfl) (fun _ _ _ h => h) (.inl ⟨by rfl, by intro w hS; have h1 := kl.out; clear hS; go_simp⟩) hH ?_
        (try dsimp only [Act.put]); (try simp only [jA, jB, jC, Act.put, jD, jE, jF])
        refine wpAnyH_take (i := 6) (v := .pointer (some ⟨g2, o2 + k * 4, none⟩)) rfl (by kernel_rfl) (by kernel_rfl) (by kernel_rfl) (fun _ _ _ h => h) (.inl ⟨by rfl, by intro w hS; go_simp⟩) hH ?_
        (try dsimp only [Act.put]); (try simp only [jA, jB, jC, Act.put, jD, jE, jF])
        refine wpAnyH_take (i := 7) (v := .int .i64 off) rfl (by kernel_rfl) (by kernel_rfl) (by kernel_rfl) (fun _ _ _ h => h) (.inl ⟨by rfl, by intro w hS; have c := (hS.cell lg.out).trans R0.out; clear hS; go_simp⟩) hH ?_
        (try dsimp only [Act.put]); (try simp only [jA, jB, jC, Act.put, jD, jE, jF])
        refine wpAnyH_take (i := 8) (v := .slice (some ⟨g, o + off, none⟩) ((itB T).length - off) (c - off)) rfl (by kernel_rfl) (by kernel_rfl) (by kernel_rfl) (fun _ _ _ h => h) (.inl ⟨by rfl, by intro w hS; have h1 := s1.out; have h2 := m1.out; have h3 := m2'.out; have h4 : off ≤ (itB T).length := (by omega); have h5 : ¬ c = off := (by omega); clear hS; go_simp⟩) hH ?_
        (try dsimp only [Act.put]); (try simp only [jA, jB, jC, Act.put, jD, jE, jF])
        refine wpAnyH_ready (rs := [9, 14]) (by kernel_rfl) (by simp) ?_
        refine AllReadyH.cons rfl (fun K hK => ?_) ?_
        · skip
          rw [if_pos (by rfl)]
          go_simp
          refine (DC.out _ hH _ _ rfl rfl).mono ?_
          rintro x w5 ⟨rfl, k5⟩
          refine hK.out _ _ (kep_trans hH k5) (fun hH => ?_)
          clear k5
          clear hK K
          (try dsimp only [Act.put]); (try simp only [jA, jB, jC, Act.put, jD, jE, jF])
          refine wpAnyH_take (i := 10) (v := .tuple #[.agg (insA op a b im), .int .i64 (encH (op, a, b, im)).length, .int .i64 0]) rfl (by kernel_rfl) (by kernel_rfl) (by kernel_rfl) (fun _ _ _ h => h) (.inl ⟨by rfl, by intro w hS; go_simp⟩) hH ?_
          (try dsimp only [Act.put]); (try simp only [jA, jB, jC, Act.put, jD, jE, jF])
          refine wpAnyH_take (i := 11) (v := .agg (insA op a b im)) rfl (by kernel_rfl) (by kernel_rfl) (by kernel_rfl) (fun _ _ _ h => h) (.inl ⟨by rfl, by intro w hS; go_simp⟩) hH ?_
          (try dsimp only [Act.put]); (try simp only [jA, jB, jC, Act.put, jD, jE, jF])
          refine wpAnyH_take (i := 12) (v := .int .i64 (encH (op, a, b, im)).length) rfl (by kernel_rfl) (by kernel_rfl) (by kernel_rfl) (fun _ _ _ h => h) (.inl ⟨by rfl, by intro w hS; go_simp⟩) hH ?_
          (try dsimp only [Act.put]); (try simp only [jA, jB, jC, Act.put, jD, jE, jF])
          refine wpAnyH_take (i := 13) (v := .int .i64 0) rfl (by kernel_rfl) (by kernel_rfl) (by kernel_rfl) (fun _ _ _ h => h) (.inl ⟨by rfl, by intro w hS; go_simp⟩) hH ?_
          (try dsimp only [Act.put]); (try simp only [jA, jB, jC, Act.put, jD, jE, jF])
          refine wpAnyH_ready (rs := [14]) (by kernel_rfl) (by simp) ?_
          refine AllReadyH.cons rfl (fun K hK => ?_) AllReadyH.nil
          rw [if_pos (by rfl)]
          obtain ⟨V, eV⟩ : ∃ V, Hid ((w5).alloc (.cells (insA 0 0 0 0) 43) = V) := ⟨_, rfl⟩
          obtain ⟨x6, ex6⟩ : ∃ x, Hid (x = w5.heap.size) := ⟨_, rfl⟩
          go_simp
          rw [eV.out, ← ex6.out]
          have lx : Hid (wr.heap.size ≤ x6) := by rw [Hid, ex6.out]; exact hH.size
          have Bx : Hid (V.heap[x6]? = some (.cells (insA 0 0 0 0) 43 (0, 0))) := by rw [Hid, ← eV.out]; exact hat _ _ _ ex6.out
          refine hK.out _ _ (by rw [← eV.out]; exact hH.alloc _) (fun hH => ?_)
          clear eV ex6
          clear hK K
          (try dsimp only [Act.put]); (try simp only [jA, jB, jC, Act.put, jD, jE, jF])
          refine wpAnyH_ready (rs := [15]) (by kernel_rfl) (by simp) ?_
          refine AllReadyH.cons rfl (fun K hK => ?_) AllReadyH.nil
          rw [if_pos (by rfl)]
          refine wp_store_row 43 _ _ rfl x6 (insA op a b im) rfl rfl 43 (insA 0 0 0 0) Bx.out sizeIns rfl (by simp [Value.oneCell']) ?_
          refine hK.out _ _ (hH.setRow x6 _ lx.out) (fun hH => ?_)
          clear hK K
          (try dsimp only [Act.put]); (try simp only [jA, jB, jC, Act.put, jD, jE, jF])
          refine wpAnyH_take (i := 16) (v := .int .i64 (encH (op, a, b, im)).length) rfl (by kernel_rfl) (by kernel_rfl) (by kernel_rfl) (fun _ _ _ h => h) (.inl ⟨by rfl, by intro w hS; go_simp⟩) hH ?_
          (try dsimp only [Act.put]); (try simp only [jA, jB, jC, Act.put, jD, jE, jF])
          refine wpAnyH_take (i := 17) (v := .int .i64 0) rfl (by kernel_rfl) (by kernel_rfl) (by kernel_rfl) (fun _ _ _ h => h) (.inl ⟨by rfl, by intro w hS; go_simp⟩) hH ?_
          (try dsimp only [Act.put]); (try simp only [jA, jB, jC, Act.put, jD, jE, jF])
          refine wpAnyH_done (by kernel_rfl) ?_ _
          have Bx2 := setRow_heap _ _ _ (insA op a b im) _ _ Bx.out
          obtain ⟨W9, hW9⟩ : ∃ U, Hid (World.setRow V x6 (insA op a b im) = U) := ⟨_, rfl⟩
          rw [hW9.out] at Bx2 hH ⊢
          clear hW9
          have KR9 := hidd (kep_trans KR.out hH)
          have e0 : W9.cell? ⟨x6, 0, none⟩ = some (.int .u8 op) := cell_of_block Bx2
          have e3 : W9.cell? ⟨x6, 3, none⟩ = some (.int .i32 im) := cell_of_block Bx2
          have e4 : W9.cell? ⟨bb, 4, none⟩ = some (.int .i64 e) := cell_of_block (KR9.out.block B0.out)
          clear hH Bx2
          have go : op = 0 ∨ op = 112 ∨ op = 113 ∨ ((1 ≤ op ∧ ¬ op ≤ 3 ∧ ¬ 72 ≤ op ∧ (op == 64) = false) ∧ ¬ 65 ≤ op) ∨ ((1 ≤ op ∧ ¬ op ≤ 3 ∧ ¬ 72 ≤ op ∧ (op == 64) = false) ∧ 65 ≤ op ∧ op ≤ 71 ∧ im = 5 ∧ e = 3) := by
            obtain ⟨_, it⟩ := it.out
            simp only at it
            rcases it with ⟨_, h1 | ⟨h2, h3, h4⟩⟩ | ⟨h1, _⟩ | ⟨h1, _⟩
            · rcases h1 with h1 | h1 | h1
              · exact .inl h1
              · exact .inr (.inr (.inr (.inl ⟨⟨by omega, by omega, by omega, by rw [beq_eq_false_iff_ne]; omega⟩, by omega⟩)))
              · exact .inr (.inr (.inr (.inl ⟨⟨by omega, by omega, by omega, by rw [beq_eq_false_iff_ne]; omega⟩, by omega⟩)))
            · exact .inr (.inr (.inr (.inr ⟨⟨by omega, by omega, by omega, by rw [beq_eq_false_iff_ne]; omega⟩, by omega, by omega, h3, h4⟩)))
            · exact .inr (.inl h1)
            · exact .inr (.inr (.inl h1))
          clear it DC Bx lx R0 C0 C1
          have kn : (k : Int) + 1 ≤ T.length := by have := kl.out; omega
          rcases go with rfl | rfl | rfl | ⟨⟨g1, g2, g3, g4⟩, g5⟩ | ⟨⟨g1, g2, g3, g4⟩, g5, g6, rfl, rfl⟩
          all_goals
            go_wp2_with fail
            go_roundw
            case rel => exact ⟨k + 1, by omega, by go_num, KR9⟩
            case measure => simp [intOf]; omega
        refine AllReadyH.cons rfl (fun K hK => ?_) AllReadyH.nil
        rw [if_pos (by rfl)]
        obtain ⟨V, eV⟩ : ∃ V, Hid ((D).alloc (.cells (insA 0 0 0 0) 43) = V) := ⟨_, rfl⟩
        obtain ⟨x6, ex6⟩ : ∃ x, Hid (x = D.heap.size) := ⟨_, rfl⟩
        go_simp
        rw [eV.out, ← ex6.out]
        have lx : Hid (wr.heap.size ≤ x6) := by rw [Hid, ex6.out]; exact hH.size
        have Bx : Hid (V.heap[x6]? = some (.cells (insA 0 0 0 0) 43 (0, 0))) := by rw [Hid, ← eV.out]; exact hat _ _ _ ex6.out
        refine hK.out _ _ (by rw [← eV.out]; exact hH.alloc _) (fun hH => ?_)
        clear eV ex6
        clear hK K
        (try dsimp only [Act.put]); (try simp only [jA, jB, jC, Act.put, jD, jE, jF])
        refine wpAnyH_ready (rs := [9]) (by kernel_rfl) (by simp) ?_
        refine AllReadyH.cons rfl (fun K hK => ?_) AllReadyH.nil
        rw [if_pos (by rfl)]
        go_simp
        refine (DC.out _ hH _ _ rfl rfl).mono ?_
        rintro x w5 ⟨rfl, k5⟩
        have Bx := hidd (k5.block Bx.out)
        refine hK.out _ _ (kep_trans hH k5) (fun hH => ?_)
        clear k5
        clear hK K
        (try dsimp only [Act.put]); (try simp only [jA, jB, jC, Act.put, jD, jE, jF])
        refine wpAnyH_take (i := 10) (v := .tuple #[.agg (insA op a b im), .int .i64 (encH (op, a, b, im)).length, .int .i64 0]) rfl (by kernel_rfl) (by kernel_rfl) (by kernel_rfl) (fun _ _ _ h => h) (.inl ⟨by rfl, by intro w hS; go_simp⟩) hH ?_
        (try dsimp only [Act.put]); (try simp only [jA, jB, jC, Act.put, jD, jE, jF])
        refine wpAnyH_take (i := 11) (v := .agg (insA op a b im)) rfl (by kernel_rfl) (by kernel_rfl) (by kernel_rfl) (fun _ _ _ h => h) (.inl ⟨by rfl, by intro w hS; go_simp⟩) hH ?_
        (try dsimp only [Act.put]); (try simp only [jA, jB, jC, Act.put, jD, jE, jF])
        refine wpAnyH_take (i := 12) (v := .int .i64 (encH (op, a, b, im)).length) rfl (by kernel_rfl) (by kernel_rfl) (by kernel_rfl) (fun _ _ _ h => h) (.inl ⟨by rfl, by intro w hS; go_simp⟩) hH ?_
        (try dsimp only [Act.put]); (try simp only [jA, jB, jC, Act.put, jD, jE, jF])
        refine wpAnyH_take (i := 13) (v := .int .i64 0) rfl (by kernel_rfl) (by kernel_rfl) (by kernel_rfl) (fun _ _ _ h => h) (.inl ⟨by rfl, by intro w hS; go_simp⟩) hH ?_
        (try dsimp only [Act.put]); (try simp only [jA, jB, jC, Act.put, jD, jE, jF])
        refine wpAnyH_ready (rs := [15]) (by kernel_rfl) (by simp) ?_
        refine AllReadyH.cons rfl (fun K hK => ?_) AllReadyH.nil
        rw [if_pos (by rfl)]
        refine wp_store_row 43 _ _ rfl x6 (insA op a b im) rfl rfl 43 (insA 0 0 0 0) Bx.out sizeIns rfl (by simp [Value.oneCell']) ?_
        refine hK.out _ _ (hH.setRow x6 _ lx.out) (fun hH => ?_)
        clear hK K
        (try dsimp only [Act.put]); (try simp only [jA, jB, jC, Act.put, jD, jE, jF])
        refine wpAnyH_take (i := 16) (v := .int .i64 (encH (op, a, b, im)).length) rfl (by kernel_rfl) (by kernel_rfl) (by kernel_rfl) (fun _ _ _ h => h) (.inl ⟨by rfl, by intro w hS; go_simp⟩) hH ?_
        (try dsimp only [Act.put]); (try simp only [jA, jB, jC, Act.put, jD, jE, jF])
        refine wpAnyH_take (i := 17) (v := .int .i64 0) rfl (by kernel_rfl) (by kernel_rfl) (by kernel_rfl) (fun _ _ _ h => h) (.inl ⟨by rfl, by intro w hS; go_simp⟩) hH ?_
        (try dsimp only [Act.put]); (try simp only [jA, jB, jC, Act.put, jD, jE, jF])
        refine wpAnyH_done (by kernel_rfl) ?_ _
        have Bx2 := setRow_heap _ _ _ (insA op a b im) _ _ Bx.out
        obtain ⟨W9, hW9⟩ : ∃ U, Hid (World.setRow w5 x6 (insA op a b im) = U) := ⟨_, rfl⟩
        rw [hW9.out] at Bx2 hH ⊢
        clear hW9
        have KR9 := hidd (kep_trans KR.out hH)
        have e0 : W9.cell? ⟨x6, 0, none⟩ = some (.int .u8 op) := cell_of_block Bx2
        have e3 : W9.cell? ⟨x6, 3, none⟩ = some (.int .i32 im) := cell_of_block Bx2
        have e4 : W9.cell? ⟨bb, 4, none⟩ = some (.int .i64 e) := cell_of_block (KR9.out.block B0.out)
        clear hH Bx2
        have go : op = 0 ∨ op = 112 ∨ op = 113 ∨ ((1 ≤ op ∧ ¬ op ≤ 3 ∧ ¬ 72 ≤ op ∧ (op == 64) = false) ∧ ¬ 65 ≤ op) ∨ ((1 ≤ op ∧ ¬ op ≤ 3 ∧ ¬ 72 ≤ op ∧ (op == 64) = false) ∧ 65 ≤ op ∧ op ≤ 71 ∧ im = 5 ∧ e = 3) := by
          obtain ⟨_, it⟩ := it.out
          simp only at it
          rcases it with ⟨_, h1 | ⟨h2, h3, h4⟩⟩ | ⟨h1, _⟩ | ⟨h1, _⟩
          · rcases h1 with h1 | h1 | h1
            · exact .inl h1
            · exact .inr (.inr (.inr (.inl ⟨⟨by omega, by omega, by omega, by rw [beq_eq_false_iff_ne]; omega⟩, by omega⟩)))
            · exact .inr (.inr (.inr (.inl ⟨⟨by omega, by omega, by omega, by rw [beq_eq_false_iff_ne]; omega⟩, by omega⟩)))
          · exact .inr (.inr (.inr (.inr ⟨⟨by omega, by omega, by omega, by rw [beq_eq_false_iff_ne]; omega⟩, by omega, by omega, h3, h4⟩)))
          · exact .inr (.inl h1)
          · exact .inr (.inr (.inl h1))
        clear it DC Bx lx R0 C0 C1
        have kn : (k : Int) + 1 ≤ T.length := by have := kl.out; omega
        rcases go with rfl | rfl | rfl | ⟨⟨g1, g2, g3, g4⟩, g5⟩ | ⟨⟨g1, g2, g3, g4⟩, g5, g6, rfl, rfl⟩
        all_goals
          go_wp2_with fail
          go_roundw
          case rel => exact ⟨k + 1, by omega, by go_num, KR9⟩
          case measure => simp [intOf]; omega
      · obtain rfl : k = T.length := by omega
        go_wp2_with fail
        refine (WK.out _ (kep_trans KW.out KR.out)).mono ?_
        rintro r w3 ⟨rfl, k3⟩
        have k3 := hidd k3
        go_wp2_with fail
        go_ret
        exact ⟨rfl, kep_trans KW.out (kep_trans KR.out k3.out)⟩
set_option maxRecDepth 100000 in
theorem lifted (os : Os) (started : os.Started) (H : Type) (enc : TypeId × Value → H) :
    ReturnsInHanded {} Tryd.checked os 7 .any (fun w args => (Rows.translateSafeSpec.pre enc Tryd.prog Tryd.f7 Rows.translateSafeRow.domain false w args ∧ laidMetH Tryd.prog laidL w) ∧ sizedMet enc Tryd.prog Tryd.f7 (OpenSpec.ofChange Rows.translateSafeSpec) false w args)
      (Rows.translateSafeSpec.post enc Tryd.prog Tryd.f7 false true false false) := by
  refine returnsInHanded_of_change_and (C := Tryd.checked) (X := fun w _ => laidMetH Tryd.prog laidL w) (fun _ _ _ hh h => h.of_heap hh) own started (by kernel_rfl) Tryd.func7
    (ChangeSpec.witness_shaped (enc := enc) (C := Tryd.checked) (os := os) (X := fun w _ => laidMetH Tryd.prog laidL w) false (World.laidAll Tryd.prog os laidL) #[.agg #[.slice none 0 0, .slice none 0 0, .int .u32 0, .int .u32 0, .int .i64 0, .slice none 0 0, .slice none 0 0], .int .u8 0] 8 (World.laidAll_os _ _ _)
      (World.shaped_of_ZipB (by kernel_rfl) (by kernel_rfl)) (by kernel_rfl) (by kernel_rfl) (by kernel_rfl)
      (by rw [MakeChecks.laidMetH_plain _ _ _ (by kernel_rfl)]; exact laidMet_laidAll _ (by kernel_rfl) (by kernel_rfl))) ?_
  intro W base args ds gs before hval0 hW hcnd hsz0 hL _
  have hval : ∀ (j : Nat) t v, Tryd.f7.params[j]? = some t → args[j]? = some v → Value.okWide Tryd.prog W .any base t v := hval0
  have hW' := hW
  obtain ⟨p, q, hA0, hV, rfl, hfz, hnd⟩ := hW
  have hA : DataW.TrodAll enc Tryd.prog W 0 (fun _ => true) true Tryd.f7.params.toList args.toList ds p := hA0
  rw [Tryd.params7] at hA hval
  obtain ⟨v0, vs0, d0, ds0, p0, q0, hargs, rfl, rfl, h0, r0⟩ := trodAll_cons hA
  obtain ⟨v1, vs1, d1, ds1, p1, q1, rfl, rfl, rfl, h1, r1⟩ := trodAll_cons r0
  obtain ⟨rfl, rfl, rfl⟩ := trodAll_nil r1
  obtain rfl : args = #[v0, v1] := by cases args; simp_all
  obtain ⟨rfl, rfl⟩ := trodVars_none hV
  have k0 := h0
  have lt0 : ∀ x ∈ p0, x.block < W.heap.size := by obtain ⟨m, hm⟩ := k0; exact DataW.trod_lt m _ _ _ hm
  obtain ⟨xi, li, ci, I, xa, la, ca, A, n, t, e, xf, lf, cf, xt, lt, ct, rfl, w0⟩ := open_blk (hval 0 27 v0 rfl rfl) h0
  have k1 := h1
  have lt1 : ∀ x ∈ p1, x.block < W.heap.size := by obtain ⟨m, hm⟩ := k1; exact DataW.trod_lt m _ _ _ hm
  obtain ⟨a1, rfl, rfl, rfl, w1⟩ := open_int Tryd.underlying5 (hval 1 5 v1 rfl rfl) h1
  clear hA0 hval0
  refine (walk xi li ci I xa la ca A n t e xf lf cf xt lt ct a1 w1 W w0 (tabs_of_laid hL)).mono fun e W' ⟨he, bel0⟩ => ?_
  have bel : Below W.heap.size W W' := bel0
  subst he
  exact ⟨_, rfl, _, _, _, [], _, [], hW', trodAll_mk1 (shut_bool Tryd.underlying4 _), (trodAll_cons_mk (Below.trod laidOut (by kernel_rfl) (of_decide_eq_true (by kernel_rfl)) k0 bel lt0) (trodAll_cons_mk (Below.trod laidOut (by kernel_rfl) (of_decide_eq_true (by kernel_rfl)) k1 bel lt1) trodAll_mk0)), rfl, bel.frame _, fun h => by cases h⟩
theorem over : Rows.translateSafeRow.holds Tryd.pinned (OpenSpec.ofChange Rows.translateSafeSpec) :=
  OpenClaim.holds_of_wide 7 Tryd.f7 rfl rfl rfl rfl rfl rfl rfl ⟨rfl, rfl, rfl, rfl, rfl⟩ rfl rfl rfl rfl rfl (by kernel_rfl) Tryd.func7 (by kernel_rfl)
    (of_decide_eq_true (by kernel_rfl)) (by unfold Func.isWrapper; first | (rw [if_pos (by decide +kernel)]; kernel_rfl) | (rw [if_neg (by decide +kernel)]; exact ⟨rfl, rfl⟩))
    (fun os started H enc _ => lifted os started H enc)
end Go.Proofs.YtpalbpjmjbcelaaDoor.translateSafe
namespace Go.Proofs.YtpalbpjmjbcelaaDoor
theorem translateSafe_holds : Rows.TranslateSafeCardSaid :=
  Claim7.holds_tied_plain_at .later [] [.data, .data] true (true, "69482087f36a3cba66cc0542b4e91fc553cdd2ce9722dae708e01783fddc43ec") true translateSafe.over (fun _ h => by cases h) (by kernel_rfl) (fun _ h => by cases h) translateSafe_row_tie rfl ⟨rfl, rfl⟩ (by kernel_rfl) rfl
    (fun f fn hf hfn => by
      obtain rfl : f = 7 := Option.some.inj ((show Tryd.prog.funcNamed "mummer/mummerlaw20.TranslateSafe" = some 7 by kernel_rfl).symm.trans hf) |>.symm
      obtain rfl : fn = Tryd.f7 := (Option.some.inj (Tryd.func7.symm.trans hfn)).symm
      exact ⟨by kernel_rfl, fun j t ht => by
        rw [Tryd.params7] at ht
        have hm : t ∈ [27, 5] := by simpa using Array.mem_of_getElem? ht
        have hall : ([27, 5].all fun u => !Tryd.prog.wantsStandIn u) = true := by kernel_rfl
        exact (show Tryd.prog.wantsStandIn t = false by simpa using List.all_eq_true.1 hall t hm)⟩)
    (by kernel_rfl)
#print axioms translateSafe_holds
end Go.Proofs.YtpalbpjmjbcelaaDoor
