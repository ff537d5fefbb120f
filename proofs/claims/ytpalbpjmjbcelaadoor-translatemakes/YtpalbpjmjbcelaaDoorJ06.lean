/- Part of a proof. -/
import Derived.LoopTactic
import Derived.OrdersHeld
import Derived.Deep.RegionHeld
import Derived.Test.YtpalbpjmjbcelaaDoorJ05
namespace Go.Proofs.YtpalbpjmjbcelaaDoor
open Go.RowKit
set_option linter.unusedVariables false
set_option linter.unusedSimpArgs false
theorem ltbr_any (op : Int) (w : World) : Calls Tryd.prog 39 #[.int .u8 op] w fun e w' => e = .returned (.bool (decide (65 ≤ op ∧ op ≤ 71))) ∧ w' = w := by
  by_cases h1 : 65 ≤ op
  · by_cases h2 : op ≤ 71
    · rw [decide_eq_true (show 65 ≤ op ∧ op ≤ 71 by omega)]
      go_enter Tryd.func39, Tryd.ntmps39
      go_wp2_with fail
      go_ret
      exact ⟨rfl, rfl⟩
    · rw [decide_eq_false (show ¬ (65 ≤ op ∧ op ≤ 71) by omega)]
      go_enter Tryd.func39, Tryd.ntmps39
      go_wp2_with fail
      go_ret
      exact ⟨rfl, rfl⟩
  · rw [decide_eq_false (show ¬ (65 ≤ op ∧ op ≤ 71) by omega)]
    go_enter Tryd.func39, Tryd.ntmps39
    go_wp2_with fail
    go_ret
    exact ⟨rfl, rfl⟩
theorem ltend_any (op : Int) (h0 : 0 ≤ op) (h1 : op < 256) (W w : World) (p o kb : Nat) (h : Tb W w p o kb) :
    Calls Tryd.prog 18 #[.int .u8 op, .pointer (some ⟨p, 0, none⟩)] w fun e w' => e = .returned (.int .i64 (bEnd op)) ∧ Tb W w' p o kb ∧ Stp o kb w w' := by
  have E := hidd (ends_any op h0 h1 W w p o kb h)
  have BR := hidd (ltbr_any op)
  clear h
  cases hb : bnd op
  · have hg : gE (tabF op) = false := hb
    rw [hg] at E
    have e : bEnd op = 1 := by unfold bEnd; rw [if_pos hb]
    rw [e]
    clear e hg hb
    go_enter Tryd.func18, Tryd.ntmps18
    go_wp2_with fail
    refine E.out.mono ?_
    rintro e w1 ⟨rfl, t1, s1⟩
    have t1 := hidd t1
    have s1 := hidd s1
    go_wp2_with fail
    go_ret
    exact ⟨rfl, t1.out, s1.out⟩
  · have hg : gE (tabF op) = true := hb
    rw [hg] at E
    by_cases hj : op = 64 ∨ op = 72
    · have e : bEnd op = 2 := by unfold bEnd; rw [if_neg (by simp [hb]), if_pos hj]
      rw [e]
      clear e hg hb
      rcases hj with rfl | rfl
      all_goals
        go_enter Tryd.func18, Tryd.ntmps18
        go_wp2_with fail
        refine E.out.mono ?_
        rintro e w1 ⟨rfl, t1, s1⟩
        have t1 := hidd t1
        have s1 := hidd s1
        go_wp2_with fail
        go_ret
        exact ⟨rfl, t1.out, s1.out⟩
    · have n1 : (op == 64) = false := by rw [beq_eq_false_iff_ne]; exact fun h => hj (.inl h)
      have n2 : (op == 72) = false := by rw [beq_eq_false_iff_ne]; exact fun h => hj (.inr h)
      by_cases hr : 65 ≤ op ∧ op ≤ 71
      · have e : bEnd op = 3 := by unfold bEnd; rw [if_neg (by simp [hb]), if_neg hj, if_pos hr]
        rw [e]
        rw [decide_eq_true hr] at BR
        clear e hg hb hj hr
        go_enter Tryd.func18, Tryd.ntmps18
        go_wp2_with fail
        refine E.out.mono ?_
        rintro e w1 ⟨rfl, t1, s1⟩
        have t1 := hidd t1
        have s1 := hidd s1
        go_wp2_with fail
        refine (BR.out _).mono ?_
        rintro e w2 ⟨rfl, rfl⟩
        go_wp2_with fail
        go_ret
        exact ⟨rfl, t1.out, s1.out⟩
      · have e : bEnd op = 4 := by unfold bEnd; rw [if_neg (by simp [hb]), if_neg hj, if_neg hr]
        rw [e]
        rw [decide_eq_false hr] at BR
        clear e hg hb hj hr
        go_enter Tryd.func18, Tryd.ntmps18
        go_wp2_with fail
        refine E.out.mono ?_
        rintro e w1 ⟨rfl, t1, s1⟩
        have t1 := hidd t1
        have s1 := hidd s1
        go_wp2_with fail
        refine (BR.out _).mono ?_
        rintro e w2 ⟨rfl, rfl⟩
        go_wp2_with fail
        go_ret
        exact ⟨rfl, t1.out, s1.out⟩
abbrev blkX (xi : Option Addr) (li ci : Nat) (xa : Option Addr) (la ca : Nat) (n t e : Int) (xf : Option Addr) (lf cf : Nat) (xt : Option Addr) (lt ct : Nat) : Array Value :=
  blkC (.slice xi li ci) (.slice xa la ca) n t e (.slice xf lf cf) (.slice xt lt ct)
theorem mayL_unfit {I : List In4} {la : Nat} {e : Int} (h : fitL I.length la = false) : mayL I la e = false := by unfold mayL; rw [h]; rfl
theorem mayL_mid {I : List In4} {la : Nat} {e : Int} (h : mid (I.take (I.length - 1)) = false) : mayL I la e = false := by unfold mayL; rw [h]; simp
theorem mayL_fit {I : List In4} {la : Nat} {e : Int} (h : fitL I.length la = true) (h2 : mid (I.take (I.length - 1)) = true) : mayL I la e = (bok (lastI I) && decide (e = bEnd (lastI I).1)) := by unfold mayL; rw [h, h2]; rfl
set_option maxHeartbeats 4000000 in
set_option maxRecDepth 100000 in
theorem ltmay_no {w : World} {xi : Option Addr} {li ci : Nat} {I : List In4} {xa : Option Addr} {la ca : Nat} {A : List Int} {n t e : Int} {xf : Option Addr} {lf cf : Nat} {xt : Option Addr} {lt ct : Nat} (H : BlkIn w xi li ci I xa la ca A n t e) (h : fitL li la = false) :
    Calls Tryd.prog 8 #[.agg (blkX xi li ci xa la ca n t e xf lf cf xt lt ct)] w fun r w' => r = .returned (.bool false) ∧ Kep w w' := by
  have hs : ((li : Int) == 0) = true ∨ (((li : Int) == 0) = false ∧ (32 : Int) < li) ∨ (((li : Int) == 0) = false ∧ ¬ (32 : Int) < li ∧ ((la : Int) != (li : Int)) = true) := by
    unfold fitL at h
    have := of_decide_eq_false h
    simp only [beq_iff_eq, beq_eq_false_iff_ne, bne_iff_ne, ne_eq]
    omega
  clear H h
  rcases hs with h | ⟨h1, h2⟩ | ⟨h1, h2, h3⟩
  all_goals
    go_enter Tryd.func8, Tryd.ntmps8
    go_wp2_with fail
    go_ret
    exact ⟨rfl, (Kep.refl _).alloc _⟩
set_option maxHeartbeats 4000000 in
set_option maxRecDepth 100000 in
theorem ltmay_fit {w : World} {xi : Option Addr} {li ci : Nat} {I : List In4} {xa : Option Addr} {la ca : Nat} {A : List Int} {n t e : Int} {xf : Option Addr} {lf cf : Nat} {xt : Option Addr} {lt ct : Nat} (H : BlkIn w xi li ci I xa la ca A n t e) (h : fitL li la = true) (hT : Tabs w) :
    Calls Tryd.prog 8 #[.agg (blkX xi li ci xa la ca n t e xf lf cf xt lt ct)] w fun r w' => r = .returned (.bool (mayL I la e)) ∧ Kep w w' := by
  obtain ⟨f1, f2, f3⟩ := of_decide_eq_true (show decide (1 ≤ li ∧ li ≤ 32 ∧ la = li) = true from h)
  subst f3
  have g1 : ((la : Int) == 0) = false := by rw [beq_eq_false_iff_ne]; omega
  have g2 : ¬ (32 : Int) < (la : Int) := by omega
  have g6 : (1 : Int) ≤ la := by omega
  have g3 : (la : Int) ≤ ci := by have := H.ic; omega
  have g4 : (ci : Int) ≤ 9223372036854775807 := H.im
  have hc := hidd H.ic
  have H' := hidd H
  have h' := hidd h
  have hT' := hidd hT
  clear H hT h f1
  go_enter Tryd.func8, Tryd.ntmps8
  go_upto_region 1 with fail
  obtain ⟨bb, qb⟩ : ∃ i, Hid (i = w.heap.size) := ⟨_, rfl⟩
  rw [← qb.out]
  obtain ⟨W, hW⟩ : ∃ V, Hid (w.alloc (.cells (blkC (.slice xi la ci) (.slice xa la ca) n t e (.slice xf lf cf) (.slice xt lt ct)) 27) = V) := ⟨_, rfl⟩
  rw [hW.out]
  have K1 : Hid (Kep w W) := by rw [Hid, ← hW.out]; exact (Kep.refl _).alloc _
  have Bb : Hid (W.heap[bb]? = some (.cells (blkC (.slice xi la ci) (.slice xa la ca) n t e (.slice xf lf cf) (.slice xt lt ct)) 27 (0, 0))) := by rw [Hid, ← hW.out]; exact hat _ _ _ qb.out
  clear hW qb
  have c0 : W.cell? ⟨bb, 0, none⟩ = some (.slice xi la ci) := cell_of_block Bb.out
  have c1 : W.cell? ⟨bb, 1, none⟩ = some (.slice xa la ca) := cell_of_block Bb.out
  go_wp2_with fail
  refine (new_call W).mono ?_
  rintro r w1 ⟨p, o, kb, rfl, tb⟩
  have B1 := hidd (tb.out.kep.block Bb.out)
  clear c0 c1
  have c0 : w1.cell? ⟨bb, 0, none⟩ = some (.slice xi la ci) := cell_of_block B1.out
  go_wp2_with fail
  obtain ⟨q, hq⟩ : ∃ q, Hid (la - 1 = q) := ⟨_, rfl⟩
  rw [hq.out]
  have hql : Hid (q + 1 = la) := by have := hq.out; rw [Hid]; omega
  have q1 : (q : Int) ≤ 31 := by have := hql.out; omega
  have q2 : (q : Int) ≤ ci := by have := hql.out; omega
  have IL := hidd H'.out.il
  have LI := hidd H'.out.ii
  clear c0 B1 hq
  go_loopw [31] (fun i wr => ∃ k : Nat, (k : Int) ≤ q ∧ i = .int .i64 k ∧ Hid (mid (I.take k) = true) ∧ Hid (Tb W wr p o kb)) (fun i _ => q - (intOf i).toNat)
  case atStart => exact ⟨0, by omega, rfl, (rfl : mid (I.take 0) = true), tb⟩
  case round =>
    obtain ⟨k, hk, rfl, hm, TB⟩ := hrel
    by_cases hlt : k < q
    · obtain ⟨⟨op, a, b, imm⟩, hi⟩ : ∃ z, I[k]? = some z := ⟨_, List.getElem?_eq_getElem (by have := IL.out; have := hql.out; omega)⟩
      obtain ⟨bi, off, hxi, RA⟩ := lies_in19 ((LI.out.kep K1.out).kep TB.out.kep) hi
      subst hxi
      have io := hidd (H'.out.io _ (List.mem_of_getElem? hi))
      have hi' := hidd hi
      have e0 : wr.cell? ⟨bi, off + k * 4, none⟩ = some (.int .u8 op) := RA 0 _ rfl
      have e1 : wr.cell? ⟨bi, off + k * 4 + 1, none⟩ = some (.int .u8 a) := RA 1 _ rfl
      have e2 : wr.cell? ⟨bi, off + k * 4 + 2, none⟩ = some (.int .u8 b) := RA 2 _ rfl
      have e3 : wr.cell? ⟨bi, off + k * 4 + 3, none⟩ = some (.int .i32 imm) := RA 3 _ rfl
      clear RA hi
      go_upto_region 8 with fail
      obtain ⟨bl, ql⟩ : ∃ i, Hid (i = wr.heap.size) := ⟨_, rfl⟩
      rw [← ql.out]
      obtain ⟨W2, hW2⟩ : ∃ V, Hid (wr.alloc (.cells (insA op a b imm) 43) = V) := ⟨_, rfl⟩
      rw [hW2.out]
      have T2 : Hid (Tb W W2 p o kb) := by rw [Hid, ← hW2.out]; exact TB.out.kp ((Kep.refl _).alloc _)
      have Bl : Hid (W2.heap[bl]? = some (.cells (insA op a b imm) 43 (0, 0))) := by rw [Hid, ← hW2.out]; exact hat _ _ _ ql.out
      have lk : Hid (bl ≠ o ∧ bl ≠ kb) := by have := TB.out.asked.lt; have := ql.out; exact ⟨by omega, by omega⟩
      clear hW2 ql e0 e1 e2 e3 TB
      have e0 : W2.cell? ⟨bl, 0, none⟩ = some (.int .u8 op) := cell_of_block Bl.out
      have e1 : W2.cell? ⟨bl, 1, none⟩ = some (.int .u8 a) := cell_of_block Bl.out
      have e2 : W2.cell? ⟨bl, 2, none⟩ = some (.int .u8 b) := cell_of_block Bl.out
      have e3 : W2.cell? ⟨bl, 3, none⟩ = some (.int .i32 imm) := cell_of_block Bl.out
      have MY := hidd (may_any op a b imm false W2 io.out.1.1 io.out.1.2 io.out.2.2.2.1 io.out.2.2.2.2 ((hT'.out.grown K1.out).grown T2.out.kep))
      cases hmy : mayB (rowOf op false) a b imm
      · have nomid : Hid (mid (I.take (I.length - 1)) = false) := mid_no hi'.out (by have := IL.out; have := hql.out; omega) (by unfold pln bok; simp only; rw [hmy]; rfl)
        rw [hmy] at MY
        clear hmy
        go_wp2_with fail
        refine MY.out.mono ?_
        rintro r w3 ⟨rfl, k3⟩
        have k3 := hidd k3
        clear e0 e1 e2 e3
        go_wp2_with fail
        go_ret
        exact ⟨by rw [mayL_mid nomid.out]; rfl, kep_trans K1.out (kep_trans T2.out.kep k3.out)⟩
      · rw [hmy] at MY
        have hmy' := hidd hmy
        clear hmy
        go_wp2_with fail
        refine MY.out.mono ?_
        rintro r w3 ⟨rfl, k3⟩
        have T3 := hidd (T2.out.kp k3)
        have Bl3 := hidd (k3.block Bl.out)
        clear e0 e1 e2 e3 k3 T2 Bl
        have e0 : w3.cell? ⟨bl, 0, none⟩ = some (.int .u8 op) := cell_of_block Bl3.out
        have EN := hidd (ends_any op io.out.1.1 io.out.1.2 W w3 p o kb T3.out)
        cases hen : gE (tabF op)
        · have yes : Hid (pln (op, a, b, imm) = true) := by rw [Hid]; unfold pln bok bnd; simp only; rw [hmy'.out, hen]; rfl
          rw [hen] at EN
          clear hen
          go_wp2_with fail
          refine EN.out.mono ?_
          rintro r w4 ⟨rfl, t4, s4⟩
          have T4 := hidd t4
          clear e0 t4 s4
          go_wp2_with fail
          go_roundw
          case rel => exact ⟨k + 1, by omega, by go_num, by rw [Hid, mid_succ hi'.out, hm.out, yes.out]; rfl, T4⟩
          case measure => simp [intOf]; omega
        · have nomid : Hid (mid (I.take (I.length - 1)) = false) := mid_no hi'.out (by have := IL.out; have := hql.out; omega) (by unfold pln bnd; simp only; rw [hen]; simp)
          rw [hen] at EN
          clear hen
          go_wp2_with fail
          refine EN.out.mono ?_
          rintro r w4 ⟨rfl, t4, s4⟩
          have T4 := hidd t4
          clear e0 t4 s4
          go_wp2_with fail
          go_ret
          exact ⟨by rw [mayL_mid nomid.out]; rfl, kep_trans K1.out T4.out.kep⟩
    · obtain rfl : k = q := by omega
      have hmm : Hid (mid (I.take (I.length - 1)) = true) := by rw [Hid, IL.out, ← hql.out, Nat.add_sub_cancel]; exact hm.out
      have L0 := hidd (last_at (I := I) (by have := IL.out; omega))
      rw [IL.out, ← hql.out, Nat.add_sub_cancel] at L0
      have hfin : Hid (mayL I la e = (bok (lastI I) && decide (e = bEnd (lastI I).1))) := mayL_fit (by rw [IL.out]; exact h'.out) hmm.out
      have LO := hidd (H'.out.io _ (List.mem_of_getElem? L0.out))
      generalize lastI I = z at L0 LO hfin
      obtain ⟨op, a, b, imm⟩ := z
      obtain ⟨bi, off, hxi, RA⟩ := lies_in19 ((LI.out.kep K1.out).kep TB.out.kep) L0.out
      subst hxi
      have B1 := hidd (TB.out.kep.block Bb.out)
      have c0 : wr.cell? ⟨bb, 0, none⟩ = some (.slice (some ⟨bi, off, none⟩) la ci) := cell_of_block B1.out
      have hla : (la : Int) = k + 1 := by have := hql.out; omega
      have hlk : Hid (la - 1 = k) := by have := hql.out; rw [Hid]; omega
      rw [← hlk.out] at RA
      have e0 : wr.cell? ⟨bi, off + (la - 1) * 4, none⟩ = some (.int .u8 op) := RA 0 _ rfl
      have e1 : wr.cell? ⟨bi, off + (la - 1) * 4 + 1, none⟩ = some (.int .u8 a) := RA 1 _ rfl
      have e2 : wr.cell? ⟨bi, off + (la - 1) * 4 + 2, none⟩ = some (.int .u8 b) := RA 2 _ rfl
      have e3 : wr.cell? ⟨bi, off + (la - 1) * 4 + 3, none⟩ = some (.int .i32 imm) := RA 3 _ rfl
      clear RA hla
      go_upto_region 12 with fail
      obtain ⟨bl, ql⟩ : ∃ i, Hid (i = wr.heap.size) := ⟨_, rfl⟩
      rw [← ql.out]
      obtain ⟨W2, hW2⟩ : ∃ V, Hid (wr.alloc (.cells (insA op a b imm) 43) = V) := ⟨_, rfl⟩
      rw [hW2.out]
      have T2 : Hid (Tb W W2 p o kb) := by rw [Hid, ← hW2.out]; exact TB.out.kp ((Kep.refl _).alloc _)
      have Bl : Hid (W2.heap[bl]? = some (.cells (insA op a b imm) 43 (0, 0))) := by rw [Hid, ← hW2.out]; exact hat _ _ _ ql.out
      have lk : Hid (bl ≠ o ∧ bl ≠ kb) := by have := TB.out.asked.lt; have := ql.out; exact ⟨by omega, by omega⟩
      have B2 := hidd (T2.out.kep.block Bb.out)
      clear hW2 ql e0 e1 e2 e3 TB c0
      have TK := hidd (hT'.out.grown K1.out)
      cases hmy : mayB (rowOf op false) a b imm
      · have fin : Hid (mayL I la e = false) := by rw [Hid, hfin.out]; unfold bok; simp only; rw [hmy]; rfl
        have MY : Hid (∀ w', Tb W w' p o kb → Calls Tryd.prog 16 #[.agg (insA op a b imm), .bool false] w' fun r w'' => r = .returned (.bool false) ∧ Kep w' w'') := fun w' T => by have m := may_any op a b imm false w' LO.out.1.1 LO.out.1.2 LO.out.2.2.2.1 LO.out.2.2.2.2 (TK.out.grown T.kep); rw [hmy] at m; exact m
        clear hmy
        refine wp_region_held_drew (S := fun w' => w'.heap[bl]? = some (.cells (insA op a b imm) 43 (0, 0)) ∧ w'.heap[bb]? = some (.cells (blkC (.slice (some ⟨bi, off, none⟩) la ci) (.slice xa la ca) n t e (.slice xf lf cf) (.slice xt lt ct)) 27 (0, 0)) ∧ Tb W w' p o kb) (by kernel_rfl) (⟨Bl.out, B2.out, T2.out.kp ((Kep.refl _).drew)⟩) (fun hH => ?_)
        refine wpAnyH_take (i := 0) (v := .agg (insA op a b imm)) rfl (by kernel_rfl) (by kernel_rfl) (by kernel_rfl) (fun _ _ _ h => h) (yields_row rfl 43 (.tmp 7) (by rfl) bl (by rfl) 43 (insA op a b imm) (0, 0) _ (fun w h => h.1) Tryd.underlying43 rfl sizeIns) hH ?_
        (try simp only [jA, jB, jC, Act.put, jD, jE, jF])
        refine wpAnyH_ready (rs := [1]) (by kernel_rfl) (by simp) ?_
        refine AllReadyH.cons rfl (fun K hK => ?_) AllReadyH.nil
        rw [if_pos (by rfl)]
        go_simp
        refine (MY.out _ hH.2.2).mono ?_
        rintro x w5 ⟨rfl, k5⟩
        refine hK.out _ _ ⟨k5.block hH.1, k5.block hH.2.1, hH.2.2.kp k5⟩ (fun hH => ?_)
        clear k5
        clear hK K
        (try simp only [jA, jB, jC, Act.put, jD, jE, jF])
        refine wpAnyH_take (i := 2) (v := .bool false) rfl (by kernel_rfl) (by kernel_rfl) (by kernel_rfl) (fun _ _ _ h => h) (.inl ⟨by rfl, by intro w hS; go_simp⟩) hH ?_
        (try simp only [jA, jB, jC, Act.put, jD, jE, jF])
        refine wpAnyH_take (i := 3) (v := undef) rfl (by kernel_rfl) (by kernel_rfl) (by kernel_rfl) (fun _ _ _ h => h) (.inr ⟨by rfl, rfl⟩) hH ?_
        (try simp only [jA, jB, jC, Act.put, jD, jE, jF])
        refine wpAnyH_take (i := 4) (v := undef) rfl (by kernel_rfl) (by kernel_rfl) (by kernel_rfl) (fun _ _ _ h => h) (.inr ⟨by rfl, rfl⟩) hH ?_
        (try simp only [jA, jB, jC, Act.put, jD, jE, jF])
        refine wpAnyH_take (i := 5) (v := undef) rfl (by kernel_rfl) (by kernel_rfl) (by kernel_rfl) (fun _ _ _ h => h) (.inr ⟨by rfl, rfl⟩) hH ?_
        (try simp only [jA, jB, jC, Act.put, jD, jE, jF])
        refine wpAnyH_take (i := 6) (v := undef) rfl (by kernel_rfl) (by kernel_rfl) (by kernel_rfl) (fun _ _ _ h => h) (.inr ⟨by rfl, rfl⟩) hH ?_
        (try simp only [jA, jB, jC, Act.put, jD, jE, jF])
        refine wpAnyH_take (i := 7) (v := undef) rfl (by kernel_rfl) (by kernel_rfl) (by kernel_rfl) (fun _ _ _ h => h) (.inr ⟨by rfl, rfl⟩) hH ?_
        (try simp only [jA, jB, jC, Act.put, jD, jE, jF])
        refine wpAnyH_take (i := 8) (v := undef) rfl (by kernel_rfl) (by kernel_rfl) (by kernel_rfl) (fun _ _ _ h => h) (.inr ⟨by rfl, rfl⟩) hH ?_
        (try simp only [jA, jB, jC, Act.put, jD, jE, jF])
        refine wpAnyH_take (i := 9) (v := undef) rfl (by kernel_rfl) (by kernel_rfl) (by kernel_rfl) (fun _ _ _ h => h) (.inr ⟨by rfl, rfl⟩) hH ?_
        (try simp only [jA, jB, jC, Act.put, jD, jE, jF])
        refine wpAnyH_take (i := 10) (v := .bool false) rfl (by kernel_rfl) (by kernel_rfl) (by kernel_rfl) (fun _ _ _ h => h) (.inl ⟨by rfl, by intro w hS; go_simp⟩) hH ?_
        (try simp only [jA, jB, jC, Act.put, jD, jE, jF])
        refine wpAnyH_take (i := 11) (v := .bool false) rfl (by kernel_rfl) (by kernel_rfl) (by kernel_rfl) (fun _ _ _ h => h) (.inl ⟨by rfl, by intro w hS; go_simp⟩) hH ?_
        (try simp only [jA, jB, jC, Act.put, jD, jE, jF])
        refine wpAnyH_done (by kernel_rfl) ?_ _
        go_wp2_with fail
        go_ret
        exact ⟨by rw [fin.out]; rfl, kep_trans K1.out hH.2.2.kep⟩
      · have fin : Hid (mayL I la e = (e == bEnd op)) := by rw [Hid, hfin.out]; unfold bok; simp only; rw [hmy, Bool.true_and]; rfl
        have MY : Hid (∀ w', Tb W w' p o kb → Calls Tryd.prog 16 #[.agg (insA op a b imm), .bool false] w' fun r w'' => r = .returned (.bool true) ∧ Kep w' w'') := fun w' T => by have m := may_any op a b imm false w' LO.out.1.1 LO.out.1.2 LO.out.2.2.2.1 LO.out.2.2.2.2 (TK.out.grown T.kep); rw [hmy] at m; exact m
        clear hmy
        refine wp_region_held_drew (S := fun w' => w'.heap[bl]? = some (.cells (insA op a b imm) 43 (0, 0)) ∧ w'.heap[bb]? = some (.cells (blkC (.slice (some ⟨bi, off, none⟩) la ci) (.slice xa la ca) n t e (.slice xf lf cf) (.slice xt lt ct)) 27 (0, 0)) ∧ Tb W w' p o kb) (by kernel_rfl) (⟨Bl.out, B2.out, T2.out.kp ((Kep.refl _).drew)⟩) (fun hH => ?_)
        refine wpAnyH_take (i := 0) (v := .agg (insA op a b imm)) rfl (by kernel_rfl) (by kernel_rfl) (by kernel_rfl) (fun _ _ _ h => h) (yields_row rfl 43 (.tmp 7) (by rfl) bl (by rfl) 43 (insA op a b imm) (0, 0) _ (fun w h => h.1) Tryd.underlying43 rfl sizeIns) hH ?_
        (try simp only [jA, jB, jC, Act.put, jD, jE, jF])
        refine wpAnyH_ready (rs := [1]) (by kernel_rfl) (by simp) ?_
        refine AllReadyH.cons rfl (fun K hK => ?_) AllReadyH.nil
        rw [if_pos (by rfl)]
        go_simp
        refine (MY.out _ hH.2.2).mono ?_
        rintro x w5 ⟨rfl, k5⟩
        refine hK.out _ _ ⟨k5.block hH.1, k5.block hH.2.1, hH.2.2.kp k5⟩ (fun hH => ?_)
        clear k5
        clear hK K
        (try simp only [jA, jB, jC, Act.put, jD, jE, jF])
        refine wpAnyH_take (i := 2) (v := .bool true) rfl (by kernel_rfl) (by kernel_rfl) (by kernel_rfl) (fun _ _ _ h => h) (.inl ⟨by rfl, by intro w hS; go_simp⟩) hH ?_
        (try simp only [jA, jB, jC, Act.put, jD, jE, jF])
        refine wpAnyH_take (i := 3) (v := .pointer (some ⟨bb, 4, none⟩)) rfl (by kernel_rfl) (by kernel_rfl) (by kernel_rfl) (fun _ _ _ h => h) (.inl ⟨by rfl, by intro w hS; go_simp⟩) hH ?_
        (try simp only [jA, jB, jC, Act.put, jD, jE, jF])
        refine wpAnyH_take (i := 4) (v := .int .i64 e) rfl (by kernel_rfl) (by kernel_rfl) (by kernel_rfl) (fun _ _ _ h => h) (.inl ⟨by rfl, by intro w hS; have c : w.cell? ⟨bb, 4, none⟩ = some (.int .i64 e) := cell_of_block hS.2.1; clear hS; go_simp⟩) hH ?_
        (try simp only [jA, jB, jC, Act.put, jD, jE, jF])
        refine wpAnyH_take (i := 5) (v := .pointer (some ⟨bl, 0, none⟩)) rfl (by kernel_rfl) (by kernel_rfl) (by kernel_rfl) (fun _ _ _ h => h) (.inl ⟨by rfl, by intro w hS; go_simp⟩) hH ?_
        (try simp only [jA, jB, jC, Act.put, jD, jE, jF])
        refine wpAnyH_take (i := 6) (v := .int .u8 op) rfl (by kernel_rfl) (by kernel_rfl) (by kernel_rfl) (fun _ _ _ h => h) (.inl ⟨by rfl, by intro w hS; have c : w.cell? ⟨bl, 0, none⟩ = some (.int .u8 op) := cell_of_block hS.1; clear hS; go_simp⟩) hH ?_
        (try simp only [jA, jB, jC, Act.put, jD, jE, jF])
        refine wpAnyH_take (i := 7) (v := .pointer (some ⟨p, 0, none⟩)) rfl (by kernel_rfl) (by kernel_rfl) (by kernel_rfl) (fun _ _ _ h => h) (.inl ⟨by rfl, by intro w hS; go_simp⟩) hH ?_
        (try simp only [jA, jB, jC, Act.put, jD, jE, jF])
        refine wpAnyH_ready (rs := [8]) (by kernel_rfl) (by simp) ?_
        refine AllReadyH.cons rfl (fun K hK => ?_) AllReadyH.nil
        rw [if_pos (by rfl)]
        go_simp
        refine (ltend_any op LO.out.1.1 LO.out.1.2 W _ p o kb hH.2.2).mono ?_
        rintro x w6 ⟨rfl, t6, s6⟩
        refine hK.out _ _ ⟨(s6.block bl (block_lt hH.1) lk.out.1 lk.out.2).trans hH.1, t6.kep.block Bb.out, t6⟩ (fun hH => ?_)
        clear t6 s6
        clear hK K
        (try simp only [jA, jB, jC, Act.put, jD, jE, jF])
        refine wpAnyH_take (i := 9) (v := .bool (e == bEnd op)) rfl (by kernel_rfl) (by kernel_rfl) (by kernel_rfl) (fun _ _ _ h => h) (.inl ⟨by rfl, by intro w hS; go_simp⟩) hH ?_
        (try simp only [jA, jB, jC, Act.put, jD, jE, jF])
        refine wpAnyH_take (i := 10) (v := .bool (e == bEnd op)) rfl (by kernel_rfl) (by kernel_rfl) (by kernel_rfl) (fun _ _ _ h => h) (.inl ⟨by rfl, by intro w hS; go_simp⟩) hH ?_
        (try simp only [jA, jB, jC, Act.put, jD, jE, jF])
        refine wpAnyH_take (i := 11) (v := .bool (e == bEnd op)) rfl (by kernel_rfl) (by kernel_rfl) (by kernel_rfl) (fun _ _ _ h => h) (.inl ⟨by rfl, by intro w hS; go_simp⟩) hH ?_
        (try simp only [jA, jB, jC, Act.put, jD, jE, jF])
        refine wpAnyH_done (by kernel_rfl) ?_ _
        go_wp2_with fail
        go_ret
        exact ⟨by rw [fin.out]; rfl, kep_trans K1.out hH.2.2.kep⟩
def lpV (next : Int) (i : In4) : Value := match lay4 next i with
  | none => .tuple #[.agg (insA 0 0 0 0), .bool false]
  | some h => .tuple #[.agg (insA h.1 h.2.1 h.2.2.1 h.2.2.2), .bool true]
theorem s32_wrap {n : Int} (h0 : 0 ≤ n) (h1 : n < 4294967296) : wrap32 n = s32 n := by
  unfold wrap32 s32; split <;> omega
set_option maxHeartbeats 2000000 in
set_option maxRecDepth 100000 in
theorem ltplace_any (i : In4) (next : Int) (h0 : 0 ≤ next) (h1 : next < 4294967296) (w : World) :
    Calls Tryd.prog 23 #[.agg (insA i.1 i.2.1 i.2.2.1 i.2.2.2), .int .u32 next] w fun e w' => e = .returned (lpV next i) ∧ Kep w w' := by
  obtain ⟨op, a, b, imm⟩ := i
  simp only
  by_cases e1 : op = 64
  · subst e1
    show Calls _ _ _ _ fun e w' => e = .returned (.tuple #[.agg (insA 0 0 0 0), .bool false]) ∧ Kep w w'
    clear h0 h1
    go_enter Tryd.func23, Tryd.ntmps23
    go_wp2_with fail
    refine bodyPost_ret (resultsC1 rfl _ _ (w.heap.size + 1) 43 (insA 0 0 0 0) (0, 0) _ rfl blkA Tryd.underlying43 rfl sizeIns) rfl ⟨rfl, kepA⟩
  by_cases e2 : op = 72
  · subst e2
    have hs := s32_wrap h0 h1
    show Calls _ _ _ _ fun e w' => e = .returned (.tuple #[.agg (insA 32 6 0 (s32 next)), .bool true]) ∧ Kep w w'
    rw [← hs]
    clear hs e1
    go_enter Tryd.func23, Tryd.ntmps23
    go_wp2_with fail
    refine bodyPost_ret (resultsC1 rfl _ _ (w.heap.size + 1) 43 (insA 32 6 0 (wrap32 next)) (0, 0) _ rfl blkA Tryd.underlying43 rfl sizeIns) rfl ⟨rfl, kepA⟩
  have n1 : (op == 64) = false := by rw [beq_eq_false_iff_ne]; exact e1
  have n2 : (op == 72) = false := by rw [beq_eq_false_iff_ne]; exact e2
  have BR := hidd (ltbr_any op)
  by_cases e3 : 65 ≤ op ∧ op ≤ 71
  · have e : lpV next (op, a, b, imm) = .tuple #[.agg (insA op a b 5), .bool true] := by unfold lpV lay4; simp [e1, e2, e3]
    rw [e, decide_eq_true e3] at *
    clear e e1 e2 e3 h0 h1
    go_enter Tryd.func23, Tryd.ntmps23
    go_wp2_with fail
    refine (BR.out _).mono ?_
    rintro e w1 ⟨rfl, rfl⟩
    go_wp2_with fail
    refine bodyPost_ret (resultsC1 rfl _ _ (w.heap.size + 1) 43 (insA op a b 5) (0, 0) _ rfl blkA Tryd.underlying43 rfl sizeIns) rfl ⟨rfl, kepA⟩
  · have e : lpV next (op, a, b, imm) = .tuple #[.agg (insA op a b imm), .bool true] := by unfold lpV lay4; simp [e1, e2, e3]
    rw [e, decide_eq_false e3] at *
    clear e e1 e2 e3 h0 h1
    go_enter Tryd.func23, Tryd.ntmps23
    go_wp2_with fail
    refine (BR.out _).mono ?_
    rintro e w1 ⟨rfl, rfl⟩
    go_wp2_with fail
    refine bodyPost_ret (resultsC1 rfl _ _ (w.heap.size + 1) 43 (insA op a b imm) (0, 0) _ rfl blkA Tryd.underlying43 rfl sizeIns) rfl ⟨rfl, kepA⟩
abbrev ledV (b k : Nat) : Value := .iface 68 (.agg #[.slice (some ⟨b, 0, none⟩) k k])
abbrev askedV (p : Int) : Value := .iface 71 (.agg #[.int .u32 p])
theorem lt_isled (b k : Nat) (w : World) : (Instr.typeAssert (ledV b k) 57 68 true).run Tryd.prog w = .ok (.tuple #[.agg #[.slice (some ⟨b, 0, none⟩) k k], .bool true]) w := by kernel_rfl
theorem lt_isntled (p : Int) (w : World) : (Instr.typeAssert (askedV p) 57 68 true).run Tryd.prog w = .ok (.tuple #[.agg #[.slice none 0 0], .bool false]) w := by kernel_rfl
theorem lt_isasked (p : Int) (w : World) : (Instr.typeAssert (askedV p) 57 71 true).run Tryd.prog w = .ok (.tuple #[.agg #[.int .u32 p], .bool true]) w := by kernel_rfl
theorem lt_methled (b k : Nat) (w : World) : (method 167 68 (.agg #[.slice (some ⟨b, 0, none⟩) k k]) "mummer/translate.byCode").run Tryd.prog w = .ok (96, .agg #[.slice (some ⟨b, 0, none⟩) k k]) w := by kernel_rfl
theorem lt_methasked (p : Int) (w : World) : (method 167 71 (.agg #[.int .u32 p]) "mummer/translate.byCode").run Tryd.prog w = .ok (97, .agg #[.int .u32 p]) w := by kernel_rfl
theorem ltby_led (X : Array Value) (n : Int) (w : World) : Calls Tryd.prog 96 #[.agg X, .int .i64 n] w fun e w' => e = .returned (.int .i64 n) ∧ Kep w w' := by
  go_enter Tryd.func96, Tryd.ntmps96
  go_wp2_with fail
  go_ret
  exact ⟨rfl, kepA⟩
theorem ltby_asked (X : Array Value) (n : Int) (h0 : 0 ≤ n) (h1 : n ≤ 1000) (w : World) : Calls Tryd.prog 97 #[.agg X, .int .i64 n] w fun e w' => e = .returned (.int .i64 (n - 1)) ∧ Kep w w' := by
  go_enter Tryd.func97, Tryd.ntmps97
  go_wp2_with fail
  go_ret
  exact ⟨rfl, kepA⟩
def Plc (w : World) (b : Nat) (P : List Int) : Prop := ∀ j v, P[j]? = some v → w.cell? ⟨b, j, none⟩ = some (.int .u32 v)
theorem Plc.kep {w w' : World} {b : Nat} {P : List Int} (h : Plc w b P) (k : Kep w w') : Plc w' b P := fun j v hj => (k.cell (World.block_lt_of_cell? w _ (h j v hj))).trans (h j v hj)
def LedOf (e n t : Int) (P : List Int) : Prop := (e = 3 ∧ P = [n, t]) ∨ (e = 2 ∧ P = [t]) ∨ (e ≠ 2 ∧ e ≠ 3 ∧ e ≠ 4 ∧ P = [n])
set_option maxHeartbeats 2000000 in
set_option maxRecDepth 100000 in
theorem ltendof_led {w : World} {xi : Option Addr} {li ci : Nat} {xa : Option Addr} {la ca : Nat} {n t e : Int} {xf : Option Addr} {lf cf : Nat} {xt : Option Addr} {lt ct : Nat} {P : List Int} (hP : LedOf e n t P) :
    Calls Tryd.prog 22 #[.agg (blkX xi li ci xa la ca n t e xf lf cf xt lt ct)] w fun r w' => ∃ b, r = .returned (ledV b P.length) ∧ Plc w' b P ∧ Kep w w' := by
  rcases hP with ⟨rfl, rfl⟩ | ⟨rfl, rfl⟩ | ⟨e2, e3, e4, rfl⟩
  · go_enter Tryd.func22, Tryd.ntmps22
    go_wp2_with fail
    go_ret
    refine ⟨w.heap.size + 1, rfl, ?_, kepA⟩
    intro j v hj
    match j, hj with
    | 0, hj => obtain rfl : n = v := by simpa using hj
               refine (cell_of_block (cs := #[.int .u32 n, .int .u32 t]) (t := 24) (fr := (0, 0)) ?_).trans rfl; exact blkA
    | 1, hj => obtain rfl : t = v := by simpa using hj
               refine (cell_of_block (cs := #[.int .u32 n, .int .u32 t]) (t := 24) (fr := (0, 0)) ?_).trans rfl; exact blkA
    | (j + 2), hj => simp at hj
  · go_enter Tryd.func22, Tryd.ntmps22
    go_wp2_with fail
    go_ret
    refine ⟨w.heap.size + 1, rfl, ?_, kepA⟩
    intro j v hj
    match j, hj with
    | 0, hj => obtain rfl : t = v := by simpa using hj
               refine (cell_of_block (cs := #[.int .u32 t]) (t := 24) (fr := (0, 0)) ?_).trans rfl; exact blkA
    | (j + 1), hj => simp at hj
  · have x2 : (e == 2) = false := by rw [beq_eq_false_iff_ne]; exact e2
    have x3 : (e == 3) = false := by rw [beq_eq_false_iff_ne]; exact e3
    have x4 : (e == 4) = false := by rw [beq_eq_false_iff_ne]; exact e4
    clear e2 e3 e4
    go_enter Tryd.func22, Tryd.ntmps22
    go_wp2_with fail
    go_ret
    refine ⟨w.heap.size + 1, rfl, ?_, kepA⟩
    intro j v hj
    match j, hj with
    | 0, hj => obtain rfl : n = v := by simpa using hj
               refine (cell_of_block (cs := #[.int .u32 n]) (t := 24) (fr := (0, 0)) ?_).trans rfl; exact blkA
    | (j + 1), hj => simp at hj
set_option maxHeartbeats 2000000 in
set_option maxRecDepth 100000 in
theorem ltendof_asked {w : World} {xi : Option Addr} {li ci : Nat} {I : List In4} {xa : Option Addr} {la ca : Nat} {A : List Int} {n t : Int} {xf : Option Addr} {lf cf : Nat} {xt : Option Addr} {lt ct : Nat} (H : BlkIn w xi li ci I xa la ca A n t 4) (hl : 1 ≤ la) :
    Calls Tryd.prog 22 #[.agg (blkX xi li ci xa la ca n t 4 xf lf cf xt lt ct)] w fun r w' => r = .returned (askedV (A.getD (la - 1) 0)) ∧ Kep w w' := by
  have hi : A[la - 1]? = some (A.getD (la - 1) 0) := by rw [List.getD_eq_getElem?_getD, List.getElem?_eq_getElem (by have := H.al; omega)]; rfl
  obtain ⟨ba, oa, hx, hc⟩ := lies_nu19 H.ai hi
  subst hx
  generalize A.getD (la - 1) 0 = p at hc ⊢
  have g1 : (la : Int) ≤ ca := by have := H.ac; omega
  have g2 : (ca : Int) ≤ 9223372036854775807 := H.am
  have g3 : (1 : Int) ≤ la := by omega
  have lb : ba < w.heap.size := World.block_lt_of_cell? w _ hc
  clear H hi hl
  go_enter Tryd.func22, Tryd.ntmps22
  go_wp2_with fail
  go_ret
  exact ⟨rfl, kepA⟩
end Go.Proofs.YtpalbpjmjbcelaaDoor
