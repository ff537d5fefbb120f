/- Part of a proof. -/
import Derived.Test.YtpalbpjmjbcelaaDoorJ12
import Derived.Test.YtpalbpjmjbcelaaDoorJ15
import Derived.Test.YtpalbpjmjbcelaaDoorJ16
namespace Go.Proofs.YtpalbpjmjbcelaaDoor
open Go.RowKit
set_option linter.unusedVariables false
set_option linter.unusedSimpArgs false
theorem lay4_pln {n : Int} {i : In4} (h : 0 ≤ i.1 ∧ i.1 < 256) (hb : bnd i.1 = false) : lay4 n i = some i := by
  have g : ¬ (64 ≤ i.1 ∧ i.1 ≤ 72) := fun ⟨a, b⟩ => by rw [bnd_cf i.1 a b] at hb; cases hb
  unfold lay4
  rw [if_neg (by omega), if_neg (by omega), if_neg (by omega)]
theorem runI_one {n : Int} {I : List In4} {A : List Int} {k : Nat} {i h : In4} (hi : I[k]? = some i) (hl : lay4 n i = some h) : runI n I A (k + 1) = runI n I A k ++ [(h, A.getD k 0, (k : Int), -1)] := by
  show runI n I A k ++ layI n A k (I.getD k In4.z) = _
  have hg : I.getD k In4.z = i := by rw [List.getD_eq_getElem?_getD, hi]; rfl
  rw [hg]; unfold layI; rw [hl]
theorem runI_nil {n : Int} {I : List In4} {A : List Int} {k : Nat} {i : In4} (hi : I[k]? = some i) (hl : lay4 n i = none) : runI n I A (k + 1) = runI n I A k := by
  show runI n I A k ++ layI n A k (I.getD k In4.z) = _
  have hg : I.getD k In4.z = i := by rw [List.getD_eq_getElem?_getD, hi]; rfl
  rw [hg]; unfold layI; rw [hl]; simp
theorem CdV.row {w0 W : World} {v1 v2 : Value} {L : List It} {F G : List Nat} (h : CdV w0 W v1 v2 L F G) {r : Nat} {x : Array Value} (hr : W.heap[r]? = some (.cells x 33 (0, 0))) (lr : w0.heap.size ≤ r) (new : Array Value) : CdV w0 (W.setRow r new) v1 v2 L F G :=
  ⟨h.sb.rowoff hr (by decide) _, h.sr.rowoff hr (by decide) _, h.lo, h.kp.setRow _ _ lr⟩
theorem CdV.nF {w0 W : World} {v1 v2 : Value} {L : List It} {F G : List Nat} (h : CdV w0 W v1 v2 L F G) {r : Nat} {x : Array Value} (hr : W.heap[r]? = some (.cells x 33 (0, 0))) : r ∉ F ∧ r ∉ G := ⟨fun hm => h.sb.ne hr (by decide) r hm rfl, fun hm => h.sr.ne hr (by decide) r hm rfl⟩
theorem CdV.at_ {w0 W : World} {v1 v2 : Value} {L : List It} {F G : List Nat} (h : CdV w0 W v1 v2 L F G) : CdAt W v1 v2 L := ⟨F, G, h.sb, h.sr⟩
theorem end_1 {op : Int} (h : (1 : Int) = bEnd op) : bnd op = false := by
  cases hb : bnd op
  · rfl
  · unfold bEnd at h; rw [hb, if_neg (by simp)] at h
    split at h
    · omega
    · split at h <;> omega
theorem end_2 {op : Int} (h : (2 : Int) = bEnd op) : bnd op = true ∧ (op = 64 ∨ op = 72) := by
  cases hb : bnd op
  · unfold bEnd at h; rw [hb, if_pos rfl] at h; omega
  · unfold bEnd at h; rw [hb, if_neg (by simp)] at h
    split at h
    · exact ⟨rfl, by assumption⟩
    · split at h <;> omega
theorem end_3 {op : Int} (h : (3 : Int) = bEnd op) : bnd op = true ∧ 65 ≤ op ∧ op ≤ 71 := by
  cases hb : bnd op
  · unfold bEnd at h; rw [hb, if_pos rfl] at h; omega
  · unfold bEnd at h; rw [hb, if_neg (by simp)] at h
    split at h
    · omega
    · split at h
      · exact ⟨rfl, by assumption⟩
      · omega
theorem end_4 {op : Int} (h : (4 : Int) = bEnd op) : bnd op = true := by
  cases hb : bnd op
  · unfold bEnd at h; rw [hb, if_pos rfl] at h; omega
  · rfl
theorem end_one {op : Int} : bEnd op = 1 ∨ bEnd op = 2 ∨ bEnd op = 3 ∨ bEnd op = 4 := by
  unfold bEnd
  split
  · exact .inl rfl
  · split
    · exact .inr (.inl rfl)
    · split
      · exact .inr (.inr (.inl rfl))
      · exact .inr (.inr (.inr rfl))
theorem brn_zero {op a b imm : Int} (h : bok (op, a, b, imm) = true) (o : In4.Ok (op, a, b, imm)) (h1 : 65 ≤ op ∧ op ≤ 71) : a = 0 ∧ b = 0 := by
  have e : rowOf op false = 7 := by
    have := byte_all (p := fun op => decide (65 ≤ op ∧ op ≤ 71 → rowOf op false = 7)) (by decide +kernel) op o.1.1 o.1.2
    exact (of_decide_eq_true this) h1
  have hb : mayB (rowOf op false) a b imm = true := h
  rw [e] at hb
  obtain ⟨_, m1, m2, _, _⟩ := may_parts hb
  have f1' : f1 7 = 0 := by decide
  have f2' : f2 7 = 0 := by decide
  rw [f1'] at m1; rw [f2'] at m2
  have := o.2.1.1; have := o.2.2.1.1
  simp only at *
  omega
set_option maxHeartbeats 16000000 in
set_option maxRecDepth 100000 in
theorem rtr20_any {w : World} {xi : Option Addr} {li ci : Nat} {I : List In4} {xa : Option Addr} {la ca : Nat} {A : List Int} {n t e : Int} {xf : Option Addr} {lf cf : Nat} {xt : Option Addr} {lt ct : Nat} (H : BlkIn w xi li ci I xa la ca A n t e) (first : Int) (hm : mayL I la e = true) (hf : 0 ≤ first ∧ first ≤ 65534) :
    Calls Tryd.prog 13 #[.agg (blkX xi li ci xa la ca n t e xf lf cf xt lt ct), .int .i64 first] w fun r w' => ∃ v1 v2, r = .returned (.agg #[v1, v2]) ∧ CdAt w' v1 v2 (trI I A n t e first) ∧ Kep w w' := by
  obtain ⟨m1, m2, m3⟩ := may_fit hm
  have m4 := H.il
  obtain rfl : li = la := by omega
  have LST0 := last_at m1
  rw [m4] at LST0
  obtain ⟨lb, le0⟩ := may_last hm
  have BK : Hid (∀ k i, I[k]? = some i → bok i = true) := fun k i hi => by
    by_cases hk : k < I.length - 1
    · exact (mid_at hi hk (may_mid hm)).1
    · have := (List.getElem?_eq_some_iff.1 hi).1
      obtain rfl : k = li - 1 := by omega
      rw [LST0] at hi
      obtain rfl : lastI I = i := by simpa using hi
      exact lb
  have BN : Hid (∀ k i, I[k]? = some i → k < li - 1 → bnd i.1 = false) := fun k i hi hk => (mid_at hi (by omega) (may_mid hm)).2
  have dn : li - 1 ≤ dnI I e := by unfold dnI; split <;> omega
  have GD : Hid (∀ k, k ≤ li - 1 → ∀ x ∈ runI n I A k, GdI x.1) := fun k hk => runI_good H.hn hm H.io (by omega)
  obtain ⟨dR, hdR⟩ : ∃ d, Hid (d = if bnd (lastI I).1 = true then li - 1 else li) := ⟨_, rfl⟩
  have TM : Hid (mayL I li e = true) := hm
  have H' := hidd H
  have hf' := hidd hf
  have g1 : (li : Int) ≤ 32 := by omega
  have g2 : (1 : Int) ≤ li := by omega
  have g3 : (li : Int) ≤ ci := by have := H.ic; omega
  have g4 : (ci : Int) ≤ 9223372036854775807 := H.im
  have g5 : (li : Int) ≤ ca := by have := H.ac; omega
  have g6 : (ca : Int) ≤ 9223372036854775807 := H.am
  have f0' : 0 ≤ first := hf.1
  have f1' : first ≤ 65534 := hf.2
  have IL : Hid (I.length = li) := m4
  have LST := hidd LST0
  have le := hidd le0
  clear LST0 le0 H hm hf m1 m2 m3 m4 lb dn
  go_enter Tryd.func13, Tryd.ntmps13
  go_upto_region 2 with fail
  obtain ⟨bb, qb⟩ : ∃ i, Hid (i = w.heap.size) := ⟨_, rfl⟩
  obtain ⟨b4, q4⟩ : ∃ i, Hid (i = w.heap.size + 1) := ⟨_, rfl⟩
  obtain ⟨b5, q5⟩ : ∃ i, Hid (i = w.heap.size + 2) := ⟨_, rfl⟩
  rw [← q5.out, ← q4.out, ← qb.out]
  obtain ⟨Wb, hWb⟩ : ∃ V, Hid (w.alloc (.cells (blkX xi li ci xa li ca n t e xf lf cf xt lt ct) 27) = V) := ⟨_, rfl⟩
  rw [hWb.out]
  have K1 : Hid (Kep w Wb) := by rw [Hid, ← hWb.out]; exact (Kep.refl _).alloc _
  have Bb : Hid (Wb.heap[bb]? = some (.cells (blkX xi li ci xa li ca n t e xf lf cf xt lt ct) 27 (0, 0))) := by rw [Hid, ← hWb.out]; exact hat _ _ _ qb.out
  have z4 : Hid (b4 = Wb.heap.size) := by rw [Hid, ← hWb.out, q4.out]; simp
  have z5 : Hid (b5 = Wb.heap.size + 1) := by rw [Hid, ← hWb.out, q5.out]; simp
  have lw : Hid (w.heap.size ≤ Wb.heap.size) := K1.out.size
  clear hWb qb q4 q5
  obtain ⟨W2, hW2⟩ : ∃ V, Hid ((Wb.alloc (.cells #[nilS, nilS] 33)).alloc (.cells #[nilS, nilS] 33) = V) := ⟨_, rfl⟩
  rw [hW2.out]
  have K2 : Hid (Kep Wb W2) := by rw [Hid, ← hW2.out]; exact ((Kep.refl _).alloc _).alloc _
  have B4 : Hid (W2.heap[b4]? = some (.cells #[nilS, nilS] 33 (0, 0))) := by rw [Hid, ← hW2.out, z4.out]; exact ((Kep.refl _).alloc _).block (hat _ _ _ rfl)
  have B5 : Hid (W2.heap[b5]? = some (.cells #[nilS, nilS] 33 (0, 0))) := by rw [Hid, ← hW2.out, z5.out]; exact hat _ _ _ (by simp)
  have l4 : Hid (Wb.heap.size ≤ b4) := by rw [Hid, z4.out]; omega
  have l5 : Hid (Wb.heap.size ≤ b5) := by rw [Hid, z5.out]; omega
  have n45 : Hid (b4 ≠ b5) := by rw [Hid, z4.out, z5.out]; omega
  have C2 : Hid (CdV Wb W2 nilS nilS [] [] []) := ⟨Sli.nil _ _ _, Sli.nil _ _ _, ⟨by simp, by simp⟩, K2.out⟩
  clear hW2 z4 z5
  have c0 : W2.cell? ⟨bb, 0, none⟩ = some (.slice xi li ci) := cell_of_block (K2.out.block Bb.out)
  go_wp2_with fail
  clear c0
  go_loopw [7] (fun i wr => ∃ k m : Nat, (k : Int) ≤ li ∧ i = .int .i64 k ∧ Hid ((k < li ∧ m = k) ∨ (k = li ∧ m = dR)) ∧ ∃ v1 v2 F G, Hid (CdV Wb wr v1 v2 (runI n I A m) F G) ∧ Hid (wr.heap[b5]? = some (.cells #[v1, v2] 33 (0, 0))) ∧ Hid (wr.heap[b4]? = some (.cells #[nilS, nilS] 33 (0, 0)))) (fun i _ => li - (intOf i).toNat)
  case atStart => exact ⟨0, 0, by omega, rfl, .inl ⟨by omega, rfl⟩, _, _, _, _, C2, B5, B4⟩
  case round =>
    obtain ⟨k, m, hk, rfl, hmk, v1, v2, F, G, CD, D5, D4⟩ := hrel
    by_cases hlt : k < li
    · obtain rfl : m = k := by rcases hmk.out with ⟨_, h⟩ | ⟨h, _⟩ <;> omega
      obtain ⟨i, hi⟩ : ∃ z, I[m]? = some z := ⟨_, List.getElem?_eq_getElem (by have := IL.out; omega)⟩
      have hi' := hidd hi
      obtain ⟨bi, off, hxi, RA⟩ := lies_in19 (H'.out.ii.kep K1.out) hi
      subst hxi
      have io := hidd (H'.out.io _ (List.mem_of_getElem? hi))
      have bk := hidd (BK.out _ _ hi)
      obtain ⟨X, RO⟩ := ltof_any i.1 io.out.1.1 io.out.1.2
      have RO := hidd RO
      have lbi : Hid (bi < Wb.heap.size) := World.block_lt_of_cell? Wb _ (RA 0 _ rfl)
      have e0 : wr.cell? ⟨bi, off + m * 4, none⟩ = some (.int .u8 i.1) := (CD.out.kp.cell lbi.out).trans (RA 0 _ rfl)
      have c0 : wr.cell? ⟨bb, 0, none⟩ = some (.slice (some ⟨bi, off, none⟩) li ci) := cell_of_block (CD.out.kp.block Bb.out)
      have RAx := hidd RA
      clear hi RA
      have RA := RAx
      clear RAx
      cases hb : bnd i.1
      · rw [hb] at RO
        have hfd := rf_field X false
        have hl := hidd (runI_one (A := A) hi'.out (lay4_pln (n := n) io.out.1 hb))
        have nx : Hid (m + 1 < li ∨ (m + 1 = li ∧ m + 1 = dR)) := by
          by_cases h1 : m + 1 < li
          · exact .inl h1
          · have e1 : m + 1 = li := by omega
            have e2 : lastI I = i := by
              have := LST.out
              rw [show li - 1 = m by omega, hi'.out] at this
              exact (by simpa using this.symm)
            exact .inr ⟨e1, by rw [hdR.out, e2, hb, if_neg (by simp)]; exact e1⟩
        clear hb
        go_upto_region 6 with fail
        go_wp2_with fail
        refine (RO.out _).mono ?_
        rintro r w3 ⟨rfl, k3⟩
        have CD3 := hidd (CD.out.kep k3)
        have D53 := hidd (k3.block D5.out)
        have D43 := hidd (k3.block D4.out)
        have k3 := hidd k3
        clear e0 c0
        go_upto_region 7 with fail
        have hA : A[m]? = some (A.getD m 0) := by rw [List.getD_eq_getElem?_getD, List.getElem?_eq_getElem (by have := H'.out.al; omega)]; rfl
        obtain ⟨ba, oa, hx, PC⟩ := lies_nu19 (H'.out.ai.kep K1.out) hA
        subst hx
        have PCx := hidd PC
        clear PC
        have PC := PCx
        clear PCx
        have lba : Hid (ba < Wb.heap.size) := World.block_lt_of_cell? Wb _ PC.out
        have BL : Hid ((itB (runI n I A m)).length ≤ 1000) := by have h1 := itB_le (GD.out m (by omega)); have h2 := runI_len n I A m; rw [Hid]; omega
        have LL : Hid ((runI n I A m).length ≤ 1000) := by have h2 := runI_len n I A m; rw [Hid]; omega
        generalize A.getD m 0 = pc at PC hl
        clear hA
        have q1 : Hid ((m : Int) < li) := by rw [Hid]; omega
        refine wp_region_held_drew (S := fun w' => Kep Wb w') (by kernel_rfl) ((CD3.out.kep (Kep.refl _).drew).kp) (fun hH => ?_)
        refine wpAnyH_take (i := 1) (v := .pointer (some ⟨bb, 0, none⟩)) rfl (by kernel_rfl) (by kernel_rfl) (by kernel_rfl) (fun _ _ _ h => h) (.inl ⟨by rfl, by intro w hS; go_simp⟩) hH ?_
        (try simp only [jA, jB, jC, Act.put, jD, jE, jF])
        refine wpAnyH_take (i := 2) (v := .slice (some ⟨bi, off, none⟩) li ci) rfl (by kernel_rfl) (by kernel_rfl) (by kernel_rfl) (fun _ _ _ h => h) (.inl ⟨by rfl, by intro w hS; have c : w.cell? ⟨bb, 0, none⟩ = some (.slice (some ⟨bi, off, none⟩) li ci) := cell_of_block (hS.block Bb.out); clear hS; go_simp⟩) hH ?_
        (try simp only [jA, jB, jC, Act.put, jD, jE, jF])
        refine wpAnyH_take (i := 3) (v := .int .i64 m) rfl (by kernel_rfl) (by kernel_rfl) (by kernel_rfl) (fun _ _ _ h => h) (.inl ⟨by rfl, by intro w hS; go_simp⟩) hH ?_
        (try simp only [jA, jB, jC, Act.put, jD, jE, jF])
        refine wpAnyH_take (i := 4) (v := .pointer (some ⟨bi, off + m * 4, none⟩)) rfl (by kernel_rfl) (by kernel_rfl) (by kernel_rfl) (fun _ _ _ h => h) (.inl ⟨by rfl, by intro w hS; have h1 := q1.out; clear hS; go_simp⟩) hH ?_
        (try simp only [jA, jB, jC, Act.put, jD, jE, jF])
        refine wpAnyH_take (i := 5) (v := .agg (insA i.1 i.2.1 i.2.2.1 i.2.2.2)) rfl (by kernel_rfl) (by kernel_rfl) (by kernel_rfl) (fun _ _ _ h => h) (yieldsIf_load_mid (by rfl) 43 (.tmp 31) (by rfl) bi (off + m * 4) (by rfl) (inV i) _ (fun w h => fun j u hj => (h.cell lbi.out).trans (RA.out j u hj)) Tryd.underlying43 rfl (by kernel_rfl)) hH ?_
        (try simp only [jA, jB, jC, Act.put, jD, jE, jF])
        refine wpAnyH_take (i := 6) (v := .pointer (some ⟨bb, 1, none⟩)) rfl (by kernel_rfl) (by kernel_rfl) (by kernel_rfl) (fun _ _ _ h => h) (.inl ⟨by rfl, by intro w hS; go_simp⟩) hH ?_
        (try simp only [jA, jB, jC, Act.put, jD, jE, jF])
        refine wpAnyH_take (i := 7) (v := .slice (some ⟨ba, oa, none⟩) li ca) rfl (by kernel_rfl) (by kernel_rfl) (by kernel_rfl) (fun _ _ _ h => h) (.inl ⟨by rfl, by intro w hS; have c : w.cell? ⟨bb, 1, none⟩ = some (.slice (some ⟨ba, oa, none⟩) li ca) := cell_of_block (hS.block Bb.out); clear hS; go_simp⟩) hH ?_
        (try simp only [jA, jB, jC, Act.put, jD, jE, jF])
        refine wpAnyH_take (i := 8) (v := .int .i64 m) rfl (by kernel_rfl) (by kernel_rfl) (by kernel_rfl) (fun _ _ _ h => h) (.inl ⟨by rfl, by intro w hS; go_simp⟩) hH ?_
        (try simp only [jA, jB, jC, Act.put, jD, jE, jF])
        refine wpAnyH_take (i := 9) (v := .pointer (some ⟨ba, oa + m, none⟩)) rfl (by kernel_rfl) (by kernel_rfl) (by kernel_rfl) (fun _ _ _ h => h) (.inl ⟨by rfl, by intro w hS; have h1 := q1.out; clear hS; go_simp⟩) hH ?_
        (try simp only [jA, jB, jC, Act.put, jD, jE, jF])
        refine wpAnyH_take (i := 10) (v := .int .u32 pc) rfl (by kernel_rfl) (by kernel_rfl) (by kernel_rfl) (fun _ _ _ h => h) (.inl ⟨by rfl, by intro w hS; have c : w.cell? ⟨ba, oa + m, none⟩ = some (.int .u32 pc) := (hS.cell lba.out).trans PC.out; clear hS; go_simp⟩) hH ?_
        (try simp only [jA, jB, jC, Act.put, jD, jE, jF])
        refine wpAnyH_take (i := 11) (v := .int .i64 m) rfl (by kernel_rfl) (by kernel_rfl) (by kernel_rfl) (fun _ _ _ h => h) (.inl ⟨by rfl, by intro w hS; go_simp⟩) hH ?_
        (try simp only [jA, jB, jC, Act.put, jD, jE, jF])
        refine wpAnyH_ready (rs := [0]) (by kernel_rfl) (by simp) ?_
        refine AllReadyH.cons rfl (fun K hK => ?_) AllReadyH.nil
        rw [if_pos (by rfl)]
        refine wp_load_row 33 _ (by rfl) b5 (by rfl) 33 #[v1, v2] (0, 0) _ (((Kep.refl w3).drew).block D53.out) Tryd.underlying33 rfl size_code ?_
        refine hK.out _ _ hH (fun hH => ?_)
        clear hK K
        (try simp only [jA, jB, jC, Act.put, jD, jE, jF])
        refine wpAnyH_ready (rs := [12]) (by kernel_rfl) (by simp) ?_
        refine AllReadyH.cons rfl (fun K hK => ?_) AllReadyH.nil
        rw [if_pos (by rfl)]
        go_simp
        refine (rwith_any (CD3.out.kep (Kep.refl _).drew) i io.out bk.out pc m BL.out LL.out).mono ?_
        rintro x w8 ⟨v1', v2', F', G', rfl, cv, fr⟩
        have D58 := hidd (fr b5 _ _ (((Kep.refl w3).drew).block D53.out) (CD3.out.nF D53.out).1 (CD3.out.nF D53.out).2)
        have D48 := hidd (fr b4 _ _ (((Kep.refl w3).drew).block D43.out) (CD3.out.nF D43.out).1 (CD3.out.nF D43.out).2)
        obtain ⟨x1, y1, hv1, _⟩ := cv.sb.lies
        obtain ⟨x2, y2, hv2, _⟩ := cv.sr.lies
        generalize hla : (itB (runI n I A m ++ [(i, pc, (m : Int), -1)])).length = la' at hv1
        generalize hlb : (runI n I A m ++ [(i, pc, (m : Int), -1)]).length = lb' at hv2
        clear hla hlb
        subst hv1 hv2
        have CV := hidd cv
        clear fr
        refine hK.out _ _ cv.kp (fun hH => ?_)
        clear cv
        clear hK K
        (try simp only [jA, jB, jC, Act.put, jD, jE, jF])
        refine wpAnyH_ready (rs := [13]) (by kernel_rfl) (by simp) ?_
        refine AllReadyH.cons rfl (fun K hK => ?_) AllReadyH.nil
        rw [if_pos (by rfl)]
        refine wp_store_row 33 _ _ rfl b5 #[.slice x1 la' y1, .slice x2 lb' y2] rfl rfl 33 #[v1, v2] D58.out size_code rfl (by simp [Value.oneCell']) ?_
        refine hK.out _ _ (hH.setRow b5 _ l5.out) (fun hH => ?_)
        clear hK K
        (try simp only [jA, jB, jC, Act.put, jD, jE, jF])
        refine wpAnyH_done (by kernel_rfl) ?_ _
        go_wp2_with fail
        go_roundw
        case rel => exact ⟨m + 1, m + 1, by omega, by go_num, (by rcases nx.out with h | h; exact .inl ⟨h, rfl⟩; exact .inr h), _, _, _, _, by rw [hl.out]; exact hidd (CV.out.row D58.out l5.out _), hidd (setRow_heap _ _ _ _ _ _ D58.out), hidd ((setRow_other _ _ _ _ n45.out).trans D48.out)⟩
        case measure => simp [intOf]; omega
      · rw [hb] at RO
        have hfd := rf_field X true
        have nx : Hid ((m + 1 < li ∧ m = m + 1) ∨ (m + 1 = li ∧ m = dR)) := by
          have e1 : m + 1 = li := by
            by_cases h1 : m < li - 1
            · have := BN.out _ _ hi'.out h1; rw [hb] at this; cases this
            · omega
          have e2 : lastI I = i := by
            have := LST.out
            rw [show li - 1 = m by omega, hi'.out] at this
            exact (by simpa using this.symm)
          exact .inr ⟨e1, by rw [hdR.out, e2, if_pos hb]; omega⟩
        clear hb
        go_upto_region 6 with fail
        go_wp2_with fail
        refine (RO.out _).mono ?_
        rintro r w3 ⟨rfl, k3⟩
        have CD3 := hidd (CD.out.kep k3)
        have D53 := hidd (k3.block D5.out)
        have D43 := hidd (k3.block D4.out)
        clear e0 c0 k3
        go_wp2_with fail
        go_roundw
        case rel => exact ⟨m + 1, m, by omega, by go_num, nx, v1, v2, F, G, CD3, D53, D43⟩
        case measure => simp [intOf]; omega
    · obtain rfl : k = li := by omega
      obtain rfl : m = dR := by rcases hmk.out with ⟨h, _⟩ | ⟨_, h⟩; omega; exact h
      have L0 := hidd LST.out
      have LO := hidd (H'.out.io _ (List.mem_of_getElem? L0.out))
      have lb := hidd (BK.out _ _ L0.out)
      generalize hz : lastI I = z at L0 LO le hdR lb
      obtain ⟨op, a, b, imm⟩ := z
      obtain ⟨bi, off, hxi, RA⟩ := lies_in19 (H'.out.ii.kep K1.out) L0.out
      subst hxi
      have hA : A[k - 1]? = some (A.getD (k - 1) 0) := by rw [List.getD_eq_getElem?_getD, List.getElem?_eq_getElem (by have := H'.out.al; omega)]; rfl
      obtain ⟨ba, oa, hx, PC⟩ := lies_nu19 (H'.out.ai.kep K1.out) hA
      subst hx
      obtain ⟨pA, hpA⟩ : ∃ p, Hid (A.getD (k - 1) 0 = p) := ⟨_, rfl⟩
      rw [hpA.out] at PC
      have BLq := GD.out (k - 1) (Nat.le_refl _)
      have RN0 := fun h => runI_one (n := n) (A := A) (h := h) L0.out
      have RZ0 := runI_nil (n := n) (A := A) L0.out
      rw [show k - 1 + 1 = k by omega] at RN0 RZ0
      rw [hpA.out] at RN0
      have RN := hidd RN0
      have RZ := hidd RZ0
      clear RN0 RZ0
      obtain ⟨q, hq⟩ : ∃ q, Hid (k - 1 = q) := ⟨_, rfl⟩
      rw [hq.out] at RA PC
      have RA' := hidd RA
      have PC' := hidd PC
      clear RA PC hA
      have RA := RA'
      have PC := PC'
      clear RA' PC'
      have lbi : Hid (bi < Wb.heap.size) := World.block_lt_of_cell? Wb _ (RA.out 0 _ rfl)
      have lba : Hid (ba < Wb.heap.size) := World.block_lt_of_cell? Wb _ PC.out
      have wr1 : Hid (IntKind.i64.wrap ((k : Int) - 1) = (q : Int)) := by have := hq.out; rw [Hid]; unfold IntKind.wrap; simp [IntKind.signed, IntKind.bits]; omega
      have kq : Hid ((k : Int) - 1 = (q : Int)) := by have := hq.out; rw [Hid]; omega
      have qk : Hid (q < k) := by have := hq.out; rw [Hid]; omega
      have BLM : Hid (∀ j, j ≤ dnI I e → (itB (runI n I A j)).length ≤ 200 ∧ (runI n I A j).length ≤ 32) := fun j hj => by
        have h0 : dnI I e ≤ k := by unfold dnI; split <;> (have := IL.out; omega)
        have h2 := runI_len n I A j
        have h1 := itB_le (runI_good (A := A) H'.out.hn TM.out H'.out.io hj)
        omega
      have DN : Hid (e ≠ 4 → dnI I e = k) := fun h => by unfold dnI; rw [if_neg h]; exact IL.out
      have DN4 : Hid (k - 1 ≤ dnI I e) := by rw [Hid]; unfold dnI; split <;> (have := IL.out; omega)
      clear BLq
      go_upto_region 8 with fail
      refine wp_region_held_drew (S := fun w' => Kep wr w') (by kernel_rfl) ((Kep.refl _).drew) (fun hH => ?_)
      have kD := hidd ((Kep.refl wr).drew)
      generalize wr.drew = D at hH kD ⊢
      refine wpAnyH_take (i := 0) (v := .pointer (some ⟨bb, 0, none⟩)) rfl (by kernel_rfl) (by kernel_rfl) (by kernel_rfl) (fun _ _ _ h => h) (.inl ⟨by rfl, by intro w hS; go_simp⟩) hH ?_
      (try simp only [jA, jB, jC, Act.put, jD, jE, jF])
      refine wpAnyH_take (i := 1) (v := .slice (some ⟨bi, off, none⟩) k ci) rfl (by kernel_rfl) (by kernel_rfl) (by kernel_rfl) (fun _ _ _ h => h) (.inl ⟨by rfl, by intro w hS; have c : w.cell? ⟨bb, 0, none⟩ = some (.slice (some ⟨bi, off, none⟩) k ci) := cell_of_block ((kep_trans CD.out.kp hS).block Bb.out); clear hS; go_simp⟩) hH ?_
      (try simp only [jA, jB, jC, Act.put, jD, jE, jF])
      refine wpAnyH_take (i := 2) (v := .int .i64 k) rfl (by kernel_rfl) (by kernel_rfl) (by kernel_rfl) (fun _ _ _ h => h) (.inl ⟨by rfl, by intro w hS; go_simp⟩) hH ?_
      (try simp only [jA, jB, jC, Act.put, jD, jE, jF])
      refine wpAnyH_take (i := 3) (v := .int .i64 q) rfl (by kernel_rfl) (by kernel_rfl) (by kernel_rfl) (fun _ _ _ h => h) (.inl ⟨by rfl, by intro w hS; have hb := wr1.out; clear hS; go_simp⟩) hH ?_
      (try simp only [jA, jB, jC, Act.put, jD, jE, jF])
      refine wpAnyH_take (i := 4) (v := .pointer (some ⟨bi, off + q * 4, none⟩)) rfl (by kernel_rfl) (by kernel_rfl) (by kernel_rfl) (fun _ _ _ h => h) (.inl ⟨by rfl, by intro w hS; have h1 := qk.out; clear hS; go_simp⟩) hH ?_
      (try simp only [jA, jB, jC, Act.put, jD, jE, jF])
      refine wpAnyH_take (i := 5) (v := .agg (insA op a b imm)) rfl (by kernel_rfl) (by kernel_rfl) (by kernel_rfl) (fun _ _ _ h => h) (yieldsIf_load_mid (by rfl) 43 (.tmp 44) (by rfl) bi (off + q * 4) (by rfl) (inV (op, a, b, imm)) _ (fun w h => fun j u hj => ((kep_trans CD.out.kp h).cell lbi.out).trans (RA.out j u hj)) Tryd.underlying43 rfl (by kernel_rfl)) hH ?_
      (try simp only [jA, jB, jC, Act.put, jD, jE, jF])
      refine wpAnyH_take (i := 6) (v := .pointer (some ⟨bb, 1, none⟩)) rfl (by kernel_rfl) (by kernel_rfl) (by kernel_rfl) (fun _ _ _ h => h) (.inl ⟨by rfl, by intro w hS; go_simp⟩) hH ?_
      (try simp only [jA, jB, jC, Act.put, jD, jE, jF])
      refine wpAnyH_take (i := 7) (v := .slice (some ⟨ba, oa, none⟩) k ca) rfl (by kernel_rfl) (by kernel_rfl) (by kernel_rfl) (fun _ _ _ h => h) (.inl ⟨by rfl, by intro w hS; have c : w.cell? ⟨bb, 1, none⟩ = some (.slice (some ⟨ba, oa, none⟩) k ca) := cell_of_block ((kep_trans CD.out.kp hS).block Bb.out); clear hS; go_simp⟩) hH ?_
      (try simp only [jA, jB, jC, Act.put, jD, jE, jF])
      refine wpAnyH_take (i := 8) (v := .int .i64 k) rfl (by kernel_rfl) (by kernel_rfl) (by kernel_rfl) (fun _ _ _ h => h) (.inl ⟨by rfl, by intro w hS; go_simp⟩) hH ?_
      (try simp only [jA, jB, jC, Act.put, jD, jE, jF])
      refine wpAnyH_take (i := 9) (v := .int .i64 q) rfl (by kernel_rfl) (by kernel_rfl) (by kernel_rfl) (fun _ _ _ h => h) (.inl ⟨by rfl, by intro w hS; have hb := wr1.out; clear hS; go_simp⟩) hH ?_
      (try simp only [jA, jB, jC, Act.put, jD, jE, jF])
      refine wpAnyH_take (i := 10) (v := .pointer (some ⟨ba, oa + q, none⟩)) rfl (by kernel_rfl) (by kernel_rfl) (by kernel_rfl) (fun _ _ _ h => h) (.inl ⟨by rfl, by intro w hS; have h1 := qk.out; clear hS; go_simp⟩) hH ?_
      (try simp only [jA, jB, jC, Act.put, jD, jE, jF])
      refine wpAnyH_take (i := 11) (v := .int .u32 pA) rfl (by kernel_rfl) (by kernel_rfl) (by kernel_rfl) (fun _ _ _ h => h) (.inl ⟨by rfl, by intro w hS; have c : w.cell? ⟨ba, oa + q, none⟩ = some (.int .u32 pA) := ((kep_trans CD.out.kp hS).cell lba.out).trans PC.out; clear hS; go_simp⟩) hH ?_
      (try simp only [jA, jB, jC, Act.put, jD, jE, jF])
      refine wpAnyH_ready (rs := [12]) (by kernel_rfl) (by simp) ?_
      refine AllReadyH.cons rfl (fun K hK => ?_) AllReadyH.nil
      rw [if_pos (by rfl)]
      obtain ⟨V, eV⟩ : ∃ V, Hid ((D).alloc (.cells (insA 0 0 0 0) 43) = V) := ⟨_, rfl⟩
      obtain ⟨x6, ex6⟩ : ∃ x, Hid (x = D.heap.size) := ⟨_, rfl⟩
      go_simp
      rw [eV.out, ← ex6.out]
      have lx : Hid (wr.heap.size ≤ x6) := by rw [Hid, ex6.out]; exact hH.size
      have Bx : Hid (V.heap[x6]? = some (.cells (insA 0 0 0 0) 43 (0, 0))) := by rw [Hid, ← eV.out]; exact hat _ _ _ ex6.out
      refine hK.out _ _ (by rw [← eV.out]; exact hH.alloc _) (fun hH => ?_)
      clear eV ex6
      clear hK K
      (try simp only [jA, jB, jC, Act.put, jD, jE, jF])
      refine wpAnyH_ready (rs := [13]) (by kernel_rfl) (by simp) ?_
      refine AllReadyH.cons rfl (fun K hK => ?_) AllReadyH.nil
      rw [if_pos (by rfl)]
      refine wp_store_row 43 _ _ rfl x6 (insA op a b imm) rfl rfl 43 (insA 0 0 0 0) Bx.out sizeIns rfl (by simp [Value.oneCell']) ?_
      refine hK.out _ _ (hH.setRow x6 _ lx.out) (fun hH => ?_)
      clear hK K
      (try simp only [jA, jB, jC, Act.put, jD, jE, jF])
      refine wpAnyH_take (i := 14) (v := .int .u32 pA) rfl (by kernel_rfl) (by kernel_rfl) (by kernel_rfl) (fun _ _ _ h => h) (.inl ⟨by rfl, by intro w hS; go_simp⟩) hH ?_
      (try simp only [jA, jB, jC, Act.put, jD, jE, jF])
      refine wpAnyH_done (by kernel_rfl) ?_ _
      have Bx2 := setRow_heap _ _ _ (insA op a b imm) _ _ Bx.out
      obtain ⟨W9, hW9⟩ : ∃ U, Hid (World.setRow V x6 (insA op a b imm) = U) := ⟨_, rfl⟩
      rw [hW9.out] at Bx2 hH ⊢
      have Bx9 := hidd Bx2
      have C9 := hidd (CD.out.kep hH)
      have E5 := hidd (hH.block D5.out)
      have E4 := hidd (hH.block D4.out)
      clear hW9 hH Bx2 Bx lx CD D5 D4
      have e0 : W9.cell? ⟨x6, 0, none⟩ = some (.int .u8 op) := cell_of_block Bx9.out
      have c4 : W9.cell? ⟨bb, 4, none⟩ = some (.int .i64 e) := cell_of_block (C9.out.kp.block Bb.out)
      have c2 : W9.cell? ⟨bb, 2, none⟩ = some (.int .u32 n) := cell_of_block (C9.out.kp.block Bb.out)
      have c3 : W9.cell? ⟨bb, 3, none⟩ = some (.int .u32 t) := cell_of_block (C9.out.kp.block Bb.out)
      have d0 : W9.cell? ⟨b5, 0, none⟩ = some v1 := cell_of_block E5.out
      have d1 : W9.cell? ⟨b5, 1, none⟩ = some v2 := cell_of_block E5.out
      simp only at le hdR
      rcases end_one (op := op) with h | h | h | h
      · have he : e = 1 := le.out.trans h
        have hb : bnd op = false := end_1 h.symm
        have hmk' : m = k := by have := hdR.out; rw [hb, if_neg (by simp)] at this; exact this
        rw [hmk'] at C9
        obtain ⟨b1, b2⟩ := BLM.out k (by rw [DN.out (by omega)]; omega)
        have hTr : Hid (trI I A n t e first = runI n I A k ++ outI n k first) := by
          rw [Hid, he, ← IL.out]; rfl
        rw [he] at c4
        clear he h hb
        go_wp2_with fail
        refine (rout_any C9.out n k first ⟨by omega, by omega⟩ ⟨by omega, by omega⟩ (by omega) (by omega)).mono ?_
        rintro r w10 ⟨v1', v2', F', G', rfl, cv, fr⟩
        have E4z := hidd (fr b4 _ _ E4.out (C9.out.nF E4.out).1 (C9.out.nF E4.out).2)
        obtain ⟨x1, y1, hv1, _⟩ := cv.sb.lies
        obtain ⟨x2, y2, hv2, _⟩ := cv.sr.lies
        obtain ⟨la', hla⟩ : ∃ u : Nat, Hid ((itB (runI n I A k ++ outI n k first : List It)).length = u) := ⟨(itB (runI n I A k ++ outI n k first : List It)).length, rfl⟩
        obtain ⟨lb', hlb⟩ : ∃ u : Nat, Hid ((runI n I A k ++ outI n k first : List It).length = u) := ⟨(runI n I A k ++ outI n k first : List It).length, rfl⟩
        rw [hla.out] at hv1
        rw [hlb.out] at hv2
        clear hla hlb
        subst hv1 hv2
        have CV := hidd cv
        clear fr cv
        go_wp2_with (refine wpList_store_row (by rfl) 33 _ _ (by rfl) b4 #[.slice x1 la' y1, .slice x2 lb' y2] (by rfl) (by rfl) 33 #[nilS, nilS] E4z.out (by exact size_code) (by rfl) (by simp [Value.oneCell']) ?_)
        refine bodyPost_ret (results1 rfl _ _ b4 33 #[.slice x1 la' y1, .slice x2 lb' y2] (0, 0) _ rfl (setRow_heap _ _ _ _ _ _ E4z.out) Tryd.underlying33 rfl size_code) rfl ⟨_, _, rfl, by rw [hTr.out]; exact (CV.out.row E4z.out l4.out _).at_, (kep_trans K1.out CV.out.kp).setRow _ _ (by have := l4.out; have := lw.out; omega)⟩
      · have he : e = 2 := le.out.trans h
        obtain ⟨hb, hop⟩ := end_2 h.symm
        have hmk' : m = k - 1 := by have := hdR.out; rw [hb, if_pos rfl] at this; exact this
        have hTr : Hid (trI I A n t e first = runI n I A k ++ outI t k first) := by
          rw [Hid, he, ← IL.out]; rfl
        obtain ⟨b1, b2⟩ := BLM.out k (by rw [DN.out (by omega)]; omega)
        rw [he] at c4
        rcases hop with h64 | h72
        · rw [hmk', ← RZ.out (by unfold lay4; rw [if_pos h64])] at C9
          rw [h64] at e0
          clear he h hb h64
          go_wp2_with fail
          refine (rout_any C9.out t k first ⟨by omega, by omega⟩ ⟨by omega, by omega⟩ (by omega) (by omega)).mono ?_
          rintro r w10 ⟨v1', v2', F', G', rfl, cv, fr⟩
          have E4z := hidd (fr b4 _ _ E4.out (C9.out.nF E4.out).1 (C9.out.nF E4.out).2)
          obtain ⟨x1, y1, hv1, _⟩ := cv.sb.lies
          obtain ⟨x2, y2, hv2, _⟩ := cv.sr.lies
          obtain ⟨la', hla⟩ : ∃ u : Nat, Hid ((itB (runI n I A k ++ outI t k first : List It)).length = u) := ⟨(itB (runI n I A k ++ outI t k first : List It)).length, rfl⟩
          obtain ⟨lb', hlb⟩ : ∃ u : Nat, Hid ((runI n I A k ++ outI t k first : List It).length = u) := ⟨(runI n I A k ++ outI t k first : List It).length, rfl⟩
          rw [hla.out] at hv1
          rw [hlb.out] at hv2
          clear hla hlb
          subst hv1 hv2
          have CV := hidd cv
          clear fr cv
          go_wp2_with (refine wpList_store_row (by rfl) 33 _ _ (by rfl) b4 #[.slice x1 la' y1, .slice x2 lb' y2] (by rfl) (by rfl) 33 #[nilS, nilS] E4z.out (by exact size_code) (by rfl) (by simp [Value.oneCell']) ?_)
          refine bodyPost_ret (results1 rfl _ _ b4 33 #[.slice x1 la' y1, .slice x2 lb' y2] (0, 0) _ rfl (setRow_heap _ _ _ _ _ _ E4z.out) Tryd.underlying33 rfl size_code) rfl ⟨_, _, rfl, by rw [hTr.out]; exact (CV.out.row E4z.out l4.out _).at_, (kep_trans K1.out CV.out.kp).setRow _ _ (by have := l4.out; have := lw.out; omega)⟩
        · rw [hmk'] at C9
          have hl : lay4 n (op, a, b, imm) = some (32, 6, 0, s32 n) := by unfold lay4; rw [if_neg (show ¬ op = 64 by omega), if_pos h72]
          have hrn := hidd (RN.out (32, 6, 0, s32 n) hl)
          have g := lay4_good H'.out.hn LO.out lb.out (.inr (show 64 ≤ op ∧ op ≤ 72 by omega)) hl
          obtain ⟨b3, b4'⟩ := BLM.out (k - 1) DN4.out
          have kq1 : (k : Int) - 1 = ((k - 1 : Nat) : Int) := by omega
          have WT : Hid (Calls Tryd.prog 26 #[.agg #[v1, v2], .agg (insA 32 6 0 (wrap32 n)), .int .u32 pA, .int .i64 ((k : Int) - 1)] W9 fun e W' => ∃ v1' v2' F' G', e = .returned (.agg #[v1', v2']) ∧ CdV Wb W' v1' v2' (runI n I A (k - 1) ++ [((32, 6, 0, s32 n), pA, ((k - 1 : Nat) : Int), -1)]) F' G' ∧ (∀ g0 X ty, W9.heap[g0]? = some (.cells X ty (0, 0)) → g0 ∉ F → g0 ∉ G → W'.heap[g0]? = some (.cells X ty (0, 0)))) := by
            rw [Hid, kq1, s32_wrap H'.out.hn.1 H'.out.hn.2]
            exact rwith_any C9.out (32, 6, 0, s32 n) g.1.1 g.2.1 pA _ (by omega) (by omega)
          clear kq1 g hl
          rw [h72] at e0
          clear he h hb h72
          go_wp2_with fail
          refine WT.out.mono ?_
          rintro r w10 ⟨v1', v2', F', G', rfl, cv, fr⟩
          clear WT e0 c4 c2 c3 d0 d1
          have E4y := hidd (fr b4 _ _ E4.out (C9.out.nF E4.out).1 (C9.out.nF E4.out).2)
          have E5y := hidd (fr b5 _ _ E5.out (C9.out.nF E5.out).1 (C9.out.nF E5.out).2)
          obtain ⟨x1, y1, hv1, _⟩ := cv.sb.lies
          obtain ⟨x2, y2, hv2, _⟩ := cv.sr.lies
          obtain ⟨la', hla⟩ : ∃ u : Nat, Hid ((itB (runI n I A (k - 1) ++ [((32, 6, 0, s32 n), pA, ((k - 1 : Nat) : Int), -1)] : List It)).length = u) := ⟨(itB (runI n I A (k - 1) ++ [((32, 6, 0, s32 n), pA, ((k - 1 : Nat) : Int), -1)] : List It)).length, rfl⟩
          obtain ⟨lb', hlb⟩ : ∃ u : Nat, Hid ((runI n I A (k - 1) ++ [((32, 6, 0, s32 n), pA, ((k - 1 : Nat) : Int), -1)] : List It).length = u) := ⟨(runI n I A (k - 1) ++ [((32, 6, 0, s32 n), pA, ((k - 1 : Nat) : Int), -1)] : List It).length, rfl⟩
          rw [hla.out] at hv1
          rw [hlb.out] at hv2
          clear hla hlb
          subst hv1 hv2
          have CVy := hidd cv
          clear fr cv
          go_upto_region 14 with (refine wpList_store_row (by rfl) 33 _ _ (by rfl) b5 #[.slice x1 la' y1, .slice x2 lb' y2] (by rfl) (by rfl) 33 #[v1, v2] E5y.out (by exact size_code) (by rfl) (by simp [Value.oneCell']) ?_)
          obtain ⟨W11, hW11⟩ : ∃ U, Hid (World.setRow w10 b5 #[.slice x1 la' y1, .slice x2 lb' y2] = U) := ⟨_, rfl⟩
          rw [hW11.out]
          have C11 : Hid (CdV Wb W11 (.slice x1 la' y1) (.slice x2 lb' y2) (runI n I A k) F' G') := by rw [Hid, ← hW11.out, hrn.out]; exact CVy.out.row E5y.out l5.out _
          have E5z : Hid (W11.heap[b5]? = some (.cells #[.slice x1 la' y1, .slice x2 lb' y2] 33 (0, 0))) := by rw [Hid, ← hW11.out]; exact setRow_heap _ _ _ _ _ _ E5y.out
          have E4w : Hid (W11.heap[b4]? = some (.cells #[nilS, nilS] 33 (0, 0))) := by rw [Hid, ← hW11.out]; exact (setRow_other _ _ _ _ n45.out).trans E4y.out
          clear hW11 CVy E5y E4y
          have c3 : W11.cell? ⟨bb, 3, none⟩ = some (.int .u32 t) := cell_of_block (C11.out.kp.block Bb.out)
          have d0 : W11.cell? ⟨b5, 0, none⟩ = some (.slice x1 la' y1) := cell_of_block E5z.out
          have d1 : W11.cell? ⟨b5, 1, none⟩ = some (.slice x2 lb' y2) := cell_of_block E5z.out
          go_wp2_with fail
          refine (rout_any C11.out t k first ⟨by omega, by omega⟩ ⟨by omega, by omega⟩ (by omega) (by omega)).mono ?_
          rintro r w12 ⟨v1', v2', F', G', rfl, cv, fr⟩
          have E4z := hidd (fr b4 _ _ E4w.out (C11.out.nF E4w.out).1 (C11.out.nF E4w.out).2)
          obtain ⟨x3, y3, hv1, _⟩ := cv.sb.lies
          obtain ⟨x4, y4, hv2, _⟩ := cv.sr.lies
          obtain ⟨lc', hla⟩ : ∃ u : Nat, Hid ((itB (runI n I A k ++ outI t k first : List It)).length = u) := ⟨(itB (runI n I A k ++ outI t k first : List It)).length, rfl⟩
          obtain ⟨ld', hlb⟩ : ∃ u : Nat, Hid ((runI n I A k ++ outI t k first : List It).length = u) := ⟨(runI n I A k ++ outI t k first : List It).length, rfl⟩
          rw [hla.out] at hv1
          rw [hlb.out] at hv2
          clear hla hlb
          subst hv1 hv2
          have CV := hidd cv
          clear fr cv
          go_wp2_with (refine wpList_store_row (by rfl) 33 _ _ (by rfl) b4 #[.slice x3 lc' y3, .slice x4 ld' y4] (by rfl) (by rfl) 33 #[nilS, nilS] E4z.out (by exact size_code) (by rfl) (by simp [Value.oneCell']) ?_)
          refine bodyPost_ret (results1 rfl _ _ b4 33 #[.slice x3 lc' y3, .slice x4 ld' y4] (0, 0) _ rfl (setRow_heap _ _ _ _ _ _ E4z.out) Tryd.underlying33 rfl size_code) rfl ⟨_, _, rfl, by rw [hTr.out]; exact (CV.out.row E4z.out l4.out _).at_, (kep_trans K1.out CV.out.kp).setRow _ _ (by have := l4.out; have := lw.out; omega)⟩
      · have he : e = 3 := le.out.trans h
        obtain ⟨hb, h65, h71⟩ := end_3 h.symm
        have hmk' : m = k - 1 := by have := hdR.out; rw [hb, if_pos rfl] at this; exact this
        rw [hmk'] at C9
        have hTr : Hid (trI I A n t e first = (runI n I A k ++ outI n k first) ++ outI t k (first + 1)) := by
          rw [Hid, he, ← IL.out]; rfl
        obtain ⟨b1, b2⟩ := BLM.out k (by rw [DN.out (by omega)]; omega)
        rw [he] at c4
        obtain ⟨rfl, rfl⟩ := brn_zero lb.out LO.out ⟨h65, h71⟩
        have hl : lay4 n (op, 0, 0, imm) = some (op, 0, 0, 5) := by unfold lay4; rw [if_neg (show ¬ op = 64 by omega), if_neg (show ¬ op = 72 by omega), if_pos (show 65 ≤ op ∧ op ≤ 71 by omega)]
        have hrn := hidd (RN.out (op, 0, 0, 5) hl)
        have g := lay4_good H'.out.hn LO.out lb.out (.inr (show 64 ≤ op ∧ op ≤ 72 by omega)) hl
        obtain ⟨b3, b4'⟩ := BLM.out (k - 1) DN4.out
        have kq1 : (k : Int) - 1 = ((k - 1 : Nat) : Int) := by omega
        have WT : Hid (Calls Tryd.prog 26 #[.agg #[v1, v2], .agg (insA op 0 0 5), .int .u32 pA, .int .i64 ((k : Int) - 1)] W9 fun e W' => ∃ v1' v2' F' G', e = .returned (.agg #[v1', v2']) ∧ CdV Wb W' v1' v2' (runI n I A (k - 1) ++ [((op, 0, 0, 5), pA, ((k - 1 : Nat) : Int), -1)]) F' G' ∧ (∀ g0 X ty, W9.heap[g0]? = some (.cells X ty (0, 0)) → g0 ∉ F → g0 ∉ G → W'.heap[g0]? = some (.cells X ty (0, 0)))) := by
          rw [Hid, kq1]
          exact rwith_any C9.out (op, 0, 0, 5) g.1.1 g.2.1 pA _ (by omega) (by omega)
        clear kq1 g hl
        have n72 : (op == 72) = false := by rw [beq_eq_false_iff_ne]; omega
        clear he h hb h65 h71
        go_wp2_with fail
        refine WT.out.mono ?_
        rintro r w10 ⟨v1', v2', F', G', rfl, cv, fr⟩
        clear WT e0 c4 c2 c3 d0 d1
        have E4y := hidd (fr b4 _ _ E4.out (C9.out.nF E4.out).1 (C9.out.nF E4.out).2)
        have E5y := hidd (fr b5 _ _ E5.out (C9.out.nF E5.out).1 (C9.out.nF E5.out).2)
        obtain ⟨x1, y1, hv1, _⟩ := cv.sb.lies
        obtain ⟨x2, y2, hv2, _⟩ := cv.sr.lies
        obtain ⟨la', hla⟩ : ∃ u : Nat, Hid ((itB (runI n I A (k - 1) ++ [((op, 0, 0, 5), pA, ((k - 1 : Nat) : Int), -1)] : List It)).length = u) := ⟨(itB (runI n I A (k - 1) ++ [((op, 0, 0, 5), pA, ((k - 1 : Nat) : Int), -1)] : List It)).length, rfl⟩
        obtain ⟨lb', hlb⟩ : ∃ u : Nat, Hid ((runI n I A (k - 1) ++ [((op, 0, 0, 5), pA, ((k - 1 : Nat) : Int), -1)] : List It).length = u) := ⟨(runI n I A (k - 1) ++ [((op, 0, 0, 5), pA, ((k - 1 : Nat) : Int), -1)] : List It).length, rfl⟩
        rw [hla.out] at hv1
        rw [hlb.out] at hv2
        clear hla hlb
        subst hv1 hv2
        have CVy := hidd cv
        clear fr cv
        go_upto_region 17 with (refine wpList_store_row (by rfl) 33 _ _ (by rfl) b5 #[.slice x1 la' y1, .slice x2 lb' y2] (by rfl) (by rfl) 33 #[v1, v2] E5y.out (by exact size_code) (by rfl) (by simp [Value.oneCell']) ?_)
        obtain ⟨W11, hW11⟩ : ∃ U, Hid (World.setRow w10 b5 #[.slice x1 la' y1, .slice x2 lb' y2] = U) := ⟨_, rfl⟩
        rw [hW11.out]
        have C11 : Hid (CdV Wb W11 (.slice x1 la' y1) (.slice x2 lb' y2) (runI n I A k) F' G') := by rw [Hid, ← hW11.out, hrn.out]; exact CVy.out.row E5y.out l5.out _
        have E5z : Hid (W11.heap[b5]? = some (.cells #[.slice x1 la' y1, .slice x2 lb' y2] 33 (0, 0))) := by rw [Hid, ← hW11.out]; exact setRow_heap _ _ _ _ _ _ E5y.out
        have E4w : Hid (W11.heap[b4]? = some (.cells #[nilS, nilS] 33 (0, 0))) := by rw [Hid, ← hW11.out]; exact (setRow_other _ _ _ _ n45.out).trans E4y.out
        clear hW11 CVy E5y E4y
        have wf : Hid (IntKind.i64.wrap (first + 1) = first + 1) := by rw [Hid]; unfold IntKind.wrap; simp [IntKind.signed, IntKind.bits]; omega
        have B1 : Hid ((itB (runI n I A k)).length ≤ 200 ∧ (runI n I A k).length ≤ 32) := ⟨b1, b2⟩
        have OB : Hid ((itB (runI n I A k ++ outI n k first)).length = (itB (runI n I A k)).length + 5) := by rw [Hid, outI_B _ _ ⟨by omega, by omega⟩ ⟨by omega, by omega⟩, List.length_append]; rfl
        have OL : Hid ((runI n I A k ++ outI n k first).length = (runI n I A k).length + 2) := by rw [Hid, List.length_append]; rfl
        have k32 : Hid ((k : Int) ≤ 32) := g1
        clear b1 b2 b3 b4'
        refine wp_region_held_drew (S := fun w' => Kep Wb w') (by kernel_rfl) ((C11.out.kep (Kep.refl _).drew).kp) (fun hH => ?_)
        refine wpAnyH_take (i := 1) (v := .int .i64 k) rfl (by kernel_rfl) (by kernel_rfl) (by kernel_rfl) (fun _ _ _ h => h) (.inl ⟨by rfl, by intro w hS; go_simp⟩) hH ?_
        (try simp only [jA, jB, jC, Act.put, jD, jE, jF])
        refine wpAnyH_take (i := 2) (v := .pointer (some ⟨bb, 2, none⟩)) rfl (by kernel_rfl) (by kernel_rfl) (by kernel_rfl) (fun _ _ _ h => h) (.inl ⟨by rfl, by intro w hS; go_simp⟩) hH ?_
        (try simp only [jA, jB, jC, Act.put, jD, jE, jF])
        refine wpAnyH_take (i := 3) (v := .int .u32 n) rfl (by kernel_rfl) (by kernel_rfl) (by kernel_rfl) (fun _ _ _ h => h) (.inl ⟨by rfl, by intro w hS; have c : w.cell? ⟨bb, 2, none⟩ = some (.int .u32 n) := cell_of_block (hS.block Bb.out); clear hS; go_simp⟩) hH ?_
        (try simp only [jA, jB, jC, Act.put, jD, jE, jF])
        refine wpAnyH_take (i := 4) (v := .int .i64 first) rfl (by kernel_rfl) (by kernel_rfl) (by kernel_rfl) (fun _ _ _ h => h) (.inl ⟨by rfl, by intro w hS; go_simp⟩) hH ?_
        (try simp only [jA, jB, jC, Act.put, jD, jE, jF])
        refine wpAnyH_take (i := 6) (v := .int .i64 k) rfl (by kernel_rfl) (by kernel_rfl) (by kernel_rfl) (fun _ _ _ h => h) (.inl ⟨by rfl, by intro w hS; go_simp⟩) hH ?_
        (try simp only [jA, jB, jC, Act.put, jD, jE, jF])
        refine wpAnyH_take (i := 7) (v := .pointer (some ⟨bb, 3, none⟩)) rfl (by kernel_rfl) (by kernel_rfl) (by kernel_rfl) (fun _ _ _ h => h) (.inl ⟨by rfl, by intro w hS; go_simp⟩) hH ?_
        (try simp only [jA, jB, jC, Act.put, jD, jE, jF])
        refine wpAnyH_take (i := 8) (v := .int .u32 t) rfl (by kernel_rfl) (by kernel_rfl) (by kernel_rfl) (fun _ _ _ h => h) (.inl ⟨by rfl, by intro w hS; have c : w.cell? ⟨bb, 3, none⟩ = some (.int .u32 t) := cell_of_block (hS.block Bb.out); clear hS; go_simp⟩) hH ?_
        (try simp only [jA, jB, jC, Act.put, jD, jE, jF])
        refine wpAnyH_take (i := 9) (v := .int .i64 first) rfl (by kernel_rfl) (by kernel_rfl) (by kernel_rfl) (fun _ _ _ h => h) (.inl ⟨by rfl, by intro w hS; go_simp⟩) hH ?_
        (try simp only [jA, jB, jC, Act.put, jD, jE, jF])
        refine wpAnyH_take (i := 10) (v := .int .i64 (first + 1)) rfl (by kernel_rfl) (by kernel_rfl) (by kernel_rfl) (fun _ _ _ h => h) (.inl ⟨by rfl, by intro w hS; have hb := wf.out; clear hS; go_simp⟩) hH ?_
        (try simp only [jA, jB, jC, Act.put, jD, jE, jF])
        refine wpAnyH_ready (rs := [0]) (by kernel_rfl) (by simp) ?_
        refine AllReadyH.cons rfl (fun K hK => ?_) AllReadyH.nil
        rw [if_pos (by rfl)]
        refine wp_load_row 33 _ (by rfl) b5 (by rfl) 33 #[.slice x1 la' y1, .slice x2 lb' y2] (0, 0) _ (((Kep.refl W11).drew).block E5z.out) Tryd.underlying33 rfl size_code ?_
        refine hK.out _ _ hH (fun hH => ?_)
        clear hK K
        (try simp only [jA, jB, jC, Act.put, jD, jE, jF])
        refine wpAnyH_ready (rs := [5]) (by kernel_rfl) (by simp) ?_
        refine AllReadyH.cons rfl (fun K hK => ?_) AllReadyH.nil
        rw [if_pos (by rfl)]
        go_simp
        refine (rout_any (C11.out.kep (Kep.refl _).drew) n k first ⟨by omega, by have := k32.out; omega⟩ ⟨by omega, by omega⟩ (by have := B1.out; omega) (by have := B1.out; omega)).mono ?_
        rintro x w12 ⟨v3, v4, F2, G2, rfl, cv, fr⟩
        have C12 := hidd cv
        have nn := (C11.out.kep (Kep.refl _).drew).nF (((Kep.refl W11).drew).block E4w.out)
        have E4q := hidd (fr b4 _ _ (((Kep.refl W11).drew).block E4w.out) nn.1 nn.2)
        clear fr nn
        refine hK.out _ _ cv.kp (fun hH => ?_)
        clear cv
        clear hK K
        (try simp only [jA, jB, jC, Act.put, jD, jE, jF])
        refine wpAnyH_ready (rs := [11]) (by kernel_rfl) (by simp) ?_
        refine AllReadyH.cons rfl (fun K hK => ?_) AllReadyH.nil
        rw [if_pos (by rfl)]
        go_simp
        refine (rout_any C12.out t k (first + 1) ⟨by omega, by have := k32.out; omega⟩ ⟨by omega, by omega⟩ (by rw [OB.out]; have := B1.out; omega) (by rw [OL.out]; have := B1.out; omega)).mono ?_
        rintro x w13 ⟨v5, v6, F3, G3, rfl, cv, fr⟩
        have E4z := hidd (fr b4 _ _ E4q.out (C12.out.nF E4q.out).1 (C12.out.nF E4q.out).2)
        obtain ⟨x5, y5, hv1, _⟩ := cv.sb.lies
        obtain ⟨x6, y6, hv2, _⟩ := cv.sr.lies
        obtain ⟨le', hla⟩ : ∃ u : Nat, Hid ((itB ((runI n I A k ++ outI n k first) ++ outI t k (first + 1) : List It)).length = u) := ⟨(itB ((runI n I A k ++ outI n k first) ++ outI t k (first + 1) : List It)).length, rfl⟩
        obtain ⟨lf', hlb⟩ : ∃ u : Nat, Hid (((runI n I A k ++ outI n k first) ++ outI t k (first + 1) : List It).length = u) := ⟨((runI n I A k ++ outI n k first) ++ outI t k (first + 1) : List It).length, rfl⟩
        rw [hla.out] at hv1
        rw [hlb.out] at hv2
        clear hla hlb
        subst hv1 hv2
        have CV := hidd cv
        clear fr
        refine hK.out _ _ cv.kp (fun hH => ?_)
        clear cv
        clear hK K
        (try simp only [jA, jB, jC, Act.put, jD, jE, jF])
        refine wpAnyH_ready (rs := [12]) (by kernel_rfl) (by simp) ?_
        refine AllReadyH.cons rfl (fun K hK => ?_) AllReadyH.nil
        rw [if_pos (by rfl)]
        refine wp_store_row 33 _ _ rfl b4 #[.slice x5 le' y5, .slice x6 lf' y6] rfl rfl 33 #[nilS, nilS] E4z.out size_code rfl (by simp [Value.oneCell']) ?_
        refine hK.out _ _ (hH.setRow b4 _ l4.out) (fun hH => ?_)
        clear hK K
        (try simp only [jA, jB, jC, Act.put, jD, jE, jF])
        refine wpAnyH_done (by kernel_rfl) ?_ _
        go_wp2_with fail
        refine bodyPost_ret (results1 rfl _ _ b4 33 #[.slice x5 le' y5, .slice x6 lf' y6] (0, 0) _ rfl (setRow_heap _ _ _ _ _ _ E4z.out) Tryd.underlying33 rfl size_code) rfl ⟨_, _, rfl, by rw [hTr.out]; exact (CV.out.row E4z.out l4.out _).at_, (kep_trans K1.out CV.out.kp).setRow _ _ (by have := l4.out; have := lw.out; omega)⟩
      · have he : e = 4 := le.out.trans h
        have hb : bnd op = true := end_4 h.symm
        have hmk' : m = k - 1 := by have := hdR.out; rw [hb, if_pos rfl] at this; exact this
        rw [hmk'] at C9
        obtain ⟨b1, b2⟩ := BLM.out (k - 1) DN4.out
        have hTr : Hid (trI I A n t e first = runI n I A (k - 1) ++ outI pA ((k : Int) - 1) first) := by
          rw [Hid, he, ← hpA.out, ← IL.out]; rfl
        rw [he] at c4
        clear he h hb
        go_wp2_with fail
        refine (rout_any C9.out pA ((k : Int) - 1) first ⟨by omega, by omega⟩ ⟨by omega, by omega⟩ (by omega) (by omega)).mono ?_
        rintro r w10 ⟨v1', v2', F', G', rfl, cv, fr⟩
        have E4z := hidd (fr b4 _ _ E4.out (C9.out.nF E4.out).1 (C9.out.nF E4.out).2)
        obtain ⟨x1, y1, hv1, _⟩ := cv.sb.lies
        obtain ⟨x2, y2, hv2, _⟩ := cv.sr.lies
        obtain ⟨la', hla⟩ : ∃ u : Nat, Hid ((itB (runI n I A (k - 1) ++ outI pA ((k : Int) - 1) first : List It)).length = u) := ⟨(itB (runI n I A (k - 1) ++ outI pA ((k : Int) - 1) first : List It)).length, rfl⟩
        obtain ⟨lb', hlb⟩ : ∃ u : Nat, Hid ((runI n I A (k - 1) ++ outI pA ((k : Int) - 1) first : List It).length = u) := ⟨(runI n I A (k - 1) ++ outI pA ((k : Int) - 1) first : List It).length, rfl⟩
        rw [hla.out] at hv1
        rw [hlb.out] at hv2
        clear hla hlb
        subst hv1 hv2
        have CV := hidd cv
        clear fr cv
        go_wp2_with (refine wpList_store_row (by rfl) 33 _ _ (by rfl) b4 #[.slice x1 la' y1, .slice x2 lb' y2] (by rfl) (by rfl) 33 #[nilS, nilS] E4z.out (by exact size_code) (by rfl) (by simp [Value.oneCell']) ?_)
        refine bodyPost_ret (results1 rfl _ _ b4 33 #[.slice x1 la' y1, .slice x2 lb' y2] (0, 0) _ rfl (setRow_heap _ _ _ _ _ _ E4z.out) Tryd.underlying33 rfl size_code) rfl ⟨_, _, rfl, by rw [hTr.out]; exact (CV.out.row E4z.out l4.out _).at_, (kep_trans K1.out CV.out.kp).setRow _ _ (by have := l4.out; have := lw.out; omega)⟩
end Go.Proofs.YtpalbpjmjbcelaaDoor
