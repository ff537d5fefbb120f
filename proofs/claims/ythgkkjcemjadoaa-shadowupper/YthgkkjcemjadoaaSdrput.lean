/- The document's Put. -/
import Derived.Test.YthgkkjcemjadoaaSdrdrop
import Derived.BigQuiet
namespace Go.Proofs.Ythgkkjcemjadoaa
open Go.RowKit
set_option linter.unusedVariables false
set_option linter.unusedSimpArgs false

theorem rs_put_no1 (w : World) (r most : Nat) (T : List Nat) (P : List (Nat × Nat)) (F G : List Nat) (h : RS w r most T P F G) (va : Nat) (fr : Int) (x : Value) (hno : 32768 ≤ va ∨ fr < 0 ∨ 40 ≤ fr) :
    Calls Try.prog 26 #[.pointer (some ⟨r, 0, none⟩), .int .u32 va, .int .i64 fr, x] w fun e w' => e = .returned (.bool false) ∧ w' = w := by
  obtain ⟨pv, tv, hb, _, _⟩ := h.box
  have c0 : w.cell? ⟨r, 0, none⟩ = some (.int .i64 40) := by rw [cell_of_block hb]; rfl
  clear h hb
  rcases (by omega : 32768 ≤ va ∨ (va < 32768 ∧ fr < 0) ∨ (va < 32768 ∧ 0 ≤ fr ∧ 40 ≤ fr)) with h | ⟨h1, h⟩ | ⟨h1, h2, h⟩
  · have g1 : (32768 : Int) ≤ va := by omega
    go_enter Try.func26, Try.ntmps26
    go_wp2
    go_ret
    exact ⟨rfl, rfl⟩
  · have g1 : ¬ (32768 : Int) ≤ va := by omega
    go_enter Try.func26, Try.ntmps26
    go_wp2
    go_ret
    exact ⟨rfl, rfl⟩
  · have g1 : ¬ (32768 : Int) ≤ va := by omega
    have g2 : ¬ fr < 0 := by omega
    go_enter Try.func26, Try.ntmps26
    go_wp2
    go_ret
    exact ⟨rfl, rfl⟩

/-- A fact that no tactic sees. -/
structure Bd (p : Prop) : Prop where
  out : p
theorem PL.kep {w wr w' : World} {v : Value} {Q : List (Nat × Nat)} (h : PL w v Q wr) (k : Kep wr w') : PL w v Q w' := by
  obtain ⟨F, h1, h2, h3⟩ := h
  exact ⟨F, h1.kep k, h2, kep_trans h3 k⟩
theorem PL.len {w wr : World} {x : Option Addr} {n c : Nat} {Q : List (Nat × Nat)} (h : PL w (.slice x n c) Q wr) : n = Q.length := by
  obtain ⟨F, h1, _, _⟩ := h
  obtain ⟨_, _, hv, _⟩ := h1.lies
  cases hv; rfl
theorem page_cells {w : World} {b off : Nat} {P : List (Nat × Nat)} (h : Lies w (some ⟨b, off, none⟩) (pgV P)) {k : Nat} (hk : k < P.length) : w.cell? ⟨b, off + k * 3, none⟩ = some (.int .u32 (64 * P[k].1 : Nat)) ∧ w.cell? ⟨b, off + k * 3 + 1, none⟩ = some (.int .i64 (P[k].2 / 64 : Nat)) ∧ w.cell? ⟨b, off + k * 3 + 2, none⟩ = some (.int .u32 (P[k].2 % 64 : Nat)) := by
  obtain ⟨b2, off2, e, h1, h2, h3⟩ := page_at h hk
  cases e
  exact ⟨h1, h2, h3⟩
theorem insK_step (p : Nat × Nat) {P : List (Nat × Nat)} {k : Nat} (hk : k < P.length) : insK p false (P.take (k + 1)) =
    if (insK p false (P.take k)).2 = true then ((insK p false (P.take k)).1 ++ [P[k]], true) else if p.1 < P[k].1 then (((insK p false (P.take k)).1 ++ [p]) ++ [P[k]], true) else ((insK p false (P.take k)).1 ++ [P[k]], false) := by
  rw [List.take_add_one, List.getElem?_eq_getElem hk]
  show insK p false (P.take k ++ [P[k]]) = _
  rw [insK_more]
  simp
/-- What the document's Put leaves. -/
def RPut (w w' : World) (r most : Nat) (T' : List Nat) (P' : List (Nat × Nat)) (G : List Nat) : Prop :=
  ∃ F' G', RS w' r most T' P' F' G' ∧ Put (r :: G) w w' ∧ (∀ g ∈ F', w.heap.size ≤ g) ∧ ∀ g ∈ G', g ∈ G ∨ w.heap.size ≤ g
set_option maxHeartbeats 8000000 in
set_option maxRecDepth 20000 in
theorem rs_put_has (w : World) (r most : Nat) (T : List Nat) (P : List (Nat × Nat)) (F G : List Nat) (h : RS w r most T P F G) (va fr x : Nat) (hva : va < 32768) (hfr : fr < 40) (hx : x < 4294967296) (hT : T.length ≤ 600) (hP : P.length ≤ 600) (hm : most ≤ 600) (hin : va / 1024 ∈ T) :
    Calls Try.prog 26 #[.pointer (some ⟨r, 0, none⟩), .int .u32 va, .int .i64 fr, .int .u32 x] w fun e w' => e = .returned (.bool true) ∧ RPut w w' r most T (insL (va / 64, entN fr x) (without (va / 64) P)) G := by
  obtain ⟨pv, tv, hb, hp, ht⟩ := h.box
  obtain ⟨xt, ct, rfl, hlt0, hct, hmt, _⟩ := ht.lies
  have c0 : w.cell? ⟨r, 0, none⟩ = some (.int .i64 40) := by rw [cell_of_block hb]; rfl
  have g1 : ¬ (32768 : Int) ≤ va := by omega
  have g2 : ¬ (40 : Int) ≤ fr := by omega
  have g3 : ¬ (fr : Int) < 0 := by omega
  have HH : Hid (Calls Try.prog 55 #[.pointer (some ⟨r, 0, none⟩), .int .u32 (va / 1024 : Nat)] w fun e w' => e = .returned (.bool (decide (va / 1024 ∈ T))) ∧ Kep w w') := rs_has w r most T P F G h (va / 1024) (by omega)
  rw [show ((va / 1024 : Nat) : Int) = (va : Int) / 1024 by omega] at HH
  have h' : Hid (RS w r most T P F G) := h
  have hPh : Bd (P.length ≤ 600) := ⟨hP⟩
  obtain ⟨vb, hvb⟩ : ∃ vb : Nat, Bd ((va : Int) - (va : Int) % 64 = (vb : Int)) := ⟨va - va % 64, ⟨by omega⟩⟩
  have hvi : Bd (vb = 64 * (va / 64)) := ⟨by have := hvb.out; omega⟩
  have hvbb : Bd (vb < 4294967296) := ⟨by have := hvb.out; omega⟩
  obtain ⟨be, hbe⟩ : ∃ be : Nat, Bd ((x : Int) % 16 / 2 * 2 + 1 = (be : Int) ∧ be < 16) := ⟨x % 16 / 2 * 2 + 1, ⟨by omega, by omega⟩⟩
  have hpv : Hid (pgv (va / 64, entN fr x) = [.int .u32 (vb : Nat), .int .i64 (fr : Nat), .int .u32 (be : Nat)]) := by
    have e1 : 64 * (va / 64) = vb := hvi.out.symm
    have hb1 := hbe.out
    have e2 : entN fr x / 64 = fr := by unfold entN; omega
    have e3 : entN fr x % 64 = be := by unfold entN; omega
    rw [Hid]
    unfold pgv
    simp only [e1, e2, e3]
  have hTh : Bd (T.length ≤ 600 ∧ T.length ≤ ct ∧ ct ≤ maxLen ∧ most ≤ 600) := ⟨⟨hT, hct, hmt, hm⟩⟩
  have hvah : Bd (va < 4294967296) := ⟨by omega⟩
  skip
  clear h hp hlt0 hP hx hva hfr hT hct hmt hm
  rw [decide_eq_true hin] at HH
  go_enter Try.func26, Try.ntmps26
  go_wp2_with fail
  refine HH.out.mono ?_
  rintro e w1 ⟨rfl, K1⟩
  have R1 : Hid (RS w1 r most T P F G) := h'.out.kep K1
  have Q1 : Hid (Put (r :: G) w w1) := Put.of_kep K1
  have HG1 : Hid (∀ g ∈ G, g ∈ G ∨ w.heap.size ≤ g) := fun g hg => .inl hg
  clear K1 HH h' c0 ht hin hb g1 g2 g3
  go_wp2_with fail
  have HD : Hid (Calls Try.prog 27 #[.pointer (some ⟨r, 0, none⟩), .int .u32 va] w1 fun e w' => ∃ F', e = .returned (.tuple #[]) ∧ RS w' r most T (without (va / 64) P) F' G ∧ Put [r] w1 w' ∧ ∀ g ∈ F', w1.heap.size ≤ g) := rs_drop w1 r most T P F G R1.out va (by have := hvah.out; omega) hPh.out
  refine HD.out.mono ?_
  rintro e w2 ⟨F2, rfl, R2, Q2, HF2⟩
  have Q2' : Hid (Put (r :: G) w w2) := Q1.out.trans (Q2.mono (by simp))
  have R2' : Hid (RS w2 r most T (without (va / 64) P) F2 G) := R2
  have hl2 : Bd ((without (va / 64) P).length ≤ 600) := ⟨Nat.le_trans (without_len _ _) hPh.out⟩
  clear HD R2 Q2 HF2 R1 Q1
  generalize hPP : without (va / 64) P = PP at R2' hl2
  have hPP' : Hid (without (va / 64) P = PP) := hPP
  clear hPP
  obtain ⟨pv2, tv2, hb2, hp2, ht2⟩ := R2'.out.box
  obtain ⟨xp, cp, rfl, hlp, hcp, _, _⟩ := hp2.lies
  have hlp' : Hid (Lies w2 xp (pgV PP)) := hlp
  obtain ⟨NN, hNN⟩ : ∃ NN, Bd (PP.length = NN) := ⟨_, ⟨rfl⟩⟩
  have hcp' : (NN : Int) ≤ cp := by have := hNN.out; omega
  have hNb : Bd ((NN : Int) ≤ 600) := ⟨by have := hNN.out; have := hl2.out; omega⟩
  have BX : Hid (∀ wr, Kep w2 wr → wr.heap[r]? = some (.cells #[.int .i64 40, .slice xp NN cp, tv2, .int .i64 most] 32 (0, 0))) := fun wr k => by have := k.block hb2; rw [hNN.out] at this; exact this
  have ht2' : Hid (Sli w2 34 1 tv2 (List.length (T)) (u32s (T)) G ∧ r ∉ G) := ⟨ht2, R2'.out.nr.2.1⟩
  clear hb2 hp2 ht2 hlp hcp
  go_wp2_with fail
  have hvm : (vb : Int) % 4294967296 = vb := by have := hvbb.out; omega
  simp only [hvb.out, hbe.out.1, hvm]
  clear hvm
  have B9 : (w2.alloc (.cells #[.int .u32 vb, .int .i64 fr, .int .u32 be] 41)).heap[w2.heap.size]? = some (.cells #[.int .u32 vb, .int .i64 fr, .int .u32 be] 41 (0, 0)) := hat _ _ _ rfl
  have K29 : Hid (Kep w2 (w2.alloc (.cells #[.int .u32 vb, .int .i64 fr, .int .u32 be] 41))) := (Kep.refl _).alloc _
  generalize w2.alloc (.cells #[.int .u32 vb, .int .i64 fr, .int .u32 be] 41) = W9 at B9 K29 ⊢
  generalize w2.heap.size = g9 at B9 ⊢
  have H9 : Hid (∀ W, Kep W9 W → W.cell? ⟨g9, 0, none⟩ = some (.int .u32 vb) ∧ W.cell? ⟨g9, 1, none⟩ = some (.int .i64 fr) ∧ W.cell? ⟨g9, 2, none⟩ = some (.int .u32 be)) := fun W k => by
    have := k.block B9
    refine ⟨?_, ?_, ?_⟩ <;> (rw [cell_of_block this]; rfl)
  have D1 : Hid (∀ W, Kep W9 W → W.cell? ⟨r, 1, none⟩ = some (.slice xp NN cp)) := fun W k => by rw [cell_of_block (BX.out W (kep_trans K29.out k))]; rfl
  obtain ⟨pp, hpp⟩ : ∃ pp, Hid (pp = (va / 64, entN fr x)) := ⟨_, rfl⟩
  rw [← hpp.out] at hpv
  have hp1 : Bd (vb = 64 * pp.1) := ⟨by rw [hpp.out]; exact hvi.out⟩
  clear B9 hvb hbe hvi
  go_loopw [10, 11, 12] (fun v lb i wr => ∃ (k nv cv : Nat) (xv : Option Addr) (b : Bool), (k : Int) ≤ NN ∧ v = .slice xv nv cv ∧ lb = .bool b ∧ i = .int .i64 k ∧ Hid (b = (insK pp false (PP.take k)).2) ∧ Hid (PL W9 (.slice xv nv cv) (insK pp false (PP.take k)).1 wr)) (fun _ _ i _ => NN - (intOf i).toNat)
  case atStart => exact ⟨0, 0, 0, none, false, by omega, rfl, rfl, rfl, rfl, [], by simpa [insK, pgV] using Sli.nil _ _ _, by simp, Kep.refl _⟩
  case round =>
    obtain ⟨k, nv, cv, xv, b, hk, rfl, rfl, rfl, hb, hI⟩ := hrel
    have K : Hid (Kep W9 wr) := by obtain ⟨_, _, _, K⟩ := hI.out; exact K
    have wrk : IntKind.i64.wrap ((k : Int) + 1) = k + 1 := by have := hNb.out; rw [IntKind.wrap_i64]; omega
    by_cases hlt : (k : Int) < NN
    · have hkP : k < PP.length := by rw [hNN.out]; omega
      obtain ⟨bb, off, hxp, -⟩ := page_at (hlp'.out.kep (kep_trans K29.out K.out)) hkP
      subst hxp
      obtain ⟨ya, hya⟩ : ∃ ya, Bd (64 * PP[k].1 = ya) := ⟨_, ⟨rfl⟩⟩
      obtain ⟨yf, hyf⟩ : ∃ yf, Bd (PP[k].2 / 64 = yf) := ⟨_, ⟨rfl⟩⟩
      obtain ⟨yb, hyb⟩ : ∃ yb, Bd (PP[k].2 % 64 = yb) := ⟨_, ⟨rfl⟩⟩
      have HE : Hid (∀ W, Kep W9 W → W.cell? ⟨bb, off + k * 3, none⟩ = some (.int .u32 ya) ∧ W.cell? ⟨bb, off + k * 3 + 1, none⟩ = some (.int .i64 yf) ∧ W.cell? ⟨bb, off + k * 3 + 2, none⟩ = some (.int .u32 yb)) := fun W kw => by
        rw [← hya.out, ← hyf.out, ← hyb.out]
        exact page_cells (hlp'.out.kep (kep_trans K29.out kw)) hkP
      have hyv : Hid (pgv PP[k] = [.int .u32 (ya : Nat), .int .i64 (yf : Nat), .int .u32 (yb : Nat)]) := by rw [Hid, ← hya.out, ← hyf.out, ← hyb.out]; rfl
      have hst : Hid (insK pp false (PP.take (k + 1)) = if (insK pp false (PP.take k)).2 = true then ((insK pp false (PP.take k)).1 ++ [PP[k]], true) else if pp.1 < PP[k].1 then (((insK pp false (PP.take k)).1 ++ [pp]) ++ [PP[k]], true) else ((insK pp false (PP.take k)).1 ++ [PP[k]], false)) := insK_step pp hkP
      have hlen : (insK pp false (PP.take k)).1.length ≤ 602 := by
        have := insK_len pp (PP.take k)
        rw [List.length_take] at this
        have := hNN.out
        have := hNb.out
        omega
      have hcmp : Bd (pp.1 < PP[k].1 ↔ vb < ya) := ⟨by rw [← hya.out, hp1.out]; omega⟩
      generalize PP[k] = y at hst hyv hcmp
      clear hkP hya hyf hyb
      rw [← hb.out] at hst
      generalize (insK pp false (PP.take k)).1 = Q at hI hst hlen
      clear hb
      have hnv := hI.out.len
      subst hnv
      cases b
      · by_cases hc : vb < ya
        · have hst2 : Hid (insK pp false (PP.take (k + 1)) = ((Q ++ [pp]) ++ [y], true)) := by rw [Hid, hst.out, if_neg (by decide), if_pos (hcmp.out.2 hc)]
          have hcc : (vb : Int) < ya := by omega
          clear hst hcmp hc
          have d1 := D1.out wr K.out
          obtain ⟨e0, e1, e2⟩ := HE.out wr K.out
          obtain ⟨q0, q1, q2⟩ := H9.out wr K.out

          go_wp2_with fail
          go_quiet (fail)
          have KQ : Kep wr (wr.drewN nq) := (Kep.refl _).drewN _
          have hI2 : Hid (PL W9 (.slice xv Q.length cv) Q (wr.drewN nq)) := hI.out.kep KQ
          have K2 : Hid (Kep W9 (wr.drewN nq)) := kep_trans K.out KQ
          clear d1 e0 e1 e2 q0 q1 q2 KQ hI K hcc
          generalize wr.drewN nq = wq at hI2 K2 ⊢
          have d1 := D1.out wq K2.out
          obtain ⟨e0, e1, e2⟩ := HE.out wq K2.out
          obtain ⟨q0, q1, q2⟩ := H9.out wq K2.out
          obtain ⟨FQa, hsla, hFQa, KQa⟩ := hI2.out.kep ((Kep.refl wq).alloc (.cells #[.int .u32 vb, .int .i64 fr, .int .u32 be] 41))
          have HFa : Hid _ := hFQa
          have HKa : Hid _ := KQa
          clear hFQa KQa

          go_wp2_with (first
            | ((at_builtin; obtain ⟨i0, hi, hy0, hy1, hy2⟩ := info_parts info_page; refine wpList_append_sli rfl (.tmp 91) (.tmp 93) 30 rfl 41 i0 _ 3 24 Try.underlying30 hi hy0 hy1 hy2 rfl (by decide) _ Q.length (pgV Q) FQa rfl hsla ⟨wq.heap.size, 0, none⟩ 1 [.int .u32 vb, .int .i64 fr, .int .u32 be] rfl rfl cell_page (by simp [Value.oneCell']) (by unfold maxLen; omega) (by omega) ?_; intro vA wA GA SA PA HA; obtain ⟨xA, cA, hvA, _⟩ := SA.out.lies; subst hvA; clear hi hy0 hy1 hy2)
               have PLA : Hid (PL W9 (.slice xA (Q.length + 1) cA) (Q ++ [pp]) wA) := PL.more HFa.out HKa.out (by rw [hpv.out]; exact SA.out) PA.out (fun g hg => HA.out g hg)
               have KA : Hid (Kep W9 wA) := by obtain ⟨_, _, _, K⟩ := PLA.out; exact K
               clear d1 e0 e1 e2 q0 q1 q2 SA PA HA HFa HKa hsla hI2 K2
               have d1 := D1.out wA KA.out
               obtain ⟨e0, e1, e2⟩ := HE.out wA KA.out
               obtain ⟨FQb, hslb0, hFQb, KQb⟩ := PLA.out.kep ((Kep.refl wA).alloc (.cells #[.int .u32 ya, .int .i64 yf, .int .u32 yb] 41))
               have HFb : Hid _ := hFQb
               have HKb : Hid _ := KQb
               have hslb : Sli (wA.alloc (.cells #[.int .u32 ya, .int .i64 yf, .int .u32 yb] 41)) 41 3 (.slice xA (Q.length + 1) cA) (Q.length + 1) (pgV (Q ++ [pp])) FQb := by rw [List.length_append] at hslb0; exact hslb0
               clear hslb0 hFQb KQb)
            | (at_builtin; obtain ⟨i0, hi, hy0, hy1, hy2⟩ := info_parts info_page; refine wpList_append_sli rfl (.tmp 95) (.tmp 103) 30 rfl 41 i0 _ 3 24 Try.underlying30 hi hy0 hy1 hy2 rfl (by decide) _ (Q.length + 1) (pgV (Q ++ [pp])) FQb rfl hslb ⟨wA.heap.size, 0, none⟩ 1 [.int .u32 ya, .int .i64 yf, .int .u32 yb] rfl rfl cell_page (by simp [Value.oneCell']) (by unfold maxLen; omega) (by omega) ?_; intro vB wB GB SB PB HB; obtain ⟨xB, cB, hvB, _⟩ := SB.out.lies; subst hvB; clear hi hy0 hy1 hy2))
          have PLB : Hid (PL W9 (.slice xB (Q.length + 1 + 1) cB) ((Q ++ [pp]) ++ [y]) wB) := PL.more HFb.out HKb.out (by rw [hyv.out, List.length_append]; exact SB.out) PB.out (fun g hg => HB.out g hg)
          go_roundw
          case rel => exact ⟨k + 1, _, _, _, true, by omega, rfl, rfl, by go_num, by rw [Hid, hst2.out], by rw [Hid, hst2.out]; exact PLB.out⟩
          case measure => simp [intOf]; omega
        · have hst2 : Hid (insK pp false (PP.take (k + 1)) = (Q ++ [y], false)) := by rw [Hid, hst.out, if_neg (by decide), if_neg (fun e => hc (hcmp.out.1 e))]
          have hcc : ¬ (vb : Int) < ya := by omega
          clear hst hcmp hc
          have d1 := D1.out wr K.out
          obtain ⟨e0, e1, e2⟩ := HE.out wr K.out
          obtain ⟨q0, q1, q2⟩ := H9.out wr K.out

          go_wp2_with fail
          go_quiet (fail)
          have KQ : Kep wr (wr.drewN nq) := (Kep.refl _).drewN _
          have hI2 : Hid (PL W9 (.slice xv Q.length cv) Q (wr.drewN nq)) := hI.out.kep KQ
          have K2 : Hid (Kep W9 (wr.drewN nq)) := kep_trans K.out KQ
          clear d1 e0 e1 e2 q0 q1 q2 KQ hI K
          generalize wr.drewN nq = wq at hI2 K2 ⊢
          have d1 := D1.out wq K2.out
          obtain ⟨e0, e1, e2⟩ := HE.out wq K2.out
          obtain ⟨q0, q1, q2⟩ := H9.out wq K2.out
          obtain ⟨FQa, hsla, hFQa, KQa⟩ := hI2.out.kep ((Kep.refl wq).alloc (.cells #[.int .u32 ya, .int .i64 yf, .int .u32 yb] 41))
          have HFa : Hid _ := hFQa
          have HKa : Hid _ := KQa
          clear hFQa KQa

          go_wp2_with (at_builtin; obtain ⟨i0, hi, hy0, hy1, hy2⟩ := info_parts info_page; refine wpList_append_sli rfl (.tmp 95) (.tmp 103) 30 rfl 41 i0 _ 3 24 Try.underlying30 hi hy0 hy1 hy2 rfl (by decide) _ Q.length (pgV Q) FQa rfl hsla ⟨wq.heap.size, 0, none⟩ 1 [.int .u32 ya, .int .i64 yf, .int .u32 yb] rfl rfl cell_page (by simp [Value.oneCell']) (by unfold maxLen; omega) (by omega) ?_; intro vA wA GA SA PA HA; obtain ⟨xA, cA, hvA, _⟩ := SA.out.lies; subst hvA; clear hi hy0 hy1 hy2)
          have PLA : Hid (PL W9 (.slice xA (Q.length + 1) cA) (Q ++ [y]) wA) := PL.more HFa.out HKa.out (by rw [hyv.out]; exact SA.out) PA.out (fun g hg => HA.out g hg)
          go_roundw
          case rel => exact ⟨k + 1, _, _, _, false, by omega, rfl, rfl, by go_num, by rw [Hid, hst2.out], by rw [Hid, hst2.out]; exact PLA.out⟩
          case measure => simp [intOf]; omega
      · have hst2 : Hid (insK pp false (PP.take (k + 1)) = (Q ++ [y], true)) := by rw [Hid, hst.out, if_pos rfl]
        clear hst hcmp
        have d1 := D1.out wr K.out
        obtain ⟨e0, e1, e2⟩ := HE.out wr K.out
        obtain ⟨q0, q1, q2⟩ := H9.out wr K.out

        go_wp2_with fail
        go_quiet (fail)
        have KQ : Kep wr (wr.drewN nq) := (Kep.refl _).drewN _
        have hI2 : Hid (PL W9 (.slice xv Q.length cv) Q (wr.drewN nq)) := hI.out.kep KQ
        have K2 : Hid (Kep W9 (wr.drewN nq)) := kep_trans K.out KQ
        clear d1 e0 e1 e2 q0 q1 q2 KQ hI K
        generalize wr.drewN nq = wq at hI2 K2 ⊢
        have d1 := D1.out wq K2.out
        obtain ⟨e0, e1, e2⟩ := HE.out wq K2.out
        obtain ⟨q0, q1, q2⟩ := H9.out wq K2.out
        obtain ⟨FQa, hsla, hFQa, KQa⟩ := hI2.out.kep ((Kep.refl wq).alloc (.cells #[.int .u32 ya, .int .i64 yf, .int .u32 yb] 41))
        have HFa : Hid _ := hFQa
        have HKa : Hid _ := KQa
        clear hFQa KQa

        go_wp2_with (at_builtin; obtain ⟨i0, hi, hy0, hy1, hy2⟩ := info_parts info_page; refine wpList_append_sli rfl (.tmp 95) (.tmp 103) 30 rfl 41 i0 _ 3 24 Try.underlying30 hi hy0 hy1 hy2 rfl (by decide) _ Q.length (pgV Q) FQa rfl hsla ⟨wq.heap.size, 0, none⟩ 1 [.int .u32 ya, .int .i64 yf, .int .u32 yb] rfl rfl cell_page (by simp [Value.oneCell']) (by unfold maxLen; omega) (by omega) ?_; intro vA wA GA SA PA HA; obtain ⟨xA, cA, hvA, _⟩ := SA.out.lies; subst hvA; clear hi hy0 hy1 hy2)
        have PLA : Hid (PL W9 (.slice xA (Q.length + 1) cA) (Q ++ [y]) wA) := PL.more HFa.out HKa.out (by rw [hyv.out]; exact SA.out) PA.out (fun g hg => HA.out g hg)
        go_roundw
        case rel => exact ⟨k + 1, _, _, _, true, by omega, rfl, rfl, by go_num, by rw [Hid, hst2.out], by rw [Hid, hst2.out]; exact PLA.out⟩
        case measure => simp [intOf]; omega
    · obtain rfl : k = NN := by omega
      have hall := insK_all pp PP
      rw [List.take_of_length_le (by rw [hNN.out]; exact Nat.le_refl _)] at hb hI
      have hlen : (insK pp false PP).1.length ≤ 602 := by
        have := insK_len pp PP
        have := hNN.out
        have := hNb.out
        omega
      rw [← hb.out] at hall
      generalize (insK pp false PP).1 = Q at hI hall hlen
      have hnv := hI.out.len
      subst hnv
      have FIN : Hid (∀ (W : World) (v : Value) (Q2 : List (Nat × Nat)), PL W9 v Q2 W → insL pp PP = Q2 → RPut w (W.setCell ⟨r, 1, none⟩ v) r most (T) (insL (va / 64, entN fr x) (without (va / 64) P)) G) := fun W v Q2 hPL hQ2 => by
        obtain ⟨FQ, hsl, hFQ, kW⟩ := hPL
        have hb3 := BX.out W (kep_trans K29.out kW)
        have Qs : Put [r] W (W.setCell ⟨r, 1, none⟩ v) := (Put.refl _).setCell (by simp) _
        have z9 := K29.out.size
        have z2 := Q2'.out.size
        have lr2 : r < w2.heap.size := by obtain ⟨_, _, hb4, _⟩ := R2'.out.box; exact block_lt hb4
        rw [hPP'.out, ← hpp.out, hQ2]
        refine ⟨FQ, G, ⟨_, _, (heap_setCell_row hb3 _).trans rfl, hsl.put Qs (fun g hg => by simp; rintro rfl; have := hFQ g hg; omega), (ht2'.out.1.kep (kep_trans K29.out kW)).put Qs (fun g hg => by simp; rintro rfl; exact ht2'.out.2 hg)⟩, (Q2'.out.trans (Put.of_kep (kep_trans K29.out kW))).trans (Qs.mono (by simp)), fun g hg => by have := hFQ g hg; omega, HG1.out⟩
      have hbx := BX.out wr (kep_trans K29.out K.out)
      have f1 : wr.frozen? ⟨r, 1, none⟩ = false := by simp [World.frozen?, hbx]
      have d1 := D1.out wr K.out
      obtain ⟨q0, q1, q2⟩ := H9.out wr K.out
      cases b
      · rw [if_neg (by decide)] at hall
        obtain ⟨FQa, hsla, hFQa, KQa⟩ := hI.out.kep ((Kep.refl wr).alloc (.cells #[.int .u32 vb, .int .i64 fr, .int .u32 be] 41))
        have HFa : Hid _ := hFQa
        have HKa : Hid _ := KQa
        clear hFQa KQa

        have hallh : Hid _ := hall
        clear hall hb hbx f1 hlt hk
        go_wp2_with ((at_builtin; obtain ⟨i0, hi, hy0, hy1, hy2⟩ := info_parts info_page; refine wpList_append_sli rfl (.tmp 107) (.tmp 109) 30 rfl 41 i0 _ 3 24 Try.underlying30 hi hy0 hy1 hy2 rfl (by decide) _ Q.length (pgV Q) FQa rfl hsla ⟨wr.heap.size, 0, none⟩ 1 [.int .u32 vb, .int .i64 fr, .int .u32 be] rfl rfl cell_page (by simp [Value.oneCell']) (by unfold maxLen; omega) (by omega) ?_; intro vA wA GA SA PA HA; obtain ⟨xA, cA, hvA, _⟩ := SA.out.lies; subst hvA; clear hi hy0 hy1 hy2)
                     have PLA : Hid (PL W9 (.slice xA (Q.length + 1) cA) (Q ++ [pp]) wA) := PL.more HFa.out HKa.out (by rw [hpv.out]; exact SA.out) PA.out (fun g hg => HA.out g hg)
                     have hbx : wA.heap[r]? = _ := BX.out wA (by obtain ⟨_, _, _, K⟩ := PLA.out; exact kep_trans K29.out K)
                     have f1 : wA.frozen? ⟨r, 1, none⟩ = false := by simp [World.frozen?, hbx]
                     clear d1
                     have d1 : wA.cell? ⟨r, 1, none⟩ = some (.slice xp k cp) := by rw [cell_of_block hbx]; rfl
                     clear hbx)
        go_ret
        exact ⟨rfl, FIN.out _ _ _ PLA.out hallh.out⟩
      · rw [if_pos rfl] at hall
        have hallh : Hid _ := hall
        clear hall hb hbx hlt hk
        go_wp2_with fail
        go_ret
        exact ⟨rfl, FIN.out _ _ _ hI.out hallh.out⟩
end Go.Proofs.Ythgkkjcemjadoaa
