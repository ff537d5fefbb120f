/- The document's Put, where the page's table is not there yet. -/
import Derived.Test.YthgkkjcemjadoaaSdrput
namespace Go.Proofs.Ythgkkjcemjadoaa
open Go.RowKit
set_option linter.unusedVariables false
set_option linter.unusedSimpArgs false

theorem info_w32 : (Try.prog.info? 34).map (fun i => (i.zero, i.size, i.bytes)) = some (some (.int .u32 0), 1, 4) := by kernel_rfl
theorem cell_w32 {w : World} {a : Int} : ∀ j u, ([.int .u32 a] : List Value)[j]? = some u → (w.alloc (.cells #[.int .u32 a] 34)).cell? ((⟨w.heap.size, 0, none⟩ : Addr).add j) = some u := fun j u hj => by
  rw [Addr.add_lit, Nat.zero_add, cell_of_block (hat _ _ _ rfl)]
  simpa using hj
/-- A table more. -/
theorem rs_more {w wq wA : World} {r most : Nat} {T : List Nat} {P : List (Nat × Nat)} {F G G' : List Nat} {v : Value} {x : Nat} (h : RS w r most T P F G) (k : Kep w wq) (p : Put G wq wA) (S : Sli wA 34 1 v (T.length + 1) (u32s T ++ [.int .u32 x]) G') (H : ∀ g ∈ G', g ∈ G ∨ wq.heap.size ≤ g) :
    RS (wA.setCell ⟨r, 2, none⟩ v) r most (T ++ [x]) P F G' ∧ Put (r :: G) w (wA.setCell ⟨r, 2, none⟩ v) ∧ ∀ g ∈ G', g ∈ G ∨ w.heap.size ≤ g := by
  obtain ⟨pv, tv, hb, hp, ht⟩ := h.box
  have nr := h.nr
  have hbA := p.keeps (k.block hb) nr.2.1
  have hr := block_lt (k.block hb)
  have Qs : Put [r] wA (wA.setCell ⟨r, 2, none⟩ v) := (Put.refl _).setCell (by simp) _
  rw [u32s_app] at S
  refine ⟨⟨pv, v, (heap_setCell_row hbA v).trans rfl, ((hp.kep k).put p fun g hF hG => nr.2.2 g hG hF).put Qs fun g hg => by simp; rintro rfl; exact nr.1 hg, ?_⟩, (Put.of_kep k).trans ((p.mono (by simp; exact fun _ h => .inr h)).trans (Qs.mono (by simp))), fun g hg => (H g hg).imp id fun e => Nat.le_trans k.size e⟩
  have S2 := S.put Qs fun g hg => by
    simp; rintro rfl
    rcases H g hg with e | e
    · exact nr.2.1 e
    · omega
  rwa [List.length_append]
set_option maxHeartbeats 8000000 in
set_option maxRecDepth 20000 in
theorem rs_put_new (w : World) (r most : Nat) (T : List Nat) (P : List (Nat × Nat)) (F G : List Nat) (h : RS w r most T P F G) (va fr x : Nat) (hva : va < 32768) (hfr : fr < 40) (hx : x < 4294967296) (hT : T.length ≤ 600) (hP : P.length ≤ 600) (hm : most ≤ 600) (hin : va / 1024 ∉ T) (hmo : T.length < most) :
    Calls Try.prog 26 #[.pointer (some ⟨r, 0, none⟩), .int .u32 va, .int .i64 fr, .int .u32 x] w fun e w' => e = .returned (.bool true) ∧ RPut w w' r most (T ++ [va / 1024]) (insL (va / 64, entN fr x) (without (va / 64) P)) G := by
  have htm : (T.length : Int) < most := by omega
  have hct2 : (T.length : Int) ≤ 600 := by omega
  have hq3 : Bd ((va : Int) / 1024 % 4294967296 = ((va / 1024 : Nat) : Int)) := ⟨by omega⟩
  obtain ⟨pv, tv, hb, hp, ht⟩ := h.box
  obtain ⟨xt, ct, rfl, hlt0, hct, hmt, _⟩ := ht.lies
  have c0 : w.cell? ⟨r, 0, none⟩ = some (.int .i64 40) := by rw [cell_of_block hb]; rfl
  have g1 : ¬ (32768 : Int) ≤ va := by omega
  have g2 : ¬ (40 : Int) ≤ fr := by omega
  have g3 : ¬ (fr : Int) < 0 := by omega
  have HH : Hid (Calls Try.prog 55 #[.pointer (some ⟨r, 0, none⟩), .int .u32 (va / 1024 : Nat)] w fun e w' => e = .returned (.bool (decide (va / 1024 ∈ T))) ∧ Kep w w') := rs_has w r most T P F G h (va / 1024) (by omega)
  rw [show ((va / 1024 : Nat) : Int) = (va : Int) / 1024 by omega] at HH
  have h' : Hid (RS w r most T P F G) := h
  have hPh : Bd (P.length ≤ 600) := ⟨hP⟩
  obtain ⟨vb, hvb⟩ : ∃ vb : Nat, Bd ((va : Int) - (va : Int) % 64 = (vb : Int)) := ⟨va - va % 64, ⟨by omega⟩⟩
  have hvi : Bd (vb = 64 * (va / 64)) := ⟨by have := hvb.out; omega⟩
  have hvbb : Bd (vb < 4294967296) := ⟨by have := hvb.out; omega⟩
  obtain ⟨be, hbe⟩ : ∃ be : Nat, Bd ((x : Int) % 16 / 2 * 2 + 1 = (be : Int) ∧ be < 16) := ⟨x % 16 / 2 * 2 + 1, ⟨by omega, by omega⟩⟩
  have hpv : Hid (pgv (va / 64, entN fr x) = [.int .u32 (vb : Nat), .int .i64 (fr : Nat), .int .u32 (be : Nat)]) := by
    have e1 : 64 * (va / 64) = vb := hvi.out.symm
    have hb1 := hbe.out
    have e2 : entN fr x / 64 = fr := by unfold entN; omega
    have e3 : entN fr x % 64 = be := by unfold entN; omega
    rw [Hid]
    unfold pgv
    simp only [e1, e2, e3]
  have hTh : Bd (T.length ≤ 600 ∧ T.length ≤ ct ∧ ct ≤ maxLen ∧ most ≤ 600) := ⟨⟨hT, hct, hmt, hm⟩⟩
  have hvah : Bd (va < 4294967296) := ⟨by omega⟩
  skip
  clear h hp hlt0 hP hx hva hfr hT hct hmt hm
  rw [decide_eq_false hin] at HH
  go_enter Try.func26, Try.ntmps26
  go_wp2_with fail
  refine HH.out.mono ?_
  rintro e w0 ⟨rfl, K0⟩
  have BX0 : Hid (∀ W, Kep w0 W → W.heap[r]? = some (.cells #[.int .i64 40, pv, .slice xt T.length ct, .int .i64 most] 32 (0, 0))) := fun W k => k.block (K0.block hb)
  have K0' : Hid (Kep w w0) := K0
  have d2 : w0.cell? ⟨r, 2, none⟩ = some (.slice xt T.length ct) := by rw [cell_of_block (K0.block hb)]; rfl
  have d3 : w0.cell? ⟨r, 3, none⟩ = some (.int .i64 most) := by rw [cell_of_block (K0.block hb)]; rfl
  clear K0 HH c0 ht hin hb g1 g2 g3
  go_wp2_with fail
  go_quiet (fail)
  have KQ : Hid (Kep w (w0.drewN nq)) := K0'.out.drewN nq
  have KQ0 : Hid (Kep w0 (w0.drewN nq)) := (Kep.refl _).drewN nq
  clear d2 d3 htm
  generalize w0.drewN nq = wq at KQ KQ0 ⊢
  have d2 : wq.cell? ⟨r, 2, none⟩ = some (.slice xt T.length ct) := by rw [cell_of_block (BX0.out wq KQ0.out)]; rfl
  have KA : Hid (Kep w (wq.alloc (.cells #[.int .u32 ((va : Int) / 1024 % 4294967296)] 34))) := KQ.out.alloc _
  have htA : Sli (wq.alloc (.cells #[.int .u32 ((va : Int) / 1024 % 4294967296)] 34)) 34 1 (.slice xt T.length ct) T.length (u32s T) G := by
    obtain ⟨pv2, tv2, hb2, _, ht2⟩ := (h'.out.kep KA.out).box
    have := ((Kep.refl wq).alloc (.cells #[.int .u32 ((va : Int) / 1024 % 4294967296)] 34)).block (BX0.out wq KQ0.out)
    rw [hb2] at this
    simp at this
    rw [this.2] at ht2
    exact ht2
  go_wp2_with (at_builtin; obtain ⟨i0, hi, hy0, hy1, hy2⟩ := info_parts info_w32; refine wpList_append_sli rfl (.tmp 46) (.tmp 49) 23 rfl 34 i0 _ 1 4 Try.underlying23 hi hy0 hy1 hy2 rfl (by decide) _ T.length (u32s T) G rfl htA ⟨wq.heap.size, 0, none⟩ 1 [.int .u32 ((va : Int) / 1024 % 4294967296)] rfl rfl cell_w32 (by simp [Value.oneCell']) (by unfold maxLen; omega) (by omega) ?_; intro vA wA GA SA PA HA; obtain ⟨xA, cA, hvA, _⟩ := SA.out.lies; subst hvA
               have MA := rs_more (x := va / 1024) h'.out KA.out PA.out (by have e := SA.out; rw [hq3.out] at e; exact e) HA.out
               have R1 : Hid (RS (wA.setCell ⟨r, 2, none⟩ (.slice xA (T.length + 1) cA)) r most (T ++ [va / 1024]) P F GA) := MA.1
               have Q1 : Hid (Put (r :: G) w (wA.setCell ⟨r, 2, none⟩ (.slice xA (T.length + 1) cA))) := MA.2.1
               have HG1 : Hid (∀ g ∈ GA, g ∈ G ∨ w.heap.size ≤ g) := MA.2.2
               have hbA := PA.out.keeps (((Kep.refl wq).alloc (.cells #[.int .u32 ((va : Int) / 1024 % 4294967296)] 34)).block (BX0.out wq KQ0.out)) h'.out.nr.2.1
               have f1 : wA.frozen? ⟨r, 2, none⟩ = false := by simp [World.frozen?, hbA]
               clear d2
               have d2 : wA.cell? ⟨r, 2, none⟩ = some (.slice xt T.length ct) := by rw [cell_of_block hbA]; rfl
               clear hbA MA SA PA HA hi hy0 hy1 hy2 htA)
  generalize wA.setCell ⟨r, 2, none⟩ (.slice xA (T.length + 1) cA) = w1 at R1 Q1 ⊢
  clear d2 f1 KA KQ KQ0 BX0 K0' h'
  have HD : Hid (Calls Try.prog 27 #[.pointer (some ⟨r, 0, none⟩), .int .u32 va] w1 fun e w' => ∃ F', e = .returned (.tuple #[]) ∧ RS w' r most (T ++ [va / 1024]) (without (va / 64) P) F' GA ∧ Put [r] w1 w' ∧ ∀ g ∈ F', w1.heap.size ≤ g) := rs_drop w1 r most (T ++ [va / 1024]) P F GA R1.out va (by have := hvah.out; omega) hPh.out
  refine HD.out.mono ?_
  rintro e w2 ⟨F2, rfl, R2, Q2, HF2⟩
  have Q2' : Hid (Put (r :: G) w w2) := Q1.out.trans (Q2.mono (by simp))
  have R2' : Hid (RS w2 r most (T ++ [va / 1024]) (without (va / 64) P) F2 GA) := R2
  have hl2 : Bd ((without (va / 64) P).length ≤ 600) := ⟨Nat.le_trans (without_len _ _) hPh.out⟩
  clear HD R2 Q2 HF2 R1 Q1
  generalize hPP : without (va / 64) P = PP at R2' hl2
  have hPP' : Hid (without (va / 64) P = PP) := hPP
  clear hPP
  obtain ⟨pv2, tv2, hb2, hp2, ht2⟩ := R2'.out.box
  obtain ⟨xp, cp, rfl, hlp, hcp, _, _⟩ := hp2.lies
  have hlp' : Hid (Lies w2 xp (pgV PP)) := hlp
  obtain ⟨NN, hNN⟩ : ∃ NN, Bd (PP.length = NN) := ⟨_, ⟨rfl⟩⟩
  have hcp' : (NN : Int) ≤ cp := by have := hNN.out; omega
  have hNb : Bd ((NN : Int) ≤ 600) := ⟨by have := hNN.out; have := hl2.out; omega⟩
  have BX : Hid (∀ wr, Kep w2 wr → wr.heap[r]? = some (.cells #[.int .i64 40, .slice xp NN cp, tv2, .int .i64 most] 32 (0, 0))) := fun wr k => by have := k.block hb2; rw [hNN.out] at this; exact this
  have ht2' : Hid (Sli w2 34 1 tv2 (List.length ((T ++ [va / 1024]))) (u32s ((T ++ [va / 1024]))) GA ∧ r ∉ GA) := ⟨ht2, R2'.out.nr.2.1⟩
  clear hb2 hp2 ht2 hlp hcp
  go_wp2_with fail
  have hvm : (vb : Int) % 4294967296 = vb := by have := hvbb.out; omega
  simp only [hvb.out, hbe.out.1, hvm]
  clear hvm
  have B9 : (w2.alloc (.cells #[.int .u32 vb, .int .i64 fr, .int .u32 be] 41)).heap[w2.heap.size]? = some (.cells #[.int .u32 vb, .int .i64 fr, .int .u32 be] 41 (0, 0)) := hat _ _ _ rfl
  have K29 : Hid (Kep w2 (w2.alloc (.cells #[.int .u32 vb, .int .i64 fr, .int .u32 be] 41))) := (Kep.refl _).alloc _
  generalize w2.alloc (.cells #[.int .u32 vb, .int .i64 fr, .int .u32 be] 41) = W9 at B9 K29 ⊢
  generalize w2.heap.size = g9 at B9 ⊢
  have H9 : Hid (∀ W, Kep W9 W → W.cell? ⟨g9, 0, none⟩ = some (.int .u32 vb) ∧ W.cell? ⟨g9, 1, none⟩ = some (.int .i64 fr) ∧ W.cell? ⟨g9, 2, none⟩ = some (.int .u32 be)) := fun W k => by
    have := k.block B9
    refine ⟨?_, ?_, ?_⟩ <;> (rw [cell_of_block this]; rfl)
  have D1 : Hid (∀ W, Kep W9 W → W.cell? ⟨r, 1, none⟩ = some (.slice xp NN cp)) := fun W k => by rw [cell_of_block (BX.out W (kep_trans K29.out k))]; rfl
  obtain ⟨pp, hpp⟩ : ∃ pp, Hid (pp = (va / 64, entN fr x)) := ⟨_, rfl⟩
  rw [← hpp.out] at hpv
  have hp1 : Bd (vb = 64 * pp.1) := ⟨by rw [hpp.out]; exact hvi.out⟩
  clear B9 hvb hbe hvi
  go_loopw [10, 11, 12] (fun v lb i wr => ∃ (k nv cv : Nat) (xv : Option Addr) (b : Bool), (k : Int) ≤ NN ∧ v = .slice xv nv cv ∧ lb = .bool b ∧ i = .int .i64 k ∧ Hid (b = (insK pp false (PP.take k)).2) ∧ Hid (PL W9 (.slice xv nv cv) (insK pp false (PP.take k)).1 wr)) (fun _ _ i _ => NN - (intOf i).toNat)
  case atStart => exact ⟨0, 0, 0, none, false, by omega, rfl, rfl, rfl, rfl, [], by simpa [insK, pgV] using Sli.nil _ _ _, by simp, Kep.refl _⟩
  case round =>
    obtain ⟨k, nv, cv, xv, b, hk, rfl, rfl, rfl, hb, hI⟩ := hrel
    have K : Hid (Kep W9 wr) := by obtain ⟨_, _, _, K⟩ := hI.out; exact K
    have wrk : IntKind.i64.wrap ((k : Int) + 1) = k + 1 := by have := hNb.out; rw [IntKind.wrap_i64]; omega
    by_cases hlt : (k : Int) < NN
    · have hkP : k < PP.length := by rw [hNN.out]; omega
      obtain ⟨bb, off, hxp, -⟩ := page_at (hlp'.out.kep (kep_trans K29.out K.out)) hkP
      subst hxp
      obtain ⟨ya, hya⟩ : ∃ ya, Bd (64 * PP[k].1 = ya) := ⟨_, ⟨rfl⟩⟩
      obtain ⟨yf, hyf⟩ : ∃ yf, Bd (PP[k].2 / 64 = yf) := ⟨_, ⟨rfl⟩⟩
      obtain ⟨yb, hyb⟩ : ∃ yb, Bd (PP[k].2 % 64 = yb) := ⟨_, ⟨rfl⟩⟩
      have HE : Hid (∀ W, Kep W9 W → W.cell? ⟨bb, off + k * 3, none⟩ = some (.int .u32 ya) ∧ W.cell? ⟨bb, off + k * 3 + 1, none⟩ = some (.int .i64 yf) ∧ W.cell? ⟨bb, off + k * 3 + 2, none⟩ = some (.int .u32 yb)) := fun W kw => by
        rw [← hya.out, ← hyf.out, ← hyb.out]
        exact page_cells (hlp'.out.kep (kep_trans K29.out kw)) hkP
      have hyv : Hid (pgv PP[k] = [.int .u32 (ya : Nat), .int .i64 (yf : Nat), .int .u32 (yb : Nat)]) := by rw [Hid, ← hya.out, ← hyf.out, ← hyb.out]; rfl
      have hst : Hid (insK pp false (PP.take (k + 1)) = if (insK pp false (PP.take k)).2 = true then ((insK pp false (PP.take k)).1 ++ [PP[k]], true) else if pp.1 < PP[k].1 then (((insK pp false (PP.take k)).1 ++ [pp]) ++ [PP[k]], true) else ((insK pp false (PP.take k)).1 ++ [PP[k]], false)) := insK_step pp hkP
      have hlen : (insK pp false (PP.take k)).1.length ≤ 602 := by
        have := insK_len pp (PP.take k)
        rw [List.length_take] at this
        have := hNN.out
        have := hNb.out
        omega
      have hcmp : Bd (pp.1 < PP[k].1 ↔ vb < ya) := ⟨by rw [← hya.out, hp1.out]; omega⟩
      generalize PP[k] = y at hst hyv hcmp
      clear hkP hya hyf hyb
      rw [← hb.out] at hst
      generalize (insK pp false (PP.take k)).1 = Q at hI hst hlen
      clear hb
      have hnv := hI.out.len
      subst hnv
      cases b
      · by_cases hc : vb < ya
        · have hst2 : Hid (insK pp false (PP.take (k + 1)) = ((Q ++ [pp]) ++ [y], true)) := by rw [Hid, hst.out, if_neg (by decide), if_pos (hcmp.out.2 hc)]
          have hcc : (vb : Int) < ya := by omega
          clear hst hcmp hc
          have d1 := D1.out wr K.out
          obtain ⟨e0, e1, e2⟩ := HE.out wr K.out
          obtain ⟨q0, q1, q2⟩ := H9.out wr K.out

          go_wp2_with fail
          go_quiet (fail)
          have KQ : Kep wr (wr.drewN nq) := (Kep.refl _).drewN _
          have hI2 : Hid (PL W9 (.slice xv Q.length cv) Q (wr.drewN nq)) := hI.out.kep KQ
          have K2 : Hid (Kep W9 (wr.drewN nq)) := kep_trans K.out KQ
          clear d1 e0 e1 e2 q0 q1 q2 KQ hI K hcc
          generalize wr.drewN nq = wq at hI2 K2 ⊢
          have d1 := D1.out wq K2.out
          obtain ⟨e0, e1, e2⟩ := HE.out wq K2.out
          obtain ⟨q0, q1, q2⟩ := H9.out wq K2.out
          obtain ⟨FQa, hsla, hFQa, KQa⟩ := hI2.out.kep ((Kep.refl wq).alloc (.cells #[.int .u32 vb, .int .i64 fr, .int .u32 be] 41))
          have HFa : Hid _ := hFQa
          have HKa : Hid _ := KQa
          clear hFQa KQa

          go_wp2_with (first
            | ((at_builtin; obtain ⟨i0, hi, hy0, hy1, hy2⟩ := info_parts info_page; refine wpList_append_sli rfl (.tmp 91) (.tmp 93) 30 rfl 41 i0 _ 3 24 Try.underlying30 hi hy0 hy1 hy2 rfl (by decide) _ Q.length (pgV Q) FQa rfl hsla ⟨wq.heap.size, 0, none⟩ 1 [.int .u32 vb, .int .i64 fr, .int .u32 be] rfl rfl cell_page (by simp [Value.oneCell']) (by unfold maxLen; omega) (by omega) ?_; intro vA wA GA SA PA HA; obtain ⟨xA, cA, hvA, _⟩ := SA.out.lies; subst hvA; clear hi hy0 hy1 hy2)
               have PLA : Hid (PL W9 (.slice xA (Q.length + 1) cA) (Q ++ [pp]) wA) := PL.more HFa.out HKa.out (by rw [hpv.out]; exact SA.out) PA.out (fun g hg => HA.out g hg)
               have KA : Hid (Kep W9 wA) := by obtain ⟨_, _, _, K⟩ := PLA.out; exact K
               clear d1 e0 e1 e2 q0 q1 q2 SA PA HA HFa HKa hsla hI2 K2
               have d1 := D1.out wA KA.out
               obtain ⟨e0, e1, e2⟩ := HE.out wA KA.out
               obtain ⟨FQb, hslb0, hFQb, KQb⟩ := PLA.out.kep ((Kep.refl wA).alloc (.cells #[.int .u32 ya, .int .i64 yf, .int .u32 yb] 41))
               have HFb : Hid _ := hFQb
               have HKb : Hid _ := KQb
               have hslb : Sli (wA.alloc (.cells #[.int .u32 ya, .int .i64 yf, .int .u32 yb] 41)) 41 3 (.slice xA (Q.length + 1) cA) (Q.length + 1) (pgV (Q ++ [pp])) FQb := by rw [List.length_append] at hslb0; exact hslb0
               clear hslb0 hFQb KQb)
            | (at_builtin; obtain ⟨i0, hi, hy0, hy1, hy2⟩ := info_parts info_page; refine wpList_append_sli rfl (.tmp 95) (.tmp 103) 30 rfl 41 i0 _ 3 24 Try.underlying30 hi hy0 hy1 hy2 rfl (by decide) _ (Q.length + 1) (pgV (Q ++ [pp])) FQb rfl hslb ⟨wA.heap.size, 0, none⟩ 1 [.int .u32 ya, .int .i64 yf, .int .u32 yb] rfl rfl cell_page (by simp [Value.oneCell']) (by unfold maxLen; omega) (by omega) ?_; intro vB wB GB SB PB HB; obtain ⟨xB, cB, hvB, _⟩ := SB.out.lies; subst hvB; clear hi hy0 hy1 hy2))
          have PLB : Hid (PL W9 (.slice xB (Q.length + 1 + 1) cB) ((Q ++ [pp]) ++ [y]) wB) := PL.more HFb.out HKb.out (by rw [hyv.out, List.length_append]; exact SB.out) PB.out (fun g hg => HB.out g hg)
          go_roundw
          case rel => exact ⟨k + 1, _, _, _, true, by omega, rfl, rfl, by go_num, by rw [Hid, hst2.out], by rw [Hid, hst2.out]; exact PLB.out⟩
          case measure => simp [intOf]; omega
        · have hst2 : Hid (insK pp false (PP.take (k + 1)) = (Q ++ [y], false)) := by rw [Hid, hst.out, if_neg (by decide), if_neg (fun e => hc (hcmp.out.1 e))]
          have hcc : ¬ (vb : Int) < ya := by omega
          clear hst hcmp hc
          have d1 := D1.out wr K.out
          obtain ⟨e0, e1, e2⟩ := HE.out wr K.out
          obtain ⟨q0, q1, q2⟩ := H9.out wr K.out

          go_wp2_with fail
          go_quiet (fail)
          have KQ : Kep wr (wr.drewN nq) := (Kep.refl _).drewN _
          have hI2 : Hid (PL W9 (.slice xv Q.length cv) Q (wr.drewN nq)) := hI.out.kep KQ
          have K2 : Hid (Kep W9 (wr.drewN nq)) := kep_trans K.out KQ
          clear d1 e0 e1 e2 q0 q1 q2 KQ hI K
          generalize wr.drewN nq = wq at hI2 K2 ⊢
          have d1 := D1.out wq K2.out
          obtain ⟨e0, e1, e2⟩ := HE.out wq K2.out
          obtain ⟨q0, q1, q2⟩ := H9.out wq K2.out
          obtain ⟨FQa, hsla, hFQa, KQa⟩ := hI2.out.kep ((Kep.refl wq).alloc (.cells #[.int .u32 ya, .int .i64 yf, .int .u32 yb] 41))
          have HFa : Hid _ := hFQa
          have HKa : Hid _ := KQa
          clear hFQa KQa

          go_wp2_with (at_builtin; obtain ⟨i0, hi, hy0, hy1, hy2⟩ := info_parts info_page; refine wpList_append_sli rfl (.tmp 95) (.tmp 103) 30 rfl 41 i0 _ 3 24 Try.underlying30 hi hy0 hy1 hy2 rfl (by decide) _ Q.length (pgV Q) FQa rfl hsla ⟨wq.heap.size, 0, none⟩ 1 [.int .u32 ya, .int .i64 yf, .int .u32 yb] rfl rfl cell_page (by simp [Value.oneCell']) (by unfold maxLen; omega) (by omega) ?_; intro vA wA GA SA PA HA; obtain ⟨xA, cA, hvA, _⟩ := SA.out.lies; subst hvA; clear hi hy0 hy1 hy2)
          have PLA : Hid (PL W9 (.slice xA (Q.length + 1) cA) (Q ++ [y]) wA) := PL.more HFa.out HKa.out (by rw [hyv.out]; exact SA.out) PA.out (fun g hg => HA.out g hg)
          go_roundw
          case rel => exact ⟨k + 1, _, _, _, false, by omega, rfl, rfl, by go_num, by rw [Hid, hst2.out], by rw [Hid, hst2.out]; exact PLA.out⟩
          case measure => simp [intOf]; omega
      · have hst2 : Hid (insK pp false (PP.take (k + 1)) = (Q ++ [y], true)) := by rw [Hid, hst.out, if_pos rfl]
        clear hst hcmp
        have d1 := D1.out wr K.out
        obtain ⟨e0, e1, e2⟩ := HE.out wr K.out
        obtain ⟨q0, q1, q2⟩ := H9.out wr K.out

        go_wp2_with fail
        go_quiet (fail)
        have KQ : Kep wr (wr.drewN nq) := (Kep.refl _).drewN _
        have hI2 : Hid (PL W9 (.slice xv Q.length cv) Q (wr.drewN nq)) := hI.out.kep KQ
        have K2 : Hid (Kep W9 (wr.drewN nq)) := kep_trans K.out KQ
        clear d1 e0 e1 e2 q0 q1 q2 KQ hI K
        generalize wr.drewN nq = wq at hI2 K2 ⊢
        have d1 := D1.out wq K2.out
        obtain ⟨e0, e1, e2⟩ := HE.out wq K2.out
        obtain ⟨q0, q1, q2⟩ := H9.out wq K2.out
        obtain ⟨FQa, hsla, hFQa, KQa⟩ := hI2.out.kep ((Kep.refl wq).alloc (.cells #[.int .u32 ya, .int .i64 yf, .int .u32 yb] 41))
        have HFa : Hid _ := hFQa
        have HKa : Hid _ := KQa
        clear hFQa KQa

        go_wp2_with (at_builtin; obtain ⟨i0, hi, hy0, hy1, hy2⟩ := info_parts info_page; refine wpList_append_sli rfl (.tmp 95) (.tmp 103) 30 rfl 41 i0 _ 3 24 Try.underlying30 hi hy0 hy1 hy2 rfl (by decide) _ Q.length (pgV Q) FQa rfl hsla ⟨wq.heap.size, 0, none⟩ 1 [.int .u32 ya, .int .i64 yf, .int .u32 yb] rfl rfl cell_page (by simp [Value.oneCell']) (by unfold maxLen; omega) (by omega) ?_; intro vA wA GA SA PA HA; obtain ⟨xA, cA, hvA, _⟩ := SA.out.lies; subst hvA; clear hi hy0 hy1 hy2)
        have PLA : Hid (PL W9 (.slice xA (Q.length + 1) cA) (Q ++ [y]) wA) := PL.more HFa.out HKa.out (by rw [hyv.out]; exact SA.out) PA.out (fun g hg => HA.out g hg)
        go_roundw
        case rel => exact ⟨k + 1, _, _, _, true, by omega, rfl, rfl, by go_num, by rw [Hid, hst2.out], by rw [Hid, hst2.out]; exact PLA.out⟩
        case measure => simp [intOf]; omega
    · obtain rfl : k = NN := by omega
      have hall := insK_all pp PP
      rw [List.take_of_length_le (by rw [hNN.out]; exact Nat.le_refl _)] at hb hI
      have hlen : (insK pp false PP).1.length ≤ 602 := by
        have := insK_len pp PP
        have := hNN.out
        have := hNb.out
        omega
      rw [← hb.out] at hall
      generalize (insK pp false PP).1 = Q at hI hall hlen
      have hnv := hI.out.len
      subst hnv
      have FIN : Hid (∀ (W : World) (v : Value) (Q2 : List (Nat × Nat)), PL W9 v Q2 W → insL pp PP = Q2 → RPut w (W.setCell ⟨r, 1, none⟩ v) r most ((T ++ [va / 1024])) (insL (va / 64, entN fr x) (without (va / 64) P)) G) := fun W v Q2 hPL hQ2 => by
        obtain ⟨FQ, hsl, hFQ, kW⟩ := hPL
        have hb3 := BX.out W (kep_trans K29.out kW)
        have Qs : Put [r] W (W.setCell ⟨r, 1, none⟩ v) := (Put.refl _).setCell (by simp) _
        have z9 := K29.out.size
        have z2 := Q2'.out.size
        have lr2 : r < w2.heap.size := by obtain ⟨_, _, hb4, _⟩ := R2'.out.box; exact block_lt hb4
        rw [hPP'.out, ← hpp.out, hQ2]
        refine ⟨FQ, GA, ⟨_, _, (heap_setCell_row hb3 _).trans rfl, hsl.put Qs (fun g hg => by simp; rintro rfl; have := hFQ g hg; omega), (ht2'.out.1.kep (kep_trans K29.out kW)).put Qs (fun g hg => by simp; rintro rfl; exact ht2'.out.2 hg)⟩, (Q2'.out.trans (Put.of_kep (kep_trans K29.out kW))).trans (Qs.mono (by simp)), fun g hg => by have := hFQ g hg; omega, HG1.out⟩
      have hbx := BX.out wr (kep_trans K29.out K.out)
      have f1 : wr.frozen? ⟨r, 1, none⟩ = false := by simp [World.frozen?, hbx]
      have d1 := D1.out wr K.out
      obtain ⟨q0, q1, q2⟩ := H9.out wr K.out
      cases b
      · rw [if_neg (by decide)] at hall
        obtain ⟨FQa, hsla, hFQa, KQa⟩ := hI.out.kep ((Kep.refl wr).alloc (.cells #[.int .u32 vb, .int .i64 fr, .int .u32 be] 41))
        have HFa : Hid _ := hFQa
        have HKa : Hid _ := KQa
        clear hFQa KQa

        have hallh : Hid _ := hall
        clear hall hb hbx f1 hlt hk
        go_wp2_with ((at_builtin; obtain ⟨i0, hi, hy0, hy1, hy2⟩ := info_parts info_page; refine wpList_append_sli rfl (.tmp 107) (.tmp 109) 30 rfl 41 i0 _ 3 24 Try.underlying30 hi hy0 hy1 hy2 rfl (by decide) _ Q.length (pgV Q) FQa rfl hsla ⟨wr.heap.size, 0, none⟩ 1 [.int .u32 vb, .int .i64 fr, .int .u32 be] rfl rfl cell_page (by simp [Value.oneCell']) (by unfold maxLen; omega) (by omega) ?_; intro vA wA GA SA PA HA; obtain ⟨xA, cA, hvA, _⟩ := SA.out.lies; subst hvA; clear hi hy0 hy1 hy2)
                     have PLA : Hid (PL W9 (.slice xA (Q.length + 1) cA) (Q ++ [pp]) wA) := PL.more HFa.out HKa.out (by rw [hpv.out]; exact SA.out) PA.out (fun g hg => HA.out g hg)
                     have hbx : wA.heap[r]? = _ := BX.out wA (by obtain ⟨_, _, _, K⟩ := PLA.out; exact kep_trans K29.out K)
                     have f1 : wA.frozen? ⟨r, 1, none⟩ = false := by simp [World.frozen?, hbx]
                     clear d1
                     have d1 : wA.cell? ⟨r, 1, none⟩ = some (.slice xp k cp) := by rw [cell_of_block hbx]; rfl
                     clear hbx)
        go_ret
        exact ⟨rfl, FIN.out _ _ _ PLA.out hallh.out⟩
      · rw [if_pos rfl] at hall
        have hallh : Hid _ := hall
        clear hall hb hbx hlt hk
        go_wp2_with fail
        go_ret
        exact ⟨rfl, FIN.out _ _ _ hI.out hallh.out⟩
set_option maxHeartbeats 2000000 in
theorem rs_put_full (w : World) (r most : Nat) (T : List Nat) (P : List (Nat × Nat)) (F G : List Nat) (h : RS w r most T P F G) (va fr x : Nat) (hva : va < 32768) (hfr : fr < 40) (hx : x < 4294967296) (hT : T.length ≤ 600) (hP : P.length ≤ 600) (hm : most ≤ 600) (hin : va / 1024 ∉ T) (hmo : most ≤ T.length) :
    Calls Try.prog 26 #[.pointer (some ⟨r, 0, none⟩), .int .u32 va, .int .i64 fr, .int .u32 x] w fun e w' => e = .returned (.bool false) ∧ Kep w w' := by
  have htm : ¬ (T.length : Int) < most := by omega
  obtain ⟨pv, tv, hb, hp, ht⟩ := h.box
  obtain ⟨xt, ct, rfl, hlt0, hct, hmt, _⟩ := ht.lies
  have c0 : w.cell? ⟨r, 0, none⟩ = some (.int .i64 40) := by rw [cell_of_block hb]; rfl
  have g1 : ¬ (32768 : Int) ≤ va := by omega
  have g2 : ¬ (40 : Int) ≤ fr := by omega
  have g3 : ¬ (fr : Int) < 0 := by omega
  have HH : Hid (Calls Try.prog 55 #[.pointer (some ⟨r, 0, none⟩), .int .u32 (va / 1024 : Nat)] w fun e w' => e = .returned (.bool (decide (va / 1024 ∈ T))) ∧ Kep w w') := rs_has w r most T P F G h (va / 1024) (by omega)
  rw [show ((va / 1024 : Nat) : Int) = (va : Int) / 1024 by omega] at HH
  have h' : Hid (RS w r most T P F G) := h
  have hPh : Bd (P.length ≤ 600) := ⟨hP⟩
  obtain ⟨vb, hvb⟩ : ∃ vb : Nat, Bd ((va : Int) - (va : Int) % 64 = (vb : Int)) := ⟨va - va % 64, ⟨by omega⟩⟩
  have hvi : Bd (vb = 64 * (va / 64)) := ⟨by have := hvb.out; omega⟩
  have hvbb : Bd (vb < 4294967296) := ⟨by have := hvb.out; omega⟩
  obtain ⟨be, hbe⟩ : ∃ be : Nat, Bd ((x : Int) % 16 / 2 * 2 + 1 = (be : Int) ∧ be < 16) := ⟨x % 16 / 2 * 2 + 1, ⟨by omega, by omega⟩⟩
  have hpv : Hid (pgv (va / 64, entN fr x) = [.int .u32 (vb : Nat), .int .i64 (fr : Nat), .int .u32 (be : Nat)]) := by
    have e1 : 64 * (va / 64) = vb := hvi.out.symm
    have hb1 := hbe.out
    have e2 : entN fr x / 64 = fr := by unfold entN; omega
    have e3 : entN fr x % 64 = be := by unfold entN; omega
    rw [Hid]
    unfold pgv
    simp only [e1, e2, e3]
  have hTh : Bd (T.length ≤ 600 ∧ T.length ≤ ct ∧ ct ≤ maxLen ∧ most ≤ 600) := ⟨⟨hT, hct, hmt, hm⟩⟩
  have hvah : Bd (va < 4294967296) := ⟨by omega⟩
  skip
  clear h hp hlt0 hP hx hva hfr hT hct hmt hm
  rw [decide_eq_false hin] at HH
  go_enter Try.func26, Try.ntmps26
  go_wp2_with fail
  refine HH.out.mono ?_
  rintro e w0 ⟨rfl, K0⟩
  have K0' : Hid (Kep w w0) := K0
  have d2 : w0.cell? ⟨r, 2, none⟩ = some (.slice xt T.length ct) := by rw [cell_of_block (K0.block hb)]; rfl
  have d3 : w0.cell? ⟨r, 3, none⟩ = some (.int .i64 most) := by rw [cell_of_block (K0.block hb)]; rfl
  clear K0 HH c0 ht hin hb g1 g2 g3
  go_wp2_with fail
  go_quiet (fail)
  have KQ : Hid (Kep w (w0.drewN nq)) := K0'.out.drewN nq
  go_wp2_with fail
  go_ret
  exact ⟨rfl, KQ.out⟩
end Go.Proofs.Ythgkkjcemjadoaa
