/- Part of a proof. -/
import Derived.Test.YtnignfloedcmlaaGreatDoorJ38
import Derived.Test.YtnignfloedcmlaaGreatDoorJ39
namespace Go.Proofs.YtnignfloedcmlaaGreatDoor
open Go.RowKit
set_option linter.unusedVariables false
set_option linter.unusedSimpArgs false
theorem vinfo_nt : (Tryz.prog.info? 76).map (fun i => (i.zero, i.size, i.bytes)) = some (some (.agg #[.int .i64 0, .int .i64 0, .int .u32 0, .int .u32 0]), 4, 24) := by kernel_rfl
theorem news_nt {w : World} {e : Nt} : ∀ j u, (ntV e)[j]? = some u → (w.alloc (.cells #[.int .i64 e.1, .int .i64 e.2.1, .int .u32 e.2.2.1, .int .u32 e.2.2.2] 76)).cell? ((⟨w.heap.size, 0, none⟩ : Addr).add j) = some u := fun j u hj => by
  rw [Addr.add_lit, Nat.zero_add, cell_of_block (heap_alloc_new w _)]; simpa [ntV] using hj
theorem nt_ones (e : Nt) : ∀ u ∈ ntV e, u.oneCell' = true := by simp [ntV, Value.oneCell']
theorem mat_noted {w w' : World} {p pm R : Nat} {ix : List Nat} {x : MS} {q : Nat} {vn vn' : Value} {Fd Fn Fn' : List Nat} (h : MAt w p pm R ix x q vn Fd Fn) (hB : x.B ≠ []) {t : Sta} {m : Int} {N : List Nt} (k : Put (p :: Fn) w w') (bx : Bx w' p (mpt pm) (mpt q) t m vn')
    (sn : Sli w' 76 4 vn' N.length (nts N) Fn') (hF : ∀ g ∈ Fn', g ∈ Fn ∨ w.heap.size ≤ g) : MAt w' p pm R ix ⟨x.d, x.B, t, m, N⟩ q vn' Fd Fn' := by
  have lp := h.box.lt
  have ho : Off w (mpt pm) (p :: Fn) := h.far.off.sub (fun g hg => by rcases List.mem_cons.1 hg with rfl | hg; simp; simp [hg])
  have hR : R ∉ p :: Fn := fun hm => h.far.row (by rcases List.mem_cons.1 hm with rfl | hm; simp; simp [hm])
  have fr := h.far.more (m := p :: (Fd ++ Fn')) h.mem hB (fun g hg => by
    simp only [List.mem_cons, List.mem_append] at hg ⊢
    rcases hg with h1 | h1 | h1
    · exact .inl (.inl h1)
    · exact .inl (.inr (.inl h1))
    · rcases hF g h1 with h2 | h2
      · exact .inl (.inr (.inr h2))
      · exact .inr h2)
  refine ⟨bx, h.dev.put k (fun g hg hm => ?_), sn, h.mem.put k ho hR, ⟨Off.stay h.mem.ram fr.off k ho, fr.row⟩, h.pd, fun hm => ?_, fun g hg hm => ?_, fun g hg => ?_⟩
  · rcases List.mem_cons.1 hm with rfl | hm
    · exact h.pd hg
    · exact h.dn g hg hm
  · rcases hF p hm with h2 | h2
    · exact h.pn h2
    · omega
  · rcases hF g hm with h2 | h2
    · exact h.dn g hg h2
    · have := h.dev.lt g hg; omega
  · simp only [List.mem_cons, List.mem_append] at hg
    rcases hg with rfl | rfl | h1 | h1
    · exact h.lo g (by simp)
    · exact h.lo g (by simp)
    · exact h.lo g (by simp [h1])
    · rcases hF g h1 with h2 | h2
      · exact h.lo g (by simp [h2])
      · have := h.lo p (by simp); omega
set_option maxHeartbeats 16000000 in
set_option maxRecDepth 100000 in
theorem menter_any {w : World} {p pm R : Nat} {ix : List Nat} {x : MS} {q : Nat} {vn : Value} {Fd Fn : List Nat} (H : MAt w p pm R ix x q vn Fd Fn) (hB : x.B ≠ []) (ok : x.s.Ok) (hN : x.N.length < 1000000) (hn : 0 ≤ x.n ∧ x.n < 4611686018427387904) (k a back : Int) (ha : 0 ≤ a ∧ a < 4294967296) (hb : 0 ≤ back ∧ back < 4294967296) :
    Calls Tryz.prog 55 #[.pointer (some ⟨p, 0, none⟩), .agg #[.int .i64 k, .int .u32 a], .int .u32 back] w fun e w' => e = .returned (.tuple #[]) ∧ ∃ vn' Fn', MAt w' p pm R ix (dlvX x k a back) q vn' Fd Fn' ∧ Put (p :: Fn) w w' ∧ ∀ g ∈ Fn', g ∈ Fn ∨ w.heap.size ≤ g := by
  obtain ⟨i0, hi, hz0, hz1, hz2⟩ := info_parts vinfo_nt
  have hm1 : Hid (x.N.length + 1 ≤ maxLen) := by unfold Hid maxLen; omega
  have hm2 : Hid ((x.N.length + 1) * 24 ≤ 140737488355328) := by unfold Hid; omega
  have HE : Hid (∀ w, Calls Tryz.prog 65 #[.agg x.s.v, .agg #[.int .i64 k, .int .u32 a], .int .u32 back] w fun e w' => e = .returned (.agg (entS x.s k a back).v) ∧ Kep w w') := fun w => enter10_any x.s k a back w ok ha hb
  have H' := hidd H
  obtain ⟨W, hW⟩ : ∃ W, Hid (w.alloc (.cells #[.int .i64 k, .int .u32 a] 100) = W) := ⟨_, rfl⟩
  have KW : Hid (Kep w W) := by rw [Hid, ← hW.out]; exact (Kep.refl w).alloc _
  have PW : Hid (Put (p :: Fn) w W) := Put.of_kep KW.out
  have FW0 : Hid (W.heap[w.heap.size]? = some (.cells #[.int .i64 k, .int .u32 a] 100 (0, 0))) := by rw [Hid, ← hW.out]; exact hat _ _ _ rfl
  have BW : Hid (Bx W p (mpt pm) (mpt q) x.s x.n vn) := H.box.kep KW.out
  have SW : Hid (Sli W 76 4 vn x.N.length (nts x.N) Fn) := H.nts.kep KW.out
  have hpn : Hid (p ∉ Fn) := H.pn
  have hfn0 : Hid (w.heap.size ∉ Fn) := fun h => by have := H.nts.lt _ h; omega
  have hfp0 : Hid (w.heap.size ∉ [p]) := by have := H.box.lt; show _ ∉ _; simp; omega
  have hn0 := hn.1
  have hn1 := hn.2
  have eD : Hid (dlvX x k a back = ⟨x.d, x.B, entS x.s k a back, x.n + 1, x.N ++ [(x.n, k, back, a)]⟩) := rfl
  generalize dlvX x k a back = Y at eD ⊢
  obtain ⟨E, hE⟩ : ∃ E, Hid (entS x.s k a back = E) := ⟨_, rfl⟩
  rw [hE.out] at HE eD
  have hB' := hidd hB
  clear H ok hN hn ha hb hB
  go_enter Tryz.func55, Tryz.ntmps55
  go_upto_region 1 with fail
  rw [hW.out]
  obtain ⟨fb, qf⟩ : ∃ fb, Hid (fb = w.heap.size) := ⟨_, rfl⟩
  rw [← qf.out]
  have FW : Hid (W.heap[fb]? = some (.cells #[.int .i64 k, .int .u32 a] 100 (0, 0))) := by rw [qf.out]; exact FW0.out
  have hfn : Hid (fb ∉ Fn) := by rw [qf.out]; exact hfn0.out
  have hfp : Hid (fb ∉ [p]) := by rw [qf.out]; exact hfp0.out
  clear hW FW0 hfn0 hfp0
  refine wp_region_held_drew (S := fun w' => w'.heap[fb]? = some (.cells #[.int .i64 k, .int .u32 a] 100 (0, 0)) ∧ w'.cell? ⟨p, 21, none⟩ = some (.int .i64 x.n)) (by kernel_rfl) ⟨FW.out, BW.out.cn⟩ (fun hH => ?_)
  have BWd := hidd (show Bx W.drew p (mpt pm) (mpt q) x.s x.n vn from BW.out)
  have SWd := hidd (show Sli W.drew 76 4 vn x.N.length (nts x.N) Fn from SW.out)
  have PWd := hidd (show Put (p :: Fn) w W.drew from PW.out.drew)
  generalize W.drew = V at hH BWd SWd PWd ⊢
  refine wpAnyH_take (i := 0) (v := .pointer (some ⟨p, 0, none⟩)) rfl (by kernel_rfl) (by kernel_rfl) (by kernel_rfl) (fun _ _ _ h => h) (.inl ⟨by rfl, by intro w hS; go_simp⟩) hH ?_
  (try simp only [jA, jB, jC, Act.put, jD, jE, jF])
  refine wpAnyH_take (i := 1) (v := .pointer (some ⟨p, 0, none⟩)) rfl (by kernel_rfl) (by kernel_rfl) (by kernel_rfl) (fun _ _ _ h => h) (.inl ⟨by rfl, by intro w hS; go_simp⟩) hH ?_
  (try simp only [jA, jB, jC, Act.put, jD, jE, jF])
  refine wpAnyH_take (i := 2) (v := .pointer (some ⟨p, 0, none⟩)) rfl (by kernel_rfl) (by kernel_rfl) (by kernel_rfl) (fun _ _ _ h => h) (.inl ⟨by rfl, by intro w hS; go_simp⟩) hH ?_
  (try simp only [jA, jB, jC, Act.put, jD, jE, jF])
  refine wpAnyH_take (i := 3) (v := .pointer (some ⟨p, 22, none⟩)) rfl (by kernel_rfl) (by kernel_rfl) (by kernel_rfl) (fun _ _ _ h => h) (.inl ⟨by rfl, by intro w hS; go_simp⟩) hH ?_
  (try simp only [jA, jB, jC, Act.put, jD, jE, jF])
  refine wpAnyH_take (i := 5) (v := .pointer (some ⟨p, 0, none⟩)) rfl (by kernel_rfl) (by kernel_rfl) (by kernel_rfl) (fun _ _ _ h => h) (.inl ⟨by rfl, by intro w hS; go_simp⟩) hH ?_
  (try simp only [jA, jB, jC, Act.put, jD, jE, jF])
  refine wpAnyH_take (i := 6) (v := .pointer (some ⟨p, 0, none⟩)) rfl (by kernel_rfl) (by kernel_rfl) (by kernel_rfl) (fun _ _ _ h => h) (.inl ⟨by rfl, by intro w hS; go_simp⟩) hH ?_
  (try simp only [jA, jB, jC, Act.put, jD, jE, jF])
  refine wpAnyH_take (i := 7) (v := .pointer (some ⟨p, 21, none⟩)) rfl (by kernel_rfl) (by kernel_rfl) (by kernel_rfl) (fun _ _ _ h => h) (.inl ⟨by rfl, by intro w hS; go_simp⟩) hH ?_
  (try simp only [jA, jB, jC, Act.put, jD, jE, jF])
  refine wpAnyH_take (i := 8) (v := .int .i64 x.n) rfl (by kernel_rfl) (by kernel_rfl) (by kernel_rfl) (fun _ _ _ h => h) (.inl ⟨by rfl, by intro w hS; have l2 := hS.2; go_simp⟩) hH ?_
  (try simp only [jA, jB, jC, Act.put, jD, jE, jF])
  refine wpAnyH_take (i := 9) (v := .pointer (some ⟨fb, 0, none⟩)) rfl (by kernel_rfl) (by kernel_rfl) (by kernel_rfl) (fun _ _ _ h => h) (.inl ⟨by rfl, by intro w hS; go_simp⟩) hH ?_
  (try simp only [jA, jB, jC, Act.put, jD, jE, jF])
  refine wpAnyH_take (i := 10) (v := .int .i64 k) rfl (by kernel_rfl) (by kernel_rfl) (by kernel_rfl) (fun _ _ _ h => h) (.inl ⟨by rfl, by intro w hS; obtain ⟨l0, l1⟩ := flt_at hS.1; go_simp⟩) hH ?_
  (try simp only [jA, jB, jC, Act.put, jD, jE, jF])
  refine wpAnyH_take (i := 11) (v := .int .u32 back) rfl (by kernel_rfl) (by kernel_rfl) (by kernel_rfl) (fun _ _ _ h => h) (.inl ⟨by rfl, by intro w hS; go_simp⟩) hH ?_
  (try simp only [jA, jB, jC, Act.put, jD, jE, jF])
  refine wpAnyH_take (i := 12) (v := .pointer (some ⟨fb, 1, none⟩)) rfl (by kernel_rfl) (by kernel_rfl) (by kernel_rfl) (fun _ _ _ h => h) (.inl ⟨by rfl, by intro w hS; go_simp⟩) hH ?_
  (try simp only [jA, jB, jC, Act.put, jD, jE, jF])
  refine wpAnyH_take (i := 13) (v := .int .u32 a) rfl (by kernel_rfl) (by kernel_rfl) (by kernel_rfl) (fun _ _ _ h => h) (.inl ⟨by rfl, by intro w hS; obtain ⟨l0, l1⟩ := flt_at hS.1; go_simp⟩) hH ?_
  (try simp only [jA, jB, jC, Act.put, jD, jE, jF])
  refine wpAnyH_take (i := 14) (v := .agg #[.int .i64 x.n, .int .i64 k, .int .u32 back, .int .u32 a]) rfl (by kernel_rfl) (by kernel_rfl) (by kernel_rfl) (fun _ _ _ h => h) (.inl ⟨by rfl, by intro w hS; go_simp⟩) hH ?_
  (try simp only [jA, jB, jC, Act.put, jD, jE, jF])
  refine wpAnyH_ready (rs := [4, 15]) (by kernel_rfl) (by simp) ?_
  refine AllReadyH.cons rfl (fun K hK => ?_) ?_
  · rw [if_pos (by rfl)]
    have c22 := BWd.out.cN
    go_simp
    refine hK.out _ _ hH (fun hH => ?_)
    clear hK K
    (try simp only [jA, jB, jC, Act.put, jD, jE, jF])
    clear c22
    refine wpAnyH_ready (rs := [15]) (by kernel_rfl) (by simp) ?_
    refine AllReadyH.cons rfl (fun K hK => ?_) AllReadyH.nil
    rw [if_pos (by rfl)]
    go_simp
    refine hK.out _ _ ⟨(hsk _ _ _ (block_lt hH.1)).trans hH.1, (cell_old BWd.out.lt).trans hH.2⟩ (fun hH => ?_)
    clear hK K
    (try simp only [jA, jB, jC, Act.put, jD, jE, jF])
    have hsl := SWd.out.kep ((Kep.refl V).alloc (.cells #[.int .i64 x.n, .int .i64 k, .int .u32 back, .int .u32 a] 76))
    refine wpAnyH_ready (rs := [16]) (by kernel_rfl) (by simp) ?_
    refine AllReadyH.cons rfl (fun K hK => ?_) AllReadyH.nil
    rw [if_pos (by rfl)]
    refine wp_append_sli (.tmp 10) (.tmp 21) 51 rfl 76 i0 _ 4 24 Tryz.underlying51 hi hz0 hz1 hz2 rfl (by decide) vn x.N.length (nts x.N) Fn rfl hsl ⟨V.heap.size, 0, none⟩ 1 (ntV (x.n, k, back, a)) rfl rfl news_nt (nt_ones _) hm1.out hm2.out ?_
    intro v' w1 F1 S1 P1 H1
    have B1 := hidd ((BWd.out.kep ((Kep.refl V).alloc (.cells #[.int .i64 x.n, .int .i64 k, .int .u32 back, .int .u32 a] 76))).put P1.out hpn.out)
    have Q1 := hidd ((PWd.out.alloc (.cells #[.int .i64 x.n, .int .i64 k, .int .u32 back, .int .u32 a] 76)).onto P1.out (by intro b hb _; simp [hb]))
    have G1 := hidd (P1.out.keeps hH.1 hfn.out)
    refine hK.out _ _ ⟨G1.out, B1.out.cn⟩ (fun hH => ?_)
    clear hK K
    (try simp only [jA, jB, jC, Act.put, jD, jE, jF])
    refine wpAnyH_take (i := 17) (v := .pointer (some ⟨p, 0, none⟩)) rfl (by kernel_rfl) (by kernel_rfl) (by kernel_rfl) (fun _ _ _ h => h) (.inl ⟨by rfl, by intro w hS; go_simp⟩) hH ?_
    (try simp only [jA, jB, jC, Act.put, jD, jE, jF])
    refine wpAnyH_take (i := 18) (v := .pointer (some ⟨p, 22, none⟩)) rfl (by kernel_rfl) (by kernel_rfl) (by kernel_rfl) (fun _ _ _ h => h) (.inl ⟨by rfl, by intro w hS; go_simp⟩) hH ?_
    (try simp only [jA, jB, jC, Act.put, jD, jE, jF])
    obtain ⟨x1, c1, hv', _⟩ := S1.out.lies
    subst hv'
    have d0 := B1.out.cN
    have d1 := B1.out.fz 22
    refine wpAnyH_ready (rs := [19]) (by kernel_rfl) (by simp) ?_
    refine AllReadyH.cons rfl (fun K hK => ?_) AllReadyH.nil
    rw [if_pos (by rfl)]
    go_simp
    have B2 := hidd (B1.out.setL (.slice x1 (x.N.length + 1) c1))
    have Q2 := hidd (Q1.out.setCell (p := ⟨p, 22, none⟩) (by simp) (.slice x1 (x.N.length + 1) c1))
    have P2 := hidd ((Put.refl (l := [p]) w1).setCell (p := ⟨p, 22, none⟩) (by simp) (.slice x1 (x.N.length + 1) c1))
    refine hK.out _ _ ⟨P2.out.keeps G1.out hfp.out, B2.out.cn⟩ (fun hH => ?_)
    clear hK K
    (try simp only [jA, jB, jC, Act.put, jD, jE, jF])
    refine wpAnyH_done (by kernel_rfl) ?_ _
    have G2 := hidd (P2.out.keeps G1.out hfp.out)
    clear d0 d1 hH hsl
    generalize w1.setCell ⟨p, 22, none⟩ (.slice x1 (x.N.length + 1) c1) = W2 at B2 Q2 P2 G2 ⊢
    go_upto_region 2 with fail
    refine wp_region_held_drew (S := fun w' => w'.heap[fb]? = some (.cells #[.int .i64 k, .int .u32 a] 100 (0, 0))) (by kernel_rfl) G2.out (fun hH => ?_)
    have B2d := hidd (show Bx W2.drew p (mpt pm) (mpt q) x.s x.n (.slice x1 (x.N.length + 1) c1) from B2.out)
    have Q2d := hidd (show Put (p :: Fn) w W2.drew from Q2.out.drew)
    have P2d := hidd (show Put [p] w1 W2.drew from P2.out.drew)
    generalize W2.drew = V2 at hH B2d Q2d P2d ⊢
    refine wpAnyH_take (i := 0) (v := .pointer (some ⟨p, 0, none⟩)) rfl (by kernel_rfl) (by kernel_rfl) (by kernel_rfl) (fun _ _ _ h => h) (.inl ⟨by rfl, by intro w hS; go_simp⟩) hH ?_
    (try simp only [jA, jB, jC, Act.put, jD, jE, jF])
    refine wpAnyH_take (i := 1) (v := .pointer (some ⟨p, 0, none⟩)) rfl (by kernel_rfl) (by kernel_rfl) (by kernel_rfl) (fun _ _ _ h => h) (.inl ⟨by rfl, by intro w hS; go_simp⟩) hH ?_
    (try simp only [jA, jB, jC, Act.put, jD, jE, jF])
    refine wpAnyH_take (i := 2) (v := .pointer (some ⟨p, 0, none⟩)) rfl (by kernel_rfl) (by kernel_rfl) (by kernel_rfl) (fun _ _ _ h => h) (.inl ⟨by rfl, by intro w hS; go_simp⟩) hH ?_
    (try simp only [jA, jB, jC, Act.put, jD, jE, jF])
    refine wpAnyH_take (i := 3) (v := .pointer (some ⟨p, 2, none⟩)) rfl (by kernel_rfl) (by kernel_rfl) (by kernel_rfl) (fun _ _ _ h => h) (.inl ⟨by rfl, by intro w hS; go_simp⟩) hH ?_
    (try simp only [jA, jB, jC, Act.put, jD, jE, jF])
    refine wpAnyH_take (i := 5) (v := .agg #[.int .i64 k, .int .u32 a]) rfl (by kernel_rfl) (by kernel_rfl) (by kernel_rfl) (fun _ _ _ h => h) (yields_row rfl 100 _ rfl fb rfl 100 #[.int .i64 k, .int .u32 a] (0, 0) _ (fun w hS => hS) Tryz.underlying100 rfl size_flt) hH ?_
    (try simp only [jA, jB, jC, Act.put, jD, jE, jF])
    refine wpAnyH_take (i := 6) (v := .int .u32 back) rfl (by kernel_rfl) (by kernel_rfl) (by kernel_rfl) (fun _ _ _ h => h) (.inl ⟨by rfl, by intro w hS; go_simp⟩) hH ?_
    (try simp only [jA, jB, jC, Act.put, jD, jE, jF])
    refine wpAnyH_ready (rs := [4]) (by kernel_rfl) (by simp) ?_
    refine AllReadyH.cons rfl (fun K hK => ?_) AllReadyH.nil
    rw [if_pos (by rfl)]
    refine wp_load_mid 26 _ (by rfl) p 2 (by rfl) x.s.v.toList _ B2d.out.st Tryz.underlying26 rfl size_sta ?_
    refine hK.out _ _ hH (fun hH => ?_)
    clear hK K
    (try simp only [jA, jB, jC, Act.put, jD, jE, jF])
    refine wpAnyH_ready (rs := [7]) (by kernel_rfl) (by simp) ?_
    refine AllReadyH.cons rfl (fun K hK => ?_) AllReadyH.nil
    rw [if_pos (by rfl)]
    go_simp
    refine (HE.out V2).mono ?_
    rintro e w3 ⟨rfl, k3⟩
    refine hK.out _ _ (k3.block hH) (fun hH => ?_)
    clear hK K
    (try simp only [jA, jB, jC, Act.put, jD, jE, jF])
    have B3 := hidd (B2d.out.kep k3)
    have Q3 := hidd (Q2d.out.trans (Put.of_kep k3))
    have P3 := hidd (P2d.out.trans (Put.of_kep k3))
    have G3 := hidd hH
    clear k3
    refine wpAnyH_take (i := 8) (v := .pointer (some ⟨p, 0, none⟩)) rfl (by kernel_rfl) (by kernel_rfl) (by kernel_rfl) (fun _ _ _ h => h) (.inl ⟨by rfl, by intro w hS; go_simp⟩) hH ?_
    (try simp only [jA, jB, jC, Act.put, jD, jE, jF])
    refine wpAnyH_take (i := 9) (v := .pointer (some ⟨p, 2, none⟩)) rfl (by kernel_rfl) (by kernel_rfl) (by kernel_rfl) (fun _ _ _ h => h) (.inl ⟨by rfl, by intro w hS; go_simp⟩) hH ?_
    (try simp only [jA, jB, jC, Act.put, jD, jE, jF])
    refine wpAnyH_ready (rs := [10]) (by kernel_rfl) (by simp) ?_
    refine AllReadyH.cons rfl (fun K hK => ?_) AllReadyH.nil
    rw [if_pos (by rfl)]
    refine wp_store_mid 26 _ _ (by rfl) p 2 E.v (by rfl) (by rfl) B3.out.there (by exact size_sta) (v_one _) ?_
    have B4 := hidd (B3.out.setSt E)
    have Q4 := hidd (Put.setCells (l := p :: Fn) (g := p) (by simp) E.v.toList 2 w3 Q3.out)
    have P4 := hidd (Put.setCells (l := [p]) (g := p) (by simp) E.v.toList 2 w3 P3.out)
    refine hK.out _ _ ((Put.setCells (l := [p]) (g := p) (by simp) E.v.toList 2 w3 (Put.refl w3)).keeps G3.out hfp.out) (fun hH => ?_)
    clear hK K
    (try simp only [jA, jB, jC, Act.put, jD, jE, jF])
    refine wpAnyH_done (by kernel_rfl) ?_ _
    generalize w3.setCells p 2 E.v.toList = W4 at B4 Q4 P4 hH ⊢
    go_upto_region 3 with fail
    have d0 := B4.out.cn
    have d1 := B4.out.fz 21
    have B5 := hidd (B4.out.setN (x.n + 1))
    have Q5 := hidd (Q4.out.setCell (p := ⟨p, 21, none⟩) (by simp) (.int .i64 (x.n + 1)))
    have P5 := hidd (P4.out.setCell (p := ⟨p, 21, none⟩) (by simp) (.int .i64 (x.n + 1)))
    go_wp2_with fail
    go_end0
    have hz := (KW.out).size
    have F1w : ∀ g ∈ F1, g ∈ Fn ∨ w.heap.size ≤ g := fun g hg => (H1.out g hg).imp id (fun h => by have := PWd.out.size; simp at h; omega)
    have hF1 : ∀ g ∈ F1, g ∉ [p] := fun g hg hm => by
      obtain rfl : g = p := by simpa using hm
      rcases F1w g hg with h | h
      · exact hpn.out h
      · have := H'.out.box.lt; omega
    refine ⟨rfl, .slice x1 (x.N.length + 1) c1, F1, ?_, Q5.out, F1w⟩
    rw [eD.out]
    refine mat_noted H'.out hB'.out Q5.out B5.out ?_ F1w
    have sn := S1.out.put P5.out hF1
    rw [← nts_snoc] at sn
    simpa using sn
  refine AllReadyH.cons rfl (fun K hK => ?_) AllReadyH.nil
  rw [if_pos (by rfl)]
  go_simp
  refine hK.out _ _ ⟨(hsk _ _ _ (block_lt hH.1)).trans hH.1, (cell_old BWd.out.lt).trans hH.2⟩ (fun hH => ?_)
  clear hK K
  (try simp only [jA, jB, jC, Act.put, jD, jE, jF])
  refine wpAnyH_ready (rs := [4]) (by kernel_rfl) (by simp) ?_
  refine AllReadyH.cons rfl (fun K hK => ?_) AllReadyH.nil
  rw [if_pos (by rfl)]
  have c22 := (cell_old (o := .cells #[.int .i64 x.n, .int .i64 k, .int .u32 back, .int .u32 a] 76) BWd.out.lt).trans BWd.out.cN
  go_simp
  refine hK.out _ _ hH (fun hH => ?_)
  clear hK K
  (try simp only [jA, jB, jC, Act.put, jD, jE, jF])
  clear c22
  have hsl := SWd.out.kep ((Kep.refl V).alloc (.cells #[.int .i64 x.n, .int .i64 k, .int .u32 back, .int .u32 a] 76))
  refine wpAnyH_ready (rs := [16]) (by kernel_rfl) (by simp) ?_
  refine AllReadyH.cons rfl (fun K hK => ?_) AllReadyH.nil
  rw [if_pos (by rfl)]
  refine wp_append_sli (.tmp 10) (.tmp 21) 51 rfl 76 i0 _ 4 24 Tryz.underlying51 hi hz0 hz1 hz2 rfl (by decide) vn x.N.length (nts x.N) Fn rfl hsl ⟨V.heap.size, 0, none⟩ 1 (ntV (x.n, k, back, a)) rfl rfl news_nt (nt_ones _) hm1.out hm2.out ?_
  intro v' w1 F1 S1 P1 H1
  have B1 := hidd ((BWd.out.kep ((Kep.refl V).alloc (.cells #[.int .i64 x.n, .int .i64 k, .int .u32 back, .int .u32 a] 76))).put P1.out hpn.out)
  have Q1 := hidd ((PWd.out.alloc (.cells #[.int .i64 x.n, .int .i64 k, .int .u32 back, .int .u32 a] 76)).onto P1.out (by intro b hb _; simp [hb]))
  have G1 := hidd (P1.out.keeps hH.1 hfn.out)
  refine hK.out _ _ ⟨G1.out, B1.out.cn⟩ (fun hH => ?_)
  clear hK K
  (try simp only [jA, jB, jC, Act.put, jD, jE, jF])
  refine wpAnyH_take (i := 17) (v := .pointer (some ⟨p, 0, none⟩)) rfl (by kernel_rfl) (by kernel_rfl) (by kernel_rfl) (fun _ _ _ h => h) (.inl ⟨by rfl, by intro w hS; go_simp⟩) hH ?_
  (try simp only [jA, jB, jC, Act.put, jD, jE, jF])
  refine wpAnyH_take (i := 18) (v := .pointer (some ⟨p, 22, none⟩)) rfl (by kernel_rfl) (by kernel_rfl) (by kernel_rfl) (fun _ _ _ h => h) (.inl ⟨by rfl, by intro w hS; go_simp⟩) hH ?_
  (try simp only [jA, jB, jC, Act.put, jD, jE, jF])
  obtain ⟨x1, c1, hv', _⟩ := S1.out.lies
  subst hv'
  have d0 := B1.out.cN
  have d1 := B1.out.fz 22
  refine wpAnyH_ready (rs := [19]) (by kernel_rfl) (by simp) ?_
  refine AllReadyH.cons rfl (fun K hK => ?_) AllReadyH.nil
  rw [if_pos (by rfl)]
  go_simp
  have B2 := hidd (B1.out.setL (.slice x1 (x.N.length + 1) c1))
  have Q2 := hidd (Q1.out.setCell (p := ⟨p, 22, none⟩) (by simp) (.slice x1 (x.N.length + 1) c1))
  have P2 := hidd ((Put.refl (l := [p]) w1).setCell (p := ⟨p, 22, none⟩) (by simp) (.slice x1 (x.N.length + 1) c1))
  refine hK.out _ _ ⟨P2.out.keeps G1.out hfp.out, B2.out.cn⟩ (fun hH => ?_)
  clear hK K
  (try simp only [jA, jB, jC, Act.put, jD, jE, jF])
  refine wpAnyH_done (by kernel_rfl) ?_ _
  have G2 := hidd (P2.out.keeps G1.out hfp.out)
  clear d0 d1 hH hsl
  generalize w1.setCell ⟨p, 22, none⟩ (.slice x1 (x.N.length + 1) c1) = W2 at B2 Q2 P2 G2 ⊢
  go_upto_region 2 with fail
  refine wp_region_held_drew (S := fun w' => w'.heap[fb]? = some (.cells #[.int .i64 k, .int .u32 a] 100 (0, 0))) (by kernel_rfl) G2.out (fun hH => ?_)
  have B2d := hidd (show Bx W2.drew p (mpt pm) (mpt q) x.s x.n (.slice x1 (x.N.length + 1) c1) from B2.out)
  have Q2d := hidd (show Put (p :: Fn) w W2.drew from Q2.out.drew)
  have P2d := hidd (show Put [p] w1 W2.drew from P2.out.drew)
  generalize W2.drew = V2 at hH B2d Q2d P2d ⊢
  refine wpAnyH_take (i := 0) (v := .pointer (some ⟨p, 0, none⟩)) rfl (by kernel_rfl) (by kernel_rfl) (by kernel_rfl) (fun _ _ _ h => h) (.inl ⟨by rfl, by intro w hS; go_simp⟩) hH ?_
  (try simp only [jA, jB, jC, Act.put, jD, jE, jF])
  refine wpAnyH_take (i := 1) (v := .pointer (some ⟨p, 0, none⟩)) rfl (by kernel_rfl) (by kernel_rfl) (by kernel_rfl) (fun _ _ _ h => h) (.inl ⟨by rfl, by intro w hS; go_simp⟩) hH ?_
  (try simp only [jA, jB, jC, Act.put, jD, jE, jF])
  refine wpAnyH_take (i := 2) (v := .pointer (some ⟨p, 0, none⟩)) rfl (by kernel_rfl) (by kernel_rfl) (by kernel_rfl) (fun _ _ _ h => h) (.inl ⟨by rfl, by intro w hS; go_simp⟩) hH ?_
  (try simp only [jA, jB, jC, Act.put, jD, jE, jF])
  refine wpAnyH_take (i := 3) (v := .pointer (some ⟨p, 2, none⟩)) rfl (by kernel_rfl) (by kernel_rfl) (by kernel_rfl) (fun _ _ _ h => h) (.inl ⟨by rfl, by intro w hS; go_simp⟩) hH ?_
  (try simp only [jA, jB, jC, Act.put, jD, jE, jF])
  refine wpAnyH_take (i := 5) (v := .agg #[.int .i64 k, .int .u32 a]) rfl (by kernel_rfl) (by kernel_rfl) (by kernel_rfl) (fun _ _ _ h => h) (yields_row rfl 100 _ rfl fb rfl 100 #[.int .i64 k, .int .u32 a] (0, 0) _ (fun w hS => hS) Tryz.underlying100 rfl size_flt) hH ?_
  (try simp only [jA, jB, jC, Act.put, jD, jE, jF])
  refine wpAnyH_take (i := 6) (v := .int .u32 back) rfl (by kernel_rfl) (by kernel_rfl) (by kernel_rfl) (fun _ _ _ h => h) (.inl ⟨by rfl, by intro w hS; go_simp⟩) hH ?_
  (try simp only [jA, jB, jC, Act.put, jD, jE, jF])
  refine wpAnyH_ready (rs := [4]) (by kernel_rfl) (by simp) ?_
  refine AllReadyH.cons rfl (fun K hK => ?_) AllReadyH.nil
  rw [if_pos (by rfl)]
  refine wp_load_mid 26 _ (by rfl) p 2 (by rfl) x.s.v.toList _ B2d.out.st Tryz.underlying26 rfl size_sta ?_
  refine hK.out _ _ hH (fun hH => ?_)
  clear hK K
  (try simp only [jA, jB, jC, Act.put, jD, jE, jF])
  refine wpAnyH_ready (rs := [7]) (by kernel_rfl) (by simp) ?_
  refine AllReadyH.cons rfl (fun K hK => ?_) AllReadyH.nil
  rw [if_pos (by rfl)]
  go_simp
  refine (HE.out V2).mono ?_
  rintro e w3 ⟨rfl, k3⟩
  refine hK.out _ _ (k3.block hH) (fun hH => ?_)
  clear hK K
  (try simp only [jA, jB, jC, Act.put, jD, jE, jF])
  have B3 := hidd (B2d.out.kep k3)
  have Q3 := hidd (Q2d.out.trans (Put.of_kep k3))
  have P3 := hidd (P2d.out.trans (Put.of_kep k3))
  have G3 := hidd hH
  clear k3
  refine wpAnyH_take (i := 8) (v := .pointer (some ⟨p, 0, none⟩)) rfl (by kernel_rfl) (by kernel_rfl) (by kernel_rfl) (fun _ _ _ h => h) (.inl ⟨by rfl, by intro w hS; go_simp⟩) hH ?_
  (try simp only [jA, jB, jC, Act.put, jD, jE, jF])
  refine wpAnyH_take (i := 9) (v := .pointer (some ⟨p, 2, none⟩)) rfl (by kernel_rfl) (by kernel_rfl) (by kernel_rfl) (fun _ _ _ h => h) (.inl ⟨by rfl, by intro w hS; go_simp⟩) hH ?_
  (try simp only [jA, jB, jC, Act.put, jD, jE, jF])
  refine wpAnyH_ready (rs := [10]) (by kernel_rfl) (by simp) ?_
  refine AllReadyH.cons rfl (fun K hK => ?_) AllReadyH.nil
  rw [if_pos (by rfl)]
  refine wp_store_mid 26 _ _ (by rfl) p 2 E.v (by rfl) (by rfl) B3.out.there (by exact size_sta) (v_one _) ?_
  have B4 := hidd (B3.out.setSt E)
  have Q4 := hidd (Put.setCells (l := p :: Fn) (g := p) (by simp) E.v.toList 2 w3 Q3.out)
  have P4 := hidd (Put.setCells (l := [p]) (g := p) (by simp) E.v.toList 2 w3 P3.out)
  refine hK.out _ _ ((Put.setCells (l := [p]) (g := p) (by simp) E.v.toList 2 w3 (Put.refl w3)).keeps G3.out hfp.out) (fun hH => ?_)
  clear hK K
  (try simp only [jA, jB, jC, Act.put, jD, jE, jF])
  refine wpAnyH_done (by kernel_rfl) ?_ _
  generalize w3.setCells p 2 E.v.toList = W4 at B4 Q4 P4 hH ⊢
  go_upto_region 3 with fail
  have d0 := B4.out.cn
  have d1 := B4.out.fz 21
  have B5 := hidd (B4.out.setN (x.n + 1))
  have Q5 := hidd (Q4.out.setCell (p := ⟨p, 21, none⟩) (by simp) (.int .i64 (x.n + 1)))
  have P5 := hidd (P4.out.setCell (p := ⟨p, 21, none⟩) (by simp) (.int .i64 (x.n + 1)))
  go_wp2_with fail
  go_end0
  have hz := (KW.out).size
  have F1w : ∀ g ∈ F1, g ∈ Fn ∨ w.heap.size ≤ g := fun g hg => (H1.out g hg).imp id (fun h => by have := PWd.out.size; simp at h; omega)
  have hF1 : ∀ g ∈ F1, g ∉ [p] := fun g hg hm => by
    obtain rfl : g = p := by simpa using hm
    rcases F1w g hg with h | h
    · exact hpn.out h
    · have := H'.out.box.lt; omega
  refine ⟨rfl, .slice x1 (x.N.length + 1) c1, F1, ?_, Q5.out, F1w⟩
  rw [eD.out]
  refine mat_noted H'.out hB'.out Q5.out B5.out ?_ F1w
  have sn := S1.out.put P5.out hF1
  rw [← nts_snoc] at sn
  simpa using sn
end Go.Proofs.YtnignfloedcmlaaGreatDoor
