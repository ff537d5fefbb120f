/- Part of a proof. -/
import Derived.Deep.AppendLies
import Derived.Test.YtamffningddgbaaGreatDoorJ16
import Derived.Test.YtamffningddgbaaGreatDoorJ13
namespace Go.Proofs.YtamffningddgbaaGreatDoor
open Go.RowKit
set_option linter.unusedVariables false
set_option linter.unusedSimpArgs false
theorem src_row (x : Sr) : (srV x).toArray = srcA x.1 x.2.bits x.2.at_ x.2.entry x.2.dir x.2.tab x.2.page := rfl
theorem info_int : (Tryz.prog.info? 3).map (fun i => (i.zero, i.size, i.bytes)) = some (some (.int .i64 0), 1, 8) := by kernel_rfl
theorem info_u32 : (Tryz.prog.info? 25).map (fun i => (i.zero, i.size, i.bytes)) = some (some (.int .u32 0), 1, 4) := by kernel_rfl
theorem srs_cells {w : World} {b off : Nat} {L : List Sr} (h : ∀ j u, (srs L)[j]? = some u → w.cell? ⟨b, off + j, none⟩ = some u) {k : Nat} (hk : k < L.length) : ∀ i u, (srV (L[k]'hk))[i]? = some u → w.cell? ⟨b, off + k * 7 + i, none⟩ = some u := fun i u hi => by
  have hi' : i < 7 := by have := (List.getElem?_eq_some_iff.1 hi).1; simpa [srV] using this
  rw [Nat.add_assoc]
  exact h _ _ ((srs_at L k _ (List.getElem?_eq_getElem hk) i hi').trans hi)
theorem onPage_any (x : Sr) (h0 : 0 ≤ x.1 ∧ x.1 < 4294967296) (w : World) : Calls Tryz.prog 23 #[.agg (srV x).toArray] w fun e w' => e = .returned (.int .u32 (x.1 / 64)) ∧ Kep w w' := by
  rw [src_row]
  obtain ⟨h0, h1⟩ := h0
  have c : (w.alloc (.cells (srcA x.1 x.2.bits x.2.at_ x.2.entry x.2.dir x.2.tab x.2.page) 74)).cell? ⟨w.heap.size, 0, none⟩ = some (.int .u32 x.1) := cell_of_block (hat _ _ _ rfl)
  have K := hidd ((Kep.refl w).alloc (.cells (srcA x.1 x.2.bits x.2.at_ x.2.entry x.2.dir x.2.tab x.2.page) 74))
  go_enter Tryz.func23, Tryz.ntmps23
  go_upto_region 1 with fail
  generalize w.alloc (.cells (srcA x.1 x.2.bits x.2.at_ x.2.entry x.2.dir x.2.tab x.2.page) 74) = W at *
  go_wp2
  go_ret
  exact ⟨rfl, K.out⟩
theorem inFrame_any (x : Sr) (w : World) : Calls Tryz.prog 26 #[.agg (srV x).toArray] w fun e w' => e = .returned (.int .i64 (x.2.page : Nat)) ∧ Kep w w' := by
  rw [src_row]
  have c : (w.alloc (.cells (srcA x.1 x.2.bits x.2.at_ x.2.entry x.2.dir x.2.tab x.2.page) 74)).cell? ⟨w.heap.size, 6, none⟩ = some (.int .i64 x.2.page) := cell_of_block (hat _ _ _ rfl)
  have K := hidd ((Kep.refl w).alloc (.cells (srcA x.1 x.2.bits x.2.at_ x.2.entry x.2.dir x.2.tab x.2.page) 74))
  go_enter Tryz.func26, Tryz.ntmps26
  go_upto_region 1 with fail
  generalize w.alloc (.cells (srcA x.1 x.2.bits x.2.at_ x.2.entry x.2.dir x.2.tab x.2.page) 74) = W at *
  go_wp2
  go_ret
  exact ⟨rfl, K.out⟩
theorem byDirectory_any (x : Sr) (w : World) : Calls Tryz.prog 28 #[.agg (srV x).toArray] w fun e w' => e = .returned (.int .i64 (x.2.dir : Nat)) ∧ Kep w w' := by
  rw [src_row]
  have c : (w.alloc (.cells (srcA x.1 x.2.bits x.2.at_ x.2.entry x.2.dir x.2.tab x.2.page) 74)).cell? ⟨w.heap.size, 4, none⟩ = some (.int .i64 x.2.dir) := cell_of_block (hat _ _ _ rfl)
  have K := hidd ((Kep.refl w).alloc (.cells (srcA x.1 x.2.bits x.2.at_ x.2.entry x.2.dir x.2.tab x.2.page) 74))
  go_enter Tryz.func28, Tryz.ntmps28
  go_upto_region 1 with fail
  generalize w.alloc (.cells (srcA x.1 x.2.bits x.2.at_ x.2.entry x.2.dir x.2.tab x.2.page) 74) = W at *
  go_wp2
  go_ret
  exact ⟨rfl, K.out⟩
theorem byTable_any (x : Sr) (w : World) : Calls Tryz.prog 29 #[.agg (srV x).toArray] w fun e w' => e = .returned (.int .i64 (x.2.tab : Nat)) ∧ Kep w w' := by
  rw [src_row]
  have c : (w.alloc (.cells (srcA x.1 x.2.bits x.2.at_ x.2.entry x.2.dir x.2.tab x.2.page) 74)).cell? ⟨w.heap.size, 5, none⟩ = some (.int .i64 x.2.tab) := cell_of_block (hat _ _ _ rfl)
  have K := hidd ((Kep.refl w).alloc (.cells (srcA x.1 x.2.bits x.2.at_ x.2.entry x.2.dir x.2.tab x.2.page) 74))
  go_enter Tryz.func29, Tryz.ntmps29
  go_upto_region 1 with fail
  generalize w.alloc (.cells (srcA x.1 x.2.bits x.2.at_ x.2.entry x.2.dir x.2.tab x.2.page) 74) = W at *
  go_wp2
  go_ret
  exact ⟨rfl, K.out⟩
set_option maxHeartbeats 4000000 in
set_option maxRecDepth 100000 in
theorem pages_any {w : World} {x : Option Addr} {n cap : Nat} {L : List Sr} (hx : Lies w x (srs L)) (hl : L.length = n) (h1 : 1 ≤ n) (h2 : n ≤ 300) (hc : n ≤ cap) (hm : cap ≤ maxLen) {tb : Nat} (ht : w.heap[tb]? = some (.cells #[.func (.func 23) #[] #[]] 75 (0, 0))) (hp : (L.map fun x : Sr => x.1 / 64).Pairwise (· ≤ ·)) (h0 : ∀ x ∈ L, 0 ≤ x.1 ∧ x.1 < 4294967296) :
    Calls Tryz.prog 22 #[.slice x n cap, .slice (some ⟨tb, 0, none⟩) 1 1] w fun e w' => ∃ y c, e = .returned (.slice y (pgL L).length c) ∧ Lies w' y (num .u32 (pgL L)) ∧ (pgL L).length ≤ c ∧ c ≤ maxLen ∧ Kep w w' ∧ ∀ b o t, y = some ⟨b, o, t⟩ → w.heap.size ≤ b := by
  obtain ⟨b, off, rfl, hb, hcell⟩ : ∃ b off : Nat, x = some ⟨b, off, none⟩ ∧ b < w.heap.size ∧ ∀ j u, (srs L)[j]? = some u → w.cell? ⟨b, off + j, none⟩ = some u := by
    rcases hx with h | h
    · have := congrArg List.length h; rw [srs_len] at this; simp at this; omega
    · exact h
  obtain ⟨i0, hi, hz0, hz1, hz2⟩ := info_parts info_u32
  have HC := hidd hcell
  have HT := hidd ht
  have HL := hidd hl
  have hn1 : (1 : Int) ≤ n := by omega
  have hn2 : (n : Int) ≤ 300 := by omega
  have lb := hidd hb
  have H1 := hidd h1
  have HM : Hid (n ≤ cap ∧ cap ≤ maxLen) := ⟨hc, hm⟩
  clear hx hl hcell ht hb h1 h2 hc hm
  go_enter Tryz.func22, Tryz.ntmps22
  go_wp2_with fail
  go_loopw [5, 12] (fun v i wr => ∃ (k : Nat) (xs : Option Addr) (q cs : Nat), (k : Int) ≤ n ∧ i = .int .i64 k ∧ v = .slice xs q cs ∧ (q : Int) = k * 1 ∧ Hid (∃ G, Sli wr 25 1 (.slice xs q cs) q (num .u32 (List.map (fun x : Sr => x.1 / 64) (L.take k))) G ∧ Kep w wr ∧ ∀ b ∈ G, w.heap.size ≤ b)) (fun _ i _ => n - (intOf i).toNat)
  case atStart => exact ⟨0, none, 0, 0, by omega, rfl, rfl, rfl, [], by rw [List.take_zero]; exact Sli.nil _ _ _, Kep.refl _, by simp⟩
  case round =>
    obtain ⟨k, xs, q, cs, hkn, rfl, rfl, hq, A⟩ := hrel
    obtain ⟨G, SA, K, gA⟩ := A.out
    by_cases hlt : k < n
    · have hlt' : (k : Int) < n := by omega
      have hkl : k < L.length := by have := HL.out; omega
      obtain ⟨⟨sa, sb, st, se, sd, su, sp⟩, hsx⟩ : ∃ sx : Sr, L[k] = sx := ⟨_, rfl⟩
      have hsx := hidd hsx
      have c0 : ∀ i u, (srV (sa, ⟨sb, st, se, sd, su, sp⟩))[i]? = some u → wr.cell? ⟨b, off + k * 7 + i, none⟩ = some u := fun i u hi => by
        have e := srs_cells HC.out hkl i u (by rw [hsx.out]; exact hi)
        rw [K.cell lb.out]; exact e
      have hsn : Hid (num .u32 (List.map (fun x : Sr => x.1 / 64) (L.take k)) ++ [.int .u32 (sa / 64)] = num .u32 (List.map (fun x : Sr => x.1 / 64) (L.take (k + 1)))) := by
        rw [Hid, List.take_succ_eq_append_getElem hkl, hsx.out]; simp [num]
      have s0 := h0 _ (List.getElem_mem hkl)
      rw [hsx.out] at s0
      have SA' := hidd SA
      have gA' := hidd gA
      have K' := hidd K
      have e0 : wr.cell? ⟨b, off + k * 7, none⟩ = some (.int .u32 sa) := c0 0 _ rfl
      have e1 : wr.cell? ⟨b, off + k * 7 + 1, none⟩ = some (.int .u32 sb) := c0 1 _ rfl
      have e2 : wr.cell? ⟨b, off + k * 7 + 2, none⟩ = some (.int .u32 st) := c0 2 _ rfl
      have e3 : wr.cell? ⟨b, off + k * 7 + 3, none⟩ = some (.int .u32 se) := c0 3 _ rfl
      have e4 : wr.cell? ⟨b, off + k * 7 + 4, none⟩ = some (.int .i64 sd) := c0 4 _ rfl
      have e5 : wr.cell? ⟨b, off + k * 7 + 5, none⟩ = some (.int .i64 su) := c0 5 _ rfl
      have e6 : wr.cell? ⟨b, off + k * 7 + 6, none⟩ = some (.int .i64 sp) := c0 6 _ rfl
      clear SA gA K A c0
      go_upto_region 5 with fail
      obtain ⟨W0, hW0⟩ : ∃ W, Hid (wr.alloc (.cells (srcA sa sb st se sd su sp) 74) = W) := ⟨_, rfl⟩
      rw [hW0.out]
      obtain ⟨z, qz⟩ : ∃ z, Hid (z = wr.heap.size) := ⟨_, rfl⟩
      rw [← qz.out]
      have k0 : Kep wr W0 := by rw [← hW0.out]; exact (Kep.refl _).alloc _
      have ZB : Hid (W0.heap[z]? = some (.cells (srcA sa sb st se sd su sp) 74 (0, 0))) := by rw [Hid, ← hW0.out, qz.out]; exact hat _ _ _ rfl
      have TB := hidd ((kep_trans K'.out k0).block HT.out)
      have KZ := hidd (kep_trans K'.out k0)
      have S0 := hidd (SA'.out.kep k0)
      have zl := hidd (block_lt ZB.out)
      clear k0 e0 e1 e2 e3 e4 e5 e6 SA'
      go_wp2_with fail
      refine wp_loop_rounds 2 ?_
      rw [rounds_succ]
      have t0 : W0.cell? ⟨tb, 0, none⟩ = some (.func (.func 23) #[] #[]) := cell_of_block TB.out
      have ZL0 : Hid (∀ i u, (srcA sa sb st se sd su sp)[i]? = some u → W0.cell? ⟨z, i, none⟩ = some u) := fun i u hu => (cell_of_block ZB.out).trans hu
      have d0 := ZL0.out 0 _ rfl; have d1 := ZL0.out 1 _ rfl; have d2 := ZL0.out 2 _ rfl; have d3 := ZL0.out 3 _ rfl; have d4 := ZL0.out 4 _ rfl; have d5 := ZL0.out 5 _ rfl; have d6 := ZL0.out 6 _ rfl
      clear ZL0
      go_wp2_with fail
      refine (onPage_any (sa, ⟨sb, st, se, sd, su, sp⟩) s0 W0).mono ?_
      rintro e W0a ⟨rfl, k1⟩
      have S0a := hidd (S0.out.kep k1)
      have KZ := hidd (kep_trans KZ.out k1)
      have ZB := hidd (k1.block ZB.out)
      have TB := hidd (k1.block TB.out)
      have zl := hidd (k1.lt zl.out)
      clear k1 d0 d1 d2 d3 d4 d5 d6 t0
      have hsl0 := S0a.out.kep ((Kep.refl W0a).alloc (.cells #[.int .u32 (sa / 64)] 25))
      go_wp2_with (at_builtin; refine wpList_append_sli rfl (.tmp 22) (.tmp 26) 37 rfl 25 i0 _ 1 4 Tryz.underlying37 hi hz0 hz1 hz2 rfl (by decide) _ (q) (num .u32 (List.map (fun x : Sr => x.1 / 64) (L.take k))) G rfl hsl0 ⟨W0a.heap.size, 0, none⟩ 1 [.int .u32 (sa / 64)] rfl rfl (World.news_of_block (hat _ _ _ rfl)) (by simp [Value.oneCell']) (by unfold maxLen; omega) (by omega) ?_; intro v0 W1 G1 S1 P1 H1; obtain ⟨x1, c1, hv1, _⟩ := S1.out.lies; subst hv1)
      have hw0 : Hid (W0a.heap.size + 1 ≤ W1.heap.size) := by have := P1.out.size; rw [World.size_alloc] at this; exact this
      have KP1 := hidd ((KZ.out.alloc (.cells #[.int .u32 (sa / 64)] 25)).put P1.out (fun b hb => gA'.out b hb))
      have gA1 : Hid (∀ b ∈ G1, w.heap.size ≤ b) := fun b hb => by
        rcases H1.out b hb with h | h
        · exact gA'.out b h
        · have := KZ.out.size; simp at h; omega
      rw [rounds_succ]
      go_wp2_with fail
      go_roundw
      case rel => exact ⟨k + 1, x1, q + 1, c1, by omega, by go_num, by go_num, by omega, G1, by rw [← hsn.out]; exact S1.out, KP1.out, gA1.out⟩
      case measure => simp [intOf]; omega
    · have hlt' : ¬ (k : Int) < n := by omega
      have ek : L.take k = L := List.take_of_length_le (by have := HL.out; omega)
      rw [ek] at SA
      have hq1 : 1 ≤ q := by have := H1.out; omega
      obtain ⟨g, o, c, he, rfl, hqc, hql, RW⟩ := Rown.of_sli SA hq1
      cases he
      have gw : Hid (w.heap.size ≤ g) := gA g (by simp)
      have cm : Hid (cs ≤ maxLen) := by
        obtain ⟨_, _, hv, _, _, hcm, _⟩ := SA.lies
        cases hv; exact hcm
      have K' := hidd K
      clear SA A K gA
      rw [← hql] at hq1 hq hqc ⊢
      have HS : Hid (Calls Tryz.prog 50 #[.slice (some ⟨g, o, none⟩) (List.map (fun x : Sr => x.1 / 64) L).length cs] wr fun e w2 => e = .returned (.tuple #[]) ∧ Kep wr w2) := sortU_any RW cs (by omega) hq1 hp
      have HK : Hid (∀ w2, Kep wr w2 → Calls Tryz.prog 51 #[.slice (some ⟨g, o, none⟩) (List.map (fun x : Sr => x.1 / 64) L).length cs] w2 fun e w3 => e = .returned (.slice (some ⟨g, o, none⟩) (pgL L).length cs) ∧ Lies w3 (some ⟨g, o, none⟩) (num .u32 (pgL L)) ∧ Put [g] w2 w3) := fun w2 k2 => cutU_any (RW.kep k2) cs (by omega) (by omega) (cut_is hp (fun z => Iff.rfl))
      have hle : Hid ((pgL L).length ≤ cs) := by have h1 := risL_len (List.map (fun x : Sr => x.1 / 64) L); have h2 := hqc; show (risL _).length ≤ cs; omega
      have hyl : ((List.map (fun x : Sr => x.1 / 64) L).length : Int) ≤ 300 := by omega
      clear RW hql hq hq1 hqc hp
      generalize (List.map (fun x : Sr => x.1 / 64) L).length = q at *
      go_wp2_with fail
      refine HS.out.mono ?_
      rintro e w2 ⟨rfl, k2⟩
      have K2 := hidd k2
      clear k2
      go_wp2_with fail
      refine (HK.out w2 K2.out).mono ?_
      rintro e w3 ⟨rfl, l3, p3⟩
      have L3 := hidd l3
      have P3 := hidd p3
      clear l3 p3
      go_wp2_with fail
      go_ret
      exact ⟨_, _, rfl, L3.out, hle.out, cm.out, (kep_trans K'.out K2.out).put P3.out (by simpa using gw.out), fun b o t h => by cases h; exact gw.out⟩
set_option maxHeartbeats 4000000 in
set_option maxRecDepth 100000 in
theorem frames_any {w : World} {x : Option Addr} {n cap : Nat} {L : List Sr} (hx : Lies w x (srs L)) (hl : L.length = n) (h1 : 1 ≤ n) (h2 : n ≤ 300) (hc : n ≤ cap) (hm : cap ≤ maxLen) {tb : Nat} (ht : w.heap[tb]? = some (.cells #[.func (.func 26) #[] #[]] 79 (0, 0))) :
    Calls Tryz.prog 25 #[.slice x n cap, .slice (some ⟨tb, 0, none⟩) 1 1] w fun e w' => ∃ y c, e = .returned (.slice y (fmL L).length c) ∧ Lies w' y (num .i64 (fmL L)) ∧ (fmL L).length ≤ c ∧ c ≤ maxLen ∧ Kep w w' ∧ ∀ b o t, y = some ⟨b, o, t⟩ → w.heap.size ≤ b := by
  obtain ⟨b, off, rfl, hb, hcell⟩ : ∃ b off : Nat, x = some ⟨b, off, none⟩ ∧ b < w.heap.size ∧ ∀ j u, (srs L)[j]? = some u → w.cell? ⟨b, off + j, none⟩ = some u := by
    rcases hx with h | h
    · have := congrArg List.length h; rw [srs_len] at this; simp at this; omega
    · exact h
  obtain ⟨i0, hi, hz0, hz1, hz2⟩ := info_parts info_int
  have HC := hidd hcell
  have HT := hidd ht
  have HL := hidd hl
  have hn1 : (1 : Int) ≤ n := by omega
  have hn2 : (n : Int) ≤ 300 := by omega
  have lb := hidd hb
  have H1 := hidd h1
  have HM : Hid (n ≤ cap ∧ cap ≤ maxLen) := ⟨hc, hm⟩
  clear hx hl hcell ht hb h1 h2 hc hm
  go_enter Tryz.func25, Tryz.ntmps25
  go_wp2_with fail
  go_loopw [5, 12] (fun v i wr => ∃ (k : Nat) (xs : Option Addr) (q cs : Nat), (k : Int) ≤ n ∧ i = .int .i64 k ∧ v = .slice xs q cs ∧ (q : Int) = k * 1 ∧ Hid (∃ G, Sli wr 3 1 (.slice xs q cs) q (num .i64 (List.map (fun x : Sr => (x.2.page : Int)) (L.take k))) G ∧ Kep w wr ∧ ∀ b ∈ G, w.heap.size ≤ b)) (fun _ i _ => n - (intOf i).toNat)
  case atStart => exact ⟨0, none, 0, 0, by omega, rfl, rfl, rfl, [], by rw [List.take_zero]; exact Sli.nil _ _ _, Kep.refl _, by simp⟩
  case round =>
    obtain ⟨k, xs, q, cs, hkn, rfl, rfl, hq, A⟩ := hrel
    obtain ⟨G, SA, K, gA⟩ := A.out
    by_cases hlt : k < n
    · have hlt' : (k : Int) < n := by omega
      have hkl : k < L.length := by have := HL.out; omega
      obtain ⟨⟨sa, sb, st, se, sd, su, sp⟩, hsx⟩ : ∃ sx : Sr, L[k] = sx := ⟨_, rfl⟩
      have hsx := hidd hsx
      have c0 : ∀ i u, (srV (sa, ⟨sb, st, se, sd, su, sp⟩))[i]? = some u → wr.cell? ⟨b, off + k * 7 + i, none⟩ = some u := fun i u hi => by
        have e := srs_cells HC.out hkl i u (by rw [hsx.out]; exact hi)
        rw [K.cell lb.out]; exact e
      have hsn : Hid (num .i64 (List.map (fun x : Sr => (x.2.page : Int)) (L.take k)) ++ [.int .i64 ((sp : Int))] = num .i64 (List.map (fun x : Sr => (x.2.page : Int)) (L.take (k + 1)))) := by
        rw [Hid, List.take_succ_eq_append_getElem hkl, hsx.out]; simp [num]
      have SA' := hidd SA
      have gA' := hidd gA
      have K' := hidd K
      have e0 : wr.cell? ⟨b, off + k * 7, none⟩ = some (.int .u32 sa) := c0 0 _ rfl
      have e1 : wr.cell? ⟨b, off + k * 7 + 1, none⟩ = some (.int .u32 sb) := c0 1 _ rfl
      have e2 : wr.cell? ⟨b, off + k * 7 + 2, none⟩ = some (.int .u32 st) := c0 2 _ rfl
      have e3 : wr.cell? ⟨b, off + k * 7 + 3, none⟩ = some (.int .u32 se) := c0 3 _ rfl
      have e4 : wr.cell? ⟨b, off + k * 7 + 4, none⟩ = some (.int .i64 sd) := c0 4 _ rfl
      have e5 : wr.cell? ⟨b, off + k * 7 + 5, none⟩ = some (.int .i64 su) := c0 5 _ rfl
      have e6 : wr.cell? ⟨b, off + k * 7 + 6, none⟩ = some (.int .i64 sp) := c0 6 _ rfl
      clear SA gA K A c0
      go_upto_region 5 with fail
      obtain ⟨W0, hW0⟩ : ∃ W, Hid (wr.alloc (.cells (srcA sa sb st se sd su sp) 74) = W) := ⟨_, rfl⟩
      rw [hW0.out]
      obtain ⟨z, qz⟩ : ∃ z, Hid (z = wr.heap.size) := ⟨_, rfl⟩
      rw [← qz.out]
      have k0 : Kep wr W0 := by rw [← hW0.out]; exact (Kep.refl _).alloc _
      have ZB : Hid (W0.heap[z]? = some (.cells (srcA sa sb st se sd su sp) 74 (0, 0))) := by rw [Hid, ← hW0.out, qz.out]; exact hat _ _ _ rfl
      have TB := hidd ((kep_trans K'.out k0).block HT.out)
      have KZ := hidd (kep_trans K'.out k0)
      have S0 := hidd (SA'.out.kep k0)
      have zl := hidd (block_lt ZB.out)
      clear k0 e0 e1 e2 e3 e4 e5 e6 SA'
      go_wp2_with fail
      refine wp_loop_rounds 2 ?_
      rw [rounds_succ]
      have t0 : W0.cell? ⟨tb, 0, none⟩ = some (.func (.func 26) #[] #[]) := cell_of_block TB.out
      have ZL0 : Hid (∀ i u, (srcA sa sb st se sd su sp)[i]? = some u → W0.cell? ⟨z, i, none⟩ = some u) := fun i u hu => (cell_of_block ZB.out).trans hu
      have d0 := ZL0.out 0 _ rfl; have d1 := ZL0.out 1 _ rfl; have d2 := ZL0.out 2 _ rfl; have d3 := ZL0.out 3 _ rfl; have d4 := ZL0.out 4 _ rfl; have d5 := ZL0.out 5 _ rfl; have d6 := ZL0.out 6 _ rfl
      clear ZL0
      go_wp2_with fail
      refine (inFrame_any (sa, ⟨sb, st, se, sd, su, sp⟩) W0).mono ?_
      rintro e W0a ⟨rfl, k1⟩
      have S0a := hidd (S0.out.kep k1)
      have KZ := hidd (kep_trans KZ.out k1)
      have ZB := hidd (k1.block ZB.out)
      have TB := hidd (k1.block TB.out)
      have zl := hidd (k1.lt zl.out)
      clear k1 d0 d1 d2 d3 d4 d5 d6 t0
      have hsl0 := S0a.out.kep ((Kep.refl W0a).alloc (.cells #[.int .i64 ((sp : Int))] 3))
      go_wp2_with (at_builtin; refine wpList_append_sli rfl (.tmp 22) (.tmp 26) 38 rfl 3 i0 _ 1 8 Tryz.underlying38 hi hz0 hz1 hz2 rfl (by decide) _ (q) (num .i64 (List.map (fun x : Sr => (x.2.page : Int)) (L.take k))) G rfl hsl0 ⟨W0a.heap.size, 0, none⟩ 1 [.int .i64 ((sp : Int))] rfl rfl (World.news_of_block (hat _ _ _ rfl)) (by simp [Value.oneCell']) (by unfold maxLen; omega) (by omega) ?_; intro v0 W1 G1 S1 P1 H1; obtain ⟨x1, c1, hv1, _⟩ := S1.out.lies; subst hv1)
      have hw0 : Hid (W0a.heap.size + 1 ≤ W1.heap.size) := by have := P1.out.size; rw [World.size_alloc] at this; exact this
      have KP1 := hidd ((KZ.out.alloc (.cells #[.int .i64 ((sp : Int))] 3)).put P1.out (fun b hb => gA'.out b hb))
      have gA1 : Hid (∀ b ∈ G1, w.heap.size ≤ b) := fun b hb => by
        rcases H1.out b hb with h | h
        · exact gA'.out b h
        · have := KZ.out.size; simp at h; omega
      rw [rounds_succ]
      go_wp2_with fail
      go_roundw
      case rel => exact ⟨k + 1, x1, q + 1, c1, by omega, by go_num, by go_num, by omega, G1, by rw [← hsn.out]; exact S1.out, KP1.out, gA1.out⟩
      case measure => simp [intOf]; omega
    · have hlt' : ¬ (k : Int) < n := by omega
      have ek : L.take k = L := List.take_of_length_le (by have := HL.out; omega)
      rw [ek] at SA
      have hq1 : 1 ≤ q := by have := H1.out; omega
      obtain ⟨g, o, c, he, rfl, hqc, hql, RW⟩ := Rown.of_sli SA hq1
      cases he
      have gw : Hid (w.heap.size ≤ g) := gA g (by simp)
      have cm : Hid (cs ≤ maxLen) := by
        obtain ⟨_, _, hv, _, _, hcm, _⟩ := SA.lies
        cases hv; exact hcm
      have K' := hidd K
      clear SA A K gA
      rw [← hql] at hq1 hq hqc ⊢
      have HS : Hid (Calls Tryz.prog 52 #[.slice (some ⟨g, o, none⟩) (List.map (fun x : Sr => (x.2.page : Int)) L).length cs] wr fun e w2 => e = .returned (.tuple #[]) ∧ Rown w2 .i64 g o ((List.map (fun x : Sr => (x.2.page : Int)) L).mergeSort fun x y => decide (x ≤ y)) ∧ Put [g] wr w2) := sortI_any RW cs (by omega)
      have HK : Hid (∀ w2, Rown w2 .i64 g o ((List.map (fun x : Sr => (x.2.page : Int)) L).mergeSort fun x y => decide (x ≤ y)) → Calls Tryz.prog 53 #[.slice (some ⟨g, o, none⟩) (List.map (fun x : Sr => (x.2.page : Int)) L).length cs] w2 fun e w3 => e = .returned (.slice (some ⟨g, o, none⟩) (fmL L).length cs) ∧ Lies w3 (some ⟨g, o, none⟩) (num .i64 (fmL L)) ∧ Put [g] w2 w3) := fun w2 r2 => by
        have e := List.length_mergeSort (List.map (fun x : Sr => (x.2.page : Int)) L) (le := fun x y => decide (x ≤ y))
        have := cutI_any r2 cs (by omega) (by omega) (cut_sort (List.map (fun x : Sr => (x.2.page : Int)) L))
        rw [e] at this; exact this
      have hle : Hid ((fmL L).length ≤ cs) := by have h1 := risL_len (List.map (fun x : Sr => (x.2.page : Int)) L); have h2 := hqc; show (risL _).length ≤ cs; omega
      have hyl : ((List.map (fun x : Sr => (x.2.page : Int)) L).length : Int) ≤ 600 := by omega
      clear RW hql hq hq1 hqc
      generalize ((List.map (fun x : Sr => (x.2.page : Int)) L).mergeSort fun x y => decide (x ≤ y)) = MS at *
      generalize (List.map (fun x : Sr => (x.2.page : Int)) L).length = q at *
      go_wp2_with fail
      refine HS.out.mono ?_
      rintro e w2 ⟨rfl, r2, p2⟩
      have R2 := hidd r2
      have P2 := hidd p2
      clear r2 p2
      go_wp2_with fail
      refine (HK.out w2 R2.out).mono ?_
      rintro e w3 ⟨rfl, l3, p3⟩
      have L3 := hidd l3
      have P3 := hidd p3
      clear l3 p3
      go_wp2_with fail
      go_ret
      exact ⟨_, _, rfl, L3.out, hle.out, cm.out, ((K'.out.put P2.out (by simpa using gw.out)).put P3.out (by simpa using gw.out)), fun b o t h => by cases h; exact gw.out⟩
set_option maxHeartbeats 4000000 in
set_option maxRecDepth 100000 in
theorem tables_any {w : World} {x : Option Addr} {n cap : Nat} {L : List Sr} (hx : Lies w x (srs L)) (hl : L.length = n) (h1 : 1 ≤ n) (h2 : n ≤ 300) (hc : n ≤ cap) (hm : cap ≤ maxLen) {tb : Nat} (ht : w.heap[tb]? = some (.cells #[.func (.func 28) #[] #[], .func (.func 29) #[] #[]] 79 (0, 0))) :
    Calls Tryz.prog 25 #[.slice x n cap, .slice (some ⟨tb, 0, none⟩) 2 2] w fun e w' => ∃ y c, e = .returned (.slice y (tbL L).length c) ∧ Lies w' y (num .i64 (tbL L)) ∧ (tbL L).length ≤ c ∧ c ≤ maxLen ∧ Kep w w' ∧ ∀ b o t, y = some ⟨b, o, t⟩ → w.heap.size ≤ b := by
  obtain ⟨b, off, rfl, hb, hcell⟩ : ∃ b off : Nat, x = some ⟨b, off, none⟩ ∧ b < w.heap.size ∧ ∀ j u, (srs L)[j]? = some u → w.cell? ⟨b, off + j, none⟩ = some u := by
    rcases hx with h | h
    · have := congrArg List.length h; rw [srs_len] at this; simp at this; omega
    · exact h
  obtain ⟨i0, hi, hz0, hz1, hz2⟩ := info_parts info_int
  have HC := hidd hcell
  have HT := hidd ht
  have HL := hidd hl
  have hn1 : (1 : Int) ≤ n := by omega
  have hn2 : (n : Int) ≤ 300 := by omega
  have lb := hidd hb
  have H1 := hidd h1
  have HM : Hid (n ≤ cap ∧ cap ≤ maxLen) := ⟨hc, hm⟩
  clear hx hl hcell ht hb h1 h2 hc hm
  go_enter Tryz.func25, Tryz.ntmps25
  go_wp2_with fail
  go_loopw [5, 12] (fun v i wr => ∃ (k : Nat) (xs : Option Addr) (q cs : Nat), (k : Int) ≤ n ∧ i = .int .i64 k ∧ v = .slice xs q cs ∧ (q : Int) = k * 2 ∧ Hid (∃ G, Sli wr 3 1 (.slice xs q cs) q (num .i64 (List.flatMap (fun x : Sr => [(x.2.dir : Int), (x.2.tab : Int)]) (L.take k))) G ∧ Kep w wr ∧ ∀ b ∈ G, w.heap.size ≤ b)) (fun _ i _ => n - (intOf i).toNat)
  case atStart => exact ⟨0, none, 0, 0, by omega, rfl, rfl, rfl, [], by rw [List.take_zero]; exact Sli.nil _ _ _, Kep.refl _, by simp⟩
  case round =>
    obtain ⟨k, xs, q, cs, hkn, rfl, rfl, hq, A⟩ := hrel
    obtain ⟨G, SA, K, gA⟩ := A.out
    by_cases hlt : k < n
    · have hlt' : (k : Int) < n := by omega
      have hkl : k < L.length := by have := HL.out; omega
      obtain ⟨⟨sa, sb, st, se, sd, su, sp⟩, hsx⟩ : ∃ sx : Sr, L[k] = sx := ⟨_, rfl⟩
      have hsx := hidd hsx
      have c0 : ∀ i u, (srV (sa, ⟨sb, st, se, sd, su, sp⟩))[i]? = some u → wr.cell? ⟨b, off + k * 7 + i, none⟩ = some u := fun i u hi => by
        have e := srs_cells HC.out hkl i u (by rw [hsx.out]; exact hi)
        rw [K.cell lb.out]; exact e
      have hsn : Hid (num .i64 (List.flatMap (fun x : Sr => [(x.2.dir : Int), (x.2.tab : Int)]) (L.take k)) ++ [.int .i64 ((sd : Int))] ++ [.int .i64 ((su : Int))] = num .i64 (List.flatMap (fun x : Sr => [(x.2.dir : Int), (x.2.tab : Int)]) (L.take (k + 1)))) := by
        rw [Hid, List.take_succ_eq_append_getElem hkl, hsx.out]; simp [num]
      have SA' := hidd SA
      have SAL := hidd SA.lt
      have gA' := hidd gA
      have K' := hidd K
      have e0 : wr.cell? ⟨b, off + k * 7, none⟩ = some (.int .u32 sa) := c0 0 _ rfl
      have e1 : wr.cell? ⟨b, off + k * 7 + 1, none⟩ = some (.int .u32 sb) := c0 1 _ rfl
      have e2 : wr.cell? ⟨b, off + k * 7 + 2, none⟩ = some (.int .u32 st) := c0 2 _ rfl
      have e3 : wr.cell? ⟨b, off + k * 7 + 3, none⟩ = some (.int .u32 se) := c0 3 _ rfl
      have e4 : wr.cell? ⟨b, off + k * 7 + 4, none⟩ = some (.int .i64 sd) := c0 4 _ rfl
      have e5 : wr.cell? ⟨b, off + k * 7 + 5, none⟩ = some (.int .i64 su) := c0 5 _ rfl
      have e6 : wr.cell? ⟨b, off + k * 7 + 6, none⟩ = some (.int .i64 sp) := c0 6 _ rfl
      clear SA gA K A c0
      go_upto_region 5 with fail
      obtain ⟨W0, hW0⟩ : ∃ W, Hid (wr.alloc (.cells (srcA sa sb st se sd su sp) 74) = W) := ⟨_, rfl⟩
      rw [hW0.out]
      obtain ⟨z, qz⟩ : ∃ z, Hid (z = wr.heap.size) := ⟨_, rfl⟩
      rw [← qz.out]
      have k0 : Kep wr W0 := by rw [← hW0.out]; exact (Kep.refl _).alloc _
      have ZB : Hid (W0.heap[z]? = some (.cells (srcA sa sb st se sd su sp) 74 (0, 0))) := by rw [Hid, ← hW0.out, qz.out]; exact hat _ _ _ rfl
      have TB := hidd ((kep_trans K'.out k0).block HT.out)
      have KZ := hidd (kep_trans K'.out k0)
      have S0 := hidd (SA'.out.kep k0)
      have zl := hidd (block_lt ZB.out)
      clear k0 e0 e1 e2 e3 e4 e5 e6 SA'
      go_wp2_with fail
      refine wp_loop_rounds 3 ?_
      rw [rounds_succ]
      have nz : Hid (∀ c ∈ G, c ≠ z) := fun c hc => by
        have := SAL.out c hc; have := qz.out; omega
      have t0 : W0.cell? ⟨tb, 0, none⟩ = some (.func (.func 28) #[] #[]) := cell_of_block TB.out
      have ZL0 : Hid (∀ i u, (srcA sa sb st se sd su sp)[i]? = some u → W0.cell? ⟨z, i, none⟩ = some u) := fun i u hu => (cell_of_block ZB.out).trans hu
      have d0 := ZL0.out 0 _ rfl; have d1 := ZL0.out 1 _ rfl; have d2 := ZL0.out 2 _ rfl; have d3 := ZL0.out 3 _ rfl; have d4 := ZL0.out 4 _ rfl; have d5 := ZL0.out 5 _ rfl; have d6 := ZL0.out 6 _ rfl
      clear ZL0
      go_wp2_with fail
      refine (byDirectory_any (sa, ⟨sb, st, se, sd, su, sp⟩) W0).mono ?_
      rintro e W0a ⟨rfl, k1⟩
      have S0a := hidd (S0.out.kep k1)
      have KZ := hidd (kep_trans KZ.out k1)
      have ZB := hidd (k1.block ZB.out)
      have TB := hidd (k1.block TB.out)
      have zl := hidd (k1.lt zl.out)
      clear k1 d0 d1 d2 d3 d4 d5 d6 t0
      have hsl0 := S0a.out.kep ((Kep.refl W0a).alloc (.cells #[.int .i64 ((sd : Int))] 3))
      go_wp2_with (at_builtin; refine wpList_append_sli rfl (.tmp 22) (.tmp 26) 38 rfl 3 i0 _ 1 8 Tryz.underlying38 hi hz0 hz1 hz2 rfl (by decide) _ (q) (num .i64 (List.flatMap (fun x : Sr => [(x.2.dir : Int), (x.2.tab : Int)]) (L.take k))) G rfl hsl0 ⟨W0a.heap.size, 0, none⟩ 1 [.int .i64 ((sd : Int))] rfl rfl (World.news_of_block (hat _ _ _ rfl)) (by simp [Value.oneCell']) (by unfold maxLen; omega) (by omega) ?_; intro v0 W1 G1 S1 P1 H1; obtain ⟨x1, c1, hv1, _⟩ := S1.out.lies; subst hv1)
      have hw0 : Hid (W0a.heap.size + 1 ≤ W1.heap.size) := by have := P1.out.size; rw [World.size_alloc] at this; exact this
      have KP1 := hidd ((KZ.out.alloc (.cells #[.int .i64 ((sd : Int))] 3)).put P1.out (fun b hb => gA'.out b hb))
      have gA1 : Hid (∀ b ∈ G1, w.heap.size ≤ b) := fun b hb => by
        rcases H1.out b hb with h | h
        · exact gA'.out b h
        · have := KZ.out.size; simp at h; omega
      have ZB := hidd (P1.out.keeps (((Kep.refl W0a).alloc (.cells #[.int .i64 ((sd : Int))] 3)).block ZB.out) (fun hm => nz.out _ hm rfl))
      have TB := hidd (KP1.out.block HT.out)
      have nz : Hid (∀ c ∈ G1, c ≠ z) := fun c hc => by
        rcases H1.out c hc with h | h
        · exact nz.out c h
        · have := zl.out; simp at h; omega
      have zl : Hid (z < W1.heap.size) := by have := zl.out; have := hw0.out; show z < _; omega
      have KZ := KP1
      rw [rounds_succ]
      have t1 : W1.cell? ⟨tb, 1, none⟩ = some (.func (.func 29) #[] #[]) := cell_of_block TB.out
      have ZL1 : Hid (∀ i u, (srcA sa sb st se sd su sp)[i]? = some u → W1.cell? ⟨z, i, none⟩ = some u) := fun i u hu => (cell_of_block ZB.out).trans hu
      have d0 := ZL1.out 0 _ rfl; have d1 := ZL1.out 1 _ rfl; have d2 := ZL1.out 2 _ rfl; have d3 := ZL1.out 3 _ rfl; have d4 := ZL1.out 4 _ rfl; have d5 := ZL1.out 5 _ rfl; have d6 := ZL1.out 6 _ rfl
      clear ZL1
      go_wp2_with fail
      refine (byTable_any (sa, ⟨sb, st, se, sd, su, sp⟩) W1).mono ?_
      rintro e W1a ⟨rfl, k1⟩
      have S1a := hidd (S1.out.kep k1)
      have KZ := hidd (kep_trans KZ.out k1)
      have ZB := hidd (k1.block ZB.out)
      have TB := hidd (k1.block TB.out)
      have zl := hidd (k1.lt zl.out)
      clear k1 d0 d1 d2 d3 d4 d5 d6 t1
      have hsl1 := S1a.out.kep ((Kep.refl W1a).alloc (.cells #[.int .i64 ((su : Int))] 3))
      go_wp2_with (at_builtin; refine wpList_append_sli rfl (.tmp 22) (.tmp 26) 38 rfl 3 i0 _ 1 8 Tryz.underlying38 hi hz0 hz1 hz2 rfl (by decide) _ (q + 1) ((num .i64 (List.flatMap (fun x : Sr => [(x.2.dir : Int), (x.2.tab : Int)]) (L.take k))) ++ [Value.int IntKind.i64 ((sd : Int))]) G1 rfl hsl1 ⟨W1a.heap.size, 0, none⟩ 1 [.int .i64 ((su : Int))] rfl rfl (World.news_of_block (hat _ _ _ rfl)) (by simp [Value.oneCell']) (by unfold maxLen; omega) (by omega) ?_; intro v1 W2 G2 S2 P2 H2; obtain ⟨x2, c2, hv2, _⟩ := S2.out.lies; subst hv2)
      have hw1 : Hid (W1a.heap.size + 1 ≤ W2.heap.size) := by have := P2.out.size; rw [World.size_alloc] at this; exact this
      have KP2 := hidd ((KZ.out.alloc (.cells #[.int .i64 ((su : Int))] 3)).put P2.out (fun b hb => gA1.out b hb))
      have gA2 : Hid (∀ b ∈ G2, w.heap.size ≤ b) := fun b hb => by
        rcases H2.out b hb with h | h
        · exact gA1.out b h
        · have := KZ.out.size; simp at h; omega
      rw [rounds_succ]
      go_wp2_with fail
      go_roundw
      case rel => exact ⟨k + 1, x2, q + 2, c2, by omega, by go_num, by go_num, by omega, G2, by rw [← hsn.out]; exact S2.out, KP2.out, gA2.out⟩
      case measure => simp [intOf]; omega
    · have hlt' : ¬ (k : Int) < n := by omega
      have ek : L.take k = L := List.take_of_length_le (by have := HL.out; omega)
      rw [ek] at SA
      have hq1 : 1 ≤ q := by have := H1.out; omega
      obtain ⟨g, o, c, he, rfl, hqc, hql, RW⟩ := Rown.of_sli SA hq1
      cases he
      have gw : Hid (w.heap.size ≤ g) := gA g (by simp)
      have cm : Hid (cs ≤ maxLen) := by
        obtain ⟨_, _, hv, _, _, hcm, _⟩ := SA.lies
        cases hv; exact hcm
      have K' := hidd K
      clear SA A K gA
      rw [← hql] at hq1 hq hqc ⊢
      have HS : Hid (Calls Tryz.prog 52 #[.slice (some ⟨g, o, none⟩) (List.flatMap (fun x : Sr => [(x.2.dir : Int), (x.2.tab : Int)]) L).length cs] wr fun e w2 => e = .returned (.tuple #[]) ∧ Rown w2 .i64 g o ((List.flatMap (fun x : Sr => [(x.2.dir : Int), (x.2.tab : Int)]) L).mergeSort fun x y => decide (x ≤ y)) ∧ Put [g] wr w2) := sortI_any RW cs (by omega)
      have HK : Hid (∀ w2, Rown w2 .i64 g o ((List.flatMap (fun x : Sr => [(x.2.dir : Int), (x.2.tab : Int)]) L).mergeSort fun x y => decide (x ≤ y)) → Calls Tryz.prog 53 #[.slice (some ⟨g, o, none⟩) (List.flatMap (fun x : Sr => [(x.2.dir : Int), (x.2.tab : Int)]) L).length cs] w2 fun e w3 => e = .returned (.slice (some ⟨g, o, none⟩) (tbL L).length cs) ∧ Lies w3 (some ⟨g, o, none⟩) (num .i64 (tbL L)) ∧ Put [g] w2 w3) := fun w2 r2 => by
        have e := List.length_mergeSort (List.flatMap (fun x : Sr => [(x.2.dir : Int), (x.2.tab : Int)]) L) (le := fun x y => decide (x ≤ y))
        have := cutI_any r2 cs (by omega) (by omega) (cut_sort (List.flatMap (fun x : Sr => [(x.2.dir : Int), (x.2.tab : Int)]) L))
        rw [e] at this; exact this
      have hle : Hid ((tbL L).length ≤ cs) := by have h1 := risL_len (List.flatMap (fun x : Sr => [(x.2.dir : Int), (x.2.tab : Int)]) L); have h2 := hqc; show (risL _).length ≤ cs; omega
      have hyl : ((List.flatMap (fun x : Sr => [(x.2.dir : Int), (x.2.tab : Int)]) L).length : Int) ≤ 600 := by omega
      clear RW hql hq hq1 hqc
      generalize ((List.flatMap (fun x : Sr => [(x.2.dir : Int), (x.2.tab : Int)]) L).mergeSort fun x y => decide (x ≤ y)) = MS at *
      generalize (List.flatMap (fun x : Sr => [(x.2.dir : Int), (x.2.tab : Int)]) L).length = q at *
      go_wp2_with fail
      refine HS.out.mono ?_
      rintro e w2 ⟨rfl, r2, p2⟩
      have R2 := hidd r2
      have P2 := hidd p2
      clear r2 p2
      go_wp2_with fail
      refine (HK.out w2 R2.out).mono ?_
      rintro e w3 ⟨rfl, l3, p3⟩
      have L3 := hidd l3
      have P3 := hidd p3
      clear l3 p3
      go_wp2_with fail
      go_ret
      exact ⟨_, _, rfl, L3.out, hle.out, cm.out, ((K'.out.put P2.out (by simpa using gw.out)).put P3.out (by simpa using gw.out)), fun b o t h => by cases h; exact gw.out⟩
end Go.Proofs.YtamffningddgbaaGreatDoor
