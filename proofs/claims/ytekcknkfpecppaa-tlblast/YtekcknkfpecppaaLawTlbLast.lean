/- For every number of slots, every step and every row of steps, the law TlbLast returns true: what was put for a page is remembered till something else takes its slot, or it is dropped, or all is flushed. -/
import Derived.Test.YtekcknkfpecppaaRows
import Derived.Test.YtekcknkfpecppaaUopen
import Derived.WalkKit
import Derived.ProofKit
import Derived.OpenShut
import Derived.ShutString
import Derived.ChangeOld
import Derived.Below
import Derived.Lib.SmallJoins
namespace Go.Proofs.Ytekcknkfpecppaa.tlbLast
open Go.ChangeShapes Go.WideShapes Go.ChangeAt Go.RowKit
set_option linter.unusedVariables false

theorem own : ownKnob Try.prog.godebug = none := by kernel_rfl
theorem laidOut : laidOutB Try.prog = true := by kernel_rfl

theorem step_keeps {S : List Sl} {n : Nat} (hn : 1 ≤ n) (hl : S.length = n) (kd : Int) (x page : Nat) (b f : Int) (h2 : kd ≠ 2) (h0 : ¬ (kd = 0 ∧ x % n = page % n)) (h1 : ¬ (kd = 1 ∧ x = page)) : lookS (stepS S kd x b f) page = lookS S page := by
  rw [lookS_step (by omega), hl, if_neg (by rintro (h | h); exact h2 h; exact h1 h), if_neg h0]

set_option maxHeartbeats 4000000 in
set_option maxRecDepth 100000 in
theorem walk (a0 : Int) (w0 : (Lit.int .i64 a0).wf = true) (a1f0 : Int) (w1f0 : (Lit.int .i64 a1f0).wf = true) (a1f1 : Int) (w1f1 : (Lit.int .u32 a1f1).wf = true) (a1f2 : Int) (w1f2 : (Lit.int .u32 a1f2).wf = true) (a1f3 : Int) (w1f3 : (Lit.int .i64 a1f3).wf = true) (x2 : Option Addr) (len2 cap2 : Nat) (z2 : List St) (w : World) (w2 : StRow w x2 len2 cap2 z2) :
    Calls Try.prog 6 #[.int .i64 a0, .agg #[.int .i64 a1f0, .int .u32 a1f1, .int .u32 a1f2, .int .i64 a1f3], .slice x2 len2 cap2] w fun e w' => e = .returned (.bool true) ∧ Kep w w' := by
  have b0 := i64_of w0
  have b1 := u32_of w1f1
  obtain ⟨sp, rfl⟩ : ∃ n : Nat, a1f1 = n := ⟨a1f1.toNat, by omega⟩
  have hM : Hid (∀ w, Calls Try.prog 8 #[.int .i64 a0] w _) := fun w => made_own w a0 b0.1 b0.2
  have hs1 : (sp : Int) < 4294967296 := b1.2
  have hI : Hid (StRow w x2 len2 cap2 z2) := w2
  have hlen : (len2 : Int) ≤ 9223372036854775807 := by
    obtain ⟨h1, _, h3⟩ := w2
    rcases h3 with rfl | ⟨_, _, _, h4, h5, _⟩
    · simp at h1; omega
    · unfold maxLen at h5; omega
  clear w0 b0 b1 w1f0 w1f1 w1f2 w1f3 w2
  go_enter Try.func6, Try.ntmps6
  go_wp2_with fail
  generalize hW : w.alloc (.cells #[.int .i64 a1f0, .int .u32 (sp : Int), .int .u32 a1f2, .int .i64 a1f3] 29) = W
  have K0 : Hid (Kep w W) := by unfold Hid; rw [← hW]; exact (Kep.refl _).alloc _
  have B1 : W.heap[w.heap.size]? = some (.cells #[.int .i64 a1f0, .int .u32 (sp : Int), .int .u32 a1f2, .int .i64 a1f3] 29) := by rw [← hW]; exact hat _ _ _ rfl
  have HC : Hid (∀ wr, Kep W wr → wr.cell? ⟨w.heap.size, 1, none⟩ = some (.int .u32 sp) ∧ wr.cell? ⟨w.heap.size, 2, none⟩ = some (.int .u32 a1f2) ∧ wr.cell? ⟨w.heap.size, 3, none⟩ = some (.int .i64 a1f3)) := by
    intro wr k
    have c1 : ∀ j, wr.cell? ⟨w.heap.size, j, none⟩ = _ := fun j => cell_of_block (k.block B1)
    exact ⟨c1 1, c1 2, c1 3⟩
  have lW : w.heap.size < W.heap.size := block_lt B1
  clear hW B1
  refine (hM.out _).mono ?_
  rintro e w1 ⟨n, p, R, rfl, hn1, hn9, k1, t1, gp, gR⟩
  obtain ⟨x1, x2, x3⟩ := HC.out _ k1
  have hln : (List.replicate n (none : Sl)).length = n := by simp
  have Q1 : Hid (Kep W w1 ∧ PagesOk (List.replicate n none) ∧ Tlb w1 p R (List.replicate n none) 0 0 ∧ (List.replicate n (none : Sl)).length = n) := ⟨k1, .none _, t1, hln⟩
  have G : Hid (W.heap.size ≤ p ∧ W.heap.size ≤ R) := ⟨gp, gR⟩
  generalize List.replicate n (none : Sl) = S0 at Q1
  clear k1 t1 hM gp gR hln
  go_wp2_with fail
  refine (put_any Q1.out.2.2.1 sp hs1 a1f2 a1f3).mono ?_
  rintro e w2 ⟨rfl, p2, t2⟩
  have Q2 : Hid (Kep W w2 ∧ ∃ S, PagesOk S ∧ Tlb w2 p R S 0 0 ∧ S.length = n ∧ lookS S sp = some (a1f2, a1f3)) := ⟨Q1.out.1.put p2 (by simpa using G.out.2), _, Q1.out.2.1.put sp hs1 _ _, t2, (putS_len ..).trans Q1.out.2.2.2, by rw [lookS_put (by have := Q1.out.2.2.2; omega), if_pos rfl, if_pos rfl]⟩
  have gn : (n : Int) ≤ 9 := by omega
  have g0 : ((n : Int) == 0) = false := by simp; omega
  have hn : Hid (1 ≤ n) := hn1
  clear x1 x2 x3 p2 t2 Q1
  go_wp2_with fail
  go_loopw [9, 10] (fun th i wr => ∃ k : Nat, (k : Int) ≤ len2 ∧ (k : Int) ≤ 50 ∧ th = .bool true ∧ i = .int .i64 k ∧ Hid (Kep W wr ∧ ∃ S, PagesOk S ∧ Tlb wr p R S 0 0 ∧ S.length = n ∧ lookS S sp = some (a1f2, a1f3))) (fun _ i _ => 100 - (intOf i).toNat)
  case atStart => exact ⟨0, by omega, by omega, rfl, rfl, Q2.out⟩
  case round =>
    obtain ⟨k, hk1, hk2, rfl, rfl, hP⟩ := hrel
    obtain ⟨kw, S, ok, t, hl, hs⟩ := hP.out
    have Q : Hid (Kep W wr ∧ PagesOk S ∧ Tlb wr p R S 0 0 ∧ S.length = n ∧ lookS S sp = some (a1f2, a1f3)) := ⟨kw, ok, t, hl, hs⟩
    clear hP ok t hl hs Q2
    by_cases hend : (k : Int) < len2 ∧ (k : Int) < 50
    · obtain ⟨hl, h50⟩ := hend
      obtain ⟨b, off, ⟨kd, xp, xb, xf⟩, _, hp, hx, hcap0, lb, m0, m1, m2, m3⟩ := hI.out.at (k := k) (by omega)
      subst hx
      have hcap : (len2 : Int) ≤ cap2 := by omega
      have KWr : Kep w wr := kep_trans K0.out kw
      have x0 := (KWr.cell lb).trans m0
      have x1 := (KWr.cell lb).trans m1
      have x2 := (KWr.cell lb).trans m2
      have x3 := (KWr.cell lb).trans m3
      simp only at hp x0 x1 x2 x3
      clear m0 m1 m2 m3 KWr kw hcap0
      go_wp2_with fail
      refine (do_any (Q.out.2.2.1.kep ((Kep.refl _).alloc _)) Q.out.2.1 kd xp hp xb xf).mono ?_
      rintro e w3 ⟨rfl, p3, t3⟩
      have lR : R < wr.heap.size := block_lt Q.out.2.2.1.row
      have c : ∀ j, w3.cell? ⟨wr.heap.size, j, none⟩ = _ := fun j => (p3.cell (o := j) (by simp) (by simp; omega)).trans (cell_of_block (hat _ _ _ rfl))
      have c0 := c 0
      have c1 := c 1
      simp at c0 c1
      have k3 : Kep W w3 := (Q.out.1.alloc _).put p3 (by simpa using G.out.2)
      obtain ⟨y1, y2, y3⟩ := HC.out _ k3
      have hL : Hid (S.length = n) := Q.out.2.2.2.1
      have hS : Hid (lookS S sp = some (a1f2, a1f3)) := Q.out.2.2.2.2
      have Q3 : Hid (Kep W w3 ∧ PagesOk (stepS S kd xp xb xf) ∧ Tlb w3 p R (stepS S kd xp xb xf) 0 0 ∧ (stepS S kd xp xb xf).length = n) := ⟨k3, Q.out.2.1.step kd xp hp xb xf, t3, (stepS_len ..).trans hL.out⟩
      have HL : Hid (∀ j, Calls Try.prog 10 #[.pointer (some ⟨p, 0, none⟩), .int .u32 sp] (w3.drewN j) fun e w' => ∃ r, e = .returned (.tuple (lookR r)) ∧ Kep w w') := fun j => by
        refine (look_any (t3.kep ((Kep.refl _).drewN j)) (Q.out.2.1.step kd xp hp xb xf) (by decide) (by decide) (by decide) (by decide) sp hs1).mono ?_
        rintro e w' ⟨rfl, pl, _⟩
        exact ⟨_, rfl, (kep_trans K0.out (k3.drewN j)).put pl (by have := G.out.1; simp; omega)⟩
      clear c p3 t3 lR x0 x1 x2 x3 k3 Q
      have hgo : ∀ nq, kd ≠ 2 → ¬ (kd = 0 ∧ xp % n = sp % n) → ¬ (kd = 1 ∧ xp = sp) → Kep W (w3.drewN nq) ∧ ∃ S, PagesOk S ∧ Tlb (w3.drewN nq) p R S 0 0 ∧ S.length = n ∧ lookS S sp = some (a1f2, a1f3) := fun nq h2 h0 h1 =>
        ⟨Q3.out.1.drewN nq, _, Q3.out.2.1, Q3.out.2.2.1.kep ((Kep.refl _).drewN nq), Q3.out.2.2.2, (step_keeps hn.out hL.out kd xp sp xb xf h2 h0 h1).trans hS.out⟩
      have Hgo : Hid (∀ nq, kd ≠ 2 → ¬ (kd = 0 ∧ xp % n = sp % n) → ¬ (kd = 1 ∧ xp = sp) → Kep W (w3.drewN nq) ∧ ∃ S, PagesOk S ∧ Tlb (w3.drewN nq) p R S 0 0 ∧ S.length = n ∧ lookS S sp = some (a1f2, a1f3)) := hgo
      clear hgo Q3 hL hS
      by_cases h2 : kd = 2
      · subst h2
        go_wp2_with fail
        go_quiet (fail)
        go_wp2_with fail
        refine (HL.out _).mono ?_
        rintro e w4 ⟨r, rfl, k4⟩
        have K4 : Hid (Kep w w4) := k4
        clear k4 Hgo HL
        cases r
        all_goals
          simp only [lookR]
          go_wp2_with fail
          go_ret
          exact ⟨rfl, K4.out⟩
      · by_cases h0 : kd = 0
        · subst h0
          by_cases hm : xp % n = sp % n
          · have hm' : ((xp : Int) % (n : Int) == (sp : Int) % (n : Int)) = true := by simp; omega
            clear hm h2
            go_wp2_with fail
            go_quiet (fail)
            go_wp2_with fail
            refine (HL.out _).mono ?_
            rintro e w4 ⟨r, rfl, k4⟩
            have K4 : Hid (Kep w w4) := k4
            clear k4 Hgo HL
            cases r
            all_goals
              simp only [lookR]
              go_wp2_with fail
              go_ret
              exact ⟨rfl, K4.out⟩
          · have HG : Hid (∀ nq, Kep W (w3.drewN nq) ∧ ∃ S, PagesOk S ∧ Tlb (w3.drewN nq) p R S 0 0 ∧ S.length = n ∧ lookS S sp = some (a1f2, a1f3)) := fun nq => Hgo.out nq (by decide) (fun h => hm h.2) (fun h => by have := h.1; omega)
            have hm' : ((xp : Int) % (n : Int) == (sp : Int) % (n : Int)) = false := by simp; omega
            clear hm h2 HL Hgo
            go_wp2_with fail
            go_quiet (fail)
            go_wp2_with fail
            go_roundw
            case rel => exact ⟨k + 1, by omega, by omega, rfl, by go_num, HG.out _⟩
            case measure => simp [intOf]; omega
        · by_cases h1 : kd = 1
          · subst h1
            by_cases hm : xp = sp
            · subst hm
              clear h2 h0
              go_wp2_with fail
              go_quiet (fail)
              go_wp2_with fail
              refine (HL.out _).mono ?_
              rintro e w4 ⟨r, rfl, k4⟩
              have K4 : Hid (Kep w w4) := k4
              clear k4 Hgo HL
              cases r
              all_goals
                simp only [lookR]
                go_wp2_with fail
                go_ret
                exact ⟨rfl, K4.out⟩
            · have HG : Hid (∀ nq, Kep W (w3.drewN nq) ∧ ∃ S, PagesOk S ∧ Tlb (w3.drewN nq) p R S 0 0 ∧ S.length = n ∧ lookS S sp = some (a1f2, a1f3)) := fun nq => Hgo.out nq (by decide) (fun h => h0 h.1) (fun h => hm h.2)
              have hm' : ((xp : Int) == (sp : Int)) = false := by simp; omega
              clear hm h2 h0 HL Hgo
              go_wp2_with fail
              go_quiet (fail)
              go_wp2_with fail
              go_roundw
              case rel => exact ⟨k + 1, by omega, by omega, rfl, by go_num, HG.out _⟩
              case measure => simp [intOf]; omega
          · have HG : Hid (∀ nq, Kep W (w3.drewN nq) ∧ ∃ S, PagesOk S ∧ Tlb (w3.drewN nq) p R S 0 0 ∧ S.length = n ∧ lookS S sp = some (a1f2, a1f3)) := fun nq => Hgo.out nq h2 (fun h => h0 h.1) (fun h => h1 h.1)
            have f0 : (kd == 0) = false := by simpa using h0
            have f1 : (kd == 1) = false := by simpa using h1
            have f2 : (kd == 2) = false := by simpa using h2
            clear h0 h1 h2 HL Hgo
            go_wp2_with fail
            go_quiet (fail)
            go_wp2_with fail
            go_roundw
            case rel => exact ⟨k + 1, by omega, by omega, rfl, by go_num, HG.out _⟩
            case measure => simp [intOf]; omega
    · have HL := look_any Q.out.2.2.1 Q.out.2.1 (by decide) (by decide) (by decide) (by decide) sp hs1
      rw [Q.out.2.2.2.2] at HL
      have HL' : Hid (Calls Try.prog 10 #[.pointer (some ⟨p, 0, none⟩), .int .u32 sp] wr fun e w' => e = .returned (.tuple #[.int .u32 a1f2, .int .i64 a1f3, .bool true]) ∧ Put [p] wr w' ∧ Tlb w' p R S 1 0) := HL
      obtain ⟨y1, y2, y3⟩ := HC.out _ kw
      clear HL
      rcases (by omega : ¬ (k : Int) < len2 ∨ ((k : Int) < len2 ∧ ¬ (k : Int) < 50)) with hq | ⟨hq, hq'⟩
      all_goals
        clear hend
        go_wp2_with fail
        refine HL'.out.mono ?_
        rintro e w5 ⟨rfl, p5, _⟩
        have k5 : Kep W w5 := kw.put p5 (by simpa using G.out.1)
        have K5 : Hid (Kep w w5) := kep_trans K0.out k5
        clear y1 y2 y3
        obtain ⟨y1, y2, y3⟩ := HC.out _ k5
        clear k5 p5 HL'
        go_wp2_with fail
        go_ret
        exact ⟨rfl, K5.out⟩

set_option maxRecDepth 100000 in
theorem lifted (os : Os) (started : os.Started) (H : Type) (enc : TypeId × Value → H) :
    ReturnsInHanded {} Try.checked os 6 .any (Rows.tlbLastSpec.pre6 enc Try.prog Try.f6 Rows.tlbLastRow.domain false) (Rows.tlbLastSpec.post enc Try.prog Try.f6 false true false false) := by
  refine returnsInHanded_of_change (C := Try.checked) own started (by kernel_rfl) Try.func6
    (ChangeSpec.witness6 (enc := enc) (C := Try.checked) false ⟨#[], #[.int .i64 0, .agg #[.int .i64 0, .int .u32 0, .int .u32 0, .int .i64 0], .slice none 0 0], []⟩ 8 (by kernel_rfl) (by kernel_rfl) (by kernel_rfl) (by kernel_rfl)) ?_
  intro W base args ds gs before hval0 hW hcnd _
  have hval : ∀ (j : Nat) t v, Try.f6.params[j]? = some t → args[j]? = some v → Value.okWide Try.prog W .any base t v := hval0
  have hW' := hW
  obtain ⟨p, q, hA0, hV, rfl, hfz, hnd⟩ := hW
  have hA : DataW.TrodAll enc Try.prog W 0 (fun _ => true) true Try.f6.params.toList args.toList ds p := hA0
  rw [Try.params6] at hA hval
  obtain ⟨v0, vs0, d0, ds0, p0, q0, hargs, rfl, rfl, h0, r0⟩ := trodAll_cons hA
  obtain ⟨v1, vs1, d1, ds1, p1, q1, rfl, rfl, rfl, h1, r1⟩ := trodAll_cons r0
  obtain ⟨v2, vs2, d2, ds2, p2, q2, rfl, rfl, rfl, h2, r2⟩ := trodAll_cons r1
  obtain ⟨rfl, rfl, rfl⟩ := trodAll_nil r2
  obtain rfl : args = #[v0, v1, v2] := by cases args; simp_all
  obtain ⟨rfl, rfl⟩ := trodVars_none hV
  have k0 := h0
  have lt0 : ∀ x ∈ p0, x.block < W.heap.size := by obtain ⟨m, hm⟩ := k0; exact DataW.trod_lt m _ _ _ hm
  obtain ⟨a0, rfl, rfl, rfl, w0⟩ := open_int Try.underlying3 (hval 0 3 v0 rfl rfl) h0
  have k1 := h1
  have lt1 : ∀ x ∈ p1, x.block < W.heap.size := by obtain ⟨m, hm⟩ := k1; exact DataW.trod_lt m _ _ _ hm
  obtain ⟨c1f0, c1f1, c1f2, c1f3, y1f0, y1f1, y1f2, y1f3, m1, rfl, _, _, e1f0, e1f1, e1f2, e1f3⟩ := Joins.open_agg4 Try.underlying29 (by kernel_rfl) (show Try.prog.cellsOf 29 = 4 by kernel_rfl) (hval 1 29 v1 rfl rfl) h1
  obtain ⟨a1f0, q1f0, _, w1f0⟩ := DataW.trod_int Try.underlying3 e1f0
  obtain rfl : c1f0 = .int .i64 a1f0 := by simpa using q1f0
  obtain ⟨a1f1, q1f1, _, w1f1⟩ := DataW.trod_int Try.underlying27 e1f1
  obtain rfl : c1f1 = .int .u32 a1f1 := by simpa using q1f1
  obtain ⟨a1f2, q1f2, _, w1f2⟩ := DataW.trod_int Try.underlying27 e1f2
  obtain rfl : c1f2 = .int .u32 a1f2 := by simpa using q1f2
  obtain ⟨a1f3, q1f3, _, w1f3⟩ := DataW.trod_int Try.underlying3 e1f3
  obtain rfl : c1f3 = .int .i64 a1f3 := by simpa using q1f3
  have k2 := h2
  have lt2 : ∀ x ∈ p2, x.block < W.heap.size := by obtain ⟨m, hm⟩ := k2; exact DataW.trod_lt m _ _ _ hm
  obtain ⟨x2, len2, cap2, rfl⟩ := okWide_slice Try.underlying22 (hval 2 22 v2 rfl rfl)
  obtain ⟨z2, w2⟩ : ∃ zs, StRow W x2 len2 cap2 zs := by
    obtain ⟨fuel, hf⟩ := h2
    exact sts_of hf
  clear hA0 hval0
  refine (walk a0 w0 a1f0 w1f0 a1f1 w1f1 a1f2 w1f2 a1f3 w1f3 x2 len2 cap2 z2 W w2).mono fun e W' ⟨he, bel0⟩ => ?_
  have bel : Below W.heap.size W W' := bel0
  subst he
  exact ⟨_, rfl, _, _, _, [], _, [], hW', trodAll_mk1 (shut_bool Try.underlying4 _), (trodAll_cons_mk (Below.trod laidOut (by kernel_rfl) (of_decide_eq_true (by kernel_rfl)) k0 bel lt0) (trodAll_cons_mk (Below.trod laidOut (by kernel_rfl) (of_decide_eq_true (by kernel_rfl)) k1 bel lt1) (trodAll_cons_mk (Below.trod laidOut (by kernel_rfl) (of_decide_eq_true (by kernel_rfl)) k2 bel lt2) trodAll_mk0))), rfl, bel.frame _, fun h => by cases h⟩

theorem over : Rows.tlbLastRow.holds Try.pinned (OpenSpec.ofChange Rows.tlbLastSpec) :=
  OpenClaim.holds_of_wide 6 Try.f6 rfl rfl rfl rfl rfl rfl rfl ⟨rfl, rfl, rfl, rfl, rfl⟩ rfl rfl rfl rfl rfl (by kernel_rfl) Try.func6 (by kernel_rfl)
    (of_decide_eq_true (by kernel_rfl)) (by unfold Func.isWrapper; first | (rw [if_pos (by decide +kernel)]; kernel_rfl) | (rw [if_neg (by decide +kernel)]; exact ⟨rfl, rfl⟩))
    (fun os started H enc _ => lifted os started H enc)
end Go.Proofs.Ytekcknkfpecppaa.tlbLast
namespace Go.Proofs.Ytekcknkfpecppaa

theorem tlbLast_holds : Rows.TlbLastSaid := tlbLast.over
#print axioms tlbLast_holds
end Go.Proofs.Ytekcknkfpecppaa
