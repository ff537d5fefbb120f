/- For every number of slots and every two steps, the law TlbApart returns true: two pages of unlike slots do not disturb one another. -/
import Derived.Test.YtekcknkfpecppaaRows
import Derived.Test.YtekcknkfpecppaaUopen
import Derived.WalkKit
import Derived.ProofKit
import Derived.OpenShut
import Derived.ShutString
import Derived.ChangeOld
import Derived.Below
import Derived.Lib.SmallJoins
namespace Go.Proofs.Ytekcknkfpecppaa.tlbApart
open Go.ChangeShapes Go.WideShapes Go.ChangeAt Go.RowKit
set_option linter.unusedVariables false

theorem own : ownKnob Try.prog.godebug = none := by kernel_rfl
theorem laidOut : laidOutB Try.prog = true := by kernel_rfl

set_option maxHeartbeats 4000000 in
set_option maxRecDepth 100000 in
theorem walk (a0 : Int) (w0 : (Lit.int .i64 a0).wf = true) (a1f0 : Int) (w1f0 : (Lit.int .i64 a1f0).wf = true) (a1f1 : Int) (w1f1 : (Lit.int .u32 a1f1).wf = true) (a1f2 : Int) (w1f2 : (Lit.int .u32 a1f2).wf = true) (a1f3 : Int) (w1f3 : (Lit.int .i64 a1f3).wf = true) (a2f0 : Int) (w2f0 : (Lit.int .i64 a2f0).wf = true) (a2f1 : Int) (w2f1 : (Lit.int .u32 a2f1).wf = true) (a2f2 : Int) (w2f2 : (Lit.int .u32 a2f2).wf = true) (a2f3 : Int) (w2f3 : (Lit.int .i64 a2f3).wf = true) (w : World)  :
    Calls Try.prog 7 #[.int .i64 a0, .agg #[.int .i64 a1f0, .int .u32 a1f1, .int .u32 a1f2, .int .i64 a1f3], .agg #[.int .i64 a2f0, .int .u32 a2f1, .int .u32 a2f2, .int .i64 a2f3]] w fun e w' => e = .returned (.bool true) ∧ Kep w w' := by
  have b0 := i64_of w0
  have b1 := u32_of w1f1
  have b2 := u32_of w2f1
  obtain ⟨sp, rfl⟩ : ∃ n : Nat, a1f1 = n := ⟨a1f1.toNat, by omega⟩
  obtain ⟨up, rfl⟩ : ∃ n : Nat, a2f1 = n := ⟨a2f1.toNat, by omega⟩
  have hM : Hid (∀ w, Calls Try.prog 8 #[.int .i64 a0] w _) := fun w => made_own w a0 b0.1 b0.2
  have hs1 : (sp : Int) < 4294967296 := b1.2
  have hu1 : (up : Int) < 4294967296 := b2.2
  clear w0 b0 b1 b2 w1f0 w1f1 w1f2 w1f3 w2f0 w2f1 w2f2 w2f3
  go_enter Try.func7, Try.ntmps7
  go_wp2_with fail
  generalize hW : ((w.alloc (.cells #[.int .i64 a1f0, .int .u32 (sp : Int), .int .u32 a1f2, .int .i64 a1f3] 29)).alloc (.cells #[.int .i64 a2f0, .int .u32 (up : Int), .int .u32 a2f2, .int .i64 a2f3] 29)) = W
  have K0 : Hid (Kep w W) := by unfold Hid; rw [← hW]; exact ((Kep.refl _).alloc _).alloc _
  have B1 : W.heap[w.heap.size]? = some (.cells #[.int .i64 a1f0, .int .u32 (sp : Int), .int .u32 a1f2, .int .i64 a1f3] 29) := by rw [← hW]; exact (hsk _ _ _ (by simp)).trans (hat _ _ _ rfl)
  have B2 : W.heap[w.heap.size + 1]? = some (.cells #[.int .i64 a2f0, .int .u32 (up : Int), .int .u32 a2f2, .int .i64 a2f3] 29) := by rw [← hW]; exact hat _ _ _ (by simp)
  have lW : W.heap.size = w.heap.size + 2 := by rw [← hW]; simp
  have HC : Hid (∀ wr, Kep W wr → (wr.cell? ⟨w.heap.size, 1, none⟩ = some (.int .u32 sp) ∧ wr.cell? ⟨w.heap.size, 2, none⟩ = some (.int .u32 a1f2) ∧ wr.cell? ⟨w.heap.size, 3, none⟩ = some (.int .i64 a1f3)) ∧
      (wr.cell? ⟨w.heap.size + 1, 1, none⟩ = some (.int .u32 up) ∧ wr.cell? ⟨w.heap.size + 1, 2, none⟩ = some (.int .u32 a2f2) ∧ wr.cell? ⟨w.heap.size + 1, 3, none⟩ = some (.int .i64 a2f3))) := by
    intro wr k
    have c1 : ∀ j, wr.cell? ⟨w.heap.size, j, none⟩ = _ := fun j => cell_of_block (k.block B1)
    have c2 : ∀ j, wr.cell? ⟨w.heap.size + 1, j, none⟩ = _ := fun j => cell_of_block (k.block B2)
    exact ⟨⟨c1 1, c1 2, c1 3⟩, c2 1, c2 2, c2 3⟩
  have lW' : Hid (W.heap.size = w.heap.size + 2) := lW
  clear hW B1 B2 lW
  refine (hM.out _).mono ?_
  rintro e w1 ⟨n, p, R, rfl, hn1, hn9, k1, t1, gp, gR⟩
  obtain ⟨⟨x1, x2, x3⟩, y1, y2, y3⟩ := HC.out _ k1
  have hlen : (List.replicate n (none : Sl)).length = n := by simp
  have Q1 : Hid (Kep W w1 ∧ PagesOk (List.replicate n none) ∧ Tlb w1 p R (List.replicate n none) 0 0 ∧ (List.replicate n (none : Sl)).length = n ∧ W.heap.size ≤ p ∧ W.heap.size ≤ R) := ⟨k1, .none _, t1, hlen, gp, gR⟩
  generalize List.replicate n (none : Sl) = S at Q1
  clear k1 t1 hM gp gR hlen
  go_wp2_with fail
  refine (put_any Q1.out.2.2.1 sp hs1 a1f2 a1f3).mono ?_
  rintro e w2 ⟨rfl, p2, t2⟩
  have k2 : Kep W w2 := Q1.out.1.put p2 (by simpa using Q1.out.2.2.2.2.2)
  have Q2 : Hid (Kep W w2 ∧ PagesOk (putS S sp a1f2 a1f3) ∧ Tlb w2 p R (putS S sp a1f2 a1f3) 0 0) := ⟨k2, Q1.out.2.1.put sp hs1 _ _, t2⟩
  clear x1 x2 x3 y1 y2 y3
  obtain ⟨⟨x1, x2, x3⟩, y1, y2, y3⟩ := HC.out _ k2
  clear p2 t2 k2
  go_wp2_with fail
  refine (put_any Q2.out.2.2 up hu1 a2f2 a2f3).mono ?_
  rintro e w3 ⟨rfl, p3, t3⟩
  have k3 : Kep W w3 := Q2.out.1.put p3 (by simpa using Q1.out.2.2.2.2.2)
  have HL := look_any t3 (Q2.out.2.1.put up hu1 _ _) (by decide) (by decide) (by decide) (by decide) up hu1
  have hl2 : (putS S sp a1f2 a1f3).length = n := by rw [putS_len]; exact Q1.out.2.2.2.1
  have e1 : lookS (putS (putS S sp a1f2 a1f3) up a2f2 a2f3) up = some (a2f2, a2f3) := by rw [lookS_put (by omega), if_pos rfl, if_pos rfl]
  have e2 : lookS (putS (putS S sp a1f2 a1f3) up a2f2 a2f3) sp = if up % n = sp % n then (if up = sp then some (a2f2, a2f3) else none) else some (a1f2, a1f3) := by
    rw [lookS_put (by omega), hl2]
    split
    · rfl
    · rw [lookS_put (by have := Q1.out.2.2.2.1; omega), if_pos rfl, if_pos rfl]
  rw [e1] at HL
  have HL' : Hid (Calls Try.prog 10 #[.pointer (some ⟨p, 0, none⟩), .int .u32 up] w3 fun e w' => e = .returned (.tuple #[.int .u32 a2f2, .int .i64 a2f3, .bool true]) ∧ Put [p] w3 w' ∧ Tlb w' p R (putS (putS S sp a1f2 a1f3) up a2f2 a2f3) 1 0) := HL
  have E2 : Hid (lookS (putS (putS S sp a1f2 a1f3) up a2f2 a2f3) sp = if up % n = sp % n then (if up = sp then some (a2f2, a2f3) else none) else some (a1f2, a1f3)) := e2
  have K3 : Hid (Kep W w3 ∧ PagesOk (putS (putS S sp a1f2 a1f3) up a2f2 a2f3)) := ⟨k3, Q2.out.2.1.put up hu1 _ _⟩
  clear x1 x2 x3 y1 y2 y3
  obtain ⟨⟨x1, x2, x3⟩, y1, y2, y3⟩ := HC.out _ k3
  clear p3 t3 k3 HL e1 e2 Q2 hl2
  go_wp2_with fail
  refine HL'.out.mono ?_
  rintro e w4 ⟨rfl, p4, t4⟩
  have k4 : Kep W w4 := K3.out.1.put p4 (by simpa using Q1.out.2.2.2.2.1)
  have HL4 := look_any t4 K3.out.2 (by decide) (by decide) (by decide) (by decide) sp hs1
  have HL4' : Hid (Calls Try.prog 10 #[.pointer (some ⟨p, 0, none⟩), .int .u32 sp] w4 _) := HL4
  clear x1 x2 x3 y1 y2 y3
  obtain ⟨⟨x1, x2, x3⟩, y1, y2, y3⟩ := HC.out _ k4
  have K4 : Hid (Kep W w4) := k4
  clear p4 t4 k4 HL4 HL' K3
  go_wp2_with fail
  refine HL4'.out.mono ?_
  rintro e w5 ⟨rfl, p5, t5⟩
  have k5 : Kep W w5 := K4.out.put p5 (by simpa using Q1.out.2.2.2.2.1)
  have K5 : Hid (Kep w w5) := kep_trans K0.out k5
  rw [E2.out]
  clear x1 x2 x3 y1 y2 y3
  obtain ⟨⟨x1, x2, x3⟩, y1, y2, y3⟩ := HC.out _ k5
  have g0 : ((n : Int) == 0) = false := by simp; omega
  have gn : (n : Int) ≤ 9 := by omega
  clear p5 t5 k5 HL4' K4 HC E2 Q1 K0 lW'
  by_cases hm : up % n = sp % n
  · rw [if_pos hm]
    by_cases he : up = sp
    · rw [if_pos he]
      subst he
      simp only [lookR]
      clear hm
      go_wp2_with fail
      go_quiet (fail)
      go_wp2_with fail
      go_ret
      exact ⟨rfl, K5.out.drewN _⟩
    · rw [if_neg he]
      have hm' : (up : Int) % (n : Int) = (sp : Int) % (n : Int) := by omega
      have he' : ((sp : Int) == (up : Int)) = false := by simp; omega
      clear hm he
      simp only [lookR]
      go_wp2_with fail
      go_quiet (fail)
      go_wp2_with fail
      go_ret
      exact ⟨rfl, K5.out.drewN _⟩
  · rw [if_neg hm]
    have hm' : ((sp : Int) % (n : Int) != (up : Int) % (n : Int)) = true := by simp; omega
    clear hm
    simp only [lookR]
    go_wp2_with fail
    go_quiet (fail)
    go_wp2_with fail
    go_ret
    exact ⟨rfl, K5.out.drewN _⟩

set_option maxRecDepth 100000 in
theorem lifted (os : Os) (started : os.Started) (H : Type) (enc : TypeId × Value → H) :
    ReturnsInHanded {} Try.checked os 7 .any (Rows.tlbApartSpec.pre6 enc Try.prog Try.f7 Rows.tlbApartRow.domain false) (Rows.tlbApartSpec.post enc Try.prog Try.f7 false true false false) := by
  refine returnsInHanded_of_change (C := Try.checked) own started (by kernel_rfl) Try.func7
    (ChangeSpec.witness6 (enc := enc) (C := Try.checked) false ⟨#[], #[.int .i64 0, .agg #[.int .i64 0, .int .u32 0, .int .u32 0, .int .i64 0], .agg #[.int .i64 0, .int .u32 0, .int .u32 0, .int .i64 0]], []⟩ 8 (by kernel_rfl) (by kernel_rfl) (by kernel_rfl) (by kernel_rfl)) ?_
  intro W base args ds gs before hval0 hW hcnd _
  have hval : ∀ (j : Nat) t v, Try.f7.params[j]? = some t → args[j]? = some v → Value.okWide Try.prog W .any base t v := hval0
  have hW' := hW
  obtain ⟨p, q, hA0, hV, rfl, hfz, hnd⟩ := hW
  have hA : DataW.TrodAll enc Try.prog W 0 (fun _ => true) true Try.f7.params.toList args.toList ds p := hA0
  rw [Try.params7] at hA hval
  obtain ⟨v0, vs0, d0, ds0, p0, q0, hargs, rfl, rfl, h0, r0⟩ := trodAll_cons hA
  obtain ⟨v1, vs1, d1, ds1, p1, q1, rfl, rfl, rfl, h1, r1⟩ := trodAll_cons r0
  obtain ⟨v2, vs2, d2, ds2, p2, q2, rfl, rfl, rfl, h2, r2⟩ := trodAll_cons r1
  obtain ⟨rfl, rfl, rfl⟩ := trodAll_nil r2
  obtain rfl : args = #[v0, v1, v2] := by cases args; simp_all
  obtain ⟨rfl, rfl⟩ := trodVars_none hV
  have k0 := h0
  have lt0 : ∀ x ∈ p0, x.block < W.heap.size := by obtain ⟨m, hm⟩ := k0; exact DataW.trod_lt m _ _ _ hm
  obtain ⟨a0, rfl, rfl, rfl, w0⟩ := open_int Try.underlying3 (hval 0 3 v0 rfl rfl) h0
  have k1 := h1
  have lt1 : ∀ x ∈ p1, x.block < W.heap.size := by obtain ⟨m, hm⟩ := k1; exact DataW.trod_lt m _ _ _ hm
  obtain ⟨c1f0, c1f1, c1f2, c1f3, y1f0, y1f1, y1f2, y1f3, m1, rfl, _, _, e1f0, e1f1, e1f2, e1f3⟩ := Joins.open_agg4 Try.underlying29 (by kernel_rfl) (show Try.prog.cellsOf 29 = 4 by kernel_rfl) (hval 1 29 v1 rfl rfl) h1
  obtain ⟨a1f0, q1f0, _, w1f0⟩ := DataW.trod_int Try.underlying3 e1f0
  obtain rfl : c1f0 = .int .i64 a1f0 := by simpa using q1f0
  obtain ⟨a1f1, q1f1, _, w1f1⟩ := DataW.trod_int Try.underlying27 e1f1
  obtain rfl : c1f1 = .int .u32 a1f1 := by simpa using q1f1
  obtain ⟨a1f2, q1f2, _, w1f2⟩ := DataW.trod_int Try.underlying27 e1f2
  obtain rfl : c1f2 = .int .u32 a1f2 := by simpa using q1f2
  obtain ⟨a1f3, q1f3, _, w1f3⟩ := DataW.trod_int Try.underlying3 e1f3
  obtain rfl : c1f3 = .int .i64 a1f3 := by simpa using q1f3
  have k2 := h2
  have lt2 : ∀ x ∈ p2, x.block < W.heap.size := by obtain ⟨m, hm⟩ := k2; exact DataW.trod_lt m _ _ _ hm
  obtain ⟨c2f0, c2f1, c2f2, c2f3, y2f0, y2f1, y2f2, y2f3, m2, rfl, _, _, e2f0, e2f1, e2f2, e2f3⟩ := Joins.open_agg4 Try.underlying29 (by kernel_rfl) (show Try.prog.cellsOf 29 = 4 by kernel_rfl) (hval 2 29 v2 rfl rfl) h2
  obtain ⟨a2f0, q2f0, _, w2f0⟩ := DataW.trod_int Try.underlying3 e2f0
  obtain rfl : c2f0 = .int .i64 a2f0 := by simpa using q2f0
  obtain ⟨a2f1, q2f1, _, w2f1⟩ := DataW.trod_int Try.underlying27 e2f1
  obtain rfl : c2f1 = .int .u32 a2f1 := by simpa using q2f1
  obtain ⟨a2f2, q2f2, _, w2f2⟩ := DataW.trod_int Try.underlying27 e2f2
  obtain rfl : c2f2 = .int .u32 a2f2 := by simpa using q2f2
  obtain ⟨a2f3, q2f3, _, w2f3⟩ := DataW.trod_int Try.underlying3 e2f3
  obtain rfl : c2f3 = .int .i64 a2f3 := by simpa using q2f3
  clear hA0 hval0
  refine (walk a0 w0 a1f0 w1f0 a1f1 w1f1 a1f2 w1f2 a1f3 w1f3 a2f0 w2f0 a2f1 w2f1 a2f2 w2f2 a2f3 w2f3 W ).mono fun e W' ⟨he, bel0⟩ => ?_
  have bel : Below W.heap.size W W' := bel0
  subst he
  exact ⟨_, rfl, _, _, _, [], _, [], hW', trodAll_mk1 (shut_bool Try.underlying4 _), (trodAll_cons_mk (Below.trod laidOut (by kernel_rfl) (of_decide_eq_true (by kernel_rfl)) k0 bel lt0) (trodAll_cons_mk (Below.trod laidOut (by kernel_rfl) (of_decide_eq_true (by kernel_rfl)) k1 bel lt1) (trodAll_cons_mk (Below.trod laidOut (by kernel_rfl) (of_decide_eq_true (by kernel_rfl)) k2 bel lt2) trodAll_mk0))), rfl, bel.frame _, fun h => by cases h⟩

theorem over : Rows.tlbApartRow.holds Try.pinned (OpenSpec.ofChange Rows.tlbApartSpec) :=
  OpenClaim.holds_of_wide 7 Try.f7 rfl rfl rfl rfl rfl rfl rfl ⟨rfl, rfl, rfl, rfl, rfl⟩ rfl rfl rfl rfl rfl (by kernel_rfl) Try.func7 (by kernel_rfl)
    (of_decide_eq_true (by kernel_rfl)) (by unfold Func.isWrapper; first | (rw [if_pos (by decide +kernel)]; kernel_rfl) | (rw [if_neg (by decide +kernel)]; exact ⟨rfl, rfl⟩))
    (fun os started H enc _ => lifted os started H enc)
end Go.Proofs.Ytekcknkfpecppaa.tlbApart
namespace Go.Proofs.Ytekcknkfpecppaa

theorem tlbApart_holds : Rows.TlbApartSaid := tlbApart.over
#print axioms tlbApart_holds
end Go.Proofs.Ytekcknkfpecppaa
