/- What the document's devices are asked at a port. -/
import Derived.Test.YtpieeefeicdfgabVrd
import Derived.Deep.RegionHeld3
namespace Go.Proofs.Ytpieeefeicdfgab
open Go.RowKit
set_option linter.unusedVariables false
set_option linter.unusedSimpArgs false

set_option maxHeartbeats 4000000 in
set_option maxRecDepth 100000 in
theorem rin_any {w : World} {p : Nat} {s : DS} {vS : Value} {E0 : List Ev} {F : List Nat} (h : RDv w p s vS E0 F) (ok : s.Ok) (port : Int) :
    Calls Try.prog 48 #[.pointer (some ⟨p, 0, none⟩), .int .i64 port] w fun e w' => e = .returned (.int .u32 (inI s port)) ∧ Kep w w' := by
  obtain ⟨c, k, f, t, vq, vo, vd, Fq, Fo, Fd, D, hF⟩ := h
  have c2 : w.cell? ⟨p, 2, none⟩ = some (.int .u32 s.b) := D.c' 2
  have c3 : w.cell? ⟨p, 3, none⟩ = some (.int .u32 s.m) := D.c' 3
  have c4 : w.cell? ⟨p, 4, none⟩ = some vq := D.c' 4
  have c6 : w.cell? ⟨p, 6, none⟩ = some vd := D.c' 6
  have c7 : w.cell? ⟨p, 7, none⟩ = some (.int .u32 s.n) := D.c' 7
  have c8 : w.cell? ⟨p, 8, none⟩ = some (.int .u32 s.a) := D.c' 8
  have c9 : w.cell? ⟨p, 9, none⟩ = some (.int .u32 s.s) := D.c' 9
  obtain ⟨xq, cq, hvq, hlq, hq1, hq2, _⟩ := D.q.lies
  obtain ⟨xb, cb, hvb, _⟩ := D.d.lies
  subst hvq hvb
  by_cases h0 : port = 0
  · subst h0
    have e : inI s 0 = firstI s.Q := by simp [inI]
    rw [e]
    have hqb := ok.qb
    generalize s.Q = Q at *
    cases Q with
    | nil =>
      clear D ok e hlq hqb
      go_enter Try.func48, Try.ntmps48
      go_wp2_with fail
      go_ret
      exact ⟨rfl, Kep.refl _⟩
    | cons x Q =>
      rcases hlq with hl | ⟨b, off, rfl, hb, hc⟩
      · simp [byt] at hl
      have c1 : w.cell? ⟨b, off, none⟩ = some (.int .u8 x) := hc 0 _ rfl
      have hx := hqb x (by simp)
      have hx0 := hx.1
      have hx1 := hx.2
      have hn1 : (1 : Int) ≤ ((x :: Q).length : Int) := by simp only [List.length_cons]; omega
      have hn2 : ((x :: Q).length : Int) ≤ 9223372036854775807 := by unfold maxLen at hq2; omega
      show Calls _ _ _ _ fun e w' => e = .returned (.int .u32 x) ∧ Kep w w'
      generalize (x :: Q).length = n at c4 hn1 hn2
      have hn0 : ((n : Int) == 0) = false := by simp; omega
      have hn0' : (n == 0) = false := by simp; omega
      clear D ok e hc hqb hx hq1 hq2
      go_enter Try.func48, Try.ntmps48
      go_wp2_with fail
      go_ret
      exact ⟨ret_int (by omega), Kep.refl _⟩
  have t0 : (port == 0) = false := by simp [h0]
  by_cases hlow : port < 0
  · have e : inI s port = 0 := by unfold inI; rw [if_neg h0, if_neg (by omega), if_neg (by omega), if_neg (by omega), if_neg (by omega), if_neg (by omega), if_neg (by omega), if_neg (by omega)]
    rw [e]
    clear D ok e h0
    go_enter Try.func48, Try.ntmps48
    go_wp2_with fail
    go_ret
    exact ⟨rfl, Kep.refl _⟩
  by_cases hhi : 7 < port
  · have e : inI s port = 0 := by unfold inI; rw [if_neg h0, if_neg (by omega), if_neg (by omega), if_neg (by omega), if_neg (by omega), if_neg (by omega), if_neg (by omega), if_neg (by omega)]
    rw [e]
    clear D ok e h0
    go_enter Try.func48, Try.ntmps48
    go_wp2_with fail
    go_ret
    exact ⟨rfl, Kep.refl _⟩
  obtain ⟨j, hj⟩ : ∃ j : Nat, port = j := ⟨port.toNat, by omega⟩
  subst hj
  have j7 : j = 1 ∨ j = 2 ∨ j = 3 ∨ j = 4 ∨ j = 5 ∨ j = 6 ∨ j = 7 := by omega
  obtain ⟨m, hm⟩ : ∃ m, m = s.D.length / 64 := ⟨_, rfl⟩
  obtain ⟨r, hr⟩ : ∃ r, Hid (r = inI s j) := ⟨_, rfl⟩
  rw [← hr.out]
  have hfin : Hid (∀ h : j < 8, ([.int .u32 0, .int .u32 s.Q.length, .int .u32 s.n, .int .u32 s.a, .int .u32 s.s, .int .u32 s.m, .int .u32 s.b, .int .u32 m] : List Value)[j]'h = .int .u32 r) := fun h => by
    rw [hr.out, hm]
    clear hr
    rcases j7 with rfl | rfl | rfl | rfl | rfl | rfl | rfl <;> simp [inI]
  have q1 : IntKind.u32.wrap (s.Q.length : Int) = s.Q.length := by rw [IntKind.wrap_u32]; have := ok.q; omega
  have q2 : IntKind.u32.wrap (m : Int) = m := by rw [IntKind.wrap_u32]; have := ok.d; omega
  have q3 : IntKind.i64.wrap ((s.D.length : Int) / 64) = m := by rw [IntKind.wrap_i64]; have := ok.d; omega
  have j0 : ((j : Int) == 0) = false := t0
  have j0' : (j == 0) = false := by simp; omega
  have j8 : (j : Int) < 8 := by omega
  have j8' : j < 8 := by omega
  generalize s.Q.length = nq at *
  generalize s.D.length = nd at *
  clear D ok h0 t0 hlq hq1 hq2 hr hm j7 hlow
  go_enter Try.func48, Try.ntmps48
  go_wp2_with fail
  refine wp_region_held_drew (S := fun w' => w'.cell? ⟨p, 2, none⟩ = some (.int .u32 s.b) ∧ w'.cell? ⟨p, 3, none⟩ = some (.int .u32 s.m) ∧ w'.cell? ⟨p, 4, none⟩ = some (.slice xq nq cq) ∧ w'.cell? ⟨p, 6, none⟩ = some (.slice xb nd cb) ∧ w'.cell? ⟨p, 7, none⟩ = some (.int .u32 s.n) ∧ w'.cell? ⟨p, 8, none⟩ = some (.int .u32 s.a) ∧ w'.cell? ⟨p, 9, none⟩ = some (.int .u32 s.s)) (by kernel_rfl) ⟨c2, c3, c4, c6, c7, c8, c9⟩ (fun hH => ?_)
  clear c2 c3 c4 c6 c7 c8 c9
  refine wpAnyH_take (i := 0) (v := .pointer (some ⟨p, 0, none⟩)) rfl (by kernel_rfl) (by kernel_rfl) (by kernel_rfl) (fun _ _ _ h => h) (.inl ⟨by rfl, by intro w hS; obtain ⟨c2, c3, c4, c6, c7, c8, c9⟩ := hS; go_simp⟩) hH ?_
  (try dsimp only [Act.put]); (try simp only [Act.put, List.setIfInBounds_toArray, List.set_cons_zero, List.set_cons_succ])
  refine wpAnyH_take (i := 1) (v := .pointer (some ⟨p, 0, none⟩)) rfl (by kernel_rfl) (by kernel_rfl) (by kernel_rfl) (fun _ _ _ h => h) (.inl ⟨by rfl, by intro w hS; obtain ⟨c2, c3, c4, c6, c7, c8, c9⟩ := hS; go_simp⟩) hH ?_
  (try dsimp only [Act.put]); (try simp only [Act.put, List.setIfInBounds_toArray, List.set_cons_zero, List.set_cons_succ])
  refine wpAnyH_take (i := 2) (v := .pointer (some ⟨p, 4, none⟩)) rfl (by kernel_rfl) (by kernel_rfl) (by kernel_rfl) (fun _ _ _ h => h) (.inl ⟨by rfl, by intro w hS; obtain ⟨c2, c3, c4, c6, c7, c8, c9⟩ := hS; go_simp⟩) hH ?_
  (try dsimp only [Act.put]); (try simp only [Act.put, List.setIfInBounds_toArray, List.set_cons_zero, List.set_cons_succ])
  refine wpAnyH_take (i := 3) (v := .slice xq nq cq) rfl (by kernel_rfl) (by kernel_rfl) (by kernel_rfl) (fun _ _ _ h => h) (.inl ⟨by rfl, by intro w hS; obtain ⟨c2, c3, c4, c6, c7, c8, c9⟩ := hS; go_simp⟩) hH ?_
  (try dsimp only [Act.put]); (try simp only [Act.put, List.setIfInBounds_toArray, List.set_cons_zero, List.set_cons_succ])
  refine wpAnyH_take (i := 4) (v := .int .i64 nq) rfl (by kernel_rfl) (by kernel_rfl) (by kernel_rfl) (fun _ _ _ h => h) (.inl ⟨by rfl, by intro w hS; obtain ⟨c2, c3, c4, c6, c7, c8, c9⟩ := hS; go_simp⟩) hH ?_
  (try dsimp only [Act.put]); (try simp only [Act.put, List.setIfInBounds_toArray, List.set_cons_zero, List.set_cons_succ])
  refine wpAnyH_take (i := 5) (v := .int .u32 nq) rfl (by kernel_rfl) (by kernel_rfl) (by kernel_rfl) (fun _ _ _ h => h) (.inl ⟨by rfl, by intro w hS; obtain ⟨c2, c3, c4, c6, c7, c8, c9⟩ := hS; go_simp⟩) hH ?_
  (try dsimp only [Act.put]); (try simp only [Act.put, List.setIfInBounds_toArray, List.set_cons_zero, List.set_cons_succ])
  refine wpAnyH_take (i := 6) (v := .pointer (some ⟨p, 0, none⟩)) rfl (by kernel_rfl) (by kernel_rfl) (by kernel_rfl) (fun _ _ _ h => h) (.inl ⟨by rfl, by intro w hS; obtain ⟨c2, c3, c4, c6, c7, c8, c9⟩ := hS; go_simp⟩) hH ?_
  (try dsimp only [Act.put]); (try simp only [Act.put, List.setIfInBounds_toArray, List.set_cons_zero, List.set_cons_succ])
  refine wpAnyH_take (i := 7) (v := .pointer (some ⟨p, 0, none⟩)) rfl (by kernel_rfl) (by kernel_rfl) (by kernel_rfl) (fun _ _ _ h => h) (.inl ⟨by rfl, by intro w hS; obtain ⟨c2, c3, c4, c6, c7, c8, c9⟩ := hS; go_simp⟩) hH ?_
  (try dsimp only [Act.put]); (try simp only [Act.put, List.setIfInBounds_toArray, List.set_cons_zero, List.set_cons_succ])
  refine wpAnyH_take (i := 8) (v := .pointer (some ⟨p, 7, none⟩)) rfl (by kernel_rfl) (by kernel_rfl) (by kernel_rfl) (fun _ _ _ h => h) (.inl ⟨by rfl, by intro w hS; obtain ⟨c2, c3, c4, c6, c7, c8, c9⟩ := hS; go_simp⟩) hH ?_
  (try dsimp only [Act.put]); (try simp only [Act.put, List.setIfInBounds_toArray, List.set_cons_zero, List.set_cons_succ])
  refine wpAnyH_take (i := 9) (v := .int .u32 s.n) rfl (by kernel_rfl) (by kernel_rfl) (by kernel_rfl) (fun _ _ _ h => h) (.inl ⟨by rfl, by intro w hS; obtain ⟨c2, c3, c4, c6, c7, c8, c9⟩ := hS; go_simp⟩) hH ?_
  (try dsimp only [Act.put]); (try simp only [Act.put, List.setIfInBounds_toArray, List.set_cons_zero, List.set_cons_succ])
  refine wpAnyH_take (i := 10) (v := .pointer (some ⟨p, 0, none⟩)) rfl (by kernel_rfl) (by kernel_rfl) (by kernel_rfl) (fun _ _ _ h => h) (.inl ⟨by rfl, by intro w hS; obtain ⟨c2, c3, c4, c6, c7, c8, c9⟩ := hS; go_simp⟩) hH ?_
  (try dsimp only [Act.put]); (try simp only [Act.put, List.setIfInBounds_toArray, List.set_cons_zero, List.set_cons_succ])
  refine wpAnyH_take (i := 11) (v := .pointer (some ⟨p, 0, none⟩)) rfl (by kernel_rfl) (by kernel_rfl) (by kernel_rfl) (fun _ _ _ h => h) (.inl ⟨by rfl, by intro w hS; obtain ⟨c2, c3, c4, c6, c7, c8, c9⟩ := hS; go_simp⟩) hH ?_
  (try dsimp only [Act.put]); (try simp only [Act.put, List.setIfInBounds_toArray, List.set_cons_zero, List.set_cons_succ])
  refine wpAnyH_take (i := 12) (v := .pointer (some ⟨p, 8, none⟩)) rfl (by kernel_rfl) (by kernel_rfl) (by kernel_rfl) (fun _ _ _ h => h) (.inl ⟨by rfl, by intro w hS; obtain ⟨c2, c3, c4, c6, c7, c8, c9⟩ := hS; go_simp⟩) hH ?_
  (try dsimp only [Act.put]); (try simp only [Act.put, List.setIfInBounds_toArray, List.set_cons_zero, List.set_cons_succ])
  refine wpAnyH_take (i := 13) (v := .int .u32 s.a) rfl (by kernel_rfl) (by kernel_rfl) (by kernel_rfl) (fun _ _ _ h => h) (.inl ⟨by rfl, by intro w hS; obtain ⟨c2, c3, c4, c6, c7, c8, c9⟩ := hS; go_simp⟩) hH ?_
  (try dsimp only [Act.put]); (try simp only [Act.put, List.setIfInBounds_toArray, List.set_cons_zero, List.set_cons_succ])
  refine wpAnyH_take (i := 14) (v := .pointer (some ⟨p, 0, none⟩)) rfl (by kernel_rfl) (by kernel_rfl) (by kernel_rfl) (fun _ _ _ h => h) (.inl ⟨by rfl, by intro w hS; obtain ⟨c2, c3, c4, c6, c7, c8, c9⟩ := hS; go_simp⟩) hH ?_
  (try dsimp only [Act.put]); (try simp only [Act.put, List.setIfInBounds_toArray, List.set_cons_zero, List.set_cons_succ])
  refine wpAnyH_take (i := 15) (v := .pointer (some ⟨p, 0, none⟩)) rfl (by kernel_rfl) (by kernel_rfl) (by kernel_rfl) (fun _ _ _ h => h) (.inl ⟨by rfl, by intro w hS; obtain ⟨c2, c3, c4, c6, c7, c8, c9⟩ := hS; go_simp⟩) hH ?_
  (try dsimp only [Act.put]); (try simp only [Act.put, List.setIfInBounds_toArray, List.set_cons_zero, List.set_cons_succ])
  refine wpAnyH_take (i := 16) (v := .pointer (some ⟨p, 9, none⟩)) rfl (by kernel_rfl) (by kernel_rfl) (by kernel_rfl) (fun _ _ _ h => h) (.inl ⟨by rfl, by intro w hS; obtain ⟨c2, c3, c4, c6, c7, c8, c9⟩ := hS; go_simp⟩) hH ?_
  (try dsimp only [Act.put]); (try simp only [Act.put, List.setIfInBounds_toArray, List.set_cons_zero, List.set_cons_succ])
  refine wpAnyH_take (i := 17) (v := .int .u32 s.s) rfl (by kernel_rfl) (by kernel_rfl) (by kernel_rfl) (fun _ _ _ h => h) (.inl ⟨by rfl, by intro w hS; obtain ⟨c2, c3, c4, c6, c7, c8, c9⟩ := hS; go_simp⟩) hH ?_
  (try dsimp only [Act.put]); (try simp only [Act.put, List.setIfInBounds_toArray, List.set_cons_zero, List.set_cons_succ])
  refine wpAnyH_take (i := 18) (v := .pointer (some ⟨p, 0, none⟩)) rfl (by kernel_rfl) (by kernel_rfl) (by kernel_rfl) (fun _ _ _ h => h) (.inl ⟨by rfl, by intro w hS; obtain ⟨c2, c3, c4, c6, c7, c8, c9⟩ := hS; go_simp⟩) hH ?_
  (try dsimp only [Act.put]); (try simp only [Act.put, List.setIfInBounds_toArray, List.set_cons_zero, List.set_cons_succ])
  refine wpAnyH_take (i := 19) (v := .pointer (some ⟨p, 0, none⟩)) rfl (by kernel_rfl) (by kernel_rfl) (by kernel_rfl) (fun _ _ _ h => h) (.inl ⟨by rfl, by intro w hS; obtain ⟨c2, c3, c4, c6, c7, c8, c9⟩ := hS; go_simp⟩) hH ?_
  (try dsimp only [Act.put]); (try simp only [Act.put, List.setIfInBounds_toArray, List.set_cons_zero, List.set_cons_succ])
  refine wpAnyH_take (i := 20) (v := .pointer (some ⟨p, 3, none⟩)) rfl (by kernel_rfl) (by kernel_rfl) (by kernel_rfl) (fun _ _ _ h => h) (.inl ⟨by rfl, by intro w hS; obtain ⟨c2, c3, c4, c6, c7, c8, c9⟩ := hS; go_simp⟩) hH ?_
  (try dsimp only [Act.put]); (try simp only [Act.put, List.setIfInBounds_toArray, List.set_cons_zero, List.set_cons_succ])
  refine wpAnyH_take (i := 21) (v := .int .u32 s.m) rfl (by kernel_rfl) (by kernel_rfl) (by kernel_rfl) (fun _ _ _ h => h) (.inl ⟨by rfl, by intro w hS; obtain ⟨c2, c3, c4, c6, c7, c8, c9⟩ := hS; go_simp⟩) hH ?_
  (try dsimp only [Act.put]); (try simp only [Act.put, List.setIfInBounds_toArray, List.set_cons_zero, List.set_cons_succ])
  refine wpAnyH_take (i := 22) (v := .pointer (some ⟨p, 0, none⟩)) rfl (by kernel_rfl) (by kernel_rfl) (by kernel_rfl) (fun _ _ _ h => h) (.inl ⟨by rfl, by intro w hS; obtain ⟨c2, c3, c4, c6, c7, c8, c9⟩ := hS; go_simp⟩) hH ?_
  (try dsimp only [Act.put]); (try simp only [Act.put, List.setIfInBounds_toArray, List.set_cons_zero, List.set_cons_succ])
  refine wpAnyH_take (i := 23) (v := .pointer (some ⟨p, 0, none⟩)) rfl (by kernel_rfl) (by kernel_rfl) (by kernel_rfl) (fun _ _ _ h => h) (.inl ⟨by rfl, by intro w hS; obtain ⟨c2, c3, c4, c6, c7, c8, c9⟩ := hS; go_simp⟩) hH ?_
  (try dsimp only [Act.put]); (try simp only [Act.put, List.setIfInBounds_toArray, List.set_cons_zero, List.set_cons_succ])
  refine wpAnyH_take (i := 24) (v := .pointer (some ⟨p, 2, none⟩)) rfl (by kernel_rfl) (by kernel_rfl) (by kernel_rfl) (fun _ _ _ h => h) (.inl ⟨by rfl, by intro w hS; obtain ⟨c2, c3, c4, c6, c7, c8, c9⟩ := hS; go_simp⟩) hH ?_
  (try dsimp only [Act.put]); (try simp only [Act.put, List.setIfInBounds_toArray, List.set_cons_zero, List.set_cons_succ])
  refine wpAnyH_take (i := 25) (v := .int .u32 s.b) rfl (by kernel_rfl) (by kernel_rfl) (by kernel_rfl) (fun _ _ _ h => h) (.inl ⟨by rfl, by intro w hS; obtain ⟨c2, c3, c4, c6, c7, c8, c9⟩ := hS; go_simp⟩) hH ?_
  (try dsimp only [Act.put]); (try simp only [Act.put, List.setIfInBounds_toArray, List.set_cons_zero, List.set_cons_succ])
  refine wpAnyH_take (i := 26) (v := .pointer (some ⟨p, 0, none⟩)) rfl (by kernel_rfl) (by kernel_rfl) (by kernel_rfl) (fun _ _ _ h => h) (.inl ⟨by rfl, by intro w hS; obtain ⟨c2, c3, c4, c6, c7, c8, c9⟩ := hS; go_simp⟩) hH ?_
  (try dsimp only [Act.put]); (try simp only [Act.put, List.setIfInBounds_toArray, List.set_cons_zero, List.set_cons_succ])
  refine wpAnyH_take (i := 27) (v := .pointer (some ⟨p, 0, none⟩)) rfl (by kernel_rfl) (by kernel_rfl) (by kernel_rfl) (fun _ _ _ h => h) (.inl ⟨by rfl, by intro w hS; obtain ⟨c2, c3, c4, c6, c7, c8, c9⟩ := hS; go_simp⟩) hH ?_
  (try dsimp only [Act.put]); (try simp only [Act.put, List.setIfInBounds_toArray, List.set_cons_zero, List.set_cons_succ])
  refine wpAnyH_take (i := 28) (v := .pointer (some ⟨p, 6, none⟩)) rfl (by kernel_rfl) (by kernel_rfl) (by kernel_rfl) (fun _ _ _ h => h) (.inl ⟨by rfl, by intro w hS; obtain ⟨c2, c3, c4, c6, c7, c8, c9⟩ := hS; go_simp⟩) hH ?_
  (try dsimp only [Act.put]); (try simp only [Act.put, List.setIfInBounds_toArray, List.set_cons_zero, List.set_cons_succ])
  refine wpAnyH_take (i := 29) (v := .slice xb nd cb) rfl (by kernel_rfl) (by kernel_rfl) (by kernel_rfl) (fun _ _ _ h => h) (.inl ⟨by rfl, by intro w hS; obtain ⟨c2, c3, c4, c6, c7, c8, c9⟩ := hS; go_simp⟩) hH ?_
  (try dsimp only [Act.put]); (try simp only [Act.put, List.setIfInBounds_toArray, List.set_cons_zero, List.set_cons_succ])
  refine wpAnyH_take (i := 30) (v := .int .i64 nd) rfl (by kernel_rfl) (by kernel_rfl) (by kernel_rfl) (fun _ _ _ h => h) (.inl ⟨by rfl, by intro w hS; obtain ⟨c2, c3, c4, c6, c7, c8, c9⟩ := hS; go_simp⟩) hH ?_
  (try dsimp only [Act.put]); (try simp only [Act.put, List.setIfInBounds_toArray, List.set_cons_zero, List.set_cons_succ])
  refine wpAnyH_take (i := 31) (v := .int .i64 m) rfl (by kernel_rfl) (by kernel_rfl) (by kernel_rfl) (fun _ _ _ h => h) (.inl ⟨by rfl, by intro w hS; obtain ⟨c2, c3, c4, c6, c7, c8, c9⟩ := hS; go_simp⟩) hH ?_
  (try dsimp only [Act.put]); (try simp only [Act.put, List.setIfInBounds_toArray, List.set_cons_zero, List.set_cons_succ])
  refine wpAnyH_take (i := 32) (v := .int .u32 m) rfl (by kernel_rfl) (by kernel_rfl) (by kernel_rfl) (fun _ _ _ h => h) (.inl ⟨by rfl, by intro w hS; obtain ⟨c2, c3, c4, c6, c7, c8, c9⟩ := hS; go_simp⟩) hH ?_
  (try dsimp only [Act.put]); (try simp only [Act.put, List.setIfInBounds_toArray, List.set_cons_zero, List.set_cons_succ])
  refine wpAnyH_take (i := 34) (v := .int .i64 j) rfl (by kernel_rfl) (by kernel_rfl) (by kernel_rfl) (fun _ _ _ h => h) (.inl ⟨by rfl, by intro w hS; obtain ⟨c2, c3, c4, c6, c7, c8, c9⟩ := hS; go_simp⟩) hH ?_
  (try dsimp only [Act.put]); (try simp only [Act.put, List.setIfInBounds_toArray, List.set_cons_zero, List.set_cons_succ])
  refine wpAnyH_ready (rs := [33]) (by kernel_rfl) (by simp) ?_
  refine AllReadyH.cons rfl (fun K hK => ?_) AllReadyH.nil
  rw [if_pos (by rfl)]
  go_simp
  refine hK.out _ _ ⟨ck_alloc hH.1, ck_alloc hH.2.1, ck_alloc hH.2.2.1, ck_alloc hH.2.2.2.1, ck_alloc hH.2.2.2.2.1, ck_alloc hH.2.2.2.2.2.1, ck_alloc hH.2.2.2.2.2.2⟩ (fun hH => ?_)
  clear hK K
  (try dsimp only [Act.put]); (try simp only [Act.put, List.setIfInBounds_toArray, List.set_cons_zero, List.set_cons_succ])
  refine wpAnyH_ready (rs := [35]) (by kernel_rfl) (by simp) ?_
  refine AllReadyH.cons rfl (fun K hK => ?_) AllReadyH.nil
  rw [if_pos (by rfl)]
  go_simp
  refine hK.out _ _ hH (fun hH => ?_)
  clear hK K
  (try dsimp only [Act.put]); (try simp only [Act.put, List.setIfInBounds_toArray, List.set_cons_zero, List.set_cons_succ])
  refine wpAnyH_ready (rs := [36]) (by kernel_rfl) (by simp) ?_
  refine AllReadyH.cons rfl (fun K hK => ?_) AllReadyH.nil
  rw [if_pos (by rfl)]
  go_simp
  refine hK.out _ _ hH (fun hH => ?_)
  clear hK K
  (try dsimp only [Act.put]); (try simp only [Act.put, List.setIfInBounds_toArray, List.set_cons_zero, List.set_cons_succ])
  refine wpAnyH_ready (rs := [37]) (by kernel_rfl) (by simp) ?_
  refine AllReadyH.cons rfl (fun K hK => ?_) AllReadyH.nil
  rw [if_pos (by rfl)]
  go_simp
  refine hK.out _ _ hH (fun hH => ?_)
  clear hK K
  (try dsimp only [Act.put]); (try simp only [Act.put, List.setIfInBounds_toArray, List.set_cons_zero, List.set_cons_succ])
  refine wpAnyH_done (by kernel_rfl) ?_ _
  go_wp2_with fail
  go_ret
  exact ⟨congrArg Ending.returned (hfin.out j8'), by (repeat (first | (with_reducible assumption) | (with_reducible exact Kep.refl _) | (with_reducible exact Hid.out (by assumption)) | (with_reducible refine Kep.alloc ?_ _) | (with_reducible refine Kep.drew ?_) | (with_reducible refine Kep.drewN ?_ _) | (with_reducible refine Kep.setRow ?_ _ _ (by (first | omega | (simp only [World.size_alloc, World.size_setCell, size_setRow, World.size_drew]; done) | (simp only [World.size_alloc, World.size_setCell, size_setRow, World.size_drew]; omega)))) | (with_reducible refine Kep.setCell ?_ (by first | omega | (simp only []; omega) | (show _ ≤ _; omega)) _)))⟩
end Go.Proofs.Ytpieeefeicdfgab
