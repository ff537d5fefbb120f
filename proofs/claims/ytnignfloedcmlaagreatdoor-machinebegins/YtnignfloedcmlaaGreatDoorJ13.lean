/- Part of a proof. -/
import Derived.WalkMore
import Derived.Test.YtnignfloedcmlaaGreatDoorJ12
namespace Go.Proofs.YtnignfloedcmlaaGreatDoor
open Go.RowKit
set_option linter.unusedVariables false
set_option linter.unusedSimpArgs false
def wantsI (ps n : Int) : Int := if ps / 2 % 2 = 0 then 0 else if n % 2 = 1 then 9 else if n / 2 % 2 = 1 then 10 else if n / 4 % 2 = 1 then 11 else 0
def lowI2 (x : Int) : Int := x - x % 2 - x / 2 % 2 * 2
def backI (pc k : Int) : Int := if k = 8 then (pc + 2) % 4294967296 else pc
theorem and_one_n (x : Nat) : x &&& 1 = x % 2 := Nat.and_one_is_mod x
theorem and_two_n (x : Nat) : x &&& 2 = x / 2 % 2 * 2 := by
  have h1 : (x &&& 2) / 2 = x / 2 % 2 := by
    have h : (x &&& 2) >>> 1 = x >>> 1 &&& 1 := by rw [Nat.shiftRight_and_distrib]; rfl
    rw [Nat.shiftRight_eq_div_pow, Nat.shiftRight_eq_div_pow, and_one_n] at h
    simpa using h
  have h2 : (x &&& 2) % 2 = 0 := by
    rw [show 2 = 2 ^ 1 by rfl, Nat.and_mod_two_pow, show 2 ^ 1 % 2 ^ 1 = 0 by decide, Nat.and_zero]
  omega
theorem and_four_n (x : Nat) : x &&& 4 = x / 4 % 2 * 4 := by
  have h1 : (x &&& 4) / 4 = x / 4 % 2 := by
    have h : (x &&& 4) >>> 2 = x >>> 2 &&& 1 := by rw [Nat.shiftRight_and_distrib]; rfl
    rw [Nat.shiftRight_eq_div_pow, Nat.shiftRight_eq_div_pow, and_one_n] at h
    simpa using h
  have h2 : (x &&& 4) % 4 = 0 := by
    rw [show 4 = 2 ^ 2 by rfl, Nat.and_mod_two_pow, show 2 ^ 2 % 2 ^ 2 = 0 by decide, Nat.and_zero]
  omega
theorem and_low2 (x : Nat) (hx : x < 4294967296) : x &&& 4294967292 = x - x % 4 := by
  have h1 : (x &&& 4294967292) >>> 2 = x / 4 := by
    rw [Nat.shiftRight_and_distrib, Nat.shiftRight_eq_div_pow, show 4294967292 >>> 2 = 2 ^ 30 - 1 by decide, Nat.and_two_pow_sub_one_eq_mod]
    exact Nat.mod_eq_of_lt (by omega)
  have h2 : (x &&& 4294967292) % 4 = 0 := by
    rw [show 4 = 2 ^ 2 by rfl, Nat.and_mod_two_pow, show 4294967292 % 2 ^ 2 = 0 by decide, Nat.and_zero]
  rw [Nat.shiftRight_eq_div_pow] at h1
  omega
theorem low2_is (x : Int) (h : 0 ≤ x ∧ x < 4294967296) : bits .andNot .u32 x 3 = lowI2 x := by
  obtain ⟨m, rfl⟩ : ∃ m : Nat, x = m := ⟨x.toNat, by omega⟩
  rw [show (3 : Int) = ((3 : Nat) : Int) from rfl, u32_andNot_nat m 3 (by omega) (by decide), show 4294967295 - 3 = 4294967292 from rfl, and_low2 m (by omega)]
  unfold lowI2; omega
theorem low2_range (x : Int) (h : 0 ≤ x ∧ x < 4294967296) : 0 ≤ lowI2 x ∧ lowI2 x < 4294967296 := by unfold lowI2; omega
theorem and2_is (x : Int) (h : 0 ≤ x ∧ x < 4294967296) : bits .and .u32 x 2 = x / 2 % 2 * 2 := by
  obtain ⟨m, rfl⟩ : ∃ m : Nat, x = m := ⟨x.toNat, by omega⟩
  rw [show (2 : Int) = ((2 : Nat) : Int) from rfl, u32_and_nat m 2 (by omega) (by decide), and_two_n]
  omega
theorem and1_is (x : Int) (h : 0 ≤ x ∧ x < 4294967296) : bits .and .u32 x 1 = x % 2 := by
  obtain ⟨m, rfl⟩ : ∃ m : Nat, x = m := ⟨x.toNat, by omega⟩
  rw [show (1 : Int) = ((1 : Nat) : Int) from rfl, u32_and_nat m 1 (by omega) (by decide), and_one_n]
  omega
theorem and4_is (x : Int) (h : 0 ≤ x ∧ x < 4294967296) : bits .and .u32 x 4 = x / 4 % 2 * 4 := by
  obtain ⟨m, rfl⟩ : ∃ m : Nat, x = m := ⟨x.toNat, by omega⟩
  rw [show (4 : Int) = ((4 : Nat) : Int) from rfl, u32_and_nat m 4 (by omega) (by decide), and_four_n]
  omega
theorem tri0 (w : World) : (Instr.index 172 (.agg #[.int .i64 9, .int .i64 10, .int .i64 11]) (.int .i64 0)).run Tryz.prog w = .ok (.int .i64 9) w := by kernel_rfl
theorem tri1 (w : World) : (Instr.index 172 (.agg #[.int .i64 9, .int .i64 10, .int .i64 11]) (.int .i64 1)).run Tryz.prog w = .ok (.int .i64 10) w := by kernel_rfl
theorem tri2 (w : World) : (Instr.index 172 (.agg #[.int .i64 9, .int .i64 10, .int .i64 11]) (.int .i64 2)).run Tryz.prog w = .ok (.int .i64 11) w := by kernel_rfl
set_option maxHeartbeats 2000000 in
theorem wants_off (ps n : Int) (w : World) (h0 : 0 ≤ ps ∧ ps < 4294967296) (h1 : 0 ≤ n ∧ n < 4294967296) (h : ps / 2 % 2 = 0) :
    Calls Tryz.prog 74 #[.int .u32 ps, .int .u32 n] w fun e w' => e = .returned (.int .i64 0) ∧ Kep w w' := by
  have q : (bits .and .u32 ps 2 == 0) = true := by rw [and2_is ps h0, h]; rfl
  have t0 := tri0
  clear h h0 h1
  go_enter Tryz.func74, Tryz.ntmps74
  go_wp2_with fail
  try go_step3
  try go_wp2_with fail
  try go_step3
  go_wp2_with fail
  go_rounds 4
  dsimp only [Exit.noGoto]
  go_ret
  exact ⟨rfl, Kep.refl _⟩
set_option maxHeartbeats 2000000 in
theorem wants_0 (ps n : Int) (w : World) (h0 : 0 ≤ ps ∧ ps < 4294967296) (h1 : 0 ≤ n ∧ n < 4294967296) (h : ps / 2 % 2 = 1) (n0 : n % 2 = 1) :
    Calls Tryz.prog 74 #[.int .u32 ps, .int .u32 n] w fun e w' => e = .returned (.int .i64 9) ∧ Kep w w' := by
  have q : (bits .and .u32 ps 2 == 0) = false := by rw [and2_is ps h0, h]; rfl
  have t0 := tri0
  have t1 := tri1
  have t2 := tri2
  have q0 : (bits .and .u32 n 1 != 0) = true := by rw [and1_is n h1, n0]; rfl
  clear h h0 h1 n0
  go_enter Tryz.func74, Tryz.ntmps74
  go_wp2_with fail
  try go_step3
  try go_wp2_with fail
  try go_step3
  go_wp2_with fail
  go_rounds 4
  dsimp only [Exit.noGoto]
  go_ret
  exact ⟨rfl, Kep.refl _⟩
set_option maxHeartbeats 2000000 in
theorem wants_1 (ps n : Int) (w : World) (h0 : 0 ≤ ps ∧ ps < 4294967296) (h1 : 0 ≤ n ∧ n < 4294967296) (h : ps / 2 % 2 = 1) (n0 : n % 2 = 0) (n1 : n / 2 % 2 = 1) :
    Calls Tryz.prog 74 #[.int .u32 ps, .int .u32 n] w fun e w' => e = .returned (.int .i64 10) ∧ Kep w w' := by
  have q : (bits .and .u32 ps 2 == 0) = false := by rw [and2_is ps h0, h]; rfl
  have t0 := tri0
  have t1 := tri1
  have t2 := tri2
  have q0 : (bits .and .u32 n 1 != 0) = false := by rw [and1_is n h1, n0]; rfl
  have q1 : (bits .and .u32 (n / 2) 1 != 0) = true := by rw [and1_is (n / 2) (by omega), n1]; rfl
  clear h h0 h1 n0 n1
  go_enter Tryz.func74, Tryz.ntmps74
  go_wp2_with fail
  try go_step3
  try go_wp2_with fail
  try go_step3
  go_wp2_with fail
  go_rounds 4
  dsimp only [Exit.noGoto]
  go_ret
  exact ⟨rfl, Kep.refl _⟩
set_option maxHeartbeats 2000000 in
theorem wants_2 (ps n : Int) (w : World) (h0 : 0 ≤ ps ∧ ps < 4294967296) (h1 : 0 ≤ n ∧ n < 4294967296) (h : ps / 2 % 2 = 1) (n0 : n % 2 = 0) (n1 : n / 2 % 2 = 0) (n2 : n / 4 % 2 = 1) :
    Calls Tryz.prog 74 #[.int .u32 ps, .int .u32 n] w fun e w' => e = .returned (.int .i64 11) ∧ Kep w w' := by
  have q : (bits .and .u32 ps 2 == 0) = false := by rw [and2_is ps h0, h]; rfl
  have t0 := tri0
  have t1 := tri1
  have t2 := tri2
  have q0 : (bits .and .u32 n 1 != 0) = false := by rw [and1_is n h1, n0]; rfl
  have q1 : (bits .and .u32 (n / 2) 1 != 0) = false := by rw [and1_is (n / 2) (by omega), n1]; rfl
  have q2 : (bits .and .u32 (n / 4) 1 != 0) = true := by rw [and1_is (n / 4) (by omega), n2]; rfl
  clear h h0 h1 n0 n1 n2
  go_enter Tryz.func74, Tryz.ntmps74
  go_wp2_with fail
  try go_step3
  try go_wp2_with fail
  try go_step3
  go_wp2_with fail
  go_rounds 4
  dsimp only [Exit.noGoto]
  go_ret
  exact ⟨rfl, Kep.refl _⟩
set_option maxHeartbeats 2000000 in
theorem wants_none (ps n : Int) (w : World) (h0 : 0 ≤ ps ∧ ps < 4294967296) (h1 : 0 ≤ n ∧ n < 4294967296) (h : ps / 2 % 2 = 1) (n0 : n % 2 = 0) (n1 : n / 2 % 2 = 0) (n2 : n / 4 % 2 = 0) :
    Calls Tryz.prog 74 #[.int .u32 ps, .int .u32 n] w fun e w' => e = .returned (.int .i64 0) ∧ Kep w w' := by
  have q : (bits .and .u32 ps 2 == 0) = false := by rw [and2_is ps h0, h]; rfl
  have t0 := tri0
  have t1 := tri1
  have t2 := tri2
  have q0 : (bits .and .u32 n 1 != 0) = false := by rw [and1_is n h1, n0]; rfl
  have q1 : (bits .and .u32 (n / 2) 1 != 0) = false := by rw [and1_is (n / 2) (by omega), n1]; rfl
  have q2 : (bits .and .u32 (n / 4) 1 != 0) = false := by rw [and1_is (n / 4) (by omega), n2]; rfl
  clear h h0 h1 n0 n1 n2
  go_enter Tryz.func74, Tryz.ntmps74
  go_wp2_with fail
  try go_step3
  try go_wp2_with fail
  try go_step3
  go_wp2_with fail
  go_rounds 4
  dsimp only [Exit.noGoto]
  go_ret
  exact ⟨rfl, Kep.refl _⟩
theorem wants_any (ps n : Int) (w : World) (h0 : 0 ≤ ps ∧ ps < 4294967296) (h1 : 0 ≤ n ∧ n < 4294967296) :
    Calls Tryz.prog 74 #[.int .u32 ps, .int .u32 n] w fun e w' => e = .returned (.int .i64 (wantsI ps n)) ∧ Kep w w' := by
  unfold wantsI
  by_cases a : ps / 2 % 2 = 0
  · rw [if_pos a]; exact wants_off ps n w h0 h1 a
  have a' : ps / 2 % 2 = 1 := by omega
  rw [if_neg a]
  by_cases b : n % 2 = 1
  · rw [if_pos b]; exact wants_0 ps n w h0 h1 a' b
  rw [if_neg b]
  by_cases c : n / 2 % 2 = 1
  · rw [if_pos c]; exact wants_1 ps n w h0 h1 a' (by omega) c
  rw [if_neg c]
  by_cases d : n / 4 % 2 = 1
  · rw [if_pos d]; exact wants_2 ps n w h0 h1 a' (by omega) (by omega) d
  rw [if_neg d]; exact wants_none ps n w h0 h1 a' (by omega) (by omega) (by omega)
theorem come_any (w : World) (p : Nat) (s : DS) (F : List Nat) (h : Dev w p s F) (ok : s.Ok) (hE : s.E.length ≤ 64) (va : Option Addr) (R : Nat) (ix : List Nat) (B : List Int) (M : MemS w (.pointer va) R ix B F) (hB : Byts B) (hf : Fits B ix) (step : Int) :
    Calls Tryz.prog 52 #[.pointer (some ⟨p, 0, none⟩), .int .i64 step, .pointer va] w (ComeP w p F (.pointer va) R ix B (comeC step ix ⟨s, B, [], []⟩)) := callsIn_wide.1 (come_in w p s F h ok hE va R ix B M hB hf step)
theorem Dev.works {w : World} {p : Nat} {s : DS} {F : List Nat} (h : Dev w p s F) : Calls Tryz.prog 46 #[.pointer (some ⟨p, 0, none⟩)] w fun e w' => e = .returned (.bool true) ∧ w' = w := by
  obtain ⟨_, _, _, _, _, _, _, _, D, _⟩ := h
  exact vworks_yes w p (D.c 0)
theorem wanted_any {w : World} {p : Nat} (b m : Int) (hb : 0 ≤ b ∧ b ≤ 7) (hm : 0 ≤ m ∧ m ≤ 7) (c2 : w.cell? ⟨p, 2, none⟩ = some (.int .u32 b)) (c3 : w.cell? ⟨p, 3, none⟩ = some (.int .u32 m)) (ps : Int) (h0 : 0 ≤ ps ∧ ps < 4294967296) :
    Calls Tryz.prog 63 #[.pointer (some ⟨p, 2, none⟩), .int .u32 ps] w fun e w' => e = .returned (.int .i64 (wantsI ps (clrI b m))) ∧ Kep w w' := by
  have hr : bits .andNot .u32 b m = clrI b m := andNot_is hb (by omega)
  have hl := clr_low (v := m) hb
  have H : Hid (∀ w, Calls Tryz.prog 74 #[.int .u32 ps, .int .u32 (clrI b m)] w fun e w' => e = .returned (.int .i64 (wantsI ps (clrI b m))) ∧ Kep w w') := fun w => wants_any ps _ w h0 (by omega)
  generalize wantsI ps (clrI b m) = r at H
  generalize clrI b m = c at hr H hl
  clear hb hm hl
  go_enter Tryz.func63, Tryz.ntmps63
  go_wp2_with fail
  go_region_with ((go_at_call 74; refine (H.out _).mono ?_; rintro e w1 ⟨rfl, k1⟩; have K1 : Hid (Kep w.drew w1) := k1; clear k1))
  all_goals
    go_wp2_with fail
    go_ret
    exact ⟨rfl, kep_trans ((Kep.refl w).drew) K1.out⟩
theorem vwants_any {w : World} {p : Nat} {s : DS} {F : List Nat} (h : Dev w p s F) (ok : s.Ok) (ps : Int) (h0 : 0 ≤ ps ∧ ps < 4294967296) :
    Calls Tryz.prog 53 #[.pointer (some ⟨p, 0, none⟩), .int .u32 ps] w fun e w' => e = .returned (.int .i64 (wantsI ps (clrI s.b s.m))) ∧ Kep w w' := by
  have HW : (Hid (Calls Tryz.prog 46 #[.pointer (some ⟨p, 0, none⟩)] w fun e w' => e = .returned (.bool true) ∧ w' = w)) := h.works
  obtain ⟨vs, vq, vo, vb, Fs, Fq, Fo, Fb, D, _⟩ := h
  have H : Hid (Calls Tryz.prog 63 #[.pointer (some ⟨p, 2, none⟩), .int .u32 ps] w fun e w' => e = .returned (.int .i64 (wantsI ps (clrI s.b s.m))) ∧ Kep w w') := wanted_any s.b s.m ok.b ok.m (D.c 2) (D.c 3) ps h0
  generalize wantsI ps (clrI s.b s.m) = r at H
  clear D ok
  go_enter Tryz.func53, Tryz.ntmps53
  go_wp2_with (first | (go_at_call 46; refine HW.out.mono ?_; rintro e w1 ⟨rfl, rfl⟩) | (go_at_call 63; refine H.out.mono ?_; rintro e w2 ⟨rfl, k2⟩))
  go_ret
  exact ⟨rfl, k2⟩
def takenS (s : DS) (cause : Int) : DS := if cause = 9 then { s with b := clrI s.b 1 } else if cause = 10 then { s with b := clrI s.b 2 } else if cause = 11 then { s with b := clrI s.b 4 } else s
set_option maxHeartbeats 1000000 in
theorem taken_dev {w : World} {p : Nat} {s : DS} {F : List Nat} (h : Dev w p s F) (ok : s.Ok) (cause : Int) :
    Calls Tryz.prog 54 #[.pointer (some ⟨p, 0, none⟩), .int .i64 cause] w fun e w' => e = .returned (.tuple #[]) ∧ Dev w' p (takenS s cause) F ∧ Put F w w' := by
  have HW : (Hid (Calls Tryz.prog 46 #[.pointer (some ⟨p, 0, none⟩)] w fun e w' => e = .returned (.bool true) ∧ w' = w)) := h.works
  obtain ⟨vs, vq, vo, vb, Fs, Fq, Fo, Fb, D, hF⟩ := h
  have D' : Hid (DevAt w p s vs vq vo vb Fs Fq Fo Fb) := D
  have hp : Hid (p ∈ F) := by rw [Hid, hF]; simp
  have H : Hid (∀ v, 0 ≤ v ∧ v < 4294967296 → Calls Tryz.prog 64 #[.pointer (some ⟨p, 2, none⟩), .int .u32 v] w fun e w' => e = .returned (.tuple #[]) ∧ DevAt w' p { s with b := clrI s.b v } vs vq vo vb Fs Fq Fo Fb ∧ Put [p] w w') := fun v hv => settle_any D ok.b v hv
  by_cases h9 : cause = 9
  · subst h9
    clear D ok
    go_enter Tryz.func54, Tryz.ntmps54
    go_wp2_with (first | (go_at_call 46; refine HW.out.mono ?_; rintro e w1 ⟨rfl, rfl⟩) | (go_at_call 64; refine (H.out _ (by decide)).mono ?_; rintro e w2 ⟨rfl, d2, k2⟩))
    go_end0
    exact ⟨rfl, ⟨_, _, _, _, _, _, _, _, d2, hF⟩, k2.mono (by simpa using hp.out)⟩
  by_cases h10 : cause = 10
  · subst h10
    clear D ok h9
    go_enter Tryz.func54, Tryz.ntmps54
    go_wp2_with (first | (go_at_call 46; refine HW.out.mono ?_; rintro e w1 ⟨rfl, rfl⟩) | (go_at_call 64; refine (H.out _ (by decide)).mono ?_; rintro e w2 ⟨rfl, d2, k2⟩))
    go_end0
    exact ⟨rfl, ⟨_, _, _, _, _, _, _, _, d2, hF⟩, k2.mono (by simpa using hp.out)⟩
  by_cases h11 : cause = 11
  · subst h11
    clear D ok h9 h10
    go_enter Tryz.func54, Tryz.ntmps54
    go_wp2_with (first | (go_at_call 46; refine HW.out.mono ?_; rintro e w1 ⟨rfl, rfl⟩) | (go_at_call 64; refine (H.out _ (by decide)).mono ?_; rintro e w2 ⟨rfl, d2, k2⟩))
    go_end0
    exact ⟨rfl, ⟨_, _, _, _, _, _, _, _, d2, hF⟩, k2.mono (by simpa using hp.out)⟩
  have e : takenS s cause = s := by unfold takenS; rw [if_neg h9, if_neg h10, if_neg h11]
  rw [e]
  have t9 : (cause == 9) = false := by simp [h9]
  have t10 : (cause == 10) = false := by simp [h10]
  have t11 : (cause == 11) = false := by simp [h11]
  clear D ok h9 h10 h11 e
  go_enter Tryz.func54, Tryz.ntmps54
  go_wp2_with (go_at_call 46; refine HW.out.mono ?_; rintro e w1 ⟨rfl, rfl⟩)
  go_end0
  exact ⟨rfl, ⟨_, _, _, _, _, _, _, _, D'.out, hF⟩, Put.refl _⟩
def inI (s : DS) (port : Int) : Int := if port = 0 then firstI s.Q else if port = 1 then s.Q.length else if port = 2 then s.n else if port = 3 then s.a else if port = 4 then s.s else if port = 5 then s.m else if port = 6 then s.b else if port = 7 then ((s.D.length / 64 : Nat) : Int) else 0
set_option maxHeartbeats 2000000 in
theorem in_any {w : World} {p : Nat} {s : DS} {F : List Nat} (h : Dev w p s F) (ok : s.Ok) (port : Int) :
    Calls Tryz.prog 68 #[.pointer (some ⟨p, 0, none⟩), .int .i64 port] w fun e w' => e = .returned (.int .u32 (inI s port)) ∧ w' = w := by
  have HW : (Hid (Calls Tryz.prog 46 #[.pointer (some ⟨p, 0, none⟩)] w fun e w' => e = .returned (.bool true) ∧ w' = w)) := h.works
  have HF : Hid (Calls Tryz.prog 83 #[.pointer (some ⟨p, 4, none⟩)] w fun e w' => e = .returned (.int .u32 (firstI s.Q)) ∧ w' = w) := first_any h ok.qb
  obtain ⟨vs, vq, vo, vb, Fs, Fq, Fo, Fb, D, hF⟩ := h
  have c2 : w.cell? ⟨p, 2, none⟩ = some (.int .u32 s.b) := D.c 2
  have c3 : w.cell? ⟨p, 3, none⟩ = some (.int .u32 s.m) := D.c 3
  have c4 : w.cell? ⟨p, 4, none⟩ = some vq := D.c 4
  have c6 : w.cell? ⟨p, 6, none⟩ = some vb := D.c 6
  have c7 : w.cell? ⟨p, 7, none⟩ = some (.int .u32 s.n) := D.c 7
  have c8 : w.cell? ⟨p, 8, none⟩ = some (.int .u32 s.a) := D.c 8
  have c9 : w.cell? ⟨p, 9, none⟩ = some (.int .u32 s.s) := D.c 9
  obtain ⟨xq, cq, hvq, _⟩ := D.q.lies
  obtain ⟨xb, cb, hvb, _⟩ := D.d.lies
  subst hvq hvb
  have g1 : ((s.Q.length : Int)) % 4294967296 = s.Q.length := by have := ok.q; omega
  have g2 : (((s.D.length / 64 : Nat) : Int)) % 4294967296 = ((s.D.length / 64 : Nat) : Int) := by have := ok.d; omega
  by_cases h0 : port = 0
  · subst h0
    have e : inI s 0 = firstI s.Q := by simp [inI]
    rw [e]
    clear D ok e
    generalize firstI s.Q = fq at HF ⊢
    go_enter Tryz.func68, Tryz.ntmps68
    go_wp2_with (first | (go_at_call 46; refine HW.out.mono ?_; rintro e w1 ⟨rfl, rfl⟩) | (go_at_call 83; refine HF.out.mono ?_; rintro e w2 ⟨rfl, rfl⟩))
    go_ret
    exact ⟨ret_int (by first | rfl | omega), rfl⟩
  by_cases h1 : port = 1
  · subst h1
    have e : inI s 1 = (s.Q.length : Int) := by simp [inI]
    rw [e]
    clear D ok e h0
    generalize s.Q.length = nq at *
    go_enter Tryz.func68, Tryz.ntmps68
    go_wp2_with (go_at_call 46; refine HW.out.mono ?_; rintro e w1 ⟨rfl, rfl⟩)
    go_ret
    exact ⟨ret_int (by first | rfl | omega), rfl⟩
  by_cases h2 : port = 2
  · subst h2
    have e : inI s 2 = s.n := by simp [inI]
    rw [e]
    clear D ok e h0 h1
    skip
    go_enter Tryz.func68, Tryz.ntmps68
    go_wp2_with (go_at_call 46; refine HW.out.mono ?_; rintro e w1 ⟨rfl, rfl⟩)
    go_ret
    exact ⟨ret_int (by first | rfl | omega), rfl⟩
  by_cases h3 : port = 3
  · subst h3
    have e : inI s 3 = s.a := by simp [inI]
    rw [e]
    clear D ok e h0 h1 h2
    skip
    go_enter Tryz.func68, Tryz.ntmps68
    go_wp2_with (go_at_call 46; refine HW.out.mono ?_; rintro e w1 ⟨rfl, rfl⟩)
    go_ret
    exact ⟨ret_int (by first | rfl | omega), rfl⟩
  by_cases h4 : port = 4
  · subst h4
    have e : inI s 4 = s.s := by simp [inI]
    rw [e]
    clear D ok e h0 h1 h2 h3
    skip
    go_enter Tryz.func68, Tryz.ntmps68
    go_wp2_with (go_at_call 46; refine HW.out.mono ?_; rintro e w1 ⟨rfl, rfl⟩)
    go_ret
    exact ⟨ret_int (by first | rfl | omega), rfl⟩
  by_cases h5 : port = 5
  · subst h5
    have e : inI s 5 = s.m := by simp [inI]
    rw [e]
    clear D ok e h0 h1 h2 h3 h4
    skip
    go_enter Tryz.func68, Tryz.ntmps68
    go_wp2_with (go_at_call 46; refine HW.out.mono ?_; rintro e w1 ⟨rfl, rfl⟩)
    go_ret
    exact ⟨ret_int (by first | rfl | omega), rfl⟩
  by_cases h6 : port = 6
  · subst h6
    have e : inI s 6 = s.b := by simp [inI]
    rw [e]
    clear D ok e h0 h1 h2 h3 h4 h5
    skip
    go_enter Tryz.func68, Tryz.ntmps68
    go_wp2_with (go_at_call 46; refine HW.out.mono ?_; rintro e w1 ⟨rfl, rfl⟩)
    go_ret
    exact ⟨ret_int (by first | rfl | omega), rfl⟩
  by_cases h7 : port = 7
  · subst h7
    have e : inI s 7 = ((s.D.length / 64 : Nat) : Int) := by simp [inI]
    rw [e]
    clear D ok e h0 h1 h2 h3 h4 h5 h6
    generalize s.D.length / 64 = nb at *
    go_enter Tryz.func68, Tryz.ntmps68
    go_wp2_with (go_at_call 46; refine HW.out.mono ?_; rintro e w1 ⟨rfl, rfl⟩)
    go_ret
    exact ⟨ret_int (by first | rfl | omega), rfl⟩
  have e : inI s port = 0 := by unfold inI; rw [if_neg h0, if_neg h1, if_neg h2, if_neg h3, if_neg h4, if_neg h5, if_neg h6, if_neg h7]
  rw [e]
  have t0 : (port == 0) = false := by simp [h0]
  have t1 : (port == 1) = false := by simp [h1]
  have t2 : (port == 2) = false := by simp [h2]
  have t3 : (port == 3) = false := by simp [h3]
  have t4 : (port == 4) = false := by simp [h4]
  have t5 : (port == 5) = false := by simp [h5]
  have t6 : (port == 6) = false := by simp [h6]
  have t7 : (port == 7) = false := by simp [h7]
  clear D ok e h0 h1 h2 h3 h4 h5 h6 h7
  go_enter Tryz.func68, Tryz.ntmps68
  go_wp2_with (go_at_call 46; refine HW.out.mono ?_; rintro e w1 ⟨rfl, rfl⟩)
  go_ret
  exact ⟨rfl, rfl⟩
def readS (s : DS) (port : Int) : DS := if port = 0 then { s with Q := s.Q.drop 1 } else s
set_option maxHeartbeats 1000000 in
theorem read_dev {w : World} {p : Nat} {s : DS} {F : List Nat} (h : Dev w p s F) (ok : s.Ok) (port : Int) :
    Calls Tryz.prog 91 #[.pointer (some ⟨p, 0, none⟩), .int .i64 port] w fun e w' => e = .returned (.int .u32 (inI s port)) ∧ Dev w' p (readS s port) F ∧ Put F w w' := by
  have HW : (Hid (Calls Tryz.prog 46 #[.pointer (some ⟨p, 0, none⟩)] w fun e w' => e = .returned (.bool true) ∧ w' = w)) := h.works
  have HI : Hid (Calls Tryz.prog 68 #[.pointer (some ⟨p, 0, none⟩), .int .i64 port] w fun e w' => e = .returned (.int .u32 (inI s port)) ∧ w' = w) := in_any h ok port
  have HT : Hid (Calls Tryz.prog 118 #[.pointer (some ⟨p, 4, none⟩)] w fun e w' => e = .returned (.tuple #[]) ∧ Dev w' p { s with Q := s.Q.drop 1 } F ∧ Put F w w') := takeOut_any h
  have h' : Hid (Dev w p s F) := h
  by_cases h0 : port = 0
  · have t0 : (port == 0) = true := by simp [h0]
    have e : readS s port = { s with Q := s.Q.drop 1 } := by unfold readS; rw [if_pos h0]
    rw [e]
    generalize inI s port = r at HI ⊢
    clear h ok e h0
    go_enter Tryz.func91, Tryz.ntmps91
    go_wp2_with (first | (go_at_call 46; refine HW.out.mono ?_; rintro e w1 ⟨rfl, rfl⟩) | (go_at_call 68; refine HI.out.mono ?_; rintro e w1 ⟨rfl, rfl⟩) | (go_at_call 118; refine HT.out.mono ?_; rintro e w2 ⟨rfl, d2, k2⟩))
    go_ret
    exact ⟨rfl, d2, k2⟩
  · have t0 : (port == 0) = false := by simp [h0]
    have e : readS s port = s := by unfold readS; rw [if_neg h0]
    rw [e]
    generalize inI s port = r at HI ⊢
    clear h ok e h0
    go_enter Tryz.func91, Tryz.ntmps91
    go_wp2_with (first | (go_at_call 46; refine HW.out.mono ?_; rintro e w1 ⟨rfl, rfl⟩) | (go_at_call 68; refine HI.out.mono ?_; rintro e w1 ⟨rfl, rfl⟩))
    go_ret
    exact ⟨rfl, h'.out, Put.refl _⟩
def writeS (s : DS) (port v : Int) : DS := if port = 0 then { s with O := s.O ++ [v % 256] } else if port = 2 then { s with n := v } else if port = 3 then { s with a := v } else if port = 4 then giveS s v else if port = 5 then { s with m := v % 8 } else if port = 6 then { s with b := clrI s.b v } else s
theorem set_at {w : World} {p : Nat} {s s' : DS} {vs vq vo vb : Value} {Fs Fq Fo Fb F : List Nat} (h : DevAt w p s vs vq vo vb Fs Fq Fo Fb) (hF : F = p :: (Fs ++ (Fq ++ (Fo ++ Fb)))) (j : Nat) (u : Value) (hb : (devC s vs vq vo vb).setIfInBounds j u = devC s' vs vq vo vb) (e1 : s'.E = s.E) (e2 : s'.Q = s.Q) (e3 : s'.O = s.O) (e4 : s'.D = s.D) : Dev (w.setCell ⟨p, j, none⟩ u) p s' F ∧ Put F w (w.setCell ⟨p, j, none⟩ u) := by
  have P : Put [p] w (w.setCell ⟨p, j, none⟩ u) := (Put.refl w).setCell (by simp) _
  have b1 := box_set (j := j) h.box u
  rw [hb] at b1
  exact ⟨⟨_, _, _, _, _, _, _, _, h.turn P b1 e1 e2 e3 e4, hF⟩, P.mono (by rw [hF]; simp)⟩
set_option maxHeartbeats 2000000 in
theorem write_dev {w : World} {p : Nat} {s : DS} {F : List Nat} (h : Dev w p s F) (ok : s.Ok) (hO : (s.O.length : Int) < 1000000) (port v : Int) (hv : 0 ≤ v ∧ v < 4294967296) :
    Calls Tryz.prog 92 #[.pointer (some ⟨p, 0, none⟩), .int .i64 port, .int .u32 v] w fun e w' => e = .returned (.tuple #[]) ∧ ∃ F', Dev w' p (writeS s port v) F' ∧ Put F w w' ∧ ∀ g ∈ F', g ∈ F ∨ w.heap.size ≤ g := by
  have HW : (Hid (Calls Tryz.prog 46 #[.pointer (some ⟨p, 0, none⟩)] w fun e w' => e = .returned (.bool true) ∧ w' = w)) := h.works
  have HO : Hid (Calls Tryz.prog 119 #[.pointer (some ⟨p, 4, none⟩), .int .u8 (v % 256)] w fun e w' => e = .returned (.tuple #[]) ∧ ∃ F', Dev w' p { s with O := s.O ++ [v % 256] } F' ∧ Put F w w' ∧ ∀ g ∈ F', g ∈ F ∨ w.heap.size ≤ g) := goOut_any h hO _
  have h' : Hid (Dev w p s F) := h
  obtain ⟨vs, vq, vo, vb, Fs, Fq, Fo, Fb, D, hF⟩ := h
  have D' : Hid (DevAt w p s vs vq vo vb Fs Fq Fo Fb) := D
  have HG : Hid (Calls Tryz.prog 120 #[.pointer (some ⟨p, 6, none⟩), .int .u32 v] w fun e w' => e = .returned (.tuple #[]) ∧ DevAt w' p (giveS s v) vs vq vo vb Fs Fq Fo Fb ∧ Put [p] w w') := give_any D v
  have HS : Hid (Calls Tryz.prog 64 #[.pointer (some ⟨p, 2, none⟩), .int .u32 v] w fun e w' => e = .returned (.tuple #[]) ∧ DevAt w' p { s with b := clrI s.b v } vs vq vo vb Fs Fq Fo Fb ∧ Put [p] w w') := settle_any D ok.b v hv
  have hp : Hid (p ∈ F) := by rw [Hid, hF]; simp
  have hF' : Hid (F = p :: (Fs ++ (Fq ++ (Fo ++ Fb)))) := hF
  have c3 : w.cell? ⟨p, 3, none⟩ = some (.int .u32 s.m) := D.c 3
  have c7 : w.cell? ⟨p, 7, none⟩ = some (.int .u32 s.n) := D.c 7
  have c8 : w.cell? ⟨p, 8, none⟩ = some (.int .u32 s.a) := D.c 8
  have fz := D.fz
  have g7 : bits .and .u32 v 7 = v % 8 := and7_is v hv
  have hv0 := hv.1
  have hv1 := hv.2
  clear hF
  by_cases h0 : port = 0
  · subst h0
    clear D ok hv
    go_enter Tryz.func92, Tryz.ntmps92
    go_wp2_with (first | (go_at_call 46; refine HW.out.mono ?_; rintro e w1 ⟨rfl, rfl⟩) | (go_at_call 119; refine HO.out.mono ?_; rintro e w2 ⟨rfl, F', d2, k2, f2⟩))
    go_end0
    exact ⟨rfl, F', d2, k2, f2⟩
  by_cases h2 : port = 2
  · subst h2
    clear D ok hv h0
    go_enter Tryz.func92, Tryz.ntmps92
    go_wp2_with (go_at_call 46; refine HW.out.mono ?_; rintro e w1 ⟨rfl, rfl⟩)
    go_end0
    obtain ⟨r1, r2⟩ := set_at (s' := { s with n := v }) D'.out hF'.out 7 (.int .u32 v) rfl rfl rfl rfl rfl
    exact ⟨rfl, F, r1, r2, fun g hg => .inl hg⟩
  by_cases h3 : port = 3
  · subst h3
    clear D ok hv h0 h2
    go_enter Tryz.func92, Tryz.ntmps92
    go_wp2_with (go_at_call 46; refine HW.out.mono ?_; rintro e w1 ⟨rfl, rfl⟩)
    go_end0
    obtain ⟨r1, r2⟩ := set_at (s' := { s with a := v }) D'.out hF'.out 8 (.int .u32 v) rfl rfl rfl rfl rfl
    exact ⟨rfl, F, r1, r2, fun g hg => .inl hg⟩
  by_cases h4 : port = 4
  · subst h4
    clear D ok hv h0 h2 h3
    go_enter Tryz.func92, Tryz.ntmps92
    go_wp2_with (first | (go_at_call 46; refine HW.out.mono ?_; rintro e w1 ⟨rfl, rfl⟩) | (go_at_call 120; refine HG.out.mono ?_; rintro e w2 ⟨rfl, d2, k2⟩))
    go_end0
    exact ⟨rfl, F, ⟨_, _, _, _, _, _, _, _, d2, hF'.out⟩, k2.mono (by simpa using hp.out), fun g hg => .inl hg⟩
  by_cases h5 : port = 5
  · subst h5
    clear D ok hv h0 h2 h3 h4
    go_enter Tryz.func92, Tryz.ntmps92
    go_wp2_with (go_at_call 46; refine HW.out.mono ?_; rintro e w1 ⟨rfl, rfl⟩)
    go_end0
    obtain ⟨r1, r2⟩ := set_at (s' := { s with m := v % 8 }) D'.out hF'.out 3 (.int .u32 (v % 8)) rfl rfl rfl rfl rfl
    exact ⟨rfl, F, r1, r2, fun g hg => .inl hg⟩
  by_cases h6 : port = 6
  · subst h6
    clear D ok hv h0 h2 h3 h4 h5
    go_enter Tryz.func92, Tryz.ntmps92
    go_wp2_with (first | (go_at_call 46; refine HW.out.mono ?_; rintro e w1 ⟨rfl, rfl⟩) | (go_at_call 64; refine HS.out.mono ?_; rintro e w2 ⟨rfl, d2, k2⟩))
    go_end0
    exact ⟨rfl, F, ⟨_, _, _, _, _, _, _, _, d2, hF'.out⟩, k2.mono (by simpa using hp.out), fun g hg => .inl hg⟩
  have e : writeS s port v = s := by unfold writeS; rw [if_neg h0, if_neg h2, if_neg h3, if_neg h4, if_neg h5, if_neg h6]
  rw [e]
  have t0 : (port == 0) = false := by simp [h0]
  have t2 : (port == 2) = false := by simp [h2]
  have t3 : (port == 3) = false := by simp [h3]
  have t4 : (port == 4) = false := by simp [h4]
  have t5 : (port == 5) = false := by simp [h5]
  have t6 : (port == 6) = false := by simp [h6]
  clear D ok hv e h0 h2 h3 h4 h5 h6
  go_enter Tryz.func92, Tryz.ntmps92
  go_wp2_with (go_at_call 46; refine HW.out.mono ?_; rintro e w1 ⟨rfl, rfl⟩)
  go_end0
  exact ⟨rfl, F, h'.out, Put.refl _, fun g hg => .inl hg⟩
def view (B : List Int) (ix : List Nat) : List Int := ix.flatMap (frameL B)
def part (B : List Int) (ix : List Nat) (k : Nat) : List Int := view B (ix.take k) ++ List.replicate (64 * (ix.length - k)) 0
structure Refd (w : World) (x : Option Addr) (Rb : Nat) (B : List Int) : Prop where
  row : RowB w Rb B
  adr : B ≠ [] → x = some ⟨Rb, 0, none⟩
  max : (B.length : Int) ≤ 32768
abbrev refV (x : Option Addr) (n : Nat) : Value := .agg #[.slice x n n]
theorem size_ref : (Tryz.prog.info? 50).map (·.size) = some 1 := by kernel_rfl
set_option maxRecDepth 100000 in
theorem refNew_any (w : World) (n : Nat) (h1 : (1 : Int) ≤ n) (h2 : (n : Int) ≤ 512) :
    Calls Tryz.prog 24 #[.int .i64 n] w fun e w' => e = .returned (refV (some ⟨w.heap.size + 1, 0, none⟩) (64 * n)) ∧ Kep w w' ∧ w'.heap[w.heap.size + 1]? = some (.cells (byt (List.replicate (64 * n) 0)).toArray 5 (0, 0)) := by
  have m1 := make_row (n * 64) (by omega)
  have e1 : ((n * 64 : Nat) : Int) = (n : Int) * 64 := by omega
  rw [e1] at m1
  have e2 : 64 * n = n * 64 := by omega
  rw [e2]
  clear e1 e2
  generalize (byt (List.replicate (n * 64) 0)).toArray = Z at m1
  go_enter Tryz.func24, Tryz.ntmps24
  go_wp2
  refine bodyPost_ret (results1 rfl _ _ w.heap.size 50 #[.slice (some ⟨w.heap.size + 1, 0, none⟩) (n * 64) (n * 64)] (0, 0) _ rfl ?_ Tryz.underlying50 rfl size_ref) rfl ⟨rfl, ((Kep.refl _).alloc _).alloc _, ?_⟩
  · exact (hsk _ _ _ (by simp)).trans (hat _ _ _ rfl)
  · exact hat _ _ _ (by simp)
end Go.Proofs.YtnignfloedcmlaaGreatDoor
