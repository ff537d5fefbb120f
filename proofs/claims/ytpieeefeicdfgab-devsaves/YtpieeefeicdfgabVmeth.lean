/- What devices are asked, and told. -/
import Derived.Test.YtpieeefeicdfgabVcome
import Derived.Test.YtpieeefeicdfgabXwant
namespace Go.Proofs.Ytpieeefeicdfgab
open Go.RowKit
set_option linter.unusedVariables false
set_option linter.unusedSimpArgs false

theorem come_any (w : World) (p : Nat) (s : DS) (F : List Nat) (h : Dev w p s F) (ok : s.Ok) (hE : s.E.length ≤ 64) (va : Option Addr) (R : Nat) (ix : List Nat) (B : List Int) (M : MemS w (.pointer va) R ix B F) (hB : Byts B) (hf : Fits B ix) (step : Int) :
    Calls Try.prog 8 #[.pointer (some ⟨p, 0, none⟩), .int .i64 step, .pointer va] w (ComeP w p F (.pointer va) R ix B (comeC step ix ⟨s, B, [], []⟩)) := callsIn_wide.1 (come_in w p s F h ok hE va R ix B M hB hf step)
theorem Dev.works {w : World} {p : Nat} {s : DS} {F : List Nat} (h : Dev w p s F) : Calls Try.prog 28 #[.pointer (some ⟨p, 0, none⟩)] w fun e w' => e = .returned (.bool true) ∧ w' = w := by
  obtain ⟨_, _, _, _, _, _, _, _, D, _⟩ := h
  exact vworks_yes w p (D.c 0)

/-- How many steps behind a step the next event may come. -/
def nextV (s : DS) (step : Int) : Array Value := match s.E with
  | [] => #[.int .i64 0, .bool false]
  | e :: _ => #[.int .i64 (max (e.1 - max step 0) 0), .bool true]
theorem ret_nb {a b : Int} (h : a = b) : Ending.returned (.tuple #[.int .i64 a, .bool true]) = .returned (.tuple #[.int .i64 b, .bool true]) := by rw [h]
set_option maxHeartbeats 1000000 in
theorem next_any {w : World} {p : Nat} {s : DS} {F : List Nat} (h : Dev w p s F) (ok : s.Ok) (hE : s.E.length ≤ 64) (step : Int) (hs : -9223372036854775808 ≤ step ∧ step ≤ 9223372036854775807) :
    Calls Try.prog 42 #[.pointer (some ⟨p, 0, none⟩), .int .i64 step] w fun e w' => e = .returned (.tuple (nextV s step)) ∧ w' = w := by
  have HW : (Hid (Calls Try.prog 28 #[.pointer (some ⟨p, 0, none⟩)] w fun e w' => e = .returned (.bool true) ∧ w' = w)) := h.works
  obtain ⟨vs, vq, vo, vb, Fs, Fq, Fo, Fb, D, _⟩ := h
  have c1 : w.cell? ⟨p, 1, none⟩ = some vs := D.c 1
  obtain ⟨xs, cs, hv, hlies, hle, hmx, _⟩ := D.sc.lies
  cases hx : s.E with
  | nil =>
    rw [hx] at hv
    simp only [List.length_nil] at hv
    subst hv
    have e : nextV s step = #[.int .i64 0, .bool false] := by unfold nextV; rw [hx]
    rw [e]
    clear D hlies hx e hle
    go_enter Try.func42, Try.ntmps42
    go_wp2_with (go_at_call 28; refine HW.out.mono ?_; rintro e w1 ⟨rfl, rfl⟩)
    go_ret2
    exact ⟨rfl, rfl⟩
  | cons e r =>
    obtain ⟨ea, eb, ec⟩ := e
    have hw := (ok.ev (ea, eb, ec) (by rw [hx]; simp)).1
    unfold wrongB at hw
    simp only [Bool.or_eq_false_iff, decide_eq_false_iff_not] at hw
    have ha0 : 0 ≤ ea := by omega
    have ha1 : ea ≤ 1073741824 := by omega
    rw [hx] at hv hlies hle hE
    rcases hlies with hlies | ⟨b, off, hxs, hb, hcell⟩
    · rw [evs_cons] at hlies; simp [evV] at hlies
    subst hxs
    subst hv
    have e0 : w.cell? ⟨b, off, none⟩ = some (.int .i64 ea) := hcell 0 _ rfl
    have ev : Hid (nextV s step = #[.int .i64 (max (ea - max step 0) 0), .bool true]) := by unfold Hid nextV; rw [hx]
    rw [ev.out]
    obtain ⟨n, hn⟩ : ∃ n, Hid (n = ((ea, eb, ec) :: r).length) := ⟨_, rfl⟩
    rw [← hn.out] at c1
    have hn1 : (1 : Int) ≤ n := by rw [hn.out]; simp only [List.length_cons]; omega
    have hn2 : (n : Int) ≤ 64 := by rw [hn.out]; omega
    have hn3 : (n : Int) ≤ cs := by rw [hn.out]; omega
    have hn0 : ((n : Int) == 0) = false := by simp; omega
    have hn0' : (n == 0) = false := by simp; omega
    have hn0'' : (n = 0) = False := eq_false (by omega)
    obtain ⟨hs0, hs1⟩ := hs
    clear D hx hcell hle hmx hw
    go_enter Try.func42, Try.ntmps42
    go_wp2_with (go_at_call 28; refine HW.out.mono ?_; rintro e w1 ⟨rfl, rfl⟩)
    all_goals go_ret2
    all_goals refine ⟨ret_nb ?_, rfl⟩
    all_goals omega

theorem wanted_any {w : World} {p : Nat} (b m : Int) (hb : 0 ≤ b ∧ b ≤ 7) (hm : 0 ≤ m ∧ m ≤ 7) (c2 : w.cell? ⟨p, 2, none⟩ = some (.int .u32 b)) (c3 : w.cell? ⟨p, 3, none⟩ = some (.int .u32 m)) (ps : Int) (h0 : 0 ≤ ps ∧ ps < 4294967296) :
    Calls Try.prog 37 #[.pointer (some ⟨p, 2, none⟩), .int .u32 ps] w fun e w' => e = .returned (.int .i64 (wantsI ps (clrI b m))) ∧ Kep w w' := by
  have hr : bits .andNot .u32 b m = clrI b m := andNot_is hb (by omega)
  have hl := clr_low (v := m) hb
  have H : Hid (∀ w, Calls Try.prog 64 #[.int .u32 ps, .int .u32 (clrI b m)] w fun e w' => e = .returned (.int .i64 (wantsI ps (clrI b m))) ∧ Kep w w') := fun w => wants_any ps _ w h0 (by omega)
  generalize wantsI ps (clrI b m) = r at H
  generalize clrI b m = c at hr H hl
  clear hb hm hl
  go_enter Try.func37, Try.ntmps37
  go_wp2_with fail
  go_region_with ((go_at_call 64; refine (H.out _).mono ?_; rintro e w1 ⟨rfl, k1⟩; have K1 : Hid (Kep w.drew w1) := k1; clear k1))
  all_goals
    go_wp2_with fail
    go_ret
    exact ⟨rfl, kep_trans ((Kep.refl w).drew) K1.out⟩
theorem vwants_any {w : World} {p : Nat} {s : DS} {F : List Nat} (h : Dev w p s F) (ok : s.Ok) (ps : Int) (h0 : 0 ≤ ps ∧ ps < 4294967296) :
    Calls Try.prog 11 #[.pointer (some ⟨p, 0, none⟩), .int .u32 ps] w fun e w' => e = .returned (.int .i64 (wantsI ps (clrI s.b s.m))) ∧ Kep w w' := by
  have HW : (Hid (Calls Try.prog 28 #[.pointer (some ⟨p, 0, none⟩)] w fun e w' => e = .returned (.bool true) ∧ w' = w)) := h.works
  obtain ⟨vs, vq, vo, vb, Fs, Fq, Fo, Fb, D, _⟩ := h
  have H : Hid (Calls Try.prog 37 #[.pointer (some ⟨p, 2, none⟩), .int .u32 ps] w fun e w' => e = .returned (.int .i64 (wantsI ps (clrI s.b s.m))) ∧ Kep w w') := wanted_any s.b s.m ok.b ok.m (D.c 2) (D.c 3) ps h0
  generalize wantsI ps (clrI s.b s.m) = r at H
  clear D ok
  go_enter Try.func11, Try.ntmps11
  go_wp2_with (first | (go_at_call 28; refine HW.out.mono ?_; rintro e w1 ⟨rfl, rfl⟩) | (go_at_call 37; refine H.out.mono ?_; rintro e w2 ⟨rfl, k2⟩))
  go_ret
  exact ⟨rfl, k2⟩
/-- That is waiting no more. -/
def takenS (s : DS) (cause : Int) : DS := if cause = 9 then { s with b := clrI s.b 1 } else if cause = 10 then { s with b := clrI s.b 2 } else if cause = 11 then { s with b := clrI s.b 4 } else s
set_option maxHeartbeats 1000000 in
theorem taken_dev {w : World} {p : Nat} {s : DS} {F : List Nat} (h : Dev w p s F) (ok : s.Ok) (cause : Int) :
    Calls Try.prog 12 #[.pointer (some ⟨p, 0, none⟩), .int .i64 cause] w fun e w' => e = .returned (.tuple #[]) ∧ Dev w' p (takenS s cause) F ∧ Put F w w' := by
  have HW : (Hid (Calls Try.prog 28 #[.pointer (some ⟨p, 0, none⟩)] w fun e w' => e = .returned (.bool true) ∧ w' = w)) := h.works
  obtain ⟨vs, vq, vo, vb, Fs, Fq, Fo, Fb, D, hF⟩ := h
  have D' : Hid (DevAt w p s vs vq vo vb Fs Fq Fo Fb) := D
  have hp : Hid (p ∈ F) := by rw [Hid, hF]; simp
  have H : Hid (∀ v, 0 ≤ v ∧ v < 4294967296 → Calls Try.prog 36 #[.pointer (some ⟨p, 2, none⟩), .int .u32 v] w fun e w' => e = .returned (.tuple #[]) ∧ DevAt w' p { s with b := clrI s.b v } vs vq vo vb Fs Fq Fo Fb ∧ Put [p] w w') := fun v hv => settle_any D ok.b v hv
  by_cases h9 : cause = 9
  · subst h9
    clear D ok
    go_enter Try.func12, Try.ntmps12
    go_wp2_with (first | (go_at_call 28; refine HW.out.mono ?_; rintro e w1 ⟨rfl, rfl⟩) | (go_at_call 36; refine (H.out _ (by decide)).mono ?_; rintro e w2 ⟨rfl, d2, k2⟩))
    go_end0
    exact ⟨rfl, ⟨_, _, _, _, _, _, _, _, d2, hF⟩, k2.mono (by simpa using hp.out)⟩
  by_cases h10 : cause = 10
  · subst h10
    clear D ok h9
    go_enter Try.func12, Try.ntmps12
    go_wp2_with (first | (go_at_call 28; refine HW.out.mono ?_; rintro e w1 ⟨rfl, rfl⟩) | (go_at_call 36; refine (H.out _ (by decide)).mono ?_; rintro e w2 ⟨rfl, d2, k2⟩))
    go_end0
    exact ⟨rfl, ⟨_, _, _, _, _, _, _, _, d2, hF⟩, k2.mono (by simpa using hp.out)⟩
  by_cases h11 : cause = 11
  · subst h11
    clear D ok h9 h10
    go_enter Try.func12, Try.ntmps12
    go_wp2_with (first | (go_at_call 28; refine HW.out.mono ?_; rintro e w1 ⟨rfl, rfl⟩) | (go_at_call 36; refine (H.out _ (by decide)).mono ?_; rintro e w2 ⟨rfl, d2, k2⟩))
    go_end0
    exact ⟨rfl, ⟨_, _, _, _, _, _, _, _, d2, hF⟩, k2.mono (by simpa using hp.out)⟩
  have e : takenS s cause = s := by unfold takenS; rw [if_neg h9, if_neg h10, if_neg h11]
  rw [e]
  have t9 : (cause == 9) = false := by simp [h9]
  have t10 : (cause == 10) = false := by simp [h10]
  have t11 : (cause == 11) = false := by simp [h11]
  clear D ok h9 h10 h11 e
  go_enter Try.func12, Try.ntmps12
  go_wp2_with (go_at_call 28; refine HW.out.mono ?_; rintro e w1 ⟨rfl, rfl⟩)
  go_end0
  exact ⟨rfl, ⟨_, _, _, _, _, _, _, _, D'.out, hF⟩, Put.refl _⟩
/-- What a port tells. -/
def inI (s : DS) (port : Int) : Int := if port = 0 then firstI s.Q else if port = 1 then s.Q.length else if port = 2 then s.n else if port = 3 then s.a else if port = 4 then s.s else if port = 5 then s.m else if port = 6 then s.b else if port = 7 then ((s.D.length / 64 : Nat) : Int) else 0
set_option maxHeartbeats 2000000 in
theorem in_any {w : World} {p : Nat} {s : DS} {F : List Nat} (h : Dev w p s F) (ok : s.Ok) (port : Int) :
    Calls Try.prog 9 #[.pointer (some ⟨p, 0, none⟩), .int .i64 port] w fun e w' => e = .returned (.int .u32 (inI s port)) ∧ w' = w := by
  have HW : (Hid (Calls Try.prog 28 #[.pointer (some ⟨p, 0, none⟩)] w fun e w' => e = .returned (.bool true) ∧ w' = w)) := h.works
  have HF : Hid (Calls Try.prog 33 #[.pointer (some ⟨p, 4, none⟩)] w fun e w' => e = .returned (.int .u32 (firstI s.Q)) ∧ w' = w) := first_any h ok.qb
  obtain ⟨vs, vq, vo, vb, Fs, Fq, Fo, Fb, D, hF⟩ := h
  have c2 : w.cell? ⟨p, 2, none⟩ = some (.int .u32 s.b) := D.c 2
  have c3 : w.cell? ⟨p, 3, none⟩ = some (.int .u32 s.m) := D.c 3
  have c4 : w.cell? ⟨p, 4, none⟩ = some vq := D.c 4
  have c6 : w.cell? ⟨p, 6, none⟩ = some vb := D.c 6
  have c7 : w.cell? ⟨p, 7, none⟩ = some (.int .u32 s.n) := D.c 7
  have c8 : w.cell? ⟨p, 8, none⟩ = some (.int .u32 s.a) := D.c 8
  have c9 : w.cell? ⟨p, 9, none⟩ = some (.int .u32 s.s) := D.c 9
  obtain ⟨xq, cq, hvq, _⟩ := D.q.lies
  obtain ⟨xb, cb, hvb, _⟩ := D.d.lies
  subst hvq hvb
  have g1 : ((s.Q.length : Int)) % 4294967296 = s.Q.length := by have := ok.q; omega
  have g2 : (((s.D.length / 64 : Nat) : Int)) % 4294967296 = ((s.D.length / 64 : Nat) : Int) := by have := ok.d; omega
  by_cases h0 : port = 0
  · subst h0
    have e : inI s 0 = firstI s.Q := by simp [inI]
    rw [e]
    clear D ok e 
    generalize firstI s.Q = fq at HF ⊢
    go_enter Try.func9, Try.ntmps9
    go_wp2_with (first | (go_at_call 28; refine HW.out.mono ?_; rintro e w1 ⟨rfl, rfl⟩) | (go_at_call 33; refine HF.out.mono ?_; rintro e w2 ⟨rfl, rfl⟩))
    go_ret
    exact ⟨ret_int (by first | rfl | omega), rfl⟩
  by_cases h1 : port = 1
  · subst h1
    have e : inI s 1 = (s.Q.length : Int) := by simp [inI]
    rw [e]
    clear D ok e h0
    generalize s.Q.length = nq at *
    go_enter Try.func9, Try.ntmps9
    go_wp2_with (go_at_call 28; refine HW.out.mono ?_; rintro e w1 ⟨rfl, rfl⟩)
    go_ret
    exact ⟨ret_int (by first | rfl | omega), rfl⟩
  by_cases h2 : port = 2
  · subst h2
    have e : inI s 2 = s.n := by simp [inI]
    rw [e]
    clear D ok e h0 h1
    skip
    go_enter Try.func9, Try.ntmps9
    go_wp2_with (go_at_call 28; refine HW.out.mono ?_; rintro e w1 ⟨rfl, rfl⟩)
    go_ret
    exact ⟨ret_int (by first | rfl | omega), rfl⟩
  by_cases h3 : port = 3
  · subst h3
    have e : inI s 3 = s.a := by simp [inI]
    rw [e]
    clear D ok e h0 h1 h2
    skip
    go_enter Try.func9, Try.ntmps9
    go_wp2_with (go_at_call 28; refine HW.out.mono ?_; rintro e w1 ⟨rfl, rfl⟩)
    go_ret
    exact ⟨ret_int (by first | rfl | omega), rfl⟩
  by_cases h4 : port = 4
  · subst h4
    have e : inI s 4 = s.s := by simp [inI]
    rw [e]
    clear D ok e h0 h1 h2 h3
    skip
    go_enter Try.func9, Try.ntmps9
    go_wp2_with (go_at_call 28; refine HW.out.mono ?_; rintro e w1 ⟨rfl, rfl⟩)
    go_ret
    exact ⟨ret_int (by first | rfl | omega), rfl⟩
  by_cases h5 : port = 5
  · subst h5
    have e : inI s 5 = s.m := by simp [inI]
    rw [e]
    clear D ok e h0 h1 h2 h3 h4
    skip
    go_enter Try.func9, Try.ntmps9
    go_wp2_with (go_at_call 28; refine HW.out.mono ?_; rintro e w1 ⟨rfl, rfl⟩)
    go_ret
    exact ⟨ret_int (by first | rfl | omega), rfl⟩
  by_cases h6 : port = 6
  · subst h6
    have e : inI s 6 = s.b := by simp [inI]
    rw [e]
    clear D ok e h0 h1 h2 h3 h4 h5
    skip
    go_enter Try.func9, Try.ntmps9
    go_wp2_with (go_at_call 28; refine HW.out.mono ?_; rintro e w1 ⟨rfl, rfl⟩)
    go_ret
    exact ⟨ret_int (by first | rfl | omega), rfl⟩
  by_cases h7 : port = 7
  · subst h7
    have e : inI s 7 = ((s.D.length / 64 : Nat) : Int) := by simp [inI]
    rw [e]
    clear D ok e h0 h1 h2 h3 h4 h5 h6
    generalize s.D.length / 64 = nb at *
    go_enter Try.func9, Try.ntmps9
    go_wp2_with (go_at_call 28; refine HW.out.mono ?_; rintro e w1 ⟨rfl, rfl⟩)
    go_ret
    exact ⟨ret_int (by first | rfl | omega), rfl⟩
  have e : inI s port = 0 := by unfold inI; rw [if_neg h0, if_neg h1, if_neg h2, if_neg h3, if_neg h4, if_neg h5, if_neg h6, if_neg h7]
  rw [e]
  have t0 : (port == 0) = false := by simp [h0]
  have t1 : (port == 1) = false := by simp [h1]
  have t2 : (port == 2) = false := by simp [h2]
  have t3 : (port == 3) = false := by simp [h3]
  have t4 : (port == 4) = false := by simp [h4]
  have t5 : (port == 5) = false := by simp [h5]
  have t6 : (port == 6) = false := by simp [h6]
  have t7 : (port == 7) = false := by simp [h7]
  clear D ok e h0 h1 h2 h3 h4 h5 h6 h7
  go_enter Try.func9, Try.ntmps9
  go_wp2_with (go_at_call 28; refine HW.out.mono ?_; rintro e w1 ⟨rfl, rfl⟩)
  go_ret
  exact ⟨rfl, rfl⟩
/-- A read takes the queue's first byte out. -/
def readS (s : DS) (port : Int) : DS := if port = 0 then { s with Q := s.Q.drop 1 } else s
set_option maxHeartbeats 1000000 in
theorem read_dev {w : World} {p : Nat} {s : DS} {F : List Nat} (h : Dev w p s F) (ok : s.Ok) (port : Int) :
    Calls Try.prog 27 #[.pointer (some ⟨p, 0, none⟩), .int .i64 port] w fun e w' => e = .returned (.int .u32 (inI s port)) ∧ Dev w' p (readS s port) F ∧ Put F w w' := by
  have HW : (Hid (Calls Try.prog 28 #[.pointer (some ⟨p, 0, none⟩)] w fun e w' => e = .returned (.bool true) ∧ w' = w)) := h.works
  have HI : Hid (Calls Try.prog 9 #[.pointer (some ⟨p, 0, none⟩), .int .i64 port] w fun e w' => e = .returned (.int .u32 (inI s port)) ∧ w' = w) := in_any h ok port
  have HT : Hid (Calls Try.prog 59 #[.pointer (some ⟨p, 4, none⟩)] w fun e w' => e = .returned (.tuple #[]) ∧ Dev w' p { s with Q := s.Q.drop 1 } F ∧ Put F w w') := takeOut_any h
  have h' : Hid (Dev w p s F) := h
  by_cases h0 : port = 0
  · have t0 : (port == 0) = true := by simp [h0]
    have e : readS s port = { s with Q := s.Q.drop 1 } := by unfold readS; rw [if_pos h0]
    rw [e]
    generalize inI s port = r at HI ⊢
    clear h ok e h0
    go_enter Try.func27, Try.ntmps27
    go_wp2_with (first | (go_at_call 28; refine HW.out.mono ?_; rintro e w1 ⟨rfl, rfl⟩) | (go_at_call 9; refine HI.out.mono ?_; rintro e w1 ⟨rfl, rfl⟩) | (go_at_call 59; refine HT.out.mono ?_; rintro e w2 ⟨rfl, d2, k2⟩))
    go_ret
    exact ⟨rfl, d2, k2⟩
  · have t0 : (port == 0) = false := by simp [h0]
    have e : readS s port = s := by unfold readS; rw [if_neg h0]
    rw [e]
    generalize inI s port = r at HI ⊢
    clear h ok e h0
    go_enter Try.func27, Try.ntmps27
    go_wp2_with (first | (go_at_call 28; refine HW.out.mono ?_; rintro e w1 ⟨rfl, rfl⟩) | (go_at_call 9; refine HI.out.mono ?_; rintro e w1 ⟨rfl, rfl⟩))
    go_ret
    exact ⟨rfl, h'.out, Put.refl _⟩
/-- What a write leaves. -/
def writeS (s : DS) (port v : Int) : DS := if port = 0 then { s with O := s.O ++ [v % 256] } else if port = 2 then { s with n := v } else if port = 3 then { s with a := v } else if port = 4 then giveS s v else if port = 5 then { s with m := v % 8 } else if port = 6 then { s with b := clrI s.b v } else s
theorem set_at {w : World} {p : Nat} {s s' : DS} {vs vq vo vb : Value} {Fs Fq Fo Fb F : List Nat} (h : DevAt w p s vs vq vo vb Fs Fq Fo Fb) (hF : F = p :: (Fs ++ (Fq ++ (Fo ++ Fb)))) (j : Nat) (u : Value) (hb : (devC s vs vq vo vb).setIfInBounds j u = devC s' vs vq vo vb) (e1 : s'.E = s.E) (e2 : s'.Q = s.Q) (e3 : s'.O = s.O) (e4 : s'.D = s.D) : Dev (w.setCell ⟨p, j, none⟩ u) p s' F ∧ Put F w (w.setCell ⟨p, j, none⟩ u) := by
  have P : Put [p] w (w.setCell ⟨p, j, none⟩ u) := (Put.refl w).setCell (by simp) _
  have b1 := box_set (j := j) h.box u
  rw [hb] at b1
  exact ⟨⟨_, _, _, _, _, _, _, _, h.turn P b1 e1 e2 e3 e4, hF⟩, P.mono (by rw [hF]; simp)⟩
set_option maxHeartbeats 2000000 in
theorem write_dev {w : World} {p : Nat} {s : DS} {F : List Nat} (h : Dev w p s F) (ok : s.Ok) (hO : (s.O.length : Int) < 1000000) (port v : Int) (hv : 0 ≤ v ∧ v < 4294967296) :
    Calls Try.prog 10 #[.pointer (some ⟨p, 0, none⟩), .int .i64 port, .int .u32 v] w fun e w' => e = .returned (.tuple #[]) ∧ ∃ F', Dev w' p (writeS s port v) F' ∧ Put F w w' ∧ ∀ g ∈ F', g ∈ F ∨ w.heap.size ≤ g := by
  have HW : (Hid (Calls Try.prog 28 #[.pointer (some ⟨p, 0, none⟩)] w fun e w' => e = .returned (.bool true) ∧ w' = w)) := h.works
  have HO : Hid (Calls Try.prog 34 #[.pointer (some ⟨p, 4, none⟩), .int .u8 (v % 256)] w fun e w' => e = .returned (.tuple #[]) ∧ ∃ F', Dev w' p { s with O := s.O ++ [v % 256] } F' ∧ Put F w w' ∧ ∀ g ∈ F', g ∈ F ∨ w.heap.size ≤ g) := goOut_any h hO _
  have h' : Hid (Dev w p s F) := h
  obtain ⟨vs, vq, vo, vb, Fs, Fq, Fo, Fb, D, hF⟩ := h
  have D' : Hid (DevAt w p s vs vq vo vb Fs Fq Fo Fb) := D
  have HG : Hid (Calls Try.prog 35 #[.pointer (some ⟨p, 6, none⟩), .int .u32 v] w fun e w' => e = .returned (.tuple #[]) ∧ DevAt w' p (giveS s v) vs vq vo vb Fs Fq Fo Fb ∧ Put [p] w w') := give_any D v
  have HS : Hid (Calls Try.prog 36 #[.pointer (some ⟨p, 2, none⟩), .int .u32 v] w fun e w' => e = .returned (.tuple #[]) ∧ DevAt w' p { s with b := clrI s.b v } vs vq vo vb Fs Fq Fo Fb ∧ Put [p] w w') := settle_any D ok.b v hv
  have hp : Hid (p ∈ F) := by rw [Hid, hF]; simp
  have hF' : Hid (F = p :: (Fs ++ (Fq ++ (Fo ++ Fb)))) := hF
  have c3 : w.cell? ⟨p, 3, none⟩ = some (.int .u32 s.m) := D.c 3
  have c7 : w.cell? ⟨p, 7, none⟩ = some (.int .u32 s.n) := D.c 7
  have c8 : w.cell? ⟨p, 8, none⟩ = some (.int .u32 s.a) := D.c 8
  have fz := D.fz
  have g7 : bits .and .u32 v 7 = v % 8 := and7_is v hv
  have hv0 := hv.1
  have hv1 := hv.2
  clear hF
  by_cases h0 : port = 0
  · subst h0
    clear D ok hv 
    go_enter Try.func10, Try.ntmps10
    go_wp2_with (first | (go_at_call 28; refine HW.out.mono ?_; rintro e w1 ⟨rfl, rfl⟩) | (go_at_call 34; refine HO.out.mono ?_; rintro e w2 ⟨rfl, F', d2, k2, f2⟩))
    go_end0
    exact ⟨rfl, F', d2, k2, f2⟩
  by_cases h2 : port = 2
  · subst h2
    clear D ok hv h0
    go_enter Try.func10, Try.ntmps10
    go_wp2_with (go_at_call 28; refine HW.out.mono ?_; rintro e w1 ⟨rfl, rfl⟩)
    go_end0
    obtain ⟨r1, r2⟩ := set_at (s' := { s with n := v }) D'.out hF'.out 7 (.int .u32 v) rfl rfl rfl rfl rfl
    exact ⟨rfl, F, r1, r2, fun g hg => .inl hg⟩
  by_cases h3 : port = 3
  · subst h3
    clear D ok hv h0 h2
    go_enter Try.func10, Try.ntmps10
    go_wp2_with (go_at_call 28; refine HW.out.mono ?_; rintro e w1 ⟨rfl, rfl⟩)
    go_end0
    obtain ⟨r1, r2⟩ := set_at (s' := { s with a := v }) D'.out hF'.out 8 (.int .u32 v) rfl rfl rfl rfl rfl
    exact ⟨rfl, F, r1, r2, fun g hg => .inl hg⟩
  by_cases h4 : port = 4
  · subst h4
    clear D ok hv h0 h2 h3
    go_enter Try.func10, Try.ntmps10
    go_wp2_with (first | (go_at_call 28; refine HW.out.mono ?_; rintro e w1 ⟨rfl, rfl⟩) | (go_at_call 35; refine HG.out.mono ?_; rintro e w2 ⟨rfl, d2, k2⟩))
    go_end0
    exact ⟨rfl, F, ⟨_, _, _, _, _, _, _, _, d2, hF'.out⟩, k2.mono (by simpa using hp.out), fun g hg => .inl hg⟩
  by_cases h5 : port = 5
  · subst h5
    clear D ok hv h0 h2 h3 h4
    go_enter Try.func10, Try.ntmps10
    go_wp2_with (go_at_call 28; refine HW.out.mono ?_; rintro e w1 ⟨rfl, rfl⟩)
    go_end0
    obtain ⟨r1, r2⟩ := set_at (s' := { s with m := v % 8 }) D'.out hF'.out 3 (.int .u32 (v % 8)) rfl rfl rfl rfl rfl
    exact ⟨rfl, F, r1, r2, fun g hg => .inl hg⟩
  by_cases h6 : port = 6
  · subst h6
    clear D ok hv h0 h2 h3 h4 h5
    go_enter Try.func10, Try.ntmps10
    go_wp2_with (first | (go_at_call 28; refine HW.out.mono ?_; rintro e w1 ⟨rfl, rfl⟩) | (go_at_call 36; refine HS.out.mono ?_; rintro e w2 ⟨rfl, d2, k2⟩))
    go_end0
    exact ⟨rfl, F, ⟨_, _, _, _, _, _, _, _, d2, hF'.out⟩, k2.mono (by simpa using hp.out), fun g hg => .inl hg⟩
  have e : writeS s port v = s := by unfold writeS; rw [if_neg h0, if_neg h2, if_neg h3, if_neg h4, if_neg h5, if_neg h6]
  rw [e]
  have t0 : (port == 0) = false := by simp [h0]
  have t2 : (port == 2) = false := by simp [h2]
  have t3 : (port == 3) = false := by simp [h3]
  have t4 : (port == 4) = false := by simp [h4]
  have t5 : (port == 5) = false := by simp [h5]
  have t6 : (port == 6) = false := by simp [h6]
  clear D ok hv e h0 h2 h3 h4 h5 h6
  go_enter Try.func10, Try.ntmps10
  go_wp2_with (go_at_call 28; refine HW.out.mono ?_; rintro e w1 ⟨rfl, rfl⟩)
  go_end0
  exact ⟨rfl, F, h'.out, Put.refl _, fun g hg => .inl hg⟩
end Go.Proofs.Ytpieeefeicdfgab
