/- Devices are made, or refused. -/
import Derived.Test.YtpieeefeicdfgabVcut
namespace Go.Proofs.Ytpieeefeicdfgab
open Go.RowKit
set_option linter.unusedVariables false

/-- What is wrong with a script and a disk. -/
def errI (E : List Ev) (Z : List Int) : Int := if 64 < E.length ∨ 2048 < Z.length then 3 else if E.any wrongB = true ∨ Z.length % 64 ≠ 0 then 2 else 0
theorem errI_ok {E : List Ev} {Z : List Int} (h : errI E Z = 0) : E.length ≤ 64 ∧ Z.length ≤ 2048 ∧ E.any wrongB = false ∧ Z.length % 64 = 0 := by
  unfold errI at h
  split at h
  · cases h
  · split at h
    · cases h
    · rename_i h1 h2
      simp only [not_or, Bool.not_eq_true] at h1 h2
      exact ⟨by omega, by omega, h2.1, by omega⟩
theorem errI_cases (E : List Ev) (Z : List Int) : errI E Z = 0 ∨ errI E Z = 2 ∨ errI E Z = 3 := by
  unfold errI; split; exact .inr (.inr rfl); split; exact .inr (.inl rfl); exact .inl rfl
/-- Devices as they are made. -/
def ds0 (E : List Ev) (Z : List Int) : DS := ⟨E, 0, 0, [], [], Z, 0, 0, 0, 0, 0, 0⟩
theorem owns_form {w : World} {base : Nat} {e : TypeId} {z : Nat} {v : Value} {n : Nat} {xs : List Value} (h : w.ownsRow base e z v n xs) : ∃ x c, v = .slice x n c := by
  rcases h.2 with ⟨rfl, rfl⟩ | ⟨g, cap, cur, rfl, _⟩
  · exact ⟨_, _, rfl⟩
  · exact ⟨_, _, rfl⟩

set_option maxHeartbeats 1000000 in
theorem vnew_ok (w : World) (x : Option Addr) (n cap : Nat) (E : List Ev) (hl : E.length = n) (hc : n ≤ cap) (h : Lies w x (evs E)) (y : Option Addr) (m c : Nat) (Z : List Int) (hz : Z.length = m) (hmc : m ≤ c) (hmax : (c : Int) ≤ 9223372036854775807) (hy : Lies w y (byt Z)) (he : errI E Z = 0) :
    Calls Try.prog 6 #[.slice x n cap, .slice y m c] w fun e w' => ∃ p F, e = .returned (.tuple #[.pointer (some ⟨p, 0, none⟩), .int .i64 0]) ∧ Dev w' p (ds0 E Z) F ∧ Kep w w' ∧ ∀ g ∈ F, w.heap.size ≤ g := by
  obtain ⟨e1, e2, e3, e4⟩ := errI_ok he
  have HC : Hid (Calls Try.prog 23 #[.slice x n cap, .func (.func 24) #[] #[]] w fun e w' => e = .returned (.bool false) ∧ Kep w w') := by
    have := contains_any w x n cap E hl (by omega) hc h
    rw [e3] at this; exact this
  have HE : Hid (∀ w', Kep w w' → Calls Try.prog 25 #[.slice x n cap] w' fun e w'' => ∃ v, e = .returned v ∧ w''.ownsRow w'.heap.size 68 3 v n (evs E) ∧ Kep w' w'') := fun w' k => clone_ev w' x n cap (evs E) (by rw [evs_len, hl]) (h.kep k) (evs_ones E) (by omega)
  have HD : Hid (∀ w', Kep w w' → Calls Try.prog 26 #[.slice y m c] w' fun e w'' => ∃ v, e = .returned v ∧ w''.ownsRow w'.heap.size 106 64 v (m / 64) (byt Z) ∧ Kep w' w'') := fun w' k => vcut_any w' y m c (m / 64) Z hz (by omega) (by omega) (by omega) hmax (hy.kep k)
  have t1 : decide ((64 : Int) < n) = false := decide_eq_false (by omega)
  have t2 : decide ((2048 : Int) < m) = false := decide_eq_false (by omega)
  have t3 : ((m : Int) % 64 != 0) = false := by simp; omega
  have hl' : Hid (E.length = n) := hl
  have hz' : Hid (Z.length = m) := hz
  clear h hy he e1 e2 e3 e4 hl hz hc hmc
  go_enter Try.func6, Try.ntmps6
  go_wp2_with (go_at_call 23; refine HC.out.mono ?_; rintro e w1 ⟨rfl, k1⟩; have K1 : Hid (Kep w w1) := k1; clear k1)
  refine (HE.out _ K1.out).mono ?_
  rintro e w2 ⟨v, rfl, hv, k2⟩
  obtain ⟨x1, c1, rfl⟩ := owns_form hv
  have hv' : Hid (w2.ownsRow w1.heap.size 68 3 (.slice x1 n c1) n (evs E)) := hv
  have K2 : Hid (Kep w1 w2) := k2
  clear hv k2
  go_wp2_with fail
  refine (HD.out _ (kep_trans K1.out K2.out)).mono ?_
  rintro e w3 ⟨vb, rfl, hb, k3⟩
  obtain ⟨x2, c2, rfl⟩ := owns_form hb
  have hb' : Hid (w3.ownsRow w2.heap.size 106 64 (.slice x2 (m / 64) c2) (m / 64) (byt Z)) := hb
  have K3 : Hid (Kep w2 w3) := k3
  clear hb k3
  generalize hmm : m / 64 = mm at hb'
  have hmm' : Hid (m / 64 = mm) := hmm
  clear hmm
  go_wp2_with fail
  go_ret2
  obtain ⟨Fs, hs, hFs⟩ := Sli.of_owns hv'.out
  obtain ⟨Fb, hb, hFb⟩ := Sli.of_owns hb'.out
  have ls := hs.lt
  have lb := hb.lt
  have i1 := K1.out.size
  have i2 := K2.out.size
  have i3 := K3.out.size
  have kA : Kep w3 (w3.alloc (.cells (devC (ds0 E Z) (.slice x1 n c1) (.slice none 0 0) (.slice none 0 0) (.slice x2 mm c2)) 82)) := (Kep.refl w3).alloc _
  refine ⟨w3.heap.size, w3.heap.size :: (Fs ++ ([] ++ ([] ++ Fb))), rfl, ⟨.slice x1 n c1, .slice none 0 0, .slice none 0 0, .slice x2 mm c2, Fs, [], [], Fb, ⟨hat _ _ _ rfl, ?_, Sli.nil _ _ _, Sli.nil _ _ _, ?_, ?_, by simp, by simp, ?_, by simp, by simp, ?_, by simp, by simp, by simp⟩, rfl⟩, kep_trans K1.out (kep_trans K2.out (kep_trans K3.out kA)), ?_⟩
  · show Sli _ _ _ _ E.length _ _
    rw [hl'.out]; exact hs.kep (kep_trans K3.out kA)
  · show Sli _ _ _ _ (Z.length / 64) _ _
    rw [hz'.out, hmm'.out]; exact hb.kep kA
  · intro hm; have := ls _ hm; omega
  · intro hm; have := lb _ hm; omega
  · intro g hg hg'; have := ls g hg; have := hFb g hg'; omega
  · intro g hg
    simp only [List.nil_append, List.mem_cons, List.mem_append] at hg
    rcases hg with rfl | hg | hg
    · omega
    · have := hFs g hg; omega
    · have := hFb g hg; omega

set_option maxHeartbeats 1000000 in
theorem vnew_no (w : World) (x : Option Addr) (n cap : Nat) (E : List Ev) (hl : E.length = n) (hc : n ≤ cap) (hcm : (cap : Int) ≤ 9223372036854775807) (h : Lies w x (evs E)) (y : Option Addr) (m c : Nat) (Z : List Int) (hz : Z.length = m) (hmc : m ≤ c) (hmax : (c : Int) ≤ 9223372036854775807) (he : errI E Z ≠ 0) :
    Calls Try.prog 6 #[.slice x n cap, .slice y m c] w fun e w' => e = .returned (.tuple #[.pointer none, .int .i64 (errI E Z)]) ∧ Kep w w' := by
  by_cases h1 : 64 < n
  · have t1 : decide ((64 : Int) < n) = true := decide_eq_true (by omega)
    have ev : Hid (errI E Z = 3) := by unfold Hid errI; rw [if_pos (by omega)]
    rw [ev.out]
    clear h he
    go_enter Try.func6, Try.ntmps6
    go_wp2_with fail
    go_ret2
    exact ⟨rfl, Kep.refl _⟩
  have t1 : decide ((64 : Int) < n) = false := decide_eq_false (by omega)
  by_cases h2 : 2048 < m
  · have t2 : decide ((2048 : Int) < m) = true := decide_eq_true (by omega)
    have ev : Hid (errI E Z = 3) := by unfold Hid errI; rw [if_pos (by omega)]
    rw [ev.out]
    clear h he
    go_enter Try.func6, Try.ntmps6
    go_wp2_with fail
    go_ret2
    exact ⟨rfl, Kep.refl _⟩
  have t2 : decide ((2048 : Int) < m) = false := decide_eq_false (by omega)
  have ev : Hid (errI E Z = 2) := by
    unfold Hid
    rcases errI_cases E Z with h | h | h
    · exact absurd h he
    · exact h
    · unfold errI at h; rw [if_neg (by omega)] at h; split at h <;> cases h
  have HC : Hid (Calls Try.prog 23 #[.slice x n cap, .func (.func 24) #[] #[]] w fun e w' => e = .returned (.bool (E.any wrongB)) ∧ Kep w w') := contains_any w x n cap E hl (by omega) hc h
  have hor : E.any wrongB = true ∨ (E.any wrongB = false ∧ m % 64 ≠ 0) := by
    cases hb : E.any wrongB
    · refine .inr ⟨rfl, fun h0 => ?_⟩
      apply he
      unfold errI
      rw [if_neg (by omega), if_neg]
      rw [hb, hz, h0]; simp
    · exact .inl rfl
  rw [ev.out]
  clear h he ev
  rcases hor with hb | ⟨hb, h3⟩
  · rw [hb] at HC
    clear hb
    go_enter Try.func6, Try.ntmps6
    go_wp2_with (go_at_call 23; refine HC.out.mono ?_; rintro e w1 ⟨rfl, k1⟩; have K1 : Hid (Kep w w1) := k1; clear k1)
    go_ret2
    exact ⟨rfl, K1.out⟩
  · rw [hb] at HC
    have t3 : ((m : Int) % 64 != 0) = true := by simp; omega
    clear hb h3
    go_enter Try.func6, Try.ntmps6
    go_wp2_with (go_at_call 23; refine HC.out.mono ?_; rintro e w1 ⟨rfl, k1⟩; have K1 : Hid (Kep w w1) := k1; clear k1)
    go_ret2
    exact ⟨rfl, K1.out⟩
end Go.Proofs.Ytpieeefeicdfgab
