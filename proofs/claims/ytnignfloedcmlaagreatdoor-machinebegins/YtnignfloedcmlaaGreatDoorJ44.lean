/- Part of a proof. -/
import Derived.Great.Walk
import Derived.Test.YtnignfloedcmlaaGreatDoorJ43
namespace Go.Proofs.YtnignfloedcmlaaGreatDoor
open Go.RowKit
set_option linter.unusedVariables false
set_option linter.unusedSimpArgs false
theorem Goes.and {w w1 w2 : World} {p pm R : Nat} {ix : List Nat} {y : MS} {G G1 : List Nat} (p1 : Put (R :: G) w w1) (f1 : ∀ g ∈ G1, g ∈ G ∨ w.heap.size ≤ g) (k : Goes w1 p pm R ix G1 y w2) : Goes w p pm R ix G y w2 := by
  obtain ⟨G2, k1, k2, k3⟩ := k
  refine ⟨G2, k1, p1.onto k2 (fun g hg hlt => ?_), fun g hg => ?_⟩
  · rcases List.mem_cons.1 hg with rfl | hg
    · simp
    · rcases f1 g hg with h | h
      · simp [h]
      · omega
  · rcases k3 g hg with h | h
    · exact f1 g h
    · exact .inr (by have := p1.size; omega)
set_option maxHeartbeats 8000000 in
set_option maxRecDepth 100000 in
theorem mstep_any {w : World} {p pm R : Nat} {ix : List Nat} {x : MS} {G : List Nat} (H : Mach w p pm R ix x G) (ok : x.Ok) (rm : Room 1 x) (hT : Tabs w) :
    Calls Tryz.prog 31 #[.pointer (some ⟨p, 0, none⟩)] w fun e w' => e = .returned (.bool (!x.s.h)) ∧ Goes w p pm R ix G (stpX x ix) w' := by
  have HS := hidd H.stands
  have H' := hidd H
  unfold stpX
  cases hh : x.s.h with
  | true =>
    rw [hh] at HS
    rw [if_pos rfl]
    clear H ok rm hT
    go_enter Tryz.func31, Tryz.ntmps31
    go_wp2_with (go_at_call 42; refine HS.out.mono ?_; rintro e w1 ⟨rfl, rfl⟩)
    go_ret
    exact ⟨rfl, Goes.of_kep H'.out (Kep.refl _)⟩
  | false =>
    rw [hh] at HS
    rw [if_neg (by decide)]
    have HC := hidd (mcome_any H ok)
    have hb := H.mem.byts
    have hf := H.mem.fits
    have ok1 := com_ok ok hb hf
    have rm1 := com_room ok hb hf rm
    have hh1 : (comX x ix).s.h = false := hh
    have HT : Hid (∀ w' G', Mach w' p pm R ix (comX x ix) G' → Calls Tryz.prog 44 #[.pointer (some ⟨p, 0, none⟩)] w' fun e w'' => e = .returned (.bool (takB (comX x ix))) ∧ Goes w' p pm R ix G' (takX (comX x ix)) w'') := fun w' G' h => mtake_any h ok1 rm1
    have HO : Hid (∀ w' G', Mach w' p pm R ix (comX x ix) G' → Tabs w' → Calls Tryz.prog 45 #[.pointer (some ⟨p, 0, none⟩)] w' fun e w'' => (∃ v, e = .returned v) ∧ Goes w' p pm R ix G' (oneX (comX x ix) ix) w'') := fun w' G' h t => by
      refine (mone_any h ok1 rm1 t).mono ?_
      rintro e w'' ⟨rfl, g⟩
      exact ⟨⟨_, rfl⟩, g⟩
    have hT' := hidd hT
    by_cases h0 : tkI (comX x ix) = 0
    · have e1 : takB (comX x ix) = false := by unfold takB; rw [h0]; simp
      have e2 : takX (comX x ix) = comX x ix := by unfold takX; rw [if_neg (by rw [hh1]; decide), if_pos h0]
      rw [e1, e2] at HT
      rw [if_pos h0]
      clear H ok rm hT hb hf ok1 rm1 h0 e1 e2
      go_enter Tryz.func31, Tryz.ntmps31
      go_wp2_with fail
      refine HS.out.mono ?_
      rintro e w0 ⟨rfl, rfl⟩
      go_wp2_with fail
      refine HC.out.mono ?_
      rintro e w1 ⟨vc, vw, Gc, Gw, rfl, _, _, g1⟩
      obtain ⟨G1, m1, p1, f1⟩ := g1
      have HT1 := hidd (HT.out w1 G1 m1)
      have P1 := hidd p1
      have F1 := hidd f1
      have T1 := hidd (hT'.out.put p1 H'.out.lo)
      have L1 := hidd m1.lo
      clear m1 p1 f1
      go_wp2_with fail
      refine HT1.out.mono ?_
      rintro e w2 ⟨rfl, g2⟩
      obtain ⟨G2, m2, p2, f2⟩ := g2
      have HO2 := hidd (HO.out w2 G2 m2 (T1.out.put p2 L1.out))
      have P2 := hidd p2
      have F2 := hidd f2
      clear m2 p2 f2
      go_wp2_with fail
      refine HO2.out.mono ?_
      rintro e w3 ⟨⟨v, rfl⟩, g3⟩
      have Z := hidd (Goes.and P1.out F1.out (Goes.and P2.out F2.out g3))
      clear g3
      go_wp2_with fail
      go_ret
      exact ⟨rfl, Z.out⟩
    · have e1 : takB (comX x ix) = true := by unfold takB; rw [hh1]; simp [h0]
      rw [e1] at HT
      rw [if_neg h0]
      clear H ok rm hT hb hf ok1 rm1 h0 e1 HO
      go_enter Tryz.func31, Tryz.ntmps31
      go_wp2_with fail
      refine HS.out.mono ?_
      rintro e w0 ⟨rfl, rfl⟩
      go_wp2_with fail
      refine HC.out.mono ?_
      rintro e w1 ⟨vc, vw, Gc, Gw, rfl, _, _, g1⟩
      obtain ⟨G1, m1, p1, f1⟩ := g1
      have HT1 := hidd (HT.out w1 G1 m1)
      have P1 := hidd p1
      have F1 := hidd f1
      clear m1 p1 f1
      go_wp2_with fail
      refine HT1.out.mono ?_
      rintro e w2 ⟨rfl, g2⟩
      have Z := hidd (Goes.and P1.out F1.out g2)
      clear g2
      go_wp2_with fail
      go_ret
      exact ⟨rfl, Z.out⟩
def RunI (w : World) (p pm R : Nat) (ix : List Nat) (x : MS) (G : List Nat) (k : Nat) (wr : World) : Prop :=
  Goes w p pm R ix G (runX ix k x) wr ∧ runN ix k x = k
theorem run_ok {ix : List Nat} : ∀ (k : Nat) {x : MS} {m : Nat}, x.Ok → Byts x.B → Fits x.B ix → Room (m + k) x → (runX ix k x).Ok ∧ Byts (runX ix k x).B ∧ Fits (runX ix k x).B ix ∧ Room m (runX ix k x)
  | 0, x, m, ok, hb, hf, rm => ⟨ok, hb, hf, rm⟩
  | k + 1, x, m, ok, hb, hf, rm => by
    obtain ⟨c1, c2⟩ := com_byts ok hb hf
    have rm' : Room ((m + k) + 1) x := rm
    have l : (stpX x ix).B.length = x.B.length ∧ Byts (stpX x ix).B := by
      have lc : (comX x ix).B.length = x.B.length := (comeN_inv x.n ix x.d.E.length ⟨x.d, x.B, [], []⟩ ⟨ok.d, hb, hf⟩).2.2.1
      unfold stpX
      split
      · exact ⟨rfl, hb⟩
      split
      · unfold oneX
        split
        · exact ⟨lc, c1⟩
        · refine ⟨(end_len _ _ _).trans lc, ?_⟩
          generalize oneF (comX x ix) ix = f
          cases f with
          | fail k a => exact c1
          | ok t q at_ rd wr port value =>
            show Byts (finB (comX x ix) ix q at_)
            unfold finB; split
            · exact wrM_byts (soiM_byts c1 _ _ _) _ _ _ _
            · exact c1
      · unfold takX
        split
        · exact ⟨lc, c1⟩
        · exact ⟨lc, c1⟩
    exact run_ok k (stp_ok ok hb hf c1) l.2 (hf.len l.1) (stp_room ok hb hf c1 rm')
set_option maxHeartbeats 8000000 in
set_option maxRecDepth 100000 in
theorem mrun_any {w : World} {p pm R : Nat} {ix : List Nat} {x : MS} {G : List Nat} (H : Mach w p pm R ix x G) (ok : x.Ok) (hT : Tabs w) (n : Nat) (hn : n ≤ 4096) (rm : Room n x) :
    Calls Tryz.prog 14 #[.pointer (some ⟨p, 0, none⟩), .int .i64 n] w fun e w' => e = .returned (.int .i64 (runN ix n x)) ∧ Goes w p pm R ix G (runX ix n x) w' := by
  have H' := hidd H
  have hb := H.mem.byts
  have hf := H.mem.fits
  have HS : Hid (∀ (k : Nat) w', k < n → RunI w p pm R ix x G k w' → Calls Tryz.prog 31 #[.pointer (some ⟨p, 0, none⟩)] w' fun e w'' => e = .returned (.bool (!(runX ix k x).s.h)) ∧ Goes w p pm R ix G (runX ix (k + 1) x) w'') := fun k w' hk I => by
    obtain ⟨⟨G1, m1, p1, f1⟩, _⟩ := I
    obtain ⟨o1, _, _, r1⟩ := run_ok (ix := ix) k (m := 1) ok hb hf (rm.less (by omega))
    refine (mstep_any m1 o1 r1 (hT.put p1 H.lo)).mono ?_
    rintro e w'' ⟨rfl, g⟩
    rw [runX_succ]
    exact ⟨rfl, Goes.and p1 f1 g⟩
  have hn' : (n : Int) ≤ 4096 := by omega
  have hmin : min (n : Int) 4096 = n := by omega
  clear H ok hT rm hb hf hn
  go_enter Tryz.func14, Tryz.ntmps14
  go_wp2_with fail
  go_loopw [6] (fun i wr => ∃ k : Nat, (k : Int) ≤ n ∧ i = .int .i64 k ∧ Hid (RunI w p pm R ix x G k wr)) (fun i _ => 5000 - (intOf i).toNat)
  case atStart => exact ⟨0, by omega, rfl, Goes.of_kep H'.out (Kep.refl _), rfl⟩
  case round =>
    obtain ⟨k, hk, rfl, I⟩ := hrel
    by_cases hlt : (k : Int) < n
    · have hlt' : decide (k < n) = true := decide_eq_true (by omega)
      have HSk := hidd (HS.out k wr (by omega) I.out)
      cases hh : (runX ix k x).s.h with
      | true =>
        rw [hh] at HSk
        have E := hidd (runN_stop ix k n x I.out.2 hh (by omega))
        have E2 : Hid (runX ix (k + 1) x = runX ix k x) := by rw [Hid, runX_succ, stp_halt hh]
        clear HS hh
        go_wp2_with (go_at_call 31; refine HSk.out.mono ?_; rintro e w2 ⟨rfl, g2⟩; have Z := hidd g2; clear g2)
        go_ret
        refine ⟨ret_int (by rw [E.out.1]), ?_⟩
        rw [E.out.2, ← E2.out]; exact Z.out
      | false =>
        rw [hh] at HSk
        have E := hidd (runN_go ix k x I.out.2 hh)
        clear HS hh
        go_wp2_with (go_at_call 31; refine HSk.out.mono ?_; rintro e w2 ⟨rfl, g2⟩; have Z := hidd g2; clear g2)
        go_roundw
        case rel => exact ⟨k + 1, by omega, by go_num, Z.out, E.out⟩
        case measure => simp [intOf]; omega
    · obtain rfl : n = k := by omega
      have hlt' : decide (n < n) = false := decide_eq_false (by omega)
      clear HS
      go_wp2_with fail
      go_ret
      exact ⟨ret_int (by rw [I.out.2]), I.out.1⟩
def errI (E : List Ev) (Z : List Int) : Int := if 64 < E.length ∨ 2048 < Z.length then 3 else if E.any wrongB = true ∨ Z.length % 64 ≠ 0 then 2 else 0
theorem errI_ok {E : List Ev} {Z : List Int} (h : errI E Z = 0) : E.length ≤ 64 ∧ Z.length ≤ 2048 ∧ E.any wrongB = false ∧ Z.length % 64 = 0 := by
  unfold errI at h
  split at h
  · cases h
  · split at h
    · cases h
    · rename_i h1 h2
      simp only [not_or, Bool.not_eq_true] at h1 h2
      exact ⟨by omega, by omega, h2.1, by omega⟩
theorem errI_cases (E : List Ev) (Z : List Int) : errI E Z = 0 ∨ errI E Z = 2 ∨ errI E Z = 3 := by
  unfold errI; split; exact .inr (.inr rfl); split; exact .inr (.inl rfl); exact .inl rfl
def ds0 (E : List Ev) (Z : List Int) : DS := ⟨E, 0, 0, [], [], Z, 0, 0, 0, 0, 0, 0⟩
theorem owns_form {w : World} {base : Nat} {e : TypeId} {z : Nat} {v : Value} {n : Nat} {xs : List Value} (h : w.ownsRow base e z v n xs) : ∃ x c, v = .slice x n c := by
  rcases h.2 with ⟨rfl, rfl⟩ | ⟨g, cap, cur, rfl, _⟩
  · exact ⟨_, _, rfl⟩
  · exact ⟨_, _, rfl⟩
set_option maxHeartbeats 1000000 in
theorem vnew_ok (w : World) (x : Option Addr) (n cap : Nat) (E : List Ev) (hl : E.length = n) (hc : n ≤ cap) (h : Lies w x (evs E)) (y : Option Addr) (m c : Nat) (Z : List Int) (hz : Z.length = m) (hmc : m ≤ c) (hmax : (c : Int) ≤ 9223372036854775807) (hy : Lies w y (byt Z)) (he : errI E Z = 0) :
    Calls Tryz.prog 30 #[.slice x n cap, .slice y m c] w fun e w' => ∃ p F, e = .returned (.tuple #[.pointer (some ⟨p, 0, none⟩), .int .i64 0]) ∧ Dev w' p (ds0 E Z) F ∧ Kep w w' ∧ ∀ g ∈ F, w.heap.size ≤ g := by
  obtain ⟨e1, e2, e3, e4⟩ := errI_ok he
  have HC : Hid (Calls Tryz.prog 38 #[.slice x n cap, .func (.func 39) #[] #[]] w fun e w' => e = .returned (.bool false) ∧ Kep w w') := by
    have := contains_any w x n cap E hl (by omega) hc h
    rw [e3] at this; exact this
  have HE : Hid (∀ w', Kep w w' → Calls Tryz.prog 40 #[.slice x n cap] w' fun e w'' => ∃ v, e = .returned v ∧ w''.ownsRow w'.heap.size 74 3 v n (evs E) ∧ Kep w' w'') := fun w' k => clone_ev w' x n cap (evs E) (by rw [evs_len, hl]) (h.kep k) (evs_ones E) (by omega)
  have HD : Hid (∀ w', Kep w w' → Calls Tryz.prog 41 #[.slice y m c] w' fun e w'' => ∃ v, e = .returned v ∧ w''.ownsRow w'.heap.size 108 64 v (m / 64) (byt Z) ∧ Kep w' w'') := fun w' k => vcut_any w' y m c (m / 64) Z hz (by omega) (by omega) (by omega) hmax (hy.kep k)
  have t1 : decide ((64 : Int) < n) = false := decide_eq_false (by omega)
  have t2 : decide ((2048 : Int) < m) = false := decide_eq_false (by omega)
  have t3 : ((m : Int) % 64 != 0) = false := by simp; omega
  have hl' : Hid (E.length = n) := hl
  have hz' : Hid (Z.length = m) := hz
  clear h hy he e1 e2 e3 e4 hl hz hc hmc
  go_enter Tryz.func30, Tryz.ntmps30
  go_wp2_with (go_at_call 38; refine HC.out.mono ?_; rintro e w1 ⟨rfl, k1⟩; have K1 : Hid (Kep w w1) := k1; clear k1)
  refine (HE.out _ K1.out).mono ?_
  rintro e w2 ⟨v, rfl, hv, k2⟩
  obtain ⟨x1, c1, rfl⟩ := owns_form hv
  have hv' : Hid (w2.ownsRow w1.heap.size 74 3 (.slice x1 n c1) n (evs E)) := hv
  have K2 : Hid (Kep w1 w2) := k2
  clear hv k2
  go_wp2_with fail
  refine (HD.out _ (kep_trans K1.out K2.out)).mono ?_
  rintro e w3 ⟨vb, rfl, hb, k3⟩
  obtain ⟨x2, c2, rfl⟩ := owns_form hb
  have hb' : Hid (w3.ownsRow w2.heap.size 108 64 (.slice x2 (m / 64) c2) (m / 64) (byt Z)) := hb
  have K3 : Hid (Kep w2 w3) := k3
  clear hb k3
  generalize hmm : m / 64 = mm at hb'
  have hmm' : Hid (m / 64 = mm) := hmm
  clear hmm
  go_wp2_with fail
  go_ret2
  obtain ⟨Fs, hs, hFs⟩ := Sli.of_owns hv'.out
  obtain ⟨Fb, hb, hFb⟩ := Sli.of_owns hb'.out
  have ls := hs.lt
  have lb := hb.lt
  have i1 := K1.out.size
  have i2 := K2.out.size
  have i3 := K3.out.size
  have kA : Kep w3 (w3.alloc (.cells (devC (ds0 E Z) (.slice x1 n c1) (.slice none 0 0) (.slice none 0 0) (.slice x2 mm c2)) 95)) := (Kep.refl w3).alloc _
  refine ⟨w3.heap.size, w3.heap.size :: (Fs ++ ([] ++ ([] ++ Fb))), rfl, ⟨.slice x1 n c1, .slice none 0 0, .slice none 0 0, .slice x2 mm c2, Fs, [], [], Fb, ⟨hat _ _ _ rfl, ?_, Sli.nil _ _ _, Sli.nil _ _ _, ?_, ?_, by simp, by simp, ?_, by simp, by simp, ?_, by simp, by simp, by simp⟩, rfl⟩, kep_trans K1.out (kep_trans K2.out (kep_trans K3.out kA)), ?_⟩
  · show Sli _ _ _ _ E.length _ _
    rw [hl'.out]; exact hs.kep (kep_trans K3.out kA)
  · show Sli _ _ _ _ (Z.length / 64) _ _
    rw [hz'.out, hmm'.out]; exact hb.kep kA
  · intro hm; have := ls _ hm; omega
  · intro hm; have := lb _ hm; omega
  · intro g hg hg'; have := ls g hg; have := hFb g hg'; omega
  · intro g hg
    simp only [List.nil_append, List.mem_cons, List.mem_append] at hg
    rcases hg with rfl | hg | hg
    · omega
    · have := hFs g hg; omega
    · have := hFb g hg; omega
set_option maxHeartbeats 1000000 in
theorem vnew_no (w : World) (x : Option Addr) (n cap : Nat) (E : List Ev) (hl : E.length = n) (hc : n ≤ cap) (hcm : (cap : Int) ≤ 9223372036854775807) (h : Lies w x (evs E)) (y : Option Addr) (m c : Nat) (Z : List Int) (hz : Z.length = m) (hmc : m ≤ c) (hmax : (c : Int) ≤ 9223372036854775807) (he : errI E Z ≠ 0) :
    Calls Tryz.prog 30 #[.slice x n cap, .slice y m c] w fun e w' => e = .returned (.tuple #[.pointer none, .int .i64 (errI E Z)]) ∧ Kep w w' := by
  by_cases h1 : 64 < n
  · have t1 : decide ((64 : Int) < n) = true := decide_eq_true (by omega)
    have ev : Hid (errI E Z = 3) := by unfold Hid errI; rw [if_pos (by omega)]
    rw [ev.out]
    clear h he
    go_enter Tryz.func30, Tryz.ntmps30
    go_wp2_with fail
    go_ret2
    exact ⟨rfl, Kep.refl _⟩
  have t1 : decide ((64 : Int) < n) = false := decide_eq_false (by omega)
  by_cases h2 : 2048 < m
  · have t2 : decide ((2048 : Int) < m) = true := decide_eq_true (by omega)
    have ev : Hid (errI E Z = 3) := by unfold Hid errI; rw [if_pos (by omega)]
    rw [ev.out]
    clear h he
    go_enter Tryz.func30, Tryz.ntmps30
    go_wp2_with fail
    go_ret2
    exact ⟨rfl, Kep.refl _⟩
  have t2 : decide ((2048 : Int) < m) = false := decide_eq_false (by omega)
  have ev : Hid (errI E Z = 2) := by
    unfold Hid
    rcases errI_cases E Z with h | h | h
    · exact absurd h he
    · exact h
    · unfold errI at h; rw [if_neg (by omega)] at h; split at h <;> cases h
  have HC : Hid (Calls Tryz.prog 38 #[.slice x n cap, .func (.func 39) #[] #[]] w fun e w' => e = .returned (.bool (E.any wrongB)) ∧ Kep w w') := contains_any w x n cap E hl (by omega) hc h
  have hor : E.any wrongB = true ∨ (E.any wrongB = false ∧ m % 64 ≠ 0) := by
    cases hb : E.any wrongB
    · refine .inr ⟨rfl, fun h0 => ?_⟩
      apply he
      unfold errI
      rw [if_neg (by omega), if_neg]
      rw [hb, hz, h0]; simp
    · exact .inl rfl
  rw [ev.out]
  clear h he ev
  rcases hor with hb | ⟨hb, h3⟩
  · rw [hb] at HC
    clear hb
    go_enter Tryz.func30, Tryz.ntmps30
    go_wp2_with (go_at_call 38; refine HC.out.mono ?_; rintro e w1 ⟨rfl, k1⟩; have K1 : Hid (Kep w w1) := k1; clear k1)
    go_ret2
    exact ⟨rfl, K1.out⟩
  · rw [hb] at HC
    have t3 : ((m : Int) % 64 != 0) = true := by simp; omega
    clear hb h3
    go_enter Tryz.func30, Tryz.ntmps30
    go_wp2_with (go_at_call 38; refine HC.out.mono ?_; rintro e w1 ⟨rfl, k1⟩; have K1 : Hid (Kep w w1) := k1; clear k1)
    go_ret2
    exact ⟨rfl, K1.out⟩
theorem out_nat (x : Nat) (hx : x < 4294967296) : x &&& 4294967048 = x / 256 * 256 + x / 8 % 2 * 8 := by
  have h1 : (x &&& 4294967048) >>> 8 = x / 256 := by
    rw [Nat.shiftRight_and_distrib, Nat.shiftRight_eq_div_pow, show 4294967048 >>> 8 = 2 ^ 24 - 1 by decide, Nat.and_two_pow_sub_one_eq_mod]
    exact Nat.mod_eq_of_lt (by omega)
  have h4 : ∀ y, y < 256 → y &&& 8 = y / 8 % 2 * 8 := by decide +kernel
  have h2 : (x &&& 4294967048) % 256 = x / 8 % 2 * 8 := by
    rw [show 256 = 2 ^ 8 by rfl, Nat.and_mod_two_pow, show 4294967048 % 2 ^ 8 = 8 by decide, h4 _ (Nat.mod_lt _ (by decide))]
    omega
  rw [Nat.shiftRight_eq_div_pow] at h1
  have h3 := Nat.div_add_mod (x &&& 4294967048) 256
  omega
def psB (ps : Int) : Bool := decide (ps / 8 % 2 = 0 ∧ ps < 256)
theorem ps_is (ps : Int) (h : 0 ≤ ps ∧ ps < 4294967296) : (bits .andNot .u32 ps 247 == 0) = psB ps := by
  obtain ⟨n, rfl⟩ : ∃ n : Nat, ps = n := ⟨ps.toNat, by omega⟩
  rw [show (247 : Int) = ((247 : Nat) : Int) from rfl, u32_andNot_nat n 247 (by omega) (by decide), show 4294967295 - 247 = 4294967048 from rfl, out_nat n (by omega)]
  unfold psB
  rw [Bool.eq_iff_iff]
  simp only [beq_iff_eq, decide_eq_true_eq]
  omega
set_option maxHeartbeats 1000000 in
theorem mayBe_any (s : Sta) (ok : s.Ok) (w : World) : Calls Tryz.prog 29 #[.agg s.v] w fun e w' => e = .returned (.bool (psB s.ps)) ∧ Kep w w' := by
  have hp := ps_is s.ps ok.ps
  have A := hidd (show At (w.alloc (.cells s.v 26)) w.heap.size s from hat _ _ _ rfl)
  have c := A.out.ps
  obtain ⟨V, hV⟩ : ∃ V, Hid (s.v = V) := ⟨_, rfl⟩
  rw [hV.out] at c ⊢
  generalize psB s.ps = pb at hp ⊢
  generalize s.ps = ps at hp c
  clear A ok hV
  go_enter Tryz.func29, Tryz.ntmps29
  go_wp2
  go_ret
  exact ⟨rfl, kepA⟩
theorem mayHave_any (n : Int) (w : World) : Calls Tryz.prog 9 #[.int .i64 n] w fun e w' => e = .returned (.bool (decide (1 ≤ n) && decide (n ≤ 64))) ∧ w' = w := by
  rcases (by omega : n < 1 ∨ 1 ≤ n) with h | h
  · go_enter Tryz.func9, Tryz.ntmps9
    go_wp2
    go_ret
    exact ⟨ret_bool (by simp; omega), rfl⟩
  · go_enter Tryz.func9, Tryz.ntmps9
    go_wp2
    go_ret
    exact ⟨ret_bool (by simp [h]), rfl⟩
structure ScrD (w : World) (x : Option Addr) (n cap : Nat) (E : List Ev) (y : Option Addr) (m c : Nat) (Z : List Int) : Prop where
  el : E.length = n
  ec : n ≤ cap
  em : (cap : Int) ≤ 9223372036854775807
  ei : Lies w x (evs E)
  zl : Z.length = m
  zc : m ≤ c
  zm : (c : Int) ≤ 9223372036854775807
  zi : Lies w y (byt Z)
theorem ScrD.kep {w w' : World} {x : Option Addr} {n cap : Nat} {E : List Ev} {y : Option Addr} {m c : Nat} {Z : List Int} (h : ScrD w x n cap E y m c Z) (k : Kep w w') : ScrD w' x n cap E y m c Z := ⟨h.el, h.ec, h.em, h.ei.kep k, h.zl, h.zc, h.zm, h.zi.kep k⟩
def ms0 (E : List Ev) (Z B : List Int) (s : Sta) : MS := ⟨ds0 E Z, B, s, 0, []⟩
set_option maxHeartbeats 8000000 in
set_option maxRecDepth 100000 in
theorem over_ok {w : World} {pm R : Nat} {ix : List Nat} {B : List Int} (M : Mem w (mpt pm) R ix B) (hB : B ≠ []) (hix : ix ≠ []) (hR : 2 ≤ R) (s : Sta) (ok : s.Ok) (hp : psB s.ps = true) {x : Option Addr} {n cap : Nat} {E : List Ev} {y : Option Addr} {m c : Nat} {Z : List Int} (I : ScrD w x n cap E y m c Z) (he : errI E Z = 0) (h2 : 2 ≤ w.heap.size) :
    Calls Tryz.prog 12 #[.pointer (some ⟨pm, 0, none⟩), .agg s.v, .slice x n cap, .slice y m c] w fun e w' => ∃ p G, e = .returned (.tuple #[.pointer (some ⟨p, 0, none⟩), .int .i64 0]) ∧ Mach w' p pm R ix (ms0 E Z B s) G ∧ Kep w w' ∧ ∀ g ∈ G, w.heap.size ≤ g := by
  have HZ : Hid (∀ w', Kep w w' → Calls Tryz.prog 22 #[.pointer (some ⟨pm, 0, none⟩)] w' fun e w'' => e = .returned (.int .u32 (64 * ix.length)) ∧ w'' = w') := fun w' k => msize_any w' (mpt pm) R ix (M.kep k).ram M.max
  have HB : Hid (∀ w', Calls Tryz.prog 29 #[.agg s.v] w' fun e w'' => e = .returned (.bool true) ∧ Kep w' w'') := fun w' => by have := mayBe_any s ok w'; rw [hp] at this; exact this
  have HN : Hid (∀ w', Kep w w' → Calls Tryz.prog 30 #[.slice x n cap, .slice y m c] w' fun e w'' => ∃ p F, e = .returned (.tuple #[.pointer (some ⟨p, 0, none⟩), .int .i64 0]) ∧ Dev w'' p (ds0 E Z) F ∧ Kep w' w'' ∧ ∀ g ∈ F, w'.heap.size ≤ g) := fun w' k => by
    have J := I.kep k
    exact vnew_ok w' x n cap E J.el J.ec J.ei y m c Z J.zl J.zc J.zm J.zi he
  have hl : 1 ≤ ix.length := by rcases ix with _ | ⟨a, r⟩; exact absurd rfl hix; simp
  have t0 : ((64 * (ix.length : Int)) == 0) = false := by simp; omega
  have M' := hidd M
  have hBh := hidd hB
  have hRh := hidd hR
  have h2h := hidd h2
  obtain ⟨lz, hlz⟩ : ∃ lz : Int, Hid (64 * (ix.length : Int) = lz) := ⟨_, rfl⟩
  rw [hlz.out] at HZ t0
  obtain ⟨W, hW⟩ : ∃ W, Hid (w.alloc (.cells s.v 26) = W) := ⟨_, rfl⟩
  have KW : Hid (Kep w W) := by rw [Hid, ← hW.out]; exact (Kep.refl w).alloc _
  have SW : Hid (W.heap[w.heap.size]? = some (.cells s.v 26 (0, 0))) := by rw [Hid, ← hW.out]; exact hat _ _ _ rfl
  clear M hB hix hR ok hp I he h2 hl
  go_enter Tryz.func12, Tryz.ntmps12
  go_upto_region 1 with fail
  rw [hW.out]
  go_wp2_with (first
    | (go_at_call 22; refine (HZ.out _ KW.out).mono ?_; rintro e w1 ⟨rfl, rfl⟩)
    | (refine wpList_load_row (by rfl) 26 _ (by rfl) w.heap.size (by rfl) 26 _ (0, 0) _ SW.out Tryz.underlying26 rfl (by exact size_sta) ?_)
    | (go_at_call 29; refine (HB.out _).mono ?_; rintro e w2 ⟨rfl, k2⟩))
  have K2 := hidd (kep_trans KW.out k2)
  have S2 := hidd (k2.block SW.out)
  clear k2
  refine (HN.out w2 K2.out).mono ?_
  rintro e w3 ⟨q, F, rfl, d3, k3, f3⟩
  have D3 := hidd d3
  have K3 := hidd (kep_trans K2.out k3)
  have S3 := hidd (k3.block S2.out)
  have F3 : Hid (∀ g ∈ F, w.heap.size ≤ g) := fun g hg => by have := f3 g hg; have := K2.out.size; omega
  clear d3 k3 f3
  go_upto_region 8 with fail
  refine wp_region_lit ?_
  refine Go.Great.wpList_readTo (by rfl) (some 27) (by rfl) (.pointer (some ⟨pm, 0, none⟩)) (by kernel_rfl) ?_
  refine Go.Great.wpList_readTo (by rfl) (some 28) (by rfl) (.pointer (some ⟨q, 0, none⟩)) (by kernel_rfl) ?_
  refine wpList_load_row (by rfl) 26 _ (by rfl) w.heap.size (by rfl) 26 _ (0, 0) _ S3.out Tryz.underlying26 rfl (by exact size_sta) ?_
  refine Go.Great.wpList_readTo (by rfl) (some 30) (by rfl) (.agg (mchV (.pointer (some ⟨pm, 0, none⟩)) (.pointer (some ⟨q, 0, none⟩)) s 0 (.slice none 0 0))) (by kernel_rfl) ?_
  refine Go.Great.wpList_runTo (by rfl) (some 31) (by rfl) (.pointer (some ⟨w3.heap.size, 0, none⟩)) (w3.alloc (.cells (mchV (.pointer (some ⟨pm, 0, none⟩)) (.pointer (some ⟨q, 0, none⟩)) s 0 (.slice none 0 0)) 72)) (by kernel_rfl) ?_
  dsimp only [Act.put]
  have K4 := hidd (K3.out.alloc (.cells (mchV (.pointer (some ⟨pm, 0, none⟩)) (.pointer (some ⟨q, 0, none⟩)) s 0 (.slice none 0 0)) 72))
  have k4 := hidd ((Kep.refl w3).alloc (.cells (mchV (.pointer (some ⟨pm, 0, none⟩)) (.pointer (some ⟨q, 0, none⟩)) s 0 (.slice none 0 0)) 72))
  have B4 := hidd (hat w3 (.cells (mchV (.pointer (some ⟨pm, 0, none⟩)) (.pointer (some ⟨q, 0, none⟩)) s 0 (.slice none 0 0)) 72) w3.heap.size rfl)
  generalize w3.alloc (.cells (mchV (.pointer (some ⟨pm, 0, none⟩)) (.pointer (some ⟨q, 0, none⟩)) s 0 (.slice none 0 0)) 72) = w4 at K4 k4 B4 ⊢
  go_wp2_with fail
  go_ret2
  have z3 := K3.out.size
  have lR := M'.out.row.lt hBh.out
  have low : ∀ g ∈ w3.heap.size :: (F ++ []), w.heap.size ≤ g := fun g hg => by
    simp only [List.append_nil, List.mem_cons] at hg
    rcases hg with rfl | hg
    · exact z3
    · exact F3.out g hg
  refine ⟨w3.heap.size, w3.heap.size :: (F ++ []), rfl, ⟨q, .slice none 0 0, F, [], ⟨B4.out, D3.out.kep k4.out, Sli.nil _ _ _, M'.out.kep K4.out, ⟨?_, fun hm => ?_⟩, fun hm => ?_, by simp, by simp, fun g hg => ?_⟩, rfl⟩, K4.out, low⟩
  · exact Off.stay (m := []) M'.out.ram (M'.out.ram.low low) (Put.of_kep K4.out) (fun p e => ⟨by simp, by simp⟩)
  · have := low R hm; omega
  · have := D3.out.lt _ hm; omega
  · rcases List.mem_cons.1 hg with rfl | hg
    · exact hRh.out
    · have := low g hg; have := h2h.out; omega
set_option maxHeartbeats 8000000 in
set_option maxRecDepth 100000 in
theorem over_ps {w : World} {pm R : Nat} {ix : List Nat} {B : List Int} (M : Mem w (mpt pm) R ix B) (hix : ix ≠ []) (s : Sta) (ok : s.Ok) (hp : psB s.ps = false) (x : Option Addr) (n cap : Nat) (y : Option Addr) (m c : Nat) :
    Calls Tryz.prog 12 #[.pointer (some ⟨pm, 0, none⟩), .agg s.v, .slice x n cap, .slice y m c] w fun e w' => e = .returned (.tuple #[.pointer none, .int .i64 2]) ∧ Kep w w' := by
  have HZ : Hid (∀ w', Kep w w' → Calls Tryz.prog 22 #[.pointer (some ⟨pm, 0, none⟩)] w' fun e w'' => e = .returned (.int .u32 (64 * ix.length)) ∧ w'' = w') := fun w' k => msize_any w' (mpt pm) R ix (M.kep k).ram M.max
  have HB : Hid (∀ w', Calls Tryz.prog 29 #[.agg s.v] w' fun e w'' => e = .returned (.bool false) ∧ Kep w' w'') := fun w' => by have := mayBe_any s ok w'; rw [hp] at this; exact this
  have hl : 1 ≤ ix.length := by rcases ix with _ | ⟨a, r⟩; exact absurd rfl hix; simp
  have t0 : ((64 * (ix.length : Int)) == 0) = false := by simp; omega
  obtain ⟨lz, hlz⟩ : ∃ lz : Int, Hid (64 * (ix.length : Int) = lz) := ⟨_, rfl⟩
  rw [hlz.out] at HZ t0
  obtain ⟨W, hW⟩ : ∃ W, Hid (w.alloc (.cells s.v 26) = W) := ⟨_, rfl⟩
  have KW : Hid (Kep w W) := by rw [Hid, ← hW.out]; exact (Kep.refl w).alloc _
  have SW : Hid (W.heap[w.heap.size]? = some (.cells s.v 26 (0, 0))) := by rw [Hid, ← hW.out]; exact hat _ _ _ rfl
  clear M hix ok hp hl
  go_enter Tryz.func12, Tryz.ntmps12
  go_upto_region 1 with fail
  rw [hW.out]
  go_wp2_with (first
    | (go_at_call 22; refine (HZ.out _ KW.out).mono ?_; rintro e w1 ⟨rfl, rfl⟩)
    | (refine wpList_load_row (by rfl) 26 _ (by rfl) w.heap.size (by rfl) 26 _ (0, 0) _ SW.out Tryz.underlying26 rfl (by exact size_sta) ?_)
    | (go_at_call 29; refine (HB.out _).mono ?_; rintro e w2 ⟨rfl, k2⟩))
  go_ret2
  exact ⟨rfl, kep_trans KW.out k2⟩
set_option maxHeartbeats 8000000 in
set_option maxRecDepth 100000 in
theorem over_dev {w : World} {pm R : Nat} {ix : List Nat} {B : List Int} (M : Mem w (mpt pm) R ix B) (hix : ix ≠ []) (s : Sta) (ok : s.Ok) (hp : psB s.ps = true) {x : Option Addr} {n cap : Nat} {E : List Ev} {y : Option Addr} {m c : Nat} {Z : List Int} (I : ScrD w x n cap E y m c Z) (he : errI E Z ≠ 0) :
    Calls Tryz.prog 12 #[.pointer (some ⟨pm, 0, none⟩), .agg s.v, .slice x n cap, .slice y m c] w fun e w' => e = .returned (.tuple #[.pointer none, .int .i64 (errI E Z)]) ∧ Kep w w' := by
  have HZ : Hid (∀ w', Kep w w' → Calls Tryz.prog 22 #[.pointer (some ⟨pm, 0, none⟩)] w' fun e w'' => e = .returned (.int .u32 (64 * ix.length)) ∧ w'' = w') := fun w' k => msize_any w' (mpt pm) R ix (M.kep k).ram M.max
  have HB : Hid (∀ w', Calls Tryz.prog 29 #[.agg s.v] w' fun e w'' => e = .returned (.bool true) ∧ Kep w' w'') := fun w' => by have := mayBe_any s ok w'; rw [hp] at this; exact this
  have HN : Hid (∀ w', Kep w w' → Calls Tryz.prog 30 #[.slice x n cap, .slice y m c] w' fun e w'' => e = .returned (.tuple #[.pointer none, .int .i64 (errI E Z)]) ∧ Kep w' w'') := fun w' k => by
    have J := I.kep k
    exact vnew_no w' x n cap E J.el J.ec J.em J.ei y m c Z J.zl J.zc J.zm he
  have hl : 1 ≤ ix.length := by rcases ix with _ | ⟨a, r⟩; exact absurd rfl hix; simp
  have t0 : ((64 * (ix.length : Int)) == 0) = false := by simp; omega
  have te : (errI E Z == 0) = false := by simp [he]
  obtain ⟨lz, hlz⟩ : ∃ lz : Int, Hid (64 * (ix.length : Int) = lz) := ⟨_, rfl⟩
  rw [hlz.out] at HZ t0
  generalize errI E Z = er at HN te ⊢
  obtain ⟨W, hW⟩ : ∃ W, Hid (w.alloc (.cells s.v 26) = W) := ⟨_, rfl⟩
  have KW : Hid (Kep w W) := by rw [Hid, ← hW.out]; exact (Kep.refl w).alloc _
  have SW : Hid (W.heap[w.heap.size]? = some (.cells s.v 26 (0, 0))) := by rw [Hid, ← hW.out]; exact hat _ _ _ rfl
  clear M hix ok hp hl I he
  go_enter Tryz.func12, Tryz.ntmps12
  go_upto_region 1 with fail
  rw [hW.out]
  go_wp2_with (first
    | (go_at_call 22; refine (HZ.out _ KW.out).mono ?_; rintro e w1 ⟨rfl, rfl⟩)
    | (refine wpList_load_row (by rfl) 26 _ (by rfl) w.heap.size (by rfl) 26 _ (0, 0) _ SW.out Tryz.underlying26 rfl (by exact size_sta) ?_)
    | (go_at_call 29; refine (HB.out _).mono ?_; rintro e w2 ⟨rfl, k2⟩))
  refine (HN.out w2 (kep_trans KW.out k2)).mono ?_
  rintro e w3 ⟨rfl, k3⟩
  have K3 := hidd (kep_trans (kep_trans KW.out k2) k3)
  clear k2 k3
  go_wp2_with fail
  go_ret2
  exact ⟨rfl, K3.out⟩
end Go.Proofs.YtnignfloedcmlaaGreatDoor
