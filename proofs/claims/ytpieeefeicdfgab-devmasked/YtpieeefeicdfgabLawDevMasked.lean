/- For every script and every mask, the law DevMasked returns true: what is masked is not asked for, and is waiting all the same. -/
import Derived.Test.YtpieeefeicdfgabRows
import Derived.Test.YtpieeefeicdfgabVopen
import Derived.Test.YtpieeefeicdfgabVworks
import Derived.Test.YtpieeefeicdfgabSkw
import Derived.WalkKit
import Derived.ProofKit
import Derived.OpenShut
import Derived.ShutString
import Derived.ChangeOld
import Derived.Below
import Derived.Lib.SmallJoins
namespace Go.Proofs.Ytpieeefeicdfgab.devMasked
open Go.ChangeShapes Go.WideShapes Go.ChangeAt Go.RowKit
set_option linter.unusedVariables false
set_option linter.unusedSimpArgs false

theorem own : ownKnob Try.prog.godebug = none := by kernel_rfl
theorem laidOut : laidOutB Try.prog = true := by kernel_rfl

theorem nxt_O (step : Int) (ix : List Nat) (x : CS) : (nxt step ix x).s.O = x.s.O := by
  unfold nxt
  split
  · rfl
  · exact evS_O _ _ _ _
theorem comeN_O (step : Int) (ix : List Nat) : ∀ (n : Nat) (x : CS), (comeN step ix n x).s.O = x.s.O
  | 0, x => rfl
  | n + 1, x => by
    unfold comeN
    split
    · rw [comeN_O step ix n, nxt_O]
    · rfl
theorem clr_mod (b v : Int) : clrI b v = clrI b (v % 8) := by
  unfold clrI
  rw [show v % 8 % 2 = v % 2 by omega, show v % 8 / 2 % 2 = v / 2 % 2 by omega, show v % 8 / 4 % 2 = v / 4 % 2 by omega]
/-- What is waiting behind a cause was taken. -/
def tookI (b c : Int) : Int := if c = 9 then clrI b 1 else if c = 10 then clrI b 2 else if c = 11 then clrI b 4 else b
theorem took_is (s : DS) (c : Int) : takenS s c = { s with b := tookI s.b c } := by
  unfold takenS tookI
  split; rfl; split; rfl; split; rfl; rfl
theorem wants8 {r : Int} (h : 0 ≤ r ∧ r ≤ 7) : (r = 0 ∧ wantsI 2 r = 0) ∨ (r = 1 ∧ wantsI 2 r = 9) ∨ (r = 2 ∧ wantsI 2 r = 10) ∨ (r = 3 ∧ wantsI 2 r = 9) ∨ (r = 4 ∧ wantsI 2 r = 11) ∨ (r = 5 ∧ wantsI 2 r = 9) ∨ (r = 6 ∧ wantsI 2 r = 10) ∨ (r = 7 ∧ wantsI 2 r = 9) := by
  rcases low8 h with rfl | rfl | rfl | rfl | rfl | rfl | rfl | rfl <;> decide
theorem and7_low {r : Int} (h : 0 ≤ r ∧ r ≤ 7) : bits .and .u32 r 7 = r := by rcases low8 h with rfl | rfl | rfl | rfl | rfl | rfl | rfl | rfl <;> rfl

set_option maxHeartbeats 8000000 in
set_option maxRecDepth 100000 in
theorem walk (x0 : Option Addr) (len0 cap0 : Nat) (z0 : List Ev) (a1 : Int) (w1 : (Lit.int .u32 a1).wf = true) (w : World) (w0 : EvRow w x0 len0 cap0 z0) :
    Calls Try.prog 3 #[.slice x0 len0 cap0, .int .u32 a1] w fun e w' => e = .returned (.bool true) ∧ Kep w w' := by
  have hM : Hid (∀ w, Calls Try.prog 7 #[] w fun e w' => e = .returned (.bool true) ∧ Kep w w') := works11_any
  have ha1 : 0 ≤ a1 ∧ a1 < 4294967296 := by simp [Lit.wf, IntKind.min, IntKind.max, IntKind.signed, IntKind.bits] at w1; omega
  by_cases he : errI z0 [] = 0
  · have HN : Hid (Calls Try.prog 6 #[.slice x0 len0 cap0, .slice none 0 0] w fun e w' => ∃ p F, e = .returned (.tuple #[.pointer (some ⟨p, 0, none⟩), .int .i64 0]) ∧ Dev w' p (ds0 z0 []) F ∧ Kep w w' ∧ ∀ g ∈ F, w.heap.size ≤ g) := vnew_ok w x0 len0 cap0 z0 w0.hl w0.hle w0.lies none 0 0 [] rfl (Nat.le_refl _) (by decide) (.inl rfl) he
    have okD : Hid (ds0 z0 []).Ok := ds0_ok he w0.byte byts_nil
    have hE : Hid (z0.length ≤ 64) := (errI_ok he).1
    clear w0 w1 he
    go_enter Try.func3, Try.ntmps3
    go_wp2_with fail
    refine HN.out.mono ?_
    rintro e w2 ⟨p, F, rfl, d2, k2, f2⟩
    have D2 : Hid (Dev w2 p (ds0 z0 []) F) := d2
    have K2 : Hid (Kep w w2) := k2
    have F2 : Hid (∀ g ∈ F, w.heap.size ≤ g) := f2
    clear d2 k2 f2 HN
    go_wp2_with fail
    refine (come_nil w2 p _ F D2.out okD.out hE.out 1073741824).mono ?_
    rintro e w3 ⟨vc, vw, F3, Gc, Gw, rfl, d3, _, _, _, k3, f3, _, _, ok3, _, _⟩
    obtain ⟨s, hs⟩ : ∃ s, s = (comeC 1073741824 [] ⟨ds0 z0 [], [], [], []⟩).s := ⟨_, rfl⟩
    have hO : s.O = [] := by rw [hs]; exact comeN_O _ _ _ _
    have hok := ok3.s
    rw [← hs] at d3 hok
    have D3 : Hid (Dev w3 p s F3) := d3
    have K3 : Hid (Kep w w3) := K2.out.put k3 (fun g hg => by simp [rwL] at hg; exact F2.out g hg)
    have F3' : Hid (∀ g ∈ F3, w.heap.size ≤ g) := fun g hg => by
      rcases f3 g hg with h | h
      · exact F2.out g h
      · have := K2.out.size; omega
    have OK3 : Hid s.Ok := hok
    have HI1 : Hid (Calls Try.prog 9 #[.pointer (some ⟨p, 0, none⟩), .int .i64 6] w3 fun e w' => e = .returned (.int .u32 s.b) ∧ w' = w3) := in_any d3 hok 6
    have HW1 : Hid (Calls Try.prog 10 #[.pointer (some ⟨p, 0, none⟩), .int .i64 5, .int .u32 a1] w3 fun e w' => e = .returned (.tuple #[]) ∧ ∃ F', Dev w' p { s with m := a1 % 8 } F' ∧ Put F3 w3 w' ∧ ∀ g ∈ F', g ∈ F3 ∨ w3.heap.size ≤ g) := write_dev d3 hok (by rw [hO]; decide) 5 a1 ha1
    have OK4 : Hid ({ s with m := a1 % 8 } : DS).Ok := ⟨hok.b, ⟨by show 0 ≤ a1 % 8; omega, by show a1 % 8 ≤ 7; omega⟩, hok.q, hok.qb, hok.d, hok.d6, hok.db, hok.n, hok.a, hok.f, hok.t, hok.cmd, hok.ev⟩
    obtain ⟨b, hb⟩ : ∃ b, b = s.b := ⟨_, rfl⟩
    have hb7 := hok.b
    rw [← hb] at HI1 hb7
    obtain ⟨mm, hmm⟩ : ∃ mm, mm = a1 % 8 := ⟨_, rfl⟩
    have h7 : bits .and .u32 a1 7 = mm := by rw [hmm]; exact and7_is a1 ha1
    have hAn : bits .andNot .u32 b a1 = clrI b mm := by rw [hmm, ← clr_mod]; exact andNot_is hb7 ha1
    have hr := clr_low (v := mm) hb7
    have hr7 := and7_low hr
    obtain ⟨r, hrr⟩ : ∃ r, r = clrI b mm := ⟨_, rfl⟩
    rw [← hrr] at hAn hr hr7
    obtain ⟨c, hc⟩ : ∃ c, c = wantsI 2 r := ⟨_, rfl⟩
    obtain ⟨tb, htb⟩ : ∃ tb, tb = tookI b c := ⟨_, rfl⟩
    have hB9 : c = 9 → bits .andNot .u32 b 1 = tb := fun h => by rw [htb, h]; exact andNot_is hb7 (by decide)
    have hB10 : c = 10 → bits .andNot .u32 b 2 = tb := fun h => by rw [htb, h]; exact andNot_is hb7 (by decide)
    have hB11 : c = 11 → bits .andNot .u32 b 4 = tb := fun h => by rw [htb, h]; exact andNot_is hb7 (by decide)
    have htb7 : Hid (0 ≤ tb ∧ tb ≤ 7) := by
      unfold Hid; rw [htb]; unfold tookI
      split; exact clr_low hb7; split; exact clr_low hb7; split; exact clr_low hb7; exact hb7
    have hbH : Hid (s.b = b) := hb.symm
    rw [← hmm] at HW1 OK4
    have hmmH : Hid (0 ≤ mm ∧ mm ≤ 7) := ⟨by omega, by omega⟩
    clear d3 k3 f3 ok3 hok D2 okD hb hmm hE
    clear hs hO
    go_wp2_with (first
      | (go_at_call 9; refine HI1.out.mono ?_; rintro e w4 ⟨rfl, rfl⟩))
    refine HW1.out.mono ?_
    rintro e w5 ⟨rfl, F5, d5, k5, f5⟩
    have D5 : Hid (Dev w5 p { s with m := mm } F5) := d5
    have K5 : Hid (Kep w w5) := K3.out.put k5 F3'.out
    have F5' : Hid (∀ g ∈ F5, w.heap.size ≤ g) := fun g hg => by
      rcases f5 g hg with h | h
      · exact F3'.out g h
      · have := K3.out.size; omega
    have HQ : Hid (Calls Try.prog 11 #[.pointer (some ⟨p, 0, none⟩), .int .u32 2] w5 fun e w'' => e = .returned (.int .i64 c) ∧ Kep w5 w'') := by
      have := vwants_any d5 OK4.out 2 (by decide)
      simp only [hbH.out] at this
      rw [← hrr, ← hc] at this; exact this
    have HI6 : Hid (∀ w', Kep w5 w' → Calls Try.prog 9 #[.pointer (some ⟨p, 0, none⟩), .int .i64 6] w' fun e w'' => e = .returned (.int .u32 b) ∧ w'' = w') := fun w' k => by
      have := in_any (d5.kep k) OK4.out 6
      rw [← hbH.out]; exact this
    have HI5 : Hid (∀ w', Kep w5 w' → Calls Try.prog 9 #[.pointer (some ⟨p, 0, none⟩), .int .i64 5] w' fun e w'' => e = .returned (.int .u32 mm) ∧ w'' = w') := fun w' k => in_any (d5.kep k) OK4.out 5
    have HT : Hid (∀ w', Kep w5 w' → Calls Try.prog 12 #[.pointer (some ⟨p, 0, none⟩), .int .i64 c] w' fun e w'' => e = .returned (.tuple #[]) ∧ Dev w'' p { s with m := mm, b := tb } F5 ∧ Kep w w'') := fun w' k => by
      refine (taken_dev (d5.kep k) OK4.out c).mono ?_
      rintro e w'' ⟨rfl, d, kk⟩
      rw [took_is] at d
      simp only [hbH.out] at d
      rw [← htb] at d
      exact ⟨rfl, d, (kep_trans K5.out k).put kk F5'.out⟩
    have OK7 : Hid ({ s with m := mm, b := tb } : DS).Ok := Ok.bits OK4.out htb7.out
    have h8 := wants8 hr
    rw [← hc] at h8
    clear d5 k5 f5 HW1 HI1 hrr hc htb hr
    rcases h8 with ⟨rfl, rfl⟩ | ⟨rfl, rfl⟩ | ⟨rfl, rfl⟩ | ⟨rfl, rfl⟩ | ⟨rfl, rfl⟩ | ⟨rfl, rfl⟩ | ⟨rfl, rfl⟩ | ⟨rfl, rfl⟩
    all_goals
      first | have hB := hB9 rfl | have hB := hB10 rfl | have hB := hB11 rfl | skip
      clear hB9 hB10 hB11
      go_wp2_with fail
      refine HQ.out.mono ?_
      rintro e w6 ⟨rfl, k6⟩
      have K6 : Hid (Kep w5 w6) := k6
      clear k6 HQ
      go_wp2_with (first
        | (go_at_call_of 9 (Value.int .i64 6); refine (HI6.out _ K6.out).mono ?_; rintro e w8 ⟨rfl, rfl⟩)
        | (go_at_call_of 9 (Value.int .i64 5); refine (HI5.out _ K6.out).mono ?_; rintro e w8 ⟨rfl, rfl⟩)
        | (go_at_call 12; refine (HT.out _ K6.out).mono ?_; rintro e w7 ⟨rfl, d7, k7⟩; have D7 : Hid (Dev w7 p { s with m := mm, b := tb } F5) := d7; have K7 : Hid (Kep w w7) := k7; clear d7 k7))
      have HQ0 : Hid (∀ w', Kep w7 w' → Calls Try.prog 11 #[.pointer (some ⟨p, 0, none⟩), .int .u32 0] w' fun e w'' => e = .returned (.int .i64 0) ∧ Kep w' w'') := fun w' k => vwants_any (D7.out.kep k) OK7.out 0 (by decide)
      have HI7 : Hid (∀ w', Kep w7 w' → Calls Try.prog 9 #[.pointer (some ⟨p, 0, none⟩), .int .i64 6] w' fun e w'' => e = .returned (.int .u32 tb) ∧ w'' = w') := fun w' k => in_any (D7.out.kep k) OK7.out 6
      have hne : Nonempty (KW w7) := ⟨⟨_, Kep.refl _⟩⟩
      refine region_kw (by kernel_rfl) (by kernel_rfl) ?_
      repeat (go_big_quiet_step (first
        | (go_at_call 11; refine (HQ0.out _ (KW.ok _)).mono ?_; rintro e w8 ⟨rfl, k8⟩; exact ⟨rfl, ⟨_, kep_trans (KW.ok _) k8⟩, rfl⟩)
        | (go_at_call 9; refine (HI7.out _ (KW.ok _)).mono ?_; rintro e w8 ⟨rfl, rfl⟩; exact ⟨rfl, _, rfl⟩)
        | (go_at_call 7; refine (hM.out _).mono ?_; rintro e w8 ⟨rfl, k8⟩; exact ⟨rfl, ⟨_, kep_trans (KW.ok _) k8⟩, rfl⟩)))
      refine wpQuiet_nil ?_
      rintro _ ⟨i, rfl⟩
      have G3 : Hid (Kep w i.val) := kep_trans K7.out i.ok
      go_wp2_with fail
      go_ret
      exact ⟨rfl, G3.out⟩
  · have HN : Hid (Calls Try.prog 6 #[.slice x0 len0 cap0, .slice none 0 0] w fun e w' => e = .returned (.tuple #[.pointer none, .int .i64 (errI z0 [])]) ∧ Kep w w') := vnew_no w x0 len0 cap0 z0 w0.hl w0.hle w0.hmax w0.lies none 0 0 [] rfl (Nat.le_refl _) (by decide) he
    have h23 : errI z0 [] = 2 ∨ errI z0 [] = 3 := (errI_cases z0 []).resolve_left he
    clear w0 w1 he
    rcases h23 with h | h
    all_goals
      rw [h] at HN
      clear h
      go_enter Try.func3, Try.ntmps3
      go_wp2_with fail
      refine HN.out.mono ?_
      rintro e w2 ⟨rfl, k2⟩
      have K2 : Hid (Kep w w2) := k2
      clear k2 HN
      go_wp2_with (go_at_call 7; refine (hM.out _).mono ?_; rintro e w5 ⟨rfl, k5⟩; have K5 : Hid _ := k5; clear k5)
      go_ret
      exact ⟨rfl, kep_trans K2.out K5.out⟩

set_option maxRecDepth 100000 in
theorem lifted (os : Os) (started : os.Started) (H : Type) (enc : TypeId × Value → H) :
    ReturnsInHanded {} Try.checked os 3 .any (Rows.devMaskedSpec.pre6 enc Try.prog Try.f3 Rows.devMaskedRow.domain false) (Rows.devMaskedSpec.post enc Try.prog Try.f3 false true false false) := by
  refine returnsInHanded_of_change (C := Try.checked) own started (by kernel_rfl) Try.func3
    (ChangeSpec.witness6 (enc := enc) (C := Try.checked) false ⟨#[], #[.slice none 0 0, .int .u32 0], []⟩ 8 (by kernel_rfl) (by kernel_rfl) (by kernel_rfl) (by kernel_rfl)) ?_
  intro W base args ds gs before hval0 hW hcnd _
  have hval : ∀ (j : Nat) t v, Try.f3.params[j]? = some t → args[j]? = some v → Value.okWide Try.prog W .any base t v := hval0
  have hW' := hW
  obtain ⟨p, q, hA0, hV, rfl, hfz, hnd⟩ := hW
  have hA : DataW.TrodAll enc Try.prog W 0 (fun _ => true) true Try.f3.params.toList args.toList ds p := hA0
  rw [Try.params3] at hA hval
  obtain ⟨v0, vs0, d0, ds0, p0, q0, hargs, rfl, rfl, h0, r0⟩ := trodAll_cons hA
  obtain ⟨v1, vs1, d1, ds1, p1, q1, rfl, rfl, rfl, h1, r1⟩ := trodAll_cons r0
  obtain ⟨rfl, rfl, rfl⟩ := trodAll_nil r1
  obtain rfl : args = #[v0, v1] := by cases args; simp_all
  obtain ⟨rfl, rfl⟩ := trodVars_none hV
  have k0 := h0
  have lt0 : ∀ x ∈ p0, x.block < W.heap.size := by obtain ⟨m, hm⟩ := k0; exact DataW.trod_lt m _ _ _ hm
  obtain ⟨x0, len0, cap0, rfl⟩ := okWide_slice Try.underlying22 (hval 0 22 v0 rfl rfl)
  obtain ⟨z0, w0⟩ : ∃ zs, EvRow W x0 len0 cap0 zs := by
    obtain ⟨fuel, hf⟩ := h0
    exact evs_of hf
  have k1 := h1
  have lt1 : ∀ x ∈ p1, x.block < W.heap.size := by obtain ⟨m, hm⟩ := k1; exact DataW.trod_lt m _ _ _ hm
  obtain ⟨a1, rfl, rfl, rfl, w1⟩ := open_int Try.underlying23 (hval 1 23 v1 rfl rfl) h1
  clear hA0 hval0
  refine (walk x0 len0 cap0 z0 a1 w1 W w0).mono fun e W' ⟨he, bel0⟩ => ?_
  have bel : Below W.heap.size W W' := bel0
  subst he
  exact ⟨_, rfl, _, _, _, [], _, [], hW', trodAll_mk1 (shut_bool Try.underlying4 _), (trodAll_cons_mk (Below.trod laidOut (by kernel_rfl) (of_decide_eq_true (by kernel_rfl)) k0 bel lt0) (trodAll_cons_mk (Below.trod laidOut (by kernel_rfl) (of_decide_eq_true (by kernel_rfl)) k1 bel lt1) trodAll_mk0)), rfl, bel.frame _, fun h => by cases h⟩

theorem over : Rows.devMaskedRow.holds Try.pinned (OpenSpec.ofChange Rows.devMaskedSpec) :=
  OpenClaim.holds_of_wide 3 Try.f3 rfl rfl rfl rfl rfl rfl rfl ⟨rfl, rfl, rfl, rfl, rfl⟩ rfl rfl rfl rfl rfl (by kernel_rfl) Try.func3 (by kernel_rfl)
    (of_decide_eq_true (by kernel_rfl)) (by unfold Func.isWrapper; first | (rw [if_pos (by decide +kernel)]; kernel_rfl) | (rw [if_neg (by decide +kernel)]; exact ⟨rfl, rfl⟩))
    (fun os started H enc _ => lifted os started H enc)
end Go.Proofs.Ytpieeefeicdfgab.devMasked
namespace Go.Proofs.Ytpieeefeicdfgab

theorem devMasked_holds : Rows.DevMaskedSaid := devMasked.over
#print axioms devMasked_holds
end Go.Proofs.Ytpieeefeicdfgab
