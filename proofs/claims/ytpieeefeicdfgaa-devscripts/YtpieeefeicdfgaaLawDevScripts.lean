/- For every script and every row of bytes, the law DevScripts returns true: they make devices with that disk, or are refused for the document's reason. -/
import Derived.Test.YtpieeefeicdfgaaRows
import Derived.Test.YtpieeefeicdfgaaVerr
import Derived.Test.YtpieeefeicdfgaaSkw
import Derived.WalkKit
import Derived.ProofKit
import Derived.OpenShut
import Derived.ShutString
import Derived.ChangeOld
import Derived.Below
import Derived.Lib.SmallJoins
namespace Go.Proofs.Ytpieeefeicdfgaa.devScripts
open Go.ChangeShapes Go.WideShapes Go.ChangeAt Go.RowKit
set_option linter.unusedVariables false
set_option linter.unusedSimpArgs false

theorem own : ownKnob Try.prog.godebug = none := by kernel_rfl
theorem laidOut : laidOutB Try.prog = true := by kernel_rfl

set_option maxHeartbeats 8000000 in
set_option maxRecDepth 100000 in
theorem walk (x0 : Option Addr) (len0 cap0 : Nat) (z0 : List Ev) (x1 : Option Addr) (len1 cap1 : Nat) (z1 : List Int) (w : World) (w0 : EvRow w x0 len0 cap0 z0) (w1 : BSl w x1 len1 cap1 z1) :
    Calls Try.prog 4 #[.slice x0 len0 cap0, .slice x1 len1 cap1] w fun e w' => e = .returned (.bool true) ∧ Kep w w' := by
  obtain ⟨hz, hzc, hzm, _, hzb⟩ := id w1
  have hst : Str w (.slice x1 len1 cap1) (strL z1) := by
    rw [← hz]
    rcases w1.2.2.2.1 with h0 | ⟨b, off, e, hb, _, hc⟩
    · rw [h0]
      cases x1 with
      | none => exact fun w' _ => rfl
      | some a =>
        intro w' _
        show Sem.run Try.prog (convert 23 9 (.slice (some a) 0 cap1)) w' = _
        rw [run_convert_bytes_string w' 23 9 5 _ _ cap1 Try.underlying23 Try.underlying5 Try.underlying9]
        exact run_bytesToString w' a _ cap1 [] (run_loadCells_list (P := Try.prog) w' a [] (by simp))
    · exact (BSl.lies w1).str (fun e' => by rw [e] at e'; cases e') (fun a e' => by rw [e] at e'; cases e'; rfl)
  have hS : Hid (Str w (.slice x1 len1 cap1) (strL z1)) := hst
  have HE : Hid (∀ w', Kep w w' → Calls Try.prog 10 #[.slice x0 len0 cap0, .slice x1 len1 cap1] w' fun e w'' => e = .returned (.int .i64 (errI z0 z1)) ∧ Kep w' w'') := fun w' k => error_any w' x0 len0 cap0 z0 (w0.kep k) x1 len1 cap1 z1 hz hzc hzm
  have hM : Hid (∀ w, Calls Try.prog 11 #[] w fun e w' => e = .returned (.bool true) ∧ Kep w w') := works11_any
  by_cases he : errI z0 z1 = 0
  · have HN : Hid (Calls Try.prog 9 #[.slice x0 len0 cap0, .slice x1 len1 cap1] w fun e w' => ∃ p F, e = .returned (.tuple #[.pointer (some ⟨p, 0, none⟩), .int .i64 0]) ∧ Dev w' p (ds0 z0 z1) F ∧ Kep w w' ∧ ∀ g ∈ F, w.heap.size ≤ g) := vnew_ok w x0 len0 cap0 z0 w0.hl w0.hle w0.lies x1 len1 cap1 z1 hz hzc hzm (BSl.lies w1) he
    have okD : Hid (ds0 z0 z1).Ok := ds0_ok he w0.byte hzb
    rw [he] at HE
    clear w0 w1 hst hz hzc hzm hzb he
    go_enter Try.func4, Try.ntmps4
    go_wp2_with fail
    refine HN.out.mono ?_
    rintro e w2 ⟨p, F, rfl, d2, k2, f2⟩
    have D2 : Hid (Dev w2 p (ds0 z0 z1) F) := d2
    have K2 : Hid (Kep w w2) := k2
    clear d2 k2 f2 HN
    have KD : Hid (Kep w w2.drew) := K2.out.drew
    have y0 := hS.out _ KD.out
    go_wp2_with fail
    go_region_held (fun w' => Sem.run Try.prog (convert 23 9 (.slice x1 len1 cap1)) w' = .ok (.string (strL z1)) w') (assumption) (first
      | (go_at_call 10; refine (HE.out _ KD.out).mono ?_; rintro e w3 ⟨rfl, k3⟩; have K3 : Hid (Kep w2.drew w3) := k3; have KA3 : Hid (Kep w w3) := kep_trans KD.out k3; have y3 := hS.out _ KA3.out; clear k3)
      | (go_at_call 18; refine (disk_any (D2.out.kep (kep_trans ((Kep.refl w2).drew) K3.out)) okD.out).mono ?_; rintro e w4 ⟨u, rfl, ⟨G, s4, g4⟩, k4⟩; have K4 : Hid (Kep w3 w4) := k4; have KA4 : Hid (Kep w w4) := kep_trans KA3.out k4; have y4 := hS.out _ KA4.out; have S4 : Hid (Str w4 u (strL z1)) := s4.str; have v4 := S4.out w4 (Kep.refl _); clear k4 s4 g4)
      | (go_at_call 11; refine (hM.out _).mono ?_; rintro e w5 ⟨rfl, k5⟩; have K5 : Hid (Kep w4 w5) := k5; have KA5 : Hid (Kep w w5) := kep_trans KA4.out k5; have y5 := hS.out _ KA5.out; have v5 := S4.out w5 k5; clear k5))
    all_goals
      go_wp2_with fail
      go_ret
      exact ⟨rfl, KA5.out⟩
  · have HN : Hid (Calls Try.prog 9 #[.slice x0 len0 cap0, .slice x1 len1 cap1] w fun e w' => e = .returned (.tuple #[.pointer none, .int .i64 (errI z0 z1)]) ∧ Kep w w') := vnew_no w x0 len0 cap0 z0 w0.hl w0.hle w0.hmax w0.lies x1 len1 cap1 z1 hz hzc hzm he
    have h23 : errI z0 z1 = 2 ∨ errI z0 z1 = 3 := (errI_cases z0 z1).resolve_left he
    clear w0 w1 hst hz hzc hzm hzb he hS
    rcases h23 with h | h
    all_goals
      rw [h] at HE HN
      clear h
      go_enter Try.func4, Try.ntmps4
      go_wp2_with fail
      refine HN.out.mono ?_
      rintro e w2 ⟨rfl, k2⟩
      have K2 : Hid (Kep w w2) := k2
      have hne : Nonempty (KW w2) := ⟨⟨_, Kep.refl _⟩⟩
      clear k2 HN
      go_wp2_with fail
      refine region_kw (by kernel_rfl) (by kernel_rfl) ?_
      repeat (go_big_quiet_step (first
        | (go_at_call 10; refine (HE.out _ (kep_trans K2.out (KW.ok _))).mono ?_; rintro e w3 ⟨rfl, k3⟩; exact ⟨rfl, ⟨_, kep_trans (KW.ok _) k3⟩, rfl⟩)
        | (go_at_call 11; refine (hM.out _).mono ?_; rintro e w5 ⟨rfl, k5⟩; exact ⟨rfl, ⟨_, kep_trans (KW.ok _) k5⟩, rfl⟩)))
      refine wpQuiet_nil ?_
      rintro _ ⟨i, rfl⟩
      have G3 : Hid (Kep w i.val) := kep_trans K2.out i.ok
      go_wp2_with fail
      go_ret
      exact ⟨rfl, G3.out⟩

set_option maxRecDepth 100000 in
theorem lifted (os : Os) (started : os.Started) (H : Type) (enc : TypeId × Value → H) :
    ReturnsInHanded {} Try.checked os 4 .any (Rows.devScriptsSpec.pre6 enc Try.prog Try.f4 Rows.devScriptsRow.domain false) (Rows.devScriptsSpec.post enc Try.prog Try.f4 false true false false) := by
  refine returnsInHanded_of_change (C := Try.checked) own started (by kernel_rfl) Try.func4
    (ChangeSpec.witness6 (enc := enc) (C := Try.checked) false ⟨#[], #[.slice none 0 0, .slice none 0 0], []⟩ 8 (by kernel_rfl) (by kernel_rfl) (by kernel_rfl) (by kernel_rfl)) ?_
  intro W base args ds gs before hval0 hW hcnd _
  have hval : ∀ (j : Nat) t v, Try.f4.params[j]? = some t → args[j]? = some v → Value.okWide Try.prog W .any base t v := hval0
  have hW' := hW
  obtain ⟨p, q, hA0, hV, rfl, hfz, hnd⟩ := hW
  have hA : DataW.TrodAll enc Try.prog W 0 (fun _ => true) true Try.f4.params.toList args.toList ds p := hA0
  rw [Try.params4] at hA hval
  obtain ⟨v0, vs0, d0, ds0, p0, q0, hargs, rfl, rfl, h0, r0⟩ := trodAll_cons hA
  obtain ⟨v1, vs1, d1, ds1, p1, q1, rfl, rfl, rfl, h1, r1⟩ := trodAll_cons r0
  obtain ⟨rfl, rfl, rfl⟩ := trodAll_nil r1
  obtain rfl : args = #[v0, v1] := by cases args; simp_all
  obtain ⟨rfl, rfl⟩ := trodVars_none hV
  have k0 := h0
  have lt0 : ∀ x ∈ p0, x.block < W.heap.size := by obtain ⟨m, hm⟩ := k0; exact DataW.trod_lt m _ _ _ hm
  obtain ⟨x0, len0, cap0, rfl⟩ := okWide_slice Try.underlying22 (hval 0 22 v0 rfl rfl)
  obtain ⟨z0, w0⟩ : ∃ zs, EvRow W x0 len0 cap0 zs := by
    obtain ⟨fuel, hf⟩ := h0
    exact evs_of hf
  have k1 := h1
  have lt1 : ∀ x ∈ p1, x.block < W.heap.size := by obtain ⟨m, hm⟩ := k1; exact DataW.trod_lt m _ _ _ hm
  obtain ⟨x1, len1, cap1, z1, rfl, w1⟩ := open_bsl (hval 1 23 v1 rfl rfl) h1
  clear hA0 hval0
  refine (walk x0 len0 cap0 z0 x1 len1 cap1 z1 W w0 w1).mono fun e W' ⟨he, bel0⟩ => ?_
  have bel : Below W.heap.size W W' := bel0
  subst he
  exact ⟨_, rfl, _, _, _, [], _, [], hW', trodAll_mk1 (shut_bool Try.underlying4 _), (trodAll_cons_mk (Below.trod laidOut (by kernel_rfl) (of_decide_eq_true (by kernel_rfl)) k0 bel lt0) (trodAll_cons_mk (Below.trod laidOut (by kernel_rfl) (of_decide_eq_true (by kernel_rfl)) k1 bel lt1) trodAll_mk0)), rfl, bel.frame _, fun h => by cases h⟩

theorem over : Rows.devScriptsRow.holds Try.pinned (OpenSpec.ofChange Rows.devScriptsSpec) :=
  OpenClaim.holds_of_wide 4 Try.f4 rfl rfl rfl rfl rfl rfl rfl ⟨rfl, rfl, rfl, rfl, rfl⟩ rfl rfl rfl rfl rfl (by kernel_rfl) Try.func4 (by kernel_rfl)
    (of_decide_eq_true (by kernel_rfl)) (by unfold Func.isWrapper; first | (rw [if_pos (by decide +kernel)]; kernel_rfl) | (rw [if_neg (by decide +kernel)]; exact ⟨rfl, rfl⟩))
    (fun os started H enc _ => lifted os started H enc)
end Go.Proofs.Ytpieeefeicdfgaa.devScripts
namespace Go.Proofs.Ytpieeefeicdfgaa

theorem devScripts_holds : Rows.DevScriptsSaid := devScripts.over
#print axioms devScripts_holds
end Go.Proofs.Ytpieeefeicdfgaa
