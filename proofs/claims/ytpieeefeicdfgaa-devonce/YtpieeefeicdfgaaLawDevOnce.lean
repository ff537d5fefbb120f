/- For every script and every row of looks, the law DevOnce returns true: each event comes once, in the script's order. -/
import Derived.Test.YtpieeefeicdfgaaRows
import Derived.Test.YtpieeefeicdfgaaVord
import Derived.Test.YtpieeefeicdfgaaVnone
import Derived.WalkKit
import Derived.ProofKit
import Derived.OpenShut
import Derived.ShutString
import Derived.ChangeOld
import Derived.Below
import Derived.Lib.SmallJoins
namespace Go.Proofs.Ytpieeefeicdfgaa.devOnce
open Go.ChangeShapes Go.WideShapes Go.ChangeAt Go.RowKit
set_option linter.unusedVariables false
set_option linter.unusedSimpArgs false

theorem own : ownKnob Try.prog.godebug = none := by kernel_rfl
theorem laidOut : laidOutB Try.prog = true := by kernel_rfl

/-- Devices whose next events are those behind the first N ones of a script. -/
def OnA (w : World) (p : Nat) (E : List Ev) (N : Nat) (wr : World) : Prop := ∃ s F, Dev wr p s F ∧ s.Ok ∧ s.E = E.drop N ∧ (∀ g ∈ F, w.heap.size ≤ g) ∧ Kep w wr
theorem OnA.kep {w wr w' : World} {p : Nat} {E : List Ev} {N : Nat} (h : OnA w p E N wr) (k : Kep wr w') : OnA w p E N w' := by
  obtain ⟨s, F, d, ok, e, f, K⟩ := h
  exact ⟨s, F, d.kep k, ok, e, f, kep_trans K k⟩
theorem OnA.come {w wr : World} {p : Nat} {E : List Ev} {N : Nat} (h : OnA w p E N wr) (hE : E.length ≤ 64) (a : Int) :
    Calls Try.prog 20 #[.pointer (some ⟨p, 0, none⟩), .int .i64 a, .pointer none] wr fun e W => ∃ (xc : Option Addr) (cc j : Nat) (vw : Value) , e = .returned (.tuple #[.slice xc j cc, vw]) ∧ (j : Int) ≤ cc ∧ (j : Int) ≤ 64 ∧ (N + j ≤ E.length ∨ j = 0) ∧ OnA w p E (N + j) W ∧ Lies W xc (evs (((E.drop N).take j).map (cameE a))) ∧ (∀ e ∈ (E.drop N).take j, e.1 ≤ a) ∧ ∀ e r, E.drop (N + j) = e :: r → a < e.1 := by
  obtain ⟨s, F, d, ok, e, f, K⟩ := h
  refine (come_nil wr p s F d ok (by rw [e]; simp; omega) a).mono ?_
  obtain ⟨j, j1, j2, j3, j4, j5⟩ := come_cut a [] _ ⟨s, [], [], []⟩ rfl
  simp only [e, List.nil_append] at j1 j2 j3 j4
  rintro e' W ⟨vc, vw, F', Gc, Gw, rfl, d', _, sc, _, k', f', _, _, ok', l', _⟩
  have hlc : (comeC a [] ⟨s, [], [], []⟩).c.length = j := by rw [j3]; simp at j1 ⊢; omega
  obtain ⟨xc, cc, rfl, hl, hcc, _⟩ := sc.lies
  rw [hlc] at hcc l' ⊢
  rw [j3] at hl
  refine ⟨xc, cc, j, vw, rfl, by omega, by omega, by simp at j1; omega, ⟨_, F', d', ok'.s, by rw [j2, List.drop_drop], ?_, K.put k' (fun g hg => by simp [rwL] at hg; exact f g hg)⟩, hl, j4, ?_⟩
  · intro g hg
    rcases f' g hg with h | h
    · exact f g h
    · have := K.size; omega
  · intro e1 r hr
    unfold dueB at j5
    rw [j2, List.drop_drop, hr] at j5
    simpa using j5
theorem OnA.next {w wr : World} {p : Nat} {E : List Ev} {N : Nat} (h : OnA w p E N wr) (hE : E.length ≤ 64) (a : Int) (h0 : 0 ≤ a) (h1 : a ≤ 9223372036854775807) (hd : ∀ e r, E.drop N = e :: r → a < e.1) :
    (E.drop N = [] → Calls Try.prog 25 #[.pointer (some ⟨p, 0, none⟩), .int .i64 a] wr fun e w' => e = .returned (.tuple #[.int .i64 0, .bool false]) ∧ w' = wr) ∧
    ∀ e r, E.drop N = e :: r → Calls Try.prog 25 #[.pointer (some ⟨p, 0, none⟩), .int .i64 a] wr fun e' w' => e' = .returned (.tuple #[.int .i64 (e.1 - a), .bool true]) ∧ w' = wr := by
  obtain ⟨s, F, d, ok, e, f, K⟩ := h
  have H := next_any d ok (by rw [e]; simp; omega) a ⟨by omega, h1⟩
  refine ⟨fun hn => ?_, fun e1 r hc => ?_⟩
  · have hv : nextV s a = #[.int .i64 0, .bool false] := by unfold nextV; rw [e, hn]
    rw [hv] at H; exact H
  · have := hd e1 r hc
    have hv : nextV s a = #[.int .i64 (e1.1 - a), .bool true] := by
      unfold nextV; rw [e, hc]
      simp only
      rw [show max (e1.1 - max a 0) 0 = e1.1 - a by omega]
    rw [hv] at H; exact H

set_option maxHeartbeats 8000000 in
set_option maxRecDepth 100000 in
theorem walk (x0 : Option Addr) (len0 cap0 : Nat) (z0 : List Ev) (x1 : Option Addr) (len1 cap1 : Nat) (z1 : List Int) (w : World) (w0 : EvRow w x0 len0 cap0 z0) (w1 : ISl .u16 w x1 len1 cap1 z1) :
    Calls Try.prog 6 #[.slice x0 len0 cap0, .slice x1 len1 cap1] w fun e w' => e = .returned (.bool true) ∧ Kep w w' := by
  have hM : Hid (∀ w, Calls Try.prog 11 #[] w fun e w' => e = .returned (.bool true) ∧ Kep w w') := works11_any
  by_cases he : errI z0 [] = 0
  · have HN : Hid (Calls Try.prog 9 #[.slice x0 len0 cap0, .slice none 0 0] w fun e w' => ∃ p F, e = .returned (.tuple #[.pointer (some ⟨p, 0, none⟩), .int .i64 0]) ∧ Dev w' p (ds0 z0 []) F ∧ Kep w w' ∧ ∀ g ∈ F, w.heap.size ≤ g) := vnew_ok w x0 len0 cap0 z0 w0.hl w0.hle w0.lies none 0 0 [] rfl (Nat.le_refl _) (by decide) (.inl rfl) he
    have okD : Hid (ds0 z0 []).Ok := ds0_ok he w0.byte byts_nil
    have hI : Hid (EvRow w x0 len0 cap0 z0) := w0
    have hE : Hid (z0.length ≤ 64 ∧ z0.any wrongB = false ∧ z0.length = len0) := ⟨(errI_ok he).1, (errI_ok he).2.2.1, w0.hl⟩
    have hlen0 : (len0 : Int) ≤ 64 := by have := hE.out; omega
    have hcap0 : (len0 : Int) ≤ cap0 := by have := w0.hle; omega
    have hmax0 := w0.hmax
    have hJ : Hid (ISl .u16 w x1 len1 cap1 z1) := w1
    obtain ⟨hz1, hcap1, hmax1, _⟩ := id w1
    have hcap1' : (len1 : Int) ≤ cap1 := by omega
    clear w0 w1 he hz1 hcap1
    go_enter Try.func6, Try.ntmps6
    go_wp2_with fail
    refine HN.out.mono ?_
    rintro e w2 ⟨p, F, rfl, d2, k2, f2⟩
    have A2 : Hid (OnA w p z0 0 w2) := ⟨_, F, d2, okD.out, rfl, f2, k2⟩
    clear d2 k2 f2 HN okD
    go_wp2_with fail
    go_loopw [7, 8, 9] (fun n at' i wr => ∃ (N k : Nat) (a : Int), n = .int .i64 N ∧ at' = .int .i64 a ∧ i = .int .i64 k ∧ 0 ≤ a ∧ a ≤ k * 65535 ∧ (k : Int) ≤ len1 ∧ (k : Int) ≤ 80 ∧ (N : Int) ≤ len0 ∧ Hid (OnA w p z0 N wr)) (fun _ _ i _ => 100 - (intOf i).toNat)
    case atStart => exact ⟨0, 0, 0, rfl, rfl, rfl, by omega, by omega, by omega, by omega, by omega, A2⟩
    case round =>
      obtain ⟨N, k, a, rfl, rfl, rfl, ha0, ha1, hk1, hk2, hN, A⟩ := hrel
      by_cases hend : (k : Int) < len1 ∧ (k : Int) < 80
      · obtain ⟨hlt, h80⟩ := hend
        obtain ⟨b1, off1, y, hx1, hc1, hy0, hy1⟩ : ∃ (b off : Nat) (y : Int), x1 = some ⟨b, off, none⟩ ∧ wr.cell? ⟨b, off + k, none⟩ = some (.int .u16 y) ∧ 0 ≤ y ∧ y < 65536 := by
          obtain ⟨q0, _, _, q1, q2⟩ := hJ.out
          rcases q1 with rfl | ⟨b, off, hx, hb, hc⟩
          · simp at q0; omega
          · obtain ⟨s, F, _, _, _, _, K⟩ := A.out
            have hkz : k < z1.length := by omega
            refine ⟨b, off, z1.getD k 0, hx, (K.cell hb).trans (hc k hkz), ?_⟩
            have q3 := q2 (z1.getD k 0) (by simp [List.getD, hkz])
            generalize z1.getD k 0 = y at q3 ⊢
            simp [Lit.wf, IntKind.min, IntKind.max, IntKind.signed, IntKind.bits] at q3
            omega
        subst hx1
        have hm : a + y < 9223372036854775807 := by omega
        go_wp2_with fail
        refine (A.out.come hE.out.1 (a + y)).mono ?_
        rintro e w3 ⟨xc, cc, j, vw, rfl, hjc, hj64, hNj, a3, lc, le, ld⟩
        have A3 : Hid (OnA w p z0 (N + j) w3) := a3
        have LC : Hid (Lies w3 xc (evs (((z0.drop N).take j).map (cameE (a + y))))) := lc
        have LE : Hid (∀ e ∈ (z0.drop N).take j, e.1 ≤ a + y) := le
        have LD : Hid (∀ e r, z0.drop (N + j) = e :: r → a + y < e.1) := ld
        have HNJ : Hid (N + j ≤ z0.length ∨ j = 0) := hNj
        have HZ : Hid (0 ≤ a + y ∧ a + y ≤ 9223372036854775807 ∧ a + y ≤ ((k + 1 : Nat) : Int) * 65535) := ⟨by omega, by omega, by omega⟩
        generalize a + y = a' at LC LE LD HZ ⊢
        clear a3 lc le ld hNj hm hc1 hJ hy0 hy1 A ha0 ha1
        go_wp2_with fail
        go_loopw [7, 12] (fun n i ws => ∃ t m : Nat, n = .int .i64 t ∧ i = .int .i64 m ∧ (m : Int) ≤ j ∧ (t : Int) ≤ len0 ∧ Hid (t = N + m) ∧ Hid (Kep w3 ws)) (fun _ i _ => 100 - (intOf i).toNat)
        case atStart => exact ⟨N, 0, rfl, rfl, by omega, hN, rfl, Kep.refl _⟩
        case round =>
          obtain ⟨t, m, rfl, rfl, hm, ht, hT, KS⟩ := hrel
          by_cases hlt2 : (m : Int) < j
          · have hz := hE.out
            have hj0 : N + j ≤ z0.length := HNJ.out.resolve_right (by omega)
            have htl : (t : Int) < len0 := by have := hT.out; omega
            have hd : decide ((len0 : Int) ≤ t) = false := decide_eq_false (by omega)
            have hd' : decide (len0 ≤ t) = false := decide_eq_false (by omega)
            obtain ⟨e, hev⟩ : ∃ e, z0[t]? = some e := ⟨_, List.getElem?_eq_getElem (by omega)⟩
            have hev1 : ((z0.drop N).take j)[m]? = some e := by rw [List.getElem?_take_of_lt (by omega), List.getElem?_drop, ← hT.out, hev]
            have hev2 : (((z0.drop N).take j).map (cameE a'))[m]? = some (cameE a' e) := by rw [List.getElem?_map, hev1]; rfl
            have hle := LE.out e (List.mem_of_getElem? hev1)
            obtain ⟨bc, oc, hxc, _, l0, l1, l2⟩ := (LC.out.kep KS.out).ev hev2
            obtain ⟨bs, os, hxs, _, s0, s1, s2⟩ := (hI.out.lies.kep (kep_trans (by obtain ⟨_, _, _, _, _, _, K⟩ := A3.out; exact K) KS.out)).ev hev
            simp only [cameE] at l0 l1 l2
            subst hxc hxs
            generalize e.1 = e1 at hle s0
            generalize e.2.1 = e2 at l1 s1
            generalize e.2.2 = e3 at l2 s2
            have hg : decide (a' < e1) = false := decide_eq_false (by omega)
            clear hev hev1 hev2 hz hj0
            go_wp2_with fail
            go_quiet (fail)
            go_wp2_with fail
            go_roundw
            case rel => exact ⟨t + 1, m + 1, by go_num, by go_num, by omega, by omega, by have := hT.out; unfold Hid; omega, KS.out.drewN _⟩
            case measure => simp [intOf]; omega
          · obtain rfl : m = j := by omega
            have A4 : Hid (OnA w p z0 t wr) := by have := A3.out.kep KS.out; rw [← hT.out] at this; exact this
            have LD' : Hid (∀ e r, z0.drop t = e :: r → a' < e.1) := by have := LD.out; rw [← hT.out] at this; exact this
            have HX := A4.out.next (by have := hE.out; omega) a' HZ.out.1 HZ.out.2.1 LD'.out
            have hz := hE.out
            clear LD LC LE A3 hT hlt2
            rcases hq : z0.drop t with _ | ⟨e, r⟩
            · have HX' : Hid (Calls Try.prog 25 #[.pointer (some ⟨p, 0, none⟩), .int .i64 a'] wr fun e w' => e = .returned (.tuple #[.int .i64 0, .bool false]) ∧ w' = wr) := HX.1 hq
              have htl : ¬ (t : Int) < len0 := by have := congrArg List.length hq; simp at this; omega
              have hd : decide ((t : Int) < len0) = false := decide_eq_false htl
              clear hq HX hz
              go_wp2_with fail
              refine HX'.out.mono ?_
              rintro e w4 ⟨rfl, rfl⟩
              clear HX'
              go_wp2_with fail
              go_roundw
              case rel => exact ⟨t, k + 1, a', rfl, rfl, by go_num, HZ.out.1, HZ.out.2.2, by omega, by omega, ht, A4⟩
              case measure => simp [intOf]; omega
            · have HX' : Hid (Calls Try.prog 25 #[.pointer (some ⟨p, 0, none⟩), .int .i64 a'] wr fun e' w' => e' = .returned (.tuple #[.int .i64 (e.1 - a'), .bool true]) ∧ w' = wr) := HX.2 e r hq
              have htl : (t : Int) < len0 := by have := congrArg List.length hq; simp at this; omega
              have hd : decide ((t : Int) < len0) = true := decide_eq_true htl
              have hev : z0[t]? = some e := by have := congrArg (fun l => l[0]?) hq; simpa using this
              have hle := LD'.out e r hq
              have hz0 := HZ.out
              obtain ⟨bs, os, hxs, _, s0, _, _⟩ := (hI.out.lies.kep (by obtain ⟨_, _, _, _, _, _, K⟩ := A4.out; exact K)).ev hev
              have hbig : e.1 ≤ 1073741824 := by
                have h3 := List.any_eq_false.1 hz.2.1 e (List.mem_of_getElem? hev)
                unfold wrongB at h3; simp at h3; omega
              subst hxs
              generalize e.1 = e1 at hle s0 HX' hbig
              clear hq HX hev hz
              go_wp2_with fail
              refine HX'.out.mono ?_
              rintro e w4 ⟨rfl, rfl⟩
              clear HX'
              go_wp2_with fail
              go_roundw
              case rel => exact ⟨t, k + 1, a', rfl, rfl, by go_num, HZ.out.1, HZ.out.2.2, by omega, by omega, ht, A4⟩
              case measure => simp [intOf]; omega
      · rcases (by omega : ¬ (k : Int) < len1 ∨ ((k : Int) < len1 ∧ ¬ (k : Int) < 80)) with hq | ⟨hq, hq'⟩
        all_goals
          clear hend
          go_wp2_with fail
          refine (A.out.come hE.out.1 1073741824).mono ?_
          rintro e w3 ⟨xc, cc, j, vw, rfl, hjc, hj64, hNj, a3, lc, le, ld⟩
          have hend : N + j = len0 := by
            have hz := hE.out
            rcases hd : z0.drop (N + j) with _ | ⟨e, r⟩
            · have := congrArg List.length hd; simp at this; omega
            · exfalso
              have h2 := ld e r hd
              have hm : e ∈ z0 := List.mem_of_mem_drop (by rw [hd]; simp)
              have h3 := List.any_eq_false.1 hz.2.1 e hm
              unfold wrongB at h3; simp at h3; omega
          have hq3 : ((N : Int) + (j : Int) == (len0 : Int)) = true := by simp; omega
          have K3 : Hid (Kep w w3) := by obtain ⟨_, _, _, _, _, _, K⟩ := a3; exact K
          clear a3 lc le ld hNj
          go_wp2_with (go_at_call 11; refine (hM.out _).mono ?_; rintro e w5 ⟨rfl, k5⟩; have K5 : Hid (Kep w3 w5) := k5; clear k5)
          go_ret
          exact ⟨rfl, kep_trans K3.out K5.out⟩
  · have HN : Hid (Calls Try.prog 9 #[.slice x0 len0 cap0, .slice none 0 0] w fun e w' => e = .returned (.tuple #[.pointer none, .int .i64 (errI z0 [])]) ∧ Kep w w') := vnew_no w x0 len0 cap0 z0 w0.hl w0.hle w0.hmax w0.lies none 0 0 [] rfl (Nat.le_refl _) (by decide) he
    have h23 : errI z0 [] = 2 ∨ errI z0 [] = 3 := (errI_cases z0 []).resolve_left he
    clear w0 w1 he
    rcases h23 with h | h
    all_goals
      rw [h] at HN
      clear h
      go_enter Try.func6, Try.ntmps6
      go_wp2_with fail
      refine HN.out.mono ?_
      rintro e w2 ⟨rfl, k2⟩
      have K2 : Hid (Kep w w2) := k2
      clear k2 HN
      go_wp2_with (go_at_call 11; refine (hM.out _).mono ?_; rintro e w5 ⟨rfl, k5⟩; have K5 : Hid _ := k5; clear k5)
      go_ret
      exact ⟨rfl, kep_trans K2.out K5.out⟩

set_option maxRecDepth 100000 in
theorem lifted (os : Os) (started : os.Started) (H : Type) (enc : TypeId × Value → H) :
    ReturnsInHanded {} Try.checked os 6 .any (Rows.devOnceSpec.pre6 enc Try.prog Try.f6 Rows.devOnceRow.domain false) (Rows.devOnceSpec.post enc Try.prog Try.f6 false true false false) := by
  refine returnsInHanded_of_change (C := Try.checked) own started (by kernel_rfl) Try.func6
    (ChangeSpec.witness6 (enc := enc) (C := Try.checked) false ⟨#[], #[.slice none 0 0, .slice none 0 0], []⟩ 8 (by kernel_rfl) (by kernel_rfl) (by kernel_rfl) (by kernel_rfl)) ?_
  intro W base args ds gs before hval0 hW hcnd _
  have hval : ∀ (j : Nat) t v, Try.f6.params[j]? = some t → args[j]? = some v → Value.okWide Try.prog W .any base t v := hval0
  have hW' := hW
  obtain ⟨p, q, hA0, hV, rfl, hfz, hnd⟩ := hW
  have hA : DataW.TrodAll enc Try.prog W 0 (fun _ => true) true Try.f6.params.toList args.toList ds p := hA0
  rw [Try.params6] at hA hval
  obtain ⟨v0, vs0, d0, ds0, p0, q0, hargs, rfl, rfl, h0, r0⟩ := trodAll_cons hA
  obtain ⟨v1, vs1, d1, ds1, p1, q1, rfl, rfl, rfl, h1, r1⟩ := trodAll_cons r0
  obtain ⟨rfl, rfl, rfl⟩ := trodAll_nil r1
  obtain rfl : args = #[v0, v1] := by cases args; simp_all
  obtain ⟨rfl, rfl⟩ := trodVars_none hV
  have k0 := h0
  have lt0 : ∀ x ∈ p0, x.block < W.heap.size := by obtain ⟨m, hm⟩ := k0; exact DataW.trod_lt m _ _ _ hm
  obtain ⟨x0, len0, cap0, rfl⟩ := okWide_slice Try.underlying22 (hval 0 22 v0 rfl rfl)
  obtain ⟨z0, w0⟩ : ∃ zs, EvRow W x0 len0 cap0 zs := by
    obtain ⟨fuel, hf⟩ := h0
    exact evs_of hf
  have k1 := h1
  have lt1 : ∀ x ∈ p1, x.block < W.heap.size := by obtain ⟨m, hm⟩ := k1; exact DataW.trod_lt m _ _ _ hm
  obtain ⟨x1, len1, cap1, z1, rfl, w1⟩ := open_isl Try.underlying71 Try.underlying72 (by kernel_rfl) (hval 1 71 v1 rfl rfl) h1
  clear hA0 hval0
  refine (walk x0 len0 cap0 z0 x1 len1 cap1 z1 W w0 w1).mono fun e W' ⟨he, bel0⟩ => ?_
  have bel : Below W.heap.size W W' := bel0
  subst he
  exact ⟨_, rfl, _, _, _, [], _, [], hW', trodAll_mk1 (shut_bool Try.underlying4 _), (trodAll_cons_mk (Below.trod laidOut (by kernel_rfl) (of_decide_eq_true (by kernel_rfl)) k0 bel lt0) (trodAll_cons_mk (Below.trod laidOut (by kernel_rfl) (of_decide_eq_true (by kernel_rfl)) k1 bel lt1) trodAll_mk0)), rfl, bel.frame _, fun h => by cases h⟩

theorem over : Rows.devOnceRow.holds Try.pinned (OpenSpec.ofChange Rows.devOnceSpec) :=
  OpenClaim.holds_of_wide 6 Try.f6 rfl rfl rfl rfl rfl rfl rfl ⟨rfl, rfl, rfl, rfl, rfl⟩ rfl rfl rfl rfl rfl (by kernel_rfl) Try.func6 (by kernel_rfl)
    (of_decide_eq_true (by kernel_rfl)) (by unfold Func.isWrapper; first | (rw [if_pos (by decide +kernel)]; kernel_rfl) | (rw [if_neg (by decide +kernel)]; exact ⟨rfl, rfl⟩))
    (fun os started H enc _ => lifted os started H enc)
end Go.Proofs.Ytpieeefeicdfgaa.devOnce
namespace Go.Proofs.Ytpieeefeicdfgaa

theorem devOnce_holds : Rows.DevOnceSaid := devOnce.over
#print axioms devOnce_holds
end Go.Proofs.Ytpieeefeicdfgaa
