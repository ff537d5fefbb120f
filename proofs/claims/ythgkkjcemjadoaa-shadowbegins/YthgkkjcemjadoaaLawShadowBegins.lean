/- For every number, place and Other, the law ShadowBegins returns true: any memory, place and pool make a shadow that leads nowhere, or are refused. -/
import Derived.Test.YthgkkjcemjadoaaRows
import Derived.Test.YthgkkjcemjadoaaSdworks
import Derived.Test.YthgkkjcemjadoaaSdpages
import Derived.WalkKit
import Derived.ProofKit
import Derived.OpenShut
import Derived.ShutString
import Derived.ChangeOld
import Derived.Below
import Derived.Lib.SmallJoins
namespace Go.Proofs.Ythgkkjcemjadoaa.shadowBegins
open Go.ChangeShapes Go.WideShapes Go.ChangeAt Go.RowKit
set_option linter.unusedVariables false
set_option linter.unusedSimpArgs false

theorem own : ownKnob Try.prog.godebug = none := by kernel_rfl
theorem laidOut : laidOutB Try.prog = true := by kernel_rfl

set_option maxHeartbeats 4000000 in
set_option maxRecDepth 100000 in
theorem walk (a0 : Int) (w0 : (Lit.int .u8 a0).wf = true) (a1 : Int) (w1 : (Lit.int .i64 a1).wf = true) (a2f0 : Int) (w2f0 : (Lit.int .u8 a2f0).wf = true) (a2f1 : Int) (w2f1 : (Lit.int .u32 a2f1).wf = true) (w : World)  :
    Calls Try.prog 6 #[.int .u8 a0, .int .i64 a1, .agg #[.int .u8 a2f0, .int .u32 a2f1]] w fun e w' => e = .returned (.bool true) ∧ Kep w w' := by
  have HW : Hid (∀ w, Calls Try.prog 18 #[] w fun e w' => e = .returned (.bool true) ∧ Kep w w') := works16_any
  have b0 : 0 ≤ a0 ∧ a0 < 256 := by simp [Lit.wf, IntKind.min, IntKind.max, IntKind.signed, IntKind.bits] at w0; omega
  have b1 : -9223372036854775808 ≤ a1 ∧ a1 ≤ 9223372036854775807 := by simp [Lit.wf, IntKind.min, IntKind.max, IntKind.signed, IntKind.bits] at w1; omega
  have b2 : 0 ≤ a2f0 ∧ a2f0 < 256 := by simp [Lit.wf, IntKind.min, IntKind.max, IntKind.signed, IntKind.bits] at w2f0; omega
  have b3 : 0 ≤ a2f1 ∧ a2f1 < 4294967296 := by simp [Lit.wf, IntKind.min, IntKind.max, IntKind.signed, IntKind.bits] at w2f1; omega
  clear w0 w1 w2f0 w2f1
  obtain ⟨fr, rfl⟩ : ∃ fr : Nat, a0 = fr := ⟨a0.toNat, by omega⟩
  obtain ⟨no, rfl⟩ : ∃ no : Nat, a2f0 = no := ⟨a2f0.toNat, by omega⟩
  obtain ⟨va, rfl⟩ : ∃ va : Nat, a2f1 = va := ⟨a2f1.toNat, by omega⟩
  obtain ⟨m, hm, hmm⟩ : ∃ m : Nat, (m : Int) < 20 ∧ (fr : Int) % 20 = m := ⟨fr % 20, by omega, by omega⟩
  have HN : Hid (∀ w, Calls Try.prog 22 #[.int .i64 (1 + (m : Int))] w fun e w' => ∃ p : Nat, e = .returned (.tuple #[.pointer (some ⟨p, 0, none⟩), .int .i64 0]) ∧ Own w w' (.pointer (some ⟨p, 0, none⟩)) w.heap.size (1 + m) (List.replicate (64 * (1 + m)) 0)) := fun w => new_any w (1 + m) (by omega) (by omega)
  have HP : Hid (∀ w, Calls Try.prog 23 #[.int .i64 0, .int .i64 0] w fun e w' => e = .returned (.tuple #[.pointer (some ⟨w.heap.size + 1, 0, none⟩), .int .i64 0]) ∧ Kep w w' ∧ PoolAt w' (w.heap.size + 1) w.heap.size 0 [] 0 0) := fun w => pnew_any w 0 0 (by omega) (by omega)
  have hcase : (no : Int) % 4 = 0 ∨ (no : Int) % 4 = 1 ∨ ∃ r : Nat, (no : Int) % 4 = 2 + (r : Int) ∧ (r : Int) < 2 := by
    rcases (by omega : no % 4 = 0 ∨ no % 4 = 1 ∨ no % 4 = 2 ∨ no % 4 = 3) with g | g | g | g
    · exact .inl (by omega)
    · exact .inr (.inl (by omega))
    · exact .inr (.inr ⟨0, by omega, by omega⟩)
    · exact .inr (.inr ⟨1, by omega, by omega⟩)
  rcases hcase with h4 | h4 | ⟨r, h4, hr⟩
  · have HS : Hid (∀ w b, Calls Try.prog 24 #[.pointer none, .int .i64 a1, b] w fun e w' => e = .returned (.tuple #[.pointer none, .int .i64 1]) ∧ w' = w) := fun w b => shnew_nor w _ b
    go_enter Try.func6, Try.ntmps6
    go_wp2_with fail
    go_quiet (fail)
    go_wp2_with fail
    refine (HN.out _).mono ?_
    rintro e w1 ⟨pv, rfl, O⟩
    have O' : Hid (Own _ w1 (.pointer (some ⟨pv, 0, none⟩)) _ (1 + m) _) := O
    clear O HN
    go_wp2_with fail
    refine (HP.out _).mono ?_
    rintro e w2 ⟨rfl, K2, P2⟩
    have P2' : Hid (Kep w1 w2 ∧ PoolAt w2 (w1.heap.size + 1) w1.heap.size 0 [] 0 0) := ⟨K2, P2⟩
    have KW2 : Hid (Kep w w2) := kep_trans (kep_trans (((Kep.refl _).alloc _).drewN _) O'.out.kep) K2
    have RW2 : Hid (Ram w2 (.pointer (some ⟨pv, 0, none⟩)) _ (List.range (1 + m))) := O'.out.ram.kep K2
    clear K2 P2 HP

    go_wp2_with (first
      | (go_at_call 24; refine (HS.out _ _).mono ?_; rintro e wa ⟨rfl, hqa⟩; rw [hqa]; clear hqa wa)
      | (go_at_call 15; refine (shroot_no _ _ (.inl rfl)).mono ?_; rintro e wa ⟨rfl, hqa⟩; rw [hqa]; clear hqa wa)
      | (go_at_call 20; refine (shput_no _ _ (.inl rfl) _ _ _).mono ?_; rintro e wa ⟨rfl, hqa⟩; rw [hqa]; clear hqa wa)
      | (go_at_call 10; refine (shpages_no _ _ (.inl rfl)).mono ?_; rintro e wa ⟨rfl, hqa⟩; rw [hqa]; clear hqa wa)
      | (go_at_call 18; refine (HW.out _).mono ?_; rintro e w4 ⟨rfl, KW⟩))
    go_ret
    exact ⟨rfl, kep_trans KW2.out KW⟩
  · skip
    go_enter Try.func6, Try.ntmps6
    go_wp2_with fail
    go_quiet (fail)
    go_wp2_with fail
    refine (HN.out _).mono ?_
    rintro e w1 ⟨pv, rfl, O⟩
    have O' : Hid (Own _ w1 (.pointer (some ⟨pv, 0, none⟩)) _ (1 + m) _) := O
    clear O HN
    go_wp2_with fail
    refine (HP.out _).mono ?_
    rintro e w2 ⟨rfl, K2, P2⟩
    have P2' : Hid (Kep w1 w2 ∧ PoolAt w2 (w1.heap.size + 1) w1.heap.size 0 [] 0 0) := ⟨K2, P2⟩
    have KW2 : Hid (Kep w w2) := kep_trans (kep_trans (((Kep.refl _).alloc _).drewN _) O'.out.kep) K2
    have RW2 : Hid (Ram w2 (.pointer (some ⟨pv, 0, none⟩)) _ (List.range (1 + m))) := O'.out.ram.kep K2
    clear K2 P2 HP
    have HS : Hid (Calls Try.prog 24 #[.pointer (some ⟨pv, 0, none⟩), .int .i64 a1, .pointer none] w2 fun e w' => e = .returned (.tuple #[.pointer none, .int .i64 1]) ∧ w' = w2) := shnew_nop w2 _ _ (1 + m) RW2.out (by omega) a1

    go_wp2_with (first
      | (go_at_call 24; refine HS.out.mono ?_; rintro e wa ⟨rfl, hqa⟩; rw [hqa]; clear hqa wa)
      | (go_at_call 15; refine (shroot_no _ _ (.inl rfl)).mono ?_; rintro e wa ⟨rfl, hqa⟩; rw [hqa]; clear hqa wa)
      | (go_at_call 20; refine (shput_no _ _ (.inl rfl) _ _ _).mono ?_; rintro e wa ⟨rfl, hqa⟩; rw [hqa]; clear hqa wa)
      | (go_at_call 10; refine (shpages_no _ _ (.inl rfl)).mono ?_; rintro e wa ⟨rfl, hqa⟩; rw [hqa]; clear hqa wa)
      | (go_at_call 18; refine (HW.out _).mono ?_; rintro e w4 ⟨rfl, KW⟩))
    go_ret
    exact ⟨rfl, kep_trans KW2.out KW⟩
  · by_cases hd : 0 ≤ a1 ∧ a1 < (m : Int)
    · obtain ⟨d, rfl⟩ : ∃ d : Nat, a1 = d := ⟨a1.toNat, by omega⟩
      go_enter Try.func6, Try.ntmps6
      go_wp2_with fail
      go_quiet (fail)
      go_wp2_with fail
      refine (HN.out _).mono ?_
      rintro e w1 ⟨pv, rfl, O⟩
      have O' : Hid (Own _ w1 (.pointer (some ⟨pv, 0, none⟩)) _ (1 + m) _) := O
      clear O HN
      go_wp2_with fail
      refine (HP.out _).mono ?_
      rintro e w2 ⟨rfl, K2, P2⟩
      have P2' : Hid (Kep w1 w2 ∧ PoolAt w2 (w1.heap.size + 1) w1.heap.size 0 [] 0 0) := ⟨K2, P2⟩
      have KW2 : Hid (Kep w w2) := kep_trans (kep_trans (((Kep.refl _).alloc _).drewN _) O'.out.kep) K2
      have RW2 : Hid (Ram w2 (.pointer (some ⟨pv, 0, none⟩)) _ (List.range (1 + m))) := O'.out.ram.kep K2
      clear K2 P2 HP
      have HS : Hid (Calls Try.prog 24 #[.pointer (some ⟨pv, 0, none⟩), .int .i64 d, .pointer (some ⟨w1.heap.size + 1, 0, none⟩)] w2 fun e w' => ∃ p R B, e = .returned (.tuple #[.pointer (some ⟨p, 0, none⟩), .int .i64 0]) ∧ w2.heap.size ≤ p ∧ w.heap.size ≤ R ∧
          ShW w' p pv R (1 + m) d 0 (w1.heap.size + 1) w1.heap.size (List.replicate (64 * (1 + m)) 0) sd0 B [] 0 0 [] ∧ DInv d sd0 B ∧ Put [R] w2 w') := by
        refine (shnew_ok w2 pv _ (1 + m) (w1.heap.size + 1) w1.heap.size 0 d _ 0 0 0 RW2.out (O'.out.row.kep P2'.out.1) O'.out.len O'.out.byts (by omega) P2'.out.2 (by omega) (by omega) (fun j hj => by omega)).mono ?_
        rintro e w' ⟨p, rfl, h1, S, D, P⟩
        exact ⟨p, _, _, rfl, h1, Nat.le_trans (((Kep.refl w).alloc _).drewN _).size O'.out.ge, S, D, P⟩
      have z1 : Hid (w.heap.size ≤ w1.heap.size) := (kep_trans (((Kep.refl _).alloc _).drewN _) O'.out.kep).size
      have z2 : Hid (w.heap.size ≤ w2.heap.size) := KW2.out.size
      clear P2' RW2 O'
      go_wp2_with fail
      refine HS.out.mono ?_
      rintro e w3 ⟨p, R, B, rfl, hp, hR, S3, D3, P3⟩
      have KW3 : Hid (Kep w w3) := KW2.out.put P3 (by simp; exact hR)
      have HR : Hid (Calls Try.prog 15 #[.pointer (some ⟨p, 0, none⟩)] w3 fun e w' => e = .returned (.int .u32 (64 * d : Nat)) ∧ w' = w3) := shroot_any w3 p pv d S3.sh.c0 S3.sh.c2
      have HL : Hid (Calls Try.prog 14 #[.pointer (some ⟨pv, 0, none⟩), .int .u32 (64 * d : Nat), .int .i64 32, .int .u32 va] w3 fun e w' => e = .returned (.tuple (wyR none)) ∧ Kep w3 w') := by
        have := shlook_any S3 va (by omega)
        rw [look_sd_none S3.inv D3 (by omega) (.inr rfl) (.inr (sd0_E _))] at this
        exact this
      have S3' : Hid (ShW w3 p pv R (1 + m) d 0 (w1.heap.size + 1) w1.heap.size (List.replicate (64 * (1 + m)) 0) sd0 B [] 0 0 [] ∧ DInv d sd0 B) := ⟨S3, D3⟩
      have hps : Hid (w.heap.size ≤ p ∧ w.heap.size ≤ R ∧ w.heap.size ≤ w1.heap.size) := ⟨by have := z2.out; omega, hR, z1.out⟩
      clear S3 D3 P3 HS KW2 hp hR z1 z2
      go_wp2_with (first
        | (go_at_call 15; refine HR.out.mono ?_; rintro e wa ⟨rfl, hqa⟩; rw [hqa]; clear hqa wa)
        | fail)
      refine HL.out.mono ?_
      rintro e w4 ⟨rfl, K4⟩
      simp only [wyR, wayV]
      have K4' : Hid (Kep w3 w4) := K4
      clear K4 HL
      have HR4 : Hid (∀ w', Kep w3 w' → Calls Try.prog 15 #[.pointer (some ⟨p, 0, none⟩)] w' fun e w'' => e = .returned (.int .u32 (64 * d : Nat)) ∧ w'' = w') := fun w' k => shroot_any w' p pv d (S3'.out.1.kep k).sh.c0 (S3'.out.1.kep k).sh.c2
      have HPT : Hid (∀ w', Kep w3 w' → Calls Try.prog 20 #[.pointer (some ⟨p, 0, none⟩), .int .u32 va, .int .i64 0, .int .u32 1] w' fun e w'' => ∃ B' L' g' m', e = .returned (.bool false) ∧ ShW w'' p pv R (1 + m) d 0 (w1.heap.size + 1) w1.heap.size (List.replicate (64 * (1 + m)) 0) sd0 B' L' g' m' [] ∧ Kep w w'') := fun w' k => by
        refine (shput_any w' p pv R (1 + m) d 0 (w1.heap.size + 1) w1.heap.size _ sd0 B [] 0 0 [] (S3'.out.1.kep k) S3'.out.2 (by omega) (by omega) va (by omega) 0 1 (by decide)).mono ?_
        rintro e w'' ⟨b, s', B', L', g', m', rfl, S5, D5, P5, ⟨hb, _, _, hE, _⟩, _, _⟩
        obtain rfl : b = false := by
          rw [hb]
          refine decide_eq_false ?_
          rintro ⟨_, _, _, h | h⟩
          · exact h (sd0_D _)
          · exact absurd h (by decide)
        obtain ⟨rfl, rfl⟩ := hE rfl
        exact ⟨B', _, g', m', rfl, S5, (kep_trans KW3.out k).put P5 (by have := hps.out; simp; omega)⟩
      have h64 : IntKind.u32.wrap (64 * (d : Int)) = 64 * (d : Int) := by rw [IntKind.wrap_u32]; omega
      have e64 : ((64 * d : Nat) : Int) = 64 * (d : Int) := by simp
      rw [e64] at HR4
      go_wp2_with (first
        | (go_at_call 15; refine (HR4.out _ (by first | exact K4'.out | exact K4'.out.alloc _)).mono ?_; rintro e wa ⟨rfl, hqa⟩; rw [hqa]; clear hqa wa)
        | fail)
      refine (HPT.out _ (by first | exact K4'.out | exact K4'.out.alloc _)).mono ?_
      rintro e w5 ⟨B5, L5, g5, m5, rfl, S5, K5⟩
      have HPG : Hid (Calls Try.prog 10 #[.pointer (some ⟨p, 0, none⟩)] w5 fun e w' => ∃ (x : Option Addr) (cap : Nat), e = .returned (.slice x 0 cap) ∧ Kep w5 w') := by
        refine (shpages_any S5.sh).mono ?_
        rintro e w' ⟨x, cap, rfl, _, k⟩
        exact ⟨x, cap, by rw [show (nz sd0.E 512).length = 0 by rw [nz_zero]; rfl], k⟩
      have K5' : Hid (Kep w w5) := K5
      clear S5 K5 HPT HR4 HR
      go_wp2_with fail
      refine HPG.out.mono ?_
      rintro e w6 ⟨x6, c6, rfl, K6⟩
      go_wp2_with (go_at_call 18; refine (HW.out _).mono ?_; rintro e w7 ⟨rfl, KW⟩)
      go_ret
      exact ⟨rfl, kep_trans (kep_trans K5'.out K6) KW⟩
    · have hcs : a1 < 0 ∨ (0 ≤ a1 ∧ (m : Int) ≤ a1) := by omega
      have hg : 0 ≤ a1 → decide ((m : Int) ≤ a1) = true := fun h => decide_eq_true (by omega)
      rcases hcs with hcs | ⟨hcs, hcs2⟩
      all_goals
        go_enter Try.func6, Try.ntmps6
        go_wp2_with fail
        go_quiet (fail)
        go_wp2_with fail
        refine (HN.out _).mono ?_
        rintro e w1 ⟨pv, rfl, O⟩
        have O' : Hid (Own _ w1 (.pointer (some ⟨pv, 0, none⟩)) _ (1 + m) _) := O
        clear O HN
        go_wp2_with fail
        refine (HP.out _).mono ?_
        rintro e w2 ⟨rfl, K2, P2⟩
        have P2' : Hid (Kep w1 w2 ∧ PoolAt w2 (w1.heap.size + 1) w1.heap.size 0 [] 0 0) := ⟨K2, P2⟩
        have KW2 : Hid (Kep w w2) := kep_trans (kep_trans (((Kep.refl _).alloc _).drewN _) O'.out.kep) K2
        have RW2 : Hid (Ram w2 (.pointer (some ⟨pv, 0, none⟩)) _ (List.range (1 + m))) := O'.out.ram.kep K2
        clear K2 P2 HP
        have HS : Hid (Calls Try.prog 24 #[.pointer (some ⟨pv, 0, none⟩), .int .i64 a1, .pointer (some ⟨w1.heap.size + 1, 0, none⟩)] w2 fun e w' => e = .returned (.tuple #[.pointer none, .int .i64 2]) ∧ w' = w2) := shnew_no w2 pv _ (1 + m) _ RW2.out (by omega) (by omega) a1 (by omega)
        go_wp2_with (first
          | (go_at_call 24; refine HS.out.mono ?_; rintro e wa ⟨rfl, hqa⟩; rw [hqa]; clear hqa wa)
          | (go_at_call 18; refine (HW.out _).mono ?_; rintro e w4 ⟨rfl, KW⟩))
        go_ret
        exact ⟨rfl, kep_trans KW2.out KW⟩

set_option maxRecDepth 100000 in
theorem lifted (os : Os) (started : os.Started) (H : Type) (enc : TypeId × Value → H) :
    ReturnsInHanded {} Try.checked os 6 .any (Rows.shadowBeginsSpec.pre6 enc Try.prog Try.f6 Rows.shadowBeginsRow.domain false) (Rows.shadowBeginsSpec.post enc Try.prog Try.f6 false true false false) := by
  refine returnsInHanded_of_change (C := Try.checked) own started (by kernel_rfl) Try.func6
    (ChangeSpec.witness6 (enc := enc) (C := Try.checked) false ⟨#[], #[.int .u8 0, .int .i64 0, .agg #[.int .u8 0, .int .u32 0]], []⟩ 8 (by kernel_rfl) (by kernel_rfl) (by kernel_rfl) (by kernel_rfl)) ?_
  intro W base args ds gs before hval0 hW hcnd _
  have hval : ∀ (j : Nat) t v, Try.f6.params[j]? = some t → args[j]? = some v → Value.okWide Try.prog W .any base t v := hval0
  have hW' := hW
  obtain ⟨p, q, hA0, hV, rfl, hfz, hnd⟩ := hW
  have hA : DataW.TrodAll enc Try.prog W 0 (fun _ => true) true Try.f6.params.toList args.toList ds p := hA0
  rw [Try.params6] at hA hval
  obtain ⟨v0, vs0, d0, ds0, p0, q0, hargs, rfl, rfl, h0, r0⟩ := trodAll_cons hA
  obtain ⟨v1, vs1, d1, ds1, p1, q1, rfl, rfl, rfl, h1, r1⟩ := trodAll_cons r0
  obtain ⟨v2, vs2, d2, ds2, p2, q2, rfl, rfl, rfl, h2, r2⟩ := trodAll_cons r1
  obtain ⟨rfl, rfl, rfl⟩ := trodAll_nil r2
  obtain rfl : args = #[v0, v1, v2] := by cases args; simp_all
  obtain ⟨rfl, rfl⟩ := trodVars_none hV
  have k0 := h0
  have lt0 : ∀ x ∈ p0, x.block < W.heap.size := by obtain ⟨m, hm⟩ := k0; exact DataW.trod_lt m _ _ _ hm
  obtain ⟨a0, rfl, rfl, rfl, w0⟩ := open_int Try.underlying5 (hval 0 5 v0 rfl rfl) h0
  have k1 := h1
  have lt1 : ∀ x ∈ p1, x.block < W.heap.size := by obtain ⟨m, hm⟩ := k1; exact DataW.trod_lt m _ _ _ hm
  obtain ⟨a1, rfl, rfl, rfl, w1⟩ := open_int Try.underlying3 (hval 1 3 v1 rfl rfl) h1
  have k2 := h2
  have lt2 : ∀ x ∈ p2, x.block < W.heap.size := by obtain ⟨m, hm⟩ := k2; exact DataW.trod_lt m _ _ _ hm
  obtain ⟨c2f0, c2f1, y2f0, y2f1, m2, rfl, _, _, e2f0, e2f1⟩ := Joins.open_agg2 Try.underlying60 (by kernel_rfl) (show Try.prog.cellsOf 60 = 2 by kernel_rfl) (hval 2 60 v2 rfl rfl) h2
  obtain ⟨a2f0, q2f0, _, w2f0⟩ := DataW.trod_int Try.underlying5 e2f0
  obtain rfl : c2f0 = .int .u8 a2f0 := by simpa using q2f0
  obtain ⟨a2f1, q2f1, _, w2f1⟩ := DataW.trod_int Try.underlying34 e2f1
  obtain rfl : c2f1 = .int .u32 a2f1 := by simpa using q2f1
  clear hA0 hval0
  refine (walk a0 w0 a1 w1 a2f0 w2f0 a2f1 w2f1 W ).mono fun e W' ⟨he, bel0⟩ => ?_
  have bel : Below W.heap.size W W' := bel0
  subst he
  exact ⟨_, rfl, _, _, _, [], _, [], hW', trodAll_mk1 (shut_bool Try.underlying4 _), (trodAll_cons_mk (Below.trod laidOut (by kernel_rfl) (of_decide_eq_true (by kernel_rfl)) k0 bel lt0) (trodAll_cons_mk (Below.trod laidOut (by kernel_rfl) (of_decide_eq_true (by kernel_rfl)) k1 bel lt1) (trodAll_cons_mk (Below.trod laidOut (by kernel_rfl) (of_decide_eq_true (by kernel_rfl)) k2 bel lt2) trodAll_mk0))), rfl, bel.frame _, fun h => by cases h⟩

theorem over : Rows.shadowBeginsRow.holds Try.pinned (OpenSpec.ofChange Rows.shadowBeginsSpec) :=
  OpenClaim.holds_of_wide 6 Try.f6 rfl rfl rfl rfl rfl rfl rfl ⟨rfl, rfl, rfl, rfl, rfl⟩ rfl rfl rfl rfl rfl (by kernel_rfl) Try.func6 (by kernel_rfl)
    (of_decide_eq_true (by kernel_rfl)) (by unfold Func.isWrapper; first | (rw [if_pos (by decide +kernel)]; kernel_rfl) | (rw [if_neg (by decide +kernel)]; exact ⟨rfl, rfl⟩))
    (fun os started H enc _ => lifted os started H enc)
end Go.Proofs.Ythgkkjcemjadoaa.shadowBegins
namespace Go.Proofs.Ythgkkjcemjadoaa

theorem shadowBegins_holds : Rows.ShadowBeginsSaid := shadowBegins.over
#print axioms shadowBegins_holds
end Go.Proofs.Ythgkkjcemjadoaa
