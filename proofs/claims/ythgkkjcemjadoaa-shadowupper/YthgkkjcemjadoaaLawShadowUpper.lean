/- For every number of frames, words and row of steps, the law ShadowUpper returns true: what is laid in the directory's upper half stays there. -/
import Derived.Test.YthgkkjcemjadoaaRows
import Derived.Test.YthgkkjcemjadoaaSdupdo
import Derived.WalkKit
import Derived.ProofKit
import Derived.OpenShut
import Derived.ShutString
import Derived.ChangeOld
import Derived.Below
import Derived.Lib.SmallJoins
namespace Go.Proofs.Ythgkkjcemjadoaa.shadowUpper
open Go.ChangeShapes Go.WideShapes Go.ChangeAt Go.RowKit
set_option linter.unusedVariables false
set_option linter.unusedSimpArgs false

theorem own : ownKnob Try.prog.godebug = none := by kernel_rfl
theorem laidOut : laidOutB Try.prog = true := by kernel_rfl

set_option maxHeartbeats 8000000 in
set_option maxRecDepth 100000 in
theorem walk (a0 : Int) (w0 : (Lit.int .u8 a0).wf = true) (x1 : Option Addr) (len1 cap1 : Nat) (z1 : List Int) (x2 : Option Addr) (len2 cap2 : Nat) (z2 : List Hst) (w : World) (w1 : IsRow .u32 w x1 len1 cap1 z1) (w2 : HstRow w x2 len2 cap2 z2) :
    Calls Try.prog 7 #[.int .u8 a0, .slice x1 len1 cap1, .slice x2 len2 cap2] w fun e w' => e = .returned (.bool true) ∧ Kep w w' := by
  have b0 : 0 ≤ a0 ∧ a0 < 256 := by simp [Lit.wf, IntKind.min, IntKind.max, IntKind.signed, IntKind.bits] at w0; omega
  have HW : Hid (∀ w, Calls Try.prog 18 #[] w fun e w' => e = .returned (.bool true) ∧ Kep w w') := works16_any
  have HROW : Hid (HstRow w x2 len2 cap2 z2) := w2
  have hlen := w2.max
  obtain ⟨U, hUl, hUw, hUx, hUc⟩ := row_words w1
  have HU : Hid (U.length = len1 ∧ (∀ u ∈ U, u < 4294967296) ∧ Lies w x1 (u32s U)) := ⟨hUl, hUw, hUx⟩
  have hcap1 : (len1 : Int) ≤ cap1 := by omega
  have hmax1 := w1.max
  clear w0 w1 w2 hUl hUw hUx hUc
  obtain ⟨most, rfl⟩ : ∃ n : Nat, a0 = n := ⟨a0.toNat, by omega⟩
  have hmb : most < 256 := by omega
  have HM : Hid (∀ w, Calls Try.prog 8 #[.int .u8 most] w fun e w' => ∃ pv p q R M B, e = .returned (.tuple #[.pointer (some ⟨pv, 0, none⟩), .pointer (some ⟨p, 0, none⟩), .pointer (some ⟨q, 0, none⟩)]) ∧
      ShW w' p pv R 40 8 20 q M Z5 sd0 B (List.replicate (most % 13) false) 0 0 [] ∧ DInv 8 sd0 B ∧ Kep w w' ∧ Late w p R q M) := fun w => made16_any w most hmb
  obtain ⟨n, hn, hnb, hn12⟩ : ∃ n : Nat, Hid (most % 13 = n) ∧ (n : Int) ≤ 12 ∧ Hid (n ≤ 12) := ⟨_, rfl, by omega, by rw [Hid]; omega⟩
  have hmn : (most : Int).tmod 13 = n := by have := hn.out; rw [Int.tmod_eq_emod_of_nonneg (by omega)]; omega
  rw [hn.out] at HM
  clear hmb
  by_cases h16 : 16 < len1
  · have h16' : (16 : Int) < len1 := by omega
    go_enter Try.func7, Try.ntmps7
    go_wp2_with fail
    refine (HM.out _).mono ?_
    rintro e w1 ⟨pv, p, q, R, M, B, rfl, S1, D1, K1, LT⟩
    have HUP : Hid (Calls Try.prog 25 #[.pointer (some ⟨p, 0, none⟩), .slice x1 len1 cap1] w1 fun e w' => e = .returned (.bool false) ∧ w' = w1) := shupper_no w1 p pv S1.sh.c0 x1 len1 cap1 h16
    have K1' : Hid (Kep w w1) := K1
    clear S1 D1 K1 LT HM h16
    go_wp2_with (go_at_call 25; refine HUP.out.mono ?_; rintro e wa ⟨rfl, hqa⟩; rw [hqa]; clear hqa wa)
    refine (HW.out _).mono ?_
    rintro e w2 ⟨rfl, K2⟩
    go_wp2_with fail
    go_ret
    exact ⟨rfl, kep_trans K1'.out K2⟩
  · have h16' : ¬ (16 : Int) < len1 := by omega
    go_enter Try.func7, Try.ntmps7
    go_wp2_with fail
    refine (HM.out _).mono ?_
    rintro e w1 ⟨pv, p, q, R, M, B, rfl, S1, D1, K1, LT⟩
    have HUP : Hid (Calls Try.prog 25 #[.pointer (some ⟨p, 0, none⟩), .slice x1 len1 cap1] w1 fun e w' => ∃ B' L' F, e = .returned (.bool true) ∧ ShW w' p pv R 40 8 20 q M Z5 (sdU U) B' L' 0 0 F ∧ DInv 8 (sdU U) B' ∧ L'.length = n ∧ Kep w w') := by
      have := shupper_ok w1 p pv R 40 8 20 q M Z5 B _ 0 0 S1 D1 x1 cap1 U (fun w2 P => HU.out.2.2.kep (K1.put P (by unfold Late at LT; simp; omega))) (by rw [HU.out.1]; omega) HU.out.2.1
      rw [HU.out.1] at this
      refine this.mono ?_
      rintro e w' ⟨B', L', F, rfl, S2, D2, hl, P2⟩
      exact ⟨B', L', F, rfl, S2, D2, by rw [hl]; simp, K1.put P2 (by unfold Late at LT; simp; omega)⟩
    have LT' : Hid (Late w p R q M) := LT
    clear S1 D1 K1 LT HM h16
    go_wp2_with fail
    refine HUP.out.mono ?_
    rintro e w2 ⟨B2, L2, Fs, rfl, S2, D2, hl2, K2⟩
    have I1 : Hid (DU w (w2.alloc (.cells #[.int .i64 40, .slice none 0 0, .slice none 0 0, .int .i64 n] 32)) p pv R q M w2.heap.size w2.heap.size n Fs U 0) := DU.begin S2 D2 hl2 K2 LT'.out
    clear S2 D2 hl2 K2 HUP
    go_wp2_with fail
    generalize w2.alloc (.cells #[.int .i64 40, .slice none 0 0, .slice none 0 0, .int .i64 n] 32) = W1 at I1 ⊢
    generalize w2.heap.size = r at I1 ⊢
    go_loopw [11] (fun i wr => ∃ k : Nat, (k : Int) ≤ len2 ∧ (k : Int) ≤ 40 ∧ i = .int .i64 k ∧ Hid (DU w wr p pv R q M r r n Fs U k)) (fun i _ => 40 - (intOf i).toNat)
    case atStart => exact ⟨0, by omega, by omega, rfl, I1⟩
    case round =>
      obtain ⟨k, hkl, hk40, rfl, hI⟩ := hrel
      by_cases hlt : (k : Int) < len2 ∧ (k : Int) < 40
      · obtain ⟨hl, h40⟩ := hlt
        obtain ⟨b, off, st, hst, hok, hx1, hle, hbl, d0, d1, d2, d3⟩ := (HROW.out.kep hI.out.kep).at (k := k) (by omega)
        subst hx1
        have hle' : (len2 : Int) ≤ cap2 := by omega
        obtain ⟨sk, sp, sf, sb⟩ := st
        obtain ⟨hok1, hok2⟩ := hok
        simp only at d0 d1 d2 d3 hok1 hok2
        obtain ⟨on, hon⟩ : ∃ on, Hid (nearF sp = on) := ⟨_, rfl⟩
        have honb : Bd (on < 4294967296 ∧ sb < 4294967296 ∧ k < 1000) := ⟨by rw [← hon.out]; exact nearF_lt hok1, hok2, by omega⟩
        have HN1 : Hid (∀ w, Calls Try.prog 16 #[.int .u32 sp] w fun e w' => e = .returned (.int .u32 on) ∧ w' = w) := fun w => hon.out ▸ near16_any sp w
        have BZ : Hid ((wr.alloc (.cells #[.int .i64 sk, .int .u32 on, .int .i64 sf, .int .u32 sb] 36)).heap[wr.heap.size]? = some (.cells #[.int .i64 sk, .int .u32 on, .int .i64 sf, .int .u32 sb] 36 (0, 0))) := hat _ _ _ rfl
        have DUz : Hid (DU w (wr.alloc (.cells #[.int .i64 sk, .int .u32 on, .int .i64 sf, .int .u32 sb] 36)) p pv R q M r r n Fs U k) := hI.out.kp ((Kep.refl _).alloc _)
        clear hle hbl hst hok1 hok2 hon
        go_upto_region 14 with (go_at_call 16; refine (HN1.out _).mono ?_; rintro e wa ⟨rfl, hqa⟩; rw [hqa]; clear hqa wa)
        generalize wr.alloc (.cells #[.int .i64 sk, .int .u32 on, .int .i64 sf, .int .u32 sb] 36) = W2 at BZ DUz ⊢
        generalize wr.heap.size = z at BZ ⊢
        have c0 : W2.cell? ⟨z, 0, none⟩ = some (.int .i64 sk) := (cell_of_block BZ.out).trans rfl
        have c1 : W2.cell? ⟨z, 1, none⟩ = some (.int .u32 on) := (cell_of_block BZ.out).trans rfl
        clear d0 d1 d2 d3 hI HN1
        by_cases hh : 16384 ≤ on
        · have hhi : (16384 : Int) ≤ on := by omega
          by_cases hl0 : 0 < len1
          · have hl0' : (0 : Int) < len1 := by omega
            have hU0 : U ≠ [] := fun e => by have := HU.out.1; rw [e] at this; simp at this; omega
            by_cases e0 : sk = 0
            · subst e0
              have c2 : W2.cell? ⟨z, 2, none⟩ = some (.int .i64 sf) := (cell_of_block BZ.out).trans rfl
              have c3 : W2.cell? ⟨z, 3, none⟩ = some (.int .u32 sb) := (cell_of_block BZ.out).trans rfl
              have HP : Hid (Calls Try.prog 20 #[.pointer (some ⟨p, 0, none⟩), .int .u32 on, .int .i64 sf, .int .u32 sb] W2 fun e w' => e = .returned (.bool false) ∧ DU w w' p pv R q M r r n Fs U (k + 1)) := DUz.out.hi honb.out.2.2 honb.out.1 sf honb.out.2.1 hh hU0
              clear hh hl0 hU0 DUz BZ
              go_wp2_with (go_at_call 20; refine HP.out.mono ?_; rintro e w5 ⟨rfl, I5⟩)
              go_roundw
              case rel => exact ⟨k + 1, by omega, by omega, by go_num, I5⟩
              case measure => simp [intOf]; omega
            · have t0 : (sk == 0) = false := by simpa using e0
              have NX : Hid (DU w W2 p pv R q M r r n Fs U (k + 1)) := DUz.out.more
              clear hh hl0 hU0 DUz BZ e0
              go_wp2_with fail
              go_roundw
              case rel => exact ⟨k + 1, by omega, by omega, by go_num, NX⟩
              case measure => simp [intOf]; omega
          · obtain rfl : len1 = 0 := by omega
            have NX : Hid (DU w W2 p pv R q M r r n Fs U (k + 1)) := DUz.out.more
            clear hh hl0 DUz BZ
            go_wp2_with fail
            go_roundw
            case rel => exact ⟨k + 1, by omega, by omega, by go_num, NX⟩
            case measure => simp [intOf]; omega
        · have hlo : ¬ (16384 : Int) ≤ on := by omega
          have hlo' : Bd (on < 16384) := ⟨by omega⟩
          by_cases e0 : sk = 0
          · subst e0
            have DUd : Hid (DU w W2.drew p pv R q M r r n Fs U k) := DUz.out.kp (Kep.refl _).drew
            have BZd : Hid (W2.drew.heap[z]? = some (.cells #[.int .i64 0, .int .u32 on, .int .i64 sf, .int .u32 sb] 36 (0, 0))) := BZ.out
            have HS : Hid (∀ w6, DU w w6 p pv R q M r r n Fs U k → Calls Try.prog 20 #[.pointer (some ⟨p, 0, none⟩), .int .u32 on, .int .i64 sf, .int .u32 sb] w6 fun e w' => ∃ b, e = .returned (.bool b) ∧ DUH w w' p pv R q M r r n Fs U (k + 1) on sf sb b ∧ Zkept2 w6 w') := fun w6 h => h.sput honb.out.2.2 honb.out.1 sf honb.out.2.1
            have HR : Hid (∀ w6 b, DUH w w6 p pv R q M r r n Fs U (k + 1) on sf sb b → Calls Try.prog 26 #[.pointer (some ⟨r, 0, none⟩), .int .u32 on, .int .i64 sf, .int .u32 sb] w6 fun e w' => e = .returned (.bool b) ∧ DU w w' p pv R q M r r n Fs U (k + 1) ∧ Zkept 32 w6 w') := fun w6 b h => h.rput hn12.out hlo'.out honb.out.2.1
            clear hh DUz BZ
            go_wp2_with fail
            refine wp_region_held_drew (S := fun w' => w'.heap[z]? = some (.cells #[.int .i64 0, .int .u32 on, .int .i64 sf, .int .u32 sb] 36 (0, 0))) (by kernel_rfl) (BZd.out) (fun hH => ?_)
            refine wpAnyH_take (i := 0) (v := .pointer (some ⟨p, 0, none⟩)) rfl (by kernel_rfl) (by kernel_rfl) (by kernel_rfl) (fun _ _ _ h => h) (.inl ⟨by rfl, by intro w hS; go_simp⟩) hH ?_
            (try dsimp only [Act.put]); (try simp only [List.getElem_toArray, List.getElem_cons_zero, List.getElem_cons_succ, Act.put, List.setIfInBounds_toArray, List.set_cons_zero, List.set_cons_succ])
            refine wpAnyH_take (i := 1) (v := .pointer (some ⟨z, 1, none⟩)) rfl (by kernel_rfl) (by kernel_rfl) (by kernel_rfl) (fun _ _ _ h => h) (.inl ⟨by rfl, by intro w hS; go_simp⟩) hH ?_
            (try dsimp only [Act.put]); (try simp only [List.getElem_toArray, List.getElem_cons_zero, List.getElem_cons_succ, Act.put, List.setIfInBounds_toArray, List.set_cons_zero, List.set_cons_succ])
            refine wpAnyH_take (i := 2) (v := .int .u32 on) rfl (by kernel_rfl) (by kernel_rfl) (by kernel_rfl) (fun _ _ _ h => h) (.inl ⟨by rfl, by intro w hS; have c1 : w.cell? ⟨z, 1, none⟩ = some (.int .u32 on) := (cell_of_block hS).trans rfl; clear hS; go_simp⟩) hH ?_
            (try dsimp only [Act.put]); (try simp only [List.getElem_toArray, List.getElem_cons_zero, List.getElem_cons_succ, Act.put, List.setIfInBounds_toArray, List.set_cons_zero, List.set_cons_succ])
            refine wpAnyH_take (i := 3) (v := .pointer (some ⟨z, 2, none⟩)) rfl (by kernel_rfl) (by kernel_rfl) (by kernel_rfl) (fun _ _ _ h => h) (.inl ⟨by rfl, by intro w hS; go_simp⟩) hH ?_
            (try dsimp only [Act.put]); (try simp only [List.getElem_toArray, List.getElem_cons_zero, List.getElem_cons_succ, Act.put, List.setIfInBounds_toArray, List.set_cons_zero, List.set_cons_succ])
            refine wpAnyH_take (i := 4) (v := .int .i64 sf) rfl (by kernel_rfl) (by kernel_rfl) (by kernel_rfl) (fun _ _ _ h => h) (.inl ⟨by rfl, by intro w hS; have c1 : w.cell? ⟨z, 2, none⟩ = some (.int .i64 sf) := (cell_of_block hS).trans rfl; clear hS; go_simp⟩) hH ?_
            (try dsimp only [Act.put]); (try simp only [List.getElem_toArray, List.getElem_cons_zero, List.getElem_cons_succ, Act.put, List.setIfInBounds_toArray, List.set_cons_zero, List.set_cons_succ])
            refine wpAnyH_take (i := 5) (v := .pointer (some ⟨z, 3, none⟩)) rfl (by kernel_rfl) (by kernel_rfl) (by kernel_rfl) (fun _ _ _ h => h) (.inl ⟨by rfl, by intro w hS; go_simp⟩) hH ?_
            (try dsimp only [Act.put]); (try simp only [List.getElem_toArray, List.getElem_cons_zero, List.getElem_cons_succ, Act.put, List.setIfInBounds_toArray, List.set_cons_zero, List.set_cons_succ])
            refine wpAnyH_take (i := 6) (v := .int .u32 sb) rfl (by kernel_rfl) (by kernel_rfl) (by kernel_rfl) (fun _ _ _ h => h) (.inl ⟨by rfl, by intro w hS; have c1 : w.cell? ⟨z, 3, none⟩ = some (.int .u32 sb) := (cell_of_block hS).trans rfl; clear hS; go_simp⟩) hH ?_
            (try dsimp only [Act.put]); (try simp only [List.getElem_toArray, List.getElem_cons_zero, List.getElem_cons_succ, Act.put, List.setIfInBounds_toArray, List.set_cons_zero, List.set_cons_succ])
            refine wpAnyH_take (i := 8) (v := .pointer (some ⟨r, 0, none⟩)) rfl (by kernel_rfl) (by kernel_rfl) (by kernel_rfl) (fun _ _ _ h => h) (.inl ⟨by rfl, by intro w hS; go_simp⟩) hH ?_
            (try dsimp only [Act.put]); (try simp only [List.getElem_toArray, List.getElem_cons_zero, List.getElem_cons_succ, Act.put, List.setIfInBounds_toArray, List.set_cons_zero, List.set_cons_succ])
            refine wpAnyH_take (i := 9) (v := .pointer (some ⟨z, 1, none⟩)) rfl (by kernel_rfl) (by kernel_rfl) (by kernel_rfl) (fun _ _ _ h => h) (.inl ⟨by rfl, by intro w hS; go_simp⟩) hH ?_
            (try dsimp only [Act.put]); (try simp only [List.getElem_toArray, List.getElem_cons_zero, List.getElem_cons_succ, Act.put, List.setIfInBounds_toArray, List.set_cons_zero, List.set_cons_succ])
            refine wpAnyH_take (i := 10) (v := .int .u32 on) rfl (by kernel_rfl) (by kernel_rfl) (by kernel_rfl) (fun _ _ _ h => h) (.inl ⟨by rfl, by intro w hS; have c1 : w.cell? ⟨z, 1, none⟩ = some (.int .u32 on) := (cell_of_block hS).trans rfl; clear hS; go_simp⟩) hH ?_
            (try dsimp only [Act.put]); (try simp only [List.getElem_toArray, List.getElem_cons_zero, List.getElem_cons_succ, Act.put, List.setIfInBounds_toArray, List.set_cons_zero, List.set_cons_succ])
            refine wpAnyH_take (i := 11) (v := .pointer (some ⟨z, 2, none⟩)) rfl (by kernel_rfl) (by kernel_rfl) (by kernel_rfl) (fun _ _ _ h => h) (.inl ⟨by rfl, by intro w hS; go_simp⟩) hH ?_
            (try dsimp only [Act.put]); (try simp only [List.getElem_toArray, List.getElem_cons_zero, List.getElem_cons_succ, Act.put, List.setIfInBounds_toArray, List.set_cons_zero, List.set_cons_succ])
            refine wpAnyH_take (i := 12) (v := .int .i64 sf) rfl (by kernel_rfl) (by kernel_rfl) (by kernel_rfl) (fun _ _ _ h => h) (.inl ⟨by rfl, by intro w hS; have c1 : w.cell? ⟨z, 2, none⟩ = some (.int .i64 sf) := (cell_of_block hS).trans rfl; clear hS; go_simp⟩) hH ?_
            (try dsimp only [Act.put]); (try simp only [List.getElem_toArray, List.getElem_cons_zero, List.getElem_cons_succ, Act.put, List.setIfInBounds_toArray, List.set_cons_zero, List.set_cons_succ])
            refine wpAnyH_take (i := 13) (v := .pointer (some ⟨z, 3, none⟩)) rfl (by kernel_rfl) (by kernel_rfl) (by kernel_rfl) (fun _ _ _ h => h) (.inl ⟨by rfl, by intro w hS; go_simp⟩) hH ?_
            (try dsimp only [Act.put]); (try simp only [List.getElem_toArray, List.getElem_cons_zero, List.getElem_cons_succ, Act.put, List.setIfInBounds_toArray, List.set_cons_zero, List.set_cons_succ])
            refine wpAnyH_take (i := 14) (v := .int .u32 sb) rfl (by kernel_rfl) (by kernel_rfl) (by kernel_rfl) (fun _ _ _ h => h) (.inl ⟨by rfl, by intro w hS; have c1 : w.cell? ⟨z, 3, none⟩ = some (.int .u32 sb) := (cell_of_block hS).trans rfl; clear hS; go_simp⟩) hH ?_
            (try dsimp only [Act.put]); (try simp only [List.getElem_toArray, List.getElem_cons_zero, List.getElem_cons_succ, Act.put, List.setIfInBounds_toArray, List.set_cons_zero, List.set_cons_succ])
            refine wpAnyH_ready (rs := [7]) (by kernel_rfl) (by simp) ?_
            refine AllReadyH.cons rfl (fun K hK => ?_) AllReadyH.nil
            rw [if_pos (by rfl)]
            go_simp
            refine (HS.out _ DUd.out).mono ?_
            rintro e w4 ⟨b, rfl, H4, Z4⟩
            have H4' : Hid (DUH w w4 p pv R q M r r n Fs U (k + 1) on sf sb b) := H4
            have Z4' : Hid (w4.heap[z]? = some (.cells #[.int .i64 0, .int .u32 on, .int .i64 sf, .int .u32 sb] 36 (0, 0))) := Z4 z _ _ _ BZd.out (by decide) (by decide) (by decide)
            clear H4 Z4
            refine hK.out _ _ Z4'.out (fun hH => ?_)
            clear hK K
            (try dsimp only [Act.put]); (try simp only [List.getElem_toArray, List.getElem_cons_zero, List.getElem_cons_succ, Act.put, List.setIfInBounds_toArray, List.set_cons_zero, List.set_cons_succ])
            refine wpAnyH_ready (rs := [15]) (by kernel_rfl) (by simp) ?_
            refine AllReadyH.cons rfl (fun K hK => ?_) AllReadyH.nil
            rw [if_pos (by rfl)]
            go_simp
            refine (HR.out _ b H4'.out).mono ?_
            rintro e w5 ⟨rfl, H5, Z5'⟩
            have H5' : Hid (DU w w5 p pv R q M r r n Fs U (k + 1)) := H5
            have Z5'' := Z5' z _ _ _ Z4'.out (by decide) (by decide)
            clear H5 Z5'
            refine hK.out _ _ Z5'' (fun hH => ?_)
            clear Z5''
            clear hK K
            (try dsimp only [Act.put]); (try simp only [List.getElem_toArray, List.getElem_cons_zero, List.getElem_cons_succ, Act.put, List.setIfInBounds_toArray, List.set_cons_zero, List.set_cons_succ])
            refine wpAnyH_take (i := 16) (v := .bool false) rfl (by kernel_rfl) (by kernel_rfl) (by kernel_rfl) (fun _ _ _ h => h) (.inl ⟨by rfl, by intro w hS; go_simp⟩) hH ?_
            (try dsimp only [Act.put]); (try simp only [List.getElem_toArray, List.getElem_cons_zero, List.getElem_cons_succ, Act.put, List.setIfInBounds_toArray, List.set_cons_zero, List.set_cons_succ])
            refine wpAnyH_done (by kernel_rfl) ?_ _
            go_wp2_with fail
            go_roundw
            case rel => exact ⟨k + 1, by omega, by omega, by go_num, H5'⟩
            case measure => simp [intOf]; omega
          have t0 : (sk == 0) = false := by simpa using e0
          by_cases e1 : sk = 1
          · subst e1
            have HD : Hid (Calls Try.prog 21 #[.pointer (some ⟨p, 0, none⟩), .int .u32 on] W2 fun e w' => e = .returned (.tuple #[]) ∧ (Calls Try.prog 27 #[.pointer (some ⟨r, 0, none⟩), .int .u32 on] w' fun e w'' => e = .returned (.tuple #[]) ∧ DU w w'' p pv R q M r r n Fs U k) ∧ Zkept2 W2 w') := DUz.out.drop honb.out.1
            clear hh DUz e0
            go_wp2_with fail
            refine HD.out.mono ?_
            rintro e w4 ⟨rfl, H4, Z4⟩
            have H4' : Hid (Calls Try.prog 27 #[.pointer (some ⟨r, 0, none⟩), .int .u32 on] w4 fun e w'' => e = .returned (.tuple #[]) ∧ DU w w'' p pv R q M r r n Fs U k) := H4
            have BZ4 := Z4 z _ _ _ BZ.out (by decide) (by decide) (by decide)
            clear c0 c1
            have c1 : w4.cell? ⟨z, 1, none⟩ = some (.int .u32 on) := (cell_of_block BZ4).trans rfl
            clear H4 HD Z4 BZ4 BZ
            go_wp2_with fail
            refine H4'.out.mono ?_
            rintro e w5 ⟨rfl, H5⟩
            have NX : Hid (DU w w5 p pv R q M r r n Fs U (k + 1)) := H5.more
            clear H4' H5
            go_wp2_with fail
            go_roundw
            case rel => exact ⟨k + 1, by omega, by omega, by go_num, NX⟩
            case measure => simp [intOf]; omega
          have t1 : (sk == 1) = false := by simpa using e1
          by_cases e2 : sk = 2
          · subst e2
            have HC : Hid (Calls Try.prog 28 #[.pointer (some ⟨p, 0, none⟩)] W2 fun e w' => e = .returned (.tuple #[]) ∧ (Calls Try.prog 29 #[.pointer (some ⟨r, 0, none⟩)] w' fun e w'' => e = .returned (.tuple #[]) ∧ DU w w'' p pv R q M r r n Fs U k)) := DUz.out.clear
            clear hh DUz e0 e1 BZ
            go_wp2_with fail
            refine HC.out.mono ?_
            rintro e w4 ⟨rfl, H4⟩
            have H4' : Hid (Calls Try.prog 29 #[.pointer (some ⟨r, 0, none⟩)] w4 fun e w'' => e = .returned (.tuple #[]) ∧ DU w w'' p pv R q M r r n Fs U k) := H4
            clear H4 HC
            go_wp2_with fail
            refine H4'.out.mono ?_
            rintro e w5 ⟨rfl, H5⟩
            have NX : Hid (DU w w5 p pv R q M r r n Fs U (k + 1)) := H5.more
            clear H4' H5
            go_wp2_with fail
            go_roundw
            case rel => exact ⟨k + 1, by omega, by omega, by go_num, NX⟩
            case measure => simp [intOf]; omega
          have t2 : (sk == 2) = false := by simpa using e2
          have NX : Hid (DU w W2 p pv R q M r r n Fs U (k + 1)) := DUz.out.more
          clear hh DUz e0 e1 e2 BZ
          go_wp2_with fail
          go_roundw
          case rel => exact ⟨k + 1, by omega, by omega, by go_num, NX⟩
          case measure => simp [intOf]; omega
      · obtain ⟨s, B, L, T, P, F, G, g, m, D, E, hU, hD0, _⟩ := hI.out
        have hend : ¬ (k : Int) < len2 ∨ ((k : Int) < len2 ∧ ¬ (k : Int) < 40) := by omega
        clear hI hlt I1
        have D5 : Hid (DM w wr p pv R q M r r n Fs s B L T P F G g m) := D
        have E' : Hid (DEq s L T P n) := E
        have U' : Hid (s.U = U ∧ ∀ j, 16 ≤ j → s.D.getD j 0 = 0) := ⟨hU, hD0⟩
        have hnz := pg_nz D.sh.inv.lE
        rw [← E.pages] at hnz
        obtain ⟨NP, hNP⟩ : ∃ NP, Hid (P.length = NP) := ⟨_, rfl⟩
        have hNPb : (NP : Int) ≤ 512 := by have := hNP.out; have := pg_len s.E 0; have := D.sh.inv.lE; rw [E.pages] at *; omega
        obtain ⟨NT, hNT⟩ : ∃ NT, Hid (T.length = NT) := ⟨_, rfl⟩
        have hNTb : (NT : Int) ≤ n := by have := hNT.out; have := E.len; have := nTrue_le L; have := E.most; omega
        have HPG : Hid (∀ W, Kep wr W → Calls Try.prog 10 #[.pointer (some ⟨p, 0, none⟩)] W fun e w' => ∃ (x : Option Addr) (cap : Nat), e = .returned (.slice x NP cap) ∧ LU w' x (nz s.E 512) ∧ NP ≤ cap ∧ Kep W w') := fun W kw => by
          have := shpages_le (D5.out.kp kw).sh.sh
          rw [hnz.1, hNP.out] at this
          exact this
        obtain ⟨pvv, tvv, hb, hp, ht⟩ := D.ref.box
        obtain ⟨xp, cp, rfl, hlp, hcp, _, _⟩ := hp.lies
        obtain ⟨xt, ct, rfl, hlt2, hct, _, _⟩ := ht.lies
        have BR : Hid (∀ W, Kep wr W → W.cell? ⟨r, 1, none⟩ = some (.slice xp NP cp) ∧ W.cell? ⟨r, 2, none⟩ = some (.slice xt NT ct) ∧ W.cell? ⟨r, 3, none⟩ = some (.int .i64 n)) := fun W kw => by
          have := kw.block hb
          rw [hNP.out, hNT.out] at this
          refine ⟨?_, ?_, ?_⟩ <;> (rw [cell_of_block this]; rfl)
        have HLE : Hid (∀ W, Kep wr W → Calls Try.prog 11 #[.pointer (some ⟨q, 0, none⟩)] W fun e w' => e = .returned (.int .i64 ((n : Int) - NT)) ∧ Kep W w') := fun W kw => by
          have := pleft_any W q M 20 L g m (D5.out.kp kw).sh.pool
          rw [E'.out.most, ← E'.out.len, hNT.out] at this
          exact this
        have HWK : Hid (∀ W, Kep wr W → Calls Try.prog 18 #[] W fun e w' => e = .returned (.bool true) ∧ Kep W w') := fun W _ => HW.out W
        have HRT : Hid (∀ W, Kep wr W → Calls Try.prog 15 #[.pointer (some ⟨p, 0, none⟩)] W fun e w' => e = .returned (.int .u32 512) ∧ w' = W) := fun W kw => shroot_any W p pv 8 (D5.out.kp kw).sh.sh.c0 (D5.out.kp kw).sh.sh.c2
        have HWD : Hid (∀ W, Kep wr W → ∀ c : Nat, c < 16 → Calls Try.prog 30 #[.pointer (some ⟨pv, 0, none⟩), .int .u32 (576 + 4 * c : Nat)] W fun e w' => e = .returned (.tuple #[.int .u32 (U.getD c 0 : Nat), .bool true]) ∧ w' = W) := fun W kw c hc => by
          have := (D5.out.kp kw).word U'.out.2 hc
          rw [U'.out.1] at this
          exact this
        have KW5 : Hid (Kep w wr) := D.kep
        have Z5 : Hid (Kep wr wr) := Kep.refl _
        clear D E hU hD0 hnz hb hp ht hlp hlt2 hcp hct
        obtain ⟨w5, hw5⟩ : ∃ w5, Hid (w5 = wr) := ⟨_, rfl⟩
        rw [← hw5.out] at HPG BR HLE HWK HRT HWD KW5 Z5
        rcases hend with hq | ⟨hq, hq'⟩
        all_goals
          go_wp2_with fail
          clear hq
          go_loopw [13] (fun i wr => ∃ c : Nat, (c : Int) ≤ 16 ∧ i = .int .i64 c ∧ Hid (Kep w5 wr)) (fun i _ => 16 - (intOf i).toNat)
          case atStart => exact ⟨0, by omega, rfl, hw5.out ▸ Z5.out⟩
          case round =>
            obtain ⟨c, hc16, rfl, hA⟩ := hrel
            clear Z5
            by_cases hlt : (c : Int) < 16
            · have HW1 := HWD.out wr hA.out c (by omega)
              have HW2 : Hid (Calls Try.prog 30 #[.pointer (some ⟨pv, 0, none⟩), .int .u32 (576 + 4 * (c : Int))] wr fun e w' => e = .returned (.tuple #[.int .u32 (U.getD c 0 : Nat), .bool true]) ∧ w' = wr) := by
                rw [show ((576 + 4 * c : Nat) : Int) = 576 + 4 * (c : Int) by omega] at HW1
                exact HW1
              clear HW1
              by_cases hcl : (c : Int) < len1
              · obtain ⟨b, off, hx, hc⟩ : ∃ b off : Nat, x1 = some ⟨b, off, none⟩ ∧ wr.cell? ⟨b, off + c, none⟩ = some (.int .u32 (U.getD c 0 : Nat)) := by
                  have hcU : c < U.length := by rw [HU.out.1]; omega
                  rcases HU.out.2.2.kep (kep_trans KW5.out hA.out) with h0 | ⟨b, off, e, _, hc⟩
                  · have := congrArg List.length h0; rw [u32s_len, List.length_nil] at this; omega
                  · exact ⟨b, off, e, hc c _ (u32s_at hcU)⟩
                subst hx
                generalize U.getD c 0 = uv at hc HW2
                go_wp2_with (first
                  | (go_at_call 15; refine (HRT.out _ hA.out).mono ?_; rintro e wa ⟨rfl, hqa⟩; rw [hqa]; clear hqa wa)
                  | (go_at_call 30; refine HW2.out.mono ?_; rintro e wa ⟨rfl, hqa⟩; rw [hqa]; clear hqa wa))
                go_roundw
                case rel => exact ⟨c + 1, by omega, by go_num, hA⟩
                case measure => simp [intOf]; omega
              · have hu0 : U.getD c 0 = 0 := by
                  have := HU.out.1
                  simp [List.getD, List.getElem?_eq_none (show U.length ≤ c by omega)]
                rw [hu0, show ((0 : Nat) : Int) = 0 from rfl] at HW2
                clear hu0
                go_wp2_with (first
                  | (go_at_call 15; refine (HRT.out _ hA.out).mono ?_; rintro e wa ⟨rfl, hqa⟩; rw [hqa]; clear hqa wa)
                  | (go_at_call 30; refine HW2.out.mono ?_; rintro e wa ⟨rfl, hqa⟩; rw [hqa]; clear hqa wa))
                go_roundw
                case rel => exact ⟨c + 1, by omega, by go_num, hA⟩
                case measure => simp [intOf]; omega
            · obtain rfl : c = 16 := by omega
              have A6 : Hid (Kep w5 wr) := hA
              clear hA hlt hc16 HRT HWD
              go_wp2_with fail
              refine wp_region_held_drew (S := fun w' => Kep w5 w') (by kernel_rfl) ((A6.out).drew) (fun hH => ?_)
              refine wpAnyH_take (i := 0) (v := .pointer (some ⟨p, 0, none⟩)) rfl (by kernel_rfl) (by kernel_rfl) (by kernel_rfl) (fun _ _ _ h => h) (.inl ⟨by rfl, by intro w hS; go_simp⟩) hH ?_
              (try dsimp only [Act.put]); (try simp only [List.getElem_toArray, List.getElem_cons_zero, List.getElem_cons_succ, Act.put, List.setIfInBounds_toArray, List.set_cons_zero, List.set_cons_succ])
              refine wpAnyH_take (i := 3) (v := .pointer (some ⟨r, 0, none⟩)) rfl (by kernel_rfl) (by kernel_rfl) (by kernel_rfl) (fun _ _ _ h => h) (.inl ⟨by rfl, by intro w hS; go_simp⟩) hH ?_
              (try dsimp only [Act.put]); (try simp only [List.getElem_toArray, List.getElem_cons_zero, List.getElem_cons_succ, Act.put, List.setIfInBounds_toArray, List.set_cons_zero, List.set_cons_succ])
              refine wpAnyH_take (i := 4) (v := .pointer (some ⟨r, 0, none⟩)) rfl (by kernel_rfl) (by kernel_rfl) (by kernel_rfl) (fun _ _ _ h => h) (.inl ⟨by rfl, by intro w hS; go_simp⟩) hH ?_
              (try dsimp only [Act.put]); (try simp only [List.getElem_toArray, List.getElem_cons_zero, List.getElem_cons_succ, Act.put, List.setIfInBounds_toArray, List.set_cons_zero, List.set_cons_succ])
              refine wpAnyH_take (i := 5) (v := .pointer (some ⟨r, 1, none⟩)) rfl (by kernel_rfl) (by kernel_rfl) (by kernel_rfl) (fun _ _ _ h => h) (.inl ⟨by rfl, by intro w hS; go_simp⟩) hH ?_
              (try dsimp only [Act.put]); (try simp only [List.getElem_toArray, List.getElem_cons_zero, List.getElem_cons_succ, Act.put, List.setIfInBounds_toArray, List.set_cons_zero, List.set_cons_succ])
              refine wpAnyH_take (i := 6) (v := .slice xp NP cp) rfl (by kernel_rfl) (by kernel_rfl) (by kernel_rfl) (fun _ _ _ h => h) (.inl ⟨by rfl, by intro w hS; have c1 := (BR.out w hS).1; clear hS; go_simp⟩) hH ?_
              (try dsimp only [Act.put]); (try simp only [List.getElem_toArray, List.getElem_cons_zero, List.getElem_cons_succ, Act.put, List.setIfInBounds_toArray, List.set_cons_zero, List.set_cons_succ])
              refine wpAnyH_take (i := 7) (v := .int .i64 NP) rfl (by kernel_rfl) (by kernel_rfl) (by kernel_rfl) (fun _ _ _ h => h) (.inl ⟨by rfl, by intro w hS; go_simp⟩) hH ?_
              (try dsimp only [Act.put]); (try simp only [List.getElem_toArray, List.getElem_cons_zero, List.getElem_cons_succ, Act.put, List.setIfInBounds_toArray, List.set_cons_zero, List.set_cons_succ])
              refine wpAnyH_ready (rs := [1]) (by kernel_rfl) (by simp) ?_
              refine AllReadyH.cons rfl (fun K hK => ?_) AllReadyH.nil
              rw [if_pos (by rfl)]
              go_simp
              refine (HPG.out _ (A6.out).drew).mono ?_
              rintro e w10 ⟨xg, cg, rfl, _, _, k10⟩
              have A10 : Hid (Kep w5 w10) := kep_trans (A6.out).drew k10
              refine hK.out _ _ A10.out (fun hH => ?_)
              clear k10
              clear hK K
              (try dsimp only [Act.put]); (try simp only [List.getElem_toArray, List.getElem_cons_zero, List.getElem_cons_succ, Act.put, List.setIfInBounds_toArray, List.set_cons_zero, List.set_cons_succ])
              refine wpAnyH_take (i := 2) (v := .int .i64 NP) rfl (by kernel_rfl) (by kernel_rfl) (by kernel_rfl) (fun _ _ _ h => h) (.inl ⟨by rfl, by intro w hS; go_simp⟩) hH ?_
              (try dsimp only [Act.put]); (try simp only [List.getElem_toArray, List.getElem_cons_zero, List.getElem_cons_succ, Act.put, List.setIfInBounds_toArray, List.set_cons_zero, List.set_cons_succ])
              refine wpAnyH_take (i := 8) (v := .bool true) rfl (by kernel_rfl) (by kernel_rfl) (by kernel_rfl) (fun _ _ _ h => h) (.inl ⟨by rfl, by intro w hS; go_simp⟩) hH ?_
              (try dsimp only [Act.put]); (try simp only [List.getElem_toArray, List.getElem_cons_zero, List.getElem_cons_succ, Act.put, List.setIfInBounds_toArray, List.set_cons_zero, List.set_cons_succ])
              refine wpAnyH_take (i := 9) (v := .bool true) rfl (by kernel_rfl) (by kernel_rfl) (by kernel_rfl) (fun _ _ _ h => h) (.inl ⟨by rfl, by intro w hS; go_simp⟩) hH ?_
              (try dsimp only [Act.put]); (try simp only [List.getElem_toArray, List.getElem_cons_zero, List.getElem_cons_succ, Act.put, List.setIfInBounds_toArray, List.set_cons_zero, List.set_cons_succ])
              refine wpAnyH_take (i := 10) (v := .pointer (some ⟨q, 0, none⟩)) rfl (by kernel_rfl) (by kernel_rfl) (by kernel_rfl) (fun _ _ _ h => h) (.inl ⟨by rfl, by intro w hS; go_simp⟩) hH ?_
              (try dsimp only [Act.put]); (try simp only [List.getElem_toArray, List.getElem_cons_zero, List.getElem_cons_succ, Act.put, List.setIfInBounds_toArray, List.set_cons_zero, List.set_cons_succ])
              refine wpAnyH_take (i := 12) (v := .pointer (some ⟨r, 0, none⟩)) rfl (by kernel_rfl) (by kernel_rfl) (by kernel_rfl) (fun _ _ _ h => h) (.inl ⟨by rfl, by intro w hS; go_simp⟩) hH ?_
              (try dsimp only [Act.put]); (try simp only [List.getElem_toArray, List.getElem_cons_zero, List.getElem_cons_succ, Act.put, List.setIfInBounds_toArray, List.set_cons_zero, List.set_cons_succ])
              refine wpAnyH_take (i := 13) (v := .pointer (some ⟨r, 0, none⟩)) rfl (by kernel_rfl) (by kernel_rfl) (by kernel_rfl) (fun _ _ _ h => h) (.inl ⟨by rfl, by intro w hS; go_simp⟩) hH ?_
              (try dsimp only [Act.put]); (try simp only [List.getElem_toArray, List.getElem_cons_zero, List.getElem_cons_succ, Act.put, List.setIfInBounds_toArray, List.set_cons_zero, List.set_cons_succ])
              refine wpAnyH_take (i := 14) (v := .pointer (some ⟨r, 3, none⟩)) rfl (by kernel_rfl) (by kernel_rfl) (by kernel_rfl) (fun _ _ _ h => h) (.inl ⟨by rfl, by intro w hS; go_simp⟩) hH ?_
              (try dsimp only [Act.put]); (try simp only [List.getElem_toArray, List.getElem_cons_zero, List.getElem_cons_succ, Act.put, List.setIfInBounds_toArray, List.set_cons_zero, List.set_cons_succ])
              refine wpAnyH_take (i := 15) (v := .int .i64 n) rfl (by kernel_rfl) (by kernel_rfl) (by kernel_rfl) (fun _ _ _ h => h) (.inl ⟨by rfl, by intro w hS; have c1 := (BR.out w hS).2.2; clear hS; go_simp⟩) hH ?_
              (try dsimp only [Act.put]); (try simp only [List.getElem_toArray, List.getElem_cons_zero, List.getElem_cons_succ, Act.put, List.setIfInBounds_toArray, List.set_cons_zero, List.set_cons_succ])
              refine wpAnyH_take (i := 16) (v := .pointer (some ⟨r, 0, none⟩)) rfl (by kernel_rfl) (by kernel_rfl) (by kernel_rfl) (fun _ _ _ h => h) (.inl ⟨by rfl, by intro w hS; go_simp⟩) hH ?_
              (try dsimp only [Act.put]); (try simp only [List.getElem_toArray, List.getElem_cons_zero, List.getElem_cons_succ, Act.put, List.setIfInBounds_toArray, List.set_cons_zero, List.set_cons_succ])
              refine wpAnyH_take (i := 17) (v := .pointer (some ⟨r, 0, none⟩)) rfl (by kernel_rfl) (by kernel_rfl) (by kernel_rfl) (fun _ _ _ h => h) (.inl ⟨by rfl, by intro w hS; go_simp⟩) hH ?_
              (try dsimp only [Act.put]); (try simp only [List.getElem_toArray, List.getElem_cons_zero, List.getElem_cons_succ, Act.put, List.setIfInBounds_toArray, List.set_cons_zero, List.set_cons_succ])
              refine wpAnyH_take (i := 18) (v := .pointer (some ⟨r, 2, none⟩)) rfl (by kernel_rfl) (by kernel_rfl) (by kernel_rfl) (fun _ _ _ h => h) (.inl ⟨by rfl, by intro w hS; go_simp⟩) hH ?_
              (try dsimp only [Act.put]); (try simp only [List.getElem_toArray, List.getElem_cons_zero, List.getElem_cons_succ, Act.put, List.setIfInBounds_toArray, List.set_cons_zero, List.set_cons_succ])
              refine wpAnyH_take (i := 19) (v := .slice xt NT ct) rfl (by kernel_rfl) (by kernel_rfl) (by kernel_rfl) (fun _ _ _ h => h) (.inl ⟨by rfl, by intro w hS; have c1 := (BR.out w hS).2.1; clear hS; go_simp⟩) hH ?_
              (try dsimp only [Act.put]); (try simp only [List.getElem_toArray, List.getElem_cons_zero, List.getElem_cons_succ, Act.put, List.setIfInBounds_toArray, List.set_cons_zero, List.set_cons_succ])
              refine wpAnyH_take (i := 20) (v := .int .i64 NT) rfl (by kernel_rfl) (by kernel_rfl) (by kernel_rfl) (fun _ _ _ h => h) (.inl ⟨by rfl, by intro w hS; go_simp⟩) hH ?_
              (try dsimp only [Act.put]); (try simp only [List.getElem_toArray, List.getElem_cons_zero, List.getElem_cons_succ, Act.put, List.setIfInBounds_toArray, List.set_cons_zero, List.set_cons_succ])
              refine wpAnyH_take (i := 21) (v := .int .i64 ((n : Int) - NT)) rfl (by kernel_rfl) (by kernel_rfl) (by kernel_rfl) (fun _ _ _ h => h) (.inl ⟨by rfl, by intro w hS; go_simp; rw [IntKind.wrap_i64]; omega⟩) hH ?_
              (try dsimp only [Act.put]); (try simp only [List.getElem_toArray, List.getElem_cons_zero, List.getElem_cons_succ, Act.put, List.setIfInBounds_toArray, List.set_cons_zero, List.set_cons_succ])
              refine wpAnyH_ready (rs := [11]) (by kernel_rfl) (by simp) ?_
              refine AllReadyH.cons rfl (fun K hK => ?_) AllReadyH.nil
              rw [if_pos (by rfl)]
              go_simp
              refine (HLE.out _ A10.out).mono ?_
              rintro e w11 ⟨rfl, k11⟩
              have A11 : Hid (Kep w5 w11) := kep_trans A10.out k11
              refine hK.out _ _ A11.out (fun hH => ?_)
              clear k11
              clear hK K
              (try dsimp only [Act.put]); (try simp only [List.getElem_toArray, List.getElem_cons_zero, List.getElem_cons_succ, Act.put, List.setIfInBounds_toArray, List.set_cons_zero, List.set_cons_succ])
              refine wpAnyH_take (i := 22) (v := .bool true) rfl (by kernel_rfl) (by kernel_rfl) (by kernel_rfl) (fun _ _ _ h => h) (.inl ⟨by rfl, by intro w hS; go_simp⟩) hH ?_
              (try dsimp only [Act.put]); (try simp only [List.getElem_toArray, List.getElem_cons_zero, List.getElem_cons_succ, Act.put, List.setIfInBounds_toArray, List.set_cons_zero, List.set_cons_succ])
              refine wpAnyH_take (i := 23) (v := .bool true) rfl (by kernel_rfl) (by kernel_rfl) (by kernel_rfl) (fun _ _ _ h => h) (.inl ⟨by rfl, by intro w hS; go_simp⟩) hH ?_
              (try dsimp only [Act.put]); (try simp only [List.getElem_toArray, List.getElem_cons_zero, List.getElem_cons_succ, Act.put, List.setIfInBounds_toArray, List.set_cons_zero, List.set_cons_succ])
              refine wpAnyH_take (i := 24) (v := .bool true) rfl (by kernel_rfl) (by kernel_rfl) (by kernel_rfl) (fun _ _ _ h => h) (.inl ⟨by rfl, by intro w hS; go_simp⟩) hH ?_
              (try dsimp only [Act.put]); (try simp only [List.getElem_toArray, List.getElem_cons_zero, List.getElem_cons_succ, Act.put, List.setIfInBounds_toArray, List.set_cons_zero, List.set_cons_succ])
              refine wpAnyH_ready (rs := [25]) (by kernel_rfl) (by simp) ?_
              refine AllReadyH.cons rfl (fun K hK => ?_) AllReadyH.nil
              rw [if_pos (by rfl)]
              go_simp
              refine (HWK.out _ A11.out).mono ?_
              rintro e w12 ⟨rfl, k12⟩
              have A12 : Hid (Kep w5 w12) := kep_trans A11.out k12
              refine hK.out _ _ A12.out (fun hH => ?_)
              clear k12
              clear hK K
              (try dsimp only [Act.put]); (try simp only [List.getElem_toArray, List.getElem_cons_zero, List.getElem_cons_succ, Act.put, List.setIfInBounds_toArray, List.set_cons_zero, List.set_cons_succ])
              refine wpAnyH_take (i := 26) (v := .bool true) rfl (by kernel_rfl) (by kernel_rfl) (by kernel_rfl) (fun _ _ _ h => h) (.inl ⟨by rfl, by intro w hS; go_simp⟩) hH ?_
              (try dsimp only [Act.put]); (try simp only [List.getElem_toArray, List.getElem_cons_zero, List.getElem_cons_succ, Act.put, List.setIfInBounds_toArray, List.set_cons_zero, List.set_cons_succ])
              refine wpAnyH_take (i := 27) (v := .bool true) rfl (by kernel_rfl) (by kernel_rfl) (by kernel_rfl) (fun _ _ _ h => h) (.inl ⟨by rfl, by intro w hS; go_simp⟩) hH ?_
              (try dsimp only [Act.put]); (try simp only [List.getElem_toArray, List.getElem_cons_zero, List.getElem_cons_succ, Act.put, List.setIfInBounds_toArray, List.set_cons_zero, List.set_cons_succ])
              refine wpAnyH_done (by kernel_rfl) ?_ _
              go_wp2_with fail
              go_ret
              exact ⟨rfl, kep_trans KW5.out A12.out⟩

set_option maxRecDepth 100000 in
theorem lifted (os : Os) (started : os.Started) (H : Type) (enc : TypeId × Value → H) :
    ReturnsInHanded {} Try.checked os 7 .any (Rows.shadowUpperSpec.pre6 enc Try.prog Try.f7 Rows.shadowUpperRow.domain false) (Rows.shadowUpperSpec.post enc Try.prog Try.f7 false true false false) := by
  refine returnsInHanded_of_change (C := Try.checked) own started (by kernel_rfl) Try.func7
    (ChangeSpec.witness6 (enc := enc) (C := Try.checked) false ⟨#[], #[.int .u8 0, .slice none 0 0, .slice none 0 0], []⟩ 8 (by kernel_rfl) (by kernel_rfl) (by kernel_rfl) (by kernel_rfl)) ?_
  intro W base args ds gs before hval0 hW hcnd _
  have hval : ∀ (j : Nat) t v, Try.f7.params[j]? = some t → args[j]? = some v → Value.okWide Try.prog W .any base t v := hval0
  have hW' := hW
  obtain ⟨p, q, hA0, hV, rfl, hfz, hnd⟩ := hW
  have hA : DataW.TrodAll enc Try.prog W 0 (fun _ => true) true Try.f7.params.toList args.toList ds p := hA0
  rw [Try.params7] at hA hval
  obtain ⟨v0, vs0, d0, ds0, p0, q0, hargs, rfl, rfl, h0, r0⟩ := trodAll_cons hA
  obtain ⟨v1, vs1, d1, ds1, p1, q1, rfl, rfl, rfl, h1, r1⟩ := trodAll_cons r0
  obtain ⟨v2, vs2, d2, ds2, p2, q2, rfl, rfl, rfl, h2, r2⟩ := trodAll_cons r1
  obtain ⟨rfl, rfl, rfl⟩ := trodAll_nil r2
  obtain rfl : args = #[v0, v1, v2] := by cases args; simp_all
  obtain ⟨rfl, rfl⟩ := trodVars_none hV
  have k0 := h0
  have lt0 : ∀ x ∈ p0, x.block < W.heap.size := by obtain ⟨m, hm⟩ := k0; exact DataW.trod_lt m _ _ _ hm
  obtain ⟨a0, rfl, rfl, rfl, w0⟩ := open_int Try.underlying5 (hval 0 5 v0 rfl rfl) h0
  have k1 := h1
  have lt1 : ∀ x ∈ p1, x.block < W.heap.size := by obtain ⟨m, hm⟩ := k1; exact DataW.trod_lt m _ _ _ hm
  obtain ⟨x1, len1, cap1, rfl⟩ := okWide_slice Try.underlying23 (hval 1 23 v1 rfl rfl)
  obtain ⟨z1, w1⟩ : ∃ zs, IsRow .u32 W x1 len1 cap1 zs := by
    obtain ⟨fuel, hf⟩ := h1
    rcases open_ints Try.underlying23 Try.underlying34 (by kernel_rfl) hf with ⟨hcs, _⟩ | ⟨x, l, c, zs, hcs, _, hl, hm, hz, _, hcell, hwz⟩
    · simp [Value.cells] at hcs
      obtain ⟨rfl, rfl, rfl⟩ := hcs
      exact ⟨[], .inl ⟨rfl, rfl, rfl, rfl⟩⟩
    · simp [Value.cells] at hcs
      obtain ⟨rfl, rfl, rfl⟩ := hcs
      exact ⟨zs, .inr ⟨_, rfl, hl, hm, by simpa using hz, hcell, hwz⟩⟩
  have k2 := h2
  have lt2 : ∀ x ∈ p2, x.block < W.heap.size := by obtain ⟨m, hm⟩ := k2; exact DataW.trod_lt m _ _ _ hm
  obtain ⟨x2, len2, cap2, rfl⟩ := okWide_slice Try.underlying22 (hval 2 22 v2 rfl rfl)
  obtain ⟨z2, w2⟩ : ∃ zs, HstRow W x2 len2 cap2 zs := by
    obtain ⟨fuel, hf⟩ := h2
    exact hsts_of hf
  clear hA0 hval0
  refine (walk a0 w0 x1 len1 cap1 z1 x2 len2 cap2 z2 W w1 w2).mono fun e W' ⟨he, bel0⟩ => ?_
  have bel : Below W.heap.size W W' := bel0
  subst he
  exact ⟨_, rfl, _, _, _, [], _, [], hW', trodAll_mk1 (shut_bool Try.underlying4 _), (trodAll_cons_mk (Below.trod laidOut (by kernel_rfl) (of_decide_eq_true (by kernel_rfl)) k0 bel lt0) (trodAll_cons_mk (Below.trod laidOut (by kernel_rfl) (of_decide_eq_true (by kernel_rfl)) k1 bel lt1) (trodAll_cons_mk (Below.trod laidOut (by kernel_rfl) (of_decide_eq_true (by kernel_rfl)) k2 bel lt2) trodAll_mk0))), rfl, bel.frame _, fun h => by cases h⟩

theorem over : Rows.shadowUpperRow.holds Try.pinned (OpenSpec.ofChange Rows.shadowUpperSpec) :=
  OpenClaim.holds_of_wide 7 Try.f7 rfl rfl rfl rfl rfl rfl rfl ⟨rfl, rfl, rfl, rfl, rfl⟩ rfl rfl rfl rfl rfl (by kernel_rfl) Try.func7 (by kernel_rfl)
    (of_decide_eq_true (by kernel_rfl)) (by unfold Func.isWrapper; first | (rw [if_pos (by decide +kernel)]; kernel_rfl) | (rw [if_neg (by decide +kernel)]; exact ⟨rfl, rfl⟩))
    (fun os started H enc _ => lifted os started H enc)
end Go.Proofs.Ythgkkjcemjadoaa.shadowUpper
namespace Go.Proofs.Ythgkkjcemjadoaa

theorem shadowUpper_holds : Rows.ShadowUpperSaid := shadowUpper.over
#print axioms shadowUpper_holds
end Go.Proofs.Ythgkkjcemjadoaa
