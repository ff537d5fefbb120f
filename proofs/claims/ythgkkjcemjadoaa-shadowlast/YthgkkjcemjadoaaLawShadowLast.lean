/- For every step and every row of steps, the law ShadowLast returns true: a page leads where it was put last. -/
import Derived.Test.YthgkkjcemjadoaaRows
import Derived.Test.YthgkkjcemjadoaaSdworks
import Derived.Test.YthgkkjcemjadoaaSdopen
import Derived.WalkKit
import Derived.ProofKit
import Derived.OpenShut
import Derived.ShutString
import Derived.ChangeOld
import Derived.Below
import Derived.Lib.SmallJoins
namespace Go.Proofs.Ythgkkjcemjadoaa.shadowLast
open Go.ChangeShapes Go.WideShapes Go.ChangeAt Go.RowKit
set_option linter.unusedVariables false
set_option linter.unusedSimpArgs false

theorem own : ownKnob Try.prog.godebug = none := by kernel_rfl
theorem laidOut : laidOutB Try.prog = true := by kernel_rfl

theorem and14 (x : Nat) (hx : x < 4294967296) : bits .or .u32 (bits .and .u32 (x : Int) 14) 1 = ((x % 16 / 2 * 2 + 1 : Nat) : Int) := by
  rw [show (14 : Int) = ((14 : Nat) : Int) from rfl, andN x 14 hx (by decide), show (1 : Int) = ((1 : Nat) : Int) from rfl]
  have h14 : x &&& 14 = x % 16 / 2 * 2 := by
    rw [mask32 x 14 (by decide)]
    have : ∀ r < 32, r &&& 14 = r % 16 / 2 * 2 := by decide
    rw [this _ (Nat.mod_lt _ (by decide))]
    omega
  rw [h14, u32_or_nat _ _ (by omega) (by decide)]
  have : ∀ r < 8, (r * 2) ||| 1 = r * 2 + 1 := by decide
  rw [this _ (by omega)]
/-- A shadow in a round. -/
def LMid (w : World) (wr : World) (p pv R q M k i e : Nat) : Prop :=
  ∃ s B L g m, ShW wr p pv R 40 8 20 q M Z5 s B L g m [] ∧ DInv 8 s B ∧ s.U = [] ∧ s.E.getD i 0 = e ∧ (0 ≤ g ∧ g ≤ (k : Int) + 1) ∧ (0 ≤ m ∧ m ≤ (k : Int) + 1) ∧ Kep w wr
theorem LMid.put {w wr w' : World} {p pv R q M k i e : Nat} (lt : Late w p R q M) {s' : SD} {B' : List Int} {L' : List Bool} {g' m' : Int} (S : ShW w' p pv R 40 8 20 q M Z5 s' B' L' g' m' []) (D : DInv 8 s' B') (hU : s'.U = []) (he : s'.E.getD i 0 = e) (hg : 0 ≤ g' ∧ g' ≤ (k : Int) + 2) (hm : 0 ≤ m' ∧ m' ≤ (k : Int) + 2) (K : Kep w wr) (P : Put [p, R, q, M] wr w') : LMid w w' p pv R q M (k + 1) i e :=
  ⟨s', B', L', g', m', S, D, hU, he, by omega, by omega, K.put P (by unfold Late at lt; simp; omega)⟩
set_option maxHeartbeats 4000000 in
set_option maxRecDepth 100000 in
theorem walk (a0f0 : Int) (w0f0 : (Lit.int .i64 a0f0).wf = true) (a0f1 : Int) (w0f1 : (Lit.int .u32 a0f1).wf = true) (a0f2 : Int) (w0f2 : (Lit.int .i64 a0f2).wf = true) (a0f3 : Int) (w0f3 : (Lit.int .u32 a0f3).wf = true) (x1 : Option Addr) (len1 cap1 : Nat) (z1 : List Hst) (w : World) (w1 : HstRow w x1 len1 cap1 z1) :
    Calls Try.prog 5 #[.agg #[.int .i64 a0f0, .int .u32 a0f1, .int .i64 a0f2, .int .u32 a0f3], .slice x1 len1 cap1] w fun e w' => e = .returned (.bool true) ∧ Kep w w' := by
  have HW : Hid (∀ w, Calls Try.prog 18 #[] w fun e w' => e = .returned (.bool true) ∧ Kep w w') := works16_any
  have HNr : Hid (∀ (va : Nat) w, Calls Try.prog 16 #[.int .u32 va] w fun e w' => e = .returned (.int .u32 (nearF va : Nat)) ∧ w' = w) := near16_any
  have HROW : Hid (HstRow w x1 len1 cap1 z1) := w1
  have hlen := w1.max
  clear w1
  have b1 := u32_of w0f1
  have b3 := u32_of w0f3
  clear w0f0 w0f1 w0f2 w0f3
  obtain ⟨va, rfl⟩ : ∃ va : Nat, a0f1 = va := ⟨a0f1.toNat, by omega⟩
  obtain ⟨x, rfl⟩ : ∃ x : Nat, a0f3 = x := ⟨a0f3.toNat, by omega⟩
  have hz : 0 ≤ IntKind.u64.wrap a0f2 := by rw [IntKind.wrap_u64]; omega
  obtain ⟨fr, hfr, hfrb⟩ : ∃ fr : Nat, wrap64 ((IntKind.u64.wrap a0f2).tmod 40) = (fr : Int) ∧ (fr : Int) < 40 := ⟨((IntKind.u64.wrap a0f2) % 40).toNat, by rw [Int.tmod_eq_emod_of_nonneg hz]; unfold wrap64; omega, by omega⟩
  clear hz
  obtain ⟨na, hna⟩ : ∃ na, Hid (nearF va = na) := ⟨_, rfl⟩
  have HN0 : Hid (∀ w, Calls Try.prog 16 #[.int .u32 va] w fun e w' => e = .returned (.int .u32 na) ∧ w' = w) := fun w => hna.out ▸ near16_any va w
  obtain ⟨v8, h8, h8b⟩ : ∃ v8 : Nat, (na : Int) % 32768 = (v8 : Int) ∧ (v8 : Int) < 32768 := ⟨na % 32768, by omega, by omega⟩
  have HM : Hid (∀ w, Calls Try.prog 8 #[.int .u8 12] w fun e w' => ∃ pv p q R M B, e = .returned (.tuple #[.pointer (some ⟨pv, 0, none⟩), .pointer (some ⟨p, 0, none⟩), .pointer (some ⟨q, 0, none⟩)]) ∧
      ShW w' p pv R 40 8 20 q M Z5 sd0 B (List.replicate 12 false) 0 0 [] ∧ DInv 8 sd0 B ∧ Kep w w' ∧ Late w p R q M) := fun w => made16_any w 12 (by decide)
  have ha14 := and14 x (by omega)
  go_enter Try.func5, Try.ntmps5
  go_wp2_with fail
  refine (HM.out _).mono ?_
  rintro e w1 ⟨pv, p, q, R, M, B, rfl, S1, D1, K1, LT⟩
  have bx : (w.alloc (.cells #[.int .i64 a0f0, .int .u32 va, .int .i64 a0f2, .int .u32 x] 36)).heap[w.heap.size]? = some (.cells #[.int .i64 a0f0, .int .u32 va, .int .i64 a0f2, .int .u32 x] 36 (0, 0)) := hat _ _ _ rfl
  have KW : Hid (Kep w (w.alloc (.cells #[.int .i64 a0f0, .int .u32 va, .int .i64 a0f2, .int .u32 x] 36))) := (Kep.refl _).alloc _
  generalize w.alloc (.cells #[.int .i64 a0f0, .int .u32 va, .int .i64 a0f2, .int .u32 x] 36) = W at bx KW K1 LT
  generalize w.heap.size = gx at bx ⊢
  have bx1 := K1.block bx
  have c1 := cell_of_block (i := 1) bx1
  have c2 := cell_of_block (i := 2) bx1
  have c3 := cell_of_block (i := 3) bx1
  simp at c1 c2 c3
  have BX : Hid (W.heap[gx]? = some (.cells #[.int .i64 a0f0, .int .u32 va, .int .i64 a0f2, .int .u32 x] 36 (0, 0))) := bx
  have HP : Hid (∀ n, Calls Try.prog 20 #[.pointer (some ⟨p, 0, none⟩), .int .u32 v8, .int .i64 fr, .int .u32 x] (w1.drewN n) fun e w' => e = .returned (.bool true) ∧ LMid W w' p pv R q M 0 (v8 / 64) (entN fr x)) := fun n => by
    refine (shput_any _ p pv R 40 8 20 q M Z5 sd0 B _ 0 0 [] (S1.kep ((Kep.refl w1).drewN n)) D1 (by omega) (by omega) v8 (by omega) fr x (by omega)).mono ?_
    rintro e w2 ⟨b, s', B', L', g', m', rfl, S2, D2, P2, ⟨hb, hU, _, _, hE⟩, hg, hm⟩
    obtain rfl : b = true := by
      rw [hb]
      exact decide_eq_true ⟨.inr ⟨by omega, rfl⟩, by omega, by omega, .inr (by rw [nTrue_none]; decide)⟩
    refine ⟨rfl, s', B', L', g', m', S2, D2, hU, ?_, by omega, by omega, (K1.drewN n).put P2 (by unfold Late at LT; simp; omega)⟩
    rw [(hE rfl).1]
    exact gset_eq (by rw [show sd0.E.length = 512 from List.length_replicate]; omega) _
  have LT' : Hid (Late W p R q M) := LT
  clear S1 D1 K1 LT bx bx1 HM
  go_wp2_with fail
  go_quiet ((go_at_call 16; exact (HN0.out _).mono fun _ _ h => ⟨h.1, _, h.2⟩))
  go_wp2_with fail
  refine (HP.out _).mono ?_
  rintro e w2 ⟨rfl, I2⟩
  clear HP c1 c2 c3 HN0
  go_wp2_with fail
  have lgx : gx < W.heap.size := block_lt BX.out
  go_loopw [10] (fun i wr => ∃ k : Nat, (k : Int) ≤ len1 ∧ (k : Int) ≤ 40 ∧ i = .int .i64 (k : Int) ∧ Hid (LMid W wr p pv R q M k (v8 / 64) (entN fr x))) (fun i _ => 40 - (intOf i).toNat)
  case atStart => exact ⟨0, by omega, by omega, rfl, I2⟩
  case round =>
    obtain ⟨k, hkl, hk40, rfl, hI⟩ := hrel
    by_cases hlt : (k : Int) < len1 ∧ (k : Int) < 40
    · obtain ⟨hl, h40⟩ := hlt
      have hIK : Hid (Kep W wr) := by obtain ⟨_, _, _, _, _, _, _, _, _, _, _, K⟩ := hI.out; exact K
      obtain ⟨b, off, st, hst, hok, hx1, hle, hbl, d0, d1, d2, d3⟩ := (HROW.out.kep (kep_trans KW.out hIK.out)).at (k := k) (by omega)
      subst hx1
      have hle' : (len1 : Int) ≤ cap1 := by omega
      obtain ⟨sk, sp, sf, sb⟩ := st
      obtain ⟨hok1, hok2⟩ := hok
      simp only at d0 d1 d2 d3 hok1 hok2
      obtain ⟨on, hon⟩ : ∃ on, Hid (nearF sp = on) := ⟨_, rfl⟩
      have honb : on < 4294967296 := by rw [← hon.out]; exact nearF_lt hok1
      have HN1 : Hid (∀ w, Calls Try.prog 16 #[.int .u32 sp] w fun e w' => e = .returned (.int .u32 on) ∧ w' = w) := fun w => hon.out ▸ near16_any sp w
      have hNEXT : Hid (LMid W wr p pv R q M (k + 1) (v8 / 64) (entN fr x)) := by
        obtain ⟨s, B, L, g, m, S, D, hU, he, hg, hm, K⟩ := hI.out
        exact ⟨s, B, L, g, m, S, D, hU, he, by omega, by omega, K⟩
      have wr8 : IntKind.i64.wrap ((k : Int) + 1) = k + 1 := by rw [IntKind.wrap_i64]; omega
      by_cases hsame : on / 64 = v8 / 64
      · have hq : ((on : Int) / 64 == (v8 : Int) / 64) = true := by simp; omega
        clear hsame d2 d3 hok1 hok2
        go_wp2_with (go_at_call 16; refine (HN1.out _).mono ?_; rintro e wa ⟨rfl, hqa⟩; rw [hqa]; clear hqa wa)
        go_roundw
        case rel => exact ⟨k + 1, by omega, by omega, by go_num, hNEXT⟩
        case measure => simp [intOf]; omega
      · have hq : ((on : Int) / 64 == (v8 : Int) / 64) = false := by simp; omega
        by_cases h2 : sk = 2
        · have hk2 : (sk == 2) = true := by simp [h2]
          clear hsame d2 d3 hok1 hok2 h2
          go_wp2_with (go_at_call 16; refine (HN1.out _).mono ?_; rintro e wa ⟨rfl, hqa⟩; rw [hqa]; clear hqa wa)
          go_roundw
          case rel => exact ⟨k + 1, by omega, by omega, by go_num, hNEXT⟩
          case measure => simp [intOf]; omega
        · have hk2 : (sk == 2) = false := by simp [h2]
          by_cases h1 : sk = 1
          · have hk1 : (sk == 1) = true := by simp [h1]
            have HD : Hid (Calls Try.prog 21 #[.pointer (some ⟨p, 0, none⟩), .int .u32 on] wr fun e w' => e = .returned (.tuple #[]) ∧ LMid W w' p pv R q M (k + 1) (v8 / 64) (entN fr x)) := by
              obtain ⟨s, B, L, g, m, S, D, hU, he, hg, hm, K⟩ := hI.out
              refine (shdrop_any wr p pv R 40 8 20 q M Z5 s B L g m [] S D on honb).mono ?_
              rintro e w' ⟨s', B', rfl, S', D', P', _, hU', hE'⟩
              exact ⟨rfl, LMid.put LT'.out S' D' (hU'.trans hU) (by rw [hE', gset_ne (fun e => hsame e.symm)]; exact he) (by omega) (by omega) K P'⟩
            clear hsame d2 d3 hok1 hok2 h2 h1 hNEXT
            go_wp2_with (go_at_call 16; refine (HN1.out _).mono ?_; rintro e wa ⟨rfl, hqa⟩; rw [hqa]; clear hqa wa)
            refine HD.out.mono ?_
            rintro e w5 ⟨rfl, I5⟩
            go_wp2_with fail
            go_roundw
            case rel => exact ⟨k + 1, by omega, by omega, by go_num, I5⟩
            case measure => simp [intOf]; omega
          · have hk1 : (sk == 1) = false := by simp [h1]
            have HQ : Hid (Calls Try.prog 20 #[.pointer (some ⟨p, 0, none⟩), .int .u32 on, .int .i64 sf, .int .u32 sb] wr.drew fun e w' => (∃ b, e = .returned (.bool b)) ∧ LMid W w' p pv R q M (k + 1) (v8 / 64) (entN fr x)) := by
              obtain ⟨s, B, L, g, m, S, D, hU, he, hg, hm, K⟩ := hI.out
              refine (shput_any wr.drew p pv R 40 8 20 q M Z5 s B L g m [] (S.kep (Kep.refl _).drew) D (by omega) (by omega) on honb sf sb (by omega)).mono ?_
              rintro e w' ⟨b, s', B', L', g', m', rfl, S', D', P', ⟨_, hU', _, hn, hy⟩, hg', hm'⟩
              refine ⟨⟨b, rfl⟩, LMid.put LT'.out S' D' (hU'.trans hU) ?_ (by omega) (by omega) K.drew P'⟩
              cases b
              · rw [(hn rfl).1]; exact he
              · rw [(hy rfl).1, gset_ne (fun e => hsame e.symm)]; exact he
            clear hsame h2 h1 hNEXT
            go_wp2_with (go_at_call 16; refine (HN1.out _).mono ?_; rintro e wa ⟨rfl, hqa⟩; rw [hqa]; clear hqa wa)
            refine wp_region_held_drew (S := fun w' => w'.cell? ⟨b, off + k * 4 + 2, none⟩ = some (.int .i64 sf) ∧ w'.cell? ⟨b, off + k * 4 + 3, none⟩ = some (.int .u32 sb)) (by kernel_rfl) (⟨d2, d3⟩) (fun hH => ?_)
            refine wpAnyH_take (i := 0) (v := .pointer (some ⟨p, 0, none⟩)) rfl (by kernel_rfl) (by kernel_rfl) (by kernel_rfl) (fun _ _ _ h => h) (.inl ⟨by rfl, by intro w hS; go_simp⟩) hH ?_
            (try dsimp only [Act.put]); (try simp only [List.getElem_toArray, List.getElem_cons_zero, List.getElem_cons_succ, Act.put, List.setIfInBounds_toArray, List.set_cons_zero, List.set_cons_succ])
            refine wpAnyH_take (i := 1) (v := .int .u32 on) rfl (by kernel_rfl) (by kernel_rfl) (by kernel_rfl) (fun _ _ _ h => h) (.inl ⟨by rfl, by intro w hS; go_simp⟩) hH ?_
            (try dsimp only [Act.put]); (try simp only [List.getElem_toArray, List.getElem_cons_zero, List.getElem_cons_succ, Act.put, List.setIfInBounds_toArray, List.set_cons_zero, List.set_cons_succ])
            refine wpAnyH_take (i := 2) (v := .slice (some ⟨b, off, none⟩) len1 cap1) rfl (by kernel_rfl) (by kernel_rfl) (by kernel_rfl) (fun _ _ _ h => h) (.inl ⟨by rfl, by intro w hS; go_simp⟩) hH ?_
            (try dsimp only [Act.put]); (try simp only [List.getElem_toArray, List.getElem_cons_zero, List.getElem_cons_succ, Act.put, List.setIfInBounds_toArray, List.set_cons_zero, List.set_cons_succ])
            refine wpAnyH_take (i := 3) (v := .int .i64 k) rfl (by kernel_rfl) (by kernel_rfl) (by kernel_rfl) (fun _ _ _ h => h) (.inl ⟨by rfl, by intro w hS; go_simp⟩) hH ?_
            (try dsimp only [Act.put]); (try simp only [List.getElem_toArray, List.getElem_cons_zero, List.getElem_cons_succ, Act.put, List.setIfInBounds_toArray, List.set_cons_zero, List.set_cons_succ])
            refine wpAnyH_take (i := 4) (v := .pointer (some ⟨b, off + k * 4, none⟩)) rfl (by kernel_rfl) (by kernel_rfl) (by kernel_rfl) (fun _ _ _ h => h) (.inl ⟨by rfl, by intro w hS; go_simp⟩) hH ?_
            (try dsimp only [Act.put]); (try simp only [List.getElem_toArray, List.getElem_cons_zero, List.getElem_cons_succ, Act.put, List.setIfInBounds_toArray, List.set_cons_zero, List.set_cons_succ])
            refine wpAnyH_take (i := 5) (v := .pointer (some ⟨b, off + k * 4 + 2, none⟩)) rfl (by kernel_rfl) (by kernel_rfl) (by kernel_rfl) (fun _ _ _ h => h) (.inl ⟨by rfl, by intro w hS; go_simp⟩) hH ?_
            (try dsimp only [Act.put]); (try simp only [List.getElem_toArray, List.getElem_cons_zero, List.getElem_cons_succ, Act.put, List.setIfInBounds_toArray, List.set_cons_zero, List.set_cons_succ])
            refine wpAnyH_take (i := 6) (v := .int .i64 sf) rfl (by kernel_rfl) (by kernel_rfl) (by kernel_rfl) (fun _ _ _ h => h) (.inl ⟨by rfl, by intro w hS; have c := hS.1; clear hS; go_simp⟩) hH ?_
            (try dsimp only [Act.put]); (try simp only [List.getElem_toArray, List.getElem_cons_zero, List.getElem_cons_succ, Act.put, List.setIfInBounds_toArray, List.set_cons_zero, List.set_cons_succ])
            refine wpAnyH_take (i := 7) (v := .slice (some ⟨b, off, none⟩) len1 cap1) rfl (by kernel_rfl) (by kernel_rfl) (by kernel_rfl) (fun _ _ _ h => h) (.inl ⟨by rfl, by intro w hS; go_simp⟩) hH ?_
            (try dsimp only [Act.put]); (try simp only [List.getElem_toArray, List.getElem_cons_zero, List.getElem_cons_succ, Act.put, List.setIfInBounds_toArray, List.set_cons_zero, List.set_cons_succ])
            refine wpAnyH_take (i := 8) (v := .int .i64 k) rfl (by kernel_rfl) (by kernel_rfl) (by kernel_rfl) (fun _ _ _ h => h) (.inl ⟨by rfl, by intro w hS; go_simp⟩) hH ?_
            (try dsimp only [Act.put]); (try simp only [List.getElem_toArray, List.getElem_cons_zero, List.getElem_cons_succ, Act.put, List.setIfInBounds_toArray, List.set_cons_zero, List.set_cons_succ])
            refine wpAnyH_take (i := 9) (v := .pointer (some ⟨b, off + k * 4, none⟩)) rfl (by kernel_rfl) (by kernel_rfl) (by kernel_rfl) (fun _ _ _ h => h) (.inl ⟨by rfl, by intro w hS; go_simp⟩) hH ?_
            (try dsimp only [Act.put]); (try simp only [List.getElem_toArray, List.getElem_cons_zero, List.getElem_cons_succ, Act.put, List.setIfInBounds_toArray, List.set_cons_zero, List.set_cons_succ])
            refine wpAnyH_take (i := 10) (v := .pointer (some ⟨b, off + k * 4 + 3, none⟩)) rfl (by kernel_rfl) (by kernel_rfl) (by kernel_rfl) (fun _ _ _ h => h) (.inl ⟨by rfl, by intro w hS; go_simp⟩) hH ?_
            (try dsimp only [Act.put]); (try simp only [List.getElem_toArray, List.getElem_cons_zero, List.getElem_cons_succ, Act.put, List.setIfInBounds_toArray, List.set_cons_zero, List.set_cons_succ])
            refine wpAnyH_take (i := 11) (v := .int .u32 sb) rfl (by kernel_rfl) (by kernel_rfl) (by kernel_rfl) (fun _ _ _ h => h) (.inl ⟨by rfl, by intro w hS; have c := hS.2; clear hS; go_simp⟩) hH ?_
            (try dsimp only [Act.put]); (try simp only [List.getElem_toArray, List.getElem_cons_zero, List.getElem_cons_succ, Act.put, List.setIfInBounds_toArray, List.set_cons_zero, List.set_cons_succ])
            refine wpAnyH_ready (rs := [12]) (by kernel_rfl) (by simp) ?_
            refine AllReadyH.cons rfl (fun K hK => ?_) AllReadyH.nil
            rw [if_pos (by rfl)]
            go_simp
            refine HQ.out.mono ?_
            rintro e w5 ⟨⟨pb, rfl⟩, I5⟩
            have kw5 : Kep w w5 := by obtain ⟨_, _, _, _, _, _, _, _, _, _, _, K⟩ := I5; exact kep_trans KW.out K
            obtain ⟨b2, off2, st2, e2, _, hx2, _, _, q0, q1, q2, q3⟩ := (HROW.out.kep kw5).at (k := k) (by omega)
            have I5h : Hid (LMid W w5 p pv R q M (k + 1) (v8 / 64) (entN fr x)) := I5
            simp only [Option.some.injEq, Addr.mk.injEq, and_true] at hx2
            obtain ⟨rfl, rfl⟩ := hx2
            obtain rfl : (⟨sk, sp, sf, sb⟩ : Hst) = st2 := Option.some.inj (hst.symm.trans e2)
            refine hK.out _ _ ⟨q2, q3⟩ (fun hH => ?_)
            clear q0 q1 q2 q3 kw5 I5 e2
            clear hK K
            (try dsimp only [Act.put]); (try simp only [List.getElem_toArray, List.getElem_cons_zero, List.getElem_cons_succ, Act.put, List.setIfInBounds_toArray, List.set_cons_zero, List.set_cons_succ])
            refine wpAnyH_done (by kernel_rfl) ?_ _
            go_wp2_with fail
            go_roundw
            case rel => exact ⟨k + 1, by omega, by omega, by go_num, I5h⟩
            case measure => simp [intOf]; omega
    · obtain ⟨s, B, L, g, m, S, D, hU, he, hg, hm, K⟩ := hI.out
      have hcs : ¬ (k : Int) < len1 ∨ ((k : Int) < len1 ∧ ¬ (k : Int) < 40) := by omega
      have BXr := K.block BX.out
      have c3 : wr.cell? ⟨gx, 3, none⟩ = some (.int .u32 x) := by rw [cell_of_block BXr]; rfl
      have HR : Hid (Calls Try.prog 15 #[.pointer (some ⟨p, 0, none⟩)] wr fun e w' => e = .returned (.int .u32 512) ∧ w' = wr) := shroot_any wr p pv 8 S.sh.c0 S.sh.c2
      have hent := entN_ok (n := 40) x (show fr < 40 by omega)
      obtain ⟨y, hy, y1, y2, y3⟩ := look_sd_some S.inv D (va := v8) (by omega) (.inr hU) (by rw [he]; exact hent.2)
      rw [he] at y1 y2 y3
      have y1' : y.page = fr := by rw [y1]; unfold entN; omega
      have y2' : y.bits = x % 16 / 2 * 2 + 1 := by rw [y2]; unfold entN; omega
      have HL : Hid (Calls Try.prog 14 #[.pointer (some ⟨pv, 0, none⟩), .int .u32 512, .int .i64 32, .int .u32 v8] wr fun e w' => e = .returned (.tuple (wyR (some y))) ∧ Kep wr w') := by
        have := shlook_any S v8 (by omega)
        rw [hy] at this
        exact this
      have KR : Hid (Kep w wr) := kep_trans KW.out K
      have lgr : gx < wr.heap.size := block_lt BXr
      rw [← y2'] at ha14
      obtain ⟨yb, ya, ye, yd, yt, yp⟩ := y
      simp only at y1' ha14
      subst y1'
      clear S D hU he hg hm K y1 y2 y3 y2' hy hent hI hlt BXr hkl hk40
      clear h8 h8b
      rcases hcs with hcs | ⟨hcs, hcs2⟩
      all_goals
        go_wp2_with (go_at_call 15; refine HR.out.mono ?_; rintro e wa ⟨rfl, hqa⟩; rw [hqa]; clear hqa wa)
        refine HL.out.mono ?_
        rintro e w3 ⟨rfl, K3⟩
        simp only [wyR, wyV, wayV]
        have c3' : w3.cell? ⟨gx, 3, none⟩ = some (.int .u32 x) := (K3.cell lgr).trans c3
        have hgx3 : gx < w3.heap.size := K3.lt lgr
        go_wp2_with (go_at_call 18; refine (HW.out _).mono ?_; rintro e w4 ⟨rfl, KW4⟩)
        go_ret
        exact ⟨rfl, kep_trans ((kep_trans KR.out K3).alloc _) KW4⟩

set_option maxRecDepth 100000 in
theorem lifted (os : Os) (started : os.Started) (H : Type) (enc : TypeId × Value → H) :
    ReturnsInHanded {} Try.checked os 5 .any (Rows.shadowLastSpec.pre6 enc Try.prog Try.f5 Rows.shadowLastRow.domain false) (Rows.shadowLastSpec.post enc Try.prog Try.f5 false true false false) := by
  refine returnsInHanded_of_change (C := Try.checked) own started (by kernel_rfl) Try.func5
    (ChangeSpec.witness6 (enc := enc) (C := Try.checked) false ⟨#[], #[.agg #[.int .i64 0, .int .u32 0, .int .i64 0, .int .u32 0], .slice none 0 0], []⟩ 8 (by kernel_rfl) (by kernel_rfl) (by kernel_rfl) (by kernel_rfl)) ?_
  intro W base args ds gs before hval0 hW hcnd _
  have hval : ∀ (j : Nat) t v, Try.f5.params[j]? = some t → args[j]? = some v → Value.okWide Try.prog W .any base t v := hval0
  have hW' := hW
  obtain ⟨p, q, hA0, hV, rfl, hfz, hnd⟩ := hW
  have hA : DataW.TrodAll enc Try.prog W 0 (fun _ => true) true Try.f5.params.toList args.toList ds p := hA0
  rw [Try.params5] at hA hval
  obtain ⟨v0, vs0, d0, ds0, p0, q0, hargs, rfl, rfl, h0, r0⟩ := trodAll_cons hA
  obtain ⟨v1, vs1, d1, ds1, p1, q1, rfl, rfl, rfl, h1, r1⟩ := trodAll_cons r0
  obtain ⟨rfl, rfl, rfl⟩ := trodAll_nil r1
  obtain rfl : args = #[v0, v1] := by cases args; simp_all
  obtain ⟨rfl, rfl⟩ := trodVars_none hV
  have k0 := h0
  have lt0 : ∀ x ∈ p0, x.block < W.heap.size := by obtain ⟨m, hm⟩ := k0; exact DataW.trod_lt m _ _ _ hm
  obtain ⟨c0f0, c0f1, c0f2, c0f3, y0f0, y0f1, y0f2, y0f3, m0, rfl, _, _, e0f0, e0f1, e0f2, e0f3⟩ := Joins.open_agg4 Try.underlying36 (by kernel_rfl) (show Try.prog.cellsOf 36 = 4 by kernel_rfl) (hval 0 36 v0 rfl rfl) h0
  obtain ⟨a0f0, q0f0, _, w0f0⟩ := DataW.trod_int Try.underlying3 e0f0
  obtain rfl : c0f0 = .int .i64 a0f0 := by simpa using q0f0
  obtain ⟨a0f1, q0f1, _, w0f1⟩ := DataW.trod_int Try.underlying34 e0f1
  obtain rfl : c0f1 = .int .u32 a0f1 := by simpa using q0f1
  obtain ⟨a0f2, q0f2, _, w0f2⟩ := DataW.trod_int Try.underlying3 e0f2
  obtain rfl : c0f2 = .int .i64 a0f2 := by simpa using q0f2
  obtain ⟨a0f3, q0f3, _, w0f3⟩ := DataW.trod_int Try.underlying34 e0f3
  obtain rfl : c0f3 = .int .u32 a0f3 := by simpa using q0f3
  have k1 := h1
  have lt1 : ∀ x ∈ p1, x.block < W.heap.size := by obtain ⟨m, hm⟩ := k1; exact DataW.trod_lt m _ _ _ hm
  obtain ⟨x1, len1, cap1, rfl⟩ := okWide_slice Try.underlying22 (hval 1 22 v1 rfl rfl)
  obtain ⟨z1, w1⟩ : ∃ zs, HstRow W x1 len1 cap1 zs := by
    obtain ⟨fuel, hf⟩ := h1
    exact hsts_of hf
  clear hA0 hval0
  refine (walk a0f0 w0f0 a0f1 w0f1 a0f2 w0f2 a0f3 w0f3 x1 len1 cap1 z1 W w1).mono fun e W' ⟨he, bel0⟩ => ?_
  have bel : Below W.heap.size W W' := bel0
  subst he
  exact ⟨_, rfl, _, _, _, [], _, [], hW', trodAll_mk1 (shut_bool Try.underlying4 _), (trodAll_cons_mk (Below.trod laidOut (by kernel_rfl) (of_decide_eq_true (by kernel_rfl)) k0 bel lt0) (trodAll_cons_mk (Below.trod laidOut (by kernel_rfl) (of_decide_eq_true (by kernel_rfl)) k1 bel lt1) trodAll_mk0)), rfl, bel.frame _, fun h => by cases h⟩

theorem over : Rows.shadowLastRow.holds Try.pinned (OpenSpec.ofChange Rows.shadowLastSpec) :=
  OpenClaim.holds_of_wide 5 Try.f5 rfl rfl rfl rfl rfl rfl rfl ⟨rfl, rfl, rfl, rfl, rfl⟩ rfl rfl rfl rfl rfl (by kernel_rfl) Try.func5 (by kernel_rfl)
    (of_decide_eq_true (by kernel_rfl)) (by unfold Func.isWrapper; first | (rw [if_pos (by decide +kernel)]; kernel_rfl) | (rw [if_neg (by decide +kernel)]; exact ⟨rfl, rfl⟩))
    (fun os started H enc _ => lifted os started H enc)
end Go.Proofs.Ythgkkjcemjadoaa.shadowLast
namespace Go.Proofs.Ythgkkjcemjadoaa

theorem shadowLast_holds : Rows.ShadowLastSaid := shadowLast.over
#print axioms shadowLast_holds
end Go.Proofs.Ythgkkjcemjadoaa
