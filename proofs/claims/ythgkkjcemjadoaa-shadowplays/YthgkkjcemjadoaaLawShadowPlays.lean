/- For every number of frames, every row of steps and of addresses, the law ShadowPlays returns true: whatever is put, dropped and cleared, all pages lead where the document says. -/
import Derived.Test.YthgkkjcemjadoaaRows
import Derived.Test.YthgkkjcemjadoaaSdplay
import Derived.WalkKit
import Derived.ProofKit
import Derived.OpenShut
import Derived.ShutString
import Derived.ChangeOld
import Derived.Below
import Derived.Lib.SmallJoins
namespace Go.Proofs.Ythgkkjcemjadoaa.shadowPlays
open Go.ChangeShapes Go.WideShapes Go.ChangeAt Go.RowKit
set_option linter.unusedVariables false
set_option linter.unusedSimpArgs false

theorem own : ownKnob Try.prog.godebug = none := by kernel_rfl
theorem laidOut : laidOutB Try.prog = true := by kernel_rfl

set_option maxHeartbeats 8000000 in
set_option maxRecDepth 100000 in
theorem walk (a0 : Int) (w0 : (Lit.int .u8 a0).wf = true) (x1 : Option Addr) (len1 cap1 : Nat) (z1 : List Hst) (x2 : Option Addr) (len2 cap2 : Nat) (z2 : List Int) (w : World) (w1 : HstRow w x1 len1 cap1 z1) (w2 : IsRow .u32 w x2 len2 cap2 z2) :
    Calls Try.prog 3 #[.int .u8 a0, .slice x1 len1 cap1, .slice x2 len2 cap2] w fun e w' => e = .returned (.bool true) ∧ Kep w w' := by
  have b0 : 0 ≤ a0 ∧ a0 < 256 := by simp [Lit.wf, IntKind.min, IntKind.max, IntKind.signed, IntKind.bits] at w0; omega
  have HW : Hid (∀ w, Calls Try.prog 18 #[] w fun e w' => e = .returned (.bool true) ∧ Kep w w') := works16_any
  have HROW : Hid (HstRow w x1 len1 cap1 z1) := w1
  have hlen := w1.max
  have HMORE : Hid (IsRow .u32 w x2 len2 cap2 z2) := w2
  have hlen2 := w2.max
  clear w0 w1 w2
  obtain ⟨most, rfl⟩ : ∃ n : Nat, a0 = n := ⟨a0.toNat, by omega⟩
  have hmb : most < 256 := by omega
  have HM : Hid (∀ w, Calls Try.prog 8 #[.int .u8 most] w fun e w' => ∃ pv p q R M B, e = .returned (.tuple #[.pointer (some ⟨pv, 0, none⟩), .pointer (some ⟨p, 0, none⟩), .pointer (some ⟨q, 0, none⟩)]) ∧
      ShW w' p pv R 40 8 20 q M Z5 sd0 B (List.replicate (most % 13) false) 0 0 [] ∧ DInv 8 sd0 B ∧ Kep w w' ∧ Late w p R q M) := fun w => made16_any w most hmb
  obtain ⟨n, hn, hnb, hn12⟩ : ∃ n : Nat, Hid (most % 13 = n) ∧ (n : Int) ≤ 12 ∧ Hid (n ≤ 12) := ⟨_, rfl, by omega, by rw [Hid]; omega⟩
  have hmn : (most : Int).tmod 13 = n := by have := hn.out; rw [Int.tmod_eq_emod_of_nonneg (by omega)]; omega
  rw [hn.out] at HM
  clear hmb
  go_enter Try.func3, Try.ntmps3
  go_wp2_with fail
  refine (HM.out _).mono ?_
  rintro e w1 ⟨pv, p, q, R, M, B, rfl, S1, D1, K1, LT⟩
  have I1 : Hid (DR w (w1.alloc (.cells #[.int .i64 40, .slice none 0 0, .slice none 0 0, .int .i64 n] 32)) p pv R q M w1.heap.size w1.heap.size n [] [] 0) := DR.begin S1 D1 K1 LT
  clear S1 D1 K1 LT HM
  go_wp2_with fail
  generalize w1.alloc (.cells #[.int .i64 40, .slice none 0 0, .slice none 0 0, .int .i64 n] 32) = W1 at I1 ⊢
  generalize w1.heap.size = r at I1 ⊢
  go_loopw [11] (fun i wr => ∃ k : Nat, (k : Int) ≤ len1 ∧ (k : Int) ≤ 60 ∧ i = .int .i64 k ∧ Hid (DR w wr p pv R q M r r n [] [] k)) (fun i _ => 60 - (intOf i).toNat)
  case atStart => exact ⟨0, by omega, by omega, rfl, I1⟩
  case round =>
    obtain ⟨k, hkl, hk60, rfl, hI⟩ := hrel
    by_cases hlt : (k : Int) < len1 ∧ (k : Int) < 60
    · obtain ⟨hl, h60⟩ := hlt
      obtain ⟨b, off, st, hst, hok, hx1, hle, hbl, d0, d1, d2, d3⟩ := (HROW.out.kep hI.out.kep).at (k := k) (by omega)
      subst hx1
      have hle' : (len1 : Int) ≤ cap1 := by omega
      obtain ⟨sk, sp, sf, sb⟩ := st
      simp only at d0 d1 d2 d3
      have HDO : Hid (Calls Try.prog 9 #[.pointer (some ⟨p, 0, none⟩), .pointer (some ⟨r, 0, none⟩), .agg #[.int .i64 sk, .int .u32 sp, .int .i64 sf, .int .u32 sb]] wr fun e w' => e = .returned (.bool true) ∧ DR w w' p pv R q M r r n [] [] (k + 1)) := do16_any w wr p pv R q M r r n [] k hI.out (by omega) hn12.out sk sp sf sb hok
      clear hok hle hbl hst hI
      go_wp2_with (go_at_call 9; refine HDO.out.mono ?_; rintro e w5 ⟨rfl, I5⟩)
      go_roundw
      case rel => exact ⟨k + 1, by omega, by omega, by go_num, I5⟩
      case measure => simp [intOf]; omega
    · obtain ⟨s, B, L, T, P, F, G, g, m, D, E, hU, _⟩ := hI.out
      have hend : ¬ (k : Int) < len1 ∨ ((k : Int) < len1 ∧ ¬ (k : Int) < 60) := by omega
      clear hI hlt I1
      have D' : Hid (DM w wr p pv R q M r r n [] s B L T P F G g m) := D
      have E' : Hid (DEq s L T P n) := E
      have U' : Hid (s.U = []) := hU
      have hnz := pg_nz D.sh.inv.lE
      rw [← E.pages] at hnz
      obtain ⟨NP, hNP⟩ : ∃ NP, Hid (P.length = NP) := ⟨_, rfl⟩
      have hNPb : (NP : Int) ≤ 512 := by have := hNP.out; have := pg_len s.E 0; have := D.sh.inv.lE; rw [E.pages] at *; omega
      obtain ⟨NT, hNT⟩ : ∃ NT, Hid (T.length = NT) := ⟨_, rfl⟩
      have hNTb : (NT : Int) ≤ n := by have := hNT.out; have := E.len; have := nTrue_le L; have := E.most; omega
      have HPG : Hid (Calls Try.prog 10 #[.pointer (some ⟨p, 0, none⟩)] wr fun e w' => ∃ (x : Option Addr) (cap : Nat), e = .returned (.slice x NP cap) ∧ LU w' x (nz s.E 512) ∧ NP ≤ cap ∧ Kep wr w') := by
        have := shpages_le D.sh.sh
        rw [hnz.1, hNP.out] at this
        exact this
      have hNZ : Hid (∀ k (hk : k < P.length), (nz s.E 512).getD k 0 = 64 * (P[k]).1) := hnz.2
      have hNL : Hid ((nz s.E 512).length = NP) := hnz.1.trans hNP.out
      clear D E hU hnz
      rcases hend with hq | ⟨hq, hq'⟩
      all_goals
        go_wp2_with fail
        refine HPG.out.mono ?_
        rintro e w5 ⟨xg, cg, rfl, hLU, hcg, K5⟩
        have D5 : Hid (DM w w5 p pv R q M r r n [] s B L T P F G g m) := D'.out.kp K5
        have LU5 : Hid (LU w5 xg (nz s.E 512)) := hLU
        have hcg' : (NP : Int) ≤ cg := by omega
        clear hLU hcg K5 D' HPG hq
        obtain ⟨pvv, tvv, hb, hp, ht⟩ := D5.out.ref.box
        obtain ⟨xp, cp, rfl, hlp, hcp, _, _⟩ := hp.lies
        obtain ⟨xt, ct, rfl, hlt2, hct, _, _⟩ := ht.lies
        have LP5 : Hid (Lies w5 xp (pgV P)) := hlp
        have LT5 : Hid (Lies w5 xt (u32s T)) := hlt2
        have hcp' : (NP : Int) ≤ cp := by have := hNP.out; omega
        have hct' : (NT : Int) ≤ ct := by have := hNT.out; omega
        have BR : Hid (∀ W, Kep w5 W → W.cell? ⟨r, 1, none⟩ = some (.slice xp NP cp) ∧ W.cell? ⟨r, 2, none⟩ = some (.slice xt NT ct) ∧ W.cell? ⟨r, 3, none⟩ = some (.int .i64 n)) := fun W k => by
          have := k.block hb
          rw [hNP.out, hNT.out] at this
          refine ⟨?_, ?_, ?_⟩ <;> (rw [cell_of_block this]; rfl)
        have HLE : Hid (∀ W, Kep w5 W → Calls Try.prog 11 #[.pointer (some ⟨q, 0, none⟩)] W fun e w' => e = .returned (.int .i64 ((n : Int) - NT)) ∧ Kep W w') := fun W k => by
          have := pleft_any W q M 20 L g m (D5.out.kp k).sh.pool
          rw [E'.out.most, ← E'.out.len, hNT.out] at this
          exact this
        have HTB : Hid (∀ W, Kep w5 W → Calls Try.prog 12 #[.pointer (some ⟨p, 0, none⟩)] W fun e w' => e = .returned (.int .i64 NT) ∧ Kep W w') := fun W k => by
          have := shtables_any (D5.out.kp k).sh.sh
          rw [← (D5.out.kp k).sh.inv.cnt, ← E'.out.len, hNT.out] at this
          exact this
        clear hb hp ht hlp hlt2 hcp hct
        go_wp2_with fail
        refine wp_region_held_drew (S := fun w' => Kep w5 w') (by kernel_rfl) ((Kep.refl w5).drew) (fun hH => ?_)
        refine wpAnyH_take (i := 0) (v := .slice xg NP cg) rfl (by kernel_rfl) (by kernel_rfl) (by kernel_rfl) (fun _ _ _ h => h) (.inl ⟨by rfl, by intro w hS; go_simp⟩) hH ?_
        (try dsimp only [Act.put]); (try simp only [List.getElem_toArray, List.getElem_cons_zero, List.getElem_cons_succ, Act.put, List.setIfInBounds_toArray, List.set_cons_zero, List.set_cons_succ])
        refine wpAnyH_take (i := 1) (v := .int .i64 NP) rfl (by kernel_rfl) (by kernel_rfl) (by kernel_rfl) (fun _ _ _ h => h) (.inl ⟨by rfl, by intro w hS; go_simp⟩) hH ?_
        (try dsimp only [Act.put]); (try simp only [List.getElem_toArray, List.getElem_cons_zero, List.getElem_cons_succ, Act.put, List.setIfInBounds_toArray, List.set_cons_zero, List.set_cons_succ])
        refine wpAnyH_take (i := 2) (v := .pointer (some ⟨r, 0, none⟩)) rfl (by kernel_rfl) (by kernel_rfl) (by kernel_rfl) (fun _ _ _ h => h) (.inl ⟨by rfl, by intro w hS; go_simp⟩) hH ?_
        (try dsimp only [Act.put]); (try simp only [List.getElem_toArray, List.getElem_cons_zero, List.getElem_cons_succ, Act.put, List.setIfInBounds_toArray, List.set_cons_zero, List.set_cons_succ])
        refine wpAnyH_take (i := 3) (v := .pointer (some ⟨r, 0, none⟩)) rfl (by kernel_rfl) (by kernel_rfl) (by kernel_rfl) (fun _ _ _ h => h) (.inl ⟨by rfl, by intro w hS; go_simp⟩) hH ?_
        (try dsimp only [Act.put]); (try simp only [List.getElem_toArray, List.getElem_cons_zero, List.getElem_cons_succ, Act.put, List.setIfInBounds_toArray, List.set_cons_zero, List.set_cons_succ])
        refine wpAnyH_take (i := 4) (v := .pointer (some ⟨r, 1, none⟩)) rfl (by kernel_rfl) (by kernel_rfl) (by kernel_rfl) (fun _ _ _ h => h) (.inl ⟨by rfl, by intro w hS; go_simp⟩) hH ?_
        (try dsimp only [Act.put]); (try simp only [List.getElem_toArray, List.getElem_cons_zero, List.getElem_cons_succ, Act.put, List.setIfInBounds_toArray, List.set_cons_zero, List.set_cons_succ])
        refine wpAnyH_take (i := 5) (v := .slice xp NP cp) rfl (by kernel_rfl) (by kernel_rfl) (by kernel_rfl) (fun _ _ _ h => h) (.inl ⟨by rfl, by intro w hS; have c1 := (BR.out w hS).1; clear hS; go_simp⟩) hH ?_
        (try dsimp only [Act.put]); (try simp only [List.getElem_toArray, List.getElem_cons_zero, List.getElem_cons_succ, Act.put, List.setIfInBounds_toArray, List.set_cons_zero, List.set_cons_succ])
        refine wpAnyH_take (i := 6) (v := .int .i64 NP) rfl (by kernel_rfl) (by kernel_rfl) (by kernel_rfl) (fun _ _ _ h => h) (.inl ⟨by rfl, by intro w hS; go_simp⟩) hH ?_
        (try dsimp only [Act.put]); (try simp only [List.getElem_toArray, List.getElem_cons_zero, List.getElem_cons_succ, Act.put, List.setIfInBounds_toArray, List.set_cons_zero, List.set_cons_succ])
        refine wpAnyH_take (i := 7) (v := .bool false) rfl (by kernel_rfl) (by kernel_rfl) (by kernel_rfl) (fun _ _ _ h => h) (.inl ⟨by rfl, by intro w hS; go_simp⟩) hH ?_
        (try dsimp only [Act.put]); (try simp only [List.getElem_toArray, List.getElem_cons_zero, List.getElem_cons_succ, Act.put, List.setIfInBounds_toArray, List.set_cons_zero, List.set_cons_succ])
        refine wpAnyH_take (i := 8) (v := .bool false) rfl (by kernel_rfl) (by kernel_rfl) (by kernel_rfl) (fun _ _ _ h => h) (.inl ⟨by rfl, by intro w hS; go_simp⟩) hH ?_
        (try dsimp only [Act.put]); (try simp only [List.getElem_toArray, List.getElem_cons_zero, List.getElem_cons_succ, Act.put, List.setIfInBounds_toArray, List.set_cons_zero, List.set_cons_succ])
        refine wpAnyH_take (i := 9) (v := .pointer (some ⟨q, 0, none⟩)) rfl (by kernel_rfl) (by kernel_rfl) (by kernel_rfl) (fun _ _ _ h => h) (.inl ⟨by rfl, by intro w hS; go_simp⟩) hH ?_
        (try dsimp only [Act.put]); (try simp only [List.getElem_toArray, List.getElem_cons_zero, List.getElem_cons_succ, Act.put, List.setIfInBounds_toArray, List.set_cons_zero, List.set_cons_succ])
        refine wpAnyH_take (i := 11) (v := .pointer (some ⟨r, 0, none⟩)) rfl (by kernel_rfl) (by kernel_rfl) (by kernel_rfl) (fun _ _ _ h => h) (.inl ⟨by rfl, by intro w hS; go_simp⟩) hH ?_
        (try dsimp only [Act.put]); (try simp only [List.getElem_toArray, List.getElem_cons_zero, List.getElem_cons_succ, Act.put, List.setIfInBounds_toArray, List.set_cons_zero, List.set_cons_succ])
        refine wpAnyH_take (i := 12) (v := .pointer (some ⟨r, 0, none⟩)) rfl (by kernel_rfl) (by kernel_rfl) (by kernel_rfl) (fun _ _ _ h => h) (.inl ⟨by rfl, by intro w hS; go_simp⟩) hH ?_
        (try dsimp only [Act.put]); (try simp only [List.getElem_toArray, List.getElem_cons_zero, List.getElem_cons_succ, Act.put, List.setIfInBounds_toArray, List.set_cons_zero, List.set_cons_succ])
        refine wpAnyH_take (i := 13) (v := .pointer (some ⟨r, 3, none⟩)) rfl (by kernel_rfl) (by kernel_rfl) (by kernel_rfl) (fun _ _ _ h => h) (.inl ⟨by rfl, by intro w hS; go_simp⟩) hH ?_
        (try dsimp only [Act.put]); (try simp only [List.getElem_toArray, List.getElem_cons_zero, List.getElem_cons_succ, Act.put, List.setIfInBounds_toArray, List.set_cons_zero, List.set_cons_succ])
        refine wpAnyH_take (i := 14) (v := .int .i64 n) rfl (by kernel_rfl) (by kernel_rfl) (by kernel_rfl) (fun _ _ _ h => h) (.inl ⟨by rfl, by intro w hS; have c1 := (BR.out w hS).2.2; clear hS; go_simp⟩) hH ?_
        (try dsimp only [Act.put]); (try simp only [List.getElem_toArray, List.getElem_cons_zero, List.getElem_cons_succ, Act.put, List.setIfInBounds_toArray, List.set_cons_zero, List.set_cons_succ])
        refine wpAnyH_take (i := 15) (v := .pointer (some ⟨r, 0, none⟩)) rfl (by kernel_rfl) (by kernel_rfl) (by kernel_rfl) (fun _ _ _ h => h) (.inl ⟨by rfl, by intro w hS; go_simp⟩) hH ?_
        (try dsimp only [Act.put]); (try simp only [List.getElem_toArray, List.getElem_cons_zero, List.getElem_cons_succ, Act.put, List.setIfInBounds_toArray, List.set_cons_zero, List.set_cons_succ])
        refine wpAnyH_take (i := 16) (v := .pointer (some ⟨r, 0, none⟩)) rfl (by kernel_rfl) (by kernel_rfl) (by kernel_rfl) (fun _ _ _ h => h) (.inl ⟨by rfl, by intro w hS; go_simp⟩) hH ?_
        (try dsimp only [Act.put]); (try simp only [List.getElem_toArray, List.getElem_cons_zero, List.getElem_cons_succ, Act.put, List.setIfInBounds_toArray, List.set_cons_zero, List.set_cons_succ])
        refine wpAnyH_take (i := 17) (v := .pointer (some ⟨r, 2, none⟩)) rfl (by kernel_rfl) (by kernel_rfl) (by kernel_rfl) (fun _ _ _ h => h) (.inl ⟨by rfl, by intro w hS; go_simp⟩) hH ?_
        (try dsimp only [Act.put]); (try simp only [List.getElem_toArray, List.getElem_cons_zero, List.getElem_cons_succ, Act.put, List.setIfInBounds_toArray, List.set_cons_zero, List.set_cons_succ])
        refine wpAnyH_take (i := 18) (v := .slice xt NT ct) rfl (by kernel_rfl) (by kernel_rfl) (by kernel_rfl) (fun _ _ _ h => h) (.inl ⟨by rfl, by intro w hS; have c1 := (BR.out w hS).2.1; clear hS; go_simp⟩) hH ?_
        (try dsimp only [Act.put]); (try simp only [List.getElem_toArray, List.getElem_cons_zero, List.getElem_cons_succ, Act.put, List.setIfInBounds_toArray, List.set_cons_zero, List.set_cons_succ])
        refine wpAnyH_take (i := 19) (v := .int .i64 NT) rfl (by kernel_rfl) (by kernel_rfl) (by kernel_rfl) (fun _ _ _ h => h) (.inl ⟨by rfl, by intro w hS; go_simp⟩) hH ?_
        (try dsimp only [Act.put]); (try simp only [List.getElem_toArray, List.getElem_cons_zero, List.getElem_cons_succ, Act.put, List.setIfInBounds_toArray, List.set_cons_zero, List.set_cons_succ])
        refine wpAnyH_take (i := 20) (v := .int .i64 ((n : Int) - NT)) rfl (by kernel_rfl) (by kernel_rfl) (by kernel_rfl) (fun _ _ _ h => h) (.inl ⟨by rfl, by intro w hS; go_simp; rw [IntKind.wrap_i64]; omega⟩) hH ?_
        (try dsimp only [Act.put]); (try simp only [List.getElem_toArray, List.getElem_cons_zero, List.getElem_cons_succ, Act.put, List.setIfInBounds_toArray, List.set_cons_zero, List.set_cons_succ])
        refine wpAnyH_ready (rs := [10]) (by kernel_rfl) (by simp) ?_
        refine AllReadyH.cons rfl (fun K hK => ?_) AllReadyH.nil
        rw [if_pos (by rfl)]
        go_simp
        refine (HLE.out _ (Kep.refl w5).drew).mono ?_
        rintro e w6 ⟨rfl, k6⟩
        have A6 : Hid (Kep w5 w6) := kep_trans (Kep.refl w5).drew k6
        refine hK.out _ _ A6.out (fun hH => ?_)
        clear k6
        clear hK K
        (try dsimp only [Act.put]); (try simp only [List.getElem_toArray, List.getElem_cons_zero, List.getElem_cons_succ, Act.put, List.setIfInBounds_toArray, List.set_cons_zero, List.set_cons_succ])
        refine wpAnyH_take (i := 21) (v := .bool false) rfl (by kernel_rfl) (by kernel_rfl) (by kernel_rfl) (fun _ _ _ h => h) (.inl ⟨by rfl, by intro w hS; go_simp⟩) hH ?_
        (try dsimp only [Act.put]); (try simp only [List.getElem_toArray, List.getElem_cons_zero, List.getElem_cons_succ, Act.put, List.setIfInBounds_toArray, List.set_cons_zero, List.set_cons_succ])
        refine wpAnyH_take (i := 22) (v := .bool false) rfl (by kernel_rfl) (by kernel_rfl) (by kernel_rfl) (fun _ _ _ h => h) (.inl ⟨by rfl, by intro w hS; go_simp⟩) hH ?_
        (try dsimp only [Act.put]); (try simp only [List.getElem_toArray, List.getElem_cons_zero, List.getElem_cons_succ, Act.put, List.setIfInBounds_toArray, List.set_cons_zero, List.set_cons_succ])
        refine wpAnyH_take (i := 23) (v := .bool false) rfl (by kernel_rfl) (by kernel_rfl) (by kernel_rfl) (fun _ _ _ h => h) (.inl ⟨by rfl, by intro w hS; go_simp⟩) hH ?_
        (try dsimp only [Act.put]); (try simp only [List.getElem_toArray, List.getElem_cons_zero, List.getElem_cons_succ, Act.put, List.setIfInBounds_toArray, List.set_cons_zero, List.set_cons_succ])
        refine wpAnyH_take (i := 24) (v := .pointer (some ⟨p, 0, none⟩)) rfl (by kernel_rfl) (by kernel_rfl) (by kernel_rfl) (fun _ _ _ h => h) (.inl ⟨by rfl, by intro w hS; go_simp⟩) hH ?_
        (try dsimp only [Act.put]); (try simp only [List.getElem_toArray, List.getElem_cons_zero, List.getElem_cons_succ, Act.put, List.setIfInBounds_toArray, List.set_cons_zero, List.set_cons_succ])
        refine wpAnyH_take (i := 26) (v := .pointer (some ⟨r, 0, none⟩)) rfl (by kernel_rfl) (by kernel_rfl) (by kernel_rfl) (fun _ _ _ h => h) (.inl ⟨by rfl, by intro w hS; go_simp⟩) hH ?_
        (try dsimp only [Act.put]); (try simp only [List.getElem_toArray, List.getElem_cons_zero, List.getElem_cons_succ, Act.put, List.setIfInBounds_toArray, List.set_cons_zero, List.set_cons_succ])
        refine wpAnyH_take (i := 27) (v := .pointer (some ⟨r, 0, none⟩)) rfl (by kernel_rfl) (by kernel_rfl) (by kernel_rfl) (fun _ _ _ h => h) (.inl ⟨by rfl, by intro w hS; go_simp⟩) hH ?_
        (try dsimp only [Act.put]); (try simp only [List.getElem_toArray, List.getElem_cons_zero, List.getElem_cons_succ, Act.put, List.setIfInBounds_toArray, List.set_cons_zero, List.set_cons_succ])
        refine wpAnyH_take (i := 28) (v := .pointer (some ⟨r, 2, none⟩)) rfl (by kernel_rfl) (by kernel_rfl) (by kernel_rfl) (fun _ _ _ h => h) (.inl ⟨by rfl, by intro w hS; go_simp⟩) hH ?_
        (try dsimp only [Act.put]); (try simp only [List.getElem_toArray, List.getElem_cons_zero, List.getElem_cons_succ, Act.put, List.setIfInBounds_toArray, List.set_cons_zero, List.set_cons_succ])
        refine wpAnyH_take (i := 29) (v := .slice xt NT ct) rfl (by kernel_rfl) (by kernel_rfl) (by kernel_rfl) (fun _ _ _ h => h) (.inl ⟨by rfl, by intro w hS; have c1 := (BR.out w hS).2.1; clear hS; go_simp⟩) hH ?_
        (try dsimp only [Act.put]); (try simp only [List.getElem_toArray, List.getElem_cons_zero, List.getElem_cons_succ, Act.put, List.setIfInBounds_toArray, List.set_cons_zero, List.set_cons_succ])
        refine wpAnyH_take (i := 30) (v := .int .i64 NT) rfl (by kernel_rfl) (by kernel_rfl) (by kernel_rfl) (fun _ _ _ h => h) (.inl ⟨by rfl, by intro w hS; go_simp⟩) hH ?_
        (try dsimp only [Act.put]); (try simp only [List.getElem_toArray, List.getElem_cons_zero, List.getElem_cons_succ, Act.put, List.setIfInBounds_toArray, List.set_cons_zero, List.set_cons_succ])
        refine wpAnyH_ready (rs := [25]) (by kernel_rfl) (by simp) ?_
        refine AllReadyH.cons rfl (fun K hK => ?_) AllReadyH.nil
        rw [if_pos (by rfl)]
        go_simp
        refine (HTB.out _ A6.out).mono ?_
        rintro e w7 ⟨rfl, k7⟩
        have A7 : Hid (Kep w5 w7) := kep_trans A6.out k7
        refine hK.out _ _ A7.out (fun hH => ?_)
        clear k7
        clear hK K
        (try dsimp only [Act.put]); (try simp only [List.getElem_toArray, List.getElem_cons_zero, List.getElem_cons_succ, Act.put, List.setIfInBounds_toArray, List.set_cons_zero, List.set_cons_succ])
        refine wpAnyH_take (i := 31) (v := .bool false) rfl (by kernel_rfl) (by kernel_rfl) (by kernel_rfl) (fun _ _ _ h => h) (.inl ⟨by rfl, by intro w hS; go_simp⟩) hH ?_
        (try dsimp only [Act.put]); (try simp only [List.getElem_toArray, List.getElem_cons_zero, List.getElem_cons_succ, Act.put, List.setIfInBounds_toArray, List.set_cons_zero, List.set_cons_succ])
        refine wpAnyH_take (i := 32) (v := .bool false) rfl (by kernel_rfl) (by kernel_rfl) (by kernel_rfl) (fun _ _ _ h => h) (.inl ⟨by rfl, by intro w hS; go_simp⟩) hH ?_
        (try dsimp only [Act.put]); (try simp only [List.getElem_toArray, List.getElem_cons_zero, List.getElem_cons_succ, Act.put, List.setIfInBounds_toArray, List.set_cons_zero, List.set_cons_succ])
        refine wpAnyH_done (by kernel_rfl) ?_ _
        go_wp2_with fail
        go_loopw [13] (fun i wr => ∃ a : Nat, (a : Int) ≤ NT ∧ i = .int .i64 a ∧ Hid (Kep w5 wr)) (fun i _ => NT - (intOf i).toNat)
        case atStart => exact ⟨0, by omega, rfl, A7⟩
        case round =>
          obtain ⟨a, ha, rfl, hA⟩ := hrel
          clear A7
          have d2 := (BR.out wr hA.out).2.1
          by_cases hlt : (a : Int) < NT
          · have haT : a < T.length := by rw [hNT.out]; omega
            obtain ⟨b, off, hx, hc⟩ : ∃ b off : Nat, xt = some ⟨b, off, none⟩ ∧ wr.cell? ⟨b, off + a, none⟩ = some (.int .u32 (T.getD a 0 : Nat)) := by
              rcases LT5.out.kep hA.out with h0 | ⟨b, off, e, _, hc⟩
              · have := congrArg List.length h0; rw [u32s_len, List.length_nil] at this; omega
              · exact ⟨b, off, e, hc a _ (u32s_at haT)⟩
            have hmem : T.getD a 0 ∈ T := by
              have : T.getD a 0 = T[a]'haT := by simp [List.getD, haT]
              rw [this]; exact List.getElem_mem _
            obtain ⟨t32, HHS⟩ := (D5.out.kp hA.out).has E'.out hmem
            have HHS' : Hid (Calls Try.prog 13 #[.pointer (some ⟨p, 0, none⟩), .int .u32 (1024 * (T.getD a 0) + 5 : Nat)] wr fun e w' => e = .returned (.bool true) ∧ Kep wr w') := HHS
            clear hmem haT HHS
            generalize T.getD a 0 = t at hc t32 HHS'
            rw [show ((1024 * t + 5 : Nat) : Int) = (t : Int) * 1024 + 5 by omega] at HHS'
            have h32 : (t : Int) < 32 := by omega
            clear t32
            subst hx
            go_wp2_with (go_at_call 13; refine HHS'.out.mono ?_; rintro e w8 ⟨rfl, K8⟩)
            go_roundw
            case rel => exact ⟨a + 1, by omega, by go_num, kep_trans hA.out K8⟩
            case measure => simp [intOf]; omega
          · obtain rfl : a = NT := by omega
            have A8 : Hid (Kep w5 wr) := hA
            clear hA hlt ha HLE HTB LT5
            go_wp2_with fail
            clear d2
            go_loopw [14] (fun i wr => ∃ a : Nat, (a : Int) ≤ NP ∧ i = .int .i64 a ∧ Hid (Kep w5 wr)) (fun i _ => NP - (intOf i).toNat)
            case atStart => exact ⟨0, by omega, rfl, A8⟩
            case round =>
              obtain ⟨a, ha, rfl, hA⟩ := hrel
              clear A8
              have d1 := (BR.out wr hA.out).1
              by_cases hlt : (a : Int) < NP
              · have haP : a < P.length := by rw [hNP.out]; omega
                obtain ⟨b, off, hx, e0, e1, e2⟩ := page_at (LP5.out.kep hA.out) haP
                subst hx
                obtain ⟨Rg, hxg, hg⟩ : ∃ Rg : Nat, xg = some ⟨Rg, 0, none⟩ ∧ ∀ W, Kep w5 W → W.cell? ⟨Rg, a, none⟩ = some (.int .u32 (64 * (P[a]).1 : Nat)) := by
                  rcases LU5.out with h0 | ⟨Rg, e, hRg, hc⟩
                  · have := congrArg List.length h0; rw [hNL.out, List.length_nil] at this; omega
                  · refine ⟨Rg, e, fun W k => (k.cell hRg).trans ?_⟩
                    rw [hc a (by rw [hNL.out]; omega), hNZ.out a haP]
                subst hxg
                have HLK : Hid (∀ W, Kep w5 W → Calls Try.prog 14 #[.pointer (some ⟨pv, 0, none⟩), .int .u32 512, .int .i64 32, .int .u32 (64 * (P[a]).1 + 5 : Nat)] W fun e w' => ∃ z : Wy, e = .returned (.tuple (wyR (some z))) ∧ z.page = (P[a]).2 / 64 ∧ z.bits = (P[a]).2 % 64 ∧ Kep W w') := fun W k => (D5.out.kp k).look E'.out U'.out (List.getElem_mem haP)
                have hG : Hid (∀ W, Kep w5 W → W.cell? ⟨Rg, a, none⟩ = some (.int .u32 (64 * (P[a]).1 : Nat))) := hg
                have hyl : 64 * (P[a]).1 < 32768 := by
                  have hm := List.getElem_mem haP
                  have := pg_in s.E 0 (P[a]) (by rw [← E'.out.pages]; exact hm)
                  have := D5.out.sh.inv.lE
                  omega
                clear hg
                generalize P[a] = y at e0 e1 e2 HLK hG hyl
                clear haP
                obtain ⟨ya, hya⟩ : ∃ ya, Hid (64 * y.1 = ya) := ⟨_, rfl⟩
                obtain ⟨yf, hyf⟩ : ∃ yf, Hid (y.2 / 64 = yf) := ⟨_, rfl⟩
                obtain ⟨yb, hyb⟩ : ∃ yb, Hid (y.2 % 64 = yb) := ⟨_, rfl⟩
                rw [hya.out] at e0 HLK hG hyl
                rw [hyf.out] at e1 HLK
                rw [hyb.out] at e2 HLK
                rw [show ((ya + 5 : Nat) : Int) = (ya : Int) + 5 by omega] at HLK
                have hyl' : Bd ((ya : Int) < 32768) := ⟨by omega⟩
                clear hyl hya hyf hyb
                go_wp2_with fail
                have K1 : Hid (Kep w5 (wr.alloc (.cells #[.int .u32 ya, .int .i64 yf, .int .u32 yb] 41))) := hA.out.alloc _
                have B15 : Hid ((wr.alloc (.cells #[.int .u32 ya, .int .i64 yf, .int .u32 yb] 41)).heap[wr.heap.size]? = some (.cells #[.int .u32 ya, .int .i64 yf, .int .u32 yb] 41 (0, 0))) := hat _ _ _ rfl
                have l15 : Hid (wr.heap.size = wr.heap.size ∧ (wr.alloc (.cells #[.int .u32 ya, .int .i64 yf, .int .u32 yb] 41)).heap.size ≠ wr.heap.size ∧ w5.heap.size ≤ (wr.alloc (.cells #[.int .u32 ya, .int .i64 yf, .int .u32 yb] 41)).heap.size) := ⟨rfl, by simp, K1.out.size⟩
                generalize wr.alloc (.cells #[.int .u32 ya, .int .i64 yf, .int .u32 yb] 41) = W1 at K1 B15 l15 ⊢
                generalize wr.heap.size = g15 at B15 l15 ⊢
                clear e0 e1 e2 d1 hA
                have HRT : Hid (∀ W, Kep w5 W → Calls Try.prog 15 #[.pointer (some ⟨p, 0, none⟩)] W fun e w' => e = .returned (.int .u32 512) ∧ w' = W) := fun W k => shroot_any W p pv 8 (D5.out.kp k).sh.sh.c0 (D5.out.kp k).sh.sh.c2
                refine wp_region_held_drew (S := fun w' => Kep w5 w' ∧ w'.heap[g15]? = some (.cells #[.int .u32 ya, .int .i64 yf, .int .u32 yb] 41 (0, 0))) (by kernel_rfl) (⟨kep_trans K1.out (Kep.refl _).drew, B15.out⟩) (fun hH => ?_)
                refine wpAnyH_take (i := 0) (v := .pointer (some ⟨pv, 0, none⟩)) rfl (by kernel_rfl) (by kernel_rfl) (by kernel_rfl) (fun _ _ _ h => h) (.inl ⟨by rfl, by intro w hS; go_simp⟩) hH ?_
                (try dsimp only [Act.put]); (try simp only [List.getElem_toArray, List.getElem_cons_zero, List.getElem_cons_succ, Act.put, List.setIfInBounds_toArray, List.set_cons_zero, List.set_cons_succ])
                refine wpAnyH_take (i := 1) (v := .pointer (some ⟨p, 0, none⟩)) rfl (by kernel_rfl) (by kernel_rfl) (by kernel_rfl) (fun _ _ _ h => h) (.inl ⟨by rfl, by intro w hS; go_simp⟩) hH ?_
                (try dsimp only [Act.put]); (try simp only [List.getElem_toArray, List.getElem_cons_zero, List.getElem_cons_succ, Act.put, List.setIfInBounds_toArray, List.set_cons_zero, List.set_cons_succ])
                refine wpAnyH_take (i := 3) (v := .pointer (some ⟨g15, 0, none⟩)) rfl (by kernel_rfl) (by kernel_rfl) (by kernel_rfl) (fun _ _ _ h => h) (.inl ⟨by rfl, by intro w hS; go_simp⟩) hH ?_
                (try dsimp only [Act.put]); (try simp only [List.getElem_toArray, List.getElem_cons_zero, List.getElem_cons_succ, Act.put, List.setIfInBounds_toArray, List.set_cons_zero, List.set_cons_succ])
                refine wpAnyH_take (i := 4) (v := .int .u32 ya) rfl (by kernel_rfl) (by kernel_rfl) (by kernel_rfl) (fun _ _ _ h => h) (.inl ⟨by rfl, by intro w hS; have c1 : w.cell? ⟨g15, 0, none⟩ = some (.int .u32 ya) := (cell_of_block hS.2).trans rfl; clear hS; go_simp⟩) hH ?_
                (try dsimp only [Act.put]); (try simp only [List.getElem_toArray, List.getElem_cons_zero, List.getElem_cons_succ, Act.put, List.setIfInBounds_toArray, List.set_cons_zero, List.set_cons_succ])
                refine wpAnyH_take (i := 5) (v := .int .u32 ((ya : Int) + 5)) rfl (by kernel_rfl) (by kernel_rfl) (by kernel_rfl) (fun _ _ _ h => h) (.inl ⟨by rfl, by intro w hS; have := hyl'.out; clear hS; go_simp; rw [IntKind.wrap_u32]; omega⟩) hH ?_
                (try dsimp only [Act.put]); (try simp only [List.getElem_toArray, List.getElem_cons_zero, List.getElem_cons_succ, Act.put, List.setIfInBounds_toArray, List.set_cons_zero, List.set_cons_succ])
                refine wpAnyH_ready (rs := [2, 10]) (by kernel_rfl) (by simp) ?_
                refine AllReadyH.cons rfl (fun K hK => ?_) ?_
                · skip
                  rw [if_pos (by rfl)]
                  go_simp
                  refine (HRT.out _ hH.1).mono ?_
                  rintro e w6 ⟨rfl, rfl⟩
                  refine hK.out _ _ hH (fun hH => ?_)
                  clear hK K
                  (try dsimp only [Act.put]); (try simp only [List.getElem_toArray, List.getElem_cons_zero, List.getElem_cons_succ, Act.put, List.setIfInBounds_toArray, List.set_cons_zero, List.set_cons_succ])
                  refine wpAnyH_ready (rs := [6, 10]) (by kernel_rfl) (by simp) ?_
                  refine AllReadyH.cons rfl (fun K hK => ?_) ?_
                  · skip
                    rw [if_pos (by rfl)]
                    go_simp
                    refine (HLK.out _ hH.1).mono ?_
                    rintro e w7 ⟨⟨zb, za, ze, zd, zt, zp⟩, rfl, z1, z2, K7⟩
                    simp only at z1 z2
                    have z1' := z1.symm
                    have z2' := z2.symm
                    subst z1' z2'
                    simp only [wyR, wyV]
                    have H7 : Hid (Kep w5 w7) := kep_trans hH.1 K7
                    have l7 : Hid (w7.heap.size ≠ g15 ∧ w5.heap.size ≤ w7.heap.size) := ⟨by have := K7.lt (block_lt hH.2); omega, H7.out.size⟩
                    refine hK.out _ _ ⟨H7.out, K7.block hH.2⟩ (fun hH => ?_)
                    clear K7
                    clear hK K
                    (try dsimp only [Act.put]); (try simp only [List.getElem_toArray, List.getElem_cons_zero, List.getElem_cons_succ, Act.put, List.setIfInBounds_toArray, List.set_cons_zero, List.set_cons_succ])
                    refine wpAnyH_take (i := 7) (v := .tuple #[.agg (wayV yb za ze zd zt yf), .bool true]) rfl (by kernel_rfl) (by kernel_rfl) (by kernel_rfl) (fun _ _ _ h => h) (.inl ⟨by rfl, by intro w hS; go_simp⟩) hH ?_
                    (try dsimp only [Act.put]); (try simp only [List.getElem_toArray, List.getElem_cons_zero, List.getElem_cons_succ, Act.put, List.setIfInBounds_toArray, List.set_cons_zero, List.set_cons_succ])
                    refine wpAnyH_take (i := 8) (v := .agg (wayV yb za ze zd zt yf)) rfl (by kernel_rfl) (by kernel_rfl) (by kernel_rfl) (fun _ _ _ h => h) (.inl ⟨by rfl, by intro w hS; go_simp⟩) hH ?_
                    (try dsimp only [Act.put]); (try simp only [List.getElem_toArray, List.getElem_cons_zero, List.getElem_cons_succ, Act.put, List.setIfInBounds_toArray, List.set_cons_zero, List.set_cons_succ])
                    refine wpAnyH_take (i := 9) (v := .bool true) rfl (by kernel_rfl) (by kernel_rfl) (by kernel_rfl) (fun _ _ _ h => h) (.inl ⟨by rfl, by intro w hS; go_simp⟩) hH ?_
                    (try dsimp only [Act.put]); (try simp only [List.getElem_toArray, List.getElem_cons_zero, List.getElem_cons_succ, Act.put, List.setIfInBounds_toArray, List.set_cons_zero, List.set_cons_succ])
                    refine wpAnyH_ready (rs := [10]) (by kernel_rfl) (by simp) ?_
                    refine AllReadyH.cons rfl (fun K hK => ?_) AllReadyH.nil
                    rw [if_pos (by rfl)]
                    go_simp
                    skip
                    refine hK.out _ _ ⟨hH.1.alloc _, Kep.block ((Kep.refl _).alloc _) hH.2⟩ (fun hH => ?_)
                    have Z16 : Hid ((w7.alloc (.cells (wayV 0 0 0 0 0 0) 43)).heap[w7.heap.size]? = some (.cells (wayV 0 0 0 0 0 0) 43 (0, 0)) ∧ w7.heap.size ≠ g15 ∧ w5.heap.size ≤ w7.heap.size) := ⟨hat _ _ _ rfl, l7.out.1, l7.out.2⟩
                    clear hK K
                    (try dsimp only [Act.put]); (try simp only [List.getElem_toArray, List.getElem_cons_zero, List.getElem_cons_succ, Act.put, List.setIfInBounds_toArray, List.set_cons_zero, List.set_cons_succ])
                    refine wpAnyH_ready (rs := [11]) (by kernel_rfl) (by simp) ?_
                    refine AllReadyH.cons rfl (fun K hK => ?_) AllReadyH.nil
                    rw [if_pos (by rfl)]
                    refine wp_store_row 43 _ _ rfl (w7.heap.size) (wayV yb za ze zd zt yf) rfl rfl 43 (wayV 0 0 0 0 0 0) Z16.out.1 (by exact size_way) rfl (by simp [Value.oneCell']) ?_
                    have C16 := setRow_heap _ _ _ (wayV yb za ze zd zt yf) _ _ Z16.out.1
                    refine hK.out _ _ ⟨hH.1.setRow _ _ Z16.out.2.2, (setRow_other _ _ _ _ Z16.out.2.1.symm).trans hH.2⟩ (fun hH => ?_)
                    clear hK K
                    (try dsimp only [Act.put]); (try simp only [List.getElem_toArray, List.getElem_cons_zero, List.getElem_cons_succ, Act.put, List.setIfInBounds_toArray, List.set_cons_zero, List.set_cons_succ])
                    refine wpAnyH_take (i := 12) (v := .bool true) rfl (by kernel_rfl) (by kernel_rfl) (by kernel_rfl) (fun _ _ _ h => h) (.inl ⟨by rfl, by intro w hS; go_simp⟩) hH ?_
                    (try dsimp only [Act.put]); (try simp only [List.getElem_toArray, List.getElem_cons_zero, List.getElem_cons_succ, Act.put, List.setIfInBounds_toArray, List.set_cons_zero, List.set_cons_succ])
                    refine wpAnyH_done (by kernel_rfl) ?_ _
                    obtain ⟨KL, BL⟩ := hH
                    generalize World.setRow _ _ _ = W9 at KL BL C16 ⊢
                    have KL9 : Hid (Kep w5 W9) := KL
                    have p0 : W9.cell? ⟨g15, 0, none⟩ = some (.int .u32 ya) := (cell_of_block BL).trans rfl
                    have p1 : W9.cell? ⟨g15, 1, none⟩ = some (.int .i64 yf) := (cell_of_block BL).trans rfl
                    have p2 : W9.cell? ⟨g15, 2, none⟩ = some (.int .u32 yb) := (cell_of_block BL).trans rfl
                    have y0 : W9.cell? ⟨w7.heap.size, 0, none⟩ = some (.int .u32 yb) := (cell_of_block C16).trans rfl
                    have y5 : W9.cell? ⟨w7.heap.size, 5, none⟩ = some (.int .i64 yf) := (cell_of_block C16).trans rfl
                    have gc := hG.out W9 KL
                    clear KL BL C16 Z16 HLK HRT hG
                    go_wp2_with fail
                    go_quiet (fail)
                    have KL10 : Hid (Kep w5 (W9.drewN nq)) := KL9.out.drewN nq
                    clear p0 p1 p2 y0 y5 gc KL9
                    go_wp2_with fail
                    go_roundw
                    case rel => exact ⟨a + 1, by omega, by go_num, KL10⟩
                    case measure => simp [intOf]; omega
                  refine AllReadyH.cons rfl (fun K hK => ?_) AllReadyH.nil
                  rw [if_pos (by rfl)]
                  go_simp
                  skip
                  refine hK.out _ _ ⟨hH.1.alloc _, Kep.block ((Kep.refl _).alloc _) hH.2⟩ (fun hH => ?_)
                  have Z16 : Hid ((W1.drew.alloc (.cells (wayV 0 0 0 0 0 0) 43)).heap[W1.heap.size]? = some (.cells (wayV 0 0 0 0 0 0) 43 (0, 0)) ∧ W1.heap.size ≠ g15 ∧ w5.heap.size ≤ W1.heap.size) := ⟨hat _ _ _ rfl, l15.out.2.1, l15.out.2.2⟩
                  clear hK K
                  (try dsimp only [Act.put]); (try simp only [List.getElem_toArray, List.getElem_cons_zero, List.getElem_cons_succ, Act.put, List.setIfInBounds_toArray, List.set_cons_zero, List.set_cons_succ])
                  refine wpAnyH_ready (rs := [6]) (by kernel_rfl) (by simp) ?_
                  refine AllReadyH.cons rfl (fun K hK => ?_) AllReadyH.nil
                  rw [if_pos (by rfl)]
                  go_simp
                  refine (HLK.out _ hH.1).mono ?_
                  rintro e w7 ⟨⟨zb, za, ze, zd, zt, zp⟩, rfl, z1, z2, K7⟩
                  simp only at z1 z2
                  have z1' := z1.symm
                  have z2' := z2.symm
                  subst z1' z2'
                  simp only [wyR, wyV]
                  have H7 : Hid (Kep w5 w7) := kep_trans hH.1 K7
                  replace Z16 : Hid (w7.heap[W1.heap.size]? = some (.cells (wayV 0 0 0 0 0 0) 43 (0, 0)) ∧ W1.heap.size ≠ g15 ∧ w5.heap.size ≤ W1.heap.size) := ⟨K7.block Z16.out.1, Z16.out.2⟩
                  refine hK.out _ _ ⟨H7.out, K7.block hH.2⟩ (fun hH => ?_)
                  clear K7
                  clear hK K
                  (try dsimp only [Act.put]); (try simp only [List.getElem_toArray, List.getElem_cons_zero, List.getElem_cons_succ, Act.put, List.setIfInBounds_toArray, List.set_cons_zero, List.set_cons_succ])
                  refine wpAnyH_take (i := 7) (v := .tuple #[.agg (wayV yb za ze zd zt yf), .bool true]) rfl (by kernel_rfl) (by kernel_rfl) (by kernel_rfl) (fun _ _ _ h => h) (.inl ⟨by rfl, by intro w hS; go_simp⟩) hH ?_
                  (try dsimp only [Act.put]); (try simp only [List.getElem_toArray, List.getElem_cons_zero, List.getElem_cons_succ, Act.put, List.setIfInBounds_toArray, List.set_cons_zero, List.set_cons_succ])
                  refine wpAnyH_take (i := 8) (v := .agg (wayV yb za ze zd zt yf)) rfl (by kernel_rfl) (by kernel_rfl) (by kernel_rfl) (fun _ _ _ h => h) (.inl ⟨by rfl, by intro w hS; go_simp⟩) hH ?_
                  (try dsimp only [Act.put]); (try simp only [List.getElem_toArray, List.getElem_cons_zero, List.getElem_cons_succ, Act.put, List.setIfInBounds_toArray, List.set_cons_zero, List.set_cons_succ])
                  refine wpAnyH_take (i := 9) (v := .bool true) rfl (by kernel_rfl) (by kernel_rfl) (by kernel_rfl) (fun _ _ _ h => h) (.inl ⟨by rfl, by intro w hS; go_simp⟩) hH ?_
                  (try dsimp only [Act.put]); (try simp only [List.getElem_toArray, List.getElem_cons_zero, List.getElem_cons_succ, Act.put, List.setIfInBounds_toArray, List.set_cons_zero, List.set_cons_succ])
                  refine wpAnyH_ready (rs := [11]) (by kernel_rfl) (by simp) ?_
                  refine AllReadyH.cons rfl (fun K hK => ?_) AllReadyH.nil
                  rw [if_pos (by rfl)]
                  refine wp_store_row 43 _ _ rfl (W1.heap.size) (wayV yb za ze zd zt yf) rfl rfl 43 (wayV 0 0 0 0 0 0) Z16.out.1 (by exact size_way) rfl (by simp [Value.oneCell']) ?_
                  have C16 := setRow_heap _ _ _ (wayV yb za ze zd zt yf) _ _ Z16.out.1
                  refine hK.out _ _ ⟨hH.1.setRow _ _ Z16.out.2.2, (setRow_other _ _ _ _ Z16.out.2.1.symm).trans hH.2⟩ (fun hH => ?_)
                  clear hK K
                  (try dsimp only [Act.put]); (try simp only [List.getElem_toArray, List.getElem_cons_zero, List.getElem_cons_succ, Act.put, List.setIfInBounds_toArray, List.set_cons_zero, List.set_cons_succ])
                  refine wpAnyH_take (i := 12) (v := .bool true) rfl (by kernel_rfl) (by kernel_rfl) (by kernel_rfl) (fun _ _ _ h => h) (.inl ⟨by rfl, by intro w hS; go_simp⟩) hH ?_
                  (try dsimp only [Act.put]); (try simp only [List.getElem_toArray, List.getElem_cons_zero, List.getElem_cons_succ, Act.put, List.setIfInBounds_toArray, List.set_cons_zero, List.set_cons_succ])
                  refine wpAnyH_done (by kernel_rfl) ?_ _
                  obtain ⟨KL, BL⟩ := hH
                  generalize World.setRow _ _ _ = W9 at KL BL C16 ⊢
                  have KL9 : Hid (Kep w5 W9) := KL
                  have p0 : W9.cell? ⟨g15, 0, none⟩ = some (.int .u32 ya) := (cell_of_block BL).trans rfl
                  have p1 : W9.cell? ⟨g15, 1, none⟩ = some (.int .i64 yf) := (cell_of_block BL).trans rfl
                  have p2 : W9.cell? ⟨g15, 2, none⟩ = some (.int .u32 yb) := (cell_of_block BL).trans rfl
                  have y0 : W9.cell? ⟨W1.heap.size, 0, none⟩ = some (.int .u32 yb) := (cell_of_block C16).trans rfl
                  have y5 : W9.cell? ⟨W1.heap.size, 5, none⟩ = some (.int .i64 yf) := (cell_of_block C16).trans rfl
                  have gc := hG.out W9 KL
                  clear KL BL C16 Z16 HLK HRT hG
                  go_wp2_with fail
                  go_quiet (fail)
                  have KL10 : Hid (Kep w5 (W9.drewN nq)) := KL9.out.drewN nq
                  clear p0 p1 p2 y0 y5 gc KL9
                  go_wp2_with fail
                  go_roundw
                  case rel => exact ⟨a + 1, by omega, by go_num, KL10⟩
                  case measure => simp [intOf]; omega
                refine AllReadyH.cons rfl (fun K hK => ?_) AllReadyH.nil
                rw [if_pos (by rfl)]
                go_simp
                skip
                refine hK.out _ _ ⟨hH.1.alloc _, Kep.block ((Kep.refl _).alloc _) hH.2⟩ (fun hH => ?_)
                have Z16 : Hid ((W1.drew.alloc (.cells (wayV 0 0 0 0 0 0) 43)).heap[W1.heap.size]? = some (.cells (wayV 0 0 0 0 0 0) 43 (0, 0)) ∧ W1.heap.size ≠ g15 ∧ w5.heap.size ≤ W1.heap.size) := ⟨hat _ _ _ rfl, l15.out.2.1, l15.out.2.2⟩
                clear hK K
                (try dsimp only [Act.put]); (try simp only [List.getElem_toArray, List.getElem_cons_zero, List.getElem_cons_succ, Act.put, List.setIfInBounds_toArray, List.set_cons_zero, List.set_cons_succ])
                refine wpAnyH_ready (rs := [2]) (by kernel_rfl) (by simp) ?_
                refine AllReadyH.cons rfl (fun K hK => ?_) AllReadyH.nil
                rw [if_pos (by rfl)]
                go_simp
                refine (HRT.out _ hH.1).mono ?_
                rintro e w6 ⟨rfl, rfl⟩
                refine hK.out _ _ hH (fun hH => ?_)
                clear hK K
                (try dsimp only [Act.put]); (try simp only [List.getElem_toArray, List.getElem_cons_zero, List.getElem_cons_succ, Act.put, List.setIfInBounds_toArray, List.set_cons_zero, List.set_cons_succ])
                refine wpAnyH_ready (rs := [6]) (by kernel_rfl) (by simp) ?_
                refine AllReadyH.cons rfl (fun K hK => ?_) AllReadyH.nil
                rw [if_pos (by rfl)]
                go_simp
                refine (HLK.out _ hH.1).mono ?_
                rintro e w7 ⟨⟨zb, za, ze, zd, zt, zp⟩, rfl, z1, z2, K7⟩
                simp only at z1 z2
                have z1' := z1.symm
                have z2' := z2.symm
                subst z1' z2'
                simp only [wyR, wyV]
                have H7 : Hid (Kep w5 w7) := kep_trans hH.1 K7
                replace Z16 : Hid (w7.heap[W1.heap.size]? = some (.cells (wayV 0 0 0 0 0 0) 43 (0, 0)) ∧ W1.heap.size ≠ g15 ∧ w5.heap.size ≤ W1.heap.size) := ⟨K7.block Z16.out.1, Z16.out.2⟩
                refine hK.out _ _ ⟨H7.out, K7.block hH.2⟩ (fun hH => ?_)
                clear K7
                clear hK K
                (try dsimp only [Act.put]); (try simp only [List.getElem_toArray, List.getElem_cons_zero, List.getElem_cons_succ, Act.put, List.setIfInBounds_toArray, List.set_cons_zero, List.set_cons_succ])
                refine wpAnyH_take (i := 7) (v := .tuple #[.agg (wayV yb za ze zd zt yf), .bool true]) rfl (by kernel_rfl) (by kernel_rfl) (by kernel_rfl) (fun _ _ _ h => h) (.inl ⟨by rfl, by intro w hS; go_simp⟩) hH ?_
                (try dsimp only [Act.put]); (try simp only [List.getElem_toArray, List.getElem_cons_zero, List.getElem_cons_succ, Act.put, List.setIfInBounds_toArray, List.set_cons_zero, List.set_cons_succ])
                refine wpAnyH_take (i := 8) (v := .agg (wayV yb za ze zd zt yf)) rfl (by kernel_rfl) (by kernel_rfl) (by kernel_rfl) (fun _ _ _ h => h) (.inl ⟨by rfl, by intro w hS; go_simp⟩) hH ?_
                (try dsimp only [Act.put]); (try simp only [List.getElem_toArray, List.getElem_cons_zero, List.getElem_cons_succ, Act.put, List.setIfInBounds_toArray, List.set_cons_zero, List.set_cons_succ])
                refine wpAnyH_take (i := 9) (v := .bool true) rfl (by kernel_rfl) (by kernel_rfl) (by kernel_rfl) (fun _ _ _ h => h) (.inl ⟨by rfl, by intro w hS; go_simp⟩) hH ?_
                (try dsimp only [Act.put]); (try simp only [List.getElem_toArray, List.getElem_cons_zero, List.getElem_cons_succ, Act.put, List.setIfInBounds_toArray, List.set_cons_zero, List.set_cons_succ])
                refine wpAnyH_ready (rs := [11]) (by kernel_rfl) (by simp) ?_
                refine AllReadyH.cons rfl (fun K hK => ?_) AllReadyH.nil
                rw [if_pos (by rfl)]
                refine wp_store_row 43 _ _ rfl (W1.heap.size) (wayV yb za ze zd zt yf) rfl rfl 43 (wayV 0 0 0 0 0 0) Z16.out.1 (by exact size_way) rfl (by simp [Value.oneCell']) ?_
                have C16 := setRow_heap _ _ _ (wayV yb za ze zd zt yf) _ _ Z16.out.1
                refine hK.out _ _ ⟨hH.1.setRow _ _ Z16.out.2.2, (setRow_other _ _ _ _ Z16.out.2.1.symm).trans hH.2⟩ (fun hH => ?_)
                clear hK K
                (try dsimp only [Act.put]); (try simp only [List.getElem_toArray, List.getElem_cons_zero, List.getElem_cons_succ, Act.put, List.setIfInBounds_toArray, List.set_cons_zero, List.set_cons_succ])
                refine wpAnyH_take (i := 12) (v := .bool true) rfl (by kernel_rfl) (by kernel_rfl) (by kernel_rfl) (fun _ _ _ h => h) (.inl ⟨by rfl, by intro w hS; go_simp⟩) hH ?_
                (try dsimp only [Act.put]); (try simp only [List.getElem_toArray, List.getElem_cons_zero, List.getElem_cons_succ, Act.put, List.setIfInBounds_toArray, List.set_cons_zero, List.set_cons_succ])
                refine wpAnyH_done (by kernel_rfl) ?_ _
                obtain ⟨KL, BL⟩ := hH
                generalize World.setRow _ _ _ = W9 at KL BL C16 ⊢
                have KL9 : Hid (Kep w5 W9) := KL
                have p0 : W9.cell? ⟨g15, 0, none⟩ = some (.int .u32 ya) := (cell_of_block BL).trans rfl
                have p1 : W9.cell? ⟨g15, 1, none⟩ = some (.int .i64 yf) := (cell_of_block BL).trans rfl
                have p2 : W9.cell? ⟨g15, 2, none⟩ = some (.int .u32 yb) := (cell_of_block BL).trans rfl
                have y0 : W9.cell? ⟨W1.heap.size, 0, none⟩ = some (.int .u32 yb) := (cell_of_block C16).trans rfl
                have y5 : W9.cell? ⟨W1.heap.size, 5, none⟩ = some (.int .i64 yf) := (cell_of_block C16).trans rfl
                have gc := hG.out W9 KL
                clear KL BL C16 Z16 HLK HRT hG
                go_wp2_with fail
                go_quiet (fail)
                have KL10 : Hid (Kep w5 (W9.drewN nq)) := KL9.out.drewN nq
                clear p0 p1 p2 y0 y5 gc KL9
                go_wp2_with fail
                go_roundw
                case rel => exact ⟨a + 1, by omega, by go_num, KL10⟩
                case measure => simp [intOf]; omega
              · obtain rfl : a = NP := by omega
                have A9 : Hid (Kep w5 wr) := hA
                clear hA hlt ha LP5 LU5 hNZ hNL d1
                go_wp2_with fail
                go_loopw [18] (fun i wr => ∃ c : Nat, (c : Int) ≤ len2 ∧ (c : Int) ≤ 20 ∧ i = .int .i64 c ∧ Hid (Kep w5 wr)) (fun i _ => 20 - (intOf i).toNat)
                case atStart => exact ⟨0, by omega, by omega, rfl, A9⟩
                case round =>
                  obtain ⟨c, hcl, hc20, rfl, hA⟩ := hrel
                  clear A9
                  by_cases hlt : (c : Int) < len2 ∧ (c : Int) < 20
                  · obtain ⟨hl, h20⟩ := hlt
                    obtain ⟨b, off, z, hx, hle, hbl, hc, hwf⟩ := HMORE.out.at (i := c) (by omega)
                    subst hx
                    have hle' : (len2 : Int) ≤ cap2 := by omega
                    have hc' : wr.cell? ⟨b, off + c, none⟩ = some (.int .u32 z) := ((kep_trans D5.out.kep hA.out).cell hbl).trans hc
                    have hz := u32_of hwf
                    obtain ⟨zn, rfl⟩ : ∃ zn : Nat, z = zn := ⟨z.toNat, by omega⟩
                    clear hc hwf hbl hle
                    obtain ⟨on, hon⟩ : ∃ on, Hid (nearF zn = on) := ⟨_, rfl⟩
                    have honb : on < 4294967296 := by rw [← hon.out]; exact nearF_lt (by omega)
                    have HN1 : Hid (∀ w, Calls Try.prog 16 #[.int .u32 zn] w fun e w' => e = .returned (.int .u32 on) ∧ w' = w) := fun w => hon.out ▸ near16_any zn w
                    have HLK : Hid (∀ W, Kep w5 W → Calls Try.prog 14 #[.pointer (some ⟨pv, 0, none⟩), .int .u32 512, .int .i64 32, .int .u32 on] W fun e w' => ∃ z0 z1 z2 z3 z4 z5 : Int, e = .returned (.tuple #[.agg (wayV z0 z1 z2 z3 z4 z5), .bool (decide (∃ x ∈ P, x.1 = on / 64))]) ∧ Kep W w') := fun W k => (D5.out.kp k).look_any E'.out U'.out honb
                    have HRL : Hid (∀ W, Kep w5 W → Calls Try.prog 17 #[.pointer (some ⟨r, 0, none⟩), .int .u32 on] W fun e w' => ∃ a f b : Int, e = .returned (.tuple #[.agg #[.int .u32 a, .int .i64 f, .int .u32 b], .bool (decide (∃ x ∈ P, x.1 = on / 64))]) ∧ Kep W w') := fun W k => rs_look W r n T P F G (D5.out.kp k).ref on honb (by have := hNP.out; omega)
                    have HRT : Hid (∀ W, Kep w5 W → Calls Try.prog 15 #[.pointer (some ⟨p, 0, none⟩)] W fun e w' => e = .returned (.int .u32 512) ∧ w' = W) := fun W k => shroot_any W p pv 8 (D5.out.kp k).sh.sh.c0 (D5.out.kp k).sh.sh.c2
                    generalize decide (∃ x ∈ P, x.1 = on / 64) = dd at HLK HRL
                    clear hz honb
                    go_wp2_with (first
                      | (go_at_call 16; refine (HN1.out _).mono ?_; rintro e wa ⟨rfl, hqa⟩; rw [hqa]; clear hqa wa)
                      | (go_at_call 15; refine (HRT.out _ hA.out).mono ?_; rintro e wa ⟨rfl, hqa⟩; rw [hqa]; clear hqa wa))
                    refine (HLK.out _ hA.out).mono ?_
                    rintro e w6 ⟨z0, z1, z2, z3, z4, z5, rfl, K6⟩
                    have A6 : Hid (Kep w5 (w6.alloc (.cells (wayV z0 z1 z2 z3 z4 z5) 43))) := (kep_trans hA.out K6).alloc _
                    clear hA K6 HLK hc' HN1 HRT
                    go_wp2_with (go_at_call 17; refine (HRL.out _ A6.out).mono ?_; rintro e w7 ⟨b0, b1, b2, rfl, K7⟩; have A7 : Hid (Kep w5 (w7.alloc (.cells #[.int .u32 b0, .int .i64 b1, .int .u32 b2] 41))) := (kep_trans A6.out K7).alloc _; clear K7 A6)
                    go_roundw
                    case rel => exact ⟨c + 1, by omega, by omega, by go_num, A7⟩
                    case measure => simp [intOf]; omega
                  · have hend : ¬ (c : Int) < len2 ∨ ((c : Int) < len2 ∧ ¬ (c : Int) < 20) := by omega
                    have KE : Hid (Kep w wr) := kep_trans D5.out.kep hA.out
                    clear hA hlt
                    rcases hend with hq | ⟨hq, hq'⟩
                    all_goals
                      go_wp2_with fail
                      refine (HW.out _).mono ?_
                      rintro e w8 ⟨rfl, K8⟩
                      go_wp2_with fail
                      go_ret
                      exact ⟨rfl, kep_trans KE.out K8⟩

set_option maxRecDepth 100000 in
theorem lifted (os : Os) (started : os.Started) (H : Type) (enc : TypeId × Value → H) :
    ReturnsInHanded {} Try.checked os 3 .any (Rows.shadowPlaysSpec.pre6 enc Try.prog Try.f3 Rows.shadowPlaysRow.domain false) (Rows.shadowPlaysSpec.post enc Try.prog Try.f3 false true false false) := by
  refine returnsInHanded_of_change (C := Try.checked) own started (by kernel_rfl) Try.func3
    (ChangeSpec.witness6 (enc := enc) (C := Try.checked) false ⟨#[], #[.int .u8 0, .slice none 0 0, .slice none 0 0], []⟩ 8 (by kernel_rfl) (by kernel_rfl) (by kernel_rfl) (by kernel_rfl)) ?_
  intro W base args ds gs before hval0 hW hcnd _
  have hval : ∀ (j : Nat) t v, Try.f3.params[j]? = some t → args[j]? = some v → Value.okWide Try.prog W .any base t v := hval0
  have hW' := hW
  obtain ⟨p, q, hA0, hV, rfl, hfz, hnd⟩ := hW
  have hA : DataW.TrodAll enc Try.prog W 0 (fun _ => true) true Try.f3.params.toList args.toList ds p := hA0
  rw [Try.params3] at hA hval
  obtain ⟨v0, vs0, d0, ds0, p0, q0, hargs, rfl, rfl, h0, r0⟩ := trodAll_cons hA
  obtain ⟨v1, vs1, d1, ds1, p1, q1, rfl, rfl, rfl, h1, r1⟩ := trodAll_cons r0
  obtain ⟨v2, vs2, d2, ds2, p2, q2, rfl, rfl, rfl, h2, r2⟩ := trodAll_cons r1
  obtain ⟨rfl, rfl, rfl⟩ := trodAll_nil r2
  obtain rfl : args = #[v0, v1, v2] := by cases args; simp_all
  obtain ⟨rfl, rfl⟩ := trodVars_none hV
  have k0 := h0
  have lt0 : ∀ x ∈ p0, x.block < W.heap.size := by obtain ⟨m, hm⟩ := k0; exact DataW.trod_lt m _ _ _ hm
  obtain ⟨a0, rfl, rfl, rfl, w0⟩ := open_int Try.underlying5 (hval 0 5 v0 rfl rfl) h0
  have k1 := h1
  have lt1 : ∀ x ∈ p1, x.block < W.heap.size := by obtain ⟨m, hm⟩ := k1; exact DataW.trod_lt m _ _ _ hm
  obtain ⟨x1, len1, cap1, rfl⟩ := okWide_slice Try.underlying22 (hval 1 22 v1 rfl rfl)
  obtain ⟨z1, w1⟩ : ∃ zs, HstRow W x1 len1 cap1 zs := by
    obtain ⟨fuel, hf⟩ := h1
    exact hsts_of hf
  have k2 := h2
  have lt2 : ∀ x ∈ p2, x.block < W.heap.size := by obtain ⟨m, hm⟩ := k2; exact DataW.trod_lt m _ _ _ hm
  obtain ⟨x2, len2, cap2, rfl⟩ := okWide_slice Try.underlying23 (hval 2 23 v2 rfl rfl)
  obtain ⟨z2, w2⟩ : ∃ zs, IsRow .u32 W x2 len2 cap2 zs := by
    obtain ⟨fuel, hf⟩ := h2
    rcases open_ints Try.underlying23 Try.underlying34 (by kernel_rfl) hf with ⟨hcs, _⟩ | ⟨x, l, c, zs, hcs, _, hl, hm, hz, _, hcell, hwz⟩
    · simp [Value.cells] at hcs
      obtain ⟨rfl, rfl, rfl⟩ := hcs
      exact ⟨[], .inl ⟨rfl, rfl, rfl, rfl⟩⟩
    · simp [Value.cells] at hcs
      obtain ⟨rfl, rfl, rfl⟩ := hcs
      exact ⟨zs, .inr ⟨_, rfl, hl, hm, by simpa using hz, hcell, hwz⟩⟩
  clear hA0 hval0
  refine (walk a0 w0 x1 len1 cap1 z1 x2 len2 cap2 z2 W w1 w2).mono fun e W' ⟨he, bel0⟩ => ?_
  have bel : Below W.heap.size W W' := bel0
  subst he
  exact ⟨_, rfl, _, _, _, [], _, [], hW', trodAll_mk1 (shut_bool Try.underlying4 _), (trodAll_cons_mk (Below.trod laidOut (by kernel_rfl) (of_decide_eq_true (by kernel_rfl)) k0 bel lt0) (trodAll_cons_mk (Below.trod laidOut (by kernel_rfl) (of_decide_eq_true (by kernel_rfl)) k1 bel lt1) (trodAll_cons_mk (Below.trod laidOut (by kernel_rfl) (of_decide_eq_true (by kernel_rfl)) k2 bel lt2) trodAll_mk0))), rfl, bel.frame _, fun h => by cases h⟩

theorem over : Rows.shadowPlaysRow.holds Try.pinned (OpenSpec.ofChange Rows.shadowPlaysSpec) :=
  OpenClaim.holds_of_wide 3 Try.f3 rfl rfl rfl rfl rfl rfl rfl ⟨rfl, rfl, rfl, rfl, rfl⟩ rfl rfl rfl rfl rfl (by kernel_rfl) Try.func3 (by kernel_rfl)
    (of_decide_eq_true (by kernel_rfl)) (by unfold Func.isWrapper; first | (rw [if_pos (by decide +kernel)]; kernel_rfl) | (rw [if_neg (by decide +kernel)]; exact ⟨rfl, rfl⟩))
    (fun os started H enc _ => lifted os started H enc)
end Go.Proofs.Ythgkkjcemjadoaa.shadowPlays
namespace Go.Proofs.Ythgkkjcemjadoaa

theorem shadowPlays_holds : Rows.ShadowPlaysSaid := shadowPlays.over
#print axioms shadowPlays_holds
end Go.Proofs.Ythgkkjcemjadoaa
