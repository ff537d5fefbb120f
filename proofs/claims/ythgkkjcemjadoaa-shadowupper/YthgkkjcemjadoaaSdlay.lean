/- An entry laid into a shadow's table. -/
import Derived.Test.YthgkkjcemjadoaaSdcode
import Derived.Deep.RegionHeld3
import Derived.OrdersHeld
namespace Go.Proofs.Ythgkkjcemjadoaa
open Go.RowKit
set_option linter.unusedVariables false
set_option linter.unusedSimpArgs false

theorem shsetw_any {w : World} {pv R n : Nat} {B : List Int} (h : Ram w (.pointer (some ⟨pv, 0, none⟩)) R (List.range n)) (hB : RowB w R B) (lB : B.length = 64 * n) (hn : n ≤ 512) (a : Nat) (h4 : a % 4 = 0) (ha : a < 64 * n) (x : Nat) (hx : x < 4294967296) :
    Calls Try.prog 63 #[.pointer (some ⟨pv, 0, none⟩), .int .u32 a, .int .u32 x] w fun e w' => e = .returned (.bool true) ∧ Put [R] w w' ∧ RowB w' R (setW B a x) := by
  have := setWord_put w (.pointer (some ⟨pv, 0, none⟩)) R (List.range n) B h (by simp; omega) hB (fits_range lB) a (by omega) x (by omega) (by omega)
  rw [List.length_range, decide_eq_true ⟨h4, ha⟩, if_pos ⟨h4, ha⟩, pos_range ha] at this
  exact this
set_option maxHeartbeats 1000000 in
theorem shlay_core (w : World) (p pv R n d q : Nat) (s : SD) (B : List Int) (F : List Nat) (hs : ShAt w p (.pointer (some ⟨pv, 0, none⟩)) q d s F) (hr : Ram w (.pointer (some ⟨pv, 0, none⟩)) R (List.range n)) (hB : RowB w R B) (lB : B.length = 64 * n) (hn : n ≤ 512) (hd : d + 1 < n)
    (hpR : p ≠ R) (hFR : R ∉ F) (k j va e : Nat) (hk : va / 1024 = k) (hj : va / 64 % 16 = j) (hva : va < 32768) (D0 : Nat) (hD : s.D.getD k 0 = D0) (hD0 : D0 < 64 * n) (he : e < 4294967296) (ht : Tagd w R [p, R]) :
    Calls Try.prog 46 #[.pointer (some ⟨p, 0, none⟩), .int .u32 va, .int .u32 e] w fun x w' => x = .returned (.tuple #[]) ∧
      ShAt w' p (.pointer (some ⟨pv, 0, none⟩)) q d (layS s (16 * k + j) e) F ∧ RowB w' R (setW (setW B (64 * d + 4 * k) (D0 : Nat)) (D0 - D0 % 64 + 4 * j) (e : Nat)) ∧ Put [p, R] w w' := by
  have hk32 : k < 32 := by omega
  have hj16 : j < 16 := by omega
  have hji : (va : Int) / 64 % 16 = (j : Int) := by omega
  have H1 : Hid (∀ w, Calls Try.prog 35 #[.int .u32 va] w fun e w' => e = .returned (.int .i64 k) ∧ w' = w) := fun w => hk ▸ shnum_any va (by omega) w
  have ea : 35 + k * 16 + j = 35 + (16 * k + j) := by omega
  have S1 : ShAt (w.setCell ⟨p, 35 + (16 * k + j), none⟩ (.int .u32 e)) p (.pointer (some ⟨pv, 0, none⟩)) q d (layS s (16 * k + j) e) F := hs.setE (by omega) e
  have P1 : Put [p] w (w.setCell ⟨p, 35 + (16 * k + j), none⟩ (.int .u32 e)) := (Put.refl _).setCell (by simp) _
  have c4 : w.cell? ⟨p, 35 + (16 * k + j), none⟩ = some (.int .u32 (s.E.getD (16 * k + j) 0 : Nat)) := hs.cE (by omega)
  have f4 := hs.fz (35 + (16 * k + j))
  go_enter Try.func46, Try.ntmps46
  go_wp2_with (go_at_call 35; refine (H1.out _).mono ?_; rintro e w1 ⟨rfl, rfl⟩)
  clear H1 c4 f4
  have hR1 : Hid (Ram (w1.setCell ⟨p, 35 + (16 * k + j), none⟩ (.int .u32 e)) (.pointer (some ⟨pv, 0, none⟩)) R (List.range n)) := ram_tags hr P1 fun x hx => ht x (by simp at hx; simp [hx])
  have hB1 : Hid (RowB (w1.setCell ⟨p, 35 + (16 * k + j), none⟩ (.int .u32 e)) R B) := hB.put P1 (by simp; exact fun e => hpR e.symm)
  have P1' : Hid (Put [p, R] w1 (w1.setCell ⟨p, 35 + (16 * k + j), none⟩ (.int .u32 e))) := P1.mono (by simp)
  have S1' : Hid (ShAt (w1.setCell ⟨p, 35 + (16 * k + j), none⟩ (.int .u32 e)) p (.pointer (some ⟨pv, 0, none⟩)) q d (layS s (16 * k + j) e) F) := S1
  generalize w1.setCell ⟨p, 35 + (16 * k + j), none⟩ (.int .u32 e) = W at hR1 hB1 P1' S1' ⊢
  clear S1 P1 hs hr hB
  have c0 := S1'.out.c0
  have c2 := S1'.out.c2
  have c3 : W.cell? ⟨p, 3 + k, none⟩ = some (.int .u32 (D0 : Nat)) := by rw [S1'.out.cD hk32]; exact congrArg (fun x : Nat => some (Value.int .u32 x)) hD
  have H2 : Hid (∀ w, w.cell? ⟨p, 2, none⟩ = some (.int .u32 (64 * d : Nat)) → Calls Try.prog 64 #[.pointer (some ⟨p, 0, none⟩), .int .i64 k] w fun e w' => e = .returned (.int .u32 (64 * d + 4 * k : Nat)) ∧ w' = w) := fun w => shentry_any p d k (by omega) (by omega) w
  have H3 : Hid (Calls Try.prog 63 #[.pointer (some ⟨pv, 0, none⟩), .int .u32 (64 * d + 4 * k : Nat), .int .u32 (D0 : Nat)] W.drew fun e w' => e = .returned (.bool true) ∧ Put [R] W.drew w' ∧ RowB w' R (setW B (64 * d + 4 * k) (D0 : Nat))) :=
    shsetw_any (hR1.out.kep (Kep.refl _).drew) (hB1.out.kep (Kep.refl _).drew) lB hn _ (by omega) (by omega) D0 (by omega)
  refine wp_region_held_drew (S := fun w' => w'.cell? ⟨p, 0, none⟩ = some (.pointer (some ⟨pv, 0, none⟩)) ∧ w'.cell? ⟨p, 2, none⟩ = some (.int .u32 (64 * d : Nat)) ∧ w'.cell? ⟨p, 3 + k, none⟩ = some (.int .u32 (D0 : Nat))) (by kernel_rfl) (⟨c0, c2, c3⟩) (fun hH => ?_)
  refine wpAnyH_take (i := 0) (v := .pointer (some ⟨p, 0, none⟩)) rfl (by kernel_rfl) (by kernel_rfl) (by kernel_rfl) (fun _ _ _ h => h) (.inl ⟨by rfl, by intro w hS; go_simp⟩) hH ?_
  (try dsimp only [Act.put]); (try simp only [List.getElem_toArray, List.getElem_cons_zero, List.getElem_cons_succ, Act.put, List.setIfInBounds_toArray, List.set_cons_zero, List.set_cons_succ])
  refine wpAnyH_take (i := 1) (v := .pointer (some ⟨p, 0, none⟩)) rfl (by kernel_rfl) (by kernel_rfl) (by kernel_rfl) (fun _ _ _ h => h) (.inl ⟨by rfl, by intro w hS; go_simp⟩) hH ?_
  (try dsimp only [Act.put]); (try simp only [List.getElem_toArray, List.getElem_cons_zero, List.getElem_cons_succ, Act.put, List.setIfInBounds_toArray, List.set_cons_zero, List.set_cons_succ])
  refine wpAnyH_take (i := 2) (v := .pointer (some ⟨p, 0, none⟩)) rfl (by kernel_rfl) (by kernel_rfl) (by kernel_rfl) (fun _ _ _ h => h) (.inl ⟨by rfl, by intro w hS; go_simp⟩) hH ?_
  (try dsimp only [Act.put]); (try simp only [List.getElem_toArray, List.getElem_cons_zero, List.getElem_cons_succ, Act.put, List.setIfInBounds_toArray, List.set_cons_zero, List.set_cons_succ])
  refine wpAnyH_take (i := 3) (v := .pointer (some ⟨pv, 0, none⟩)) rfl (by kernel_rfl) (by kernel_rfl) (by kernel_rfl) (fun _ _ _ h => h) (.inl ⟨by rfl, by intro w hS; have c := hS.1; clear hS; go_simp⟩) hH ?_
  (try dsimp only [Act.put]); (try simp only [List.getElem_toArray, List.getElem_cons_zero, List.getElem_cons_succ, Act.put, List.setIfInBounds_toArray, List.set_cons_zero, List.set_cons_succ])
  refine wpAnyH_take (i := 4) (v := .pointer (some ⟨p, 0, none⟩)) rfl (by kernel_rfl) (by kernel_rfl) (by kernel_rfl) (fun _ _ _ h => h) (.inl ⟨by rfl, by intro w hS; go_simp⟩) hH ?_
  (try dsimp only [Act.put]); (try simp only [List.getElem_toArray, List.getElem_cons_zero, List.getElem_cons_succ, Act.put, List.setIfInBounds_toArray, List.set_cons_zero, List.set_cons_succ])
  refine wpAnyH_take (i := 5) (v := .int .i64 k) rfl (by kernel_rfl) (by kernel_rfl) (by kernel_rfl) (fun _ _ _ h => h) (.inl ⟨by rfl, by intro w hS; go_simp⟩) hH ?_
  (try dsimp only [Act.put]); (try simp only [List.getElem_toArray, List.getElem_cons_zero, List.getElem_cons_succ, Act.put, List.setIfInBounds_toArray, List.set_cons_zero, List.set_cons_succ])
  refine wpAnyH_take (i := 7) (v := .pointer (some ⟨p, 0, none⟩)) rfl (by kernel_rfl) (by kernel_rfl) (by kernel_rfl) (fun _ _ _ h => h) (.inl ⟨by rfl, by intro w hS; go_simp⟩) hH ?_
  (try dsimp only [Act.put]); (try simp only [List.getElem_toArray, List.getElem_cons_zero, List.getElem_cons_succ, Act.put, List.setIfInBounds_toArray, List.set_cons_zero, List.set_cons_succ])
  refine wpAnyH_take (i := 8) (v := .int .i64 k) rfl (by kernel_rfl) (by kernel_rfl) (by kernel_rfl) (fun _ _ _ h => h) (.inl ⟨by rfl, by intro w hS; go_simp⟩) hH ?_
  (try dsimp only [Act.put]); (try simp only [List.getElem_toArray, List.getElem_cons_zero, List.getElem_cons_succ, Act.put, List.setIfInBounds_toArray, List.set_cons_zero, List.set_cons_succ])
  refine wpAnyH_take (i := 9) (v := .pointer (some ⟨p, 0, none⟩)) rfl (by kernel_rfl) (by kernel_rfl) (by kernel_rfl) (fun _ _ _ h => h) (.inl ⟨by rfl, by intro w hS; go_simp⟩) hH ?_
  (try dsimp only [Act.put]); (try simp only [List.getElem_toArray, List.getElem_cons_zero, List.getElem_cons_succ, Act.put, List.setIfInBounds_toArray, List.set_cons_zero, List.set_cons_succ])
  refine wpAnyH_take (i := 10) (v := .pointer (some ⟨p, 3, none⟩)) rfl (by kernel_rfl) (by kernel_rfl) (by kernel_rfl) (fun _ _ _ h => h) (.inl ⟨by rfl, by intro w hS; go_simp⟩) hH ?_
  (try dsimp only [Act.put]); (try simp only [List.getElem_toArray, List.getElem_cons_zero, List.getElem_cons_succ, Act.put, List.setIfInBounds_toArray, List.set_cons_zero, List.set_cons_succ])
  refine wpAnyH_take (i := 11) (v := .pointer (some ⟨p, 3 + k, none⟩)) rfl (by kernel_rfl) (by kernel_rfl) (by kernel_rfl) (fun _ _ _ h => h) (.inl ⟨by rfl, by intro w hS; go_simp; intro h; omega⟩) hH ?_
  (try dsimp only [Act.put]); (try simp only [List.getElem_toArray, List.getElem_cons_zero, List.getElem_cons_succ, Act.put, List.setIfInBounds_toArray, List.set_cons_zero, List.set_cons_succ])
  refine wpAnyH_take (i := 12) (v := .int .u32 (D0 : Nat)) rfl (by kernel_rfl) (by kernel_rfl) (by kernel_rfl) (fun _ _ _ h => h) (.inl ⟨by rfl, by intro w hS; have c := hS.2.2; clear hS; go_simp⟩) hH ?_
  (try dsimp only [Act.put]); (try simp only [List.getElem_toArray, List.getElem_cons_zero, List.getElem_cons_succ, Act.put, List.setIfInBounds_toArray, List.set_cons_zero, List.set_cons_succ])
  refine wpAnyH_ready (rs := [6]) (by kernel_rfl) (by simp) ?_
  refine AllReadyH.cons rfl (fun K hK => ?_) AllReadyH.nil
  rw [if_pos (by rfl)]
  go_simp
  refine (H2.out W.drew c2).mono ?_
  rintro x w2 ⟨rfl, rfl⟩
  refine hK.out _ _ ⟨c0, c2, c3⟩ (fun hH => ?_)
  clear hK K
  (try dsimp only [Act.put]); (try simp only [List.getElem_toArray, List.getElem_cons_zero, List.getElem_cons_succ, Act.put, List.setIfInBounds_toArray, List.set_cons_zero, List.set_cons_succ])
  refine wpAnyH_ready (rs := [13]) (by kernel_rfl) (by simp) ?_
  refine AllReadyH.cons rfl (fun K hK => ?_) AllReadyH.nil
  rw [if_pos (by rfl)]
  go_simp
  refine H3.out.mono ?_
  rintro x w3 ⟨rfl, P2, B2⟩
  have kp : w3.cell? ⟨p, 0, none⟩ = some (.pointer (some ⟨pv, 0, none⟩)) ∧ w3.cell? ⟨p, 2, none⟩ = some (.int .u32 (64 * d : Nat)) ∧ w3.cell? ⟨p, 3 + k, none⟩ = some (.int .u32 (D0 : Nat)) := by
    have hp : p < W.drew.heap.size := by obtain ⟨_, hb⟩ := S1'.out.blk; exact block_lt hb
    exact ⟨(P2.cell hp (by simp; exact hpR)).trans c0, (P2.cell hp (by simp; exact hpR)).trans c2, (P2.cell hp (by simp; exact hpR)).trans c3⟩
  refine hK.out _ _ kp (fun hH => ?_)
  clear kp
  clear hK K
  (try dsimp only [Act.put]); (try simp only [List.getElem_toArray, List.getElem_cons_zero, List.getElem_cons_succ, Act.put, List.setIfInBounds_toArray, List.set_cons_zero, List.set_cons_succ])
  refine wpAnyH_done (by kernel_rfl) ?_ _
  go_wp2_with fail
  have R2 : Hid (Ram w3 (.pointer (some ⟨pv, 0, none⟩)) R (List.range n)) := hR1.out.put ((Put.refl _).drew.trans P2)
  have S2 : Hid (ShAt w3 p (.pointer (some ⟨pv, 0, none⟩)) q d (layS s (16 * k + j) e) F) := S1'.out.put ((Put.refl W).drew.trans P2) (by simp; exact hpR) (fun g hg => by simp; rintro rfl; exact hFR hg)
  have Q2 : Hid (Put [p, R] w1 w3) := P1'.out.trans (((Put.refl W).drew.trans P2).mono (by simp))
  have B2' : Hid (RowB w3 R (setW B (64 * d + 4 * k) (D0 : Nat))) := B2
  clear P2 B2 hR1 hB1 S1' P1' c0 c2 c3
  have c0 := S2.out.c0
  have c3 : w3.cell? ⟨p, 3 + k, none⟩ = some (.int .u32 (D0 : Nat)) := by rw [S2.out.cD hk32]; exact congrArg (fun x : Nat => some (Value.int .u32 x)) hD
  have hdn : bits .andNot .u32 (D0 : Int) 63 = ((D0 - D0 % 64 : Nat) : Int) := down64 D0 (by omega)
  have H4 : Hid (Calls Try.prog 63 #[.pointer (some ⟨pv, 0, none⟩), .int .u32 (D0 - D0 % 64 + 4 * j : Nat), .int .u32 (e : Nat)] w3.drew fun x w' => x = .returned (.bool true) ∧ Put [R] w3.drew w' ∧ RowB w' R (setW (setW B (64 * d + 4 * k) (D0 : Nat)) (D0 - D0 % 64 + 4 * j) (e : Nat))) :=
    shsetw_any (R2.out.kep (Kep.refl _).drew) (B2'.out.kep (Kep.refl _).drew) (by rw [setW_len]; exact lB) hn _ (by omega) (by omega) e he
  refine wp_region_held_drew (S := fun w' => w'.cell? ⟨p, 0, none⟩ = some (.pointer (some ⟨pv, 0, none⟩)) ∧ w'.cell? ⟨p, 3 + k, none⟩ = some (.int .u32 (D0 : Nat))) (by kernel_rfl) (⟨c0, c3⟩) (fun hH => ?_)
  refine wpAnyH_take (i := 0) (v := .pointer (some ⟨p, 0, none⟩)) rfl (by kernel_rfl) (by kernel_rfl) (by kernel_rfl) (fun _ _ _ h => h) (.inl ⟨by rfl, by intro w hS; go_simp⟩) hH ?_
  (try dsimp only [Act.put]); (try simp only [List.getElem_toArray, List.getElem_cons_zero, List.getElem_cons_succ, Act.put, List.setIfInBounds_toArray, List.set_cons_zero, List.set_cons_succ])
  refine wpAnyH_take (i := 1) (v := .pointer (some ⟨p, 0, none⟩)) rfl (by kernel_rfl) (by kernel_rfl) (by kernel_rfl) (fun _ _ _ h => h) (.inl ⟨by rfl, by intro w hS; go_simp⟩) hH ?_
  (try dsimp only [Act.put]); (try simp only [List.getElem_toArray, List.getElem_cons_zero, List.getElem_cons_succ, Act.put, List.setIfInBounds_toArray, List.set_cons_zero, List.set_cons_succ])
  refine wpAnyH_take (i := 2) (v := .pointer (some ⟨p, 0, none⟩)) rfl (by kernel_rfl) (by kernel_rfl) (by kernel_rfl) (fun _ _ _ h => h) (.inl ⟨by rfl, by intro w hS; go_simp⟩) hH ?_
  (try dsimp only [Act.put]); (try simp only [List.getElem_toArray, List.getElem_cons_zero, List.getElem_cons_succ, Act.put, List.setIfInBounds_toArray, List.set_cons_zero, List.set_cons_succ])
  refine wpAnyH_take (i := 3) (v := .pointer (some ⟨pv, 0, none⟩)) rfl (by kernel_rfl) (by kernel_rfl) (by kernel_rfl) (fun _ _ _ h => h) (.inl ⟨by rfl, by intro w hS; have c := hS.1; clear hS; go_simp⟩) hH ?_
  (try dsimp only [Act.put]); (try simp only [List.getElem_toArray, List.getElem_cons_zero, List.getElem_cons_succ, Act.put, List.setIfInBounds_toArray, List.set_cons_zero, List.set_cons_succ])
  refine wpAnyH_take (i := 4) (v := .pointer (some ⟨p, 0, none⟩)) rfl (by kernel_rfl) (by kernel_rfl) (by kernel_rfl) (fun _ _ _ h => h) (.inl ⟨by rfl, by intro w hS; go_simp⟩) hH ?_
  (try dsimp only [Act.put]); (try simp only [List.getElem_toArray, List.getElem_cons_zero, List.getElem_cons_succ, Act.put, List.setIfInBounds_toArray, List.set_cons_zero, List.set_cons_succ])
  refine wpAnyH_take (i := 5) (v := .int .i64 k) rfl (by kernel_rfl) (by kernel_rfl) (by kernel_rfl) (fun _ _ _ h => h) (.inl ⟨by rfl, by intro w hS; go_simp⟩) hH ?_
  (try dsimp only [Act.put]); (try simp only [List.getElem_toArray, List.getElem_cons_zero, List.getElem_cons_succ, Act.put, List.setIfInBounds_toArray, List.set_cons_zero, List.set_cons_succ])
  refine wpAnyH_take (i := 6) (v := .pointer (some ⟨p, 0, none⟩)) rfl (by kernel_rfl) (by kernel_rfl) (by kernel_rfl) (fun _ _ _ h => h) (.inl ⟨by rfl, by intro w hS; go_simp⟩) hH ?_
  (try dsimp only [Act.put]); (try simp only [List.getElem_toArray, List.getElem_cons_zero, List.getElem_cons_succ, Act.put, List.setIfInBounds_toArray, List.set_cons_zero, List.set_cons_succ])
  refine wpAnyH_take (i := 7) (v := .pointer (some ⟨p, 3, none⟩)) rfl (by kernel_rfl) (by kernel_rfl) (by kernel_rfl) (fun _ _ _ h => h) (.inl ⟨by rfl, by intro w hS; go_simp⟩) hH ?_
  (try dsimp only [Act.put]); (try simp only [List.getElem_toArray, List.getElem_cons_zero, List.getElem_cons_succ, Act.put, List.setIfInBounds_toArray, List.set_cons_zero, List.set_cons_succ])
  refine wpAnyH_take (i := 8) (v := .pointer (some ⟨p, 3 + k, none⟩)) rfl (by kernel_rfl) (by kernel_rfl) (by kernel_rfl) (fun _ _ _ h => h) (.inl ⟨by rfl, by intro w hS; go_simp; intro h; omega⟩) hH ?_
  (try dsimp only [Act.put]); (try simp only [List.getElem_toArray, List.getElem_cons_zero, List.getElem_cons_succ, Act.put, List.setIfInBounds_toArray, List.set_cons_zero, List.set_cons_succ])
  refine wpAnyH_take (i := 9) (v := .int .u32 (D0 : Nat)) rfl (by kernel_rfl) (by kernel_rfl) (by kernel_rfl) (fun _ _ _ h => h) (.inl ⟨by rfl, by intro w hS; have c := hS.2; clear hS; go_simp⟩) hH ?_
  (try dsimp only [Act.put]); (try simp only [List.getElem_toArray, List.getElem_cons_zero, List.getElem_cons_succ, Act.put, List.setIfInBounds_toArray, List.set_cons_zero, List.set_cons_succ])
  refine wpAnyH_take (i := 10) (v := .int .u32 (D0 - D0 % 64 : Nat)) rfl (by kernel_rfl) (by kernel_rfl) (by kernel_rfl) (fun _ _ _ h => h) (.inl ⟨by rfl, by intro w hS; go_simp⟩) hH ?_
  (try dsimp only [Act.put]); (try simp only [List.getElem_toArray, List.getElem_cons_zero, List.getElem_cons_succ, Act.put, List.setIfInBounds_toArray, List.set_cons_zero, List.set_cons_succ])
  refine wpAnyH_take (i := 11) (v := .int .u32 j) rfl (by kernel_rfl) (by kernel_rfl) (by kernel_rfl) (fun _ _ _ h => h) (.inl ⟨by rfl, by intro w hS; go_simp⟩) hH ?_
  (try dsimp only [Act.put]); (try simp only [List.getElem_toArray, List.getElem_cons_zero, List.getElem_cons_succ, Act.put, List.setIfInBounds_toArray, List.set_cons_zero, List.set_cons_succ])
  refine wpAnyH_take (i := 12) (v := .int .u32 (4 * j : Nat)) rfl (by kernel_rfl) (by kernel_rfl) (by kernel_rfl) (fun _ _ _ h => h) (.inl ⟨by rfl, by intro w hS; go_simp; rw [IntKind.wrap_u32]; omega⟩) hH ?_
  (try dsimp only [Act.put]); (try simp only [List.getElem_toArray, List.getElem_cons_zero, List.getElem_cons_succ, Act.put, List.setIfInBounds_toArray, List.set_cons_zero, List.set_cons_succ])
  refine wpAnyH_take (i := 13) (v := .int .u32 (D0 - D0 % 64 + 4 * j : Nat)) rfl (by kernel_rfl) (by kernel_rfl) (by kernel_rfl) (fun _ _ _ h => h) (.inl ⟨by rfl, by intro w hS; go_simp; rw [IntKind.wrap_u32]; omega⟩) hH ?_
  (try dsimp only [Act.put]); (try simp only [List.getElem_toArray, List.getElem_cons_zero, List.getElem_cons_succ, Act.put, List.setIfInBounds_toArray, List.set_cons_zero, List.set_cons_succ])
  refine wpAnyH_take (i := 14) (v := .int .u32 e) rfl (by kernel_rfl) (by kernel_rfl) (by kernel_rfl) (fun _ _ _ h => h) (.inl ⟨by rfl, by intro w hS; go_simp⟩) hH ?_
  (try dsimp only [Act.put]); (try simp only [List.getElem_toArray, List.getElem_cons_zero, List.getElem_cons_succ, Act.put, List.setIfInBounds_toArray, List.set_cons_zero, List.set_cons_succ])
  refine wpAnyH_ready (rs := [15]) (by kernel_rfl) (by simp) ?_
  refine AllReadyH.cons rfl (fun K hK => ?_) AllReadyH.nil
  rw [if_pos (by rfl)]
  go_simp
  refine H4.out.mono ?_
  rintro x w4 ⟨rfl, P4, B4⟩
  have kp : w4.cell? ⟨p, 0, none⟩ = some (.pointer (some ⟨pv, 0, none⟩)) ∧ w4.cell? ⟨p, 3 + k, none⟩ = some (.int .u32 (D0 : Nat)) := by
    have hp : p < w3.drew.heap.size := by obtain ⟨_, hb⟩ := S2.out.blk; exact block_lt hb
    exact ⟨(P4.cell hp (by simp; exact hpR)).trans c0, (P4.cell hp (by simp; exact hpR)).trans c3⟩
  refine hK.out _ _ kp (fun hH => ?_)
  clear kp
  clear hK K
  (try dsimp only [Act.put]); (try simp only [List.getElem_toArray, List.getElem_cons_zero, List.getElem_cons_succ, Act.put, List.setIfInBounds_toArray, List.set_cons_zero, List.set_cons_succ])
  refine wpAnyH_done (by kernel_rfl) ?_ _
  go_wp2_with fail
  go_end0
  exact ⟨rfl, S2.out.put ((Put.refl w3).drew.trans P4) (by simp; exact hpR) (fun g hg => by simp; rintro rfl; exact hFR hg), B4, Q2.out.trans (((Put.refl w3).drew.trans P4).mono (by simp))⟩
end Go.Proofs.Ythgkkjcemjadoaa
