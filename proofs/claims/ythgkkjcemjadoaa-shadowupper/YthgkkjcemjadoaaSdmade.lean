/- What the laws make: a memory of 40 frames, a shadow, a pool; that a page leads somewhere. -/
import Derived.Test.YthgkkjcemjadoaaSdnew
import Derived.Test.YthgkkjcemjadoaaSdput
import Derived.Test.YthgkkjcemjadoaaWpage
import Derived.Test.YthgkkjcemjadoaaWto
import Derived.OwnWalk
namespace Go.Proofs.Ythgkkjcemjadoaa
open Go.RowKit
set_option linter.unusedVariables false
set_option linter.unusedSimpArgs false

theorem rep_at (n k : Nat) (x : Int) (h : k < n) : (List.replicate n x).getD k 0 = x := by
  simp [List.getD, List.getElem?_replicate, h]
theorem getD_at {L : List Int} {j : Nat} (h : j < L.length) : L.getD j 0 = L[j] := by simp [List.getD, h]
theorem src_rep {w : World} {n gb R : Nat} {x : Int} (hb : w.heap[gb]? = some (.cells (byt (List.replicate n x)).toArray 5 (0, 0))) (hR : gb ≠ R) : Src w (some ⟨gb, 0, none⟩) (List.replicate n x) [R] :=
  .inr ⟨gb, 0, rfl, block_lt hb, by simpa using hR, fun i hi => by
    rw [List.length_replicate] at hi
    rw [Nat.zero_add, cell_of_block hb, List.getElem?_toArray, byt_at, rep_at n i x hi]
    simp [hi]⟩
def row25 : Array Value := (byt (List.replicate 2560 0)).toArray
theorem mk25 : ∀ w, Sem.run Try.prog (Instr.makeSlice 52 (.int .i64 2560) (.int .i64 2560)) w = .ok (.slice (some ⟨w.heap.size, 0, none⟩) 2560 2560) (w.alloc (.cells row25 5)) := fun w => make_row 2560 (by decide) w
/-- The first k bytes are laid. -/
def fillP (k : Nat) : List Int := List.replicate k 165 ++ List.replicate (2560 - k) 0
theorem fillP_set {k : Nat} (hk : k < 2560) : (fillP k).set k 165 = fillP (k + 1) := by
  unfold fillP
  rw [List.set_append_right _ _ (by simp), List.length_replicate, Nat.sub_self, show 2560 - k = (2560 - (k + 1)) + 1 by omega, List.replicate_succ, List.set_cons_zero, List.replicate_succ', List.append_assoc]
  rfl
theorem fillP_len {k : Nat} (hk : k ≤ 2560) : (fillP k).length = 2560 := by
  unfold fillP; rw [List.length_append, List.length_replicate, List.length_replicate]; omega
theorem fillP_all : fillP 2560 = List.replicate 2560 165 := by unfold fillP; rw [Nat.sub_self]; exact List.append_nil _
def Z5 : List Int := List.replicate 2560 165
theorem Z5_len : Z5.length = 64 * 40 := List.length_replicate
theorem Z5_byts : Byts Z5 := by
  intro b hb
  have := (List.mem_replicate.1 hb).2
  subst this; decide
theorem lay25 (B : List Int) (hB : B.length = 64 * 40) : layL B (List.range 40) 0 (List.replicate 2560 165) = Z5 := by
  have hl : (layL B (List.range 40) 0 (List.replicate 2560 165)).length = 64 * 40 := by rw [layL_len]; exact hB
  refine List.ext_getElem (by rw [hl, Z5_len]) fun j h1 h2 => ?_
  rw [hl] at h1
  have := layL_get (n := 40) (List.replicate 2560 165) B 0 hB (by rw [List.length_replicate]; decide) j
  rw [List.length_replicate, if_pos (by omega)] at this
  rw [← getD_at (by rw [hl]; exact h1), this, ← getD_at h2]
  unfold Z5
  rw [rep_at 2560 _ _ (by omega), rep_at 2560 _ _ (by omega)]
/-- The blocks of a shadow that was made behind w. -/
def Late (w : World) (p R q M : Nat) : Prop := w.heap.size ≤ p ∧ w.heap.size ≤ R ∧ w.heap.size ≤ q ∧ w.heap.size ≤ M

set_option maxHeartbeats 4000000 in
theorem made16_any (w : World) (most : Nat) (hm : most < 256) :
    Calls Try.prog 8 #[.int .u8 most] w fun e w' => ∃ pv p q R M B, e = .returned (.tuple #[.pointer (some ⟨pv, 0, none⟩), .pointer (some ⟨p, 0, none⟩), .pointer (some ⟨q, 0, none⟩)]) ∧
      ShW w' p pv R 40 8 20 q M Z5 sd0 B (List.replicate (most % 13) false) 0 0 [] ∧ DInv 8 sd0 B ∧ Kep w w' ∧ Late w p R q M := by
  have HN : Hid (Calls Try.prog 22 #[.int .i64 40] w fun e w' => ∃ p : Nat, e = .returned (.tuple #[.pointer (some ⟨p, 0, none⟩), .int .i64 0]) ∧ Own w w' (.pointer (some ⟨p, 0, none⟩)) w.heap.size 40 (List.replicate (64 * 40) 0)) := new_any w 40 (by omega) (by omega)
  go_enter Try.func8, Try.ntmps8
  go_wp2_with fail
  refine HN.out.mono ?_
  rintro e w1 ⟨pv, rfl, O⟩
  have O' : Hid (Own w w1 (.pointer (some ⟨pv, 0, none⟩)) w.heap.size 40 (List.replicate (64 * 40) 0)) := O
  have mk := mk25
  have R1 : Hid (RowB (w1.alloc (.cells row25 5)) w1.heap.size (fillP 0)) := fun _ => hat _ _ _ rfl
  have K1 : Hid (Kep w1 (w1.alloc (.cells row25 5))) := (Kep.refl w1).alloc _
  clear O HN
  go_wp2_with fail
  generalize w1.alloc (.cells row25 5) = W at R1 K1 ⊢
  generalize hgb : w1.heap.size = gb at R1 ⊢
  have hgb' : Hid (w1.heap.size = gb) := hgb
  clear hgb mk
  go_loopw [8] (fun i wr => ∃ k : Nat, (k : Int) ≤ 2560 ∧ i = .int .i64 (k : Int) ∧ Hid (Kep w1 wr ∧ RowB wr gb (fillP k))) (fun i _ => 2560 - (intOf i).toNat)
  case atStart => exact ⟨0, by omega, rfl, K1.out, R1.out⟩
  case round =>
    obtain ⟨k, hk, rfl, hI⟩ := hrel
    by_cases hlt : (k : Int) < 2560
    · have hl := fillP_len (k := k) (by omega)
      have c1 := hI.out.2.cell (k := k) (by omega)
      have f1 : wr.frozen? ⟨gb, k, none⟩ = false := by have := hI.out.2 (by intro e; rw [e] at hl; simp at hl); simp [World.frozen?, this]
      have N1 : Hid (Kep w1 (wr.setCell ⟨gb, k, none⟩ (.int .u8 165)) ∧ RowB (wr.setCell ⟨gb, k, none⟩ (.int .u8 165)) gb (fillP (k + 1))) := ⟨hI.out.1.setCell (a := ⟨gb, k, none⟩) (by rw [hgb'.out]; exact Nat.le_refl _) _, by rw [← fillP_set (by omega)]; exact hI.out.2.set k 165⟩
      generalize (fillP k).getD k 0 = bk at c1
      clear hl
      go_wp2_with fail
      go_roundw
      case rel => exact ⟨k + 1, by omega, by go_num, N1.out.1, N1.out.2⟩
      case measure => simp [intOf]; omega
    · obtain rfl : k = 2560 := by omega
      have Kr : Kep w1 wr := hI.out.1
      have hb : wr.heap[gb]? = some (.cells (byt (List.replicate 2560 165)).toArray 5 (0, 0)) := by rw [← fillP_all]; exact hI.out.2 (by intro e; have := fillP_len (k := 2560) (by omega); rw [e] at this; simp at this)
      have HFL : Hid (Calls Try.prog 31 #[.pointer (some ⟨pv, 0, none⟩), .int .u32 0, .slice (some ⟨gb, 0, none⟩) 2560 2560] wr fun e w' => e = .returned (.bool true) ∧ Put [w.heap.size] wr w' ∧ RowB w' w.heap.size Z5) := by
        have S : Src wr (some ⟨gb, 0, none⟩) (List.replicate 2560 165) [w.heap.size] := src_rep hb (by have := O'.out.sz; have := hgb'.out; omega)
        have := fill_put wr _ w.heap.size (List.range 40) _ (O'.out.ram.kep Kr) (by simp) (O'.out.row.kep Kr) (fits_range O'.out.len) 0 (by omega) (some ⟨gb, 0, none⟩) (List.replicate 2560 165) 2560 2560 List.length_replicate (Nat.le_refl _) (by omega) S
        rw [List.length_range, if_pos (by decide), lay25 _ O'.out.len] at this
        exact this
      clear hb
      go_wp2_with fail
      refine HFL.out.mono ?_
      rintro e w2 ⟨rfl, P2, B2⟩
      have hc : most % 13 < 13 := Nat.mod_lt _ (by decide)
      have HP : Hid (∀ w2, Calls Try.prog 23 #[.int .i64 20, .int .i64 (most % 13 : Nat)] w2 fun e w' => e = .returned (.tuple #[.pointer (some ⟨w2.heap.size + 1, 0, none⟩), .int .i64 0]) ∧ Kep w2 w' ∧ PoolAt w' (w2.heap.size + 1) w2.heap.size 20 (List.replicate (most % 13) false) 0 0) := fun w2 => pnew_any w2 20 (most % 13) (by omega) (by omega)
      have R2 : Hid (Ram w2 (.pointer (some ⟨pv, 0, none⟩)) w.heap.size (List.range 40)) := (O'.out.ram.kep Kr).put P2
      have B2' : Hid (RowB w2 w.heap.size Z5) := B2
      have K2 : Hid (Kep w w2) := (kep_trans O'.out.kep Kr).put P2 (by simp)
      have hmm : (most : Int) % 13 = ((most % 13 : Nat) : Int) := by omega
      generalize hcq : most % 13 = c at hc HP hmm
      have hcq' : Hid (most % 13 = c) := hcq
      clear hcq
      clear P2 B2 HFL Kr hI O' R1 K1 hgb' hlt
      go_wp2_with fail
      refine (HP.out w2).mono ?_
      rintro e w3 ⟨rfl, K3, P3⟩
      have HS : Hid (Calls Try.prog 24 #[.pointer (some ⟨pv, 0, none⟩), .int .i64 8, .pointer (some ⟨w2.heap.size + 1, 0, none⟩)] w3 fun e w' => ∃ p, e = .returned (.tuple #[.pointer (some ⟨p, 0, none⟩), .int .i64 0]) ∧ w3.heap.size ≤ p ∧
          ShW w' p pv w.heap.size 40 8 20 (w2.heap.size + 1) w2.heap.size Z5 sd0 (zer Z5 40 (64 * 8) 128) (List.replicate c false) 0 0 [] ∧ DInv 8 sd0 (zer Z5 40 (64 * 8) 128) ∧ Put [w.heap.size] w3 w') :=
        shnew_ok w3 pv w.heap.size 40 (w2.heap.size + 1) w2.heap.size 20 8 Z5 c 0 0 (R2.out.kep K3) (B2'.out.kep K3) Z5_len Z5_byts (by omega) P3 (by omega) (by omega) (fun j hj => by omega)
      have K3' : Hid (Kep w w3) := kep_trans K2.out K3
      have z2 : Hid (w.heap.size ≤ w2.heap.size) := K2.out.size
      clear P3 K3 HP R2 B2' K2
      go_wp2_with fail
      refine HS.out.mono ?_
      rintro e w4 ⟨p, rfl, hp, S4, D4, P4⟩
      go_wp2_with fail
      go_ret3
      exact ⟨pv, p, _, _, _, _, rfl, by rw [hcq'.out]; exact S4, D4, K3'.out.put P4 (by simp), by have := K3'.out.size; omega, Nat.le_refl _, by have := z2.out; omega, z2.out⟩
end Go.Proofs.Ythgkkjcemjadoaa
