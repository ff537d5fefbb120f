/- That a page leads somewhere; an address. -/
import Derived.Test.YthgkkjcemjadoaaSdmade
namespace Go.Proofs.Ythgkkjcemjadoaa
open Go.RowKit
set_option linter.unusedVariables false
set_option linter.unusedSimpArgs false

def nearF (va : Nat) : Nat := if va % 5 = 0 then va else va % 6000
theorem nearF_lt {va : Nat} (h : va < 4294967296) : nearF va < 4294967296 := by unfold nearF; split <;> omega
theorem near16_any (va : Nat) (w : World) :
    Calls Try.prog 16 #[.int .u32 va] w fun e w' => e = .returned (.int .u32 (nearF va : Nat)) ∧ w' = w := by
  by_cases h : va % 5 = 0
  · have h1 : ((va : Int) % 5 == 0) = true := by simp; omega
    have e1 : nearF va = va := by unfold nearF; rw [if_pos h]
    rw [e1]
    clear e1
    go_enter Try.func16, Try.ntmps16
    go_wp2
    go_ret
    exact ⟨rfl, rfl⟩
  · have h1 : ((va : Int) % 5 == 0) = false := by simp; omega
    have e1 : ((nearF va : Nat) : Int) = (va : Int) % 6000 := by unfold nearF; rw [if_neg h]; omega
    rw [e1]
    clear e1
    go_enter Try.func16, Try.ntmps16
    go_wp2
    go_ret
    exact ⟨rfl, rfl⟩

/-- Where a walk leads from a shadow. -/
theorem shlook_any {w : World} {p pv R n d f q M : Nat} {Z : List Int} {s : SD} {B : List Int} {L : List Bool} {g m : Int} {F : List Nat} (h : ShW w p pv R n d f q M Z s B L g m F) (va : Nat) (hva : va < 4294967296) :
    Calls Try.prog 14 #[.pointer (some ⟨pv, 0, none⟩), .int .u32 (64 * d : Nat), .int .i64 32, .int .u32 va] w fun e w' => e = .returned (.tuple (wyR (lookF (wdF B (List.range n)) (64 * n) (64 * d) 32 va))) ∧ Kep w w' := by
  have hd := h.inv.dn
  have hn := h.inv.nn
  have := look_ram h.ram (by simp; omega) h.row (fits_range h.inv.lB) h.inv.bB (64 * d) 32 va (by omega) (by omega)
  rw [List.length_range] at this
  exact this
theorem sd0_E (k : Nat) : sd0.E.getD k 0 = 0 := grep _ _
theorem sd0_D (k : Nat) : sd0.D.getD k 0 = 0 := grep _ _
theorem works16_any (w : World) : Calls Try.prog 18 #[] w fun e w' => e = .returned (.bool true) ∧ Kep w w' := by
  have HM : Hid (∀ w, Calls Try.prog 8 #[.int .u8 2] w fun e w' => ∃ pv p q R M B, e = .returned (.tuple #[.pointer (some ⟨pv, 0, none⟩), .pointer (some ⟨p, 0, none⟩), .pointer (some ⟨q, 0, none⟩)]) ∧
      ShW w' p pv R 40 8 20 q M Z5 sd0 B [false, false] 0 0 [] ∧ DInv 8 sd0 B ∧ Kep w w' ∧ Late w p R q M) := fun w => made16_any w 2 (by decide)
  go_enter Try.func18, Try.ntmps18
  go_wp2_with fail
  refine (HM.out w).mono ?_
  rintro e w1 ⟨pv, p, q, R, M, B, rfl, S1, D1, K1, LT⟩
  have HP : Hid (Calls Try.prog 20 #[.pointer (some ⟨p, 0, none⟩), .int .u32 65, .int .i64 3, .int .u32 2] w1 fun e w' => ∃ s' B' L' g' m', e = .returned (.bool true) ∧ ShW w' p pv R 40 8 20 q M Z5 s' B' L' g' m' [] ∧ DInv 8 s' B' ∧ Put [p, R, q, M] w1 w' ∧ s'.U = [] ∧ s'.E.getD 1 0 = 195) := by
    refine (shput_any w1 p pv R 40 8 20 q M Z5 sd0 B _ 0 0 [] S1 D1 (by omega) (by omega) 65 (by decide) 3 2 (by decide)).mono ?_
    rintro e w2 ⟨b, s', B', L', g', m', rfl, S2, D2, P2, ⟨hb, hU, _, _, hE⟩, _, _⟩
    obtain rfl : b = true := by
      rw [hb]
      exact decide_eq_true ⟨.inl (by decide), by decide, by decide, .inr (by decide)⟩
    have := (hE rfl).1
    exact ⟨s', B', L', g', m', rfl, S2, D2, P2, hU, by rw [this, show 65 / 64 = 1 from rfl, gset_eq (by rw [show sd0.E.length = 512 from List.length_replicate]; decide)]; decide⟩
  have KL : Hid (Kep w w1 ∧ Late w p R q M) := ⟨K1, LT⟩
  clear HM S1 D1 K1 LT
  go_wp2_with fail
  refine HP.out.mono ?_
  rintro e w2 ⟨s', B', L', g', m', rfl, S2, D2, P2, hU, hE⟩
  have HR : Hid (Calls Try.prog 15 #[.pointer (some ⟨p, 0, none⟩)] w2 fun e w' => e = .returned (.int .u32 512) ∧ w' = w2) := shroot_any w2 p pv 8 S2.sh.c0 S2.sh.c2
  obtain ⟨y, hy, y1, y2, y3⟩ := look_sd_some S2.inv D2 (va := 70) (by decide) (.inl (by decide)) (by rw [show 70 / 64 = 1 from rfl, hE]; decide)
  rw [show 70 / 64 = 1 from rfl, hE] at y1 y2 y3
  have HL : Hid (Calls Try.prog 14 #[.pointer (some ⟨pv, 0, none⟩), .int .u32 512, .int .i64 32, .int .u32 70] w2 fun e w' => e = .returned (.tuple (wyR (some y))) ∧ Kep w2 w') := by
    have := shlook_any S2 70 (by decide)
    rw [hy] at this
    exact this
  have K2 : Hid (Kep w w2) := KL.out.1.put P2 (by have := KL.out.2; unfold Late at this; simp; omega)
  clear S2 D2 P2 HP hy KL
  obtain ⟨yb, ya, ye, yd, yt, yp⟩ := y
  simp only at y1 y2 y3
  subst y1 y2 y3
  go_wp2_with (first
    | (go_at_call 15; refine HR.out.mono ?_; rintro e wa ⟨rfl, hqa⟩; rw [hqa]; clear hqa wa)
    | (go_at_call 14; refine HL.out.mono ?_; rintro e w3 ⟨rfl, K3⟩; simp only [wyR, wyV, wayV]))
  go_ret
  exact ⟨rfl, (kep_trans K2.out K3).alloc _⟩
end Go.Proofs.Ythgkkjcemjadoaa
