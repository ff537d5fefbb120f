/- What walks and lists tell of a shadow beside the document's. -/
import Derived.Test.YthgkkjcemjadoaaSdfin
import Derived.Test.YthgkkjcemjadoaaSdlook
import Derived.Test.YthgkkjcemjadoaaSdpages
import Derived.Test.YthgkkjcemjadoaaIrow
namespace Go.Proofs.Ythgkkjcemjadoaa
open Go.RowKit
set_option linter.unusedVariables false
set_option linter.unusedSimpArgs false

theorem LU.cap_of {w : World} {base : Nat} {v : Value} {l : List Nat} (h : w.ownsRow base 34 1 v l.length (u32s l)) : ∃ (x : Option Addr) (cap : Nat), v = .slice x l.length cap ∧ LU w x l ∧ l.length ≤ cap := by
  obtain ⟨x, cap, e, hl⟩ := LU.of_owns h
  refine ⟨x, cap, e, hl, ?_⟩
  rcases h with ⟨h0, ⟨hv, hn0⟩ | ⟨g, cap', cur, hv, hb, hg, h1, _⟩⟩
  · omega
  · rw [hv] at e
    cases e
    exact h1
theorem shpages_le {w : World} {p pv q d : Nat} {sd : SD} {F : List Nat} (h : ShAt w p (.pointer (some ⟨pv, 0, none⟩)) q d sd F) :
    Calls Try.prog 10 #[.pointer (some ⟨p, 0, none⟩)] w fun e w' => ∃ (x : Option Addr) (cap : Nat), e = .returned (.slice x (nz sd.E 512).length cap) ∧ LU w' x (nz sd.E 512) ∧ (nz sd.E 512).length ≤ cap ∧ Kep w w' := by
  refine (callsIn_wide.1 (shpages_in w p pv q d sd F h)).mono ?_
  rintro e w' ⟨v', rfl, ho, K⟩
  obtain ⟨x, cap, rfl, hL, hc⟩ := LU.cap_of ho
  exact ⟨x, cap, rfl, hL, hc, K⟩
theorem pg_nz {E : List Nat} (hE : E.length = 512) : (nz E 512).length = (pg 0 E).length ∧ ∀ k (hk : k < (pg 0 E).length), (nz E 512).getD k 0 = 64 * ((pg 0 E)[k]).1 := by
  have h := pg_addr E 512 (by omega)
  rw [List.take_of_length_le (by omega)] at h
  have h2 : nz E 512 = (pg 0 E).map (fun x => 64 * x.1) := h.symm
  rw [h2]
  refine ⟨by simp, fun k hk => ?_⟩
  simp [List.getD, hk]
section
variable {w wr : World} {p pv R q M r b1 most : Nat} {Fs : List Nat} {s : SD} {B : List Int} {L : List Bool} {T : List Nat} {P : List (Nat × Nat)} {F G : List Nat} {g m : Int}
theorem DM.look (h : DM w wr p pv R q M r b1 most Fs s B L T P F G g m) (e : DEq s L T P most) (hU : s.U = []) {y : Nat × Nat} (hy : y ∈ P) :
    Calls Try.prog 14 #[.pointer (some ⟨pv, 0, none⟩), .int .u32 512, .int .i64 32, .int .u32 (64 * y.1 + 5 : Nat)] wr fun e w' => ∃ z : Wy, e = .returned (.tuple (wyR (some z))) ∧ z.page = y.2 / 64 ∧ z.bits = y.2 % 64 ∧ Kep wr w' := by
  have hE := h.sh.inv.lE
  rw [e.pages] at hy
  have hi := pg_in s.E 0 y hy
  rw [Nat.sub_zero] at hi
  have hl := shlook_any h.sh (64 * y.1 + 5) (by omega)
  have e1 : (64 * y.1 + 5) / 64 = y.1 := by omega
  obtain ⟨z, hz, z1, z2, _⟩ := look_sd_some h.sh.inv h.dir (va := 64 * y.1 + 5) (by omega) (.inr hU) (by rw [e1, ← hi.2.2.1]; exact hi.2.2.2)
  rw [e1, ← hi.2.2.1] at z1 z2
  rw [hz] at hl
  refine hl.mono ?_
  rintro e' w' ⟨rfl, K⟩
  exact ⟨z, rfl, z1, z2, K⟩
theorem DM.look_any (h : DM w wr p pv R q M r b1 most Fs s B L T P F G g m) (e : DEq s L T P most) (hU : s.U = []) {va : Nat} (hva : va < 4294967296) :
    Calls Try.prog 14 #[.pointer (some ⟨pv, 0, none⟩), .int .u32 512, .int .i64 32, .int .u32 va] wr fun e w' => ∃ z0 z1 z2 z3 z4 z5 : Int, e = .returned (.tuple #[.agg (wayV z0 z1 z2 z3 z4 z5), .bool (decide (∃ x ∈ P, x.1 = va / 64))]) ∧ Kep wr w' := by
  have hE := h.sh.inv.lE
  have hl := shlook_any h.sh va hva
  by_cases hv : va < 32768 ∧ s.E.getD (va / 64) 0 ≠ 0
  · obtain ⟨z, hz, _⟩ := look_sd_some h.sh.inv h.dir hv.1 (.inr hU) hv.2
    rw [hz] at hl
    have hd : decide (∃ x ∈ P, x.1 = va / 64) = true := decide_eq_true ⟨_, by rw [e.pages]; exact pg_mem (by omega) hv.2, rfl⟩
    refine hl.mono ?_
    rintro e' w' ⟨rfl, K⟩
    exact ⟨_, _, _, _, _, _, by rw [hd]; rfl, K⟩
  · have hz := look_sd_none h.sh.inv h.dir hva (.inr hU) (by
      rcases Nat.lt_or_ge va 32768 with h1 | h1
      · exact .inr (Classical.byContradiction fun h2 => hv ⟨h1, h2⟩)
      · exact .inl h1)
    rw [hz] at hl
    have hd : decide (∃ x ∈ P, x.1 = va / 64) = false := decide_eq_false fun ⟨x, hx, ex⟩ => by
      rw [e.pages] at hx
      have hi := pg_in s.E 0 x hx
      rw [Nat.sub_zero] at hi
      exact hv ⟨by omega, by rw [← ex, ← hi.2.2.1]; exact hi.2.2.2⟩
    refine hl.mono ?_
    rintro e' w' ⟨rfl, K⟩
    exact ⟨_, _, _, _, _, _, by rw [hd]; rfl, K⟩
theorem DM.has (h : DM w wr p pv R q M r b1 most Fs s B L T P F G g m) (e : DEq s L T P most) {t : Nat} (ht : t ∈ T) :
    t < 32 ∧ Calls Try.prog 13 #[.pointer (some ⟨p, 0, none⟩), .int .u32 (1024 * t + 5 : Nat)] wr fun e w' => e = .returned (.bool true) ∧ Kep wr w' := by
  have h0 := (e.tabs t).1 ht
  have h32 : t < 32 := by
    rcases Nat.lt_or_ge t 32 with g | g
    · exact g
    · exfalso; apply h0
      have := h.sh.inv.lD
      simp [List.getD, List.getElem?_eq_none (show s.D.length ≤ t by omega)]
  refine ⟨h32, ?_⟩
  have := shhas_any wr p pv q 8 s Fs h.sh.sh (1024 * t + 5) (by omega)
  have hs : hasS s (1024 * t + 5) = true := by
    unfold hasS
    rw [show (1024 * t + 5) / 1024 = t by omega, decide_eq_true h0, decide_eq_true (show 1024 * t + 5 < 32768 by omega)]; rfl
  rw [hs] at this
  exact this
end
end Go.Proofs.Ythgkkjcemjadoaa
