/- A row of bytes that came in, read as a string; a decoded instruction, by cases. -/
import Derived.Test.YtpalbpjmjbcelaaDoorEncb
import Derived.Test.YtpalbpjmjbcelaaDoorWorks
import Derived.Test.YtpalbpjmjbcelaaDoorInseq
namespace Go.Proofs.YtpalbpjmjbcelaaDoor
open Go.RowKit

def firstZ (zs : List Int) (n : Nat) : List Int := (List.range n).map (zat zs)
theorem bytes_string {w : World} {b off n cap : Nat} {zs : List Int} (h : Bytes w b off n cap zs) :
    Sem.run Tryd.prog (convert 30 9 (.slice (some ⟨b, off, none⟩) n cap)) w = .ok (.string (strOf (firstZ zs n))) w := by
  rw [run_convert_bytes_string w 30 9 5 _ n cap Tryd.underlying30 Tryd.underlying5 Tryd.underlying9]
  refine run_bytesToString w ⟨b, off, none⟩ n cap (firstZ zs n) ?_
  have hl : (bs (firstZ zs n)).length = n := by simp [firstZ]
  have := run_loadCells_list (P := Tryd.prog) w ⟨b, off, none⟩ (bs (firstZ zs n)) (by
    intro j u hj
    have hjn : j < n := by have := (List.getElem?_eq_some_iff.1 hj).1; omega
    have hu : u = .int .u8 (zat zs j) := by simpa [firstZ, hjn] using hj.symm
    rw [hu, Addr.add_lit]
    exact h.cell j hjn)
  rw [hl] at this
  exact this
theorem list_firstZ (L : List Int) : firstZ L L.length = L := by
  apply List.ext_getElem?
  intro i
  rcases Nat.lt_or_ge i L.length with h | h
  · simp [firstZ, zat, List.getD, h]
  · rw [List.getElem?_eq_none (by simpa [firstZ] using h), List.getElem?_eq_none h]
theorem firstZ_eq {L zs : List Int} (h : ∀ i, i < L.length → zat L i = zat zs i) : firstZ zs L.length = L := by
  rw [← list_firstZ L]
  unfold firstZ
  simp only [List.length_map, List.length_range]
  apply List.map_congr_left
  intro i hi
  exact (h i (by simpa using hi)).symm ▸ by
    have := h i (by simpa using hi)
    have e : zat (List.map (zat L) (List.range L.length)) i = zat L i := by
      have := list_firstZ L
      unfold firstZ at this
      rw [this]
    first | exact this.symm | exact this | rfl
theorem dec_no {r : Nat} {zs : List Int} {len : Nat} (h : okD r zs len = false) : insD r zs len = zeroI ∧ numD r zs len = 0 ∧ (errD r zs len = 20 ∨ errD r zs len = 21) := by
  refine ⟨?_, ?_, ?_⟩
  · unfold insD; rw [h]; rfl
  · unfold numD; rw [h]; rfl
  · unfold errD; rw [h]; split
    · simp
    · split <;> simp
theorem dec_yes {r : Nat} {zs : List Int} {len : Nat} (h : okD r zs len = true) : insD r zs len = insA (zat zs 0) (aOf r zs) (bOf r zs) (immOf r zs) ∧ numD r zs len = sz r ∧ errD r zs len = 0 ∧ r ≠ 0 ∧ sz r ≤ len ∧ aOf r zs ≤ f1 r ∧ bOf r zs ≤ f2 r := by
  have h2 := h
  unfold okD at h2
  simp only [Bool.and_eq_true, decide_eq_true_eq, bne_iff_ne] at h2
  refine ⟨?_, ?_, ?_, h2.1, h2.2.1, h2.2.2.1, h2.2.2.2⟩
  · unfold insD; rw [h]; rfl
  · unfold numD; rw [h]; rfl
  · unfold errD; rw [h, if_neg h2.1, if_neg (by omega)]; rfl
theorem may_dec {r : Nat} {zs : List Int} {len : Nat} (hz : ∀ n ∈ zs, 0 ≤ n ∧ n < 256) (hr : r < 10) (h : okD r zs len = true) : mayB r (aOf r zs) (bOf r zs) (immOf r zs) = true := by
  obtain ⟨_, _, _, h0, _, h1, h2⟩ := dec_yes h
  have h3 := immOf_range hz r hr
  unfold mayB
  simp only [Bool.and_eq_true, decide_eq_true_eq, bne_iff_ne]
  exact ⟨h0, ⟨⟨h1, h2⟩, h3.1⟩, h3.2⟩
end Go.Proofs.YtpalbpjmjbcelaaDoor
