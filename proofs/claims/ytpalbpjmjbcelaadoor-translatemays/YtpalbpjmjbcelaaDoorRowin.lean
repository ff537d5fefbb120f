/- A slice of bytes that came in: none, or a row of bytes that is there; and that what is read off a row fits its kinds. -/
import Derived.Test.YtpalbpjmjbcelaaDoorTab
import Derived.Test.YtpalbpjmjbcelaaDoorDecode
namespace Go.Proofs.YtpalbpjmjbcelaaDoor
open Go.RowKit

theorem row_cases {w : World} {x : Option Addr} {len cap : Nat} {zs : List Int} (h : IsRow .u8 w x len cap zs) : len = 0 ∨ ∃ b off, x = some ⟨b, off, none⟩ ∧ 0 < len ∧ Bytes w b off len cap zs := by
  rcases Nat.eq_zero_or_pos len with h0 | h0
  · exact .inl h0
  rcases h with ⟨_, rfl, _⟩ | ⟨a, rfl, hl, hm, hz, hc, hw⟩
  · omega
  right
  obtain ⟨b, off, tag⟩ := a
  have hcell := hc 0 (by omega)
  have ht : tag = none := by
    cases tag with
    | none => rfl
    | some t => exfalso; simp [World.cell?, Addr.add] at hcell; revert hcell; split <;> simp
  subst ht
  refine ⟨b, off, rfl, h0, hl, hm, fun i hi => ?_, fun n hn => ?_, ?_⟩
  · have := hc i (by omega)
    rw [Addr.add_lit] at this
    exact this
  · have := hw n hn
    simp [Lit.wf, IntKind.min, IntKind.max, IntKind.signed, IntKind.bits] at this; omega
  · exact World.block_lt_of_cell? w _ hcell

theorem wf8 {a : Int} (h0 : 0 ≤ a) (h1 : a < 256) : (Lit.int .u8 a).wf = true := by
  simp [Lit.wf, IntKind.min, IntKind.max, IntKind.signed, IntKind.bits]; omega
theorem wf32 {a : Int} (h0 : -2147483648 ≤ a) (h1 : a ≤ 2147483647) : (Lit.int .i32 a).wf = true := by
  simp [Lit.wf, IntKind.min, IntKind.max, IntKind.signed, IntKind.bits]; omega
theorem ab_range {zs : List Int} (hz : ∀ n ∈ zs, 0 ≤ n ∧ n < 256) (r : Nat) : 0 ≤ aOf r zs ∧ aOf r zs < 16 ∧ 0 ≤ bOf r zs ∧ bOf r zs < 16 := by
  have := zat_range hz 1
  unfold aOf bOf
  split <;> omega
theorem fits_all {zs : List Int} (hz : ∀ n ∈ zs, 0 ≤ n ∧ n < 256) (r : Nat) (hr : r < 10) : (Lit.int .u8 (zat zs 0)).wf = true ∧ (Lit.int .u8 (aOf r zs)).wf = true ∧ (Lit.int .u8 (bOf r zs)).wf = true ∧ (Lit.int .i32 (immOf r zs)).wf = true := by
  have h0 := zat_range hz 0
  have h1 := ab_range hz r
  have h2 := immOf_range hz r hr
  obtain ⟨_, _, _, _, h3, h4⟩ := raw_hi r hr
  exact ⟨wf8 h0.1 h0.2, wf8 h1.1 (by omega), wf8 h1.2.2.1 (by omega), wf32 (by omega) (by omega)⟩
end Go.Proofs.YtpalbpjmjbcelaaDoor
