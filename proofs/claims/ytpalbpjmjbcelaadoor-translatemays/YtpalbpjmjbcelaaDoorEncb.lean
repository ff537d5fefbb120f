/- The bytes of an instruction: how many, that they are bytes, that they lie in memory; and that reading and writing them are one another's way back. -/
import Derived.Test.YtpalbpjmjbcelaaDoorRowin
import Derived.Test.YtpalbpjmjbcelaaDoorEnc
namespace Go.Proofs.YtpalbpjmjbcelaaDoor
open Go.RowKit

theorem pre_len (r : Nat) (op a b : Int) : (preL r op a b).length = posI r := by unfold preL posI; split <;> rfl
theorem enc_len (r : Nat) (op a b imm : Int) (hr : r < 10) (h0 : r ≠ 0) : ((encL r op a b imm).length : Int) = sz r := by
  have h1 := sz_is r hr h0
  have h2 := f3_range r hr
  unfold encL
  rw [List.length_append, pre_len, List.length_map, List.length_range]
  unfold posI
  rw [h1]
  split <;> omega
theorem enc_fit (r : Nat) (op a b imm : Int) (h0 : 0 ≤ op) (h1 : op < 256) (ha : 0 ≤ a) (ha' : a ≤ 7) (hb : 0 ≤ b) (hb' : b ≤ 7) : ∀ n ∈ encL r op a b imm, 0 ≤ n ∧ n < 256 := by
  intro n hn
  unfold encL at hn
  rw [List.mem_append] at hn
  rcases hn with hn | hn
  · unfold preL at hn
    split at hn <;> simp at hn <;> omega
  · obtain ⟨k, _, rfl⟩ := List.mem_map.1 hn
    unfold byteAt; omega
theorem zat_left (l m : List Int) (i : Nat) (h : i < l.length) : zat (l ++ m) i = zat l i := by
  unfold zat; simp [List.getD, List.getElem?_append_left h]
theorem zat_right (l m : List Int) (i : Nat) : zat (l ++ m) (l.length + i) = zat m i := by
  unfold zat; simp [List.getD, List.getElem?_append_right]
theorem enc_op (r : Nat) (op a b imm : Int) (m : List Int) : zat (encL r op a b imm ++ m) 0 = op := by
  unfold encL preL; split <;> rfl
theorem enc_ab (r : Nat) (op a b imm : Int) (m : List Int) (h : hasA r = true) : zat (encL r op a b imm ++ m) 1 = a * 16 + b := by
  unfold encL preL; rw [h]; rfl
theorem enc_imm (r : Nat) (op a b imm : Int) (m : List Int) (k : Nat) (hk : (k : Int) < f3 r) : zat (encL r op a b imm ++ m) (posI r + k) = byteAt imm k := by
  have hk' : k < (f3 r).toNat := by omega
  have e : encL r op a b imm ++ m = preL r op a b ++ ((List.range (f3 r).toNat).map (byteAt imm) ++ m) := by unfold encL; rw [List.append_assoc]
  rw [e, ← pre_len r op a b, zat_right, zat_left _ _ _ (by simpa using hk')]
  unfold zat
  simp [List.getD, hk']

theorem owns_bytes {w : World} {base B n c n' : Nat} {L : List Int} (h : w.ownsRow base 5 1 (.slice (some ⟨B, 0, none⟩) n c) n (bs L)) (hf : ∀ x ∈ L, 0 ≤ x ∧ x < 256) (hn : n' ≤ n) : Bytes w B 0 n' c L := by
  have hl : L.length = n := by have := h.1; simpa using this
  rcases h.2 with ⟨h1, _⟩ | ⟨g, cap, cur, h1, h2, h3, h4, h5, _⟩
  · cases h1
  simp only [Value.slice.injEq, Option.some.injEq, Addr.mk.injEq] at h1
  obtain ⟨⟨rfl, _⟩, _, rfl⟩ := h1
  refine ⟨by omega, h5, fun i hi => ?_, hf, ?_⟩
  · have hx : (bs L)[i]? = some (.int .u8 (zat L i)) := by
      have hi' : i < L.length := by omega
      unfold zat bs
      simp [List.getD, hi']
    have := World.ownsRow.cells h rfl i _ hx
    rw [Addr.add_lit] at this
    exact this
  · rcases Nat.lt_or_ge B w.heap.size with h' | h'
    · exact h'
    · rw [Array.getElem?_eq_none h'] at h3; cases h3

theorem may_parts {r : Nat} {a b imm : Int} (h : mayB r a b imm = true) : r ≠ 0 ∧ a ≤ f1 r ∧ b ≤ f2 r ∧ lo r ≤ imm ∧ imm ≤ hi r := by
  unfold mayB at h
  simp only [Bool.and_eq_true, decide_eq_true_eq, bne_iff_ne] at h
  omega
theorem f12 (r : Nat) (hr : r < 10) : f1 r ≤ 7 ∧ f2 r ≤ 7 ∧ (hasA r = false → f1 r = 0 ∧ f2 r = 0) ∧ (f3 r = 0 ∨ f3 r = 1 ∨ f3 r = 2 ∨ f3 r = 4) := by
  refine ten (p := fun r => f1 r ≤ 7 ∧ f2 r ≤ 7 ∧ (hasA r = false → f1 r = 0 ∧ f2 r = 0) ∧ (f3 r = 0 ∨ f3 r = 1 ∨ f3 r = 2 ∨ f3 r = 4)) r hr ?_ ?_ ?_ ?_ ?_ ?_ ?_ ?_ ?_ ?_ <;> decide

/-- What was written is read as it was. -/
theorem read_back (r : Nat) (hr : r < 10) (op a b imm : Int) (m : List Int) (ha : 0 ≤ a) (hb : 0 ≤ b) (h : mayB r a b imm = true) :
    aOf r (encL r op a b imm ++ m) = a ∧ bOf r (encL r op a b imm ++ m) = b ∧ immOf r (encL r op a b imm ++ m) = imm := by
  obtain ⟨h0, h1, h2, h3, h4⟩ := may_parts h
  obtain ⟨p1, p2, p3, p4⟩ := f12 r hr
  obtain ⟨q1, q2, q3, q4, _, _⟩ := raw_hi r hr
  refine ⟨?_, ?_, ?_⟩
  · unfold aOf
    cases hA : hasA r
    · have := p3 hA; simp; omega
    · rw [enc_ab r op a b imm m hA]; simp; omega
  · unfold bOf
    cases hA : hasA r
    · have := p3 hA; simp; omega
    · rw [enc_ab r op a b imm m hA]; simp; omega
  · have e := enc_imm r op a b imm m
    have hraw : rawOf r (encL r op a b imm ++ m) = imm % (2 : Int) ^ (8 * (f3 r).toNat) := by
      unfold rawOf
      rcases p4 with hf | hf | hf | hf
      · rw [hf] at e ⊢
        simp [rawL]
      · rw [hf] at e ⊢
        have e0 := e 0 (by decide)
        simp only [Nat.add_zero] at e0
        simp [rawL, e0, byteAt]
      · rw [hf] at e ⊢
        have e0 := e 0 (by decide)
        have e1 := e 1 (by decide)
        simp only [Nat.add_zero] at e0
        simp [rawL, e0, e1, byteAt]; omega
      · rw [hf] at e ⊢
        have e0 := e 0 (by decide)
        have e1 := e 1 (by decide)
        have e2 := e 2 (by decide)
        have e3 := e 3 (by decide)
        simp only [Nat.add_zero] at e0
        simp [rawL, e0, e1, e2, e3, byteAt]; omega
    unfold immOf
    rw [hraw, q3]
    split at q3 <;> rename_i hl
    · rw [if_pos hl]
      have e1 : imm % (hi r + 1) = imm := Int.emod_eq_of_lt (by omega) (by omega)
      rw [e1, if_neg (by omega)]
    · rw [if_neg hl]
      have hlo := q4 hl
      by_cases hs : 0 ≤ imm
      · have e1 : imm % (2 * (hi r + 1)) = imm := Int.emod_eq_of_lt hs (by omega)
        rw [e1, if_neg (by omega)]
      · have e1 : imm % (2 * (hi r + 1)) = imm + 2 * (hi r + 1) := by
          have := Int.add_mul_emod_self_left imm (2 * (hi r + 1)) 1
          rw [← this, Int.mul_one]
          exact Int.emod_eq_of_lt (by omega) (by omega)
        rw [e1, if_pos (by omega)]; omega

/-- What was read is written to just the bytes that it was read from. -/
theorem write_back (r : Nat) (hr : r < 10) (zs : List Int) (hz : ∀ n ∈ zs, 0 ≤ n ∧ n < 256) : ∀ i, i < (encL r (zat zs 0) (aOf r zs) (bOf r zs) (immOf r zs)).length → zat (encL r (zat zs 0) (aOf r zs) (bOf r zs) (immOf r zs)) i = zat zs i := by
  intro i hi
  obtain ⟨_, _, _, p4⟩ := f12 r hr
  obtain ⟨q1, q2, q3, q4, _, _⟩ := raw_hi r hr
  have hf := f3_range r hr
  have hzz := zat_range hz
  rcases Nat.lt_or_ge i (posI r) with h | h
  · have e : zat (encL r (zat zs 0) (aOf r zs) (bOf r zs) (immOf r zs)) i = zat (preL r (zat zs 0) (aOf r zs) (bOf r zs)) i := by
      unfold encL; exact zat_left _ _ _ (by rw [pre_len]; exact h)
    rw [e]
    unfold posI at h
    unfold preL aOf bOf
    cases hA : hasA r
    · rw [hA] at h
      obtain rfl : i = 0 := by simpa using h
      rfl
    · rw [hA] at h
      have h' : i = 0 ∨ i = 1 := by simp at h; omega
      rcases h' with rfl | rfl
      · rfl
      · have := hzz 1
        simp [zat] at this ⊢; omega
  · obtain ⟨k, rfl⟩ : ∃ k, i = posI r + k := ⟨i - posI r, by omega⟩
    have hk : (k : Int) < f3 r := by
      unfold encL at hi
      rw [List.length_append, pre_len, List.length_map, List.length_range] at hi
      omega
    have e := enc_imm r (zat zs 0) (aOf r zs) (bOf r zs) (immOf r zs) [] k hk
    rw [List.append_nil] at e
    rw [e]
    have him : immOf r zs = rawOf r zs ∨ immOf r zs = rawOf r zs - (2 : Int) ^ (8 * (f3 r).toNat) := by
      have hb := rawL_range hz (posI r) (f3 r).toNat
      have e2 : rawOf r zs = rawL zs (posI r) (f3 r).toNat := rfl
      rw [← e2, q3] at hb
      unfold immOf
      rw [q3]
      split
      · right
        split at hb <;> rename_i hl
        · omega
        · rw [if_neg hl]; have := q4 hl; omega
      · exact .inl rfl
    have z0 := hzz (posI r)
    have z1 := hzz (posI r + 1)
    have z2 := hzz (posI r + 2)
    have z3 := hzz (posI r + 3)
    unfold byteAt
    unfold rawOf at him
    rcases p4 with hf | hf | hf | hf
    · omega
    · rw [hf] at him hk
      obtain rfl : k = 0 := by omega
      simp [rawL] at him ⊢
      rcases him with him | him <;> rw [him] <;> omega
    · rw [hf] at him hk
      simp [rawL] at him
      rcases (by omega : k = 0 ∨ k = 1) with rfl | rfl <;> simp <;> rcases him with him | him <;> rw [him] <;> omega
    · rw [hf] at him hk
      simp [rawL] at him
      rcases (by omega : k = 0 ∨ k = 1 ∨ k = 2 ∨ k = 3) with rfl | rfl | rfl | rfl <;> simp <;> rcases him with him | him <;> rw [him] <;> omega
end Go.Proofs.YtpalbpjmjbcelaaDoor
