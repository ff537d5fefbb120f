/- The document's memory: bytes laid in a row, its copy, its frames. -/
import Derived.Test.YthgkkjcemjadoaaMref
namespace Go.Proofs.Ythgkkjcemjadoaa
open Go.RowKit
set_option linter.unusedVariables false

theorem splice_step (B : List Int) (a : Nat) (zs : List Int) (k : Nat) (hk : k < zs.length) (h : a + zs.length ≤ B.length) : (splice B a (zs.take k)).set (a + k) (zs.getD k 0) = splice B a (zs.take (k + 1)) := by
  have l1 : (zs.take k).length = k := by simp; omega
  have l2 : (zs.take (k + 1)).length = k + 1 := by simp; omega
  have e : zs.take (k + 1) = zs.take k ++ [zs.getD k 0] := by rw [List.take_add_one]; simp [List.getD, hk]
  unfold splice
  rw [l1, l2, e, List.append_assoc, List.set_append_right _ _ (by simp; omega), List.length_take, show min a B.length = a by omega, show a + k - a = k by omega, List.set_append_right _ _ (by omega), l1, Nat.sub_self]
  congr 2
  rw [← Nat.add_assoc]
  obtain ⟨y, hy⟩ : ∃ y, B.drop (a + k) = y :: B.drop (a + k + 1) := ⟨_, (List.drop_eq_getElem_cons (by omega))⟩
  rw [hy]
  simp
theorem splice_zero (B : List Int) (a : Nat) (zs : List Int) : splice B a (zs.take 0) = B := by simp [splice]
theorem layL_range {n : Nat} : ∀ (zs B : List Int) (a : Nat), B.length = 64 * n → a + zs.length ≤ 64 * n → layL B (List.range n) a zs = splice B a zs
  | [], B, a, _, _ => (splice_nil B _).symm
  | z :: zs, B, a, h1, h2 => by
    simp only [List.length_cons] at h2
    rw [layL, pos_range (by omega), layL_range zs _ _ (by simpa using h1) (by omega)]
    exact splice_cons _ _ _ _ (by omega)

theorem one8 (x : Int) (w : World) : ∀ j u, ([Value.int .u8 x])[j]? = some u → (w.alloc (.cells #[.int .u8 x] 5)).cell? ((⟨w.heap.size, 0, none⟩ : Addr).add j) = some u := by
  intro j u hj
  match j, hj with
  | 0, hj => simp at hj; subst hj; simp [Addr.add]
theorem one8c (x : Int) : ∀ u ∈ [Value.int .u8 x], u.oneCell' = true := by
  intro u hu; simp at hu; subst hu; rfl
theorem own_base {w : World} {base : Nat} {e : TypeId} {size n g : Nat} {v : Value} {xs : List Value} (h : w.ownsRow base e size v n xs) (hg : v.ownBlock = some g) : base ≤ g := by
  rcases h.2 with ⟨rfl, _⟩ | ⟨g', cap, cur, rfl, h2, _⟩
  · simp [Value.ownBlock] at hg
  · simp [Value.ownBlock] at hg; omega
/-- A slice value that holds a row of bytes of its own. -/
def OwnV (w : World) (base : Nat) (v : Value) (B : List Int) : Prop := w.ownsRow base 5 1 v B.length (byt B)

theorem OwnV.kep {w w' : World} {base : Nat} {v : Value} {B : List Int} (h : OwnV w base v B) (k : Kep w w') : OwnV w' base v B := by
  refine ⟨h.1, ?_⟩
  rcases h.2 with h1 | ⟨g, cap, cur, h1, h2, h3, h4⟩
  · exact .inl h1
  · exact .inr ⟨g, cap, cur, h1, h2, k.block h3, h4⟩
/-- The cells of a slice value are these bytes. -/
def Rd (w : World) (v : Value) (B : List Int) : Prop := ∃ (g off c : Nat), v = .slice (some ⟨g, off, none⟩) B.length c ∧ ∀ j u, (byt B)[j]? = some u → w.cell? ((⟨g, off, none⟩ : Addr).add j) = some u
theorem Rd.kep {w w' : World} {v : Value} {B : List Int} (h : Rd w v B) (k : Kep w w') (hB : B ≠ []) : Rd w' v B := by
  obtain ⟨g, off, c, e, hc⟩ := h
  refine ⟨g, off, c, e, fun j u hu => ?_⟩
  have h0 := hc j u hu
  have hlt := World.block_lt_of_cell? w _ h0
  rw [Addr.add_lit] at h0 hlt ⊢
  exact (k.cell hlt).trans h0

end Go.Proofs.Ythgkkjcemjadoaa
