/- What bits let; and a walk in a memory. -/
import Derived.Test.YthgkkjcemjadoaaWlook
namespace Go.Proofs.Ythgkkjcemjadoaa
open Go.RowKit
set_option linter.unusedVariables false

/-- The word of a memory at an address. -/
def wdF (B : List Int) (ix : List Nat) (a : Nat) : Option Nat := if a % 4 = 0 ∧ a < 64 * ix.length then some (wordAt B (pos ix a)).toNat else none
theorem wordAt_range {B : List Int} (h : Byts B) (q : Nat) : 0 ≤ wordAt B q ∧ wordAt B q < 4294967296 := by
  have h0 := h.at q
  have h1 := h.at (q + 1)
  have h2 := h.at (q + 2)
  have h3 := h.at (q + 3)
  unfold wordAt wordI
  omega
theorem wdF_lt {B : List Int} {ix : List Nat} (h : Byts B) (a x : Nat) (hx : wdF B ix a = some x) : x < 4294967296 := by
  unfold wdF at hx
  split at hx
  · have := wordAt_range h (pos ix a)
    simp at hx; omega
  · cases hx
theorem wordIs_ram {w : World} {v : Value} {R : Nat} {ix : List Nat} {B : List Int} (h : Ram w v R ix) (hix : (ix.length : Int) ≤ 512) (hB : RowB w R B) (hf : Fits B ix) (hb : Byts B) (a : Nat) (ha : a < 4294967296) : WordIs w v a (wdF B ix a) := by
  intro w' k
  refine (word_any w' v R ix B (h.kep k) hix (hB.kep k) hf hb a (by omega)).mono ?_
  rintro e w'' ⟨rfl, rfl⟩
  refine ⟨?_, rfl⟩
  unfold wdF
  split
  · have := wordAt_range hb (pos ix a)
    simp only [wdR]
    rw [Int.toNat_of_nonneg this.1]
  · rfl
theorem withinIs_ram {w : World} {v : Value} {R : Nat} {ix : List Nat} (h : Ram w v R ix) (hix : (ix.length : Int) ≤ 512) (a : Nat) (ha : a < 4294967296) : WithinIs w v a (decide (a < 64 * ix.length)) := by
  intro w' k
  exact within_any w' v R ix (h.kep k) hix a (by omega)
theorem look_ram {w : World} {v : Value} {R : Nat} {ix : List Nat} {B : List Int} (h : Ram w v R ix) (hix : (ix.length : Int) ≤ 512) (hB : RowB w R B) (hf : Fits B ix) (hb : Byts B) (root : Nat) (dirs : Int) (va : Nat) (hr : (root : Int) < 4294967296) (ha : (va : Int) < 4294967296) :
    Calls Try.prog 14 #[v, .int .u32 root, .int .i64 dirs, .int .u32 va] w fun e w' => e = .returned (.tuple (wyR (lookF (wdF B ix) (64 * ix.length) root dirs va))) ∧ Kep w w' :=
  look_any w v _ _ root dirs va hr ha (fun a x => wdF_lt hb a x) (fun a ha => wordIs_ram h hix hB hf hb a ha) (fun a ha => withinIs_ram h hix a ha)

theorem wmay_tab : ∀ r < 32, ((r &&& 1 == 1) = (r % 2 == 1)) ∧ ((r &&& 3 == 3) = (r % 2 == 1 && r / 2 % 2 == 1)) ∧ ((r &&& 5 == 5) = (r % 2 == 1 && r / 4 % 2 == 1)) ∧ ((r &&& 7 == 7) = (r % 2 == 1 && r / 2 % 2 == 1 && r / 4 % 2 == 1)) ∧ ((r &&& 8 == 0) = (r / 8 % 2 == 0)) := by decide +kernel
theorem and_eq (x m n : Nat) (hx : x < 4294967296) (hm : m < 32) : (bits .and .u32 (x : Int) (m : Int) == (n : Int)) = ((x % 32) &&& m == n) := by
  rw [andN x m hx (by omega), mask32 x m hm, Bool.eq_iff_iff]
  simp
  omega
theorem b32 (x : Nat) : x % 32 % 2 = x % 2 ∧ x % 32 / 2 % 2 = x / 2 % 2 ∧ x % 32 / 4 % 2 = x / 4 % 2 ∧ x % 32 / 8 % 2 = x / 8 % 2 := by omega
theorem has1 (x : Nat) (hx : x < 4294967296) : (bits .and .u32 (x : Int) 1 == 1) = (x % 2 == 1) := by
  have := and_eq x 1 1 hx (by decide)
  rw [(wmay_tab _ (Nat.mod_lt _ (by decide))).1, (b32 x).1] at this
  exact this
theorem has3 (x : Nat) (hx : x < 4294967296) : (bits .and .u32 (x : Int) 3 == 3) = (x % 2 == 1 && x / 2 % 2 == 1) := by
  have := and_eq x 3 3 hx (by decide)
  rw [(wmay_tab _ (Nat.mod_lt _ (by decide))).2.1, (b32 x).1, (b32 x).2.1] at this
  exact this
theorem has5 (x : Nat) (hx : x < 4294967296) : (bits .and .u32 (x : Int) 5 == 5) = (x % 2 == 1 && x / 4 % 2 == 1) := by
  have := and_eq x 5 5 hx (by decide)
  rw [(wmay_tab _ (Nat.mod_lt _ (by decide))).2.2.1, (b32 x).1, (b32 x).2.2.1] at this
  exact this
theorem has7 (x : Nat) (hx : x < 4294967296) : (bits .and .u32 (x : Int) 7 == 7) = (x % 2 == 1 && x / 2 % 2 == 1 && x / 4 % 2 == 1) := by
  have := and_eq x 7 7 hx (by decide)
  rw [(wmay_tab _ (Nat.mod_lt _ (by decide))).2.2.2.1, (b32 x).1, (b32 x).2.1, (b32 x).2.2.1] at this
  exact this
theorem no8 (x : Nat) (hx : x < 4294967296) : (bits .and .u32 (x : Int) 8 == 0) = (x / 8 % 2 == 0) := by
  have := and_eq x 8 0 hx (by decide)
  rw [(wmay_tab _ (Nat.mod_lt _ (by decide))).2.2.2.2, (b32 x).2.2.2] at this
  exact this
theorem no0 (x : Nat) (hx : x < 4294967296) : (bits .and .u32 (x : Int) 0 == 0) = true := by
  have := and_eq x 0 0 hx (by decide)
  rw [Nat.and_zero] at this
  exact this

/-- Whether bits let an access. -/
def wmayB (x : Nat) (kind : Int) (user : Bool) : Bool :=
  if kind = 1 then x % 2 == 1 && (!user || x / 4 % 2 == 1)
  else if kind = 2 then x % 2 == 1 && (!user || x / 4 % 2 == 1) && x / 8 % 2 == 0
  else if kind = 3 then x % 2 == 1 && (!user || x / 4 % 2 == 1) && x / 8 % 2 == 0 && x / 2 % 2 == 1
  else false

end Go.Proofs.Ythgkkjcemjadoaa
