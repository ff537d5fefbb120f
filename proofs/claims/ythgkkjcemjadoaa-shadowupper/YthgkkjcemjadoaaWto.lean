/- Where an access leads; an entry that is soiled. -/
import Derived.Test.YthgkkjcemjadoaaWmay
namespace Go.Proofs.Ythgkkjcemjadoaa
open Go.RowKit
set_option linter.unusedVariables false

theorem way_one (b a e d t p : Int) : (wayV b a e d t p).all (·.oneCell') = true := by simp [Value.oneCell']
theorem way_cells {w : World} {g : Nat} {b a e d t p : Int} (h : w.heap[g]? = some (.cells (wayV b a e d t p) 43 (0, 0))) :
    w.cell? ⟨g, 0, none⟩ = some (.int .u32 b) ∧ w.cell? ⟨g, 1, none⟩ = some (.int .u32 a) ∧ w.cell? ⟨g, 2, none⟩ = some (.int .u32 e) ∧ w.cell? ⟨g, 3, none⟩ = some (.int .i64 d) ∧ w.cell? ⟨g, 4, none⟩ = some (.int .i64 t) ∧ w.cell? ⟨g, 5, none⟩ = some (.int .i64 p) ∧ ∀ k, w.frozen? ⟨g, k, none⟩ = false :=
  ⟨cell_of_block h, cell_of_block h, cell_of_block h, cell_of_block h, cell_of_block h, cell_of_block h, fun k => by simp [World.frozen?, h]⟩
/-- What To answers. -/
def toR : Option Nat → Array Value
  | none => #[.int .u32 0, .bool false]
  | some a => #[.int .u32 a, .bool true]
def toW (kind : Int) (user : Bool) : Option Wy → Option Nat
  | none => none
  | some y => if wmayB y.bits kind user then some y.at_ else none
def toF (M : Nat → Option Nat) (s root : Nat) (dirs : Int) (ps va : Nat) (kind : Int) : Option Nat :=
  if ps / 4 % 2 = 1 then toW kind (ps % 2 == 1) (lookF M s root dirs va)
  else if va < s ∧ 1 ≤ kind ∧ kind ≤ 3 then some va else none

theorem joinN_lt (x y : Nat) : joinN x y < 32 := by
  have : ∀ r < 32, ∀ s < 32, joinN r s < 32 := by decide +kernel
  rw [← joinN_mod]
  exact this _ (Nat.mod_lt _ (by decide)) _ (Nat.mod_lt _ (by decide))
theorem lookF_bits {M : Nat → Option Nat} {s root : Nat} {dirs : Int} {va : Nat} {y : Wy} (h : lookF M s root dirs va = some y) : y.bits < 32 := by
  unfold lookF at h
  split at h
  · unfold look1 at h
    split at h
    · cases h
    · split at h
      · cases h
      · unfold look2 at h
        split at h
        · cases h
        · split at h
          · cases h
          · unfold look3 at h
            split at h
            · simp only [Option.some.injEq] at h
              subst h
              exact joinN_lt _ _
            · cases h
  · cases h

end Go.Proofs.Ythgkkjcemjadoaa
