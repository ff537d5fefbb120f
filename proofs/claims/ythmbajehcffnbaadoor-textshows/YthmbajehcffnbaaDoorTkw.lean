/- A drawing region whose calls make memory alone. -/
import Derived.Test.YthmbajehcffnbaaDoorTtab
import Derived.Deep.QuietTactic
import Derived.BigQuiet
namespace Go.Proofs.YthmbajehcffnbaaDoor
open Go.RowKit
set_option linter.unusedVariables false

/-- A world that has at most new blocks beside another one. -/
structure KW (w : World) where
  val : World
  ok : Kep w val
theorem region_kw {P : Program} {id : Nat} {Q : Exit → Act → World → Prop} {a : Act} {w : World} {l : List Oper} (hm : P.follows .mixedOrders = true) (hB : Region.lexB .any l.toArray = true)
    (h : wpQuiet P l.toArray (fun w' => ∃ i : KW w, w' = i.val) (fun a' => ∀ w', (∃ i : KW w, w' = i.val) → Q .normal a' w') l a) : (Code.region id l.toArray true).wp P Q a w :=
  wp_region_quiet (C := fun w' => ∃ i : KW w, w' = i.val) hm hB ⟨⟨_, (Kep.refl w).drew⟩, rfl⟩ (by simpa using h)
theorem KW.cell {w : World} {b o : Nat} {v : Value} (h : w.cell? ⟨b, o, none⟩ = some v) (hb : b < w.heap.size) (i : KW w) : i.val.cell? ⟨b, o, none⟩ = some v := (i.ok.cell hb).trans h
theorem ins_cells {w : World} {b : Nat} {op a c imm : Int} (h : w.heap[b]? = some (.cells #[.int .u8 op, .int .u8 a, .int .u8 c, .int .i32 imm] 23 (0, 0))) :
    w.cell? ⟨b, 0, none⟩ = some (.int .u8 op) ∧ w.cell? ⟨b, 1, none⟩ = some (.int .u8 a) ∧ w.cell? ⟨b, 2, none⟩ = some (.int .u8 c) ∧ w.cell? ⟨b, 3, none⟩ = some (.int .i32 imm) ∧ b < w.heap.size :=
  ⟨cell_of_block h, cell_of_block h, cell_of_block h, cell_of_block h, by
    rcases Nat.lt_or_ge b w.heap.size with q | q
    · exact q
    · rw [Array.getElem?_eq_none q] at h; cases h⟩
end Go.Proofs.YthmbajehcffnbaaDoor
