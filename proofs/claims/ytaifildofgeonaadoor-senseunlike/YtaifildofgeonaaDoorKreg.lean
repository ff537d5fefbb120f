/- A statement that asks a table several times, in whatever order. -/
import Derived.Test.YtaifildofgeonaaDoorKway
import Derived.BigQuiet
namespace Go.Proofs.YtaifildofgeonaaDoor
open Go.RowKit
set_option linter.unusedVariables false

/-- A world in which a table may have been asked meanwhile; else it is as w2 was, but for new blocks. -/
structure TW (w w2 : World) (p o kb : Nat) where
  val : World
  tb : Tb w val p o kb
  st : Stp o kb w2 val
theorem TW.cell {w w2 : World} {p o kb : Nat} (i : TW w w2 p o kb) {b j : Nat} (hb : b < w2.heap.size) (h1 : b ≠ o) (h2 : b ≠ kb) : i.val.cell? ⟨b, j, none⟩ = w2.cell? ⟨b, j, none⟩ := by
  have := i.st.block b hb h1 h2
  simp only [World.cell?, this]
theorem region_tw {P : Program} {id : Nat} {Q : Exit → Act → World → Prop} {a : Act} {w w2 : World} {p o kb : Nat} {l : List Oper} (hm : P.follows .mixedOrders = true) (hB : Region.lexB .any l.toArray = true) (hT : Tb w w2 p o kb)
    (h : wpQuiet P l.toArray (fun w' => ∃ i : TW w w2 p o kb, w' = i.val) (fun a' => ∀ w', (∃ i : TW w w2 p o kb, w' = i.val) → Q .normal a' w') l a) : (Code.region id l.toArray true).wp P Q a w2 :=
  wp_region_quiet (C := fun w' => ∃ i : TW w w2 p o kb, w' = i.val) hm hB ⟨⟨_, hT.kp (Kep.refl w2).drew, (Stp.refl w2).drew⟩, rfl⟩ (by simpa using h)
end Go.Proofs.YtaifildofgeonaaDoor
