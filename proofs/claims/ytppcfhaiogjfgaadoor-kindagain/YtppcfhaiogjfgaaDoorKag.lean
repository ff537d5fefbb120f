/- Two tables that are asked in whatever order: one's answers do not hang on the other. -/
import Derived.Test.YtppcfhaiogjfgaaDoorKsets
namespace Go.Proofs.YtppcfhaiogjfgaaDoor
open Go.RowKit
set_option linter.unusedVariables false

theorem Asked.cells {w : World} {o kb : Nat} (h : Asked w o kb) : (∃ cs t fr, w.heap[o]? = some (.cells cs t fr)) ∧ ∃ cs t fr, w.heap[kb]? = some (.cells cs t fr) := by
  rcases h.2 with ⟨h1, h2⟩ | ⟨h1, b, n, h2, _⟩
  · exact ⟨⟨_, _, _, h1⟩, ⟨_, _, _, h2⟩⟩
  · exact ⟨⟨_, _, _, h1⟩, ⟨_, _, _, h2⟩⟩
theorem Asked.other {w w' : World} {o kb o2 kb2 : Nat} (h2 : Asked w o2 kb2) (h1 : Asked w o kb) (k : Stp o kb w w') (n1 : o2 ≠ o) (n2 : o2 ≠ kb) (n3 : kb2 ≠ o) (n4 : kb2 ≠ kb) : Asked w' o2 kb2 := by
  obtain ⟨⟨_, _, _, c1⟩, ⟨_, _, _, c2⟩⟩ := h1.cells
  have hl := h2.lt
  have e1 := k.block o2 hl.1 n1 n2
  have e2 := k.block kb2 hl.2 n3 n4
  refine ⟨h2.1, ?_⟩
  rcases h2.2 with ⟨g1, g2⟩ | ⟨g1, b, n, g2, g3⟩
  · exact .inl ⟨e1.trans g1, e2.trans g2⟩
  · exact .inr ⟨e1.trans g1, b, n, e2.trans g2, g3.block (k.block b g3.lt (map_ne g3 c1) (map_ne g3 c2))⟩
/-- Two tables have nothing in common. -/
structure Apart (p o kb p2 o2 kb2 : Nat) : Prop where
  a1 : o2 ≠ o
  a2 : o2 ≠ kb
  a3 : kb2 ≠ o
  a4 : kb2 ≠ kb
  a5 : p2 ≠ o
  a6 : p2 ≠ kb
theorem Tb.other {W w w' : World} {p o kb p2 o2 kb2 : Nat} (h2 : Tb W w p2 o2 kb2) (h1 : Tb W w p o kb) (k : Stp o kb w w') (n : Apart p o kb p2 o2 kb2) : Tb W w' p2 o2 kb2 :=
  ⟨(k.block p2 (block_ge h2.tab) n.a5 n.a6).trans h2.tab, h2.asked.other h1.asked k n.a1 n.a2 n.a3 n.a4, h2.po, h2.pk, h1.kep.stp k h1.go h1.gk, h2.go, h2.gk⟩

/-- A world in which two tables may have been asked meanwhile; else it is as w3 was, but for new blocks. -/
structure TW2 (w w3 : World) (p o kb p2 o2 kb2 : Nat) where
  val : World
  t1 : Tb w val p o kb
  t2 : Tb w val p2 o2 kb2
  sz : w3.heap.size ≤ val.heap.size
  st : ∀ k, k < w3.heap.size → k ≠ o → k ≠ kb → k ≠ o2 → k ≠ kb2 → val.heap[k]? = w3.heap[k]?
theorem TW2.cell {w w3 : World} {p o kb p2 o2 kb2 : Nat} (i : TW2 w w3 p o kb p2 o2 kb2) {b j : Nat} (hb : b < w3.heap.size) (h1 : b ≠ o) (h2 : b ≠ kb) (h3 : b ≠ o2) (h4 : b ≠ kb2) : i.val.cell? ⟨b, j, none⟩ = w3.cell? ⟨b, j, none⟩ := by
  have := i.st b hb h1 h2 h3 h4
  simp only [World.cell?, this]
theorem TW2.on1 {w w3 w' : World} {p o kb p2 o2 kb2 : Nat} (n : Apart p o kb p2 o2 kb2) (i : TW2 w w3 p o kb p2 o2 kb2) (t : Tb w w' p o kb) (s : Stp o kb i.val w') : ∃ j : TW2 w w3 p o kb p2 o2 kb2, w' = j.val :=
  ⟨⟨w', t, i.t2.other i.t1 s n, Nat.le_trans i.sz s.size, fun k hk h1 h2 h3 h4 => (s.block k (Nat.lt_of_lt_of_le hk i.sz) h1 h2).trans (i.st k hk h1 h2 h3 h4)⟩, rfl⟩
theorem TW2.on2 {w w3 w' : World} {p o kb p2 o2 kb2 : Nat} (n : Apart p2 o2 kb2 p o kb) (i : TW2 w w3 p o kb p2 o2 kb2) (t : Tb w w' p2 o2 kb2) (s : Stp o2 kb2 i.val w') : ∃ j : TW2 w w3 p o kb p2 o2 kb2, w' = j.val :=
  ⟨⟨w', i.t1.other i.t2 s n, t, Nat.le_trans i.sz s.size, fun k hk h1 h2 h3 h4 => (s.block k (Nat.lt_of_lt_of_le hk i.sz) h3 h4).trans (i.st k hk h1 h2 h3 h4)⟩, rfl⟩
theorem region_tw2 {P : Program} {id : Nat} {Q : Exit → Act → World → Prop} {a : Act} {w w3 : World} {p o kb p2 o2 kb2 : Nat} {l : List Oper} (hm : P.follows .mixedOrders = true) (hB : Region.lexB .any l.toArray = true) (h1 : Tb w w3 p o kb) (h2 : Tb w w3 p2 o2 kb2)
    (h : wpQuiet P l.toArray (fun w' => ∃ i : TW2 w w3 p o kb p2 o2 kb2, w' = i.val) (fun a' => ∀ w', (∃ i : TW2 w w3 p o kb p2 o2 kb2, w' = i.val) → Q .normal a' w') l a) : (Code.region id l.toArray true).wp P Q a w3 :=
  wp_region_quiet (C := fun w' => ∃ i : TW2 w w3 p o kb p2 o2 kb2, w' = i.val) hm hB ⟨⟨_, h1.kp (Kep.refl w3).drew, h2.kp (Kep.refl w3).drew, Nat.le_refl _, fun _ _ _ _ _ _ => rfl⟩, rfl⟩ (by simpa using h)
end Go.Proofs.YtppcfhaiogjfgaaDoor
