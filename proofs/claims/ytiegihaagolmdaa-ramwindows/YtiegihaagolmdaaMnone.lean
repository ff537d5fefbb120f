/- A memory that is not there, or that no call made. -/
import Derived.Test.YtiegihaagolmdaaMopen
import Derived.BigQuiet
namespace Go.Proofs.Ytiegihaagolmdaa
open Go.RowKit
set_option linter.unusedVariables false

theorem window_no (w : World) (v : Value) (R : Nat) (h : Ram w v R []) (x : Option Addr) (l c : Nat) :
    Calls Try.prog 19 #[v, .slice x l c] w fun e w' => e = .returned (.tuple #[.pointer none, .int .i64 1]) ∧ w' = w := by
  have hc : Hid (Calls Try.prog 26 #[v] w fun e w' => e = .returned (.int .i64 0) ∧ w' = w) := count_any w v R [] h
  clear h
  go_enter Try.func19, Try.ntmps19
  go_wp2_with (go_at_call 26; refine hc.out.mono ?_; rintro e w1 ⟨rfl, rfl⟩)
  go_ret2
  exact ⟨rfl, rfl⟩

/-- A memory without a byte. -/
abbrev No (w : World) (v : Value) (R Rb : Nat) : Prop := Two w v R 0 none Rb []
theorem no_nil {w : World} {R Rb : Nat} (h : R ≠ Rb) (h1 : R < w.heap.size) (h2 : Rb < w.heap.size) : No w (.pointer none) R Rb :=
  ⟨.inl ⟨rfl, rfl⟩, RowB.nil _ _, ⟨RowB.nil _ _, fun e => absurd rfl e, by decide⟩, rfl, fun b hb => by simp at hb, h, by decide, fun p e => by simp at e, h1, h2⟩
theorem no_zero {w : World} {R Rb p : Nat} (h : R ≠ Rb) (h1 : R < w.heap.size) (h2 : Rb < w.heap.size) (hp : w.heap[p]? = some (.cells #[.slice none 0 0] 48 (0, 0))) (n1 : p ≠ R) (n2 : p ≠ Rb) : No w (.pointer (some ⟨p, 0, none⟩)) R Rb := by
  refine ⟨.inr (.inl ⟨rfl, p, rfl, hp, n1⟩), RowB.nil _ _, ⟨RowB.nil _ _, fun e => absurd rfl e, by decide⟩, rfl, fun b hb => by simp at hb, h, by decide, fun q e => ?_, h1, h2⟩
  simp at e
  subst e
  exact ⟨nm2 n1 n2, fun F n c hc => by rw [cell_of_block hp] at hc; simp at hc⟩
/-- A world in which such a memory may have been asked meanwhile. -/
structure NW (w2 : World) (v : Value) (R Rb : Nat) where
  val : World
  no : No val v R Rb
  put : Put [R, Rb] w2 val
theorem NW.cell {w2 : World} {v : Value} {R Rb : Nat} (i : NW w2 v R Rb) {b j : Nat} (hb : b < w2.heap.size) (h1 : b ≠ R) (h2 : b ≠ Rb) : i.val.cell? ⟨b, j, none⟩ = w2.cell? ⟨b, j, none⟩ := i.put.cell hb (nm2 h1 h2)
theorem NW.on {w2 w' : World} {v : Value} {R Rb : Nat} (i : NW w2 v R Rb) (h : No w' v R Rb) (k : Put [R, Rb] i.val w') : ∃ j : NW w2 v R Rb, w' = j.val := ⟨⟨w', h, i.put.trans k⟩, rfl⟩
theorem region_nw {P : Program} {id : Nat} {Q : Exit → Act → World → Prop} {a : Act} {w2 : World} {v : Value} {R Rb : Nat} {l : List Oper} (hm : P.follows .mixedOrders = true) (hB : Region.lexB .any l.toArray = true) (hT : No w2 v R Rb)
    (h : wpQuiet P l.toArray (fun w' => ∃ i : NW w2 v R Rb, w' = i.val) (fun a' => ∀ w', (∃ i : NW w2 v R Rb, w' = i.val) → Q .normal a' w') l a) : (Code.region id l.toArray true).wp P Q a w2 :=
  wp_region_quiet (C := fun w' => ∃ i : NW w2 v R Rb, w' = i.val) hm hB ⟨⟨_, hT.kep (Kep.refl w2).drew, (Put.refl w2).drew⟩, rfl⟩ (by simpa using h)
theorem step_no {w0 w : World} {v : Value} {R Rb : Nat} (h : No w v R Rb) (k : Kep w0 w) (hR : w0.heap.size ≤ R) (hRb : w0.heap.size ≤ Rb) {kd a z : Int} {x : Option Addr} {l c : Nat} {m : Int} {zs : List Int} (s : IsStep w0 kd a z x l c m zs) :
    Calls Try.prog 14 #[v, refV none 0, .agg (stepV kd a z x l c m)] w fun e w' => e = .returned (.bool true) ∧ No w' v R Rb ∧ Put [R, Rb] w w' := by
  have hs : Src w x zs [R, Rb] := (s.sl.2.2.2.1.more (l := [R, Rb]) (by simp; omega)).put (Put.of_kep k)
  refine (step_any w v R 0 none Rb [] h kd a z m s.a0 s.a1 s.z0 s.z1 x l c zs s.sl.1 s.sl.2.1 s.sl.2.2.1 hs s.sl.2.2.2.2).mono ?_
  rintro e w' ⟨rfl, C, T, P⟩
  have : C = [] := List.eq_nil_of_length_eq_zero (by have := T.len; omega)
  subst this
  exact ⟨rfl, T, P⟩
end Go.Proofs.Ytiegihaagolmdaa
