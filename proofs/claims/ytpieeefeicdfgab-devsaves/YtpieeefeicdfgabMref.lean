/- The document's memory: a row of bytes. -/
import Derived.Test.YtpieeefeicdfgabMcopy
namespace Go.Proofs.Ytpieeefeicdfgab
open Go.RowKit
set_option linter.unusedVariables false

/-- The document's memory with the bytes B, in the row Rb. -/
structure Refd (w : World) (x : Option Addr) (Rb : Nat) (B : List Int) : Prop where
  row : RowB w Rb B
  adr : B ≠ [] → x = some ⟨Rb, 0, none⟩
  max : (B.length : Int) ≤ 32768
theorem Refd.kep {w w' : World} {x : Option Addr} {Rb : Nat} {B : List Int} (h : Refd w x Rb B) (k : Kep w w') : Refd w' x Rb B := ⟨h.row.kep k, h.adr, h.max⟩
theorem Refd.put {w w' : World} {x : Option Addr} {Rb : Nat} {B : List Int} {l : List Nat} (h : Refd w x Rb B) (k : Put l w w') (hl : Rb ∉ l) : Refd w' x Rb B := ⟨h.row.put k hl, h.adr, h.max⟩
abbrev refV (x : Option Addr) (n : Nat) : Value := .agg #[.slice x n n]

set_option maxRecDepth 100000 in
theorem refSetByte_any (w : World) (x : Option Addr) (Rb : Nat) (B : List Int) (h : Refd w x Rb B) (a : Nat) (ha : (a : Int) < 4294967296) (b : Int) :
    Calls Try.prog 41 #[refV x B.length, .int .u32 a, .int .u8 b] w fun e w' => e = .returned (.bool (decide (a < B.length))) ∧ Put [Rb] w w' ∧ RowB w' Rb (if a < B.length then B.set a b else B) := by
  obtain ⟨n, hn⟩ : ∃ n, n = B.length := ⟨_, rfl⟩
  have hmax := h.max
  by_cases hl : a < B.length
  · rw [if_pos hl, decide_eq_true hl]
    have hB : B ≠ [] := by intro e; subst e; simp at hl
    have hr : Hid (∀ o, RowB (w.alloc o) Rb B) := fun o => h.row.kep ((Kep.refl _).alloc o)
    have c : ∀ o, (w.alloc o).cell? ⟨Rb, a, none⟩ = some (.int .u8 (B.getD a 0)) := fun o => (hr.out o).cell hl
    have f : ∀ o, (w.alloc o).frozen? ⟨Rb, a, none⟩ = false := fun o => by simp only [World.frozen?, hr.out o hB]; simp
    have hx := h.adr hB
    subst hx
    rw [← hn] at hl hmax ⊢
    generalize B.getD a 0 = b0 at c
    have hl' : (a : Int) < n := by omega
    clear h hn ha hl
    go_enter Try.func41, Try.ntmps41
    go_wp2
    go_ret
    exact ⟨rfl, (Put.of_kep ((Kep.refl _).alloc _)).setCell (by simp) _, (hr.out _).set _ _⟩
  · rw [if_neg hl, decide_eq_false hl]
    have hr : Hid (∀ o, RowB (w.alloc o) Rb B) := fun o => h.row.kep ((Kep.refl _).alloc o)
    rw [← hn] at hl hmax ⊢
    have hl' : (n : Int) ≤ a := by omega
    clear h hn
    go_enter Try.func41, Try.ntmps41
    go_wp2
    go_ret
    exact ⟨rfl, Put.of_kep ((Kep.refl _).alloc _), hr.out _⟩

theorem size_ref : (Try.prog.info? 42).map (·.size) = some 1 := by kernel_rfl

set_option maxRecDepth 100000 in
theorem refNew_any (w : World) (n : Nat) (h1 : (1 : Int) ≤ n) (h2 : (n : Int) ≤ 512) :
    Calls Try.prog 39 #[.int .i64 n] w fun e w' => e = .returned (refV (some ⟨w.heap.size + 1, 0, none⟩) (64 * n)) ∧ Kep w w' ∧ w'.heap[w.heap.size + 1]? = some (.cells (byt (List.replicate (64 * n) 0)).toArray 5 (0, 0)) := by
  have m1 := make_row (n * 64) (by omega)
  have e1 : ((n * 64 : Nat) : Int) = (n : Int) * 64 := by omega
  rw [e1] at m1
  have e2 : 64 * n = n * 64 := by omega
  rw [e2]
  clear e1 e2
  generalize (byt (List.replicate (n * 64) 0)).toArray = Z at m1
  go_enter Try.func39, Try.ntmps39
  go_wp2
  refine bodyPost_ret (results1 rfl _ _ w.heap.size 42 #[.slice (some ⟨w.heap.size + 1, 0, none⟩) (n * 64) (n * 64)] (0, 0) _ rfl ?_ Try.underlying42 rfl size_ref) rfl ⟨rfl, ((Kep.refl _).alloc _).alloc _, ?_⟩
  · exact (hsk _ _ _ (by simp)).trans (hat _ _ _ rfl)
  · exact hat _ _ _ (by simp)
end Go.Proofs.Ytpieeefeicdfgab
