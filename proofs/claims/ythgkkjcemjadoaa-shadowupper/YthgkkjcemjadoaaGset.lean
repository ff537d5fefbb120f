/- Sets of numbers: map[int]struct{}. -/
import Derived.Test.YthgkkjcemjadoaaPutl
import Derived.Maps.Own
import Derived.Maps.OwnSet
import Derived.Maps.Views
import Derived.MapKept
import Derived.Carry
namespace Go.Proofs.Ythgkkjcemjadoaa
open Go.RowKit Go.ChangeMaps Go.MapKept
set_option linter.unusedVariables false
set_option linter.unusedSimpArgs false

def I6 (k : Int) : Prop := -9223372036854775808 ≤ k ∧ k ≤ 9223372036854775807
theorem keyed6 : Maps.Keyed Try.prog 3 := Maps.int_keyed Try.underlying3
theorem keyI6 (k : Int) (h : I6 k) : keyOf Try.prog 3 (.int .i64 k) = some (.int .i64 k) := Maps.keyOf_int_mk Try.underlying3 (by unfold I6 at h; simp [Lit.wf, IntKind.min, IntKind.max, IntKind.signed, IntKind.bits]; omega)

theorem zero_unit (w : World) : (zeroValue 78).run Try.prog w = .ok (.agg #[]) w := by kernel_rfl
/-- Block b is a set of s numbers, those of which f says yes. -/
def SetI (w : World) (b : Nat) (f : Int → Bool) (s : Nat) : Prop :=
  ∃ D : DataW Value, w.ownsMap Try.prog 3 unitElem b s D ∧ Maps.size D = s ∧ ∀ k, I6 k → Maps.has D (.int .i64 k) = f k
theorem owns_tight {w : World} {b n : Nat} {D : DataW Value} (h : w.ownsMap Try.prog 3 unitElem b n D) : w.ownsMap Try.prog 3 unitElem b (Maps.size D) D := by
  obtain ⟨es, c, hb, F, hs, rfl⟩ := h
  exact ⟨es, c, hb, F, by simp [Maps.size, length_sorted], rfl⟩
theorem SetI.made (w : World) : SetI (w.alloc (.map #[] 0)) w.heap.size (fun _ => false) 0 := ⟨_, World.ownsMap_made w _ _ _, rfl, fun k _ => by simp [Maps.has]⟩
theorem SetI.ext {w : World} {b s : Nat} {f g : Int → Bool} (h : SetI w b f s) (e : ∀ k, I6 k → f k = g k) : SetI w b g s := by
  obtain ⟨D, h1, h2, h3⟩ := h
  exact ⟨D, h1, h2, fun k hk => (h3 k hk).trans (e k hk)⟩
theorem SetI.put {w w' : World} {b s : Nat} {f : Int → Bool} {l : List Nat} (h : SetI w b f s) (k : Put l w w') (hl : b ∉ l) : SetI w' b f s := by
  obtain ⟨D, h1, h2⟩ := h
  obtain ⟨es, c, hb, F, hs, hD⟩ := h1
  exact ⟨D, ⟨es, c, k.keeps hb hl, F, hs, hD⟩, h2⟩
theorem SetI.kep {w w' : World} {b s : Nat} {f : Int → Bool} (h : SetI w b f s) (k : Kep w w') : SetI w' b f s := h.put (l := []) (Put.of_kep k) (by simp)
theorem SetI.lt {w : World} {b s : Nat} {f : Int → Bool} (h : SetI w b f s) : b < w.heap.size := by
  obtain ⟨D, h1, h2⟩ := h
  exact h1.lt
theorem SetI.ne {w : World} {b s R : Nat} {f : Int → Bool} {cs : Array Value} {t : TypeId} {fr : Nat × Nat} (h : SetI w b f s) (hr : w.heap[R]? = some (.cells cs t fr)) : b ≠ R := by
  obtain ⟨D, ⟨es, c, hb, _⟩, h2⟩ := h
  rintro rfl
  rw [hb] at hr; cases hr
theorem SetI.look {w : World} {b s : Nat} {f : Int → Bool} (h : SetI w b f s) (k : Int) (hk : I6 k) :
    (Instr.lookup 77 (.map (some b)) (.int .i64 k) true).run Try.prog w = .ok (.tuple #[.agg #[], .bool (f k)]) w := by
  obtain ⟨D, g1, _, g2⟩ := h
  obtain ⟨v, ps, hr, hv⟩ := g1.look_ok keyed6 Try.underlying77 (zero_unit w) (zd := .agg []) (zp := []) unitElem_mk (keyI6 k hk)
  obtain ⟨rfl, _⟩ := unitElem_inv hv
  rw [hr, g2 k hk]
theorem SetI.len {w : World} {b s : Nat} {f : Int → Bool} (h : SetI w b f s) (ty : TypeId) : (Builtin.len_ #[77] ty #[.map (some b)]).run Try.prog w = .ok (.int .i64 s) w := by
  obtain ⟨D, g1, g2, _⟩ := h
  rw [g1.len Try.underlying77 ty, g2]
theorem put_of_turned {w w' : World} {b : Nat} (h : w.mapTurned w' b) : Put [b] w w' := by
  have hg := h.grown
  exact ⟨hg.os, hg.tape, hg.output, hg.size, fun i hi hn => hg.block i hi (by intro e; simp at e hn; exact hn e)⟩
def insF (f : Int → Bool) (k : Int) : Int → Bool := fun j => decide (j = k) || f j
def delF (f : Int → Bool) (k : Int) : Int → Bool := fun j => !decide (j = k) && f j
theorem SetI.store {w : World} {b s : Nat} {f : Int → Bool} (h : SetI w b f s) (hn : s < maxLen) (k : Int) (hk : I6 k) :
    ∃ w', (Instr.mapUpdate 77 (.map (some b)) (.int .i64 k) (.agg #[])).run Try.prog w = .ok () w' ∧ SetI w' b (insF f k) (if f k then s else s + 1) ∧ Put [b] w w' := by
  obtain ⟨D, g1, g2, g3⟩ := h
  have ht := g1.tidy keyed6
  obtain ⟨w', hr, hm, hg⟩ := g1.store keyed6 Try.underlying77 hn (keyI6 k hk) unitElem_mk
  have hs : Maps.size (D.put (.int .i64 k) (.agg [])) = if f k then s else s + 1 := by rw [Maps.size_put ht, g3 k hk, g2]
  refine ⟨w', hr, ⟨_, ?_, hs, fun j hj => ?_⟩, put_of_turned hg⟩
  · rw [← hs]; exact owns_tight hm
  · by_cases hjk : j = k
    · subst hjk
      rw [Maps.has_put_same g1.isMap (k := .int .i64 j) trivial]
      simp [insF]
    · rw [Maps.has_put_other (by simp; exact hjk), g3 j hj]
      simp [insF, hjk]
theorem SetI.drop {w : World} {b s : Nat} {f : Int → Bool} (h : SetI w b f s) (k : Int) (hk : I6 k) (ty : TypeId) :
    ∃ w', (Builtin.delete_ #[77, 3] ty #[.map (some b), .int .i64 k]).run Try.prog w = .ok (.tuple #[]) w' ∧ SetI w' b (delF f k) (if f k then s - 1 else s) ∧ Put [b] w w' := by
  obtain ⟨D, g1, g2, g3⟩ := h
  have ht := g1.tidy keyed6
  obtain ⟨w', hr, hm, hg⟩ := g1.drop keyed6 Try.underlying77 (keyI6 k hk) ty
  have hs : Maps.size (D.del (.int .i64 k)) = if f k then s - 1 else s := by
    have := Maps.size_del ht (k := .int .i64 k)
    rw [g3 k hk, g2] at this
    split <;> simp_all <;> omega
  refine ⟨w', hr, ⟨_, ?_, hs, fun j hj => ?_⟩, put_of_turned hg⟩
  · rw [← hs]; exact owns_tight hm
  · by_cases hjk : j = k
    · subst hjk
      rw [Maps.has_del_same]
      simp [delF]
    · rw [Maps.has_del_other (by simp; exact hjk), g3 j hj]
      simp [delF, hjk]
theorem SetI.clear {w : World} {b s : Nat} {f : Int → Bool} (h : SetI w b f s) (ty : TypeId) :
    ∃ w', (Builtin.clear_ #[77] ty #[.map (some b)]).run Try.prog w = .ok (.tuple #[]) w' ∧ SetI w' b (fun _ => false) 0 ∧ Put [b] w w' := by
  obtain ⟨D, ⟨es, c, hb, F, hs, rfl⟩, g2, g3⟩ := h
  have hrun : (Builtin.clear_ #[77] ty #[.map (some b)]).run Try.prog w = .ok (.tuple #[]) (setBlock w b (.map #[] c)) := by
    simp [Builtin.clear_, run_underlying Try.underlying77, MapKept.run_getObj_map hb, MapKept.run_setObj_map _ hb, Result.andThen, setBlock]
  refine ⟨_, hrun, ⟨.map [], ⟨#[], c, heap_setBlock_same hb _, ?_, by simp, by simp⟩, rfl, fun k _ => by simp [Maps.has]⟩, put_of_turned ⟨es, c, #[], c, hb, rfl⟩⟩
  exact ⟨Nat.zero_le _, by simp [Stamped], by simp⟩
theorem look_nil6 (w : World) (k : Int) (hk : I6 k) : (Instr.lookup 77 (.map none) (.int .i64 k) true).run Try.prog w = .ok (.tuple #[.agg #[], .bool false]) w := Maps.look_nil true keyed6 Try.underlying77 (zero_unit w) (keyI6 k hk)
end Go.Proofs.Ythgkkjcemjadoaa
