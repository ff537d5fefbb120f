/- The code's table of names, as the call lays it. -/
import Derived.Test.YthmbajehcffnbaaDoorLaid
namespace Go.Proofs.YthmbajehcffnbaaDoor
open Go.RowKit
set_option linter.unusedVariables false

/-- Operations whose numbers rise from the first one, by their names. -/
structure Run where
  first : Int
  names : List (Array UInt8)
def runsT : List Run := [
  ⟨0, [#[110, 111, 112], #[104, 108, 116], #[105, 114, 101, 116], #[102, 108, 117, 115, 104]]⟩,
  ⟨16, [#[109, 111, 118], #[97, 100, 100], #[115, 117, 98], #[97, 110, 100], #[111, 114], #[120, 111, 114], #[115, 104, 108], #[115, 104, 114], #[109, 117, 108], #[100, 105, 118], #[99, 109, 112], #[114, 111, 114], #[115, 97, 114], #[109, 117, 108, 104], #[114, 101, 109], #[116, 115, 116]]⟩,
  ⟨32, [#[108, 100, 105], #[97, 100, 100, 105]]⟩,
  ⟨48, [#[108, 100], #[115, 116], #[108, 100, 98], #[115, 116, 98], #[108, 100, 104], #[115, 116, 104], #[108, 100, 115, 98], #[108, 100, 115, 104], #[112, 117, 115, 104], #[112, 111, 112], #[120, 99, 104, 103]]⟩,
  ⟨64, [#[106, 109, 112], #[98, 101, 113], #[98, 110, 101], #[98, 108, 116], #[98, 103, 101], #[98, 108, 111], #[98, 104, 115], #[98, 118, 115], #[99, 97, 108, 108], #[106, 114], #[99, 97, 108, 108, 114]]⟩,
  ⟨80, [#[116, 114, 97, 112]]⟩,
  ⟨96, [#[114, 100, 112, 115], #[119, 114, 112, 115], #[114, 100, 99, 114], #[119, 114, 99, 114], #[105, 110], #[111, 117, 116]]⟩,
  ⟨112, [#[116, 97, 108, 108, 121], #[108, 101, 97, 118, 101]]⟩]
def namesO (r : Run) : Obj := .cells (r.names.map (fun n => Value.string ⟨n⟩)).toArray 9
def runL (B : Nat) (x : Run × Nat) : List Value := [.int .u8 x.1.first, .slice (some ⟨B + x.2, 0, none⟩) x.1.names.length x.1.names.length]
def runsO (B : Nat) : Obj := .cells (runsT.zipIdx.flatMap (runL B)).toArray 67
def allocs (w : World) (l : List Obj) : World := l.foldl World.alloc w
def layR (w : World) : World := allocs w (runsT.map namesO ++ [runsO w.heap.size])

theorem allocs_size (l : List Obj) : ∀ w : World, (allocs w l).heap.size = w.heap.size + l.length := by
  induction l with
  | nil => intro w; rfl
  | cons o l ih => intro w; show (allocs (w.alloc o) l).heap.size = _; rw [ih]; simp; omega
theorem allocs_kep (l : List Obj) : ∀ w : World, Kep w (allocs w l) := by
  induction l with
  | nil => intro w; exact Kep.refl _
  | cons o l ih => intro w; exact kep_trans ((Kep.refl w).alloc o) (ih (w.alloc o))
theorem allocs_at (l : List Obj) : ∀ (w : World) (i : Nat) (o : Obj), l[i]? = some o → (allocs w l).heap[w.heap.size + i]? = some o := by
  induction l with
  | nil => intro w i o h; simp at h
  | cons p l ih =>
    intro w i o h
    cases i with
    | zero =>
      simp at h; subst h
      exact (allocs_kep l (w.alloc p)).block (heap_alloc_new w p)
    | succ i =>
      have := ih (w.alloc p) i o (by simpa using h)
      have e : (w.alloc p).heap.size + i = w.heap.size + (i + 1) := by simp; omega
      rw [e] at this
      exact this

theorem flat2 {α : Type} (f : α → List Value) (hf : ∀ a, (f a).length = 2) : ∀ (l : List α) (k j : Nat), j < 2 → (l.flatMap f)[k * 2 + j]? = l[k]?.bind fun a => (f a)[j]?
  | [], k, j, _ => by simp
  | a :: l, 0, j, h => by
    simp only [List.flatMap_cons, Nat.zero_mul, Nat.zero_add, List.getElem?_cons_zero, Option.bind_some]
    exact List.getElem?_append_left (by rw [hf]; exact h)
  | a :: l, k + 1, j, h => by
    simp only [List.flatMap_cons, List.getElem?_cons_succ]
    rw [List.getElem?_append_right (by rw [hf]; omega), hf]
    have e : (k + 1) * 2 + j - 2 = k * 2 + j := by omega
    rw [e]
    exact flat2 f hf l k j h

/-- The table lies at T, its names from B on. -/
structure RunsAt (w : World) (T B : Nat) : Prop where
  row0 : ∀ (k : Nat) (r : Run), runsT[k]? = some r → w.cell? ⟨T, k * 2, none⟩ = some (.int .u8 r.first)
  row1 : ∀ (k : Nat) (r : Run), runsT[k]? = some r → w.cell? ⟨T, k * 2 + 1, none⟩ = some (.slice (some ⟨B + k, 0, none⟩) r.names.length r.names.length)
  name : ∀ (k j : Nat) (r : Run) (n : Array UInt8), runsT[k]? = some r → r.names[j]? = some n → w.cell? ⟨B + k, j, none⟩ = some (.string ⟨n⟩)
  lt : B + 8 < w.heap.size
  tb : T < w.heap.size
theorem RunsAt.kep {w w' : World} {T B : Nat} (h : RunsAt w T B) (k : Kep w w') : RunsAt w' T B := by
  refine ⟨fun k' r h1 => (k.cell h.tb).trans (h.row0 k' r h1), fun k' r h1 => (k.cell h.tb).trans (h.row1 k' r h1), fun k' j r n h1 h2 => (k.cell ?_).trans (h.name k' j r n h1 h2), k.lt h.lt, k.lt h.tb⟩
  have := (List.getElem?_eq_some_iff.1 h1).1
  have h8 : runsT.length = 8 := rfl
  have := h.lt
  omega
theorem layR_kep (w : World) : Kep w (layR w) := allocs_kep _ _
theorem layR_size (w : World) : (layR w).heap.size = w.heap.size + 9 := allocs_size _ _
theorem runs_at (w : World) : RunsAt (layR w) (w.heap.size + 8) w.heap.size := by
  have hrow : (layR w).heap[w.heap.size + 8]? = some (runsO w.heap.size) := allocs_at _ w 8 _ rfl
  refine ⟨fun k r h => ?_, fun k r h => ?_, fun k j r n h hj => ?_, by rw [layR_size]; omega, by rw [layR_size]; omega⟩
  · have := flat2 (runL w.heap.size) (fun _ => rfl) runsT.zipIdx k 0 (by omega)
    rw [cell_of_block hrow]
    simp only [List.getElem?_toArray]
    rw [show k * 2 = k * 2 + 0 from rfl, this]
    simp [h, runL]
  · have := flat2 (runL w.heap.size) (fun _ => rfl) runsT.zipIdx k 1 (by omega)
    rw [cell_of_block hrow]
    simp only [List.getElem?_toArray]
    rw [this]
    simp [h, runL]
  · have hb : (layR w).heap[w.heap.size + k]? = some (namesO r) := by
      refine allocs_at _ w k _ ?_
      rw [List.getElem?_append_left (by rw [List.length_map]; exact (List.getElem?_eq_some_iff.1 h).1)]
      simp [h]
    rw [cell_of_block hb]
    simp [hj]

set_option maxHeartbeats 8000000 in
set_option maxRecDepth 100000 in
theorem runs_any (w : World) : Calls Tryd.prog 34 #[] w fun e w' => e = .returned (.slice (some ⟨w.heap.size + 8, 0, none⟩) 8 8) ∧ w' = layR w := by
  go_enter Tryd.func34, Tryd.ntmps34
  go_wp2_with fail
  go_ret
  exact ⟨rfl, rfl⟩
theorem runs_call (w : World) : Calls Tryd.prog 34 #[] w fun e w' => ∃ T B : Nat, e = .returned (.slice (some ⟨T, 0, none⟩) 8 8) ∧ Hid (RunsAt w' T B) ∧ Kep w w' :=
  (runs_any w).mono fun e w' ⟨h1, h2⟩ => ⟨_, _, h1, h2 ▸ runs_at w, h2 ▸ layR_kep w⟩
end Go.Proofs.YthmbajehcffnbaaDoor
