/- Marks beside the document's. -/
import Derived.Test.YtncfkbnjiacblaaMkref
import Derived.Deep.RegionHeld3
import Derived.Deep.CutRange
namespace Go.Proofs.Ytncfkbnjiacblaa
open Go.RowKit
set_option linter.unusedVariables false
set_option linter.unusedSimpArgs false

theorem hidd {p : Prop} (h : p) : Hid p := h
structure MMid (w wr : World) (p b0 b1 c0 c1 q n : Nat) (L0 L1 M0 M1 : List Bool) : Prop where
  ms : MarksAt wr p b0 b1 L0 L1
  ref : RAt wr c0 c1 n M0 M1
  box : wr.heap[q]? = some (.cells #[.slice (some ⟨c0, 0, none⟩) n n, .slice (some ⟨c1, 0, none⟩) n n] 29 (0, 0))
  kep : Kep w wr
  new : w.heap.size ≤ b0 ∧ w.heap.size ≤ b1 ∧ w.heap.size ≤ c0 ∧ w.heap.size ≤ c1
  ne : c0 ≠ b0 ∧ c0 ≠ b1 ∧ c1 ≠ b0 ∧ c1 ≠ b1
theorem MMid.kp {w wr w' : World} {p b0 b1 c0 c1 q n : Nat} {L0 L1 M0 M1 : List Bool} (h : MMid w wr p b0 b1 c0 c1 q n L0 L1 M0 M1) (k : Kep wr w') : MMid w w' p b0 b1 c0 c1 q n L0 L1 M0 M1 :=
  ⟨h.ms.kep k, h.ref.kep k, k.block h.box, kep_trans h.kep k, h.new, h.ne⟩
theorem MMid.off {w wr w' : World} {p b0 b1 c0 c1 q n : Nat} {L0 L1 M0 M1 : List Bool} (h : MMid w wr p b0 b1 c0 c1 q n L0 L1 M0 M1) {z : Nat} {cs : Array Value} {t : TypeId} {fr : Nat × Nat} (hz : wr.heap[z]? = some (.cells cs t fr)) (ht : t ≠ 4) : z ≠ b0 ∧ z ≠ b1 ∧ z ≠ c0 ∧ z ≠ c1 :=
  ⟨box_ne_row hz h.ms.r0 ht, box_ne_row hz h.ms.r1 ht, box_ne_row hz h.ref.r0 ht, box_ne_row hz h.ref.r1 ht⟩
theorem MMid.turn {w wr w' : World} {p b0 b1 c0 c1 q n : Nat} {L0 L1 M0 M1 K0 K1 : List Bool} (h : MMid w wr p b0 b1 c0 c1 q n L0 L1 M0 M1) (a : MarksAt w' p b0 b1 K0 K1) (k : Put [b0, b1] wr w') : MMid w w' p b0 b1 c0 c1 q n K0 K1 M0 M1 := by
  have o := h.off (w' := wr) h.box (by decide)
  have n := h.ne
  have u := h.new
  exact ⟨a, h.ref.put k (by simp; exact ⟨n.1, n.2.1⟩) (by simp; exact ⟨n.2.2.1, n.2.2.2⟩), k.keeps h.box (by simp; exact ⟨o.1, o.2.1⟩), h.kep.put k (by simp; omega), u, n⟩
theorem MMid.rturn {w wr w' : World} {p b0 b1 c0 c1 q n : Nat} {L0 L1 M0 M1 K0 K1 : List Bool} (h : MMid w wr p b0 b1 c0 c1 q n L0 L1 M0 M1) (a : RAt w' c0 c1 n K0 K1) (k : Put [c0, c1] wr w') : MMid w w' p b0 b1 c0 c1 q n L0 L1 K0 K1 := by
  have o := h.off (w' := wr) h.box (by decide)
  have o2 := h.off (w' := wr) h.ms.box (by decide)
  have n := h.ne
  have u := h.new
  exact ⟨h.ms.put k (by simp; exact ⟨o2.2.2.1, o2.2.2.2⟩) (by simp; exact ⟨n.1.symm, n.2.2.1.symm⟩) (by simp; exact ⟨n.2.1.symm, n.2.2.2.symm⟩), a, k.keeps h.box (by simp; exact ⟨o.2.2.1, o.2.2.2⟩), h.kep.put k (by simp; omega), u, n⟩
/-- The step at hand lies at z. -/
structure MSp (w wr : World) (p b0 b1 c0 c1 q n z : Nat) (kd f m : Int) (L0 L1 M0 M1 : List Bool) : Prop where
  mid : MMid w wr p b0 b1 c0 c1 q n L0 L1 M0 M1
  st : wr.heap[z]? = some (.cells #[.int .i64 kd, .int .i64 f, .int .i64 m] 32 (0, 0))
section
variable {w wr : World} {p b0 b1 c0 c1 q n z : Nat} {kd f m : Int} {L0 L1 M0 M1 : List Bool}
theorem MSp.cells (h : MSp w wr p b0 b1 c0 c1 q n z kd f m L0 L1 M0 M1) : wr.cell? ⟨z, 0, none⟩ = some (.int .i64 kd) ∧ wr.cell? ⟨z, 1, none⟩ = some (.int .i64 f) ∧ wr.cell? ⟨z, 2, none⟩ = some (.int .i64 m) ∧ wr.cell? ⟨q, 0, none⟩ = some (.slice (some ⟨c0, 0, none⟩) n n) ∧ wr.cell? ⟨q, 1, none⟩ = some (.slice (some ⟨c1, 0, none⟩) n n) :=
  ⟨(cell_of_block h.st).trans rfl, (cell_of_block h.st).trans rfl, (cell_of_block h.st).trans rfl, (cell_of_block h.mid.box).trans rfl, (cell_of_block h.mid.box).trans rfl⟩
theorem MSp.rows (h : MSp w wr p b0 b1 c0 c1 q n z kd f m L0 L1 M0 M1) : wr.heap[z]? = some (.cells #[.int .i64 kd, .int .i64 f, .int .i64 m] 32 (0, 0)) ∧ wr.heap[q]? = some (.cells #[.slice (some ⟨c0, 0, none⟩) n n, .slice (some ⟨c1, 0, none⟩) n n] 29 (0, 0)) := ⟨h.st, h.mid.box⟩
theorem MMid.cells (h : MMid w wr p b0 b1 c0 c1 q n L0 L1 M0 M1) : wr.cell? ⟨q, 0, none⟩ = some (.slice (some ⟨c0, 0, none⟩) n n) ∧ wr.cell? ⟨q, 1, none⟩ = some (.slice (some ⟨c1, 0, none⟩) n n) :=
  ⟨(cell_of_block h.box).trans rfl, (cell_of_block h.box).trans rfl⟩
theorem MSp.kp {w' : World} (h : MSp w wr p b0 b1 c0 c1 q n z kd f m L0 L1 M0 M1) (k : Kep wr w') : MSp w w' p b0 b1 c0 c1 q n z kd f m L0 L1 M0 M1 := ⟨h.mid.kp k, k.block h.st⟩
theorem MSp.turn {w' : World} {K0 K1 : List Bool} (h : MSp w wr p b0 b1 c0 c1 q n z kd f m L0 L1 M0 M1) (a : MarksAt w' p b0 b1 K0 K1) (k : Put [b0, b1] wr w') : MSp w w' p b0 b1 c0 c1 q n z kd f m K0 K1 M0 M1 := by
  have o := h.mid.off (w' := wr) h.st (by decide)
  exact ⟨h.mid.turn a k, k.keeps h.st (by simp; exact ⟨o.1, o.2.1⟩)⟩
theorem MSp.rturn {w' : World} {K0 K1 : List Bool} (h : MSp w wr p b0 b1 c0 c1 q n z kd f m L0 L1 M0 M1) (a : RAt w' c0 c1 n K0 K1) (k : Put [c0, c1] wr w') : MSp w w' p b0 b1 c0 c1 q n z kd f m L0 L1 K0 K1 := by
  have o := h.mid.off (w' := wr) h.st (by decide)
  exact ⟨h.mid.rturn a k, k.keeps h.st (by simp; exact ⟨o.2.2.1, o.2.2.2⟩)⟩
theorem MSp.has (h : MSp w wr p b0 b1 c0 c1 q n z kd f m L0 L1 M0 M1) (g k : Int) :
    Calls Try.prog 14 #[.pointer (some ⟨p, 0, none⟩), .int .i64 g, .int .i64 k] wr fun e w' => e = .returned (.bool (bears (kindL L0 L1 k) g)) ∧ MSp w w' p b0 b1 c0 c1 q n z kd f m L0 L1 M0 M1 := by
  refine (mhas_any g k h.mid.ms.st).mono ?_
  rintro e w' ⟨rfl, rfl⟩
  exact ⟨rfl, h⟩
theorem MSp.watched (h : MSp w wr p b0 b1 c0 c1 q n z kd f m L0 L1 M0 M1) (g : Int) :
    Calls Try.prog 15 #[.pointer (some ⟨p, 0, none⟩), .int .i64 g] wr fun e w' => e = .returned (.bool (bears L0 g || bears L1 g)) ∧ MSp w w' p b0 b1 c0 c1 q n z kd f m L0 L1 M0 M1 := by
  refine (mwatched_any g h.mid.ms.st).mono ?_
  rintro e w' ⟨rfl, rfl⟩
  exact ⟨rfl, h⟩
theorem MSp.rhas (h : MSp w wr p b0 b1 c0 c1 q n z kd f m L0 L1 M0 M1) (g k : Int) :
    Calls Try.prog 9 #[rmV c0 c1 n, .int .i64 g, .int .i64 k] wr fun e w' => e = .returned (.bool (bears (kindL M0 M1 k) g)) ∧ MSp w w' p b0 b1 c0 c1 q n z kd f m L0 L1 M0 M1 := by
  refine (rhas_any g k h.mid.ref).mono ?_
  rintro e w' ⟨rfl, K⟩
  exact ⟨rfl, h.kp K⟩
theorem MSp.mark (h : MSp w wr p b0 b1 c0 c1 q n z kd f m L0 L1 M0 M1) (g k : Int) :
    Calls Try.prog 10 #[.pointer (some ⟨p, 0, none⟩), .int .i64 g, .int .i64 k] wr fun e w' => e = .returned (.bool (isF (kindL L0 L1 k).length g && !(bears L0 g || bears L1 g))) ∧ MSp w w' p b0 b1 c0 c1 q n z kd f m (onK k 1 (putB · g true) L0) (onK k 2 (putB · g true) L1) M0 M1 := by
  refine (mmark_any g k h.mid.ms).mono ?_
  rintro e w' ⟨rfl, a, P⟩
  exact ⟨rfl, h.turn a P⟩
theorem MSp.drop (h : MSp w wr p b0 b1 c0 c1 q n z kd f m L0 L1 M0 M1) (g k : Int) :
    Calls Try.prog 12 #[.pointer (some ⟨p, 0, none⟩), .int .i64 g, .int .i64 k] wr fun e w' => e = .returned (.tuple #[]) ∧ MSp w w' p b0 b1 c0 c1 q n z kd f m (onK k 1 (putB · g false) L0) (onK k 2 (putB · g false) L1) M0 M1 := by
  refine (mdrop_any g k h.mid.ms).mono ?_
  rintro e w' ⟨rfl, a, P⟩
  exact ⟨rfl, h.turn a P⟩
theorem MSp.clr (h : MSp w wr p b0 b1 c0 c1 q n z kd f m L0 L1 M0 M1) (k : Int) :
    Calls Try.prog 13 #[.pointer (some ⟨p, 0, none⟩), .int .i64 k] wr fun e w' => e = .returned (.tuple #[]) ∧ MSp w w' p b0 b1 c0 c1 q n z kd f m (onK k 1 noneB L0) (onK k 2 noneB L1) M0 M1 := by
  refine (mclear_any k h.mid.ms).mono ?_
  rintro e w' ⟨rfl, a, P⟩
  exact ⟨rfl, h.turn a P⟩
theorem MSp.rset (h : MSp w wr p b0 b1 c0 c1 q n z kd f m L0 L1 M0 M1) (g k : Int) (b : Bool) :
    Calls Try.prog 11 #[rmV c0 c1 n, .int .i64 g, .int .i64 k, .bool b] wr fun e w' => e = .returned (.bool (isF (kindL M0 M1 k).length g)) ∧ MSp w w' p b0 b1 c0 c1 q n z kd f m L0 L1 (onK k 1 (putB · g b) M0) (onK k 2 (putB · g b) M1) := by
  refine (rset_any g k b h.mid.ref).mono ?_
  rintro e w' ⟨rfl, a, P⟩
  exact ⟨rfl, h.rturn a P⟩
theorem MMid.list (h : MMid w wr p b0 b1 c0 c1 q n L0 L1 M0 M1) (k : Int) :
    Calls Try.prog 17 #[.pointer (some ⟨p, 0, none⟩), .int .i64 k] wr fun e w' => ∃ (x : Option Addr) (cap : Nat), e = .returned (.slice x (frs (kindL L0 L1 k) (kindL L0 L1 k).length).length cap) ∧ LI w' x (frs (kindL L0 L1 k) (kindL L0 L1 k).length) ∧ Kep wr w' :=
  mlist_any k h.ms.st (by unfold kindL; have := h.ms.le; split; omega; split; omega; simp)
theorem MMid.rlist (h : MMid w wr p b0 b1 c0 c1 q n L0 L1 M0 M1) (k : Int) :
    Calls Try.prog 18 #[rmV c0 c1 n, .int .i64 k] wr fun e w' => ∃ (x : Option Addr) (cap : Nat), e = .returned (.slice x (frs (kindL M0 M1 k) (kindL M0 M1 k).length).length cap) ∧ LI w' x (frs (kindL M0 M1 k) (kindL M0 M1 k).length) ∧ Kep wr w' :=
  rlist_any k h.ref
end
theorem yields_rowg {P : Program} {ops : Array Oper} {S : World → Prop} {o : Oper} {a : Act} (hw : Region.wanted o (yielded ops a.tmps) = true) (ty : TypeId) (x : Operand) (ho : o.op = .load ty x) (g : Nat) (hx : a.eval x = .pointer (some ⟨g, 0, none⟩)) (t : TypeId) (cs : Array Value) (fr : Nat × Nat) (d : TypeDesc)
    (hS : ∀ w, S w → w.heap[g]? = some (.cells cs t fr)) (hu : P.underlying ty = some d) (hd : (match d with | .struct _ | .array _ _ => true | _ => false) = true) (hi : (P.info? ty).map (·.size) = some cs.size) : YieldsIf P ops S o (.agg cs) a :=
  .inl ⟨hw, fun w h => by
    unfold execOp
    simp only [ho, hx, Instr.loadAt, Instr.sureAddr, Sem.run_bind, Sem.run_pure, Result.andThen_ok, run_loadVar_row w g t ty cs fr d (hS w h) hu hd hi]⟩
/-- The first j frames bear no mark any more. -/
def clrTo (j : Nat) (L : List Bool) : List Bool := (List.range L.length).map fun i => if i < j then false else L.getD i false
theorem clrTo_len (j : Nat) (L : List Bool) : (clrTo j L).length = L.length := by simp [clrTo]
theorem clrTo_zero (L : List Bool) : clrTo 0 L = L := by
  refine List.ext_getElem (by simp [clrTo]) fun i h1 h2 => ?_
  simp [clrTo, List.getD, h2]
theorem clrTo_all (L : List Bool) : clrTo L.length L = noneB L := by
  refine List.ext_getElem (by simp [clrTo, noneB]) fun i h1 h2 => ?_
  simp [noneB] at h2
  simp [clrTo, noneB, h2]
theorem clrTo_next (j : Nat) (L : List Bool) : putB (clrTo j L) j false = clrTo (j + 1) L := by
  rw [putB_nat]
  refine List.ext_getElem (by simp [clrTo]) fun i h1 h2 => ?_
  simp only [clrTo, List.getElem_set, List.getElem_map, List.getElem_range]
  by_cases e : j = i
  · subst e; simp
  · rw [if_neg e]
    by_cases g : i < j
    · rw [if_pos g, if_pos (by omega)]
    · rw [if_neg g, if_neg (by omega)]
theorem onK_next (k c : Int) (j : Nat) (L : List Bool) : onK k c (putB · j false) (onK k c (clrTo j) L) = onK k c (clrTo (j + 1)) L := by
  unfold onK
  split
  · exact clrTo_next j L
  · rfl
theorem onK_zero (k c : Int) (L : List Bool) : onK k c (clrTo 0) L = L := by
  unfold onK
  split
  · exact clrTo_zero L
  · rfl
theorem onK_all (k c : Int) (n : Nat) (L : List Bool) (h : L.length = n) : onK k c (clrTo n) L = onK k c noneB L := by
  unfold onK
  subst h
  split
  · exact clrTo_all L
  · rfl
end Go.Proofs.Ytncfkbnjiacblaa
