/- The state of a processor, as a row of cells. -/
import Derived.Test.YtfpknklibiigfaaDoorPutl
namespace Go.Proofs.YtfpknklibiigfaaDoor
open Go.RowKit
set_option linter.unusedVariables false

/-- A processor's state: registers, the next place, the status, control registers, whether it stands. -/
structure Sta where
  r : Nat → Int
  pc : Int
  ps : Int
  c : Nat → Int
  h : Bool
/-- Its cells. -/
def Sta.v (s : Sta) : Array Value := #[.int .u32 (s.r 0), .int .u32 (s.r 1), .int .u32 (s.r 2), .int .u32 (s.r 3), .int .u32 (s.r 4), .int .u32 (s.r 5), .int .u32 (s.r 6), .int .u32 (s.r 7), .int .u32 s.pc, .int .u32 s.ps,
  .int .u32 (s.c 0), .int .u32 (s.c 1), .int .u32 (s.c 2), .int .u32 (s.c 3), .int .u32 (s.c 4), .int .u32 (s.c 5), .int .u32 (s.c 6), .int .u32 (s.c 7), .bool s.h]
def up (r : Nat → Int) (a : Nat) (x : Int) : Nat → Int := fun n => if n = a then x else r n
def Sta.reg (s : Sta) (a : Nat) (x : Int) : Sta := { s with r := up s.r a x }
def Sta.go (s : Sta) (x : Int) : Sta := { s with pc := x }
def Sta.mark (s : Sta) (x : Int) : Sta := { s with ps := x }
structure Sta.Ok (s : Sta) : Prop where
  r : ∀ n, 0 ≤ s.r n ∧ s.r n < 4294967296
  pc : 0 ≤ s.pc ∧ s.pc < 4294967296
  ps : 0 ≤ s.ps ∧ s.ps < 4294967296
  c : ∀ n, 0 ≤ s.c n ∧ s.c n < 4294967296
theorem eight {p : Nat → Prop} (h : p 0 ∧ p 1 ∧ p 2 ∧ p 3 ∧ p 4 ∧ p 5 ∧ p 6 ∧ p 7) (a : Nat) (ha : a < 8) : p a := by
  obtain ⟨h0, h1, h2, h3, h4, h5, h6, h7⟩ := h
  rcases (by omega : a = 0 ∨ a = 1 ∨ a = 2 ∨ a = 3 ∨ a = 4 ∨ a = 5 ∨ a = 6 ∨ a = 7) with rfl | rfl | rfl | rfl | rfl | rfl | rfl | rfl <;> assumption
theorem v_size (s : Sta) : s.v.size = 19 := rfl
theorem v_reg (s : Sta) (a : Nat) (ha : a < 8) : s.v[a]? = some (.int .u32 (s.r a)) :=
  eight (p := fun a => s.v[a]? = some (.int .u32 (s.r a))) ⟨rfl, rfl, rfl, rfl, rfl, rfl, rfl, rfl⟩ a ha
theorem v_pc (s : Sta) : s.v[8]? = some (.int .u32 s.pc) := rfl
theorem v_ps (s : Sta) : s.v[9]? = some (.int .u32 s.ps) := rfl
theorem v_set (s : Sta) (a : Nat) (ha : a < 8) (x : Int) : s.v.setIfInBounds a (.int .u32 x) = (s.reg a x).v :=
  eight (p := fun a => s.v.setIfInBounds a (.int .u32 x) = (s.reg a x).v) ⟨rfl, rfl, rfl, rfl, rfl, rfl, rfl, rfl⟩ a ha
theorem v_go (s : Sta) (x : Int) : s.v.setIfInBounds 8 (.int .u32 x) = (s.go x).v := rfl
theorem v_mark (s : Sta) (x : Int) : s.v.setIfInBounds 9 (.int .u32 x) = (s.mark x).v := rfl
/-- At p lies a state. -/
def At (w : World) (p : Nat) (s : Sta) : Prop := w.heap[p]? = some (.cells s.v 43 (0, 0))
theorem At.reg {w : World} {p : Nat} {s : Sta} (h : At w p s) (a : Nat) (ha : a < 8) : w.cell? ⟨p, a, none⟩ = some (.int .u32 (s.r a)) := (cell_of_block h).trans (v_reg s a ha)
theorem At.pc {w : World} {p : Nat} {s : Sta} (h : At w p s) : w.cell? ⟨p, 8, none⟩ = some (.int .u32 s.pc) := (cell_of_block h).trans (v_pc s)
theorem At.ps {w : World} {p : Nat} {s : Sta} (h : At w p s) : w.cell? ⟨p, 9, none⟩ = some (.int .u32 s.ps) := (cell_of_block h).trans (v_ps s)
theorem At.lt {w : World} {p : Nat} {s : Sta} (h : At w p s) : p < w.heap.size := block_lt h
theorem At.set {w : World} {p : Nat} {s : Sta} (h : At w p s) (a : Nat) (ha : a < 8) (x : Int) : At (w.setCell ⟨p, a, none⟩ (.int .u32 x)) p (s.reg a x) := by
  unfold At; rw [heap_setCell_row h, v_set s a ha]
theorem At.setPc {w : World} {p : Nat} {s : Sta} (h : At w p s) (x : Int) : At (w.setCell ⟨p, 8, none⟩ (.int .u32 x)) p (s.go x) := by
  unfold At; rw [heap_setCell_row h, v_go]
theorem At.setPs {w : World} {p : Nat} {s : Sta} (h : At w p s) (x : Int) : At (w.setCell ⟨p, 9, none⟩ (.int .u32 x)) p (s.mark x) := by
  unfold At; rw [heap_setCell_row h, v_mark]
theorem At.kep {w w' : World} {p : Nat} {s : Sta} (h : At w p s) (k : Kep w w') : At w' p s := k.block h
theorem At.put {w w' : World} {p : Nat} {s : Sta} {l : List Nat} (h : At w p s) (k : Put l w w') (hp : p ∉ l) : At w' p s := k.keeps h hp
theorem Put.setRowNew {l : List Nat} {a b : World} (h : Put l a b) {g : Nat} (hg : a.heap.size ≤ g) (cs : Array Value) : Put l a (b.setRow g cs) := by
  refine ⟨h.os, h.tape, h.output, by simpa [World.setRow] using h.size, fun k hk h1 => ?_⟩
  rw [setRow_other _ _ _ _ (by omega)]
  exact h.block k hk h1
theorem Put.setCellNew {l : List Nat} {a b : World} (h : Put l a b) {p : Addr} (hp : a.heap.size ≤ p.block) (v : Value) : Put l a (b.setCell p v) := by
  refine ⟨h.os, h.tape, h.output, by simpa using h.size, fun k hk h1 => ?_⟩
  rw [heap_setCell_other _ _ _ _ (by omega)]
  exact h.block k hk h1
theorem At.drew {w : World} {p : Nat} {s : Sta} (h : At w p s) : At w.drew p s := h
theorem At.drewN {w : World} {p : Nat} {s : Sta} (h : At w p s) (n : Nat) : At (w.drewN n) p s := h
theorem At.alloc {w : World} {p : Nat} {s : Sta} (h : At w p s) (o : Obj) : At (w.alloc o) p s := h.kep ((Kep.refl _).alloc _)
theorem At.setRow {w : World} {p g : Nat} {s : Sta} (h : At w p s) (hp : p ≠ g) (cs : Array Value) : At (w.setRow g cs) p s := (setRow_other _ _ _ _ hp).trans h
theorem At.setOther {w : World} {p : Nat} {s : Sta} {a : Addr} (h : At w p s) (hp : p ≠ a.block) (v : Value) : At (w.setCell a v) p s := (heap_setCell_other _ _ _ _ hp).trans h
theorem Sta.Ok.reg {s : Sta} (h : s.Ok) (a : Nat) (x : Int) (h0 : 0 ≤ x) (h1 : x < 4294967296) : (s.reg a x).Ok := by
  refine ⟨fun n => ?_, h.pc, h.ps, h.c⟩
  show 0 ≤ up s.r a x n ∧ up s.r a x n < 4294967296
  unfold up; split
  · exact ⟨h0, h1⟩
  · exact h.r n
theorem Sta.Ok.go {s : Sta} (h : s.Ok) (x : Int) (h0 : 0 ≤ x) (h1 : x < 4294967296) : (s.go x).Ok := ⟨h.r, ⟨h0, h1⟩, h.ps, h.c⟩
theorem Sta.Ok.mark {s : Sta} (h : s.Ok) (x : Int) (h0 : 0 ≤ x) (h1 : x < 4294967296) : (s.mark x).Ok := ⟨h.r, h.pc, ⟨h0, h1⟩, h.c⟩
def Sta.regIf (s : Sta) (k : Bool) (a : Nat) (x : Int) : Sta := match k with | true => s.reg a x | false => s
def Sta.markIf (s : Sta) (k : Bool) (x : Int) : Sta := match k with | true => s.mark x | false => s
def Sta.ctl (s : Sta) (b : Nat) (x : Int) : Sta := { s with c := up s.c b x }
def Sta.halt (s : Sta) : Sta := { s with h := true }
theorem ne_lit {op k : Int} (h : op ≠ k) : (op == k) = false := by rw [beq_eq_false_iff_ne]; exact h
theorem v_one (s : Sta) : s.v.all (·.oneCell') = true := by simp [Sta.v, Value.oneCell']
theorem row_frozen {w : World} {b : Nat} {cs : Array Value} {t : TypeId} (h : w.heap[b]? = some (.cells cs t (0, 0))) (j : Nat) : w.frozen? ⟨b, j, none⟩ = false := by simp [World.frozen?, h]
theorem At.load {w : World} {p : Nat} {s : Sta} (h : At w p s) : (loadVar 43 ⟨p, 0, none⟩).run Tryd.prog w = .ok (.agg s.v) w := run_loadVar_row w p _ _ _ _ _ h Tryd.underlying43 rfl (by kernel_rfl)
theorem drew_heap (w : World) (k : Nat) : w.drew.heap[k]? = w.heap[k]? := rfl
theorem drewN_heap (w : World) (n k : Nat) : (w.drewN n).heap[k]? = w.heap[k]? := rfl
theorem size_sta : (Tryd.prog.info? 43).map (·.size) = some 19 := by kernel_rfl
theorem Sta.Ok.ctl {s : Sta} (h : s.Ok) (b : Nat) (x : Int) (h0 : 0 ≤ x) (h1 : x < 4294967296) : (s.ctl b x).Ok := by
  refine ⟨h.r, h.pc, h.ps, fun n => ?_⟩
  show 0 ≤ up s.c b x n ∧ up s.c b x n < 4294967296
  unfold up; split
  · exact ⟨h0, h1⟩
  · exact h.c n
theorem up_same (r : Nat → Int) (a : Nat) (x : Int) : up r a x a = x := by unfold up; rw [if_pos rfl]
theorem up_back (r : Nat → Int) (a : Nat) (x : Int) : up (up r a x) a (r a) = r := by
  funext n; unfold up; by_cases h : n = a
  · rw [if_pos h, h]
  · rw [if_neg h, if_neg h]
theorem At.setCr {w : World} {p : Nat} {s : Sta} (h : At w p s) (b : Nat) (hb : b < 8) (x : Int) : At (w.setCell ⟨p, 10 + b, none⟩ (.int .u32 x)) p (s.ctl b x) := by
  unfold At; rw [heap_setCell_row h, eight (p := fun b => s.v.setIfInBounds (10 + b) (.int .u32 x) = (s.ctl b x).v) ⟨rfl, rfl, rfl, rfl, rfl, rfl, rfl, rfl⟩ b hb]
theorem At.ctl {w : World} {p : Nat} {s : Sta} (h : At w p s) (b : Nat) (hb : b < 8) : w.cell? ⟨p, 10 + b, none⟩ = some (.int .u32 (s.c b)) :=
  (cell_of_block h).trans (eight (p := fun b => s.v[10 + b]? = some (.int .u32 (s.c b))) ⟨rfl, rfl, rfl, rfl, rfl, rfl, rfl, rfl⟩ b hb)
theorem At.cr {w : World} {p : Nat} {s : Sta} (h : At w p s) : w.cell? ⟨p, 10, none⟩ = some (.int .u32 (s.c 0)) ∧ w.cell? ⟨p, 11, none⟩ = some (.int .u32 (s.c 1)) ∧ w.cell? ⟨p, 12, none⟩ = some (.int .u32 (s.c 2)) ∧ w.cell? ⟨p, 13, none⟩ = some (.int .u32 (s.c 3)) ∧
    w.cell? ⟨p, 14, none⟩ = some (.int .u32 (s.c 4)) ∧ w.cell? ⟨p, 15, none⟩ = some (.int .u32 (s.c 5)) ∧ w.cell? ⟨p, 16, none⟩ = some (.int .u32 (s.c 6)) ∧ w.cell? ⟨p, 17, none⟩ = some (.int .u32 (s.c 7)) ∧ w.cell? ⟨p, 18, none⟩ = some (.bool s.h) :=
  ⟨cell_of_block h, cell_of_block h, cell_of_block h, cell_of_block h, cell_of_block h, cell_of_block h, cell_of_block h, cell_of_block h, cell_of_block h⟩
theorem At.hl {w : World} {p : Nat} {s : Sta} (h : At w p s) : w.cell? ⟨p, 18, none⟩ = some (.bool s.h) := cell_of_block h
theorem up_off9 (r : Nat → Int) (a n : Nat) (x : Int) (h : n ≠ a) : up r a x n = r n := by unfold up; rw [if_neg h]

theorem size_flt : (Tryd.prog.info? 45).map (·.size) = some 2 := by kernel_rfl

end Go.Proofs.YtfpknklibiigfaaDoor
