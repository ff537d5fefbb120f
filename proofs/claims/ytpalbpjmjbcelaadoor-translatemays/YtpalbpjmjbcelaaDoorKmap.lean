/- What the code knows of operations: a map that its text's rows fill. -/
import Derived.Test.YtpalbpjmjbcelaaDoorKrow
import Derived.Test.YtpalbpjmjbcelaaDoorKfa
import Derived.Maps.Own
import Derived.Maps.OwnSet
import Derived.Maps.Views
import Derived.Carry
namespace Go.Proofs.YtpalbpjmjbcelaaDoor
open Go.RowKit
set_option linter.unusedVariables false

abbrev RV : Value → Option (DataW Value × List MemPlace) := fun v => some (.held v, [])
theorem keyU8 : Maps.Keyed Tryd.prog 5 := Maps.int_keyed Tryd.underlying5
/-- What the map holds for a row, and for none. -/
def gV : Option Rw → Array Value
  | none => zeroF
  | some r => factV r.cls r.rd r.wr (mk 116 r.m) (mk 102 r.m) (mk 115 r.m)
def putF (f : Int → Option Rw) (op : Int) (r : Rw) : Int → Option Rw := fun k => if k = op then some r else f k
def putR (f : Int → Option Rw) (r : Rw) : Int → Option Rw := r.ops.foldl (fun f op => putF f op r) f
def upto (k : Nat) : Int → Option Rw := (tabl.take k).foldl putR (fun _ => none)
def tabF : Int → Option Rw := tabl.foldl putR (fun _ => none)
theorem zeroRun (w : World) : (zeroValue 98).run Tryd.prog w = .ok (.agg zeroF) w := by kernel_rfl
theorem keyU (k : Int) (h0 : 0 ≤ k) (h1 : k < 256) : keyOf Tryd.prog 5 (.int .u8 k) = some (.int .u8 k) := Maps.keyOf_int_mk Tryd.underlying5 (by simp [Lit.wf, IntKind.min, IntKind.max, IntKind.signed, IntKind.bits]; omega)

/-- Block b is a map that knows of every number k what f k says. -/
def MapF (w : World) (b n : Nat) (f : Int → Option Rw) : Prop :=
  ∃ D : DataW Value, w.ownsMap Tryd.prog 5 RV b n D ∧ ∀ k, 0 ≤ k → k < 256 → D.atKey (.int .u8 k) (.held (.agg zeroF)) = .held (.agg (gV (f k)))
theorem MapF.made (w : World) : MapF (w.alloc (.map #[] 0)) w.heap.size 0 (fun _ => none) := ⟨_, World.ownsMap_made w _ _ _, fun k _ _ => by simp [DataW.atKey, gV]⟩
theorem MapF.mono {w : World} {b n n' : Nat} {f : Int → Option Rw} (h : MapF w b n f) (hn : n ≤ n') : MapF w b n' f := by
  obtain ⟨D, h1, h2⟩ := h
  exact ⟨D, h1.mono hn, h2⟩
theorem MapF.kept {w w' : World} {b n : Nat} {f : Int → Option Rw} (h : MapF w b n f) (k : Kep w w') : MapF w' b n f := by
  obtain ⟨D, h1, h2⟩ := h
  obtain ⟨es, c, hb, F, hs, hD⟩ := h1
  exact ⟨D, ⟨es, c, k.block hb, F, hs, hD⟩, h2⟩
theorem MapF.block {w w' : World} {b n : Nat} {f : Int → Option Rw} (h : MapF w b n f) (k : w'.heap[b]? = w.heap[b]?) : MapF w' b n f := by
  obtain ⟨D, h1, h2⟩ := h
  obtain ⟨es, c, hb, F, hs, hD⟩ := h1
  exact ⟨D, ⟨es, c, k.trans hb, F, hs, hD⟩, h2⟩
theorem MapF.lt {w : World} {b n : Nat} {f : Int → Option Rw} (h : MapF w b n f) : b < w.heap.size := by
  obtain ⟨D, h1, h2⟩ := h
  exact h1.lt
theorem MapF.look {w : World} {b n : Nat} {f : Int → Option Rw} (h : MapF w b n f) (k : Int) (h0 : 0 ≤ k) (h1 : k < 256) :
    (Instr.lookup 94 (.map (some b)) (.int .u8 k) false).run Tryd.prog w = .ok (.agg (gV (f k))) w := by
  obtain ⟨D, g1, g2⟩ := h
  obtain ⟨v, ps, hr, hv⟩ := g1.lookup keyU8 Tryd.underlying94 (zeroRun w) (zd := .held (.agg zeroF)) (zp := []) rfl (keyU k h0 h1)
  rw [g2 k h0 h1] at hv
  simp only [RV, Option.some.injEq, Prod.mk.injEq, DataW.held.injEq] at hv
  rw [hr, hv.1]
theorem MapF.put {w : World} {b n : Nat} {f : Int → Option Rw} (h : MapF w b n f) (hn : n < maxLen) (op : Int) (h0 : 0 ≤ op) (h1 : op < 256) (r : Rw) :
    ∃ w', (Instr.mapUpdate 94 (.map (some b)) (.int .u8 op) (.agg (gV (some r)))).run Tryd.prog w = .ok () w' ∧ MapF w' b (n + 1) (putF f op r) ∧ w.grownBy w' (some b) := by
  obtain ⟨D, g1, g2⟩ := h
  obtain ⟨w', hr, hm, hg⟩ := g1.update keyU8 Tryd.underlying94 hn (keyU op h0 h1) (val := .agg (gV (some r))) (d := .held (.agg (gV (some r)))) (ps := []) rfl
  refine ⟨w', hr, ⟨_, hm, fun k hk0 hk1 => ?_⟩, hg⟩
  by_cases hk : k = op
  · subst hk
    rw [Maps.atKey_put_same g1.isMap (k := .int .u8 k) trivial]
    simp [putF]
  · rw [Maps.atKey_put_other (by simp; exact hk), g2 k hk0 hk1]
    simp [putF, hk]

theorem wpList_put {w : World} {ops : Array Oper} {rest : List Oper} {o : Oper} {a : Act} {Q : Exit → Act → World → Prop} (hg : o.guard = none) (m x v : Operand) (hop : o.op = Op.mapUpdate 94 m x v)
    (b n : Nat) (f : Int → Option Rw) (hm : a.eval m = .map (some b)) (h : MapF w b n f) (hn : n < maxLen) (op : Int) (h0 : 0 ≤ op) (h1 : op < 256) (r : Rw) (hx : a.eval x = .int .u8 op) (hv : a.eval v = .agg (gV (some r)))
    (hK : ∀ w', MapF w' b (n + 1) (putF f op r) → w.grownBy w' (some b) → wpList Tryd.prog ops Q rest (a.put o.dst undef) w') : wpList Tryd.prog ops Q (o :: rest) a w := by
  refine wpList_plain hg fun K' hK' => ?_
  obtain ⟨w', hrun, r1, r2⟩ := h.put hn op h0 h1 r
  unfold Oper.wp
  simp [execOp, hop, hm, hx, hv, hrun, Result.andThen]
  exact hK' _ _ (hK w' r1 r2)

/-- The rows of the table lie at T, their operations from B on. -/
structure RowsAt (w : World) (T B : Nat) : Prop where
  row : ∀ (k j : Nat) (r : Rw), tabl[k]? = some r → j < 5 → w.cell? ⟨T, k * 5 + j, none⟩ = (rowL B (r, k))[j]?
  op : ∀ (k j : Nat) (r : Rw) (op : Int), tabl[k]? = some r → r.ops[j]? = some op → w.cell? ⟨B + k, j, none⟩ = some (.int .u8 op)
  lt : B + 27 < w.heap.size
  tb : T < w.heap.size
  bt : B ≤ T
theorem RowsAt.kept {w w' : World} {T B b : Nat} (h : RowsAt w T B) (hb : b < B) (k : w.grownBy w' (some b)) : RowsAt w' T B := by
  have e : ∀ c i, c < w.heap.size → B ≤ c → w'.cell? ⟨c, i, none⟩ = w.cell? ⟨c, i, none⟩ := fun c i hc hB => by
    have := k.block c hc (by simp; omega)
    simp only [World.cell?, this]
  refine ⟨fun k j r h1 h2 => (e _ _ h.tb h.bt).trans (h.row k j r h1 h2), fun k j r op h1 h2 => (e _ _ ?_ (by omega)).trans (h.op k j r op h1 h2), Nat.lt_of_lt_of_le h.lt k.size, Nat.lt_of_lt_of_le h.tb k.size, h.bt⟩
  have := (List.getElem?_eq_some_iff.1 h1).1
  have h27 : tabl.length = 27 := rfl
  have := h.lt
  omega
theorem RowsAt.kep {w w' : World} {T B : Nat} (h : RowsAt w T B) (k : Kep w w') : RowsAt w' T B := by
  refine ⟨fun k' j r h1 h2 => (k.cell h.tb).trans (h.row k' j r h1 h2), fun k' j r op h1 h2 => (k.cell ?_).trans (h.op k' j r op h1 h2), k.lt h.lt, k.lt h.tb, h.bt⟩
  have := (List.getElem?_eq_some_iff.1 h1).1
  have h27 : tabl.length = 27 := rfl
  have := h.lt
  omega
theorem rows_at (w : World) : RowsAt (lay w) (w.heap.size + 27) w.heap.size :=
  ⟨fun k j r h1 h2 => row_cell w k j r h1 h2, fun k j r op h1 h2 => op_cell w k j r h1 op h2, by rw [lay_size]; omega, by rw [lay_size]; omega, by omega⟩
theorem rows_call (w : World) : Calls Tryd.prog 51 #[] w fun e w' => ∃ T B : Nat, e = .returned (.slice (some ⟨T, 0, none⟩) 27 27) ∧ w.heap.size ≤ B ∧ Hid (RowsAt w' T B) ∧ Kep w w' :=
  (rows_any w).mono fun e w' ⟨h1, h2⟩ => ⟨_, _, h1, Nat.le_refl _, h2 ▸ rows_at w, h2 ▸ lay_kep w⟩
theorem upto_succ (k : Nat) (r : Rw) (h : tabl[k]? = some r) : upto (k + 1) = putR (upto k) r := by
  unfold upto
  rw [List.take_add_one, h]
  simp
theorem upto_all : upto 27 = tabF := rfl
theorem tabl_ok : ∀ r ∈ tabl, r.rd ∈ lets ∧ r.wr ∈ lets ∧ r.m ∈ marks ∧ r.ops.length ≤ 11 ∧ ∀ op ∈ r.ops, 0 ≤ op ∧ op < 256 := by decide +kernel
end Go.Proofs.YtpalbpjmjbcelaaDoor
