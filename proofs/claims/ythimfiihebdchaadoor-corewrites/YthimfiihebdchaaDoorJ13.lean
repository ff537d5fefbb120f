/- Part of a proof. -/
import Derived.Maps.Own
import Derived.Maps.OwnSet
import Derived.Maps.Views
import Derived.Carry
import Derived.Defers
import Derived.Laws.Pointers
import Derived.Laws.LoneSync
import Derived.RegionTactic
import Derived.RegionCalls
import Derived.ChangeAlike
import Derived.Laws.Rows
import Derived.Test.YthimfiihebdchaaDoorJ12
namespace Go.Proofs.YthimfiihebdchaaDoor
open Go.RowKit
set_option linter.unusedVariables false
set_option linter.unusedSimpArgs false
abbrev RV : Value → Option (DataW Value × List MemPlace) := fun v => some (.held v, [])
theorem keyU8 : Maps.Keyed Tryd.prog 5 := Maps.int_keyed Tryd.underlying5
def gV : Option Rw → Array Value
  | none => zeroF
  | some r => factV r.cls r.rd r.wr (mk 116 r.m) (mk 102 r.m) (mk 115 r.m)
def putF (f : Int → Option Rw) (op : Int) (r : Rw) : Int → Option Rw := fun k => if k = op then some r else f k
def putR (f : Int → Option Rw) (r : Rw) : Int → Option Rw := r.ops.foldl (fun f op => putF f op r) f
def upto (k : Nat) : Int → Option Rw := (tabl.take k).foldl putR (fun _ => none)
def tabF : Int → Option Rw := tabl.foldl putR (fun _ => none)
theorem zeroRun (w : World) : (zeroValue 77).run Tryd.prog w = .ok (.agg zeroF) w := by kernel_rfl
theorem keyU (k : Int) (h0 : 0 ≤ k) (h1 : k < 256) : keyOf Tryd.prog 5 (.int .u8 k) = some (.int .u8 k) := Maps.keyOf_int_mk Tryd.underlying5 (by simp [Lit.wf, IntKind.min, IntKind.max, IntKind.signed, IntKind.bits]; omega)
def MapF (w : World) (b n : Nat) (f : Int → Option Rw) : Prop :=
  ∃ D : DataW Value, w.ownsMap Tryd.prog 5 RV b n D ∧ ∀ k, 0 ≤ k → k < 256 → D.atKey (.int .u8 k) (.held (.agg zeroF)) = .held (.agg (gV (f k)))
theorem MapF.made (w : World) : MapF (w.alloc (.map #[] 0)) w.heap.size 0 (fun _ => none) := ⟨_, World.ownsMap_made w _ _ _, fun k _ _ => by simp [DataW.atKey, gV]⟩
theorem MapF.mono {w : World} {b n n' : Nat} {f : Int → Option Rw} (h : MapF w b n f) (hn : n ≤ n') : MapF w b n' f := by
  obtain ⟨D, h1, h2⟩ := h
  exact ⟨D, h1.mono hn, h2⟩
theorem MapF.kept {w w' : World} {b n : Nat} {f : Int → Option Rw} (h : MapF w b n f) (k : Kep w w') : MapF w' b n f := by
  obtain ⟨D, h1, h2⟩ := h
  obtain ⟨es, c, hb, F, hs, hD⟩ := h1
  exact ⟨D, ⟨es, c, k.block hb, F, hs, hD⟩, h2⟩
theorem MapF.block {w w' : World} {b n : Nat} {f : Int → Option Rw} (h : MapF w b n f) (k : w'.heap[b]? = w.heap[b]?) : MapF w' b n f := by
  obtain ⟨D, h1, h2⟩ := h
  obtain ⟨es, c, hb, F, hs, hD⟩ := h1
  exact ⟨D, ⟨es, c, k.trans hb, F, hs, hD⟩, h2⟩
theorem MapF.lt {w : World} {b n : Nat} {f : Int → Option Rw} (h : MapF w b n f) : b < w.heap.size := by
  obtain ⟨D, h1, h2⟩ := h
  exact h1.lt
theorem MapF.look {w : World} {b n : Nat} {f : Int → Option Rw} (h : MapF w b n f) (k : Int) (h0 : 0 ≤ k) (h1 : k < 256) :
    (Instr.lookup 73 (.map (some b)) (.int .u8 k) false).run Tryd.prog w = .ok (.agg (gV (f k))) w := by
  obtain ⟨D, g1, g2⟩ := h
  obtain ⟨v, ps, hr, hv⟩ := g1.lookup keyU8 Tryd.underlying73 (zeroRun w) (zd := .held (.agg zeroF)) (zp := []) rfl (keyU k h0 h1)
  rw [g2 k h0 h1] at hv
  simp only [RV, Option.some.injEq, Prod.mk.injEq, DataW.held.injEq] at hv
  rw [hr, hv.1]
theorem MapF.put {w : World} {b n : Nat} {f : Int → Option Rw} (h : MapF w b n f) (hn : n < maxLen) (op : Int) (h0 : 0 ≤ op) (h1 : op < 256) (r : Rw) :
    ∃ w', (Instr.mapUpdate 73 (.map (some b)) (.int .u8 op) (.agg (gV (some r)))).run Tryd.prog w = .ok () w' ∧ MapF w' b (n + 1) (putF f op r) ∧ w.grownBy w' (some b) := by
  obtain ⟨D, g1, g2⟩ := h
  obtain ⟨w', hr, hm, hg⟩ := g1.update keyU8 Tryd.underlying73 hn (keyU op h0 h1) (val := .agg (gV (some r))) (d := .held (.agg (gV (some r)))) (ps := []) rfl
  refine ⟨w', hr, ⟨_, hm, fun k hk0 hk1 => ?_⟩, hg⟩
  by_cases hk : k = op
  · subst hk
    rw [Maps.atKey_put_same g1.isMap (k := .int .u8 k) trivial]
    simp [putF]
  · rw [Maps.atKey_put_other (by simp; exact hk), g2 k hk0 hk1]
    simp [putF, hk]
theorem wpList_put {w : World} {ops : Array Oper} {rest : List Oper} {o : Oper} {a : Act} {Q : Exit → Act → World → Prop} (hg : o.guard = none) (m x v : Operand) (hop : o.op = Op.mapUpdate 73 m x v)
    (b n : Nat) (f : Int → Option Rw) (hm : a.eval m = .map (some b)) (h : MapF w b n f) (hn : n < maxLen) (op : Int) (h0 : 0 ≤ op) (h1 : op < 256) (r : Rw) (hx : a.eval x = .int .u8 op) (hv : a.eval v = .agg (gV (some r)))
    (hK : ∀ w', MapF w' b (n + 1) (putF f op r) → w.grownBy w' (some b) → wpList Tryd.prog ops Q rest (a.put o.dst undef) w') : wpList Tryd.prog ops Q (o :: rest) a w := by
  refine wpList_plain hg fun K' hK' => ?_
  obtain ⟨w', hrun, r1, r2⟩ := h.put hn op h0 h1 r
  unfold Oper.wp
  simp [execOp, hop, hm, hx, hv, hrun, Result.andThen]
  exact hK' _ _ (hK w' r1 r2)
structure RowsAt (w : World) (T B : Nat) : Prop where
  row : ∀ (k j : Nat) (r : Rw), tabl[k]? = some r → j < 5 → w.cell? ⟨T, k * 5 + j, none⟩ = (rowL B (r, k))[j]?
  op : ∀ (k j : Nat) (r : Rw) (op : Int), tabl[k]? = some r → r.ops[j]? = some op → w.cell? ⟨B + k, j, none⟩ = some (.int .u8 op)
  lt : B + 27 < w.heap.size
  tb : T < w.heap.size
  bt : B ≤ T
theorem RowsAt.kept {w w' : World} {T B b : Nat} (h : RowsAt w T B) (hb : b < B) (k : w.grownBy w' (some b)) : RowsAt w' T B := by
  have e : ∀ c i, c < w.heap.size → B ≤ c → w'.cell? ⟨c, i, none⟩ = w.cell? ⟨c, i, none⟩ := fun c i hc hB => by
    have := k.block c hc (by simp; omega)
    simp only [World.cell?, this]
  refine ⟨fun k j r h1 h2 => (e _ _ h.tb h.bt).trans (h.row k j r h1 h2), fun k j r op h1 h2 => (e _ _ ?_ (by omega)).trans (h.op k j r op h1 h2), Nat.lt_of_lt_of_le h.lt k.size, Nat.lt_of_lt_of_le h.tb k.size, h.bt⟩
  have := (List.getElem?_eq_some_iff.1 h1).1
  have h27 : tabl.length = 27 := rfl
  have := h.lt
  omega
theorem RowsAt.kep {w w' : World} {T B : Nat} (h : RowsAt w T B) (k : Kep w w') : RowsAt w' T B := by
  refine ⟨fun k' j r h1 h2 => (k.cell h.tb).trans (h.row k' j r h1 h2), fun k' j r op h1 h2 => (k.cell ?_).trans (h.op k' j r op h1 h2), k.lt h.lt, k.lt h.tb, h.bt⟩
  have := (List.getElem?_eq_some_iff.1 h1).1
  have h27 : tabl.length = 27 := rfl
  have := h.lt
  omega
theorem rows_at (w : World) : RowsAt (lay w) (w.heap.size + 27) w.heap.size :=
  ⟨fun k j r h1 h2 => row_cell w k j r h1 h2, fun k j r op h1 h2 => op_cell w k j r h1 op h2, by rw [lay_size]; omega, by rw [lay_size]; omega, by omega⟩
theorem rows_call (w : World) : Calls Tryd.prog 58 #[] w fun e w' => ∃ T B : Nat, e = .returned (.slice (some ⟨T, 0, none⟩) 27 27) ∧ w.heap.size ≤ B ∧ Hid (RowsAt w' T B) ∧ Kep w w' :=
  (rows_any w).mono fun e w' ⟨h1, h2⟩ => ⟨_, _, h1, Nat.le_refl _, h2 ▸ rows_at w, h2 ▸ lay_kep w⟩
theorem upto_succ (k : Nat) (r : Rw) (h : tabl[k]? = some r) : upto (k + 1) = putR (upto k) r := by
  unfold upto
  rw [List.take_add_one, h]
  simp
theorem upto_all : upto 27 = tabF := rfl
theorem tabl_ok : ∀ r ∈ tabl, r.rd ∈ lets ∧ r.wr ∈ lets ∧ r.m ∈ marks ∧ r.ops.length ≤ 11 ∧ ∀ op ∈ r.ops, 0 ≤ op ∧ op < 256 := by decide +kernel
set_option maxHeartbeats 8000000 in
set_option maxRecDepth 100000 in
theorem by_any (w : World) : Calls Tryd.prog 30 #[.func (.func 31) #[] #[]] w fun e w' => e = .returned (.map (some w.heap.size)) ∧ (∃ n, MapF w' w.heap.size n tabF) ∧ Kep w w' := by
  have hmm := @run_makeMap Tryd.prog
  go_enter Tryd.func30, Tryd.ntmps30
  go_wp2_with fail
  refine (rows_call _).mono ?_
  rintro e w1 ⟨T, B, rfl, hB, hR, k1⟩
  have K1 : Hid (Kep w w1) := kep_trans ((Kep.refl _).alloc _) k1
  have M1 : Hid (MapF w1 w.heap.size 0 (upto 0)) := (MapF.made w).kept k1
  have hB' : w.heap.size + 1 ≤ B := by simpa using hB
  clear hB k1
  go_wp2_with fail
  go_loopw [12] (fun i wr => ∃ k : Nat, (k : Int) ≤ 27 ∧ i = .int .i64 k ∧ Hid (MapF wr w.heap.size (11 * k) (upto k)) ∧ Hid (RowsAt wr T B) ∧ Hid (Kep w wr)) (fun i _ => 30 - (intOf i).toNat)
  case atStart => exact ⟨0, by omega, rfl, M1, hR, K1⟩
  case round =>
    obtain ⟨k, hk, rfl, hM, hRk, hKk⟩ := hrel
    by_cases hlt : (k : Int) < 27
    · obtain ⟨r, hr⟩ : ∃ r, tabl[k]? = some r := ⟨_, List.getElem?_eq_getElem (show k < tabl.length from by have : tabl.length = 27 := rfl; omega)⟩
      have a0 : wr.cell? ⟨T, k * 5, none⟩ = some (.slice (some ⟨B + k, 0, none⟩) r.ops.length r.ops.length) := hRk.out.row k 0 r hr (by omega)
      have a1 : wr.cell? ⟨T, k * 5 + 1, none⟩ = some (.int .i64 r.cls) := hRk.out.row k 1 r hr (by omega)
      have a2 : wr.cell? ⟨T, k * 5 + 2, none⟩ = some (.string ⟨r.rd⟩) := hRk.out.row k 2 r hr (by omega)
      have a3 : wr.cell? ⟨T, k * 5 + 3, none⟩ = some (.string ⟨r.wr⟩) := hRk.out.row k 3 r hr (by omega)
      have a4 : wr.cell? ⟨T, k * 5 + 4, none⟩ = some (.string ⟨r.m⟩) := hRk.out.row k 4 r hr (by omega)
      obtain ⟨o1, o2, o3, o4, o5⟩ := tabl_ok r (List.mem_of_getElem? hr)
      have o4' : (r.ops.length : Int) ≤ 11 := by omega
      have hF : Hid (∀ x w, Calls Tryd.prog 31 #[.agg (rowV x r.cls r.rd r.wr r.m)] w fun e w' => e = .returned (.agg (factV r.cls r.rd r.wr (mk 116 r.m) (mk 102 r.m) (mk 115 r.m))) ∧ Kep w w') := fun x w => fact_any x r.cls r.rd r.wr r.m o1 o2 o3 w
      have O5 : Hid (∀ op ∈ r.ops, 0 ≤ op ∧ op < 256) := o5
      clear o1 o2 o3 o5
      go_wp2_with fail
      refine (hF.out _ _).mono ?_
      rintro e w2 ⟨rfl, k2⟩
      have c0 : w2.cell? ⟨wr.heap.size, 0, none⟩ = some (.slice (some ⟨B + k, 0, none⟩) r.ops.length r.ops.length) := (keep_row (i := 0) k2).trans rfl
      have k2' : Hid (Kep wr w2) := kep_trans ((Kep.refl _).alloc _) k2
      have s2 : wr.heap.size < w2.heap.size := Nat.lt_of_lt_of_le (by simp) k2.size
      have hms : w.heap.size < w2.heap.size := Nat.lt_trans hM.out.lt s2
      have G2 : Hid (∀ o, Kep wr (w2.alloc o)) := fun o => k2'.out.alloc o
      clear k2 hF a0 a1 a2 a3 a4
      go_wp2_with fail
      go_loopw [22] (fun i wi => ∃ j : Nat, (j : Int) ≤ r.ops.length ∧ i = .int .i64 j ∧ Hid (MapF wi w.heap.size (11 * k + j) ((r.ops.take j).foldl (fun f op => putF f op r) (upto k))) ∧ Hid (RowsAt wi T B) ∧ Hid (Kep w wi) ∧ Hid (wi.heap[w2.heap.size]? = some (.cells (gV (some r)) 77 (0, 0)))) (fun i _ => 30 - (intOf i).toNat)
      case atStart =>
        refine ⟨0, by omega, rfl, ?_, ?_, ?_, ?_⟩
        · exact hM.out.kept (G2.out _)
        · exact hRk.out.kep (G2.out _)
        · exact kep_trans hKk.out (G2.out _)
        · exact heap_alloc_new _ _
      case round =>
        obtain ⟨j, hj, rfl, hMj, hRj, hKj, hBj⟩ := hrel
        by_cases hlj : (j : Int) < r.ops.length
        · obtain ⟨op, hop⟩ : ∃ op, r.ops[j]? = some op := ⟨_, List.getElem?_eq_getElem (show j < r.ops.length from by omega)⟩
          have d0 : wr.cell? ⟨B + k, j, none⟩ = some (.int .u8 op) := hRj.out.op k j r op hr hop
          have hop2 := O5.out op (List.mem_of_getElem? hop)
          have h10 : (gV (some r)).size = 10 := rfl
          have hsz : (Tryd.prog.info? 77).map (·.size) = some (gV (some r)).size := sizeFact
          have hmax : 11 * k + j < maxLen := by unfold maxLen; omega
          have hbs := hMj.out.lt
          go_upto_region 9 with fail
          go_wp2_with (first
            | refine wpList_load_row rfl 77 _ rfl w2.heap.size rfl 77 (gV (some r)) (0, 0) _ hBj.out Tryd.underlying77 rfl hsz ?_
            | (at_mapUpdate; refine wpList_put rfl _ _ _ rfl w.heap.size _ _ rfl hMj.out hmax op hop2.1 hop2.2 r rfl rfl ?_; intro w5 m5 g5))
          refine ⟨⟨j + 1, by omega, rfl, ?_, ?_, ?_, ?_⟩, by simp [intOf]; omega⟩
          · rw [List.take_add_one, hop]
            unfold Hid
            simpa [List.foldl_append, Nat.add_assoc] using m5
          · exact hRj.out.kept (by omega) g5
          · exact hKj.out.by g5 (by intro q hq; simp at hq; omega)
          · exact (g5.block _ (block_ge hBj.out) (by simp; omega)).trans hBj.out
        · have hj2 : j = r.ops.length := by omega
          go_wp2_with fail
          refine ⟨⟨k + 1, by omega, rfl, ?_, hRj, hKj⟩, by simp [intOf]; omega⟩
          rw [upto_succ k r hr]
          subst hj2
          have h := hMj.out
          rw [List.take_length] at h
          exact h.mono (by omega)
    · have hk2 : k = 27 := by omega
      subst hk2
      go_wp2_with fail
      go_ret
      exact ⟨rfl, ⟨_, by have h := hM.out; rw [upto_all] at h; exact h⟩, hKk⟩
theorem on_disable (w : World) : (callFunc 107 #[]).run Tryd.prog w = .ok (.value (.tuple #[])) w := run_call_mark0 Tryd.func107 (by kernel_rfl) (by kernel_rfl) (by kernel_rfl) .disable (by kernel_rfl) w
theorem on_enable (w : World) : (callFunc 109 #[]).run Tryd.prog w = .ok (.value (.tuple #[])) w := run_call_mark0 Tryd.func109 (by kernel_rfl) (by kernel_rfl) (by kernel_rfl) .enable (by kernel_rfl) w
theorem on_acquire (a : Addr) (w : World) : (callFunc 110 #[.pointer (some a)]).run Tryd.prog w = .ok (.value (.tuple #[])) w := run_call_marked Tryd.func110 (by kernel_rfl) (by kernel_rfl) (by kernel_rfl) .acquire (by kernel_rfl) a w
theorem on_merge (a : Addr) (w : World) : (callFunc 112 #[.pointer (some a)]).run Tryd.prog w = .ok (.value (.tuple #[])) w := run_call_marked Tryd.func112 (by kernel_rfl) (by kernel_rfl) (by kernel_rfl) .releaseMerge (by kernel_rfl) a w
theorem on_store (a : Addr) (x : Value) (u : FrameMode) (w : World) (hc : w.cell? a = some x) (hz : w.frozen? a = false) :
    CallsD Tryd.prog 73 #[.pointer (some a), .bool true] u w fun e u' w' => u' = u ∧ (e = .returned (.tuple #[]) ∧ w' = w.drew.setCell a (.int .u32 1)) := by
  have hc' : w.drew.cell? a = some x := by go_simp
  have hz' : w.drew.frozen? a = false := by go_simp
  have hst := run_call_store (P := Tryd.prog) Tryd.func96 (by kernel_rfl) (by kernel_rfl) (by kernel_rfl) (by kernel_rfl) (k := .u32) (y := 1) hc' hz'
  go_enter_d Tryd.func73, Tryd.ntmps73
  go_wp2
  go_region_calls
  all_goals (go_end0; exact ⟨rfl, rfl⟩)
set_option maxRecDepth 100000 in
set_option maxHeartbeats 1600000 in
theorem on_unlock (a : Addr) (u : FrameMode) (w : World) (hc : w.cell? a = some (.int .i32 1)) (hz : w.frozen? a = false) :
    CallsD Tryd.prog 72 #[.pointer (some a)] u w fun e u' w' => u' = u ∧ (e = .returned (.tuple #[]) ∧ w' = w.setCell a (.int .i32 0)) := by
  have hd := on_disable
  have he := on_enable
  have hr := on_merge
  have hadd := run_call_add (P := Tryd.prog) Tryd.func113 (by kernel_rfl) (by kernel_rfl) (by kernel_rfl) .i32 (by kernel_rfl) (y := -1) (s := 0) hc hz (by simp [go_sem]; rfl)
  have hcv := run_convert_to_unsafe (P := Tryd.prog) (src := 147) (dst := 151) Tryd.underlying147 Tryd.underlying151 (by kernel_rfl) hc
  go_enter_d Tryd.func72, Tryd.ntmps72
  go_wp2
  go_end0
  go_wp2
  all_goals (go_end0; exact ⟨rfl, rfl⟩)
set_option maxRecDepth 100000 in
set_option maxHeartbeats 1600000 in
theorem on_lock (a : Addr) (w : World) (hc : w.cell? a = some (.int .i32 0)) (hz : w.frozen? a = false) :
    Calls Tryd.prog 71 #[.pointer (some a)] w fun e w' => e = .returned (.tuple #[]) ∧ w' = w.setCell a (.int .i32 1) := by
  have hd := on_disable
  have he := on_enable
  have ha := on_acquire
  have hcas := run_call_cas_hit (P := Tryd.prog) Tryd.func108 (by kernel_rfl) (by kernel_rfl) (by kernel_rfl) .i32 (by kernel_rfl) (y := 1) hc hz
  have hc' : (w.setCell a (.int .i32 1)).cell? a = some (.int .i32 1) := World.cell?_setCell_same w a _ hc
  have hcv := run_convert_to_unsafe (P := Tryd.prog) (src := 147) (dst := 151) Tryd.underlying147 Tryd.underlying151 (by kernel_rfl) hc'
  go_enter Tryd.func71, Tryd.ntmps71
  go_wp2
  first | go_end0 | (simp only [Exit.inBlock, Exit.then]; refine bodyPost_ret (results_none rfl _ _ _) rfl ?_) | refine bodyPost_ret (results_none rfl _ _ _) rfl ?_
  go_wp2
  all_goals (go_end0; exact ⟨rfl, rfl⟩)
structure Stp (o kb : Nat) (w w' : World) : Prop where
  os : w'.os = w.os
  tape : w'.tape = w.tape
  output : w'.output = w.output
  size : w.heap.size ≤ w'.heap.size
  block : ∀ k, k < w.heap.size → k ≠ o → k ≠ kb → w'.heap[k]? = w.heap[k]?
theorem Stp.refl {o kb : Nat} (w : World) : Stp o kb w w := ⟨rfl, rfl, rfl, Nat.le_refl _, fun _ _ _ _ => rfl⟩
theorem Stp.trans {o kb : Nat} {a b c : World} (h : Stp o kb a b) (k : Stp o kb b c) : Stp o kb a c :=
  ⟨k.os.trans h.os, k.tape.trans h.tape, k.output.trans h.output, Nat.le_trans h.size k.size, fun i hi h1 h2 => (k.block i (Nat.lt_of_lt_of_le hi h.size) h1 h2).trans (h.block i hi h1 h2)⟩
theorem Stp.of_kep {o kb : Nat} {a b : World} (h : Kep a b) : Stp o kb a b :=
  have h' : Below a.heap.size a b := h
  ⟨h'.os, h'.tape, h'.output, h'.size, fun k hk _ _ => h'.block k hk⟩
theorem Stp.setCell {o kb : Nat} {a b : World} (h : Stp o kb a b) {p : Addr} (hp : p.block = o ∨ p.block = kb) (v : Value) : Stp o kb a (b.setCell p v) := by
  refine ⟨h.os, h.tape, h.output, by simpa using h.size, fun k hk h1 h2 => ?_⟩
  rw [heap_setCell_other _ _ _ _ (by rcases hp with h | h <;> rw [h] <;> assumption)]
  exact h.block k hk h1 h2
theorem Stp.drew {o kb : Nat} {a b : World} (h : Stp o kb a b) : Stp o kb a b.drew := ⟨h.os, h.tape, h.output, h.size, h.block⟩
theorem Kep.stp {o kb : Nat} {W w w' : World} (h : Kep W w) (k : Stp o kb w w') (ho : W.heap.size ≤ o) (hb : W.heap.size ≤ kb) : Kep W w' :=
  have h' : Below W.heap.size W w := h
  ⟨k.os.trans h'.os, k.tape.trans h'.tape, k.output.trans h'.output, Nat.le_trans h'.size k.size, fun i hi => (k.block i (Nat.lt_of_lt_of_le hi h'.size) (by omega) (by omega)).trans (h'.block i hi)⟩
abbrev onceO (d : Int) : Obj := .cells #[.int .u32 d, .int .i32 0, .int .u32 0] 72
theorem on_load (a : Addr) (d : Int) (w : World) (h0 : w.cell? a = some (.int .u32 d)) :
    Calls Tryd.prog 56 #[.pointer (some a)] w fun e w' => e = .returned (.bool (d != 0)) ∧ w' = w := by
  have hl := run_call_load (P := Tryd.prog) Tryd.func70 (by kernel_rfl) (by kernel_rfl) (by kernel_rfl) .u32 (by kernel_rfl) h0
  go_enter Tryd.func56, Tryd.ntmps56
  go_wp2
  go_ret
  exact ⟨rfl, rfl⟩
set_option maxRecDepth 100000 in
set_option maxHeartbeats 1600000 in
theorem on_slow (o : Nat) (cap : Value) (R : World → World → Prop) (w : World) (ho : w.heap[o]? = some (onceO 0))
    (hF : Calls Tryd.prog 29 #[cap] (w.setCell ⟨o, 1, none⟩ (.int .i32 1)) fun e w' => e = .returned (.tuple #[]) ∧ w'.heap[o]? = some (.cells #[.int .u32 0, .int .i32 1, .int .u32 0] 72 (0, 0)) ∧ R (w.setCell ⟨o, 1, none⟩ (.int .i32 1)) w') :
    Calls Tryd.prog 57 #[.pointer (some ⟨o, 0, none⟩), .func (.func 29) #[] #[cap]] w fun e w' => e = .returned (.tuple #[]) ∧
      ∃ w1, R (w.setCell ⟨o, 1, none⟩ (.int .i32 1)) w1 ∧ w1.heap[o]? = some (.cells #[.int .u32 0, .int .i32 1, .int .u32 0] 72 (0, 0)) ∧ w' = (w1.drew.setCell ⟨o, 0, none⟩ (.int .u32 1)).setCell ⟨o, 1, none⟩ (.int .i32 0) := by
  have h0 : w.cell? ⟨o, 0, none⟩ = some (.int .u32 0) := cell_of_block ho
  have h1 : w.cell? ⟨o, 1, none⟩ = some (.int .i32 0) := cell_of_block ho
  have f1 : w.frozen? ⟨o, 1, none⟩ = false := frozen_of_row _ _ _ _ _ ho
  have hl : Hid ((w.setCell ⟨o, 1, none⟩ (.int .i32 1)).cell? ⟨o, 0, none⟩ = some (.int .u32 0)) := (World.cell?_setCell_other _ ⟨o, 1, none⟩ ⟨o, 0, none⟩ _ (by simp)).trans h0
  have hnot : ∀ (x : Bool) (w : World), (Op.unary .not (.bool x)).run Tryd.prog w = .ok (.bool (!x)) w := fun _ _ => rfl
  have hF' : Hid (Calls Tryd.prog 29 #[cap] (w.setCell ⟨o, 1, none⟩ (.int .i32 1)) fun e w' => e = .returned (.tuple #[]) ∧ w'.heap[o]? = some (.cells #[.int .u32 0, .int .i32 1, .int .u32 0] 72 (0, 0)) ∧ R (w.setCell ⟨o, 1, none⟩ (.int .i32 1)) w') := hF
  clear hF
  go_enter_defers Tryd.func57, Tryd.ntmps57
  go_wp2_with (go_at_call 71; refine (on_lock ⟨o, 1, none⟩ _ (by go_simp) (by go_simp)).mono ?_; rintro e w' ⟨rfl, rfl⟩)
  refine (on_load ⟨o, 0, none⟩ 0 _ hl.out).mono ?_
  rintro e w' ⟨rfl, rfl⟩
  go_wp2_with fail
  refine hF'.out.mono ?_
  rintro e w1 ⟨rfl, hb, hR⟩
  go_wp2_with fail
  refine leaves_cons (f := 73) (args := #[.pointer (some ⟨o, 0, none⟩), .bool true]) (by simp) (by simp [go_sem]) ?_
  refine (on_store ⟨o, 0, none⟩ (.int .u32 0) .returning _ (cell_of_block hb) (frozen_of_row _ _ _ _ _ hb)).mono ?_
  rintro e u' w'' ⟨rfl, rfl, rfl⟩
  have hb2 : (w1.drew.setCell ⟨o, 0, none⟩ (.int .u32 1)).heap[o]? = some (.cells #[.int .u32 1, .int .i32 1, .int .u32 0] 72 (0, 0)) := heap_setCell_same w1.drew o 0 _ _ (.int .u32 1) hb
  refine leaves_cons (f := 72) (args := #[.pointer (some ⟨o, 1, none⟩)]) (by simp [settle]) (by simp [go_sem]) ?_
  refine (on_unlock ⟨o, 1, none⟩ _ _ (cell_of_block hb2) (frozen_of_row _ _ _ _ _ hb2)).mono ?_
  rintro e u' w'' ⟨rfl, rfl, rfl⟩
  simp [Leaves, settle, results, Tryd.results57]
  exact ⟨w1, hR, hb, rfl⟩
end Go.Proofs.YthimfiihebdchaaDoor
