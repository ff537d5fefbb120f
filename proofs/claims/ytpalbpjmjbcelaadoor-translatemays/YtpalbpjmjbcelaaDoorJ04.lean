/- Part of a proof. -/
import Derived.Defers
import Derived.Laws.Pointers
import Derived.Laws.LoneSync
import Derived.RegionTactic
import Derived.RegionCalls
import Derived.ChangeAlike
import Derived.Laws.Rows
import Derived.Laws.IdiomCopy
import Derived.Test.YtpalbpjmjbcelaaDoorJ03
namespace Go.Proofs.YtpalbpjmjbcelaaDoor
open Go.RowKit
set_option linter.unusedVariables false
set_option linter.unusedSimpArgs false
set_option maxHeartbeats 8000000 in
set_option maxRecDepth 100000 in
theorem by_any (w : World) : Calls Tryd.prog 35 #[.func (.func 36) #[] #[]] w fun e w' => e = .returned (.map (some w.heap.size)) ∧ (∃ n, MapF w' w.heap.size n tabF) ∧ Kep w w' := by
  have hmm := @run_makeMap Tryd.prog
  go_enter Tryd.func35, Tryd.ntmps35
  go_wp2_with fail
  refine (rows_call _).mono ?_
  rintro e w1 ⟨T, B, rfl, hB, hR, k1⟩
  have K1 : Hid (Kep w w1) := kep_trans ((Kep.refl _).alloc _) k1
  have M1 : Hid (MapF w1 w.heap.size 0 (upto 0)) := (MapF.made w).kept k1
  have hB' : w.heap.size + 1 ≤ B := by simpa using hB
  clear hB k1
  go_wp2_with fail
  go_loopw [12] (fun i wr => ∃ k : Nat, (k : Int) ≤ 27 ∧ i = .int .i64 k ∧ Hid (MapF wr w.heap.size (11 * k) (upto k)) ∧ Hid (RowsAt wr T B) ∧ Hid (Kep w wr)) (fun i _ => 30 - (intOf i).toNat)
  case atStart => exact ⟨0, by omega, rfl, M1, hR, K1⟩
  case round =>
    obtain ⟨k, hk, rfl, hM, hRk, hKk⟩ := hrel
    by_cases hlt : (k : Int) < 27
    · obtain ⟨r, hr⟩ : ∃ r, tabl[k]? = some r := ⟨_, List.getElem?_eq_getElem (show k < tabl.length from by have : tabl.length = 27 := rfl; omega)⟩
      have a0 : wr.cell? ⟨T, k * 5, none⟩ = some (.slice (some ⟨B + k, 0, none⟩) r.ops.length r.ops.length) := hRk.out.row k 0 r hr (by omega)
      have a1 : wr.cell? ⟨T, k * 5 + 1, none⟩ = some (.int .i64 r.cls) := hRk.out.row k 1 r hr (by omega)
      have a2 : wr.cell? ⟨T, k * 5 + 2, none⟩ = some (.string ⟨r.rd⟩) := hRk.out.row k 2 r hr (by omega)
      have a3 : wr.cell? ⟨T, k * 5 + 3, none⟩ = some (.string ⟨r.wr⟩) := hRk.out.row k 3 r hr (by omega)
      have a4 : wr.cell? ⟨T, k * 5 + 4, none⟩ = some (.string ⟨r.m⟩) := hRk.out.row k 4 r hr (by omega)
      obtain ⟨o1, o2, o3, o4, o5⟩ := tabl_ok r (List.mem_of_getElem? hr)
      have o4' : (r.ops.length : Int) ≤ 11 := by omega
      have hF : Hid (∀ x w, Calls Tryd.prog 36 #[.agg (rowV x r.cls r.rd r.wr r.m)] w fun e w' => e = .returned (.agg (factV r.cls r.rd r.wr (mk 116 r.m) (mk 102 r.m) (mk 115 r.m))) ∧ Kep w w') := fun x w => fact_any x r.cls r.rd r.wr r.m o1 o2 o3 w
      have O5 : Hid (∀ op ∈ r.ops, 0 ≤ op ∧ op < 256) := o5
      clear o1 o2 o3 o5
      go_wp2_with fail
      refine (hF.out _ _).mono ?_
      rintro e w2 ⟨rfl, k2⟩
      have c0 : w2.cell? ⟨wr.heap.size, 0, none⟩ = some (.slice (some ⟨B + k, 0, none⟩) r.ops.length r.ops.length) := (keep_row (i := 0) k2).trans rfl
      have k2' : Hid (Kep wr w2) := kep_trans ((Kep.refl _).alloc _) k2
      have s2 : wr.heap.size < w2.heap.size := Nat.lt_of_lt_of_le (by simp) k2.size
      have hms : w.heap.size < w2.heap.size := Nat.lt_trans hM.out.lt s2
      have G2 : Hid (∀ o, Kep wr (w2.alloc o)) := fun o => k2'.out.alloc o
      clear k2 hF a0 a1 a2 a3 a4
      go_wp2_with fail
      go_loopw [22] (fun i wi => ∃ j : Nat, (j : Int) ≤ r.ops.length ∧ i = .int .i64 j ∧ Hid (MapF wi w.heap.size (11 * k + j) ((r.ops.take j).foldl (fun f op => putF f op r) (upto k))) ∧ Hid (RowsAt wi T B) ∧ Hid (Kep w wi) ∧ Hid (wi.heap[w2.heap.size]? = some (.cells (gV (some r)) 98 (0, 0)))) (fun i _ => 30 - (intOf i).toNat)
      case atStart =>
        refine ⟨0, by omega, rfl, ?_, ?_, ?_, ?_⟩
        · exact hM.out.kept (G2.out _)
        · exact hRk.out.kep (G2.out _)
        · exact kep_trans hKk.out (G2.out _)
        · exact heap_alloc_new _ _
      case round =>
        obtain ⟨j, hj, rfl, hMj, hRj, hKj, hBj⟩ := hrel
        by_cases hlj : (j : Int) < r.ops.length
        · obtain ⟨op, hop⟩ : ∃ op, r.ops[j]? = some op := ⟨_, List.getElem?_eq_getElem (show j < r.ops.length from by omega)⟩
          have d0 : wr.cell? ⟨B + k, j, none⟩ = some (.int .u8 op) := hRj.out.op k j r op hr hop
          have hop2 := O5.out op (List.mem_of_getElem? hop)
          have h10 : (gV (some r)).size = 10 := rfl
          have hsz : (Tryd.prog.info? 98).map (·.size) = some (gV (some r)).size := sizeFact
          have hmax : 11 * k + j < maxLen := by unfold maxLen; omega
          have hbs := hMj.out.lt
          go_upto_region 9 with fail
          go_wp2_with (first
            | refine wpList_load_row rfl 98 _ rfl w2.heap.size rfl 98 (gV (some r)) (0, 0) _ hBj.out Tryd.underlying98 rfl hsz ?_
            | (at_mapUpdate; refine wpList_put rfl _ _ _ rfl w.heap.size _ _ rfl hMj.out hmax op hop2.1 hop2.2 r rfl rfl ?_; intro w5 m5 g5))
          refine ⟨⟨j + 1, by omega, rfl, ?_, ?_, ?_, ?_⟩, by simp [intOf]; omega⟩
          · rw [List.take_add_one, hop]
            unfold Hid
            simpa [List.foldl_append, Nat.add_assoc] using m5
          · exact hRj.out.kept (by omega) g5
          · exact hKj.out.by g5 (by intro q hq; simp at hq; omega)
          · exact (g5.block _ (block_ge hBj.out) (by simp; omega)).trans hBj.out
        · have hj2 : j = r.ops.length := by omega
          go_wp2_with fail
          refine ⟨⟨k + 1, by omega, rfl, ?_, hRj, hKj⟩, by simp [intOf]; omega⟩
          rw [upto_succ k r hr]
          subst hj2
          have h := hMj.out
          rw [List.take_length] at h
          exact h.mono (by omega)
    · have hk2 : k = 27 := by omega
      subst hk2
      go_wp2_with fail
      go_ret
      exact ⟨rfl, ⟨_, by have h := hM.out; rw [upto_all] at h; exact h⟩, hKk⟩
theorem on_disable (w : World) : (callFunc 64 #[]).run Tryd.prog w = .ok (.value (.tuple #[])) w := run_call_mark0 Tryd.func64 (by kernel_rfl) (by kernel_rfl) (by kernel_rfl) .disable (by kernel_rfl) w
theorem on_enable (w : World) : (callFunc 66 #[]).run Tryd.prog w = .ok (.value (.tuple #[])) w := run_call_mark0 Tryd.func66 (by kernel_rfl) (by kernel_rfl) (by kernel_rfl) .enable (by kernel_rfl) w
theorem on_acquire (a : Addr) (w : World) : (callFunc 67 #[.pointer (some a)]).run Tryd.prog w = .ok (.value (.tuple #[])) w := run_call_marked Tryd.func67 (by kernel_rfl) (by kernel_rfl) (by kernel_rfl) .acquire (by kernel_rfl) a w
theorem on_merge (a : Addr) (w : World) : (callFunc 69 #[.pointer (some a)]).run Tryd.prog w = .ok (.value (.tuple #[])) w := run_call_marked Tryd.func69 (by kernel_rfl) (by kernel_rfl) (by kernel_rfl) .releaseMerge (by kernel_rfl) a w
theorem on_store (a : Addr) (x : Value) (u : FrameMode) (w : World) (hc : w.cell? a = some x) (hz : w.frozen? a = false) :
    CallsD Tryd.prog 59 #[.pointer (some a), .bool true] u w fun e u' w' => u' = u ∧ (e = .returned (.tuple #[]) ∧ w' = w.drew.setCell a (.int .u32 1)) := by
  have hc' : w.drew.cell? a = some x := by go_simp
  have hz' : w.drew.frozen? a = false := by go_simp
  have hst := run_call_store (P := Tryd.prog) Tryd.func62 (by kernel_rfl) (by kernel_rfl) (by kernel_rfl) (by kernel_rfl) (k := .u32) (y := 1) hc' hz'
  go_enter_d Tryd.func59, Tryd.ntmps59
  go_wp2
  go_region_calls
  all_goals (go_end0; exact ⟨rfl, rfl⟩)
set_option maxRecDepth 100000 in
set_option maxHeartbeats 1600000 in
theorem on_unlock (a : Addr) (u : FrameMode) (w : World) (hc : w.cell? a = some (.int .i32 1)) (hz : w.frozen? a = false) :
    CallsD Tryd.prog 58 #[.pointer (some a)] u w fun e u' w' => u' = u ∧ (e = .returned (.tuple #[]) ∧ w' = w.setCell a (.int .i32 0)) := by
  have hd := on_disable
  have he := on_enable
  have hr := on_merge
  have hadd := run_call_add (P := Tryd.prog) Tryd.func70 (by kernel_rfl) (by kernel_rfl) (by kernel_rfl) .i32 (by kernel_rfl) (y := -1) (s := 0) hc hz (by simp [go_sem]; rfl)
  have hcv := run_convert_to_unsafe (P := Tryd.prog) (src := 140) (dst := 144) Tryd.underlying140 Tryd.underlying144 (by kernel_rfl) hc
  go_enter_d Tryd.func58, Tryd.ntmps58
  go_wp2
  go_end0
  go_wp2
  all_goals (go_end0; exact ⟨rfl, rfl⟩)
set_option maxRecDepth 100000 in
set_option maxHeartbeats 1600000 in
theorem on_lock (a : Addr) (w : World) (hc : w.cell? a = some (.int .i32 0)) (hz : w.frozen? a = false) :
    Calls Tryd.prog 57 #[.pointer (some a)] w fun e w' => e = .returned (.tuple #[]) ∧ w' = w.setCell a (.int .i32 1) := by
  have hd := on_disable
  have he := on_enable
  have ha := on_acquire
  have hcas := run_call_cas_hit (P := Tryd.prog) Tryd.func65 (by kernel_rfl) (by kernel_rfl) (by kernel_rfl) .i32 (by kernel_rfl) (y := 1) hc hz
  have hc' : (w.setCell a (.int .i32 1)).cell? a = some (.int .i32 1) := World.cell?_setCell_same w a _ hc
  have hcv := run_convert_to_unsafe (P := Tryd.prog) (src := 140) (dst := 144) Tryd.underlying140 Tryd.underlying144 (by kernel_rfl) hc'
  go_enter Tryd.func57, Tryd.ntmps57
  go_wp2
  first | go_end0 | (simp only [Exit.inBlock, Exit.then]; refine bodyPost_ret (results_none rfl _ _ _) rfl ?_) | refine bodyPost_ret (results_none rfl _ _ _) rfl ?_
  go_wp2
  all_goals (go_end0; exact ⟨rfl, rfl⟩)
structure Stp (o kb : Nat) (w w' : World) : Prop where
  os : w'.os = w.os
  tape : w'.tape = w.tape
  output : w'.output = w.output
  size : w.heap.size ≤ w'.heap.size
  block : ∀ k, k < w.heap.size → k ≠ o → k ≠ kb → w'.heap[k]? = w.heap[k]?
theorem Stp.refl {o kb : Nat} (w : World) : Stp o kb w w := ⟨rfl, rfl, rfl, Nat.le_refl _, fun _ _ _ _ => rfl⟩
theorem Stp.trans {o kb : Nat} {a b c : World} (h : Stp o kb a b) (k : Stp o kb b c) : Stp o kb a c :=
  ⟨k.os.trans h.os, k.tape.trans h.tape, k.output.trans h.output, Nat.le_trans h.size k.size, fun i hi h1 h2 => (k.block i (Nat.lt_of_lt_of_le hi h.size) h1 h2).trans (h.block i hi h1 h2)⟩
theorem Stp.of_kep {o kb : Nat} {a b : World} (h : Kep a b) : Stp o kb a b :=
  have h' : Below a.heap.size a b := h
  ⟨h'.os, h'.tape, h'.output, h'.size, fun k hk _ _ => h'.block k hk⟩
theorem Stp.setCell {o kb : Nat} {a b : World} (h : Stp o kb a b) {p : Addr} (hp : p.block = o ∨ p.block = kb) (v : Value) : Stp o kb a (b.setCell p v) := by
  refine ⟨h.os, h.tape, h.output, by simpa using h.size, fun k hk h1 h2 => ?_⟩
  rw [heap_setCell_other _ _ _ _ (by rcases hp with h | h <;> rw [h] <;> assumption)]
  exact h.block k hk h1 h2
theorem Stp.drew {o kb : Nat} {a b : World} (h : Stp o kb a b) : Stp o kb a b.drew := ⟨h.os, h.tape, h.output, h.size, h.block⟩
theorem Kep.stp {o kb : Nat} {W w w' : World} (h : Kep W w) (k : Stp o kb w w') (ho : W.heap.size ≤ o) (hb : W.heap.size ≤ kb) : Kep W w' :=
  have h' : Below W.heap.size W w := h
  ⟨k.os.trans h'.os, k.tape.trans h'.tape, k.output.trans h'.output, Nat.le_trans h'.size k.size, fun i hi => (k.block i (Nat.lt_of_lt_of_le hi h'.size) (by omega) (by omega)).trans (h'.block i hi)⟩
abbrev onceO (d : Int) : Obj := .cells #[.int .u32 d, .int .i32 0, .int .u32 0] 93
theorem on_load (a : Addr) (d : Int) (w : World) (h0 : w.cell? a = some (.int .u32 d)) :
    Calls Tryd.prog 49 #[.pointer (some a)] w fun e w' => e = .returned (.bool (d != 0)) ∧ w' = w := by
  have hl := run_call_load (P := Tryd.prog) Tryd.func56 (by kernel_rfl) (by kernel_rfl) (by kernel_rfl) .u32 (by kernel_rfl) h0
  go_enter Tryd.func49, Tryd.ntmps49
  go_wp2
  go_ret
  exact ⟨rfl, rfl⟩
set_option maxRecDepth 100000 in
set_option maxHeartbeats 1600000 in
theorem on_slow (o : Nat) (cap : Value) (R : World → World → Prop) (w : World) (ho : w.heap[o]? = some (onceO 0))
    (hF : Calls Tryd.prog 34 #[cap] (w.setCell ⟨o, 1, none⟩ (.int .i32 1)) fun e w' => e = .returned (.tuple #[]) ∧ w'.heap[o]? = some (.cells #[.int .u32 0, .int .i32 1, .int .u32 0] 93 (0, 0)) ∧ R (w.setCell ⟨o, 1, none⟩ (.int .i32 1)) w') :
    Calls Tryd.prog 50 #[.pointer (some ⟨o, 0, none⟩), .func (.func 34) #[] #[cap]] w fun e w' => e = .returned (.tuple #[]) ∧
      ∃ w1, R (w.setCell ⟨o, 1, none⟩ (.int .i32 1)) w1 ∧ w1.heap[o]? = some (.cells #[.int .u32 0, .int .i32 1, .int .u32 0] 93 (0, 0)) ∧ w' = (w1.drew.setCell ⟨o, 0, none⟩ (.int .u32 1)).setCell ⟨o, 1, none⟩ (.int .i32 0) := by
  have h0 : w.cell? ⟨o, 0, none⟩ = some (.int .u32 0) := cell_of_block ho
  have h1 : w.cell? ⟨o, 1, none⟩ = some (.int .i32 0) := cell_of_block ho
  have f1 : w.frozen? ⟨o, 1, none⟩ = false := frozen_of_row _ _ _ _ _ ho
  have hl : Hid ((w.setCell ⟨o, 1, none⟩ (.int .i32 1)).cell? ⟨o, 0, none⟩ = some (.int .u32 0)) := (World.cell?_setCell_other _ ⟨o, 1, none⟩ ⟨o, 0, none⟩ _ (by simp)).trans h0
  have hnot : ∀ (x : Bool) (w : World), (Op.unary .not (.bool x)).run Tryd.prog w = .ok (.bool (!x)) w := fun _ _ => rfl
  have hF' : Hid (Calls Tryd.prog 34 #[cap] (w.setCell ⟨o, 1, none⟩ (.int .i32 1)) fun e w' => e = .returned (.tuple #[]) ∧ w'.heap[o]? = some (.cells #[.int .u32 0, .int .i32 1, .int .u32 0] 93 (0, 0)) ∧ R (w.setCell ⟨o, 1, none⟩ (.int .i32 1)) w') := hF
  clear hF
  go_enter_defers Tryd.func50, Tryd.ntmps50
  go_wp2_with (go_at_call 57; refine (on_lock ⟨o, 1, none⟩ _ (by go_simp) (by go_simp)).mono ?_; rintro e w' ⟨rfl, rfl⟩)
  refine (on_load ⟨o, 0, none⟩ 0 _ hl.out).mono ?_
  rintro e w' ⟨rfl, rfl⟩
  go_wp2_with fail
  refine hF'.out.mono ?_
  rintro e w1 ⟨rfl, hb, hR⟩
  go_wp2_with fail
  refine leaves_cons (f := 59) (args := #[.pointer (some ⟨o, 0, none⟩), .bool true]) (by simp) (by simp [go_sem]) ?_
  refine (on_store ⟨o, 0, none⟩ (.int .u32 0) .returning _ (cell_of_block hb) (frozen_of_row _ _ _ _ _ hb)).mono ?_
  rintro e u' w'' ⟨rfl, rfl, rfl⟩
  have hb2 : (w1.drew.setCell ⟨o, 0, none⟩ (.int .u32 1)).heap[o]? = some (.cells #[.int .u32 1, .int .i32 1, .int .u32 0] 93 (0, 0)) := heap_setCell_same w1.drew o 0 _ _ (.int .u32 1) hb
  refine leaves_cons (f := 58) (args := #[.pointer (some ⟨o, 1, none⟩)]) (by simp [settle]) (by simp [go_sem]) ?_
  refine (on_unlock ⟨o, 1, none⟩ _ _ (cell_of_block hb2) (frozen_of_row _ _ _ _ _ hb2)).mono ?_
  rintro e u' w'' ⟨rfl, rfl, rfl⟩
  simp [Leaves, settle, results, Tryd.results50]
  exact ⟨w1, hR, hb, rfl⟩
def gC : Option Rw → Int | none => 0 | some r => r.cls
def gRa : Option Rw → Bool | none => false | some r => pA r.rd
def gRb : Option Rw → Bool | none => false | some r => pB r.rd
def gRi : Option Rw → Int | none => 0 | some r => pI r.rd
def gWa : Option Rw → Bool | none => false | some r => pA r.wr
def gWb : Option Rw → Bool | none => false | some r => pB r.wr
def gWi : Option Rw → Int | none => 0 | some r => pI r.wr
def gT : Option Rw → Bool | none => false | some r => mk 116 r.m
def gF : Option Rw → Bool | none => false | some r => mk 102 r.m
def gS : Option Rw → Bool | none => false | some r => mk 115 r.m
abbrev gA (o : Option Rw) : Array Value := #[.int .i64 (gC o), .bool (gRa o), .bool (gRb o), .int .u8 (gRi o), .bool (gWa o), .bool (gWb o), .int .u8 (gWi o), .bool (gT o), .bool (gF o), .bool (gS o)]
theorem gV_eq (o : Option Rw) : gV o = gA o := by cases o <;> rfl
theorem gA_one (o : Option Rw) : (gA o).all (·.oneCell') = true := by simp [gA, Value.oneCell']
abbrev askV (o kb : Nat) : Value := .func (.func 32) #[] #[.pointer (some ⟨o, 0, none⟩), .pointer (some ⟨kb, 0, none⟩)]
def Undone (w : World) (o kb : Nat) : Prop := w.heap[o]? = some (onceO 0) ∧ w.heap[kb]? = some (.cells #[.map none] 94 (0, 0))
def Done (w : World) (o kb : Nat) : Prop := w.heap[o]? = some (onceO 1) ∧ ∃ b n, w.heap[kb]? = some (.cells #[.map (some b)] 94 (0, 0)) ∧ MapF w b n tabF
def Asked (w : World) (o kb : Nat) : Prop := o ≠ kb ∧ (Undone w o kb ∨ Done w o kb)
theorem Undone.kep {w w' : World} {o kb : Nat} (h : Undone w o kb) (k : Kep w w') : Undone w' o kb := ⟨k.block h.1, k.block h.2⟩
theorem Done.kep {w w' : World} {o kb : Nat} (h : Done w o kb) (k : Kep w w') : Done w' o kb := by
  obtain ⟨h1, b, n, h2, h3⟩ := h
  exact ⟨k.block h1, b, n, k.block h2, h3.kept k⟩
theorem Asked.kep {w w' : World} {o kb : Nat} (h : Asked w o kb) (k : Kep w w') : Asked w' o kb := ⟨h.1, h.2.elim (fun x => .inl (x.kep k)) (fun x => .inr (x.kep k))⟩
theorem clo_any (kb : Nat) (w : World) (hk : w.heap[kb]? = some (.cells #[.map none] 94 (0, 0))) :
    Calls Tryd.prog 34 #[.pointer (some ⟨kb, 0, none⟩)] w fun e w' => e = .returned (.tuple #[]) ∧ ∃ w1 n, MapF w1 w.heap.size n tabF ∧ Kep w w1 ∧ w' = w1.setCell ⟨kb, 0, none⟩ (.map (some w.heap.size)) := by
  have hk' : Hid (w.heap[kb]? = some (.cells #[.map none] 94 (0, 0))) := hk
  clear hk
  go_enter Tryd.func34, Tryd.ntmps34
  go_wp2_with fail
  refine (by_any _).mono ?_
  rintro e w1 ⟨rfl, ⟨n, hM⟩, hK⟩
  have c0 : w1.cell? ⟨kb, 0, none⟩ = some (.map none) := cell_of_block (hK.block hk'.out)
  have f0 : w1.frozen? ⟨kb, 0, none⟩ = false := frozen_of_row _ _ _ _ _ (hK.block hk'.out)
  have hM' : Hid (MapF w1 w.heap.size n tabF) := hM
  have hK' : Hid (Kep w w1) := hK
  clear hM hK
  go_wp2_with fail
  go_end0
  exact ⟨rfl, w1, n, hM'.out, hK'.out, rfl⟩
theorem map_ne {w : World} {b n c : Nat} {f : Int → Option Rw} {cs : Array Value} {t : TypeId} {fr : Nat × Nat} (h : MapF w b n f) (hc : w.heap[c]? = some (.cells cs t fr)) : b ≠ c := by
  rintro rfl
  obtain ⟨D, ⟨es, cl, hb, _⟩, _⟩ := h
  rw [hb] at hc
  cases hc
set_option maxRecDepth 100000 in
theorem slow_any (o kb : Nat) (w : World) (hne : o ≠ kb) (h : Undone w o kb) :
    Calls Tryd.prog 50 #[.pointer (some ⟨o, 0, none⟩), .func (.func 34) #[] #[.pointer (some ⟨kb, 0, none⟩)]] w fun e w' => e = .returned (.tuple #[]) ∧ Done w' o kb ∧ Stp o kb w w' := by
  have hob := block_ge h.1
  have hkb := block_ge h.2
  have e0 : (w.setCell ⟨o, 1, none⟩ (.int .i32 1)).heap[o]? = some (.cells #[.int .u32 0, .int .i32 1, .int .u32 0] 93 (0, 0)) := heap_setCell_same w o 1 _ _ (.int .i32 1) h.1
  have e1 : (w.setCell ⟨o, 1, none⟩ (.int .i32 1)).heap[kb]? = some (.cells #[.map none] 94 (0, 0)) := (heap_setCell_other _ _ _ _ (Ne.symm hne)).trans h.2
  refine (on_slow o (.pointer (some ⟨kb, 0, none⟩)) (fun a b => ∃ w1 n, MapF w1 a.heap.size n tabF ∧ Kep a w1 ∧ b = w1.setCell ⟨kb, 0, none⟩ (.map (some a.heap.size))) w h.1
    ((clo_any kb _ e1).mono ?_)).mono ?_
  · rintro e w' ⟨he, w1, n, hM, hK, rfl⟩
    exact ⟨he, (heap_setCell_other _ _ _ _ hne).trans (hK.block e0), w1, n, hM, hK, rfl⟩
  · rintro e w' ⟨he, w2, ⟨w1, n, hM, hK, rfl⟩, ho, rfl⟩
    have hk1 : w1.heap[kb]? = some (.cells #[.map none] 94 (0, 0)) := hK.block e1
    have hb1 := map_ne hM hk1
    have hb2 := map_ne hM (hK.block e0)
    have hs : (w.setCell ⟨o, 1, none⟩ (.int .i32 1)).heap.size = w.heap.size := by simp
    have q1 := heap_setCell_same _ o 0 _ _ (.int .u32 1) (show ((w1.setCell ⟨kb, 0, none⟩ (.map (some (w.setCell ⟨o, 1, none⟩ (.int .i32 1)).heap.size))).drew).heap[o]? = _ from ho)
    have q2 := heap_setCell_same _ o 1 _ _ (.int .i32 0) q1
    refine ⟨he, ⟨q2, w.heap.size, n, ?_, ?_⟩, ?_⟩
    · rw [heap_setCell_other _ _ _ _ (Ne.symm hne), heap_setCell_other _ _ _ _ (Ne.symm hne), heap_drew, hs]
      exact heap_setCell_same w1 kb 0 _ _ _ hk1
    · rw [hs] at hM hb1 hb2 ⊢
      refine hM.block ?_
      rw [heap_setCell_other _ _ _ _ hb2, heap_setCell_other _ _ _ _ hb2, heap_drew, heap_setCell_other _ _ _ _ hb1]
    · refine Stp.setCell (p := ⟨o, 1, none⟩) ?_ (.inl rfl) _
      refine Stp.setCell (p := ⟨o, 0, none⟩) ?_ (.inl rfl) _
      refine Stp.drew ?_
      refine Stp.setCell (p := ⟨kb, 0, none⟩) ?_ (.inr rfl) _
      exact Stp.trans (Stp.setCell (p := ⟨o, 1, none⟩) (Stp.refl w) (.inl rfl) _) (Stp.of_kep hK)
set_option maxRecDepth 100000 in
theorem kdo_any (o kb : Nat) (w : World) (h : Asked w o kb) :
    Calls Tryd.prog 33 #[.pointer (some ⟨o, 0, none⟩), .func (.func 34) #[] #[.pointer (some ⟨kb, 0, none⟩)]] w fun e w' => e = .returned (.tuple #[]) ∧ Done w' o kb ∧ Stp o kb w w' := by
  have hnot : ∀ (x : Bool) (w : World), (Op.unary .not (.bool x)).run Tryd.prog w = .ok (.bool (!x)) w := fun _ _ => rfl
  obtain ⟨hne, hu | hd⟩ := h
  · have hS : Hid (Calls Tryd.prog 50 #[.pointer (some ⟨o, 0, none⟩), .func (.func 34) #[] #[.pointer (some ⟨kb, 0, none⟩)]] w fun e w' => e = .returned (.tuple #[]) ∧ Done w' o kb ∧ Stp o kb w w') := slow_any o kb w hne hu
    have hL : Hid (w.cell? ⟨o, 0, none⟩ = some (.int .u32 0)) := cell_of_block hu.1
    clear hu
    go_enter Tryd.func33, Tryd.ntmps33
    go_wp2_with fail
    refine (on_load ⟨o, 0, none⟩ 0 _ hL.out).mono ?_
    rintro e w' ⟨rfl, rfl⟩
    go_wp2_with fail
    refine hS.out.mono ?_
    rintro e w' ⟨rfl, hD, hs⟩
    have hD' : Hid (_ ∧ _) := ⟨hD, hs⟩
    clear hD hs
    go_wp2_with fail
    go_end0
    exact ⟨rfl, hD'.out⟩
  · have hL : Hid (w.cell? ⟨o, 0, none⟩ = some (.int .u32 1)) := cell_of_block hd.1
    have hd' : Hid (Done w o kb) := hd
    clear hd
    go_enter Tryd.func33, Tryd.ntmps33
    go_wp2_with fail
    refine (on_load ⟨o, 0, none⟩ 1 _ hL.out).mono ?_
    rintro e w' ⟨rfl, rfl⟩
    go_wp2_with fail
    go_end0
    exact ⟨rfl, hd'.out, Stp.refl _⟩
theorem sizeGA (o : Option Rw) : (Tryd.prog.info? 98).map (·.size) = some (gA o).size := sizeFact
set_option maxRecDepth 100000 in
set_option maxHeartbeats 2000000 in
theorem kask_any (op : Int) (h0 : 0 ≤ op) (h1 : op < 256) (o kb : Nat) (w : World) (h : Asked w o kb) :
    Calls Tryd.prog 32 #[.int .u8 op, .pointer (some ⟨o, 0, none⟩), .pointer (some ⟨kb, 0, none⟩)] w fun e w' => e = .returned (.agg (gA (tabF op))) ∧ Asked w' o kb ∧ Stp o kb w w' := by
  have hmf : ∀ (fn : Fn) (first cap : Array Value) (w : World), (Instr.makeFunc fn first cap).run Tryd.prog w = .ok (.func fn first cap) w := fun _ _ _ _ => rfl
  have hA : Hid (∀ x, Asked (w.alloc x) o kb) := fun x => h.kep ((Kep.refl _).alloc _)
  have hne := h.1
  have ho : o < w.heap.size := h.2.elim (fun x => block_ge x.1) (fun x => block_ge x.1)
  have hk : kb < w.heap.size := h.2.elim (fun x => block_ge x.2) (fun x => let ⟨_, _, _, q, _⟩ := x; block_ge q)
  clear h
  go_enter Tryd.func32, Tryd.ntmps32
  go_wp2_with fail
  refine (kdo_any o kb _ (hA.out _)).mono ?_
  rintro e w1 ⟨rfl, hD, hS⟩
  obtain ⟨d1, b, n, d2, d3⟩ := hD
  have c0 : w1.cell? ⟨kb, 0, none⟩ = some (.map (some b)) := cell_of_block d2
  have hl := d3.look op h0 h1
  rw [gV_eq] at hl
  have hz : w1.heap[w.heap.size]? = some (.cells zeroF 98 (0, 0)) := (hS.block w.heap.size (by simp) (by omega) (by omega)).trans (heap_alloc_new _ _)
  have hz' : Hid (w1.heap[w.heap.size]? = some (.cells zeroF 98 (0, 0))) := hz
  have hD' : Hid (Done w1 o kb) := ⟨d1, b, n, d2, d3⟩
  have hS' : Hid (Stp o kb w w1) := Stp.trans (Stp.of_kep ((Kep.refl _).alloc _)) hS
  have d3' : Hid (b ≠ w.heap.size) := map_ne d3 hz
  clear d1 d2 d3 hS hz
  go_wp2_with (refine wpList_store_row rfl 98 _ _ rfl w.heap.size (gA (tabF op)) rfl rfl 98 zeroF hz'.out (sizeGA _) rfl (gA_one _) ?_)
  try simp only [Exit.inBlock, Exit.then]
  refine bodyPost_ret (results_cell_row rfl _ _ w.heap.size 98 (gA (tabF op)) (0, 0) _ rfl (setRow_heap _ _ _ _ _ _ hz'.out) Tryd.underlying98 rfl (sizeGA _)) rfl ⟨rfl, ?_, ?_⟩
  · obtain ⟨d1, b, n, d2, d3⟩ := hD'.out
    have e : ∀ c, c ≠ w.heap.size → (w1.setRow w.heap.size (gA (tabF op))).heap[c]? = w1.heap[c]? := fun c hc => setRow_other w1 _ c _ hc
    refine ⟨hne, .inr ⟨(e _ (by omega)).trans d1, b, n, (e _ (by omega)).trans d2, d3.block (e _ ?_)⟩⟩
    exact map_ne d3 hz'.out
  · have s := hS'.out
    refine ⟨s.os, s.tape, s.output, by simpa using s.size, fun c hc h1 h2 => (setRow_other w1 _ c _ (by omega)).trans (s.block c hc h1 h2)⟩
structure Tb (W w : World) (p o kb : Nat) : Prop where
  tab : w.heap[p]? = some (.cells #[askV o kb] 107 (0, 0))
  asked : Asked w o kb
  po : p ≠ o
  pk : p ≠ kb
  kep : Kep W w
  go : W.heap.size ≤ o
  gk : W.heap.size ≤ kb
theorem Tb.kp {W w w' : World} {p o kb : Nat} (h : Tb W w p o kb) (k : Kep w w') : Tb W w' p o kb := ⟨k.block h.tab, h.asked.kep k, h.po, h.pk, kep_trans h.kep k, h.go, h.gk⟩
theorem Tb.stp {W w w' : World} {p o kb : Nat} (h : Tb W w p o kb) (k : Stp o kb w w') (a : Asked w' o kb) : Tb W w' p o kb :=
  ⟨(k.block p (block_ge h.tab) h.po h.pk).trans h.tab, a, h.po, h.pk, h.kep.stp k h.go h.gk, h.go, h.gk⟩
theorem Asked.lt {w : World} {o kb : Nat} (h : Asked w o kb) : o < w.heap.size ∧ kb < w.heap.size :=
  ⟨h.2.elim (fun x => block_ge x.1) (fun x => block_ge x.1), h.2.elim (fun x => block_ge x.2) (fun x => let ⟨_, _, _, q, _⟩ := x; block_ge q)⟩
theorem knew_any (w : World) : Calls Tryd.prog 15 #[] w fun e w' => e = .returned (.pointer (some ⟨w.heap.size + 2, 0, none⟩)) ∧ Tb w w' (w.heap.size + 2) w.heap.size (w.heap.size + 1) := by
  have hmf : ∀ (fn : Fn) (first cap : Array Value) (w : World), (Instr.makeFunc fn first cap).run Tryd.prog w = .ok (.func fn first cap) w := fun _ _ _ _ => rfl
  go_enter Tryd.func15, Tryd.ntmps15
  go_wp2_with fail
  go_ret
  refine ⟨rfl, ?_, ⟨by omega, .inl ⟨?_, ?_⟩⟩, by omega, by omega, (((Kep.refl _).alloc _).alloc _).alloc _, Nat.le_refl _, by omega⟩
  · exact hp_at _ _ _ (by simp)
  · exact (hp_skip _ _ _ (by simp; omega)).trans ((hp_skip _ _ _ (by simp)).trans (hp_at _ _ _ rfl))
  · exact (hp_skip _ _ _ (by simp)).trans (hp_at _ _ _ (by simp))
theorem new_call (w : World) : Calls Tryd.prog 15 #[] w fun e w' => ∃ p o kb : Nat, e = .returned (.pointer (some ⟨p, 0, none⟩)) ∧ Hid (Tb w w' p o kb) :=
  (knew_any w).mono fun e w' h => ⟨_, _, _, h.1, h.2⟩
theorem ask_not (o kb : Nat) (w : World) : (binOp .eql 105 (askV o kb) .nilFunc).run Tryd.prog w = .ok (.bool false) w := by kernel_rfl
theorem field_c (o : Option Rw) (w : World) : (Instr.field 98 (.agg (gA o)) 0).run Tryd.prog w = .ok (.int .i64 (gC o)) w := by kernel_rfl
set_option maxRecDepth 100000 in
set_option maxHeartbeats 2000000 in
theorem about_any (op : Int) (h0 : 0 ≤ op) (h1 : op < 256) (W w : World) (p o kb : Nat) (h : Tb W w p o kb) :
    Calls Tryd.prog 38 #[.pointer (some ⟨p, 0, none⟩), .int .u8 op] w fun e w' => e = .returned (.agg (gA (tabF op))) ∧ Asked w' o kb ∧ Stp o kb w w' := by
  have hl := h.asked.lt
  have hp := block_ge h.tab
  have c0 : w.cell? ⟨p, 0, none⟩ = some (askV o kb) := cell_of_block h.tab
  have hA : Hid (∀ x, Asked (w.alloc x) o kb) := fun x => h.asked.kep ((Kep.refl _).alloc _)
  have hne := h.asked.1
  have hnn := ask_not o kb
  clear h
  go_enter Tryd.func38, Tryd.ntmps38
  go_wp2_with fail
  refine (kask_any op h0 h1 o kb _ (hA.out _)).mono ?_
  rintro e w1 ⟨rfl, hD, hS⟩
  have hz : Hid (w1.heap[w.heap.size]? = some (.cells zeroF 98 (0, 0))) := (hS.block w.heap.size (by simp) (by omega) (by omega)).trans (heap_alloc_new _ _)
  have hD' : Hid (Asked w1 o kb) := hD
  have hS' : Hid (Stp o kb w w1) := Stp.trans (Stp.of_kep ((Kep.refl _).alloc _)) hS
  clear hS hD
  go_wp2_with (refine wpList_store_row rfl 98 _ _ rfl w.heap.size (gA (tabF op)) rfl rfl 98 zeroF hz.out (sizeGA _) rfl (gA_one _) ?_)
  try simp only [Exit.inBlock, Exit.then]
  refine bodyPost_ret (results_cell_row rfl _ _ w.heap.size 98 (gA (tabF op)) (0, 0) _ rfl (setRow_heap _ _ _ _ _ _ hz.out) Tryd.underlying98 rfl (sizeGA _)) rfl ⟨rfl, ?_, ?_⟩
  · have e : ∀ c, c ≠ w.heap.size → (w1.setRow w.heap.size (gA (tabF op))).heap[c]? = w1.heap[c]? := fun c hc => setRow_other w1 _ c _ hc
    refine ⟨hne, hD'.out.2.elim (fun x => .inl ⟨(e _ (by omega)).trans x.1, (e _ (by omega)).trans x.2⟩) (fun x => ?_)⟩
    obtain ⟨d1, b, n, d2, d3⟩ := x
    exact .inr ⟨(e _ (by omega)).trans d1, b, n, (e _ (by omega)).trans d2, d3.block (e _ (map_ne d3 hz.out))⟩
  · have s := hS'.out
    refine ⟨s.os, s.tape, s.output, by simpa using s.size, fun c hc h1 h2 => (setRow_other w1 _ c _ (by omega)).trans (s.block c hc h1 h2)⟩
def gE (o : Option Rw) : Bool := gC o == 3 || (gC o == 4 || gC o == 5)
theorem ends_of (op : Int) (h0 : 0 ≤ op) (h1 : op < 256) (W w : World) (p o kb : Nat) (h : Tb W w p o kb) (C : Int) (hC : gC (tabF op) = C) (E : Bool) (hE : C = 3 ∧ E = true ∨ C = 4 ∧ E = true ∨ C = 5 ∧ E = true ∨ C = 0 ∧ E = false ∨ C = 1 ∧ E = false ∨ C = 2 ∧ E = false) :
    Calls Tryd.prog 17 #[.pointer (some ⟨p, 0, none⟩), .int .u8 op] w fun e w' => e = .returned (.bool E) ∧ Tb W w' p o kb ∧ Stp o kb w w' := by
  have hc : Hid (Tb W w p o kb) := h
  have hfd := field_c (tabF op)
  rw [hC] at hfd
  clear h hC
  rcases hE with ⟨rfl, rfl⟩ | ⟨rfl, rfl⟩ | ⟨rfl, rfl⟩ | ⟨rfl, rfl⟩ | ⟨rfl, rfl⟩ | ⟨rfl, rfl⟩
  all_goals
    go_enter Tryd.func17, Tryd.ntmps17
    go_wp2_with fail
    refine (about_any op h0 h1 W _ p o kb hc.out).mono ?_
    rintro e w1 ⟨rfl, hD, hS⟩
    have hD' : Hid (Tb W w1 p o kb ∧ Stp o kb w w1) := ⟨hc.out.stp hS hD, hS⟩
    clear hD hS
    go_wp2_with fail
    go_ret
    exact ⟨rfl, hD'.out⟩
theorem byte_all {p : Int → Bool} (h : (List.range 256).all (fun n => p n) = true) (op : Int) (h0 : 0 ≤ op) (h1 : op < 256) : p op = true := by
  obtain ⟨n, rfl⟩ := Int.eq_ofNat_of_zero_le h0
  exact List.all_eq_true.1 h n (by simp; omega)
theorem gC_six (op : Int) (h0 : 0 ≤ op) (h1 : op < 256) : gC (tabF op) = 3 ∨ gC (tabF op) = 4 ∨ gC (tabF op) = 5 ∨ gC (tabF op) = 0 ∨ gC (tabF op) = 1 ∨ gC (tabF op) = 2 := by
  have := byte_all (p := fun op => decide (gC (tabF op) = 3 ∨ gC (tabF op) = 4 ∨ gC (tabF op) = 5 ∨ gC (tabF op) = 0 ∨ gC (tabF op) = 1 ∨ gC (tabF op) = 2)) (by decide +kernel) op h0 h1
  simpa using this
theorem ends_any (op : Int) (h0 : 0 ≤ op) (h1 : op < 256) (W w : World) (p o kb : Nat) (h : Tb W w p o kb) :
    Calls Tryd.prog 17 #[.pointer (some ⟨p, 0, none⟩), .int .u8 op] w fun e w' => e = .returned (.bool (gE (tabF op))) ∧ Tb W w' p o kb ∧ Stp o kb w w' := by
  refine ends_of op h0 h1 W w p o kb h _ rfl _ ?_
  rcases gC_six op h0 h1 with q | q | q | q | q | q <;> rw [q] <;> simp [gE, q]
abbrev In4 := Int × Int × Int × Int
def inV (i : In4) : List Value := [.int .u8 i.1, .int .u8 i.2.1, .int .u8 i.2.2.1, .int .i32 i.2.2.2]
def inss (C : List In4) : List Value := C.flatMap inV
def In4.Ok (i : In4) : Prop := (0 ≤ i.1 ∧ i.1 < 256) ∧ (0 ≤ i.2.1 ∧ i.2.1 < 256) ∧ (0 ≤ i.2.2.1 ∧ i.2.2.1 < 256) ∧ (-2147483648 ≤ i.2.2.2 ∧ i.2.2.2 ≤ 2147483647)
theorem inss_at (C : List In4) (k : Nat) (i : In4) (h : C[k]? = some i) (j : Nat) (hj : j < 4) : (inss C)[k * 4 + j]? = (inV i)[j]? := by
  induction C generalizing k with
  | nil => simp at h
  | cons a r ih =>
    have hc : inss (a :: r) = inV a ++ inss r := by simp [inss]
    have hl : (inV a).length = 4 := rfl
    rw [hc]
    cases k with
    | zero =>
      obtain rfl : a = i := by simpa using h
      rw [List.getElem?_append_left (by omega)]
      congr 1; omega
    | succ k =>
      rw [List.getElem?_append_right (by omega), hl, ← ih k (by simpa using h)]
      congr 1; omega
structure Put (l : List Nat) (w w' : World) : Prop where
  os : w'.os = w.os
  tape : w'.tape = w.tape
  output : w'.output = w.output
  size : w.heap.size ≤ w'.heap.size
  block : ∀ k, k < w.heap.size → k ∉ l → w'.heap[k]? = w.heap[k]?
theorem Put.refl {l : List Nat} (w : World) : Put l w w := ⟨rfl, rfl, rfl, Nat.le_refl _, fun _ _ _ => rfl⟩
theorem Put.trans {l : List Nat} {a b c : World} (h : Put l a b) (k : Put l b c) : Put l a c :=
  ⟨k.os.trans h.os, k.tape.trans h.tape, k.output.trans h.output, Nat.le_trans h.size k.size, fun i hi h1 => (k.block i (Nat.lt_of_lt_of_le hi h.size) h1).trans (h.block i hi h1)⟩
theorem Put.mono {l m : List Nat} {a b : World} (h : Put l a b) (hl : ∀ k ∈ l, k ∈ m) : Put m a b := ⟨h.os, h.tape, h.output, h.size, fun k hk h1 => h.block k hk fun h2 => h1 (hl k h2)⟩
theorem Put.of_kep {l : List Nat} {a b : World} (h : Kep a b) : Put l a b :=
  have h' : Below a.heap.size a b := h
  ⟨h'.os, h'.tape, h'.output, h'.size, fun k hk _ => h'.block k hk⟩
theorem Kep.put {l : List Nat} {W w w' : World} (h : Kep W w) (k : Put l w w') (hl : ∀ b ∈ l, W.heap.size ≤ b) : Kep W w' :=
  have h' : Below W.heap.size W w := h
  ⟨k.os.trans h'.os, k.tape.trans h'.tape, k.output.trans h'.output, Nat.le_trans h'.size k.size, fun i hi => (k.block i (Nat.lt_of_lt_of_le hi h'.size) (fun hm => by have := hl i hm; omega)).trans (h'.block i hi)⟩
theorem Put.setCell {l : List Nat} {a b : World} (h : Put l a b) {p : Addr} (hp : p.block ∈ l) (v : Value) : Put l a (b.setCell p v) := by
  refine ⟨h.os, h.tape, h.output, by simpa using h.size, fun k hk h1 => ?_⟩
  rw [heap_setCell_other _ _ _ _ (by intro e; exact h1 (e ▸ hp))]
  exact h.block k hk h1
theorem Put.setRow {l : List Nat} {a b : World} (h : Put l a b) {g : Nat} (hp : g ∈ l) (cs : Array Value) : Put l a (b.setRow g cs) := by
  refine ⟨h.os, h.tape, h.output, by simpa [World.setRow] using h.size, fun k hk h1 => ?_⟩
  rw [setRow_other _ _ _ _ (by intro e; exact h1 (e ▸ hp))]
  exact h.block k hk h1
theorem Put.keeps {l : List Nat} {a b : World} (h : Put l a b) {k : Nat} {x : Obj} (hx : a.heap[k]? = some x) (hk : k ∉ l) : b.heap[k]? = some x := by
  have hlt : k < a.heap.size := by
    rcases Nat.lt_or_ge k a.heap.size with h | h
    · exact h
    · rw [Array.getElem?_eq_none h] at hx; cases hx
  exact (h.block k hlt hk).trans hx
theorem block_lt {w : World} {b : Nat} {x : Obj} (h : w.heap[b]? = some x) : b < w.heap.size := by
  rcases Nat.lt_or_ge b w.heap.size with h' | h'
  · exact h'
  · rw [Array.getElem?_eq_none h'] at h; cases h
theorem Put.cell {l : List Nat} {a b : World} (h : Put l a b) {k o : Nat} (hk : k < a.heap.size) (hl : k ∉ l) : b.cell? ⟨k, o, none⟩ = a.cell? ⟨k, o, none⟩ := by
  simp only [World.cell?, h.block k hk hl]
theorem heap_setCell_row {w : World} {R k : Nat} {cs : Array Value} {t : TypeId} (h : w.heap[R]? = some (.cells cs t (0, 0))) (v : Value) : (w.setCell ⟨R, k, none⟩ v).heap[R]? = some (.cells (cs.setIfInBounds k v) t (0, 0)) := by
  simp [World.setCell, Array.getElem?_modify, h]
theorem hat (W : World) (o : Obj) (n : Nat) (h : n = W.heap.size) : (W.alloc o).heap[n]? = some o := by subst h; exact heap_alloc_new W o
theorem hsk (W : World) (o : Obj) (n : Nat) (h : n < W.heap.size) : (W.alloc o).heap[n]? = W.heap[n]? := by simp only [World.alloc, Array.getElem?_push_lt h, Array.getElem?_eq_getElem h]
theorem heap_setCells_row {R : Nat} {t : TypeId} : ∀ (vs : List Value) (o : Nat) (w : World) (l : List Value), w.heap[R]? = some (.cells l.toArray t (0, 0)) → o + vs.length ≤ l.length →
    (w.setCells R o vs).heap[R]? = some (.cells (l.take o ++ vs ++ l.drop (o + vs.length)).toArray t (0, 0))
  | [], o, w, l, h, hl => by simpa [World.setCells] using h
  | v :: r, o, w, l, h, hl => by
    simp only [List.length_cons] at hl
    have h1 : (w.setCell ⟨R, o, none⟩ v).heap[R]? = some (.cells (l.set o v).toArray t (0, 0)) := by rw [heap_setCell_row h]; simp
    rw [World.setCells, heap_setCells_row r (o + 1) _ _ h1 (by simp; omega)]
    have e1 : (l.set o v).take (o + 1) = l.take o ++ [v] := by
      rw [List.take_add_one, List.take_set_of_le (by omega)]
      simp [show o < l.length by omega]
    have e2 : (l.set o v).drop (o + 1 + r.length) = l.drop (o + 1 + r.length) := by rw [List.drop_set_of_lt (by omega)]
    rw [e1, e2]
    have e3 : o + (v :: r).length = o + 1 + r.length := by simp; omega
    rw [e3]
    simp
theorem Put.setCells {l : List Nat} {g : Nat} {a : World} (hp : g ∈ l) : ∀ (vs : List Value) (o : Nat) (b : World), Put l a b → Put l a (b.setCells g o vs)
  | [], _, _, h => h
  | v :: r, o, b, h => Put.setCells hp r (o + 1) _ (h.setCell hp v)
theorem results1 {P : Program} {fn : Func} {p : Tmp} {ty : TypeId} (h : fn.results = #[.cell p ty]) (tmps : Array Value) (w : World) (g : Nat) (t : TypeId) (cs : Array Value) (fr : Nat × Nat) (d : TypeDesc)
    (hp : tmps.getD p undef = .pointer (some ⟨g, 0, none⟩)) (hg : w.heap[g]? = some (.cells cs t fr))
    (hu : P.underlying ty = some d) (hd : (match d with | .struct _ | .array _ _ => true | _ => false) = true) (hi : (P.info? ty).map (·.size) = some cs.size) :
    (results fn tmps).run P w = .ok (.agg cs) w := by
  have hp' : tmps[p]?.getD undef = .pointer (some ⟨g, 0, none⟩) := by simpa using hp
  simp [results, h, hp', asAddr, run_loadVar_row w g t ty cs fr d hg hu hd hi]
theorem resultsC1 {P : Program} {fn : Func} {p u : Tmp} {ty : TypeId} (h : fn.results = #[.cell p ty, .tmp u]) (tmps : Array Value) (w : World) (g : Nat) (t : TypeId) (cs : Array Value) (fr : Nat × Nat) (d : TypeDesc)
    (hp : tmps.getD p undef = .pointer (some ⟨g, 0, none⟩)) (hg : w.heap[g]? = some (.cells cs t fr))
    (hu : P.underlying ty = some d) (hd : (match d with | .struct _ | .array _ _ => true | _ => false) = true) (hi : (P.info? ty).map (·.size) = some cs.size) :
    (results fn tmps).run P w = .ok (.tuple #[.agg cs, tmps.getD u undef]) w := by
  have hp' : tmps[p]?.getD undef = .pointer (some ⟨g, 0, none⟩) := by simpa using hp
  simp [results, h, hp', asAddr, run_loadVar_row w g t ty cs fr d hg hu hd hi]
theorem u32_of {a : Int} (h : (Lit.int .u32 a).wf = true) : 0 ≤ a ∧ a < 4294967296 := by
  simp [Lit.wf, IntKind.min, IntKind.max, IntKind.signed, IntKind.bits] at h; omega
theorem i64_of {a : Int} (h : (Lit.int .i64 a).wf = true) : -9223372036854775808 ≤ a ∧ a ≤ 9223372036854775807 := by
  simp [Lit.wf, IntKind.min, IntKind.max, IntKind.signed, IntKind.bits] at h; omega
end Go.Proofs.YtpalbpjmjbcelaaDoor
