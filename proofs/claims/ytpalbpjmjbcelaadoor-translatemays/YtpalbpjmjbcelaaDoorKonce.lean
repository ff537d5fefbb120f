/- What sync.Once's Do does to a Once that one goroutine alone has: the first time the function is called, and marked as done; later it is not called. -/
import Derived.Test.YtpalbpjmjbcelaaDoorLaid
import Derived.Defers
import Derived.Laws.Pointers
import Derived.Laws.LoneSync
import Derived.RegionTactic
import Derived.RegionCalls
import Derived.ChangeAlike
import Derived.Laws.Rows
namespace Go.Proofs.YtpalbpjmjbcelaaDoor
open Go.RowKit
set_option linter.unusedVariables false

theorem on_disable (w : World) : (callFunc 64 #[]).run Tryd.prog w = .ok (.value (.tuple #[])) w := run_call_mark0 Tryd.func64 (by kernel_rfl) (by kernel_rfl) (by kernel_rfl) .disable (by kernel_rfl) w
theorem on_enable (w : World) : (callFunc 66 #[]).run Tryd.prog w = .ok (.value (.tuple #[])) w := run_call_mark0 Tryd.func66 (by kernel_rfl) (by kernel_rfl) (by kernel_rfl) .enable (by kernel_rfl) w
theorem on_acquire (a : Addr) (w : World) : (callFunc 67 #[.pointer (some a)]).run Tryd.prog w = .ok (.value (.tuple #[])) w := run_call_marked Tryd.func67 (by kernel_rfl) (by kernel_rfl) (by kernel_rfl) .acquire (by kernel_rfl) a w
theorem on_merge (a : Addr) (w : World) : (callFunc 69 #[.pointer (some a)]).run Tryd.prog w = .ok (.value (.tuple #[])) w := run_call_marked Tryd.func69 (by kernel_rfl) (by kernel_rfl) (by kernel_rfl) .releaseMerge (by kernel_rfl) a w

theorem on_store (a : Addr) (x : Value) (u : FrameMode) (w : World) (hc : w.cell? a = some x) (hz : w.frozen? a = false) :
    CallsD Tryd.prog 59 #[.pointer (some a), .bool true] u w fun e u' w' => u' = u ∧ (e = .returned (.tuple #[]) ∧ w' = w.drew.setCell a (.int .u32 1)) := by
  have hc' : w.drew.cell? a = some x := by go_simp
  have hz' : w.drew.frozen? a = false := by go_simp
  have hst := run_call_store (P := Tryd.prog) Tryd.func62 (by kernel_rfl) (by kernel_rfl) (by kernel_rfl) (by kernel_rfl) (k := .u32) (y := 1) hc' hz'
  go_enter_d Tryd.func59, Tryd.ntmps59
  go_wp2
  go_region_calls
  all_goals (go_end0; exact ⟨rfl, rfl⟩)

set_option maxRecDepth 100000 in
set_option maxHeartbeats 1600000 in
theorem on_unlock (a : Addr) (u : FrameMode) (w : World) (hc : w.cell? a = some (.int .i32 1)) (hz : w.frozen? a = false) :
    CallsD Tryd.prog 58 #[.pointer (some a)] u w fun e u' w' => u' = u ∧ (e = .returned (.tuple #[]) ∧ w' = w.setCell a (.int .i32 0)) := by
  have hd := on_disable
  have he := on_enable
  have hr := on_merge
  have hadd := run_call_add (P := Tryd.prog) Tryd.func70 (by kernel_rfl) (by kernel_rfl) (by kernel_rfl) .i32 (by kernel_rfl) (y := -1) (s := 0) hc hz (by simp [go_sem]; rfl)
  have hcv := run_convert_to_unsafe (P := Tryd.prog) (src := 140) (dst := 144) Tryd.underlying140 Tryd.underlying144 (by kernel_rfl) hc
  go_enter_d Tryd.func58, Tryd.ntmps58
  go_wp2
  go_end0
  go_wp2
  all_goals (go_end0; exact ⟨rfl, rfl⟩)

set_option maxRecDepth 100000 in
set_option maxHeartbeats 1600000 in
theorem on_lock (a : Addr) (w : World) (hc : w.cell? a = some (.int .i32 0)) (hz : w.frozen? a = false) :
    Calls Tryd.prog 57 #[.pointer (some a)] w fun e w' => e = .returned (.tuple #[]) ∧ w' = w.setCell a (.int .i32 1) := by
  have hd := on_disable
  have he := on_enable
  have ha := on_acquire
  have hcas := run_call_cas_hit (P := Tryd.prog) Tryd.func65 (by kernel_rfl) (by kernel_rfl) (by kernel_rfl) .i32 (by kernel_rfl) (y := 1) hc hz
  have hc' : (w.setCell a (.int .i32 1)).cell? a = some (.int .i32 1) := World.cell?_setCell_same w a _ hc
  have hcv := run_convert_to_unsafe (P := Tryd.prog) (src := 140) (dst := 144) Tryd.underlying140 Tryd.underlying144 (by kernel_rfl) hc'
  go_enter Tryd.func57, Tryd.ntmps57
  go_wp2
  first | go_end0 | (simp only [Exit.inBlock, Exit.then]; refine bodyPost_ret (results_none rfl _ _ _) rfl ?_) | refine bodyPost_ret (results_none rfl _ _ _) rfl ?_
  go_wp2
  all_goals (go_end0; exact ⟨rfl, rfl⟩)

/-- Blocks o and kb may be otherwise; all else that was there is as it was. -/
structure Stp (o kb : Nat) (w w' : World) : Prop where
  os : w'.os = w.os
  tape : w'.tape = w.tape
  output : w'.output = w.output
  size : w.heap.size ≤ w'.heap.size
  block : ∀ k, k < w.heap.size → k ≠ o → k ≠ kb → w'.heap[k]? = w.heap[k]?
theorem Stp.refl {o kb : Nat} (w : World) : Stp o kb w w := ⟨rfl, rfl, rfl, Nat.le_refl _, fun _ _ _ _ => rfl⟩
theorem Stp.trans {o kb : Nat} {a b c : World} (h : Stp o kb a b) (k : Stp o kb b c) : Stp o kb a c :=
  ⟨k.os.trans h.os, k.tape.trans h.tape, k.output.trans h.output, Nat.le_trans h.size k.size, fun i hi h1 h2 => (k.block i (Nat.lt_of_lt_of_le hi h.size) h1 h2).trans (h.block i hi h1 h2)⟩
theorem Stp.of_kep {o kb : Nat} {a b : World} (h : Kep a b) : Stp o kb a b :=
  have h' : Below a.heap.size a b := h
  ⟨h'.os, h'.tape, h'.output, h'.size, fun k hk _ _ => h'.block k hk⟩
theorem Stp.setCell {o kb : Nat} {a b : World} (h : Stp o kb a b) {p : Addr} (hp : p.block = o ∨ p.block = kb) (v : Value) : Stp o kb a (b.setCell p v) := by
  refine ⟨h.os, h.tape, h.output, by simpa using h.size, fun k hk h1 h2 => ?_⟩
  rw [heap_setCell_other _ _ _ _ (by rcases hp with h | h <;> rw [h] <;> assumption)]
  exact h.block k hk h1 h2
theorem Stp.drew {o kb : Nat} {a b : World} (h : Stp o kb a b) : Stp o kb a b.drew := ⟨h.os, h.tape, h.output, h.size, h.block⟩
theorem Kep.stp {o kb : Nat} {W w w' : World} (h : Kep W w) (k : Stp o kb w w') (ho : W.heap.size ≤ o) (hb : W.heap.size ≤ kb) : Kep W w' :=
  have h' : Below W.heap.size W w := h
  ⟨k.os.trans h'.os, k.tape.trans h'.tape, k.output.trans h'.output, Nat.le_trans h'.size k.size, fun i hi => (k.block i (Nat.lt_of_lt_of_le hi h'.size) (by omega) (by omega)).trans (h'.block i hi)⟩

/-- A Once whose function has been done (d = 1), or not (d = 0); the lock is free. -/
abbrev onceO (d : Int) : Obj := .cells #[.int .u32 d, .int .i32 0, .int .u32 0] 93

theorem on_load (a : Addr) (d : Int) (w : World) (h0 : w.cell? a = some (.int .u32 d)) :
    Calls Tryd.prog 49 #[.pointer (some a)] w fun e w' => e = .returned (.bool (d != 0)) ∧ w' = w := by
  have hl := run_call_load (P := Tryd.prog) Tryd.func56 (by kernel_rfl) (by kernel_rfl) (by kernel_rfl) .u32 (by kernel_rfl) h0
  go_enter Tryd.func49, Tryd.ntmps49
  go_wp2
  go_ret
  exact ⟨rfl, rfl⟩

set_option maxRecDepth 100000 in
set_option maxHeartbeats 1600000 in
/-- doSlow, not yet done and the lock free: the function F is called in a world that is as it was but for the lock. -/
theorem on_slow (o : Nat) (cap : Value) (R : World → World → Prop) (w : World) (ho : w.heap[o]? = some (onceO 0))
    (hF : Calls Tryd.prog 34 #[cap] (w.setCell ⟨o, 1, none⟩ (.int .i32 1)) fun e w' => e = .returned (.tuple #[]) ∧ w'.heap[o]? = some (.cells #[.int .u32 0, .int .i32 1, .int .u32 0] 93 (0, 0)) ∧ R (w.setCell ⟨o, 1, none⟩ (.int .i32 1)) w') :
    Calls Tryd.prog 50 #[.pointer (some ⟨o, 0, none⟩), .func (.func 34) #[] #[cap]] w fun e w' => e = .returned (.tuple #[]) ∧
      ∃ w1, R (w.setCell ⟨o, 1, none⟩ (.int .i32 1)) w1 ∧ w1.heap[o]? = some (.cells #[.int .u32 0, .int .i32 1, .int .u32 0] 93 (0, 0)) ∧ w' = (w1.drew.setCell ⟨o, 0, none⟩ (.int .u32 1)).setCell ⟨o, 1, none⟩ (.int .i32 0) := by
  have h0 : w.cell? ⟨o, 0, none⟩ = some (.int .u32 0) := cell_of_block ho
  have h1 : w.cell? ⟨o, 1, none⟩ = some (.int .i32 0) := cell_of_block ho
  have f1 : w.frozen? ⟨o, 1, none⟩ = false := frozen_of_row _ _ _ _ _ ho
  have hl : Hid ((w.setCell ⟨o, 1, none⟩ (.int .i32 1)).cell? ⟨o, 0, none⟩ = some (.int .u32 0)) := (World.cell?_setCell_other _ ⟨o, 1, none⟩ ⟨o, 0, none⟩ _ (by simp)).trans h0
  have hnot : ∀ (x : Bool) (w : World), (Op.unary .not (.bool x)).run Tryd.prog w = .ok (.bool (!x)) w := fun _ _ => rfl
  have hF' : Hid (Calls Tryd.prog 34 #[cap] (w.setCell ⟨o, 1, none⟩ (.int .i32 1)) fun e w' => e = .returned (.tuple #[]) ∧ w'.heap[o]? = some (.cells #[.int .u32 0, .int .i32 1, .int .u32 0] 93 (0, 0)) ∧ R (w.setCell ⟨o, 1, none⟩ (.int .i32 1)) w') := hF
  clear hF
  go_enter_defers Tryd.func50, Tryd.ntmps50
  go_wp2_with (go_at_call 57; refine (on_lock ⟨o, 1, none⟩ _ (by go_simp) (by go_simp)).mono ?_; rintro e w' ⟨rfl, rfl⟩)
  refine (on_load ⟨o, 0, none⟩ 0 _ hl.out).mono ?_
  rintro e w' ⟨rfl, rfl⟩
  go_wp2_with fail
  refine hF'.out.mono ?_
  rintro e w1 ⟨rfl, hb, hR⟩
  go_wp2_with fail
  refine leaves_cons (f := 59) (args := #[.pointer (some ⟨o, 0, none⟩), .bool true]) (by simp) (by simp [go_sem]) ?_
  refine (on_store ⟨o, 0, none⟩ (.int .u32 0) .returning _ (cell_of_block hb) (frozen_of_row _ _ _ _ _ hb)).mono ?_
  rintro e u' w'' ⟨rfl, rfl, rfl⟩
  have hb2 : (w1.drew.setCell ⟨o, 0, none⟩ (.int .u32 1)).heap[o]? = some (.cells #[.int .u32 1, .int .i32 1, .int .u32 0] 93 (0, 0)) := heap_setCell_same w1.drew o 0 _ _ (.int .u32 1) hb
  refine leaves_cons (f := 58) (args := #[.pointer (some ⟨o, 1, none⟩)]) (by simp [settle]) (by simp [go_sem]) ?_
  refine (on_unlock ⟨o, 1, none⟩ _ _ (cell_of_block hb2) (frozen_of_row _ _ _ _ _ hb2)).mono ?_
  rintro e u' w'' ⟨rfl, rfl, rfl⟩
  simp [Leaves, settle, results, Tryd.results50]
  exact ⟨w1, hR, hb, rfl⟩
end Go.Proofs.YtpalbpjmjbcelaaDoor
