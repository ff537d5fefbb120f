/- A method that is called, and may give up. -/
import Derived.Test.YtaknjceneplonaaDoorNnine
import Derived.Defers
import Derived.Recover
namespace Go.Proofs.YtaknjceneplonaaDoor
open Go.RowKit
set_option linter.unusedVariables false
set_option linter.unusedSimpArgs false

/-- A method value. -/
abbrev mV (k p : Nat) : Value := .func (.func k) #[.pointer (some ⟨p, 0, none⟩)] #[]

theorem caught (q : Addr) (x : Bool) (w : World) (hc : w.cell? q = some (.bool x)) (hz : w.frozen? q = false) :
    CallsD Tryd.prog 30 #[.pointer (some q)] (.panicking [{ v := .iface 65 (.agg #[]), recovered := false }]) w fun e u' w' =>
      e = .returned (.tuple #[]) ∧ u' = .panicking [{ v := .iface 65 (.agg #[]), recovered := true }] ∧ w' = w.setCell q (.bool false) := by
  refine callsD_of_wpS Tryd.func30 rfl fun c₀ cs hu => ?_
  have hb : ∀ w, (binOp .eql 20 (.iface 65 (.agg #[])) .nilIface).run Tryd.prog w = .ok (.bool false) w := fun _ => by kernel_rfl
  apply wpS_region
  simp [wpOpsS, go_sem, recoverD, hu, Tryd.ntmps30, Exit.thenS, hb, hc, hz, bodyPostS, results, Tryd.results30]

theorem idle (q : Addr) (x : Bool) (w : World) (hc : w.cell? q = some (.bool x)) (hz : w.frozen? q = false) :
    CallsD Tryd.prog 30 #[.pointer (some q)] .returning w fun e u' w' =>
      e = .returned (.tuple #[]) ∧ u' = .returning ∧ w' = w.setCell q (.bool true) := by
  refine callsD_of_wpS Tryd.func30 rfl fun c₀ cs hu => ?_
  have hb : ∀ w, (binOp .eql 20 .nilIface .nilIface).run Tryd.prog w = .ok (.bool true) w := fun _ => by kernel_rfl
  apply wpS_region
  simp [wpOpsS, go_sem, recoverD, hu, Tryd.ntmps30, Exit.thenS, hb, hc, hz, bodyPostS, results, Tryd.results30]
  rw [← hu]

set_option maxHeartbeats 800000 in
set_option maxRecDepth 100000 in
theorem done_yes (k p : Nat) (hk : ∀ (args : Array Value) (w : World), (callFunc k args).run Tryd.prog w = .ok (.enter k args) w) (Q : World → World → Prop) (w : World)
    (hF : Calls Tryd.prog k #[.pointer (some ⟨p, 0, none⟩)] (w.alloc (.cells #[.bool false] 4)) fun x w' => x = .returned (.tuple #[]) ∧ w'.heap[w.heap.size]? = some (.cells #[.bool false] 4 (0, 0)) ∧ Q (w.alloc (.cells #[.bool false] 4)) w') :
    Calls Tryd.prog 17 #[mV k p] w fun x w' => x = .returned (.bool true) ∧ ∃ w1, Q (w.alloc (.cells #[.bool false] 4)) w1 ∧ w' = (w1.setCell ⟨w.heap.size, 0, none⟩ (.bool true)).setCell ⟨w.heap.size, 0, none⟩ (.bool true) := by
  have hF' : Hid (Calls Tryd.prog k #[.pointer (some ⟨p, 0, none⟩)] (w.alloc (.cells #[.bool false] 4)) fun x w' => x = .returned (.tuple #[]) ∧ w'.heap[w.heap.size]? = some (.cells #[.bool false] 4 (0, 0)) ∧ Q (w.alloc (.cells #[.bool false] 4)) w') := hF
  have hmf : ∀ (fn : Fn) (first cap : Array Value) (w : World), (Instr.makeFunc fn first cap).run Tryd.prog w = .ok (.func fn first cap) w := fun _ _ _ _ => rfl
  clear hF
  go_enter_defers Tryd.func17, Tryd.ntmps17
  go_wp2_with fail
  refine hF'.out.mono ?_
  rintro x w1 ⟨rfl, hb, hq⟩
  have hc : w1.cell? ⟨w.heap.size, 0, none⟩ = some (.bool false) := cell_of_block hb
  have hz : w1.frozen? ⟨w.heap.size, 0, none⟩ = false := frozen_of_row _ _ _ _ _ hb
  go_wp2_with fail
  refine leaves_cons (f := 30) (args := #[.pointer (some ⟨w.heap.size, 0, none⟩)]) (by simp) (by simp [go_sem]) ?_
  refine (idle ⟨w.heap.size, 0, none⟩ true _ ?_ ?_).mono ?_
  · simp [go_sem, hc]
  · simp [go_sem, hz]
  have d1 : (w1.setCell ⟨w.heap.size, 0, none⟩ (.bool true)).cell? ⟨w.heap.size, 0, none⟩ = some (.bool true) := by simp [go_sem, hc]
  have d2 : ((w1.setCell ⟨w.heap.size, 0, none⟩ (.bool true)).setCell ⟨w.heap.size, 0, none⟩ (.bool true)).cell? ⟨w.heap.size, 0, none⟩ = some (.bool true) := by simp [go_sem, d1]
  rintro x u' w'' ⟨rfl, rfl, rfl⟩
  simp [Leaves, settle, results, Tryd.results17, go_sem, d2]
  exact ⟨w1, hq, rfl⟩

set_option maxHeartbeats 800000 in
set_option maxRecDepth 100000 in
theorem done_no (k p : Nat) (hk : ∀ (args : Array Value) (w : World), (callFunc k args).run Tryd.prog w = .ok (.enter k args) w) (w : World)
    (hF : Calls Tryd.prog k #[.pointer (some ⟨p, 0, none⟩)] (w.alloc (.cells #[.bool false] 4)) fun x w' => x = gaveUp ∧ w' = w.alloc (.cells #[.bool false] 4)) :
    Calls Tryd.prog 17 #[mV k p] w fun x w' => x = .returned (.bool false) ∧ Kep w w' := by
  have hF' : Hid (Calls Tryd.prog k #[.pointer (some ⟨p, 0, none⟩)] (w.alloc (.cells #[.bool false] 4)) fun x w' => x = gaveUp ∧ w' = w.alloc (.cells #[.bool false] 4)) := hF
  have hmf : ∀ (fn : Fn) (first cap : Array Value) (w : World), (Instr.makeFunc fn first cap).run Tryd.prog w = .ok (.func fn first cap) w := fun _ _ _ _ => rfl
  clear hF
  go_enter_defers Tryd.func17, Tryd.ntmps17
  go_wp2_with fail
  refine hF'.out.mono ?_
  rintro x w1 ⟨rfl, rfl⟩
  go_wp2_with fail
  refine leaves_cons (f := 30) (args := #[.pointer (some ⟨w.heap.size, 0, none⟩)]) (by simp) (by simp [go_sem]) ?_
  refine (caught ⟨w.heap.size, 0, none⟩ false _ ?_ ?_).mono ?_
  · simp [go_sem]
  · simp [go_sem]
  rintro x u' w'' ⟨rfl, rfl, rfl⟩
  simp [Leaves, settle, results, Tryd.results17, go_sem]
  exact (Kep.refl _).alloc _

/-- A method that does its work. -/
theorem did {w : World} {p : Nat} {op : Int} {a b : Nat} {imm n : Int} {s : Sta} {e : Eff} (k : Nat) (hk : ∀ (args : Array Value) (w : World), (callFunc k args).run Tryd.prog w = .ok (.enter k args) w) (s' : Sta) (e' : Eff)
    (hF : ∀ w, Dd w p op a b imm n s e → Calls Tryd.prog k #[.pointer (some ⟨p, 0, none⟩)] w fun x w' => x = .returned (.tuple #[]) ∧ Put [p] w w' ∧ Dd w' p op a b imm n s' e') (h : Dd w p op a b imm n s e) :
    Calls Tryd.prog 17 #[mV k p] w fun x w' => x = .returned (.bool true) ∧ Put [p] w w' ∧ Dd w' p op a b imm n s' e' := by
  have l := h.lt
  have hn : w.heap.size ∉ [p] := by simp; omega
  refine (done_yes k p hk (fun w1 w2 => Put [p] w1 w2 ∧ Dd w2 p op a b imm n s' e') w ((hF _ (h.alloc _)).mono ?_)).mono ?_
  · rintro x w1 ⟨rfl, P, D⟩
    exact ⟨rfl, P.keeps (heap_alloc_new _ _) hn, P, D⟩
  · rintro x w1 ⟨rfl, w2, ⟨P, D⟩, rfl⟩
    have P2 : Put [p] w w2 := (Put.of_kep ((Kep.refl _).alloc _)).trans P
    exact ⟨rfl, Put.setCellNew (Put.setCellNew P2 (Nat.le_refl _) _) (Nat.le_refl _) _, Dd.setOther (Dd.setOther D (by show p ≠ w.heap.size; omega) _) (by show p ≠ w.heap.size; omega) _⟩
/-- A method that gives up. -/
theorem gave {w : World} {p : Nat} {op : Int} {a b : Nat} {imm n : Int} {s : Sta} {e : Eff} (k : Nat) (hk : ∀ (args : Array Value) (w : World), (callFunc k args).run Tryd.prog w = .ok (.enter k args) w)
    (hF : ∀ w, Dd w p op a b imm n s e → Calls Tryd.prog k #[.pointer (some ⟨p, 0, none⟩)] w fun x w' => x = gaveUp ∧ w' = w) (h : Dd w p op a b imm n s e) :
    Calls Tryd.prog 17 #[mV k p] w fun x w' => x = .returned (.bool false) ∧ Kep w w' := done_no k p hk w (hF _ (h.alloc _))

def methK (op : Int) : Nat := if op = 1 then 21 else if op = 2 then 22 else if op = 3 then 23 else if op = 96 then 24 else if op = 97 then 25 else
  if op = 98 then 26 else if op = 99 then 27 else if op = 100 then 28 else 29
theorem sen_cases {op : Int} (h : isSen op = true) : op = 1 ∨ op = 2 ∨ op = 3 ∨ op = 96 ∨ op = 97 ∨ op = 98 ∨ op = 99 ∨ op = 100 ∨ op = 101 := by
  unfold isSen at h
  simp only [Bool.or_eq_true, decide_eq_true_eq] at h
  omega

set_option maxHeartbeats 1600000 in
set_option maxRecDepth 100000 in
theorem method_is {w : World} {p : Nat} {op : Int} {a b : Nat} {imm n : Int} {s : Sta} {e : Eff} (k : Nat) (hk : methK op = k) (hs : isSen op = true) (h : Dd w p op a b imm n s e) :
    Calls Tryd.prog 16 #[.pointer (some ⟨p, 0, none⟩)] w fun x w' => x = .returned (mV k p) ∧ w' = w := by
  have hmf : ∀ (fn : Fn) (first cap : Array Value) (w : World), (Instr.makeFunc fn first cap).run Tryd.prog w = .ok (.func fn first cap) w := fun _ _ _ _ => rfl
  have c := h.cop
  have hc := sen_cases hs
  clear h hs
  subst hk
  rcases hc with rfl | rfl | rfl | rfl | rfl | rfl | rfl | rfl | rfl
  all_goals
    go_enter Tryd.func16, Tryd.ntmps16
    go_wp2
    go_ret
    exact ⟨rfl, rfl⟩

set_option maxHeartbeats 1600000 in
set_option maxRecDepth 100000 in
theorem method_no {w : World} {p : Nat} {op : Int} {a b : Nat} {imm n : Int} {s : Sta} {e : Eff} (hs : isSen op = false) (h : Dd w p op a b imm n s e) :
    Calls Tryd.prog 16 #[.pointer (some ⟨p, 0, none⟩)] w fun x w' => x = .returned .nilFunc ∧ w' = w := by
  have c := h.cop
  have hn : ¬ (1 ≤ op ∧ op ≤ 3) ∧ ¬ (96 ≤ op ∧ op ≤ 101) := by
    unfold isSen at hs
    simp only [Bool.or_eq_false_iff, decide_eq_false_iff_not] at hs
    exact hs
  have x1 := ne_lit (op := op) (k := 1) (by omega)
  have x2 := ne_lit (op := op) (k := 2) (by omega)
  have x3 := ne_lit (op := op) (k := 3) (by omega)
  have x4 := ne_lit (op := op) (k := 96) (by omega)
  have x5 := ne_lit (op := op) (k := 97) (by omega)
  have x6 := ne_lit (op := op) (k := 98) (by omega)
  have x7 := ne_lit (op := op) (k := 99) (by omega)
  have x8 := ne_lit (op := op) (k := 100) (by omega)
  have x9 := ne_lit (op := op) (k := 101) (by omega)
  clear h hs hn
  go_enter Tryd.func16, Tryd.ntmps16
  go_wp2
  go_ret
  exact ⟨rfl, rfl⟩
end Go.Proofs.YtaknjceneplonaaDoor
