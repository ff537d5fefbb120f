/- A table that is not there, and one that no call made, know nothing. -/
import Derived.Test.YtppcfhaiogjfgaaDoorKway
import Derived.Test.YtppcfhaiogjfgaaDoorKof
import Derived.BigQuiet
namespace Go.Proofs.YtppcfhaiogjfgaaDoor
open Go.RowKit
set_option linter.unusedVariables false

/-- A world that has at most new blocks beside another one. -/
structure KW (w : World) where
  val : World
  ok : Kep w val
theorem region_kw {P : Program} {id : Nat} {Q : Exit → Act → World → Prop} {a : Act} {w : World} {l : List Oper} (hm : P.follows .mixedOrders = true) (hB : Region.lexB .any l.toArray = true)
    (h : wpQuiet P l.toArray (fun w' => ∃ i : KW w, w' = i.val) (fun a' => ∀ w', (∃ i : KW w, w' = i.val) → Q .normal a' w') l a) : (Code.region id l.toArray true).wp P Q a w :=
  wp_region_quiet (C := fun w' => ∃ i : KW w, w' = i.val) hm hB ⟨⟨_, (Kep.refl w).drew⟩, rfl⟩ (by simpa using h)

def Nul (w : World) (v : Value) : Prop := v = .pointer none ∨ ∃ q : Nat, v = .pointer (some ⟨q, 0, none⟩) ∧ w.heap[q]? = some (.cells #[.nilFunc] 33 (0, 0))
theorem Nul.kep {w w' : World} {v : Value} (h : Nul w v) (k : Kep w w') : Nul w' v := h.elim .inl fun ⟨q, e, hq⟩ => .inr ⟨q, e, k.block hq⟩
theorem nil_nil (w : World) : (binOp .eql 31 .nilFunc .nilFunc).run Tryd.prog w = .ok (.bool true) w := by kernel_rfl

set_option maxHeartbeats 2000000 in
theorem about_nul (v : Value) (op : Int) (w : World) (h : Nul w v) : Calls Tryd.prog 23 #[v, .int .u8 op] w fun e w' => e = .returned (.agg zeroF) ∧ Kep w w' := by
  have hnn := nil_nil
  rcases h with rfl | ⟨q, rfl, hq⟩
  · go_enter Tryd.func23, Tryd.ntmps23
    go_wp2
    go_returns
    exact ⟨rfl, by repeat (first | exact Kep.refl _ | apply Kep.drew | apply Kep.alloc)⟩
  · have c0 : w.cell? ⟨q, 0, none⟩ = some .nilFunc := cell_of_block hq
    have hl := block_ge hq
    clear hq
    go_enter Tryd.func23, Tryd.ntmps23
    go_wp2
    go_returns
    exact ⟨rfl, by repeat (first | exact Kep.refl _ | apply Kep.drew | apply Kep.alloc)⟩

theorem class_nul (v : Value) (op : Int) (w : World) (h : Nul w v) : Calls Tryd.prog 10 #[v, .int .u8 op] w fun e w' => e = .returned (.int .i64 0) ∧ Kep w w' := by
  have hc : Hid (Nul w v) := h
  have hfd : ∀ w, (Instr.field 54 (.agg zeroF) 0).run Tryd.prog w = .ok (.int .i64 0) w := fun _ => by kernel_rfl
  clear h
  go_enter Tryd.func10, Tryd.ntmps10
  go_wp2_with fail
  refine (about_nul v op _ hc.out).mono ?_
  rintro e w1 ⟨rfl, k1⟩
  have K1 : Hid (Kep w w1) := k1
  clear k1
  go_wp2_with fail
  go_ret
  exact ⟨rfl, K1.out⟩

theorem turns_nul (v : Value) (op : Int) (w : World) (h : Nul w v) : Calls Tryd.prog 11 #[v, .int .u8 op] w fun e w' => e = .returned (.bool false) ∧ Kep w w' := by
  have hc : Hid (Nul w v) := h
  have hfd : ∀ w, (Instr.field 54 (.agg zeroF) 3).run Tryd.prog w = .ok (.bool false) w := fun _ => by kernel_rfl
  clear h
  go_enter Tryd.func11, Tryd.ntmps11
  go_wp2_with fail
  refine (about_nul v op _ hc.out).mono ?_
  rintro e w1 ⟨rfl, k1⟩
  have K1 : Hid (Kep w w1) := k1
  clear k1
  go_wp2_with fail
  go_ret
  exact ⟨rfl, K1.out⟩

theorem fails_nul (v : Value) (op : Int) (w : World) (h : Nul w v) : Calls Tryd.prog 12 #[v, .int .u8 op] w fun e w' => e = .returned (.bool false) ∧ Kep w w' := by
  have hc : Hid (Nul w v) := h
  have hfd : ∀ w, (Instr.field 54 (.agg zeroF) 4).run Tryd.prog w = .ok (.bool false) w := fun _ => by kernel_rfl
  clear h
  go_enter Tryd.func12, Tryd.ntmps12
  go_wp2_with fail
  refine (about_nul v op _ hc.out).mono ?_
  rintro e w1 ⟨rfl, k1⟩
  have K1 : Hid (Kep w w1) := k1
  clear k1
  go_wp2_with fail
  go_ret
  exact ⟨rfl, K1.out⟩

theorem silent_nul (v : Value) (op : Int) (w : World) (h : Nul w v) : Calls Tryd.prog 13 #[v, .int .u8 op] w fun e w' => e = .returned (.bool false) ∧ Kep w w' := by
  have hc : Hid (Nul w v) := h
  have hfd : ∀ w, (Instr.field 54 (.agg zeroF) 5).run Tryd.prog w = .ok (.bool false) w := fun _ => by kernel_rfl
  clear h
  go_enter Tryd.func13, Tryd.ntmps13
  go_wp2_with fail
  refine (about_nul v op _ hc.out).mono ?_
  rintro e w1 ⟨rfl, k1⟩
  have K1 : Hid (Kep w w1) := k1
  clear k1
  go_wp2_with fail
  go_ret
  exact ⟨rfl, K1.out⟩

theorem ends_nul (v : Value) (op : Int) (w : World) (h : Nul w v) : Calls Tryd.prog 14 #[v, .int .u8 op] w fun e w' => e = .returned (.bool false) ∧ Kep w w' := by
  have hc : Hid (Nul w v) := h
  have hfd : ∀ w, (Instr.field 54 (.agg zeroF) 0).run Tryd.prog w = .ok (.int .i64 0) w := fun _ => by kernel_rfl
  clear h
  go_enter Tryd.func14, Tryd.ntmps14
  go_wp2_with fail
  refine (about_nul v op _ hc.out).mono ?_
  rintro e w1 ⟨rfl, k1⟩
  have K1 : Hid (Kep w w1) := k1
  clear k1
  go_wp2_with fail
  go_ret
  exact ⟨rfl, K1.out⟩

set_option maxHeartbeats 4000000 in
theorem reads_nul (v : Value) (op a b imm : Int) (h0 : 0 ≤ op) (h1 : op < 256) (h2 : -2147483648 ≤ imm) (h3 : imm ≤ 2147483647) (ha : 0 ≤ a) (hb : 0 ≤ b) (w : World) (hT : Tabs w) (h : Nul w v) :
    Calls Tryd.prog 8 #[v, .agg (insA op a b imm)] w fun e w' => e = .returned (.int .u8 0) ∧ Kep w w' := by
  have hO : Hid (∀ w, Tabs w → Calls Tryd.prog 24 #[.agg #[.bool false, .bool false, .int .u8 0], .agg (insA op a b imm)] w fun e w' => e = .returned (.int .u8 0) ∧ Kep w w') := fun w hT => by
    have h := of_any false false 0 op a b imm w h0 h1 h2 h3 ha hb hT
    have e : setB (mayB (rowOf op true) a b imm) false false 0 a b = 0 := by unfold setB; cases mayB (rowOf op true) a b imm <;> rfl
    rw [e] at h
    exact h
  have hA : Hid (∀ w', Kep w w' → Calls Tryd.prog 23 #[v, .int .u8 op] w' fun e w'' => e = .returned (.agg zeroF) ∧ Kep w' w'') := fun w' k => about_nul v op w' (h.kep k)
  have hT' : Hid (Tabs w) := hT
  have hfd : ∀ w, (Instr.field 54 (.agg zeroF) 1).run Tryd.prog w = .ok (.agg #[.bool false, .bool false, .int .u8 0]) w := fun _ => by kernel_rfl
  clear h hT h0 h1 h2 h3 ha hb
  go_enter Tryd.func8, Tryd.ntmps8
  go_wp2_with fail
  have k0 : Hid (Kep w (w.alloc (.cells (insA op a b imm) 23))) := (Kep.refl _).alloc _
  have l0 : ∀ i : KW (w.alloc (.cells (insA op a b imm) 23)), i.val.cell? ⟨w.heap.size, 0, none⟩ = some (.int .u8 op) := fun i => (keep_row i.ok).trans rfl
  have l1 : ∀ i : KW (w.alloc (.cells (insA op a b imm) 23)), i.val.cell? ⟨w.heap.size, 1, none⟩ = some (.int .u8 a) := fun i => (keep_row i.ok).trans rfl
  have l2 : ∀ i : KW (w.alloc (.cells (insA op a b imm) 23)), i.val.cell? ⟨w.heap.size, 2, none⟩ = some (.int .u8 b) := fun i => (keep_row i.ok).trans rfl
  have l3 : ∀ i : KW (w.alloc (.cells (insA op a b imm) 23)), i.val.cell? ⟨w.heap.size, 3, none⟩ = some (.int .i32 imm) := fun i => (keep_row i.ok).trans rfl
  have hne : Nonempty (KW (w.alloc (.cells (insA op a b imm) 23))) := ⟨⟨_, Kep.refl _⟩⟩
  refine region_kw (by kernel_rfl) (by kernel_rfl) ?_
  repeat (go_big_quiet_step ((first
    | (go_at_call 23; refine (hA.out _ (kep_trans k0.out (KW.ok _))).mono ?_; rintro e w6 ⟨rfl, g6⟩; exact ⟨rfl, ⟨_, kep_trans (KW.ok _) g6⟩, rfl⟩)
    | (go_at_call 24; refine (hO.out _ (hT'.grown (kep_trans k0.out (KW.ok _)))).mono ?_; rintro e w6 ⟨rfl, g6⟩; exact ⟨rfl, ⟨_, kep_trans (KW.ok _) g6⟩, rfl⟩))))
  refine wpQuiet_nil ?_
  rintro _ ⟨i, rfl⟩
  have G3 : Hid (Kep w i.val) := kep_trans k0.out i.ok
  go_wp2_with fail
  go_ret
  exact ⟨rfl, G3.out⟩

set_option maxHeartbeats 4000000 in
theorem writes_nul (v : Value) (op a b imm : Int) (h0 : 0 ≤ op) (h1 : op < 256) (h2 : -2147483648 ≤ imm) (h3 : imm ≤ 2147483647) (ha : 0 ≤ a) (hb : 0 ≤ b) (w : World) (hT : Tabs w) (h : Nul w v) :
    Calls Tryd.prog 9 #[v, .agg (insA op a b imm)] w fun e w' => e = .returned (.int .u8 0) ∧ Kep w w' := by
  have hO : Hid (∀ w, Tabs w → Calls Tryd.prog 24 #[.agg #[.bool false, .bool false, .int .u8 0], .agg (insA op a b imm)] w fun e w' => e = .returned (.int .u8 0) ∧ Kep w w') := fun w hT => by
    have h := of_any false false 0 op a b imm w h0 h1 h2 h3 ha hb hT
    have e : setB (mayB (rowOf op true) a b imm) false false 0 a b = 0 := by unfold setB; cases mayB (rowOf op true) a b imm <;> rfl
    rw [e] at h
    exact h
  have hA : Hid (∀ w', Kep w w' → Calls Tryd.prog 23 #[v, .int .u8 op] w' fun e w'' => e = .returned (.agg zeroF) ∧ Kep w' w'') := fun w' k => about_nul v op w' (h.kep k)
  have hT' : Hid (Tabs w) := hT
  have hfd : ∀ w, (Instr.field 54 (.agg zeroF) 2).run Tryd.prog w = .ok (.agg #[.bool false, .bool false, .int .u8 0]) w := fun _ => by kernel_rfl
  clear h hT h0 h1 h2 h3 ha hb
  go_enter Tryd.func9, Tryd.ntmps9
  go_wp2_with fail
  have k0 : Hid (Kep w (w.alloc (.cells (insA op a b imm) 23))) := (Kep.refl _).alloc _
  have l0 : ∀ i : KW (w.alloc (.cells (insA op a b imm) 23)), i.val.cell? ⟨w.heap.size, 0, none⟩ = some (.int .u8 op) := fun i => (keep_row i.ok).trans rfl
  have l1 : ∀ i : KW (w.alloc (.cells (insA op a b imm) 23)), i.val.cell? ⟨w.heap.size, 1, none⟩ = some (.int .u8 a) := fun i => (keep_row i.ok).trans rfl
  have l2 : ∀ i : KW (w.alloc (.cells (insA op a b imm) 23)), i.val.cell? ⟨w.heap.size, 2, none⟩ = some (.int .u8 b) := fun i => (keep_row i.ok).trans rfl
  have l3 : ∀ i : KW (w.alloc (.cells (insA op a b imm) 23)), i.val.cell? ⟨w.heap.size, 3, none⟩ = some (.int .i32 imm) := fun i => (keep_row i.ok).trans rfl
  have hne : Nonempty (KW (w.alloc (.cells (insA op a b imm) 23))) := ⟨⟨_, Kep.refl _⟩⟩
  refine region_kw (by kernel_rfl) (by kernel_rfl) ?_
  repeat (go_big_quiet_step ((first
    | (go_at_call 23; refine (hA.out _ (kep_trans k0.out (KW.ok _))).mono ?_; rintro e w6 ⟨rfl, g6⟩; exact ⟨rfl, ⟨_, kep_trans (KW.ok _) g6⟩, rfl⟩)
    | (go_at_call 24; refine (hO.out _ (hT'.grown (kep_trans k0.out (KW.ok _)))).mono ?_; rintro e w6 ⟨rfl, g6⟩; exact ⟨rfl, ⟨_, kep_trans (KW.ok _) g6⟩, rfl⟩))))
  refine wpQuiet_nil ?_
  rintro _ ⟨i, rfl⟩
  have G3 : Hid (Kep w i.val) := kep_trans k0.out i.ok
  go_wp2_with fail
  go_ret
  exact ⟨rfl, G3.out⟩

end Go.Proofs.YtppcfhaiogjfgaaDoor
