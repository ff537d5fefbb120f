/- What a table's ways answer. -/
import Derived.Test.YtpalbpjmjbcelaaDoorKtab
namespace Go.Proofs.YtpalbpjmjbcelaaDoor
open Go.RowKit
set_option linter.unusedVariables false

/-- A table that New made, in a world behind W. -/
structure Tb (W w : World) (p o kb : Nat) : Prop where
  tab : w.heap[p]? = some (.cells #[askV o kb] 107 (0, 0))
  asked : Asked w o kb
  po : p ≠ o
  pk : p ≠ kb
  kep : Kep W w
  go : W.heap.size ≤ o
  gk : W.heap.size ≤ kb
theorem Tb.kp {W w w' : World} {p o kb : Nat} (h : Tb W w p o kb) (k : Kep w w') : Tb W w' p o kb := ⟨k.block h.tab, h.asked.kep k, h.po, h.pk, kep_trans h.kep k, h.go, h.gk⟩
theorem Tb.stp {W w w' : World} {p o kb : Nat} (h : Tb W w p o kb) (k : Stp o kb w w') (a : Asked w' o kb) : Tb W w' p o kb :=
  ⟨(k.block p (block_ge h.tab) h.po h.pk).trans h.tab, a, h.po, h.pk, h.kep.stp k h.go h.gk, h.go, h.gk⟩
theorem Asked.lt {w : World} {o kb : Nat} (h : Asked w o kb) : o < w.heap.size ∧ kb < w.heap.size :=
  ⟨h.2.elim (fun x => block_ge x.1) (fun x => block_ge x.1), h.2.elim (fun x => block_ge x.2) (fun x => let ⟨_, _, _, q, _⟩ := x; block_ge q)⟩

theorem knew_any (w : World) : Calls Tryd.prog 15 #[] w fun e w' => e = .returned (.pointer (some ⟨w.heap.size + 2, 0, none⟩)) ∧ Tb w w' (w.heap.size + 2) w.heap.size (w.heap.size + 1) := by
  have hmf : ∀ (fn : Fn) (first cap : Array Value) (w : World), (Instr.makeFunc fn first cap).run Tryd.prog w = .ok (.func fn first cap) w := fun _ _ _ _ => rfl
  go_enter Tryd.func15, Tryd.ntmps15
  go_wp2_with fail
  go_ret
  refine ⟨rfl, ?_, ⟨by omega, .inl ⟨?_, ?_⟩⟩, by omega, by omega, (((Kep.refl _).alloc _).alloc _).alloc _, Nat.le_refl _, by omega⟩
  · exact hp_at _ _ _ (by simp)
  · exact (hp_skip _ _ _ (by simp; omega)).trans ((hp_skip _ _ _ (by simp)).trans (hp_at _ _ _ rfl))
  · exact (hp_skip _ _ _ (by simp)).trans (hp_at _ _ _ (by simp))

theorem new_call (w : World) : Calls Tryd.prog 15 #[] w fun e w' => ∃ p o kb : Nat, e = .returned (.pointer (some ⟨p, 0, none⟩)) ∧ Hid (Tb w w' p o kb) :=
  (knew_any w).mono fun e w' h => ⟨_, _, _, h.1, h.2⟩
theorem ask_not (o kb : Nat) (w : World) : (binOp .eql 105 (askV o kb) .nilFunc).run Tryd.prog w = .ok (.bool false) w := by kernel_rfl
theorem field_c (o : Option Rw) (w : World) : (Instr.field 98 (.agg (gA o)) 0).run Tryd.prog w = .ok (.int .i64 (gC o)) w := by kernel_rfl
theorem field_t (o : Option Rw) (w : World) : (Instr.field 98 (.agg (gA o)) 3).run Tryd.prog w = .ok (.bool (gT o)) w := by kernel_rfl
theorem field_f (o : Option Rw) (w : World) : (Instr.field 98 (.agg (gA o)) 4).run Tryd.prog w = .ok (.bool (gF o)) w := by kernel_rfl
theorem field_s (o : Option Rw) (w : World) : (Instr.field 98 (.agg (gA o)) 5).run Tryd.prog w = .ok (.bool (gS o)) w := by kernel_rfl

set_option maxRecDepth 100000 in
set_option maxHeartbeats 2000000 in
theorem about_any (op : Int) (h0 : 0 ≤ op) (h1 : op < 256) (W w : World) (p o kb : Nat) (h : Tb W w p o kb) :
    Calls Tryd.prog 38 #[.pointer (some ⟨p, 0, none⟩), .int .u8 op] w fun e w' => e = .returned (.agg (gA (tabF op))) ∧ Asked w' o kb ∧ Stp o kb w w' := by
  have hl := h.asked.lt
  have hp := block_ge h.tab
  have c0 : w.cell? ⟨p, 0, none⟩ = some (askV o kb) := cell_of_block h.tab
  have hA : Hid (∀ x, Asked (w.alloc x) o kb) := fun x => h.asked.kep ((Kep.refl _).alloc _)
  have hne := h.asked.1
  have hnn := ask_not o kb
  clear h
  go_enter Tryd.func38, Tryd.ntmps38
  go_wp2_with fail
  refine (kask_any op h0 h1 o kb _ (hA.out _)).mono ?_
  rintro e w1 ⟨rfl, hD, hS⟩
  have hz : Hid (w1.heap[w.heap.size]? = some (.cells zeroF 98 (0, 0))) := (hS.block w.heap.size (by simp) (by omega) (by omega)).trans (heap_alloc_new _ _)
  have hD' : Hid (Asked w1 o kb) := hD
  have hS' : Hid (Stp o kb w w1) := Stp.trans (Stp.of_kep ((Kep.refl _).alloc _)) hS
  clear hS hD
  go_wp2_with (refine wpList_store_row rfl 98 _ _ rfl w.heap.size (gA (tabF op)) rfl rfl 98 zeroF hz.out (sizeGA _) rfl (gA_one _) ?_)
  try simp only [Exit.inBlock, Exit.then]
  refine bodyPost_ret (results_cell_row rfl _ _ w.heap.size 98 (gA (tabF op)) (0, 0) _ rfl (setRow_heap _ _ _ _ _ _ hz.out) Tryd.underlying98 rfl (sizeGA _)) rfl ⟨rfl, ?_, ?_⟩
  · have e : ∀ c, c ≠ w.heap.size → (w1.setRow w.heap.size (gA (tabF op))).heap[c]? = w1.heap[c]? := fun c hc => setRow_other w1 _ c _ hc
    refine ⟨hne, hD'.out.2.elim (fun x => .inl ⟨(e _ (by omega)).trans x.1, (e _ (by omega)).trans x.2⟩) (fun x => ?_)⟩
    obtain ⟨d1, b, n, d2, d3⟩ := x
    exact .inr ⟨(e _ (by omega)).trans d1, b, n, (e _ (by omega)).trans d2, d3.block (e _ (map_ne d3 hz.out))⟩
  · have s := hS'.out
    refine ⟨s.os, s.tape, s.output, by simpa using s.size, fun c hc h1 h2 => (setRow_other w1 _ c _ (by omega)).trans (s.block c hc h1 h2)⟩

def gE (o : Option Rw) : Bool := gC o == 3 || (gC o == 4 || gC o == 5)

theorem ends_of (op : Int) (h0 : 0 ≤ op) (h1 : op < 256) (W w : World) (p o kb : Nat) (h : Tb W w p o kb) (C : Int) (hC : gC (tabF op) = C) (E : Bool) (hE : C = 3 ∧ E = true ∨ C = 4 ∧ E = true ∨ C = 5 ∧ E = true ∨ C = 0 ∧ E = false ∨ C = 1 ∧ E = false ∨ C = 2 ∧ E = false) :
    Calls Tryd.prog 17 #[.pointer (some ⟨p, 0, none⟩), .int .u8 op] w fun e w' => e = .returned (.bool E) ∧ Tb W w' p o kb ∧ Stp o kb w w' := by
  have hc : Hid (Tb W w p o kb) := h
  have hfd := field_c (tabF op)
  rw [hC] at hfd
  clear h hC
  rcases hE with ⟨rfl, rfl⟩ | ⟨rfl, rfl⟩ | ⟨rfl, rfl⟩ | ⟨rfl, rfl⟩ | ⟨rfl, rfl⟩ | ⟨rfl, rfl⟩
  all_goals
    go_enter Tryd.func17, Tryd.ntmps17
    go_wp2_with fail
    refine (about_any op h0 h1 W _ p o kb hc.out).mono ?_
    rintro e w1 ⟨rfl, hD, hS⟩
    have hD' : Hid (Tb W w1 p o kb ∧ Stp o kb w w1) := ⟨hc.out.stp hS hD, hS⟩
    clear hD hS
    go_wp2_with fail
    go_ret
    exact ⟨rfl, hD'.out⟩

/-- What holds of each of the numbers of a byte. -/

theorem byte_all {p : Int → Bool} (h : (List.range 256).all (fun n => p n) = true) (op : Int) (h0 : 0 ≤ op) (h1 : op < 256) : p op = true := by
  obtain ⟨n, rfl⟩ := Int.eq_ofNat_of_zero_le h0
  exact List.all_eq_true.1 h n (by simp; omega)

theorem gC_six (op : Int) (h0 : 0 ≤ op) (h1 : op < 256) : gC (tabF op) = 3 ∨ gC (tabF op) = 4 ∨ gC (tabF op) = 5 ∨ gC (tabF op) = 0 ∨ gC (tabF op) = 1 ∨ gC (tabF op) = 2 := by
  have := byte_all (p := fun op => decide (gC (tabF op) = 3 ∨ gC (tabF op) = 4 ∨ gC (tabF op) = 5 ∨ gC (tabF op) = 0 ∨ gC (tabF op) = 1 ∨ gC (tabF op) = 2)) (by decide +kernel) op h0 h1
  simpa using this

theorem ends_any (op : Int) (h0 : 0 ≤ op) (h1 : op < 256) (W w : World) (p o kb : Nat) (h : Tb W w p o kb) :
    Calls Tryd.prog 17 #[.pointer (some ⟨p, 0, none⟩), .int .u8 op] w fun e w' => e = .returned (.bool (gE (tabF op))) ∧ Tb W w' p o kb ∧ Stp o kb w w' := by
  refine ends_of op h0 h1 W w p o kb h _ rfl _ ?_
  rcases gC_six op h0 h1 with q | q | q | q | q | q <;> rw [q] <;> simp [gE, q]
end Go.Proofs.YtpalbpjmjbcelaaDoor
