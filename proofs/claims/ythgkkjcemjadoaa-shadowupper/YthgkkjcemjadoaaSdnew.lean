/- New. -/
import Derived.Test.YthgkkjcemjadoaaSdclear
namespace Go.Proofs.Ythgkkjcemjadoaa
open Go.RowKit
set_option linter.unusedVariables false
set_option linter.unusedSimpArgs false

def shN (v : Value) (q r : Nat) : Array Value := (sdV v q r sd0 (.slice none 0 0)).toArray
theorem wpList_built {P : Program} {ops : Array Oper} {rest : List Oper} {o : Oper} {a : Act} {w : World} {Q : Exit → Act → World → Prop} (hg : o.guard = none) (t : TypeId) (parts : Array (Nat × Operand)) (ho : o.op = .build t parts) (X : Array Value)
    (hf : P.built t (parts.map fun (i, x) => (i, a.eval x)).toList = some X) (h : wpList P ops Q rest (a.put o.dst (.agg X)) w) : wpList P ops Q (o :: rest) a w :=
  wpList_build hg t parts ho (by rw [hf]; rfl) (by rw [hf]; exact h)
theorem shN_at {w : World} {p pv q d : Nat} (h : w.heap[p]? = some (.cells (shN (.pointer (some ⟨pv, 0, none⟩)) q (64 * d)) 90 (0, 0))) : ShAt w p (.pointer (some ⟨pv, 0, none⟩)) q d sd0 [] :=
  ⟨⟨_, h, Sli.nil _ _ _⟩, List.length_replicate, List.length_replicate⟩
set_option maxHeartbeats 1000000 in
theorem shnew_ok (w : World) (pv R n q M f d : Nat) (B : List Int) (c : Nat) (g m : Int) (hr : Ram w (.pointer (some ⟨pv, 0, none⟩)) R (List.range n)) (hB : RowB w R B) (lB : B.length = 64 * n) (bB : Byts B) (nn : n ≤ 512) (hp : PoolAt w q M f (List.replicate c false) g m) (dn : d + 1 < n) (pl : f + c ≤ n) (off : ∀ j, j < c → f + j ≠ d ∧ f + j ≠ d + 1) :
    Calls Try.prog 24 #[.pointer (some ⟨pv, 0, none⟩), .int .i64 d, .pointer (some ⟨q, 0, none⟩)] w fun e w' => ∃ p, e = .returned (.tuple #[.pointer (some ⟨p, 0, none⟩), .int .i64 0]) ∧ w.heap.size ≤ p ∧
      ShW w' p pv R n d f q M B sd0 (zer B n (64 * d) 128) (List.replicate c false) g m [] ∧ DInv d sd0 (zer B n (64 * d) 128) ∧ Put [R] w w' := by
  have HS : Hid (Calls Try.prog 49 #[.pointer (some ⟨pv, 0, none⟩)] w fun e w' => e = .returned (.int .u32 (64 * n : Nat)) ∧ w' = w) := by
    have := msize_any w _ R (List.range n) hr (by simp; omega)
    rw [List.length_range] at this
    exact this
  have hz : (((64 * n : Nat) : Int) == 0) = false := by simp; omega
  have HF : Hid (∀ k : Nat, k < n → Calls Try.prog 44 #[.pointer (some ⟨pv, 0, none⟩), .int .i64 k] w fun e w' => e = .returned (.bool true) ∧ w' = w) := fun k hk => by
    have := shframe_any w _ R (List.range n) hr (by simp; omega) k
    rw [List.length_range] at this
    simpa [hk] using this
  have HF0 : Hid (Calls Try.prog 44 #[.pointer (some ⟨pv, 0, none⟩), .int .i64 d] w fun e w' => e = .returned (.bool true) ∧ w' = w) := HF.out d (by omega)
  have HF1 : Hid (Calls Try.prog 44 #[.pointer (some ⟨pv, 0, none⟩), .int .i64 ((d : Int) + 1)] w fun e w' => e = .returned (.bool true) ∧ w' = w) := by
    have := HF.out (d + 1) dn
    rwa [Int.natCast_add] at this
  have HA : Hid (∀ w, Calls Try.prog 47 #[.int .i64 d] w fun e w' => e = .returned (.int .u32 (64 * d : Nat)) ∧ w' = w) := fun w => shaddr_any d (by omega) w
  have RB : R < w.heap.size := block_lt (hB (by intro e; rw [e] at lB; simp at lB; omega))
  have K1 : Kep w (w.alloc (.cells (shN (.pointer (some ⟨pv, 0, none⟩)) q (64 * d)) 90)) := (Kep.refl w).alloc _
  have W1 : Hid (ShAt (w.alloc (.cells (shN (.pointer (some ⟨pv, 0, none⟩)) q (64 * d)) 90)) w.heap.size (.pointer (some ⟨pv, 0, none⟩)) q d sd0 []) := shN_at (hat _ _ _ rfl)
  have HW : Hid (Calls Try.prog 50 #[.pointer (some ⟨w.heap.size, 0, none⟩)] (w.alloc (.cells (shN (.pointer (some ⟨pv, 0, none⟩)) q (64 * d)) 90)) fun x w' => x = .returned (.tuple #[]) ∧ RowB w' R (zer B n (64 * d) 128) ∧ Put [R] (w.alloc (.cells (shN (.pointer (some ⟨pv, 0, none⟩)) q (64 * d)) 90)) w') :=
    wipe_core _ w.heap.size pv R n d q sd0 B [] W1.out (hr.kep K1) (hB.kep K1) lB nn dn (by omega)
  have INV := new_inv (n := n) (d := d) (f := f) (B := B) (c := c) lB bB nn dn pl off
  have FIN : Hid (∀ w', RowB w' R (zer B n (64 * d) 128) → Put [R] (w.alloc (.cells (shN (.pointer (some ⟨pv, 0, none⟩)) q (64 * d)) 90)) w' → ShW w' w.heap.size pv R n d f q M B sd0 (zer B n (64 * d) 128) (List.replicate c false) g m [] ∧ DInv d sd0 (zer B n (64 * d) 128) ∧ Put [R] w w') := fun w' hB' k => by
    have hne := hB (by intro e; rw [e] at lB; simp at lB; omega)
    refine ⟨⟨W1.out.put k (by simp; omega) (by simp), (hr.kep K1).put k, hB', (hp.kep K1).put k ?_ ?_, INV.1⟩, INV.2, (Put.of_kep K1).trans k⟩
    · simp; rintro rfl; rw [hp.box] at hne; simp at hne
    · simp; rintro rfl
      obtain ⟨_, ⟨es, c2, hM, _⟩, _⟩ := hp.set
      rw [hM] at hne; simp at hne
  clear HF hr hB hp K1 W1 INV pl off lB bB RB
  go_enter Try.func24, Try.ntmps24
  go_wp2_with (first
    | (go_at_call 49; refine HS.out.mono ?_; rintro e wa ⟨rfl, hqa⟩; rw [hqa]; clear hqa wa)
    | (go_at_call_of 44 (Value.int .i64 (d : Int)); refine HF0.out.mono ?_; rintro e wa ⟨rfl, hqa⟩; rw [hqa]; clear hqa wa)
    | (go_at_call 44; refine HF1.out.mono ?_; rintro e wa ⟨rfl, hqa⟩; rw [hqa]; clear hqa wa)
    | (go_at_call 47; refine (HA.out _).mono ?_; rintro e wa ⟨rfl, hqa⟩; rw [hqa]; clear hqa wa)
    | (refine wpList_built (by rfl) 90 _ (by rfl) (shN (.pointer (some ⟨pv, 0, none⟩)) q (64 * d)) (by kernel_rfl) ?_)
    | (go_at_call 50; refine HW.out.mono ?_; rintro e w2 ⟨rfl, hB2, P2⟩))
  go_ret2
  exact ⟨_, rfl, Nat.le_refl _, FIN.out _ hB2 P2⟩

theorem shnew_nor (w : World) (a b : Value) :
    Calls Try.prog 24 #[.pointer none, a, b] w fun e w' => e = .returned (.tuple #[.pointer none, .int .i64 1]) ∧ w' = w := by
  have HS : Hid (Calls Try.prog 49 #[.pointer none] w fun e w' => e = .returned (.int .u32 0) ∧ w' = w) := by
    have := msize_any w (.pointer none) 0 [] (.inl ⟨rfl, rfl⟩) (by simp)
    unfold Hid; simpa using this
  go_enter Try.func24, Try.ntmps24
  go_wp2_with (go_at_call 49; refine HS.out.mono ?_; rintro e wa ⟨rfl, hqa⟩; rw [hqa]; clear hqa wa)
  go_ret2
  exact ⟨rfl, rfl⟩

theorem shnew_nop (w : World) (v : Value) (R n : Nat) (hr : Ram w v R (List.range n)) (nn : n ≤ 512) (d : Int) :
    Calls Try.prog 24 #[v, .int .i64 d, .pointer none] w fun e w' => e = .returned (.tuple #[.pointer none, .int .i64 1]) ∧ w' = w := by
  obtain ⟨z, HS⟩ : ∃ z : Int, Hid (Calls Try.prog 49 #[v] w fun e w' => e = .returned (.int .u32 z) ∧ w' = w) := ⟨_, msize_any w v R (List.range n) hr (by simp; omega)⟩
  clear hr
  by_cases hz : z == 0
  all_goals
    go_enter Try.func24, Try.ntmps24
    go_wp2_with (go_at_call 49; refine HS.out.mono ?_; rintro e wa ⟨rfl, hqa⟩; rw [hqa]; clear hqa wa)
    go_ret2
    exact ⟨rfl, rfl⟩

theorem shnew_no (w : World) (pv R n q : Nat) (hr : Ram w (.pointer (some ⟨pv, 0, none⟩)) R (List.range n)) (n1 : 1 ≤ n) (nn : n ≤ 512) (d : Int) (hd : d < 0 ∨ (n : Int) ≤ d + 1) :
    Calls Try.prog 24 #[.pointer (some ⟨pv, 0, none⟩), .int .i64 d, .pointer (some ⟨q, 0, none⟩)] w fun e w' => e = .returned (.tuple #[.pointer none, .int .i64 2]) ∧ w' = w := by
  have HS : Hid (Calls Try.prog 49 #[.pointer (some ⟨pv, 0, none⟩)] w fun e w' => e = .returned (.int .u32 (64 * n : Nat)) ∧ w' = w) := by
    have := msize_any w _ R (List.range n) hr (by simp; omega)
    rw [List.length_range] at this
    exact this
  have hz : (((64 * n : Nat) : Int) == 0) = false := by simp; omega
  have HF : Hid (∀ k : Int, Calls Try.prog 44 #[.pointer (some ⟨pv, 0, none⟩), .int .i64 k] w fun e w' => e = .returned (.bool (decide (0 ≤ k) && decide (k < n))) ∧ w' = w) := fun k => by
    have := shframe_any w _ R (List.range n) hr (by simp; omega) k
    rw [List.length_range] at this
    exact this
  by_cases h0 : 0 ≤ d ∧ d < n
  · have HF0 : Hid (Calls Try.prog 44 #[.pointer (some ⟨pv, 0, none⟩), .int .i64 d] w fun e w' => e = .returned (.bool true) ∧ w' = w) := by
      have := HF.out d
      rw [show (decide (0 ≤ d) && decide (d < n)) = true by simp; omega] at this
      exact this
    have HF1 : Hid (Calls Try.prog 44 #[.pointer (some ⟨pv, 0, none⟩), .int .i64 (d + 1)] w fun e w' => e = .returned (.bool false) ∧ w' = w) := by
      have := HF.out (d + 1)
      rw [show (decide (0 ≤ d + 1) && decide (d + 1 < n)) = false by simp; omega] at this
      exact this
    clear HF hr hd
    go_enter Try.func24, Try.ntmps24
    go_wp2_with (first
      | (go_at_call 49; refine HS.out.mono ?_; rintro e wa ⟨rfl, hqa⟩; rw [hqa]; clear hqa wa)
      | (go_at_call_of 44 (Value.int .i64 d); refine HF0.out.mono ?_; rintro e wa ⟨rfl, hqa⟩; rw [hqa]; clear hqa wa)
      | (go_at_call 44; refine HF1.out.mono ?_; rintro e wa ⟨rfl, hqa⟩; rw [hqa]; clear hqa wa))
    go_ret2
    exact ⟨rfl, rfl⟩
  · have HF0 : Hid (Calls Try.prog 44 #[.pointer (some ⟨pv, 0, none⟩), .int .i64 d] w fun e w' => e = .returned (.bool false) ∧ w' = w) := by
      have := HF.out d
      rw [show (decide (0 ≤ d) && decide (d < n)) = false by simp; omega] at this
      exact this
    clear HF hr hd
    go_enter Try.func24, Try.ntmps24
    go_wp2_with (first
      | (go_at_call 49; refine HS.out.mono ?_; rintro e wa ⟨rfl, hqa⟩; rw [hqa]; clear hqa wa)
      | (go_at_call 44; refine HF0.out.mono ?_; rintro e wa ⟨rfl, hqa⟩; rw [hqa]; clear hqa wa))
    go_ret2
    exact ⟨rfl, rfl⟩
end Go.Proofs.Ythgkkjcemjadoaa
