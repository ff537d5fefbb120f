/- What a row of the code's table says of its operations. -/
import Derived.Test.YtpalbpjmjbcelaaDoorKpl
import Derived.Deep.CutRange
import Derived.Deep.RegionHeld3
namespace Go.Proofs.YtpalbpjmjbcelaaDoor
open Go.RowKit
set_option linter.unusedVariables false

def marks : List (Array UInt8) := [#[], #[116], #[116, 102], #[102], #[115], #[116, 115]]
def mk (c : UInt8) (m : Array UInt8) : Bool := m.toList.contains c
abbrev rowV (x : Value) (cls : Int) (rd wr m : Array UInt8) : Array Value := #[x, .int .i64 cls, .string ⟨rd⟩, .string ⟨wr⟩, .string ⟨m⟩]
abbrev factV (cls : Int) (rd wr : Array UInt8) (t f s : Bool) : Array Value := #[.int .i64 cls, .bool (pA rd), .bool (pB rd), .int .u8 (pI rd), .bool (pA wr), .bool (pB wr), .int .u8 (pI wr), .bool t, .bool f, .bool s]

theorem keep_row {w w' : World} {cs : Array Value} {t : TypeId} {i : Nat} (h : Kep (w.alloc (.cells cs t)) w') : w'.cell? ⟨w.heap.size, i, none⟩ = cs[i]? :=
  (h.cell (by simp)).trans (cell_of_block (heap_alloc_new w _))
theorem hp_at (W : World) (o : Obj) (n : Nat) (h : n = W.heap.size) : (W.alloc o).heap[n]? = some o := by subst h; exact heap_alloc_new W o
theorem hp_skip (W : World) (o : Obj) (n : Nat) (h : n < W.heap.size) : (W.alloc o).heap[n]? = W.heap[n]? := by simp only [World.alloc, Array.getElem?_push_lt h, Array.getElem?_eq_getElem h]
theorem sizeFact : (Tryd.prog.info? 98).map (·.size) = some 10 := by kernel_rfl
abbrev zeroF : Array Value := #[.int .i64 0, .bool false, .bool false, .int .u8 0, .bool false, .bool false, .int .u8 0, .bool false, .bool false, .bool false]
theorem fact_one (cls : Int) (rd wr : Array UInt8) (t f s : Bool) : (factV cls rd wr t f s).all (·.oneCell') = true := by simp [factV, Value.oneCell']
theorem block_ge {w : World} {g : Nat} {o : Obj} (h : w.heap[g]? = some o) : g < w.heap.size := by
  rcases Nat.lt_or_ge g w.heap.size with h' | h'
  · exact h'
  · rw [Array.getElem?_eq_none h'] at h; cases h

set_option maxHeartbeats 4000000 in
theorem fa_0 (x : Value) (cls : Int) (rd wr : Array UInt8) (h1 : rd ∈ lets) (h2 : wr ∈ lets) (w : World) : Calls Tryd.prog 36 #[.agg (rowV x cls rd wr #[])] w fun e w' => e = .returned (.agg (factV cls rd wr false false false)) ∧ Kep w w' := by
  have c1 : Hid (∀ w, Calls Tryd.prog 52 #[.string ⟨rd⟩] w fun e w' => e = .returned (.agg (plV rd)) ∧ ∃ o1 o2, w' = (w.alloc o1).alloc o2) := fun w => placesBy_any rd h1 w
  have c2 : Hid (∀ w, Calls Tryd.prog 52 #[.string ⟨wr⟩] w fun e w' => e = .returned (.agg (plV wr)) ∧ ∃ o1 o2, w' = (w.alloc o1).alloc o2) := fun w => placesBy_any wr h2 w
  clear h1 h2
  unfold plV at c1 c2
  go_enter Tryd.func36, Tryd.ntmps36
  go_upto_region 1 with fail
  go_cut [3] from 5 to 13 (fun s3 wx => ∃ b : Nat, s3 = .pointer (some ⟨b, 0, none⟩) ∧ w.heap.size + 2 ≤ b ∧ Hid (wx.heap[b]? = some (.cells (factV cls rd wr false false false) 98 (0, 0))) ∧ Hid (Kep ((w.alloc (.cells (rowV x cls rd wr #[]) 104)).alloc (.cells zeroF 98)) wx))
  case first =>
    go_region_held3 (fun w' => w'.cell? ⟨w.heap.size, 1, none⟩ = some (.int .i64 cls) ∧ w'.cell? ⟨w.heap.size, 2, none⟩ = some (.string ⟨rd⟩) ∧ w'.cell? ⟨w.heap.size, 3, none⟩ = some (.string ⟨wr⟩)) (first | ((refine ⟨(keep_row (t := 104) (cs := rowV x cls rd wr #[]) ?_).trans rfl, (keep_row (t := 104) (cs := rowV x cls rd wr #[]) ?_).trans rfl, (keep_row (t := 104) (cs := rowV x cls rd wr #[]) ?_).trans rfl⟩) <;> ((repeat (first | with_reducible exact Kep.refl _ | with_reducible refine Kep.drew ?_ | with_reducible refine Kep.alloc ?_ _ | with_reducible refine Kep.setCell ?_ (by simp; omega) _)); done)) | (go_keep; done)) (first
      | (go_at_call_of 52 (Value.string ⟨rd⟩); refine (c1.out _).mono ?_; rintro e w' ⟨rfl, o1, o2, rfl⟩)
      | (go_at_call_of 52 (Value.string ⟨wr⟩); refine (c2.out _).mono ?_; rintro e w' ⟨rfl, o1, o2, rfl⟩))
    all_goals
      go_wp2_with fail
      go_meet
      refine ⟨_, rfl, by omega, ?_, ?_⟩
      · unfold Hid
        simp only [heap_drew]
        repeat (first | exact hp_at _ _ _ (by simp only [World.size_alloc]) | refine (hp_skip _ _ _ (by simp only [World.size_alloc]; omega)).trans ?_)
      · unfold Hid
        repeat (first | with_reducible exact Kep.refl _ | with_reducible refine Kep.drew ?_ | with_reducible refine Kep.alloc ?_ _)
  case rest =>
    obtain ⟨b, rfl, hge, hB, hK⟩ := hcut
    have hQ : Hid (wc.heap[w.heap.size + 1]? = some (.cells zeroF 98 (0, 0))) := hK.out.block (by simpa using heap_alloc_new (w.alloc _) _)
    have K : Hid (Kep w wc) := kep_trans (((Kep.refl _).alloc _).alloc _) hK.out
    have d4 : wc.cell? ⟨w.heap.size, 4, none⟩ = some (.string ⟨#[]⟩) := (keep_row (t := 104) (cs := rowV x cls rd wr #[]) (kep_trans ((Kep.refl _).alloc _) hK.out)).trans rfl
    have hb7 : wc.cell? ⟨b, 7, none⟩ = some (.bool false) := cell_of_block hB.out
    have hb8 : wc.cell? ⟨b, 8, none⟩ = some (.bool false) := cell_of_block hB.out
    have hb9 : wc.cell? ⟨b, 9, none⟩ = some (.bool false) := cell_of_block hB.out
    have hf7 : wc.frozen? ⟨b, 7, none⟩ = false := frozen_of_row _ _ _ _ _ hB.out
    have hf8 : wc.frozen? ⟨b, 8, none⟩ = false := frozen_of_row _ _ _ _ _ hB.out
    have hf9 : wc.frozen? ⟨b, 9, none⟩ = false := frozen_of_row _ _ _ _ _ hB.out
    have hne : ¬ b = w.heap.size := by omega
    have hne' : ¬ w.heap.size = b := by omega
    clear hK c1 c2
    go_wp2_with fail
    refine wp_loop_rounds 1 ?_
    rw [rounds_succ]
    go_upto_region 13 with fail
    refine wp_region_lit ?_
    refine wpList_load_row rfl 98 _ rfl b rfl 98 (factV cls rd wr false false false) (0, 0) _ hB.out Tryd.underlying98 rfl sizeFact ?_
    refine wpList_store_row (by rfl) 98 _ _ (by rfl) (w.heap.size + 1) (factV cls rd wr false false false) (by rfl) (by rfl) 98 zeroF hQ.out sizeFact rfl (fact_one _ _ _ _ _ _) ?_
    go_wp2_with fail
    try simp only [Exit.inBlock, Exit.then]
    refine bodyPost_ret (results_cell_row rfl _ _ (w.heap.size + 1) 98 (factV cls rd wr false false false) (0, 0) _ rfl (setRow_heap _ _ _ _ _ _ hQ.out) Tryd.underlying98 rfl sizeFact) rfl ⟨rfl, ?_⟩
    exact Kep.setRow K.out _ _ (by omega)

set_option maxHeartbeats 4000000 in
theorem fa_1 (x : Value) (cls : Int) (rd wr : Array UInt8) (h1 : rd ∈ lets) (h2 : wr ∈ lets) (w : World) : Calls Tryd.prog 36 #[.agg (rowV x cls rd wr #[116])] w fun e w' => e = .returned (.agg (factV cls rd wr true false false)) ∧ Kep w w' := by
  have c1 : Hid (∀ w, Calls Tryd.prog 52 #[.string ⟨rd⟩] w fun e w' => e = .returned (.agg (plV rd)) ∧ ∃ o1 o2, w' = (w.alloc o1).alloc o2) := fun w => placesBy_any rd h1 w
  have c2 : Hid (∀ w, Calls Tryd.prog 52 #[.string ⟨wr⟩] w fun e w' => e = .returned (.agg (plV wr)) ∧ ∃ o1 o2, w' = (w.alloc o1).alloc o2) := fun w => placesBy_any wr h2 w
  clear h1 h2
  unfold plV at c1 c2
  go_enter Tryd.func36, Tryd.ntmps36
  go_upto_region 1 with fail
  go_cut [3] from 5 to 13 (fun s3 wx => ∃ b : Nat, s3 = .pointer (some ⟨b, 0, none⟩) ∧ w.heap.size + 2 ≤ b ∧ Hid (wx.heap[b]? = some (.cells (factV cls rd wr false false false) 98 (0, 0))) ∧ Hid (Kep ((w.alloc (.cells (rowV x cls rd wr #[116]) 104)).alloc (.cells zeroF 98)) wx))
  case first =>
    go_region_held3 (fun w' => w'.cell? ⟨w.heap.size, 1, none⟩ = some (.int .i64 cls) ∧ w'.cell? ⟨w.heap.size, 2, none⟩ = some (.string ⟨rd⟩) ∧ w'.cell? ⟨w.heap.size, 3, none⟩ = some (.string ⟨wr⟩)) (first | ((refine ⟨(keep_row (t := 104) (cs := rowV x cls rd wr #[116]) ?_).trans rfl, (keep_row (t := 104) (cs := rowV x cls rd wr #[116]) ?_).trans rfl, (keep_row (t := 104) (cs := rowV x cls rd wr #[116]) ?_).trans rfl⟩) <;> ((repeat (first | with_reducible exact Kep.refl _ | with_reducible refine Kep.drew ?_ | with_reducible refine Kep.alloc ?_ _ | with_reducible refine Kep.setCell ?_ (by simp; omega) _)); done)) | (go_keep; done)) (first
      | (go_at_call_of 52 (Value.string ⟨rd⟩); refine (c1.out _).mono ?_; rintro e w' ⟨rfl, o1, o2, rfl⟩)
      | (go_at_call_of 52 (Value.string ⟨wr⟩); refine (c2.out _).mono ?_; rintro e w' ⟨rfl, o1, o2, rfl⟩))
    all_goals
      go_wp2_with fail
      go_meet
      refine ⟨_, rfl, by omega, ?_, ?_⟩
      · unfold Hid
        simp only [heap_drew]
        repeat (first | exact hp_at _ _ _ (by simp only [World.size_alloc]) | refine (hp_skip _ _ _ (by simp only [World.size_alloc]; omega)).trans ?_)
      · unfold Hid
        repeat (first | with_reducible exact Kep.refl _ | with_reducible refine Kep.drew ?_ | with_reducible refine Kep.alloc ?_ _)
  case rest =>
    obtain ⟨b, rfl, hge, hB, hK⟩ := hcut
    have hQ : Hid (wc.heap[w.heap.size + 1]? = some (.cells zeroF 98 (0, 0))) := hK.out.block (by simpa using heap_alloc_new (w.alloc _) _)
    have K : Hid (Kep w wc) := kep_trans (((Kep.refl _).alloc _).alloc _) hK.out
    have d4 : wc.cell? ⟨w.heap.size, 4, none⟩ = some (.string ⟨#[116]⟩) := (keep_row (t := 104) (cs := rowV x cls rd wr #[116]) (kep_trans ((Kep.refl _).alloc _) hK.out)).trans rfl
    have hb7 : wc.cell? ⟨b, 7, none⟩ = some (.bool false) := cell_of_block hB.out
    have hb8 : wc.cell? ⟨b, 8, none⟩ = some (.bool false) := cell_of_block hB.out
    have hb9 : wc.cell? ⟨b, 9, none⟩ = some (.bool false) := cell_of_block hB.out
    have hf7 : wc.frozen? ⟨b, 7, none⟩ = false := frozen_of_row _ _ _ _ _ hB.out
    have hf8 : wc.frozen? ⟨b, 8, none⟩ = false := frozen_of_row _ _ _ _ _ hB.out
    have hf9 : wc.frozen? ⟨b, 9, none⟩ = false := frozen_of_row _ _ _ _ _ hB.out
    have hne : ¬ b = w.heap.size := by omega
    have hne' : ¬ w.heap.size = b := by omega
    clear hK c1 c2
    go_wp2_with fail
    refine wp_loop_rounds 2 ?_
    rw [rounds_succ]
    go_wp2_with fail
    rw [rounds_succ]
    go_upto_region 13 with fail
    refine wp_region_lit ?_
    refine wpList_load_row rfl 98 _ rfl b rfl 98 (factV cls rd wr true false false) (0, 0) _ (heap_setCell_same _ b 7 _ _ (.bool true) (hB.out)) Tryd.underlying98 rfl sizeFact ?_
    refine wpList_store_row (by rfl) 98 _ _ (by rfl) (w.heap.size + 1) (factV cls rd wr true false false) (by rfl) (by rfl) 98 zeroF ((heap_setCell_other _ ⟨b, 7, none⟩ _ _ (by show w.heap.size + 1 ≠ b; omega)).trans (hQ.out)) sizeFact rfl (fact_one _ _ _ _ _ _) ?_
    go_wp2_with fail
    try simp only [Exit.inBlock, Exit.then]
    refine bodyPost_ret (results_cell_row rfl _ _ (w.heap.size + 1) 98 (factV cls rd wr true false false) (0, 0) _ rfl (setRow_heap _ _ _ _ _ _ ((heap_setCell_other _ ⟨b, 7, none⟩ _ _ (by show w.heap.size + 1 ≠ b; omega)).trans (hQ.out))) Tryd.underlying98 rfl sizeFact) rfl ⟨rfl, ?_⟩
    exact Kep.setRow ((K.out).setCell (a := ⟨b, 7, none⟩) (by show w.heap.size ≤ b; omega) _) _ _ (by omega)

set_option maxHeartbeats 4000000 in
theorem fa_2 (x : Value) (cls : Int) (rd wr : Array UInt8) (h1 : rd ∈ lets) (h2 : wr ∈ lets) (w : World) : Calls Tryd.prog 36 #[.agg (rowV x cls rd wr #[116, 102])] w fun e w' => e = .returned (.agg (factV cls rd wr true true false)) ∧ Kep w w' := by
  have c1 : Hid (∀ w, Calls Tryd.prog 52 #[.string ⟨rd⟩] w fun e w' => e = .returned (.agg (plV rd)) ∧ ∃ o1 o2, w' = (w.alloc o1).alloc o2) := fun w => placesBy_any rd h1 w
  have c2 : Hid (∀ w, Calls Tryd.prog 52 #[.string ⟨wr⟩] w fun e w' => e = .returned (.agg (plV wr)) ∧ ∃ o1 o2, w' = (w.alloc o1).alloc o2) := fun w => placesBy_any wr h2 w
  clear h1 h2
  unfold plV at c1 c2
  go_enter Tryd.func36, Tryd.ntmps36
  go_upto_region 1 with fail
  go_cut [3] from 5 to 13 (fun s3 wx => ∃ b : Nat, s3 = .pointer (some ⟨b, 0, none⟩) ∧ w.heap.size + 2 ≤ b ∧ Hid (wx.heap[b]? = some (.cells (factV cls rd wr false false false) 98 (0, 0))) ∧ Hid (Kep ((w.alloc (.cells (rowV x cls rd wr #[116, 102]) 104)).alloc (.cells zeroF 98)) wx))
  case first =>
    go_region_held3 (fun w' => w'.cell? ⟨w.heap.size, 1, none⟩ = some (.int .i64 cls) ∧ w'.cell? ⟨w.heap.size, 2, none⟩ = some (.string ⟨rd⟩) ∧ w'.cell? ⟨w.heap.size, 3, none⟩ = some (.string ⟨wr⟩)) (first | ((refine ⟨(keep_row (t := 104) (cs := rowV x cls rd wr #[116, 102]) ?_).trans rfl, (keep_row (t := 104) (cs := rowV x cls rd wr #[116, 102]) ?_).trans rfl, (keep_row (t := 104) (cs := rowV x cls rd wr #[116, 102]) ?_).trans rfl⟩) <;> ((repeat (first | with_reducible exact Kep.refl _ | with_reducible refine Kep.drew ?_ | with_reducible refine Kep.alloc ?_ _ | with_reducible refine Kep.setCell ?_ (by simp; omega) _)); done)) | (go_keep; done)) (first
      | (go_at_call_of 52 (Value.string ⟨rd⟩); refine (c1.out _).mono ?_; rintro e w' ⟨rfl, o1, o2, rfl⟩)
      | (go_at_call_of 52 (Value.string ⟨wr⟩); refine (c2.out _).mono ?_; rintro e w' ⟨rfl, o1, o2, rfl⟩))
    all_goals
      go_wp2_with fail
      go_meet
      refine ⟨_, rfl, by omega, ?_, ?_⟩
      · unfold Hid
        simp only [heap_drew]
        repeat (first | exact hp_at _ _ _ (by simp only [World.size_alloc]) | refine (hp_skip _ _ _ (by simp only [World.size_alloc]; omega)).trans ?_)
      · unfold Hid
        repeat (first | with_reducible exact Kep.refl _ | with_reducible refine Kep.drew ?_ | with_reducible refine Kep.alloc ?_ _)
  case rest =>
    obtain ⟨b, rfl, hge, hB, hK⟩ := hcut
    have hQ : Hid (wc.heap[w.heap.size + 1]? = some (.cells zeroF 98 (0, 0))) := hK.out.block (by simpa using heap_alloc_new (w.alloc _) _)
    have K : Hid (Kep w wc) := kep_trans (((Kep.refl _).alloc _).alloc _) hK.out
    have d4 : wc.cell? ⟨w.heap.size, 4, none⟩ = some (.string ⟨#[116, 102]⟩) := (keep_row (t := 104) (cs := rowV x cls rd wr #[116, 102]) (kep_trans ((Kep.refl _).alloc _) hK.out)).trans rfl
    have hb7 : wc.cell? ⟨b, 7, none⟩ = some (.bool false) := cell_of_block hB.out
    have hb8 : wc.cell? ⟨b, 8, none⟩ = some (.bool false) := cell_of_block hB.out
    have hb9 : wc.cell? ⟨b, 9, none⟩ = some (.bool false) := cell_of_block hB.out
    have hf7 : wc.frozen? ⟨b, 7, none⟩ = false := frozen_of_row _ _ _ _ _ hB.out
    have hf8 : wc.frozen? ⟨b, 8, none⟩ = false := frozen_of_row _ _ _ _ _ hB.out
    have hf9 : wc.frozen? ⟨b, 9, none⟩ = false := frozen_of_row _ _ _ _ _ hB.out
    have hne : ¬ b = w.heap.size := by omega
    have hne' : ¬ w.heap.size = b := by omega
    clear hK c1 c2
    go_wp2_with fail
    refine wp_loop_rounds 3 ?_
    rw [rounds_succ]
    go_wp2_with fail
    rw [rounds_succ]
    go_wp2_with fail
    rw [rounds_succ]
    go_upto_region 13 with fail
    refine wp_region_lit ?_
    refine wpList_load_row rfl 98 _ rfl b rfl 98 (factV cls rd wr true true false) (0, 0) _ (heap_setCell_same _ b 8 _ _ (.bool true) ((heap_setCell_same _ b 7 _ _ (.bool true) (hB.out)))) Tryd.underlying98 rfl sizeFact ?_
    refine wpList_store_row (by rfl) 98 _ _ (by rfl) (w.heap.size + 1) (factV cls rd wr true true false) (by rfl) (by rfl) 98 zeroF ((heap_setCell_other _ ⟨b, 8, none⟩ _ _ (by show w.heap.size + 1 ≠ b; omega)).trans (((heap_setCell_other _ ⟨b, 7, none⟩ _ _ (by show w.heap.size + 1 ≠ b; omega)).trans (hQ.out)))) sizeFact rfl (fact_one _ _ _ _ _ _) ?_
    go_wp2_with fail
    try simp only [Exit.inBlock, Exit.then]
    refine bodyPost_ret (results_cell_row rfl _ _ (w.heap.size + 1) 98 (factV cls rd wr true true false) (0, 0) _ rfl (setRow_heap _ _ _ _ _ _ ((heap_setCell_other _ ⟨b, 8, none⟩ _ _ (by show w.heap.size + 1 ≠ b; omega)).trans (((heap_setCell_other _ ⟨b, 7, none⟩ _ _ (by show w.heap.size + 1 ≠ b; omega)).trans (hQ.out))))) Tryd.underlying98 rfl sizeFact) rfl ⟨rfl, ?_⟩
    exact Kep.setRow ((((K.out).setCell (a := ⟨b, 7, none⟩) (by show w.heap.size ≤ b; omega) _)).setCell (a := ⟨b, 8, none⟩) (by show w.heap.size ≤ b; omega) _) _ _ (by omega)

set_option maxHeartbeats 4000000 in
theorem fa_3 (x : Value) (cls : Int) (rd wr : Array UInt8) (h1 : rd ∈ lets) (h2 : wr ∈ lets) (w : World) : Calls Tryd.prog 36 #[.agg (rowV x cls rd wr #[102])] w fun e w' => e = .returned (.agg (factV cls rd wr false true false)) ∧ Kep w w' := by
  have c1 : Hid (∀ w, Calls Tryd.prog 52 #[.string ⟨rd⟩] w fun e w' => e = .returned (.agg (plV rd)) ∧ ∃ o1 o2, w' = (w.alloc o1).alloc o2) := fun w => placesBy_any rd h1 w
  have c2 : Hid (∀ w, Calls Tryd.prog 52 #[.string ⟨wr⟩] w fun e w' => e = .returned (.agg (plV wr)) ∧ ∃ o1 o2, w' = (w.alloc o1).alloc o2) := fun w => placesBy_any wr h2 w
  clear h1 h2
  unfold plV at c1 c2
  go_enter Tryd.func36, Tryd.ntmps36
  go_upto_region 1 with fail
  go_cut [3] from 5 to 13 (fun s3 wx => ∃ b : Nat, s3 = .pointer (some ⟨b, 0, none⟩) ∧ w.heap.size + 2 ≤ b ∧ Hid (wx.heap[b]? = some (.cells (factV cls rd wr false false false) 98 (0, 0))) ∧ Hid (Kep ((w.alloc (.cells (rowV x cls rd wr #[102]) 104)).alloc (.cells zeroF 98)) wx))
  case first =>
    go_region_held3 (fun w' => w'.cell? ⟨w.heap.size, 1, none⟩ = some (.int .i64 cls) ∧ w'.cell? ⟨w.heap.size, 2, none⟩ = some (.string ⟨rd⟩) ∧ w'.cell? ⟨w.heap.size, 3, none⟩ = some (.string ⟨wr⟩)) (first | ((refine ⟨(keep_row (t := 104) (cs := rowV x cls rd wr #[102]) ?_).trans rfl, (keep_row (t := 104) (cs := rowV x cls rd wr #[102]) ?_).trans rfl, (keep_row (t := 104) (cs := rowV x cls rd wr #[102]) ?_).trans rfl⟩) <;> ((repeat (first | with_reducible exact Kep.refl _ | with_reducible refine Kep.drew ?_ | with_reducible refine Kep.alloc ?_ _ | with_reducible refine Kep.setCell ?_ (by simp; omega) _)); done)) | (go_keep; done)) (first
      | (go_at_call_of 52 (Value.string ⟨rd⟩); refine (c1.out _).mono ?_; rintro e w' ⟨rfl, o1, o2, rfl⟩)
      | (go_at_call_of 52 (Value.string ⟨wr⟩); refine (c2.out _).mono ?_; rintro e w' ⟨rfl, o1, o2, rfl⟩))
    all_goals
      go_wp2_with fail
      go_meet
      refine ⟨_, rfl, by omega, ?_, ?_⟩
      · unfold Hid
        simp only [heap_drew]
        repeat (first | exact hp_at _ _ _ (by simp only [World.size_alloc]) | refine (hp_skip _ _ _ (by simp only [World.size_alloc]; omega)).trans ?_)
      · unfold Hid
        repeat (first | with_reducible exact Kep.refl _ | with_reducible refine Kep.drew ?_ | with_reducible refine Kep.alloc ?_ _)
  case rest =>
    obtain ⟨b, rfl, hge, hB, hK⟩ := hcut
    have hQ : Hid (wc.heap[w.heap.size + 1]? = some (.cells zeroF 98 (0, 0))) := hK.out.block (by simpa using heap_alloc_new (w.alloc _) _)
    have K : Hid (Kep w wc) := kep_trans (((Kep.refl _).alloc _).alloc _) hK.out
    have d4 : wc.cell? ⟨w.heap.size, 4, none⟩ = some (.string ⟨#[102]⟩) := (keep_row (t := 104) (cs := rowV x cls rd wr #[102]) (kep_trans ((Kep.refl _).alloc _) hK.out)).trans rfl
    have hb7 : wc.cell? ⟨b, 7, none⟩ = some (.bool false) := cell_of_block hB.out
    have hb8 : wc.cell? ⟨b, 8, none⟩ = some (.bool false) := cell_of_block hB.out
    have hb9 : wc.cell? ⟨b, 9, none⟩ = some (.bool false) := cell_of_block hB.out
    have hf7 : wc.frozen? ⟨b, 7, none⟩ = false := frozen_of_row _ _ _ _ _ hB.out
    have hf8 : wc.frozen? ⟨b, 8, none⟩ = false := frozen_of_row _ _ _ _ _ hB.out
    have hf9 : wc.frozen? ⟨b, 9, none⟩ = false := frozen_of_row _ _ _ _ _ hB.out
    have hne : ¬ b = w.heap.size := by omega
    have hne' : ¬ w.heap.size = b := by omega
    clear hK c1 c2
    go_wp2_with fail
    refine wp_loop_rounds 2 ?_
    rw [rounds_succ]
    go_wp2_with fail
    rw [rounds_succ]
    go_upto_region 13 with fail
    refine wp_region_lit ?_
    refine wpList_load_row rfl 98 _ rfl b rfl 98 (factV cls rd wr false true false) (0, 0) _ (heap_setCell_same _ b 8 _ _ (.bool true) (hB.out)) Tryd.underlying98 rfl sizeFact ?_
    refine wpList_store_row (by rfl) 98 _ _ (by rfl) (w.heap.size + 1) (factV cls rd wr false true false) (by rfl) (by rfl) 98 zeroF ((heap_setCell_other _ ⟨b, 8, none⟩ _ _ (by show w.heap.size + 1 ≠ b; omega)).trans (hQ.out)) sizeFact rfl (fact_one _ _ _ _ _ _) ?_
    go_wp2_with fail
    try simp only [Exit.inBlock, Exit.then]
    refine bodyPost_ret (results_cell_row rfl _ _ (w.heap.size + 1) 98 (factV cls rd wr false true false) (0, 0) _ rfl (setRow_heap _ _ _ _ _ _ ((heap_setCell_other _ ⟨b, 8, none⟩ _ _ (by show w.heap.size + 1 ≠ b; omega)).trans (hQ.out))) Tryd.underlying98 rfl sizeFact) rfl ⟨rfl, ?_⟩
    exact Kep.setRow ((K.out).setCell (a := ⟨b, 8, none⟩) (by show w.heap.size ≤ b; omega) _) _ _ (by omega)

set_option maxHeartbeats 4000000 in
theorem fa_4 (x : Value) (cls : Int) (rd wr : Array UInt8) (h1 : rd ∈ lets) (h2 : wr ∈ lets) (w : World) : Calls Tryd.prog 36 #[.agg (rowV x cls rd wr #[115])] w fun e w' => e = .returned (.agg (factV cls rd wr false false true)) ∧ Kep w w' := by
  have c1 : Hid (∀ w, Calls Tryd.prog 52 #[.string ⟨rd⟩] w fun e w' => e = .returned (.agg (plV rd)) ∧ ∃ o1 o2, w' = (w.alloc o1).alloc o2) := fun w => placesBy_any rd h1 w
  have c2 : Hid (∀ w, Calls Tryd.prog 52 #[.string ⟨wr⟩] w fun e w' => e = .returned (.agg (plV wr)) ∧ ∃ o1 o2, w' = (w.alloc o1).alloc o2) := fun w => placesBy_any wr h2 w
  clear h1 h2
  unfold plV at c1 c2
  go_enter Tryd.func36, Tryd.ntmps36
  go_upto_region 1 with fail
  go_cut [3] from 5 to 13 (fun s3 wx => ∃ b : Nat, s3 = .pointer (some ⟨b, 0, none⟩) ∧ w.heap.size + 2 ≤ b ∧ Hid (wx.heap[b]? = some (.cells (factV cls rd wr false false false) 98 (0, 0))) ∧ Hid (Kep ((w.alloc (.cells (rowV x cls rd wr #[115]) 104)).alloc (.cells zeroF 98)) wx))
  case first =>
    go_region_held3 (fun w' => w'.cell? ⟨w.heap.size, 1, none⟩ = some (.int .i64 cls) ∧ w'.cell? ⟨w.heap.size, 2, none⟩ = some (.string ⟨rd⟩) ∧ w'.cell? ⟨w.heap.size, 3, none⟩ = some (.string ⟨wr⟩)) (first | ((refine ⟨(keep_row (t := 104) (cs := rowV x cls rd wr #[115]) ?_).trans rfl, (keep_row (t := 104) (cs := rowV x cls rd wr #[115]) ?_).trans rfl, (keep_row (t := 104) (cs := rowV x cls rd wr #[115]) ?_).trans rfl⟩) <;> ((repeat (first | with_reducible exact Kep.refl _ | with_reducible refine Kep.drew ?_ | with_reducible refine Kep.alloc ?_ _ | with_reducible refine Kep.setCell ?_ (by simp; omega) _)); done)) | (go_keep; done)) (first
      | (go_at_call_of 52 (Value.string ⟨rd⟩); refine (c1.out _).mono ?_; rintro e w' ⟨rfl, o1, o2, rfl⟩)
      | (go_at_call_of 52 (Value.string ⟨wr⟩); refine (c2.out _).mono ?_; rintro e w' ⟨rfl, o1, o2, rfl⟩))
    all_goals
      go_wp2_with fail
      go_meet
      refine ⟨_, rfl, by omega, ?_, ?_⟩
      · unfold Hid
        simp only [heap_drew]
        repeat (first | exact hp_at _ _ _ (by simp only [World.size_alloc]) | refine (hp_skip _ _ _ (by simp only [World.size_alloc]; omega)).trans ?_)
      · unfold Hid
        repeat (first | with_reducible exact Kep.refl _ | with_reducible refine Kep.drew ?_ | with_reducible refine Kep.alloc ?_ _)
  case rest =>
    obtain ⟨b, rfl, hge, hB, hK⟩ := hcut
    have hQ : Hid (wc.heap[w.heap.size + 1]? = some (.cells zeroF 98 (0, 0))) := hK.out.block (by simpa using heap_alloc_new (w.alloc _) _)
    have K : Hid (Kep w wc) := kep_trans (((Kep.refl _).alloc _).alloc _) hK.out
    have d4 : wc.cell? ⟨w.heap.size, 4, none⟩ = some (.string ⟨#[115]⟩) := (keep_row (t := 104) (cs := rowV x cls rd wr #[115]) (kep_trans ((Kep.refl _).alloc _) hK.out)).trans rfl
    have hb7 : wc.cell? ⟨b, 7, none⟩ = some (.bool false) := cell_of_block hB.out
    have hb8 : wc.cell? ⟨b, 8, none⟩ = some (.bool false) := cell_of_block hB.out
    have hb9 : wc.cell? ⟨b, 9, none⟩ = some (.bool false) := cell_of_block hB.out
    have hf7 : wc.frozen? ⟨b, 7, none⟩ = false := frozen_of_row _ _ _ _ _ hB.out
    have hf8 : wc.frozen? ⟨b, 8, none⟩ = false := frozen_of_row _ _ _ _ _ hB.out
    have hf9 : wc.frozen? ⟨b, 9, none⟩ = false := frozen_of_row _ _ _ _ _ hB.out
    have hne : ¬ b = w.heap.size := by omega
    have hne' : ¬ w.heap.size = b := by omega
    clear hK c1 c2
    go_wp2_with fail
    refine wp_loop_rounds 2 ?_
    rw [rounds_succ]
    go_wp2_with fail
    rw [rounds_succ]
    go_upto_region 13 with fail
    refine wp_region_lit ?_
    refine wpList_load_row rfl 98 _ rfl b rfl 98 (factV cls rd wr false false true) (0, 0) _ (heap_setCell_same _ b 9 _ _ (.bool true) (hB.out)) Tryd.underlying98 rfl sizeFact ?_
    refine wpList_store_row (by rfl) 98 _ _ (by rfl) (w.heap.size + 1) (factV cls rd wr false false true) (by rfl) (by rfl) 98 zeroF ((heap_setCell_other _ ⟨b, 9, none⟩ _ _ (by show w.heap.size + 1 ≠ b; omega)).trans (hQ.out)) sizeFact rfl (fact_one _ _ _ _ _ _) ?_
    go_wp2_with fail
    try simp only [Exit.inBlock, Exit.then]
    refine bodyPost_ret (results_cell_row rfl _ _ (w.heap.size + 1) 98 (factV cls rd wr false false true) (0, 0) _ rfl (setRow_heap _ _ _ _ _ _ ((heap_setCell_other _ ⟨b, 9, none⟩ _ _ (by show w.heap.size + 1 ≠ b; omega)).trans (hQ.out))) Tryd.underlying98 rfl sizeFact) rfl ⟨rfl, ?_⟩
    exact Kep.setRow ((K.out).setCell (a := ⟨b, 9, none⟩) (by show w.heap.size ≤ b; omega) _) _ _ (by omega)

set_option maxHeartbeats 4000000 in
theorem fa_5 (x : Value) (cls : Int) (rd wr : Array UInt8) (h1 : rd ∈ lets) (h2 : wr ∈ lets) (w : World) : Calls Tryd.prog 36 #[.agg (rowV x cls rd wr #[116, 115])] w fun e w' => e = .returned (.agg (factV cls rd wr true false true)) ∧ Kep w w' := by
  have c1 : Hid (∀ w, Calls Tryd.prog 52 #[.string ⟨rd⟩] w fun e w' => e = .returned (.agg (plV rd)) ∧ ∃ o1 o2, w' = (w.alloc o1).alloc o2) := fun w => placesBy_any rd h1 w
  have c2 : Hid (∀ w, Calls Tryd.prog 52 #[.string ⟨wr⟩] w fun e w' => e = .returned (.agg (plV wr)) ∧ ∃ o1 o2, w' = (w.alloc o1).alloc o2) := fun w => placesBy_any wr h2 w
  clear h1 h2
  unfold plV at c1 c2
  go_enter Tryd.func36, Tryd.ntmps36
  go_upto_region 1 with fail
  go_cut [3] from 5 to 13 (fun s3 wx => ∃ b : Nat, s3 = .pointer (some ⟨b, 0, none⟩) ∧ w.heap.size + 2 ≤ b ∧ Hid (wx.heap[b]? = some (.cells (factV cls rd wr false false false) 98 (0, 0))) ∧ Hid (Kep ((w.alloc (.cells (rowV x cls rd wr #[116, 115]) 104)).alloc (.cells zeroF 98)) wx))
  case first =>
    go_region_held3 (fun w' => w'.cell? ⟨w.heap.size, 1, none⟩ = some (.int .i64 cls) ∧ w'.cell? ⟨w.heap.size, 2, none⟩ = some (.string ⟨rd⟩) ∧ w'.cell? ⟨w.heap.size, 3, none⟩ = some (.string ⟨wr⟩)) (first | ((refine ⟨(keep_row (t := 104) (cs := rowV x cls rd wr #[116, 115]) ?_).trans rfl, (keep_row (t := 104) (cs := rowV x cls rd wr #[116, 115]) ?_).trans rfl, (keep_row (t := 104) (cs := rowV x cls rd wr #[116, 115]) ?_).trans rfl⟩) <;> ((repeat (first | with_reducible exact Kep.refl _ | with_reducible refine Kep.drew ?_ | with_reducible refine Kep.alloc ?_ _ | with_reducible refine Kep.setCell ?_ (by simp; omega) _)); done)) | (go_keep; done)) (first
      | (go_at_call_of 52 (Value.string ⟨rd⟩); refine (c1.out _).mono ?_; rintro e w' ⟨rfl, o1, o2, rfl⟩)
      | (go_at_call_of 52 (Value.string ⟨wr⟩); refine (c2.out _).mono ?_; rintro e w' ⟨rfl, o1, o2, rfl⟩))
    all_goals
      go_wp2_with fail
      go_meet
      refine ⟨_, rfl, by omega, ?_, ?_⟩
      · unfold Hid
        simp only [heap_drew]
        repeat (first | exact hp_at _ _ _ (by simp only [World.size_alloc]) | refine (hp_skip _ _ _ (by simp only [World.size_alloc]; omega)).trans ?_)
      · unfold Hid
        repeat (first | with_reducible exact Kep.refl _ | with_reducible refine Kep.drew ?_ | with_reducible refine Kep.alloc ?_ _)
  case rest =>
    obtain ⟨b, rfl, hge, hB, hK⟩ := hcut
    have hQ : Hid (wc.heap[w.heap.size + 1]? = some (.cells zeroF 98 (0, 0))) := hK.out.block (by simpa using heap_alloc_new (w.alloc _) _)
    have K : Hid (Kep w wc) := kep_trans (((Kep.refl _).alloc _).alloc _) hK.out
    have d4 : wc.cell? ⟨w.heap.size, 4, none⟩ = some (.string ⟨#[116, 115]⟩) := (keep_row (t := 104) (cs := rowV x cls rd wr #[116, 115]) (kep_trans ((Kep.refl _).alloc _) hK.out)).trans rfl
    have hb7 : wc.cell? ⟨b, 7, none⟩ = some (.bool false) := cell_of_block hB.out
    have hb8 : wc.cell? ⟨b, 8, none⟩ = some (.bool false) := cell_of_block hB.out
    have hb9 : wc.cell? ⟨b, 9, none⟩ = some (.bool false) := cell_of_block hB.out
    have hf7 : wc.frozen? ⟨b, 7, none⟩ = false := frozen_of_row _ _ _ _ _ hB.out
    have hf8 : wc.frozen? ⟨b, 8, none⟩ = false := frozen_of_row _ _ _ _ _ hB.out
    have hf9 : wc.frozen? ⟨b, 9, none⟩ = false := frozen_of_row _ _ _ _ _ hB.out
    have hne : ¬ b = w.heap.size := by omega
    have hne' : ¬ w.heap.size = b := by omega
    clear hK c1 c2
    go_wp2_with fail
    refine wp_loop_rounds 3 ?_
    rw [rounds_succ]
    go_wp2_with fail
    rw [rounds_succ]
    go_wp2_with fail
    rw [rounds_succ]
    go_upto_region 13 with fail
    refine wp_region_lit ?_
    refine wpList_load_row rfl 98 _ rfl b rfl 98 (factV cls rd wr true false true) (0, 0) _ (heap_setCell_same _ b 9 _ _ (.bool true) ((heap_setCell_same _ b 7 _ _ (.bool true) (hB.out)))) Tryd.underlying98 rfl sizeFact ?_
    refine wpList_store_row (by rfl) 98 _ _ (by rfl) (w.heap.size + 1) (factV cls rd wr true false true) (by rfl) (by rfl) 98 zeroF ((heap_setCell_other _ ⟨b, 9, none⟩ _ _ (by show w.heap.size + 1 ≠ b; omega)).trans (((heap_setCell_other _ ⟨b, 7, none⟩ _ _ (by show w.heap.size + 1 ≠ b; omega)).trans (hQ.out)))) sizeFact rfl (fact_one _ _ _ _ _ _) ?_
    go_wp2_with fail
    try simp only [Exit.inBlock, Exit.then]
    refine bodyPost_ret (results_cell_row rfl _ _ (w.heap.size + 1) 98 (factV cls rd wr true false true) (0, 0) _ rfl (setRow_heap _ _ _ _ _ _ ((heap_setCell_other _ ⟨b, 9, none⟩ _ _ (by show w.heap.size + 1 ≠ b; omega)).trans (((heap_setCell_other _ ⟨b, 7, none⟩ _ _ (by show w.heap.size + 1 ≠ b; omega)).trans (hQ.out))))) Tryd.underlying98 rfl sizeFact) rfl ⟨rfl, ?_⟩
    exact Kep.setRow ((((K.out).setCell (a := ⟨b, 7, none⟩) (by show w.heap.size ≤ b; omega) _)).setCell (a := ⟨b, 9, none⟩) (by show w.heap.size ≤ b; omega) _) _ _ (by omega)

theorem fact_any (x : Value) (cls : Int) (rd wr m : Array UInt8) (h1 : rd ∈ lets) (h2 : wr ∈ lets) (h3 : m ∈ marks) (w : World) : Calls Tryd.prog 36 #[.agg (rowV x cls rd wr m)] w fun e w' => e = .returned (.agg (factV cls rd wr (mk 116 m) (mk 102 m) (mk 115 m))) ∧ Kep w w' := by
  simp only [marks, List.mem_cons, List.not_mem_nil, or_false] at h3
  rcases h3 with rfl | rfl | rfl | rfl | rfl | rfl
  · exact fa_0 x cls rd wr h1 h2 w
  · exact fa_1 x cls rd wr h1 h2 w
  · exact fa_2 x cls rd wr h1 h2 w
  · exact fa_3 x cls rd wr h1 h2 w
  · exact fa_4 x cls rd wr h1 h2 w
  · exact fa_5 x cls rd wr h1 h2 w
end Go.Proofs.YtpalbpjmjbcelaaDoor
