/- Part of a proof. -/
import Derived.Deep.CutRange
import Derived.Deep.RegionHeld3
import Derived.Maps.Own
import Derived.Maps.OwnSet
import Derived.Maps.Views
import Derived.Carry
import Derived.Test.YtpalbpjmjbcelaaDoorJ02
namespace Go.Proofs.YtpalbpjmjbcelaaDoor
open Go.RowKit
set_option linter.unusedVariables false
set_option linter.unusedSimpArgs false
def marks : List (Array UInt8) := [#[], #[116], #[116, 102], #[102], #[115], #[116, 115]]
def mk (c : UInt8) (m : Array UInt8) : Bool := m.toList.contains c
abbrev rowV (x : Value) (cls : Int) (rd wr m : Array UInt8) : Array Value := #[x, .int .i64 cls, .string ⟨rd⟩, .string ⟨wr⟩, .string ⟨m⟩]
abbrev factV (cls : Int) (rd wr : Array UInt8) (t f s : Bool) : Array Value := #[.int .i64 cls, .bool (pA rd), .bool (pB rd), .int .u8 (pI rd), .bool (pA wr), .bool (pB wr), .int .u8 (pI wr), .bool t, .bool f, .bool s]
theorem keep_row {w w' : World} {cs : Array Value} {t : TypeId} {i : Nat} (h : Kep (w.alloc (.cells cs t)) w') : w'.cell? ⟨w.heap.size, i, none⟩ = cs[i]? :=
  (h.cell (by simp)).trans (cell_of_block (heap_alloc_new w _))
theorem hp_at (W : World) (o : Obj) (n : Nat) (h : n = W.heap.size) : (W.alloc o).heap[n]? = some o := by subst h; exact heap_alloc_new W o
theorem hp_skip (W : World) (o : Obj) (n : Nat) (h : n < W.heap.size) : (W.alloc o).heap[n]? = W.heap[n]? := by simp only [World.alloc, Array.getElem?_push_lt h, Array.getElem?_eq_getElem h]
theorem sizeFact : (Tryd.prog.info? 98).map (·.size) = some 10 := by kernel_rfl
abbrev zeroF : Array Value := #[.int .i64 0, .bool false, .bool false, .int .u8 0, .bool false, .bool false, .int .u8 0, .bool false, .bool false, .bool false]
theorem fact_one (cls : Int) (rd wr : Array UInt8) (t f s : Bool) : (factV cls rd wr t f s).all (·.oneCell') = true := by simp [factV, Value.oneCell']
theorem block_ge {w : World} {g : Nat} {o : Obj} (h : w.heap[g]? = some o) : g < w.heap.size := by
  rcases Nat.lt_or_ge g w.heap.size with h' | h'
  · exact h'
  · rw [Array.getElem?_eq_none h'] at h; cases h
set_option maxHeartbeats 4000000 in
theorem fa_0 (x : Value) (cls : Int) (rd wr : Array UInt8) (h1 : rd ∈ lets) (h2 : wr ∈ lets) (w : World) : Calls Tryd.prog 36 #[.agg (rowV x cls rd wr #[])] w fun e w' => e = .returned (.agg (factV cls rd wr false false false)) ∧ Kep w w' := by
  have c1 : Hid (∀ w, Calls Tryd.prog 52 #[.string ⟨rd⟩] w fun e w' => e = .returned (.agg (plV rd)) ∧ ∃ o1 o2, w' = (w.alloc o1).alloc o2) := fun w => placesBy_any rd h1 w
  have c2 : Hid (∀ w, Calls Tryd.prog 52 #[.string ⟨wr⟩] w fun e w' => e = .returned (.agg (plV wr)) ∧ ∃ o1 o2, w' = (w.alloc o1).alloc o2) := fun w => placesBy_any wr h2 w
  clear h1 h2
  unfold plV at c1 c2
  go_enter Tryd.func36, Tryd.ntmps36
  go_upto_region 1 with fail
  go_cut [3] from 5 to 13 (fun s3 wx => ∃ b : Nat, s3 = .pointer (some ⟨b, 0, none⟩) ∧ w.heap.size + 2 ≤ b ∧ Hid (wx.heap[b]? = some (.cells (factV cls rd wr false false false) 98 (0, 0))) ∧ Hid (Kep ((w.alloc (.cells (rowV x cls rd wr #[]) 104)).alloc (.cells zeroF 98)) wx))
  case first =>
    go_region_held3 (fun w' => w'.cell? ⟨w.heap.size, 1, none⟩ = some (.int .i64 cls) ∧ w'.cell? ⟨w.heap.size, 2, none⟩ = some (.string ⟨rd⟩) ∧ w'.cell? ⟨w.heap.size, 3, none⟩ = some (.string ⟨wr⟩)) (first | ((refine ⟨(keep_row (t := 104) (cs := rowV x cls rd wr #[]) ?_).trans rfl, (keep_row (t := 104) (cs := rowV x cls rd wr #[]) ?_).trans rfl, (keep_row (t := 104) (cs := rowV x cls rd wr #[]) ?_).trans rfl⟩) <;> ((repeat (first | with_reducible exact Kep.refl _ | with_reducible refine Kep.drew ?_ | with_reducible refine Kep.alloc ?_ _ | with_reducible refine Kep.setCell ?_ (by simp; omega) _)); done)) | (go_keep; done)) (first
      | (go_at_call_of 52 (Value.string ⟨rd⟩); refine (c1.out _).mono ?_; rintro e w' ⟨rfl, o1, o2, rfl⟩)
      | (go_at_call_of 52 (Value.string ⟨wr⟩); refine (c2.out _).mono ?_; rintro e w' ⟨rfl, o1, o2, rfl⟩))
    all_goals
      go_wp2_with fail
      go_meet
      refine ⟨_, rfl, by omega, ?_, ?_⟩
      · unfold Hid
        simp only [heap_drew]
        repeat (first | exact hp_at _ _ _ (by simp only [World.size_alloc]) | refine (hp_skip _ _ _ (by simp only [World.size_alloc]; omega)).trans ?_)
      · unfold Hid
        repeat (first | with_reducible exact Kep.refl _ | with_reducible refine Kep.drew ?_ | with_reducible refine Kep.alloc ?_ _)
  case rest =>
    obtain ⟨b, rfl, hge, hB, hK⟩ := hcut
    have hQ : Hid (wc.heap[w.heap.size + 1]? = some (.cells zeroF 98 (0, 0))) := hK.out.block (by simpa using heap_alloc_new (w.alloc _) _)
    have K : Hid (Kep w wc) := kep_trans (((Kep.refl _).alloc _).alloc _) hK.out
    have d4 : wc.cell? ⟨w.heap.size, 4, none⟩ = some (.string ⟨#[]⟩) := (keep_row (t := 104) (cs := rowV x cls rd wr #[]) (kep_trans ((Kep.refl _).alloc _) hK.out)).trans rfl
    have hb7 : wc.cell? ⟨b, 7, none⟩ = some (.bool false) := cell_of_block hB.out
    have hb8 : wc.cell? ⟨b, 8, none⟩ = some (.bool false) := cell_of_block hB.out
    have hb9 : wc.cell? ⟨b, 9, none⟩ = some (.bool false) := cell_of_block hB.out
    have hf7 : wc.frozen? ⟨b, 7, none⟩ = false := frozen_of_row _ _ _ _ _ hB.out
    have hf8 : wc.frozen? ⟨b, 8, none⟩ = false := frozen_of_row _ _ _ _ _ hB.out
    have hf9 : wc.frozen? ⟨b, 9, none⟩ = false := frozen_of_row _ _ _ _ _ hB.out
    have hne : ¬ b = w.heap.size := by omega
    have hne' : ¬ w.heap.size = b := by omega
    clear hK c1 c2
    go_wp2_with fail
    refine wp_loop_rounds 1 ?_
    rw [rounds_succ]
    go_upto_region 13 with fail
    refine wp_region_lit ?_
    refine wpList_load_row rfl 98 _ rfl b rfl 98 (factV cls rd wr false false false) (0, 0) _ hB.out Tryd.underlying98 rfl sizeFact ?_
    refine wpList_store_row (by rfl) 98 _ _ (by rfl) (w.heap.size + 1) (factV cls rd wr false false false) (by rfl) (by rfl) 98 zeroF hQ.out sizeFact rfl (fact_one _ _ _ _ _ _) ?_
    go_wp2_with fail
    try simp only [Exit.inBlock, Exit.then]
    refine bodyPost_ret (results_cell_row rfl _ _ (w.heap.size + 1) 98 (factV cls rd wr false false false) (0, 0) _ rfl (setRow_heap _ _ _ _ _ _ hQ.out) Tryd.underlying98 rfl sizeFact) rfl ⟨rfl, ?_⟩
    exact Kep.setRow K.out _ _ (by omega)
set_option maxHeartbeats 4000000 in
theorem fa_1 (x : Value) (cls : Int) (rd wr : Array UInt8) (h1 : rd ∈ lets) (h2 : wr ∈ lets) (w : World) : Calls Tryd.prog 36 #[.agg (rowV x cls rd wr #[116])] w fun e w' => e = .returned (.agg (factV cls rd wr true false false)) ∧ Kep w w' := by
  have c1 : Hid (∀ w, Calls Tryd.prog 52 #[.string ⟨rd⟩] w fun e w' => e = .returned (.agg (plV rd)) ∧ ∃ o1 o2, w' = (w.alloc o1).alloc o2) := fun w => placesBy_any rd h1 w
  have c2 : Hid (∀ w, Calls Tryd.prog 52 #[.string ⟨wr⟩] w fun e w' => e = .returned (.agg (plV wr)) ∧ ∃ o1 o2, w' = (w.alloc o1).alloc o2) := fun w => placesBy_any wr h2 w
  clear h1 h2
  unfold plV at c1 c2
  go_enter Tryd.func36, Tryd.ntmps36
  go_upto_region 1 with fail
  go_cut [3] from 5 to 13 (fun s3 wx => ∃ b : Nat, s3 = .pointer (some ⟨b, 0, none⟩) ∧ w.heap.size + 2 ≤ b ∧ Hid (wx.heap[b]? = some (.cells (factV cls rd wr false false false) 98 (0, 0))) ∧ Hid (Kep ((w.alloc (.cells (rowV x cls rd wr #[116]) 104)).alloc (.cells zeroF 98)) wx))
  case first =>
    go_region_held3 (fun w' => w'.cell? ⟨w.heap.size, 1, none⟩ = some (.int .i64 cls) ∧ w'.cell? ⟨w.heap.size, 2, none⟩ = some (.string ⟨rd⟩) ∧ w'.cell? ⟨w.heap.size, 3, none⟩ = some (.string ⟨wr⟩)) (first | ((refine ⟨(keep_row (t := 104) (cs := rowV x cls rd wr #[116]) ?_).trans rfl, (keep_row (t := 104) (cs := rowV x cls rd wr #[116]) ?_).trans rfl, (keep_row (t := 104) (cs := rowV x cls rd wr #[116]) ?_).trans rfl⟩) <;> ((repeat (first | with_reducible exact Kep.refl _ | with_reducible refine Kep.drew ?_ | with_reducible refine Kep.alloc ?_ _ | with_reducible refine Kep.setCell ?_ (by simp; omega) _)); done)) | (go_keep; done)) (first
      | (go_at_call_of 52 (Value.string ⟨rd⟩); refine (c1.out _).mono ?_; rintro e w' ⟨rfl, o1, o2, rfl⟩)
      | (go_at_call_of 52 (Value.string ⟨wr⟩); refine (c2.out _).mono ?_; rintro e w' ⟨rfl, o1, o2, rfl⟩))
    all_goals
      go_wp2_with fail
      go_meet
      refine ⟨_, rfl, by omega, ?_, ?_⟩
      · unfold Hid
        simp only [heap_drew]
        repeat (first | exact hp_at _ _ _ (by simp only [World.size_alloc]) | refine (hp_skip _ _ _ (by simp only [World.size_alloc]; omega)).trans ?_)
      · unfold Hid
        repeat (first | with_reducible exact Kep.refl _ | with_reducible refine Kep.drew ?_ | with_reducible refine Kep.alloc ?_ _)
  case rest =>
    obtain ⟨b, rfl, hge, hB, hK⟩ := hcut
    have hQ : Hid (wc.heap[w.heap.size + 1]? = some (.cells zeroF 98 (0, 0))) := hK.out.block (by simpa using heap_alloc_new (w.alloc _) _)
    have K : Hid (Kep w wc) := kep_trans (((Kep.refl _).alloc _).alloc _) hK.out
    have d4 : wc.cell? ⟨w.heap.size, 4, none⟩ = some (.string ⟨#[116]⟩) := (keep_row (t := 104) (cs := rowV x cls rd wr #[116]) (kep_trans ((Kep.refl _).alloc _) hK.out)).trans rfl
    have hb7 : wc.cell? ⟨b, 7, none⟩ = some (.bool false) := cell_of_block hB.out
    have hb8 : wc.cell? ⟨b, 8, none⟩ = some (.bool false) := cell_of_block hB.out
    have hb9 : wc.cell? ⟨b, 9, none⟩ = some (.bool false) := cell_of_block hB.out
    have hf7 : wc.frozen? ⟨b, 7, none⟩ = false := frozen_of_row _ _ _ _ _ hB.out
    have hf8 : wc.frozen? ⟨b, 8, none⟩ = false := frozen_of_row _ _ _ _ _ hB.out
    have hf9 : wc.frozen? ⟨b, 9, none⟩ = false := frozen_of_row _ _ _ _ _ hB.out
    have hne : ¬ b = w.heap.size := by omega
    have hne' : ¬ w.heap.size = b := by omega
    clear hK c1 c2
    go_wp2_with fail
    refine wp_loop_rounds 2 ?_
    rw [rounds_succ]
    go_wp2_with fail
    rw [rounds_succ]
    go_upto_region 13 with fail
    refine wp_region_lit ?_
    refine wpList_load_row rfl 98 _ rfl b rfl 98 (factV cls rd wr true false false) (0, 0) _ (heap_setCell_same _ b 7 _ _ (.bool true) (hB.out)) Tryd.underlying98 rfl sizeFact ?_
    refine wpList_store_row (by rfl) 98 _ _ (by rfl) (w.heap.size + 1) (factV cls rd wr true false false) (by rfl) (by rfl) 98 zeroF ((heap_setCell_other _ ⟨b, 7, none⟩ _ _ (by show w.heap.size + 1 ≠ b; omega)).trans (hQ.out)) sizeFact rfl (fact_one _ _ _ _ _ _) ?_
    go_wp2_with fail
    try simp only [Exit.inBlock, Exit.then]
    refine bodyPost_ret (results_cell_row rfl _ _ (w.heap.size + 1) 98 (factV cls rd wr true false false) (0, 0) _ rfl (setRow_heap _ _ _ _ _ _ ((heap_setCell_other _ ⟨b, 7, none⟩ _ _ (by show w.heap.size + 1 ≠ b; omega)).trans (hQ.out))) Tryd.underlying98 rfl sizeFact) rfl ⟨rfl, ?_⟩
    exact Kep.setRow ((K.out).setCell (a := ⟨b, 7, none⟩) (by show w.heap.size ≤ b; omega) _) _ _ (by omega)
set_option maxHeartbeats 4000000 in
theorem fa_2 (x : Value) (cls : Int) (rd wr : Array UInt8) (h1 : rd ∈ lets) (h2 : wr ∈ lets) (w : World) : Calls Tryd.prog 36 #[.agg (rowV x cls rd wr #[116, 102])] w fun e w' => e = .returned (.agg (factV cls rd wr true true false)) ∧ Kep w w' := by
  have c1 : Hid (∀ w, Calls Tryd.prog 52 #[.string ⟨rd⟩] w fun e w' => e = .returned (.agg (plV rd)) ∧ ∃ o1 o2, w' = (w.alloc o1).alloc o2) := fun w => placesBy_any rd h1 w
  have c2 : Hid (∀ w, Calls Tryd.prog 52 #[.string ⟨wr⟩] w fun e w' => e = .returned (.agg (plV wr)) ∧ ∃ o1 o2, w' = (w.alloc o1).alloc o2) := fun w => placesBy_any wr h2 w
  clear h1 h2
  unfold plV at c1 c2
  go_enter Tryd.func36, Tryd.ntmps36
  go_upto_region 1 with fail
  go_cut [3] from 5 to 13 (fun s3 wx => ∃ b : Nat, s3 = .pointer (some ⟨b, 0, none⟩) ∧ w.heap.size + 2 ≤ b ∧ Hid (wx.heap[b]? = some (.cells (factV cls rd wr false false false) 98 (0, 0))) ∧ Hid (Kep ((w.alloc (.cells (rowV x cls rd wr #[116, 102]) 104)).alloc (.cells zeroF 98)) wx))
  case first =>
    go_region_held3 (fun w' => w'.cell? ⟨w.heap.size, 1, none⟩ = some (.int .i64 cls) ∧ w'.cell? ⟨w.heap.size, 2, none⟩ = some (.string ⟨rd⟩) ∧ w'.cell? ⟨w.heap.size, 3, none⟩ = some (.string ⟨wr⟩)) (first | ((refine ⟨(keep_row (t := 104) (cs := rowV x cls rd wr #[116, 102]) ?_).trans rfl, (keep_row (t := 104) (cs := rowV x cls rd wr #[116, 102]) ?_).trans rfl, (keep_row (t := 104) (cs := rowV x cls rd wr #[116, 102]) ?_).trans rfl⟩) <;> ((repeat (first | with_reducible exact Kep.refl _ | with_reducible refine Kep.drew ?_ | with_reducible refine Kep.alloc ?_ _ | with_reducible refine Kep.setCell ?_ (by simp; omega) _)); done)) | (go_keep; done)) (first
      | (go_at_call_of 52 (Value.string ⟨rd⟩); refine (c1.out _).mono ?_; rintro e w' ⟨rfl, o1, o2, rfl⟩)
      | (go_at_call_of 52 (Value.string ⟨wr⟩); refine (c2.out _).mono ?_; rintro e w' ⟨rfl, o1, o2, rfl⟩))
    all_goals
      go_wp2_with fail
      go_meet
      refine ⟨_, rfl, by omega, ?_, ?_⟩
      · unfold Hid
        simp only [heap_drew]
        repeat (first | exact hp_at _ _ _ (by simp only [World.size_alloc]) | refine (hp_skip _ _ _ (by simp only [World.size_alloc]; omega)).trans ?_)
      · unfold Hid
        repeat (first | with_reducible exact Kep.refl _ | with_reducible refine Kep.drew ?_ | with_reducible refine Kep.alloc ?_ _)
  case rest =>
    obtain ⟨b, rfl, hge, hB, hK⟩ := hcut
    have hQ : Hid (wc.heap[w.heap.size + 1]? = some (.cells zeroF 98 (0, 0))) := hK.out.block (by simpa using heap_alloc_new (w.alloc _) _)
    have K : Hid (Kep w wc) := kep_trans (((Kep.refl _).alloc _).alloc _) hK.out
    have d4 : wc.cell? ⟨w.heap.size, 4, none⟩ = some (.string ⟨#[116, 102]⟩) := (keep_row (t := 104) (cs := rowV x cls rd wr #[116, 102]) (kep_trans ((Kep.refl _).alloc _) hK.out)).trans rfl
    have hb7 : wc.cell? ⟨b, 7, none⟩ = some (.bool false) := cell_of_block hB.out
    have hb8 : wc.cell? ⟨b, 8, none⟩ = some (.bool false) := cell_of_block hB.out
    have hb9 : wc.cell? ⟨b, 9, none⟩ = some (.bool false) := cell_of_block hB.out
    have hf7 : wc.frozen? ⟨b, 7, none⟩ = false := frozen_of_row _ _ _ _ _ hB.out
    have hf8 : wc.frozen? ⟨b, 8, none⟩ = false := frozen_of_row _ _ _ _ _ hB.out
    have hf9 : wc.frozen? ⟨b, 9, none⟩ = false := frozen_of_row _ _ _ _ _ hB.out
    have hne : ¬ b = w.heap.size := by omega
    have hne' : ¬ w.heap.size = b := by omega
    clear hK c1 c2
    go_wp2_with fail
    refine wp_loop_rounds 3 ?_
    rw [rounds_succ]
    go_wp2_with fail
    rw [rounds_succ]
    go_wp2_with fail
    rw [rounds_succ]
    go_upto_region 13 with fail
    refine wp_region_lit ?_
    refine wpList_load_row rfl 98 _ rfl b rfl 98 (factV cls rd wr true true false) (0, 0) _ (heap_setCell_same _ b 8 _ _ (.bool true) ((heap_setCell_same _ b 7 _ _ (.bool true) (hB.out)))) Tryd.underlying98 rfl sizeFact ?_
    refine wpList_store_row (by rfl) 98 _ _ (by rfl) (w.heap.size + 1) (factV cls rd wr true true false) (by rfl) (by rfl) 98 zeroF ((heap_setCell_other _ ⟨b, 8, none⟩ _ _ (by show w.heap.size + 1 ≠ b; omega)).trans (((heap_setCell_other _ ⟨b, 7, none⟩ _ _ (by show w.heap.size + 1 ≠ b; omega)).trans (hQ.out)))) sizeFact rfl (fact_one _ _ _ _ _ _) ?_
    go_wp2_with fail
    try simp only [Exit.inBlock, Exit.then]
    refine bodyPost_ret (results_cell_row rfl _ _ (w.heap.size + 1) 98 (factV cls rd wr true true false) (0, 0) _ rfl (setRow_heap _ _ _ _ _ _ ((heap_setCell_other _ ⟨b, 8, none⟩ _ _ (by show w.heap.size + 1 ≠ b; omega)).trans (((heap_setCell_other _ ⟨b, 7, none⟩ _ _ (by show w.heap.size + 1 ≠ b; omega)).trans (hQ.out))))) Tryd.underlying98 rfl sizeFact) rfl ⟨rfl, ?_⟩
    exact Kep.setRow ((((K.out).setCell (a := ⟨b, 7, none⟩) (by show w.heap.size ≤ b; omega) _)).setCell (a := ⟨b, 8, none⟩) (by show w.heap.size ≤ b; omega) _) _ _ (by omega)
set_option maxHeartbeats 4000000 in
theorem fa_3 (x : Value) (cls : Int) (rd wr : Array UInt8) (h1 : rd ∈ lets) (h2 : wr ∈ lets) (w : World) : Calls Tryd.prog 36 #[.agg (rowV x cls rd wr #[102])] w fun e w' => e = .returned (.agg (factV cls rd wr false true false)) ∧ Kep w w' := by
  have c1 : Hid (∀ w, Calls Tryd.prog 52 #[.string ⟨rd⟩] w fun e w' => e = .returned (.agg (plV rd)) ∧ ∃ o1 o2, w' = (w.alloc o1).alloc o2) := fun w => placesBy_any rd h1 w
  have c2 : Hid (∀ w, Calls Tryd.prog 52 #[.string ⟨wr⟩] w fun e w' => e = .returned (.agg (plV wr)) ∧ ∃ o1 o2, w' = (w.alloc o1).alloc o2) := fun w => placesBy_any wr h2 w
  clear h1 h2
  unfold plV at c1 c2
  go_enter Tryd.func36, Tryd.ntmps36
  go_upto_region 1 with fail
  go_cut [3] from 5 to 13 (fun s3 wx => ∃ b : Nat, s3 = .pointer (some ⟨b, 0, none⟩) ∧ w.heap.size + 2 ≤ b ∧ Hid (wx.heap[b]? = some (.cells (factV cls rd wr false false false) 98 (0, 0))) ∧ Hid (Kep ((w.alloc (.cells (rowV x cls rd wr #[102]) 104)).alloc (.cells zeroF 98)) wx))
  case first =>
    go_region_held3 (fun w' => w'.cell? ⟨w.heap.size, 1, none⟩ = some (.int .i64 cls) ∧ w'.cell? ⟨w.heap.size, 2, none⟩ = some (.string ⟨rd⟩) ∧ w'.cell? ⟨w.heap.size, 3, none⟩ = some (.string ⟨wr⟩)) (first | ((refine ⟨(keep_row (t := 104) (cs := rowV x cls rd wr #[102]) ?_).trans rfl, (keep_row (t := 104) (cs := rowV x cls rd wr #[102]) ?_).trans rfl, (keep_row (t := 104) (cs := rowV x cls rd wr #[102]) ?_).trans rfl⟩) <;> ((repeat (first | with_reducible exact Kep.refl _ | with_reducible refine Kep.drew ?_ | with_reducible refine Kep.alloc ?_ _ | with_reducible refine Kep.setCell ?_ (by simp; omega) _)); done)) | (go_keep; done)) (first
      | (go_at_call_of 52 (Value.string ⟨rd⟩); refine (c1.out _).mono ?_; rintro e w' ⟨rfl, o1, o2, rfl⟩)
      | (go_at_call_of 52 (Value.string ⟨wr⟩); refine (c2.out _).mono ?_; rintro e w' ⟨rfl, o1, o2, rfl⟩))
    all_goals
      go_wp2_with fail
      go_meet
      refine ⟨_, rfl, by omega, ?_, ?_⟩
      · unfold Hid
        simp only [heap_drew]
        repeat (first | exact hp_at _ _ _ (by simp only [World.size_alloc]) | refine (hp_skip _ _ _ (by simp only [World.size_alloc]; omega)).trans ?_)
      · unfold Hid
        repeat (first | with_reducible exact Kep.refl _ | with_reducible refine Kep.drew ?_ | with_reducible refine Kep.alloc ?_ _)
  case rest =>
    obtain ⟨b, rfl, hge, hB, hK⟩ := hcut
    have hQ : Hid (wc.heap[w.heap.size + 1]? = some (.cells zeroF 98 (0, 0))) := hK.out.block (by simpa using heap_alloc_new (w.alloc _) _)
    have K : Hid (Kep w wc) := kep_trans (((Kep.refl _).alloc _).alloc _) hK.out
    have d4 : wc.cell? ⟨w.heap.size, 4, none⟩ = some (.string ⟨#[102]⟩) := (keep_row (t := 104) (cs := rowV x cls rd wr #[102]) (kep_trans ((Kep.refl _).alloc _) hK.out)).trans rfl
    have hb7 : wc.cell? ⟨b, 7, none⟩ = some (.bool false) := cell_of_block hB.out
    have hb8 : wc.cell? ⟨b, 8, none⟩ = some (.bool false) := cell_of_block hB.out
    have hb9 : wc.cell? ⟨b, 9, none⟩ = some (.bool false) := cell_of_block hB.out
    have hf7 : wc.frozen? ⟨b, 7, none⟩ = false := frozen_of_row _ _ _ _ _ hB.out
    have hf8 : wc.frozen? ⟨b, 8, none⟩ = false := frozen_of_row _ _ _ _ _ hB.out
    have hf9 : wc.frozen? ⟨b, 9, none⟩ = false := frozen_of_row _ _ _ _ _ hB.out
    have hne : ¬ b = w.heap.size := by omega
    have hne' : ¬ w.heap.size = b := by omega
    clear hK c1 c2
    go_wp2_with fail
    refine wp_loop_rounds 2 ?_
    rw [rounds_succ]
    go_wp2_with fail
    rw [rounds_succ]
    go_upto_region 13 with fail
    refine wp_region_lit ?_
    refine wpList_load_row rfl 98 _ rfl b rfl 98 (factV cls rd wr false true false) (0, 0) _ (heap_setCell_same _ b 8 _ _ (.bool true) (hB.out)) Tryd.underlying98 rfl sizeFact ?_
    refine wpList_store_row (by rfl) 98 _ _ (by rfl) (w.heap.size + 1) (factV cls rd wr false true false) (by rfl) (by rfl) 98 zeroF ((heap_setCell_other _ ⟨b, 8, none⟩ _ _ (by show w.heap.size + 1 ≠ b; omega)).trans (hQ.out)) sizeFact rfl (fact_one _ _ _ _ _ _) ?_
    go_wp2_with fail
    try simp only [Exit.inBlock, Exit.then]
    refine bodyPost_ret (results_cell_row rfl _ _ (w.heap.size + 1) 98 (factV cls rd wr false true false) (0, 0) _ rfl (setRow_heap _ _ _ _ _ _ ((heap_setCell_other _ ⟨b, 8, none⟩ _ _ (by show w.heap.size + 1 ≠ b; omega)).trans (hQ.out))) Tryd.underlying98 rfl sizeFact) rfl ⟨rfl, ?_⟩
    exact Kep.setRow ((K.out).setCell (a := ⟨b, 8, none⟩) (by show w.heap.size ≤ b; omega) _) _ _ (by omega)
set_option maxHeartbeats 4000000 in
theorem fa_4 (x : Value) (cls : Int) (rd wr : Array UInt8) (h1 : rd ∈ lets) (h2 : wr ∈ lets) (w : World) : Calls Tryd.prog 36 #[.agg (rowV x cls rd wr #[115])] w fun e w' => e = .returned (.agg (factV cls rd wr false false true)) ∧ Kep w w' := by
  have c1 : Hid (∀ w, Calls Tryd.prog 52 #[.string ⟨rd⟩] w fun e w' => e = .returned (.agg (plV rd)) ∧ ∃ o1 o2, w' = (w.alloc o1).alloc o2) := fun w => placesBy_any rd h1 w
  have c2 : Hid (∀ w, Calls Tryd.prog 52 #[.string ⟨wr⟩] w fun e w' => e = .returned (.agg (plV wr)) ∧ ∃ o1 o2, w' = (w.alloc o1).alloc o2) := fun w => placesBy_any wr h2 w
  clear h1 h2
  unfold plV at c1 c2
  go_enter Tryd.func36, Tryd.ntmps36
  go_upto_region 1 with fail
  go_cut [3] from 5 to 13 (fun s3 wx => ∃ b : Nat, s3 = .pointer (some ⟨b, 0, none⟩) ∧ w.heap.size + 2 ≤ b ∧ Hid (wx.heap[b]? = some (.cells (factV cls rd wr false false false) 98 (0, 0))) ∧ Hid (Kep ((w.alloc (.cells (rowV x cls rd wr #[115]) 104)).alloc (.cells zeroF 98)) wx))
  case first =>
    go_region_held3 (fun w' => w'.cell? ⟨w.heap.size, 1, none⟩ = some (.int .i64 cls) ∧ w'.cell? ⟨w.heap.size, 2, none⟩ = some (.string ⟨rd⟩) ∧ w'.cell? ⟨w.heap.size, 3, none⟩ = some (.string ⟨wr⟩)) (first | ((refine ⟨(keep_row (t := 104) (cs := rowV x cls rd wr #[115]) ?_).trans rfl, (keep_row (t := 104) (cs := rowV x cls rd wr #[115]) ?_).trans rfl, (keep_row (t := 104) (cs := rowV x cls rd wr #[115]) ?_).trans rfl⟩) <;> ((repeat (first | with_reducible exact Kep.refl _ | with_reducible refine Kep.drew ?_ | with_reducible refine Kep.alloc ?_ _ | with_reducible refine Kep.setCell ?_ (by simp; omega) _)); done)) | (go_keep; done)) (first
      | (go_at_call_of 52 (Value.string ⟨rd⟩); refine (c1.out _).mono ?_; rintro e w' ⟨rfl, o1, o2, rfl⟩)
      | (go_at_call_of 52 (Value.string ⟨wr⟩); refine (c2.out _).mono ?_; rintro e w' ⟨rfl, o1, o2, rfl⟩))
    all_goals
      go_wp2_with fail
      go_meet
      refine ⟨_, rfl, by omega, ?_, ?_⟩
      · unfold Hid
        simp only [heap_drew]
        repeat (first | exact hp_at _ _ _ (by simp only [World.size_alloc]) | refine (hp_skip _ _ _ (by simp only [World.size_alloc]; omega)).trans ?_)
      · unfold Hid
        repeat (first | with_reducible exact Kep.refl _ | with_reducible refine Kep.drew ?_ | with_reducible refine Kep.alloc ?_ _)
  case rest =>
    obtain ⟨b, rfl, hge, hB, hK⟩ := hcut
    have hQ : Hid (wc.heap[w.heap.size + 1]? = some (.cells zeroF 98 (0, 0))) := hK.out.block (by simpa using heap_alloc_new (w.alloc _) _)
    have K : Hid (Kep w wc) := kep_trans (((Kep.refl _).alloc _).alloc _) hK.out
    have d4 : wc.cell? ⟨w.heap.size, 4, none⟩ = some (.string ⟨#[115]⟩) := (keep_row (t := 104) (cs := rowV x cls rd wr #[115]) (kep_trans ((Kep.refl _).alloc _) hK.out)).trans rfl
    have hb7 : wc.cell? ⟨b, 7, none⟩ = some (.bool false) := cell_of_block hB.out
    have hb8 : wc.cell? ⟨b, 8, none⟩ = some (.bool false) := cell_of_block hB.out
    have hb9 : wc.cell? ⟨b, 9, none⟩ = some (.bool false) := cell_of_block hB.out
    have hf7 : wc.frozen? ⟨b, 7, none⟩ = false := frozen_of_row _ _ _ _ _ hB.out
    have hf8 : wc.frozen? ⟨b, 8, none⟩ = false := frozen_of_row _ _ _ _ _ hB.out
    have hf9 : wc.frozen? ⟨b, 9, none⟩ = false := frozen_of_row _ _ _ _ _ hB.out
    have hne : ¬ b = w.heap.size := by omega
    have hne' : ¬ w.heap.size = b := by omega
    clear hK c1 c2
    go_wp2_with fail
    refine wp_loop_rounds 2 ?_
    rw [rounds_succ]
    go_wp2_with fail
    rw [rounds_succ]
    go_upto_region 13 with fail
    refine wp_region_lit ?_
    refine wpList_load_row rfl 98 _ rfl b rfl 98 (factV cls rd wr false false true) (0, 0) _ (heap_setCell_same _ b 9 _ _ (.bool true) (hB.out)) Tryd.underlying98 rfl sizeFact ?_
    refine wpList_store_row (by rfl) 98 _ _ (by rfl) (w.heap.size + 1) (factV cls rd wr false false true) (by rfl) (by rfl) 98 zeroF ((heap_setCell_other _ ⟨b, 9, none⟩ _ _ (by show w.heap.size + 1 ≠ b; omega)).trans (hQ.out)) sizeFact rfl (fact_one _ _ _ _ _ _) ?_
    go_wp2_with fail
    try simp only [Exit.inBlock, Exit.then]
    refine bodyPost_ret (results_cell_row rfl _ _ (w.heap.size + 1) 98 (factV cls rd wr false false true) (0, 0) _ rfl (setRow_heap _ _ _ _ _ _ ((heap_setCell_other _ ⟨b, 9, none⟩ _ _ (by show w.heap.size + 1 ≠ b; omega)).trans (hQ.out))) Tryd.underlying98 rfl sizeFact) rfl ⟨rfl, ?_⟩
    exact Kep.setRow ((K.out).setCell (a := ⟨b, 9, none⟩) (by show w.heap.size ≤ b; omega) _) _ _ (by omega)
set_option maxHeartbeats 4000000 in
theorem fa_5 (x : Value) (cls : Int) (rd wr : Array UInt8) (h1 : rd ∈ lets) (h2 : wr ∈ lets) (w : World) : Calls Tryd.prog 36 #[.agg (rowV x cls rd wr #[116, 115])] w fun e w' => e = .returned (.agg (factV cls rd wr true false true)) ∧ Kep w w' := by
  have c1 : Hid (∀ w, Calls Tryd.prog 52 #[.string ⟨rd⟩] w fun e w' => e = .returned (.agg (plV rd)) ∧ ∃ o1 o2, w' = (w.alloc o1).alloc o2) := fun w => placesBy_any rd h1 w
  have c2 : Hid (∀ w, Calls Tryd.prog 52 #[.string ⟨wr⟩] w fun e w' => e = .returned (.agg (plV wr)) ∧ ∃ o1 o2, w' = (w.alloc o1).alloc o2) := fun w => placesBy_any wr h2 w
  clear h1 h2
  unfold plV at c1 c2
  go_enter Tryd.func36, Tryd.ntmps36
  go_upto_region 1 with fail
  go_cut [3] from 5 to 13 (fun s3 wx => ∃ b : Nat, s3 = .pointer (some ⟨b, 0, none⟩) ∧ w.heap.size + 2 ≤ b ∧ Hid (wx.heap[b]? = some (.cells (factV cls rd wr false false false) 98 (0, 0))) ∧ Hid (Kep ((w.alloc (.cells (rowV x cls rd wr #[116, 115]) 104)).alloc (.cells zeroF 98)) wx))
  case first =>
    go_region_held3 (fun w' => w'.cell? ⟨w.heap.size, 1, none⟩ = some (.int .i64 cls) ∧ w'.cell? ⟨w.heap.size, 2, none⟩ = some (.string ⟨rd⟩) ∧ w'.cell? ⟨w.heap.size, 3, none⟩ = some (.string ⟨wr⟩)) (first | ((refine ⟨(keep_row (t := 104) (cs := rowV x cls rd wr #[116, 115]) ?_).trans rfl, (keep_row (t := 104) (cs := rowV x cls rd wr #[116, 115]) ?_).trans rfl, (keep_row (t := 104) (cs := rowV x cls rd wr #[116, 115]) ?_).trans rfl⟩) <;> ((repeat (first | with_reducible exact Kep.refl _ | with_reducible refine Kep.drew ?_ | with_reducible refine Kep.alloc ?_ _ | with_reducible refine Kep.setCell ?_ (by simp; omega) _)); done)) | (go_keep; done)) (first
      | (go_at_call_of 52 (Value.string ⟨rd⟩); refine (c1.out _).mono ?_; rintro e w' ⟨rfl, o1, o2, rfl⟩)
      | (go_at_call_of 52 (Value.string ⟨wr⟩); refine (c2.out _).mono ?_; rintro e w' ⟨rfl, o1, o2, rfl⟩))
    all_goals
      go_wp2_with fail
      go_meet
      refine ⟨_, rfl, by omega, ?_, ?_⟩
      · unfold Hid
        simp only [heap_drew]
        repeat (first | exact hp_at _ _ _ (by simp only [World.size_alloc]) | refine (hp_skip _ _ _ (by simp only [World.size_alloc]; omega)).trans ?_)
      · unfold Hid
        repeat (first | with_reducible exact Kep.refl _ | with_reducible refine Kep.drew ?_ | with_reducible refine Kep.alloc ?_ _)
  case rest =>
    obtain ⟨b, rfl, hge, hB, hK⟩ := hcut
    have hQ : Hid (wc.heap[w.heap.size + 1]? = some (.cells zeroF 98 (0, 0))) := hK.out.block (by simpa using heap_alloc_new (w.alloc _) _)
    have K : Hid (Kep w wc) := kep_trans (((Kep.refl _).alloc _).alloc _) hK.out
    have d4 : wc.cell? ⟨w.heap.size, 4, none⟩ = some (.string ⟨#[116, 115]⟩) := (keep_row (t := 104) (cs := rowV x cls rd wr #[116, 115]) (kep_trans ((Kep.refl _).alloc _) hK.out)).trans rfl
    have hb7 : wc.cell? ⟨b, 7, none⟩ = some (.bool false) := cell_of_block hB.out
    have hb8 : wc.cell? ⟨b, 8, none⟩ = some (.bool false) := cell_of_block hB.out
    have hb9 : wc.cell? ⟨b, 9, none⟩ = some (.bool false) := cell_of_block hB.out
    have hf7 : wc.frozen? ⟨b, 7, none⟩ = false := frozen_of_row _ _ _ _ _ hB.out
    have hf8 : wc.frozen? ⟨b, 8, none⟩ = false := frozen_of_row _ _ _ _ _ hB.out
    have hf9 : wc.frozen? ⟨b, 9, none⟩ = false := frozen_of_row _ _ _ _ _ hB.out
    have hne : ¬ b = w.heap.size := by omega
    have hne' : ¬ w.heap.size = b := by omega
    clear hK c1 c2
    go_wp2_with fail
    refine wp_loop_rounds 3 ?_
    rw [rounds_succ]
    go_wp2_with fail
    rw [rounds_succ]
    go_wp2_with fail
    rw [rounds_succ]
    go_upto_region 13 with fail
    refine wp_region_lit ?_
    refine wpList_load_row rfl 98 _ rfl b rfl 98 (factV cls rd wr true false true) (0, 0) _ (heap_setCell_same _ b 9 _ _ (.bool true) ((heap_setCell_same _ b 7 _ _ (.bool true) (hB.out)))) Tryd.underlying98 rfl sizeFact ?_
    refine wpList_store_row (by rfl) 98 _ _ (by rfl) (w.heap.size + 1) (factV cls rd wr true false true) (by rfl) (by rfl) 98 zeroF ((heap_setCell_other _ ⟨b, 9, none⟩ _ _ (by show w.heap.size + 1 ≠ b; omega)).trans (((heap_setCell_other _ ⟨b, 7, none⟩ _ _ (by show w.heap.size + 1 ≠ b; omega)).trans (hQ.out)))) sizeFact rfl (fact_one _ _ _ _ _ _) ?_
    go_wp2_with fail
    try simp only [Exit.inBlock, Exit.then]
    refine bodyPost_ret (results_cell_row rfl _ _ (w.heap.size + 1) 98 (factV cls rd wr true false true) (0, 0) _ rfl (setRow_heap _ _ _ _ _ _ ((heap_setCell_other _ ⟨b, 9, none⟩ _ _ (by show w.heap.size + 1 ≠ b; omega)).trans (((heap_setCell_other _ ⟨b, 7, none⟩ _ _ (by show w.heap.size + 1 ≠ b; omega)).trans (hQ.out))))) Tryd.underlying98 rfl sizeFact) rfl ⟨rfl, ?_⟩
    exact Kep.setRow ((((K.out).setCell (a := ⟨b, 7, none⟩) (by show w.heap.size ≤ b; omega) _)).setCell (a := ⟨b, 9, none⟩) (by show w.heap.size ≤ b; omega) _) _ _ (by omega)
theorem fact_any (x : Value) (cls : Int) (rd wr m : Array UInt8) (h1 : rd ∈ lets) (h2 : wr ∈ lets) (h3 : m ∈ marks) (w : World) : Calls Tryd.prog 36 #[.agg (rowV x cls rd wr m)] w fun e w' => e = .returned (.agg (factV cls rd wr (mk 116 m) (mk 102 m) (mk 115 m))) ∧ Kep w w' := by
  simp only [marks, List.mem_cons, List.not_mem_nil, or_false] at h3
  rcases h3 with rfl | rfl | rfl | rfl | rfl | rfl
  · exact fa_0 x cls rd wr h1 h2 w
  · exact fa_1 x cls rd wr h1 h2 w
  · exact fa_2 x cls rd wr h1 h2 w
  · exact fa_3 x cls rd wr h1 h2 w
  · exact fa_4 x cls rd wr h1 h2 w
  · exact fa_5 x cls rd wr h1 h2 w
abbrev RV : Value → Option (DataW Value × List MemPlace) := fun v => some (.held v, [])
theorem keyU8 : Maps.Keyed Tryd.prog 5 := Maps.int_keyed Tryd.underlying5
def gV : Option Rw → Array Value
  | none => zeroF
  | some r => factV r.cls r.rd r.wr (mk 116 r.m) (mk 102 r.m) (mk 115 r.m)
def putF (f : Int → Option Rw) (op : Int) (r : Rw) : Int → Option Rw := fun k => if k = op then some r else f k
def putR (f : Int → Option Rw) (r : Rw) : Int → Option Rw := r.ops.foldl (fun f op => putF f op r) f
def upto (k : Nat) : Int → Option Rw := (tabl.take k).foldl putR (fun _ => none)
def tabF : Int → Option Rw := tabl.foldl putR (fun _ => none)
theorem zeroRun (w : World) : (zeroValue 98).run Tryd.prog w = .ok (.agg zeroF) w := by kernel_rfl
theorem keyU (k : Int) (h0 : 0 ≤ k) (h1 : k < 256) : keyOf Tryd.prog 5 (.int .u8 k) = some (.int .u8 k) := Maps.keyOf_int_mk Tryd.underlying5 (by simp [Lit.wf, IntKind.min, IntKind.max, IntKind.signed, IntKind.bits]; omega)
def MapF (w : World) (b n : Nat) (f : Int → Option Rw) : Prop :=
  ∃ D : DataW Value, w.ownsMap Tryd.prog 5 RV b n D ∧ ∀ k, 0 ≤ k → k < 256 → D.atKey (.int .u8 k) (.held (.agg zeroF)) = .held (.agg (gV (f k)))
theorem MapF.made (w : World) : MapF (w.alloc (.map #[] 0)) w.heap.size 0 (fun _ => none) := ⟨_, World.ownsMap_made w _ _ _, fun k _ _ => by simp [DataW.atKey, gV]⟩
theorem MapF.mono {w : World} {b n n' : Nat} {f : Int → Option Rw} (h : MapF w b n f) (hn : n ≤ n') : MapF w b n' f := by
  obtain ⟨D, h1, h2⟩ := h
  exact ⟨D, h1.mono hn, h2⟩
theorem MapF.kept {w w' : World} {b n : Nat} {f : Int → Option Rw} (h : MapF w b n f) (k : Kep w w') : MapF w' b n f := by
  obtain ⟨D, h1, h2⟩ := h
  obtain ⟨es, c, hb, F, hs, hD⟩ := h1
  exact ⟨D, ⟨es, c, k.block hb, F, hs, hD⟩, h2⟩
theorem MapF.block {w w' : World} {b n : Nat} {f : Int → Option Rw} (h : MapF w b n f) (k : w'.heap[b]? = w.heap[b]?) : MapF w' b n f := by
  obtain ⟨D, h1, h2⟩ := h
  obtain ⟨es, c, hb, F, hs, hD⟩ := h1
  exact ⟨D, ⟨es, c, k.trans hb, F, hs, hD⟩, h2⟩
theorem MapF.lt {w : World} {b n : Nat} {f : Int → Option Rw} (h : MapF w b n f) : b < w.heap.size := by
  obtain ⟨D, h1, h2⟩ := h
  exact h1.lt
theorem MapF.look {w : World} {b n : Nat} {f : Int → Option Rw} (h : MapF w b n f) (k : Int) (h0 : 0 ≤ k) (h1 : k < 256) :
    (Instr.lookup 94 (.map (some b)) (.int .u8 k) false).run Tryd.prog w = .ok (.agg (gV (f k))) w := by
  obtain ⟨D, g1, g2⟩ := h
  obtain ⟨v, ps, hr, hv⟩ := g1.lookup keyU8 Tryd.underlying94 (zeroRun w) (zd := .held (.agg zeroF)) (zp := []) rfl (keyU k h0 h1)
  rw [g2 k h0 h1] at hv
  simp only [RV, Option.some.injEq, Prod.mk.injEq, DataW.held.injEq] at hv
  rw [hr, hv.1]
theorem MapF.put {w : World} {b n : Nat} {f : Int → Option Rw} (h : MapF w b n f) (hn : n < maxLen) (op : Int) (h0 : 0 ≤ op) (h1 : op < 256) (r : Rw) :
    ∃ w', (Instr.mapUpdate 94 (.map (some b)) (.int .u8 op) (.agg (gV (some r)))).run Tryd.prog w = .ok () w' ∧ MapF w' b (n + 1) (putF f op r) ∧ w.grownBy w' (some b) := by
  obtain ⟨D, g1, g2⟩ := h
  obtain ⟨w', hr, hm, hg⟩ := g1.update keyU8 Tryd.underlying94 hn (keyU op h0 h1) (val := .agg (gV (some r))) (d := .held (.agg (gV (some r)))) (ps := []) rfl
  refine ⟨w', hr, ⟨_, hm, fun k hk0 hk1 => ?_⟩, hg⟩
  by_cases hk : k = op
  · subst hk
    rw [Maps.atKey_put_same g1.isMap (k := .int .u8 k) trivial]
    simp [putF]
  · rw [Maps.atKey_put_other (by simp; exact hk), g2 k hk0 hk1]
    simp [putF, hk]
theorem wpList_put {w : World} {ops : Array Oper} {rest : List Oper} {o : Oper} {a : Act} {Q : Exit → Act → World → Prop} (hg : o.guard = none) (m x v : Operand) (hop : o.op = Op.mapUpdate 94 m x v)
    (b n : Nat) (f : Int → Option Rw) (hm : a.eval m = .map (some b)) (h : MapF w b n f) (hn : n < maxLen) (op : Int) (h0 : 0 ≤ op) (h1 : op < 256) (r : Rw) (hx : a.eval x = .int .u8 op) (hv : a.eval v = .agg (gV (some r)))
    (hK : ∀ w', MapF w' b (n + 1) (putF f op r) → w.grownBy w' (some b) → wpList Tryd.prog ops Q rest (a.put o.dst undef) w') : wpList Tryd.prog ops Q (o :: rest) a w := by
  refine wpList_plain hg fun K' hK' => ?_
  obtain ⟨w', hrun, r1, r2⟩ := h.put hn op h0 h1 r
  unfold Oper.wp
  simp [execOp, hop, hm, hx, hv, hrun, Result.andThen]
  exact hK' _ _ (hK w' r1 r2)
structure RowsAt (w : World) (T B : Nat) : Prop where
  row : ∀ (k j : Nat) (r : Rw), tabl[k]? = some r → j < 5 → w.cell? ⟨T, k * 5 + j, none⟩ = (rowL B (r, k))[j]?
  op : ∀ (k j : Nat) (r : Rw) (op : Int), tabl[k]? = some r → r.ops[j]? = some op → w.cell? ⟨B + k, j, none⟩ = some (.int .u8 op)
  lt : B + 27 < w.heap.size
  tb : T < w.heap.size
  bt : B ≤ T
theorem RowsAt.kept {w w' : World} {T B b : Nat} (h : RowsAt w T B) (hb : b < B) (k : w.grownBy w' (some b)) : RowsAt w' T B := by
  have e : ∀ c i, c < w.heap.size → B ≤ c → w'.cell? ⟨c, i, none⟩ = w.cell? ⟨c, i, none⟩ := fun c i hc hB => by
    have := k.block c hc (by simp; omega)
    simp only [World.cell?, this]
  refine ⟨fun k j r h1 h2 => (e _ _ h.tb h.bt).trans (h.row k j r h1 h2), fun k j r op h1 h2 => (e _ _ ?_ (by omega)).trans (h.op k j r op h1 h2), Nat.lt_of_lt_of_le h.lt k.size, Nat.lt_of_lt_of_le h.tb k.size, h.bt⟩
  have := (List.getElem?_eq_some_iff.1 h1).1
  have h27 : tabl.length = 27 := rfl
  have := h.lt
  omega
theorem RowsAt.kep {w w' : World} {T B : Nat} (h : RowsAt w T B) (k : Kep w w') : RowsAt w' T B := by
  refine ⟨fun k' j r h1 h2 => (k.cell h.tb).trans (h.row k' j r h1 h2), fun k' j r op h1 h2 => (k.cell ?_).trans (h.op k' j r op h1 h2), k.lt h.lt, k.lt h.tb, h.bt⟩
  have := (List.getElem?_eq_some_iff.1 h1).1
  have h27 : tabl.length = 27 := rfl
  have := h.lt
  omega
theorem rows_at (w : World) : RowsAt (lay w) (w.heap.size + 27) w.heap.size :=
  ⟨fun k j r h1 h2 => row_cell w k j r h1 h2, fun k j r op h1 h2 => op_cell w k j r h1 op h2, by rw [lay_size]; omega, by rw [lay_size]; omega, by omega⟩
theorem rows_call (w : World) : Calls Tryd.prog 51 #[] w fun e w' => ∃ T B : Nat, e = .returned (.slice (some ⟨T, 0, none⟩) 27 27) ∧ w.heap.size ≤ B ∧ Hid (RowsAt w' T B) ∧ Kep w w' :=
  (rows_any w).mono fun e w' ⟨h1, h2⟩ => ⟨_, _, h1, Nat.le_refl _, h2 ▸ rows_at w, h2 ▸ lay_kep w⟩
theorem upto_succ (k : Nat) (r : Rw) (h : tabl[k]? = some r) : upto (k + 1) = putR (upto k) r := by
  unfold upto
  rw [List.take_add_one, h]
  simp
theorem upto_all : upto 27 = tabF := rfl
theorem tabl_ok : ∀ r ∈ tabl, r.rd ∈ lets ∧ r.wr ∈ lets ∧ r.m ∈ marks ∧ r.ops.length ≤ 11 ∧ ∀ op ∈ r.ops, 0 ≤ op ∧ op < 256 := by decide +kernel
end Go.Proofs.YtpalbpjmjbcelaaDoor
