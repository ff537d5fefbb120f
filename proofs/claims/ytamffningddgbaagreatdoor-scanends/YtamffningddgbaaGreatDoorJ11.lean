/- Part of a proof. -/
import Derived.Deep.CutRange
import Derived.Deep.RegionHeld3
import Derived.Test.YtamffningddgbaaGreatDoorJ10
namespace Go.Proofs.YtamffningddgbaaGreatDoor
open Go.RowKit
set_option linter.unusedVariables false
set_option linter.unusedSimpArgs false
structure Rw where
  ops : List Int
  cls : Int
  rd : Array UInt8
  wr : Array UInt8
  m : Array UInt8
def tabl : List Rw := [
  ⟨[0], 1, #[], #[], #[]⟩,
  ⟨[16], 1, #[98], #[97], #[]⟩,
  ⟨[17, 18, 19, 20, 21, 22, 23, 24, 27, 28, 29], 1, #[97, 98], #[97], #[116]⟩,
  ⟨[25, 30], 1, #[97, 98], #[97], #[116, 102]⟩,
  ⟨[26, 31], 1, #[97, 98], #[], #[116]⟩,
  ⟨[32], 1, #[], #[97], #[]⟩,
  ⟨[33], 1, #[97], #[97], #[116]⟩,
  ⟨[48, 50, 52, 54, 55], 2, #[98], #[97], #[102]⟩,
  ⟨[49, 51, 53], 2, #[97, 98], #[], #[102]⟩,
  ⟨[56], 2, #[97, 115], #[115], #[102]⟩,
  ⟨[57], 2, #[115], #[97, 115], #[102]⟩,
  ⟨[58], 2, #[97, 98], #[97], #[102]⟩,
  ⟨[64, 65, 66, 67, 68, 69, 70, 71], 3, #[], #[], #[]⟩,
  ⟨[72], 3, #[], #[108], #[]⟩,
  ⟨[73], 3, #[97], #[], #[]⟩,
  ⟨[74], 3, #[97], #[108], #[]⟩,
  ⟨[80], 3, #[], #[], #[102]⟩,
  ⟨[1], 4, #[], #[], #[102]⟩,
  ⟨[2], 4, #[], #[], #[116, 115]⟩,
  ⟨[3], 4, #[], #[], #[115]⟩,
  ⟨[96], 4, #[], #[97], #[115]⟩,
  ⟨[97], 4, #[97], #[], #[116, 115]⟩,
  ⟨[98], 4, #[], #[97], #[115]⟩,
  ⟨[99], 4, #[97], #[], #[102]⟩,
  ⟨[100], 4, #[], #[97], #[102]⟩,
  ⟨[101], 4, #[97], #[], #[102]⟩,
  ⟨[112, 113], 5, #[], #[], #[]⟩]
def opsO (r : Rw) : Obj := .cells (r.ops.map (Value.int .u8)).toArray 5
def rowL (B : Nat) (x : Rw × Nat) : List Value := [.slice (some ⟨B + x.2, 0, none⟩) x.1.ops.length x.1.ops.length, .int .i64 x.1.cls, .string ⟨x.1.rd⟩, .string ⟨x.1.wr⟩, .string ⟨x.1.m⟩]
def rowsO (B : Nat) : Obj := .cells (tabl.zipIdx.flatMap (rowL B)).toArray 111
def lay (w : World) : World := allocs w (tabl.map opsO ++ [rowsO w.heap.size])
theorem flat5 {α : Type} (f : α → List Value) (hf : ∀ a, (f a).length = 5) : ∀ (l : List α) (k j : Nat), j < 5 → (l.flatMap f)[k * 5 + j]? = l[k]?.bind fun a => (f a)[j]?
  | [], k, j, _ => by simp
  | a :: l, 0, j, h => by
    simp only [List.flatMap_cons, Nat.zero_mul, Nat.zero_add, List.getElem?_cons_zero, Option.bind_some]
    exact List.getElem?_append_left (by rw [hf]; exact h)
  | a :: l, k + 1, j, h => by
    simp only [List.flatMap_cons, List.getElem?_cons_succ]
    rw [List.getElem?_append_right (by rw [hf]; omega), hf]
    have e : (k + 1) * 5 + j - 5 = k * 5 + j := by omega
    rw [e]
    exact flat5 f hf l k j h
theorem lay_kep (w : World) : Kep w (lay w) := allocs_kep _ _
theorem lay_size (w : World) : (lay w).heap.size = w.heap.size + 28 := allocs_size _ _
theorem lay_ops (w : World) (k : Nat) (r : Rw) (h : tabl[k]? = some r) : (lay w).heap[w.heap.size + k]? = some (opsO r) := by
  refine allocs_at _ w k _ ?_
  rw [List.getElem?_append_left (by rw [List.length_map]; exact (List.getElem?_eq_some_iff.1 h).1)]
  simp [h]
theorem lay_rows (w : World) : (lay w).heap[w.heap.size + 27]? = some (rowsO w.heap.size) := allocs_at _ w 27 _ rfl
theorem row_cell (w : World) (k j : Nat) (r : Rw) (h : tabl[k]? = some r) (hj : j < 5) : (lay w).cell? ⟨w.heap.size + 27, k * 5 + j, none⟩ = (rowL w.heap.size (r, k))[j]? := by
  rw [cell_of_block (lay_rows w)]
  simp only [List.getElem?_toArray]
  rw [flat5 _ (fun _ => rfl) _ k j hj]
  simp [h]
theorem op_cell (w : World) (k j : Nat) (r : Rw) (h : tabl[k]? = some r) (op : Int) (hj : r.ops[j]? = some op) : (lay w).cell? ⟨w.heap.size + k, j, none⟩ = some (.int .u8 op) := by
  rw [cell_of_block (lay_ops w k r h)]
  simp [hj]
set_option maxHeartbeats 8000000 in
set_option maxRecDepth 100000 in
theorem rows_any (w : World) : Calls Tryz.prog 64 #[] w fun e w' => e = .returned (.slice (some ⟨w.heap.size + 27, 0, none⟩) 27 27) ∧ w' = lay w := by
  go_enter Tryz.func64, Tryz.ntmps64
  go_wp2_with fail
  go_ret
  exact ⟨rfl, rfl⟩
def marks : List (Array UInt8) := [#[], #[116], #[116, 102], #[102], #[115], #[116, 115]]
def mk (c : UInt8) (m : Array UInt8) : Bool := m.toList.contains c
abbrev rowV (x : Value) (cls : Int) (rd wr m : Array UInt8) : Array Value := #[x, .int .i64 cls, .string ⟨rd⟩, .string ⟨wr⟩, .string ⟨m⟩]
abbrev factV (cls : Int) (rd wr : Array UInt8) (t f s : Bool) : Array Value := #[.int .i64 cls, .bool (pA rd), .bool (pB rd), .int .u8 (pI rd), .bool (pA wr), .bool (pB wr), .int .u8 (pI wr), .bool t, .bool f, .bool s]
theorem keep_row {w w' : World} {cs : Array Value} {t : TypeId} {i : Nat} (h : Kep (w.alloc (.cells cs t)) w') : w'.cell? ⟨w.heap.size, i, none⟩ = cs[i]? :=
  (h.cell (by simp)).trans (cell_of_block (heap_alloc_new w _))
theorem hp_at (W : World) (o : Obj) (n : Nat) (h : n = W.heap.size) : (W.alloc o).heap[n]? = some o := by subst h; exact heap_alloc_new W o
theorem hp_skip (W : World) (o : Obj) (n : Nat) (h : n < W.heap.size) : (W.alloc o).heap[n]? = W.heap[n]? := by simp only [World.alloc, Array.getElem?_push_lt h, Array.getElem?_eq_getElem h]
theorem sizeFact : (Tryz.prog.info? 105).map (·.size) = some 10 := by kernel_rfl
abbrev zeroF : Array Value := #[.int .i64 0, .bool false, .bool false, .int .u8 0, .bool false, .bool false, .int .u8 0, .bool false, .bool false, .bool false]
theorem fact_one (cls : Int) (rd wr : Array UInt8) (t f s : Bool) : (factV cls rd wr t f s).all (·.oneCell') = true := by simp [factV, Value.oneCell']
theorem block_ge {w : World} {g : Nat} {o : Obj} (h : w.heap[g]? = some o) : g < w.heap.size := by
  rcases Nat.lt_or_ge g w.heap.size with h' | h'
  · exact h'
  · rw [Array.getElem?_eq_none h'] at h; cases h
set_option maxHeartbeats 4000000 in
theorem fa_0 (x : Value) (cls : Int) (rd wr : Array UInt8) (h1 : rd ∈ lets) (h2 : wr ∈ lets) (w : World) : Calls Tryz.prog 37 #[.agg (rowV x cls rd wr #[])] w fun e w' => e = .returned (.agg (factV cls rd wr false false false)) ∧ Kep w w' := by
  have c1 : Hid (∀ w, Calls Tryz.prog 65 #[.string ⟨rd⟩] w fun e w' => e = .returned (.agg (plV rd)) ∧ ∃ o1 o2, w' = (w.alloc o1).alloc o2) := fun w => placesBy_any rd h1 w
  have c2 : Hid (∀ w, Calls Tryz.prog 65 #[.string ⟨wr⟩] w fun e w' => e = .returned (.agg (plV wr)) ∧ ∃ o1 o2, w' = (w.alloc o1).alloc o2) := fun w => placesBy_any wr h2 w
  clear h1 h2
  unfold plV at c1 c2
  go_enter Tryz.func37, Tryz.ntmps37
  go_upto_region 1 with fail
  go_cut [3] from 5 to 13 (fun s3 wx => ∃ b : Nat, s3 = .pointer (some ⟨b, 0, none⟩) ∧ w.heap.size + 2 ≤ b ∧ Hid (wx.heap[b]? = some (.cells (factV cls rd wr false false false) 105 (0, 0))) ∧ Hid (Kep ((w.alloc (.cells (rowV x cls rd wr #[]) 111)).alloc (.cells zeroF 105)) wx))
  case first =>
    go_region_held3 (fun w' => w'.cell? ⟨w.heap.size, 1, none⟩ = some (.int .i64 cls) ∧ w'.cell? ⟨w.heap.size, 2, none⟩ = some (.string ⟨rd⟩) ∧ w'.cell? ⟨w.heap.size, 3, none⟩ = some (.string ⟨wr⟩)) (first | ((refine ⟨(keep_row (t := 111) (cs := rowV x cls rd wr #[]) ?_).trans rfl, (keep_row (t := 111) (cs := rowV x cls rd wr #[]) ?_).trans rfl, (keep_row (t := 111) (cs := rowV x cls rd wr #[]) ?_).trans rfl⟩) <;> ((repeat (first | with_reducible exact Kep.refl _ | with_reducible refine Kep.drew ?_ | with_reducible refine Kep.alloc ?_ _ | with_reducible refine Kep.setCell ?_ (by simp; omega) _)); done)) | (go_keep; done)) (first
      | (go_at_call_of 65 (Value.string ⟨rd⟩); refine (c1.out _).mono ?_; rintro e w' ⟨rfl, o1, o2, rfl⟩)
      | (go_at_call_of 65 (Value.string ⟨wr⟩); refine (c2.out _).mono ?_; rintro e w' ⟨rfl, o1, o2, rfl⟩))
    all_goals
      go_wp2_with fail
      go_meet
      refine ⟨_, rfl, by omega, ?_, ?_⟩
      · unfold Hid
        simp only [heap_drew]
        repeat (first | exact hp_at _ _ _ (by simp only [World.size_alloc]) | refine (hp_skip _ _ _ (by simp only [World.size_alloc]; omega)).trans ?_)
      · unfold Hid
        repeat (first | with_reducible exact Kep.refl _ | with_reducible refine Kep.drew ?_ | with_reducible refine Kep.alloc ?_ _)
  case rest =>
    obtain ⟨b, rfl, hge, hB, hK⟩ := hcut
    have hQ : Hid (wc.heap[w.heap.size + 1]? = some (.cells zeroF 105 (0, 0))) := hK.out.block (by simpa using heap_alloc_new (w.alloc _) _)
    have K : Hid (Kep w wc) := kep_trans (((Kep.refl _).alloc _).alloc _) hK.out
    have d4 : wc.cell? ⟨w.heap.size, 4, none⟩ = some (.string ⟨#[]⟩) := (keep_row (t := 111) (cs := rowV x cls rd wr #[]) (kep_trans ((Kep.refl _).alloc _) hK.out)).trans rfl
    have hb7 : wc.cell? ⟨b, 7, none⟩ = some (.bool false) := cell_of_block hB.out
    have hb8 : wc.cell? ⟨b, 8, none⟩ = some (.bool false) := cell_of_block hB.out
    have hb9 : wc.cell? ⟨b, 9, none⟩ = some (.bool false) := cell_of_block hB.out
    have hf7 : wc.frozen? ⟨b, 7, none⟩ = false := frozen_of_row _ _ _ _ _ hB.out
    have hf8 : wc.frozen? ⟨b, 8, none⟩ = false := frozen_of_row _ _ _ _ _ hB.out
    have hf9 : wc.frozen? ⟨b, 9, none⟩ = false := frozen_of_row _ _ _ _ _ hB.out
    have hne : ¬ b = w.heap.size := by omega
    have hne' : ¬ w.heap.size = b := by omega
    clear hK c1 c2
    go_wp2_with fail
    refine wp_loop_rounds 1 ?_
    rw [rounds_succ]
    go_upto_region 13 with fail
    refine wp_region_lit ?_
    refine wpList_load_row rfl 105 _ rfl b rfl 105 (factV cls rd wr false false false) (0, 0) _ hB.out Tryz.underlying105 rfl sizeFact ?_
    refine wpList_store_row (by rfl) 105 _ _ (by rfl) (w.heap.size + 1) (factV cls rd wr false false false) (by rfl) (by rfl) 105 zeroF hQ.out sizeFact rfl (fact_one _ _ _ _ _ _) ?_
    go_wp2_with fail
    try simp only [Exit.inBlock, Exit.then]
    refine bodyPost_ret (results_cell_row rfl _ _ (w.heap.size + 1) 105 (factV cls rd wr false false false) (0, 0) _ rfl (setRow_heap _ _ _ _ _ _ hQ.out) Tryz.underlying105 rfl sizeFact) rfl ⟨rfl, ?_⟩
    exact Kep.setRow K.out _ _ (by omega)
set_option maxHeartbeats 4000000 in
theorem fa_1 (x : Value) (cls : Int) (rd wr : Array UInt8) (h1 : rd ∈ lets) (h2 : wr ∈ lets) (w : World) : Calls Tryz.prog 37 #[.agg (rowV x cls rd wr #[116])] w fun e w' => e = .returned (.agg (factV cls rd wr true false false)) ∧ Kep w w' := by
  have c1 : Hid (∀ w, Calls Tryz.prog 65 #[.string ⟨rd⟩] w fun e w' => e = .returned (.agg (plV rd)) ∧ ∃ o1 o2, w' = (w.alloc o1).alloc o2) := fun w => placesBy_any rd h1 w
  have c2 : Hid (∀ w, Calls Tryz.prog 65 #[.string ⟨wr⟩] w fun e w' => e = .returned (.agg (plV wr)) ∧ ∃ o1 o2, w' = (w.alloc o1).alloc o2) := fun w => placesBy_any wr h2 w
  clear h1 h2
  unfold plV at c1 c2
  go_enter Tryz.func37, Tryz.ntmps37
  go_upto_region 1 with fail
  go_cut [3] from 5 to 13 (fun s3 wx => ∃ b : Nat, s3 = .pointer (some ⟨b, 0, none⟩) ∧ w.heap.size + 2 ≤ b ∧ Hid (wx.heap[b]? = some (.cells (factV cls rd wr false false false) 105 (0, 0))) ∧ Hid (Kep ((w.alloc (.cells (rowV x cls rd wr #[116]) 111)).alloc (.cells zeroF 105)) wx))
  case first =>
    go_region_held3 (fun w' => w'.cell? ⟨w.heap.size, 1, none⟩ = some (.int .i64 cls) ∧ w'.cell? ⟨w.heap.size, 2, none⟩ = some (.string ⟨rd⟩) ∧ w'.cell? ⟨w.heap.size, 3, none⟩ = some (.string ⟨wr⟩)) (first | ((refine ⟨(keep_row (t := 111) (cs := rowV x cls rd wr #[116]) ?_).trans rfl, (keep_row (t := 111) (cs := rowV x cls rd wr #[116]) ?_).trans rfl, (keep_row (t := 111) (cs := rowV x cls rd wr #[116]) ?_).trans rfl⟩) <;> ((repeat (first | with_reducible exact Kep.refl _ | with_reducible refine Kep.drew ?_ | with_reducible refine Kep.alloc ?_ _ | with_reducible refine Kep.setCell ?_ (by simp; omega) _)); done)) | (go_keep; done)) (first
      | (go_at_call_of 65 (Value.string ⟨rd⟩); refine (c1.out _).mono ?_; rintro e w' ⟨rfl, o1, o2, rfl⟩)
      | (go_at_call_of 65 (Value.string ⟨wr⟩); refine (c2.out _).mono ?_; rintro e w' ⟨rfl, o1, o2, rfl⟩))
    all_goals
      go_wp2_with fail
      go_meet
      refine ⟨_, rfl, by omega, ?_, ?_⟩
      · unfold Hid
        simp only [heap_drew]
        repeat (first | exact hp_at _ _ _ (by simp only [World.size_alloc]) | refine (hp_skip _ _ _ (by simp only [World.size_alloc]; omega)).trans ?_)
      · unfold Hid
        repeat (first | with_reducible exact Kep.refl _ | with_reducible refine Kep.drew ?_ | with_reducible refine Kep.alloc ?_ _)
  case rest =>
    obtain ⟨b, rfl, hge, hB, hK⟩ := hcut
    have hQ : Hid (wc.heap[w.heap.size + 1]? = some (.cells zeroF 105 (0, 0))) := hK.out.block (by simpa using heap_alloc_new (w.alloc _) _)
    have K : Hid (Kep w wc) := kep_trans (((Kep.refl _).alloc _).alloc _) hK.out
    have d4 : wc.cell? ⟨w.heap.size, 4, none⟩ = some (.string ⟨#[116]⟩) := (keep_row (t := 111) (cs := rowV x cls rd wr #[116]) (kep_trans ((Kep.refl _).alloc _) hK.out)).trans rfl
    have hb7 : wc.cell? ⟨b, 7, none⟩ = some (.bool false) := cell_of_block hB.out
    have hb8 : wc.cell? ⟨b, 8, none⟩ = some (.bool false) := cell_of_block hB.out
    have hb9 : wc.cell? ⟨b, 9, none⟩ = some (.bool false) := cell_of_block hB.out
    have hf7 : wc.frozen? ⟨b, 7, none⟩ = false := frozen_of_row _ _ _ _ _ hB.out
    have hf8 : wc.frozen? ⟨b, 8, none⟩ = false := frozen_of_row _ _ _ _ _ hB.out
    have hf9 : wc.frozen? ⟨b, 9, none⟩ = false := frozen_of_row _ _ _ _ _ hB.out
    have hne : ¬ b = w.heap.size := by omega
    have hne' : ¬ w.heap.size = b := by omega
    clear hK c1 c2
    go_wp2_with fail
    refine wp_loop_rounds 2 ?_
    rw [rounds_succ]
    go_wp2_with fail
    rw [rounds_succ]
    go_upto_region 13 with fail
    refine wp_region_lit ?_
    refine wpList_load_row rfl 105 _ rfl b rfl 105 (factV cls rd wr true false false) (0, 0) _ (heap_setCell_same _ b 7 _ _ (.bool true) (hB.out)) Tryz.underlying105 rfl sizeFact ?_
    refine wpList_store_row (by rfl) 105 _ _ (by rfl) (w.heap.size + 1) (factV cls rd wr true false false) (by rfl) (by rfl) 105 zeroF ((heap_setCell_other _ ⟨b, 7, none⟩ _ _ (by show w.heap.size + 1 ≠ b; omega)).trans (hQ.out)) sizeFact rfl (fact_one _ _ _ _ _ _) ?_
    go_wp2_with fail
    try simp only [Exit.inBlock, Exit.then]
    refine bodyPost_ret (results_cell_row rfl _ _ (w.heap.size + 1) 105 (factV cls rd wr true false false) (0, 0) _ rfl (setRow_heap _ _ _ _ _ _ ((heap_setCell_other _ ⟨b, 7, none⟩ _ _ (by show w.heap.size + 1 ≠ b; omega)).trans (hQ.out))) Tryz.underlying105 rfl sizeFact) rfl ⟨rfl, ?_⟩
    exact Kep.setRow ((K.out).setCell (a := ⟨b, 7, none⟩) (by show w.heap.size ≤ b; omega) _) _ _ (by omega)
set_option maxHeartbeats 4000000 in
theorem fa_2 (x : Value) (cls : Int) (rd wr : Array UInt8) (h1 : rd ∈ lets) (h2 : wr ∈ lets) (w : World) : Calls Tryz.prog 37 #[.agg (rowV x cls rd wr #[116, 102])] w fun e w' => e = .returned (.agg (factV cls rd wr true true false)) ∧ Kep w w' := by
  have c1 : Hid (∀ w, Calls Tryz.prog 65 #[.string ⟨rd⟩] w fun e w' => e = .returned (.agg (plV rd)) ∧ ∃ o1 o2, w' = (w.alloc o1).alloc o2) := fun w => placesBy_any rd h1 w
  have c2 : Hid (∀ w, Calls Tryz.prog 65 #[.string ⟨wr⟩] w fun e w' => e = .returned (.agg (plV wr)) ∧ ∃ o1 o2, w' = (w.alloc o1).alloc o2) := fun w => placesBy_any wr h2 w
  clear h1 h2
  unfold plV at c1 c2
  go_enter Tryz.func37, Tryz.ntmps37
  go_upto_region 1 with fail
  go_cut [3] from 5 to 13 (fun s3 wx => ∃ b : Nat, s3 = .pointer (some ⟨b, 0, none⟩) ∧ w.heap.size + 2 ≤ b ∧ Hid (wx.heap[b]? = some (.cells (factV cls rd wr false false false) 105 (0, 0))) ∧ Hid (Kep ((w.alloc (.cells (rowV x cls rd wr #[116, 102]) 111)).alloc (.cells zeroF 105)) wx))
  case first =>
    go_region_held3 (fun w' => w'.cell? ⟨w.heap.size, 1, none⟩ = some (.int .i64 cls) ∧ w'.cell? ⟨w.heap.size, 2, none⟩ = some (.string ⟨rd⟩) ∧ w'.cell? ⟨w.heap.size, 3, none⟩ = some (.string ⟨wr⟩)) (first | ((refine ⟨(keep_row (t := 111) (cs := rowV x cls rd wr #[116, 102]) ?_).trans rfl, (keep_row (t := 111) (cs := rowV x cls rd wr #[116, 102]) ?_).trans rfl, (keep_row (t := 111) (cs := rowV x cls rd wr #[116, 102]) ?_).trans rfl⟩) <;> ((repeat (first | with_reducible exact Kep.refl _ | with_reducible refine Kep.drew ?_ | with_reducible refine Kep.alloc ?_ _ | with_reducible refine Kep.setCell ?_ (by simp; omega) _)); done)) | (go_keep; done)) (first
      | (go_at_call_of 65 (Value.string ⟨rd⟩); refine (c1.out _).mono ?_; rintro e w' ⟨rfl, o1, o2, rfl⟩)
      | (go_at_call_of 65 (Value.string ⟨wr⟩); refine (c2.out _).mono ?_; rintro e w' ⟨rfl, o1, o2, rfl⟩))
    all_goals
      go_wp2_with fail
      go_meet
      refine ⟨_, rfl, by omega, ?_, ?_⟩
      · unfold Hid
        simp only [heap_drew]
        repeat (first | exact hp_at _ _ _ (by simp only [World.size_alloc]) | refine (hp_skip _ _ _ (by simp only [World.size_alloc]; omega)).trans ?_)
      · unfold Hid
        repeat (first | with_reducible exact Kep.refl _ | with_reducible refine Kep.drew ?_ | with_reducible refine Kep.alloc ?_ _)
  case rest =>
    obtain ⟨b, rfl, hge, hB, hK⟩ := hcut
    have hQ : Hid (wc.heap[w.heap.size + 1]? = some (.cells zeroF 105 (0, 0))) := hK.out.block (by simpa using heap_alloc_new (w.alloc _) _)
    have K : Hid (Kep w wc) := kep_trans (((Kep.refl _).alloc _).alloc _) hK.out
    have d4 : wc.cell? ⟨w.heap.size, 4, none⟩ = some (.string ⟨#[116, 102]⟩) := (keep_row (t := 111) (cs := rowV x cls rd wr #[116, 102]) (kep_trans ((Kep.refl _).alloc _) hK.out)).trans rfl
    have hb7 : wc.cell? ⟨b, 7, none⟩ = some (.bool false) := cell_of_block hB.out
    have hb8 : wc.cell? ⟨b, 8, none⟩ = some (.bool false) := cell_of_block hB.out
    have hb9 : wc.cell? ⟨b, 9, none⟩ = some (.bool false) := cell_of_block hB.out
    have hf7 : wc.frozen? ⟨b, 7, none⟩ = false := frozen_of_row _ _ _ _ _ hB.out
    have hf8 : wc.frozen? ⟨b, 8, none⟩ = false := frozen_of_row _ _ _ _ _ hB.out
    have hf9 : wc.frozen? ⟨b, 9, none⟩ = false := frozen_of_row _ _ _ _ _ hB.out
    have hne : ¬ b = w.heap.size := by omega
    have hne' : ¬ w.heap.size = b := by omega
    clear hK c1 c2
    go_wp2_with fail
    refine wp_loop_rounds 3 ?_
    rw [rounds_succ]
    go_wp2_with fail
    rw [rounds_succ]
    go_wp2_with fail
    rw [rounds_succ]
    go_upto_region 13 with fail
    refine wp_region_lit ?_
    refine wpList_load_row rfl 105 _ rfl b rfl 105 (factV cls rd wr true true false) (0, 0) _ (heap_setCell_same _ b 8 _ _ (.bool true) ((heap_setCell_same _ b 7 _ _ (.bool true) (hB.out)))) Tryz.underlying105 rfl sizeFact ?_
    refine wpList_store_row (by rfl) 105 _ _ (by rfl) (w.heap.size + 1) (factV cls rd wr true true false) (by rfl) (by rfl) 105 zeroF ((heap_setCell_other _ ⟨b, 8, none⟩ _ _ (by show w.heap.size + 1 ≠ b; omega)).trans (((heap_setCell_other _ ⟨b, 7, none⟩ _ _ (by show w.heap.size + 1 ≠ b; omega)).trans (hQ.out)))) sizeFact rfl (fact_one _ _ _ _ _ _) ?_
    go_wp2_with fail
    try simp only [Exit.inBlock, Exit.then]
    refine bodyPost_ret (results_cell_row rfl _ _ (w.heap.size + 1) 105 (factV cls rd wr true true false) (0, 0) _ rfl (setRow_heap _ _ _ _ _ _ ((heap_setCell_other _ ⟨b, 8, none⟩ _ _ (by show w.heap.size + 1 ≠ b; omega)).trans (((heap_setCell_other _ ⟨b, 7, none⟩ _ _ (by show w.heap.size + 1 ≠ b; omega)).trans (hQ.out))))) Tryz.underlying105 rfl sizeFact) rfl ⟨rfl, ?_⟩
    exact Kep.setRow ((((K.out).setCell (a := ⟨b, 7, none⟩) (by show w.heap.size ≤ b; omega) _)).setCell (a := ⟨b, 8, none⟩) (by show w.heap.size ≤ b; omega) _) _ _ (by omega)
set_option maxHeartbeats 4000000 in
theorem fa_3 (x : Value) (cls : Int) (rd wr : Array UInt8) (h1 : rd ∈ lets) (h2 : wr ∈ lets) (w : World) : Calls Tryz.prog 37 #[.agg (rowV x cls rd wr #[102])] w fun e w' => e = .returned (.agg (factV cls rd wr false true false)) ∧ Kep w w' := by
  have c1 : Hid (∀ w, Calls Tryz.prog 65 #[.string ⟨rd⟩] w fun e w' => e = .returned (.agg (plV rd)) ∧ ∃ o1 o2, w' = (w.alloc o1).alloc o2) := fun w => placesBy_any rd h1 w
  have c2 : Hid (∀ w, Calls Tryz.prog 65 #[.string ⟨wr⟩] w fun e w' => e = .returned (.agg (plV wr)) ∧ ∃ o1 o2, w' = (w.alloc o1).alloc o2) := fun w => placesBy_any wr h2 w
  clear h1 h2
  unfold plV at c1 c2
  go_enter Tryz.func37, Tryz.ntmps37
  go_upto_region 1 with fail
  go_cut [3] from 5 to 13 (fun s3 wx => ∃ b : Nat, s3 = .pointer (some ⟨b, 0, none⟩) ∧ w.heap.size + 2 ≤ b ∧ Hid (wx.heap[b]? = some (.cells (factV cls rd wr false false false) 105 (0, 0))) ∧ Hid (Kep ((w.alloc (.cells (rowV x cls rd wr #[102]) 111)).alloc (.cells zeroF 105)) wx))
  case first =>
    go_region_held3 (fun w' => w'.cell? ⟨w.heap.size, 1, none⟩ = some (.int .i64 cls) ∧ w'.cell? ⟨w.heap.size, 2, none⟩ = some (.string ⟨rd⟩) ∧ w'.cell? ⟨w.heap.size, 3, none⟩ = some (.string ⟨wr⟩)) (first | ((refine ⟨(keep_row (t := 111) (cs := rowV x cls rd wr #[102]) ?_).trans rfl, (keep_row (t := 111) (cs := rowV x cls rd wr #[102]) ?_).trans rfl, (keep_row (t := 111) (cs := rowV x cls rd wr #[102]) ?_).trans rfl⟩) <;> ((repeat (first | with_reducible exact Kep.refl _ | with_reducible refine Kep.drew ?_ | with_reducible refine Kep.alloc ?_ _ | with_reducible refine Kep.setCell ?_ (by simp; omega) _)); done)) | (go_keep; done)) (first
      | (go_at_call_of 65 (Value.string ⟨rd⟩); refine (c1.out _).mono ?_; rintro e w' ⟨rfl, o1, o2, rfl⟩)
      | (go_at_call_of 65 (Value.string ⟨wr⟩); refine (c2.out _).mono ?_; rintro e w' ⟨rfl, o1, o2, rfl⟩))
    all_goals
      go_wp2_with fail
      go_meet
      refine ⟨_, rfl, by omega, ?_, ?_⟩
      · unfold Hid
        simp only [heap_drew]
        repeat (first | exact hp_at _ _ _ (by simp only [World.size_alloc]) | refine (hp_skip _ _ _ (by simp only [World.size_alloc]; omega)).trans ?_)
      · unfold Hid
        repeat (first | with_reducible exact Kep.refl _ | with_reducible refine Kep.drew ?_ | with_reducible refine Kep.alloc ?_ _)
  case rest =>
    obtain ⟨b, rfl, hge, hB, hK⟩ := hcut
    have hQ : Hid (wc.heap[w.heap.size + 1]? = some (.cells zeroF 105 (0, 0))) := hK.out.block (by simpa using heap_alloc_new (w.alloc _) _)
    have K : Hid (Kep w wc) := kep_trans (((Kep.refl _).alloc _).alloc _) hK.out
    have d4 : wc.cell? ⟨w.heap.size, 4, none⟩ = some (.string ⟨#[102]⟩) := (keep_row (t := 111) (cs := rowV x cls rd wr #[102]) (kep_trans ((Kep.refl _).alloc _) hK.out)).trans rfl
    have hb7 : wc.cell? ⟨b, 7, none⟩ = some (.bool false) := cell_of_block hB.out
    have hb8 : wc.cell? ⟨b, 8, none⟩ = some (.bool false) := cell_of_block hB.out
    have hb9 : wc.cell? ⟨b, 9, none⟩ = some (.bool false) := cell_of_block hB.out
    have hf7 : wc.frozen? ⟨b, 7, none⟩ = false := frozen_of_row _ _ _ _ _ hB.out
    have hf8 : wc.frozen? ⟨b, 8, none⟩ = false := frozen_of_row _ _ _ _ _ hB.out
    have hf9 : wc.frozen? ⟨b, 9, none⟩ = false := frozen_of_row _ _ _ _ _ hB.out
    have hne : ¬ b = w.heap.size := by omega
    have hne' : ¬ w.heap.size = b := by omega
    clear hK c1 c2
    go_wp2_with fail
    refine wp_loop_rounds 2 ?_
    rw [rounds_succ]
    go_wp2_with fail
    rw [rounds_succ]
    go_upto_region 13 with fail
    refine wp_region_lit ?_
    refine wpList_load_row rfl 105 _ rfl b rfl 105 (factV cls rd wr false true false) (0, 0) _ (heap_setCell_same _ b 8 _ _ (.bool true) (hB.out)) Tryz.underlying105 rfl sizeFact ?_
    refine wpList_store_row (by rfl) 105 _ _ (by rfl) (w.heap.size + 1) (factV cls rd wr false true false) (by rfl) (by rfl) 105 zeroF ((heap_setCell_other _ ⟨b, 8, none⟩ _ _ (by show w.heap.size + 1 ≠ b; omega)).trans (hQ.out)) sizeFact rfl (fact_one _ _ _ _ _ _) ?_
    go_wp2_with fail
    try simp only [Exit.inBlock, Exit.then]
    refine bodyPost_ret (results_cell_row rfl _ _ (w.heap.size + 1) 105 (factV cls rd wr false true false) (0, 0) _ rfl (setRow_heap _ _ _ _ _ _ ((heap_setCell_other _ ⟨b, 8, none⟩ _ _ (by show w.heap.size + 1 ≠ b; omega)).trans (hQ.out))) Tryz.underlying105 rfl sizeFact) rfl ⟨rfl, ?_⟩
    exact Kep.setRow ((K.out).setCell (a := ⟨b, 8, none⟩) (by show w.heap.size ≤ b; omega) _) _ _ (by omega)
set_option maxHeartbeats 4000000 in
theorem fa_4 (x : Value) (cls : Int) (rd wr : Array UInt8) (h1 : rd ∈ lets) (h2 : wr ∈ lets) (w : World) : Calls Tryz.prog 37 #[.agg (rowV x cls rd wr #[115])] w fun e w' => e = .returned (.agg (factV cls rd wr false false true)) ∧ Kep w w' := by
  have c1 : Hid (∀ w, Calls Tryz.prog 65 #[.string ⟨rd⟩] w fun e w' => e = .returned (.agg (plV rd)) ∧ ∃ o1 o2, w' = (w.alloc o1).alloc o2) := fun w => placesBy_any rd h1 w
  have c2 : Hid (∀ w, Calls Tryz.prog 65 #[.string ⟨wr⟩] w fun e w' => e = .returned (.agg (plV wr)) ∧ ∃ o1 o2, w' = (w.alloc o1).alloc o2) := fun w => placesBy_any wr h2 w
  clear h1 h2
  unfold plV at c1 c2
  go_enter Tryz.func37, Tryz.ntmps37
  go_upto_region 1 with fail
  go_cut [3] from 5 to 13 (fun s3 wx => ∃ b : Nat, s3 = .pointer (some ⟨b, 0, none⟩) ∧ w.heap.size + 2 ≤ b ∧ Hid (wx.heap[b]? = some (.cells (factV cls rd wr false false false) 105 (0, 0))) ∧ Hid (Kep ((w.alloc (.cells (rowV x cls rd wr #[115]) 111)).alloc (.cells zeroF 105)) wx))
  case first =>
    go_region_held3 (fun w' => w'.cell? ⟨w.heap.size, 1, none⟩ = some (.int .i64 cls) ∧ w'.cell? ⟨w.heap.size, 2, none⟩ = some (.string ⟨rd⟩) ∧ w'.cell? ⟨w.heap.size, 3, none⟩ = some (.string ⟨wr⟩)) (first | ((refine ⟨(keep_row (t := 111) (cs := rowV x cls rd wr #[115]) ?_).trans rfl, (keep_row (t := 111) (cs := rowV x cls rd wr #[115]) ?_).trans rfl, (keep_row (t := 111) (cs := rowV x cls rd wr #[115]) ?_).trans rfl⟩) <;> ((repeat (first | with_reducible exact Kep.refl _ | with_reducible refine Kep.drew ?_ | with_reducible refine Kep.alloc ?_ _ | with_reducible refine Kep.setCell ?_ (by simp; omega) _)); done)) | (go_keep; done)) (first
      | (go_at_call_of 65 (Value.string ⟨rd⟩); refine (c1.out _).mono ?_; rintro e w' ⟨rfl, o1, o2, rfl⟩)
      | (go_at_call_of 65 (Value.string ⟨wr⟩); refine (c2.out _).mono ?_; rintro e w' ⟨rfl, o1, o2, rfl⟩))
    all_goals
      go_wp2_with fail
      go_meet
      refine ⟨_, rfl, by omega, ?_, ?_⟩
      · unfold Hid
        simp only [heap_drew]
        repeat (first | exact hp_at _ _ _ (by simp only [World.size_alloc]) | refine (hp_skip _ _ _ (by simp only [World.size_alloc]; omega)).trans ?_)
      · unfold Hid
        repeat (first | with_reducible exact Kep.refl _ | with_reducible refine Kep.drew ?_ | with_reducible refine Kep.alloc ?_ _)
  case rest =>
    obtain ⟨b, rfl, hge, hB, hK⟩ := hcut
    have hQ : Hid (wc.heap[w.heap.size + 1]? = some (.cells zeroF 105 (0, 0))) := hK.out.block (by simpa using heap_alloc_new (w.alloc _) _)
    have K : Hid (Kep w wc) := kep_trans (((Kep.refl _).alloc _).alloc _) hK.out
    have d4 : wc.cell? ⟨w.heap.size, 4, none⟩ = some (.string ⟨#[115]⟩) := (keep_row (t := 111) (cs := rowV x cls rd wr #[115]) (kep_trans ((Kep.refl _).alloc _) hK.out)).trans rfl
    have hb7 : wc.cell? ⟨b, 7, none⟩ = some (.bool false) := cell_of_block hB.out
    have hb8 : wc.cell? ⟨b, 8, none⟩ = some (.bool false) := cell_of_block hB.out
    have hb9 : wc.cell? ⟨b, 9, none⟩ = some (.bool false) := cell_of_block hB.out
    have hf7 : wc.frozen? ⟨b, 7, none⟩ = false := frozen_of_row _ _ _ _ _ hB.out
    have hf8 : wc.frozen? ⟨b, 8, none⟩ = false := frozen_of_row _ _ _ _ _ hB.out
    have hf9 : wc.frozen? ⟨b, 9, none⟩ = false := frozen_of_row _ _ _ _ _ hB.out
    have hne : ¬ b = w.heap.size := by omega
    have hne' : ¬ w.heap.size = b := by omega
    clear hK c1 c2
    go_wp2_with fail
    refine wp_loop_rounds 2 ?_
    rw [rounds_succ]
    go_wp2_with fail
    rw [rounds_succ]
    go_upto_region 13 with fail
    refine wp_region_lit ?_
    refine wpList_load_row rfl 105 _ rfl b rfl 105 (factV cls rd wr false false true) (0, 0) _ (heap_setCell_same _ b 9 _ _ (.bool true) (hB.out)) Tryz.underlying105 rfl sizeFact ?_
    refine wpList_store_row (by rfl) 105 _ _ (by rfl) (w.heap.size + 1) (factV cls rd wr false false true) (by rfl) (by rfl) 105 zeroF ((heap_setCell_other _ ⟨b, 9, none⟩ _ _ (by show w.heap.size + 1 ≠ b; omega)).trans (hQ.out)) sizeFact rfl (fact_one _ _ _ _ _ _) ?_
    go_wp2_with fail
    try simp only [Exit.inBlock, Exit.then]
    refine bodyPost_ret (results_cell_row rfl _ _ (w.heap.size + 1) 105 (factV cls rd wr false false true) (0, 0) _ rfl (setRow_heap _ _ _ _ _ _ ((heap_setCell_other _ ⟨b, 9, none⟩ _ _ (by show w.heap.size + 1 ≠ b; omega)).trans (hQ.out))) Tryz.underlying105 rfl sizeFact) rfl ⟨rfl, ?_⟩
    exact Kep.setRow ((K.out).setCell (a := ⟨b, 9, none⟩) (by show w.heap.size ≤ b; omega) _) _ _ (by omega)
set_option maxHeartbeats 4000000 in
theorem fa_5 (x : Value) (cls : Int) (rd wr : Array UInt8) (h1 : rd ∈ lets) (h2 : wr ∈ lets) (w : World) : Calls Tryz.prog 37 #[.agg (rowV x cls rd wr #[116, 115])] w fun e w' => e = .returned (.agg (factV cls rd wr true false true)) ∧ Kep w w' := by
  have c1 : Hid (∀ w, Calls Tryz.prog 65 #[.string ⟨rd⟩] w fun e w' => e = .returned (.agg (plV rd)) ∧ ∃ o1 o2, w' = (w.alloc o1).alloc o2) := fun w => placesBy_any rd h1 w
  have c2 : Hid (∀ w, Calls Tryz.prog 65 #[.string ⟨wr⟩] w fun e w' => e = .returned (.agg (plV wr)) ∧ ∃ o1 o2, w' = (w.alloc o1).alloc o2) := fun w => placesBy_any wr h2 w
  clear h1 h2
  unfold plV at c1 c2
  go_enter Tryz.func37, Tryz.ntmps37
  go_upto_region 1 with fail
  go_cut [3] from 5 to 13 (fun s3 wx => ∃ b : Nat, s3 = .pointer (some ⟨b, 0, none⟩) ∧ w.heap.size + 2 ≤ b ∧ Hid (wx.heap[b]? = some (.cells (factV cls rd wr false false false) 105 (0, 0))) ∧ Hid (Kep ((w.alloc (.cells (rowV x cls rd wr #[116, 115]) 111)).alloc (.cells zeroF 105)) wx))
  case first =>
    go_region_held3 (fun w' => w'.cell? ⟨w.heap.size, 1, none⟩ = some (.int .i64 cls) ∧ w'.cell? ⟨w.heap.size, 2, none⟩ = some (.string ⟨rd⟩) ∧ w'.cell? ⟨w.heap.size, 3, none⟩ = some (.string ⟨wr⟩)) (first | ((refine ⟨(keep_row (t := 111) (cs := rowV x cls rd wr #[116, 115]) ?_).trans rfl, (keep_row (t := 111) (cs := rowV x cls rd wr #[116, 115]) ?_).trans rfl, (keep_row (t := 111) (cs := rowV x cls rd wr #[116, 115]) ?_).trans rfl⟩) <;> ((repeat (first | with_reducible exact Kep.refl _ | with_reducible refine Kep.drew ?_ | with_reducible refine Kep.alloc ?_ _ | with_reducible refine Kep.setCell ?_ (by simp; omega) _)); done)) | (go_keep; done)) (first
      | (go_at_call_of 65 (Value.string ⟨rd⟩); refine (c1.out _).mono ?_; rintro e w' ⟨rfl, o1, o2, rfl⟩)
      | (go_at_call_of 65 (Value.string ⟨wr⟩); refine (c2.out _).mono ?_; rintro e w' ⟨rfl, o1, o2, rfl⟩))
    all_goals
      go_wp2_with fail
      go_meet
      refine ⟨_, rfl, by omega, ?_, ?_⟩
      · unfold Hid
        simp only [heap_drew]
        repeat (first | exact hp_at _ _ _ (by simp only [World.size_alloc]) | refine (hp_skip _ _ _ (by simp only [World.size_alloc]; omega)).trans ?_)
      · unfold Hid
        repeat (first | with_reducible exact Kep.refl _ | with_reducible refine Kep.drew ?_ | with_reducible refine Kep.alloc ?_ _)
  case rest =>
    obtain ⟨b, rfl, hge, hB, hK⟩ := hcut
    have hQ : Hid (wc.heap[w.heap.size + 1]? = some (.cells zeroF 105 (0, 0))) := hK.out.block (by simpa using heap_alloc_new (w.alloc _) _)
    have K : Hid (Kep w wc) := kep_trans (((Kep.refl _).alloc _).alloc _) hK.out
    have d4 : wc.cell? ⟨w.heap.size, 4, none⟩ = some (.string ⟨#[116, 115]⟩) := (keep_row (t := 111) (cs := rowV x cls rd wr #[116, 115]) (kep_trans ((Kep.refl _).alloc _) hK.out)).trans rfl
    have hb7 : wc.cell? ⟨b, 7, none⟩ = some (.bool false) := cell_of_block hB.out
    have hb8 : wc.cell? ⟨b, 8, none⟩ = some (.bool false) := cell_of_block hB.out
    have hb9 : wc.cell? ⟨b, 9, none⟩ = some (.bool false) := cell_of_block hB.out
    have hf7 : wc.frozen? ⟨b, 7, none⟩ = false := frozen_of_row _ _ _ _ _ hB.out
    have hf8 : wc.frozen? ⟨b, 8, none⟩ = false := frozen_of_row _ _ _ _ _ hB.out
    have hf9 : wc.frozen? ⟨b, 9, none⟩ = false := frozen_of_row _ _ _ _ _ hB.out
    have hne : ¬ b = w.heap.size := by omega
    have hne' : ¬ w.heap.size = b := by omega
    clear hK c1 c2
    go_wp2_with fail
    refine wp_loop_rounds 3 ?_
    rw [rounds_succ]
    go_wp2_with fail
    rw [rounds_succ]
    go_wp2_with fail
    rw [rounds_succ]
    go_upto_region 13 with fail
    refine wp_region_lit ?_
    refine wpList_load_row rfl 105 _ rfl b rfl 105 (factV cls rd wr true false true) (0, 0) _ (heap_setCell_same _ b 9 _ _ (.bool true) ((heap_setCell_same _ b 7 _ _ (.bool true) (hB.out)))) Tryz.underlying105 rfl sizeFact ?_
    refine wpList_store_row (by rfl) 105 _ _ (by rfl) (w.heap.size + 1) (factV cls rd wr true false true) (by rfl) (by rfl) 105 zeroF ((heap_setCell_other _ ⟨b, 9, none⟩ _ _ (by show w.heap.size + 1 ≠ b; omega)).trans (((heap_setCell_other _ ⟨b, 7, none⟩ _ _ (by show w.heap.size + 1 ≠ b; omega)).trans (hQ.out)))) sizeFact rfl (fact_one _ _ _ _ _ _) ?_
    go_wp2_with fail
    try simp only [Exit.inBlock, Exit.then]
    refine bodyPost_ret (results_cell_row rfl _ _ (w.heap.size + 1) 105 (factV cls rd wr true false true) (0, 0) _ rfl (setRow_heap _ _ _ _ _ _ ((heap_setCell_other _ ⟨b, 9, none⟩ _ _ (by show w.heap.size + 1 ≠ b; omega)).trans (((heap_setCell_other _ ⟨b, 7, none⟩ _ _ (by show w.heap.size + 1 ≠ b; omega)).trans (hQ.out))))) Tryz.underlying105 rfl sizeFact) rfl ⟨rfl, ?_⟩
    exact Kep.setRow ((((K.out).setCell (a := ⟨b, 7, none⟩) (by show w.heap.size ≤ b; omega) _)).setCell (a := ⟨b, 9, none⟩) (by show w.heap.size ≤ b; omega) _) _ _ (by omega)
theorem fact_any (x : Value) (cls : Int) (rd wr m : Array UInt8) (h1 : rd ∈ lets) (h2 : wr ∈ lets) (h3 : m ∈ marks) (w : World) : Calls Tryz.prog 37 #[.agg (rowV x cls rd wr m)] w fun e w' => e = .returned (.agg (factV cls rd wr (mk 116 m) (mk 102 m) (mk 115 m))) ∧ Kep w w' := by
  simp only [marks, List.mem_cons, List.not_mem_nil, or_false] at h3
  rcases h3 with rfl | rfl | rfl | rfl | rfl | rfl
  · exact fa_0 x cls rd wr h1 h2 w
  · exact fa_1 x cls rd wr h1 h2 w
  · exact fa_2 x cls rd wr h1 h2 w
  · exact fa_3 x cls rd wr h1 h2 w
  · exact fa_4 x cls rd wr h1 h2 w
  · exact fa_5 x cls rd wr h1 h2 w
end Go.Proofs.YtamffningddgbaaGreatDoor
