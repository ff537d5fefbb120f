/- Part of a proof. -/
import Derived.Deep.RegionWith
import Derived.Laws.Rows
import Derived.Test.YthimfiihebdchaaDoorJ10
namespace Go.Proofs.YthimfiihebdchaaDoor
open Go.RowKit
set_option linter.unusedVariables false
set_option linter.unusedSimpArgs false
def s00 : Sta := ⟨fun _ => 0, 100, 0, fun _ => 0, false⟩
def s0 : Sta := (s00.reg 1 7).reg 2 2
theorem s0_ok : s0.Ok := Sta.Ok.reg (Sta.Ok.reg ⟨fun _ => by show (0 : Int) ≤ 0 ∧ (0 : Int) < 4294967296; decide, by decide, by decide, fun _ => by show (0 : Int) ≤ 0 ∧ (0 : Int) < 4294967296; decide⟩ 1 7 (by decide) (by decide)) 2 2 (by decide) (by decide)
theorem w0_f : doF s0 18 1 2 0 = (0, 0) := by decide
theorem w0_r : (doS s0 18 1 2 0 0).r 1 = 5 := by decide
theorem w0_pc : (doS s0 18 1 2 0 0).pc = 102 := by decide
set_option maxHeartbeats 1600000 in
set_option maxRecDepth 100000 in
theorem works8_any (w : World) (hT : Tabs w) : Calls Tryd.prog 10 #[] w fun e w' => e = .returned (.bool true) ∧ Kep w w' := by
  have D : Hid (∀ w, Tabs w → Calls Tryd.prog 8 #[.agg s0.v, .agg (insA 18 1 2 0), .int .u32 0] w fun e w' => e = .returned (.tuple #[.agg (doS s0 18 1 2 0 0).v, .agg (fltV (0, 0))]) ∧ Kep w w') := fun w hT => by
    have := do_any s0 18 1 2 0 0 w s0_ok (by decide) (by decide) (by decide) (by decide) (by decide) hT
    rw [w0_f] at this; exact this
  have hr := w0_r
  have hp := w0_pc
  generalize doS s0 18 1 2 0 0 = S at *
  have hT' : Hid (Tabs w) := hT
  clear hT
  go_enter Tryd.func10, Tryd.ntmps10
  go_upto_region 2 with (refine wpList_store_row (by rfl) 25 _ _ (by rfl) w.heap.size s00.v (by rfl) (by rfl) 25 z19 blkA (by exact size_sta) (by rfl) (v_one _) ?_)
  dsimp only [Act.put]
  obtain ⟨W, hW⟩ : ∃ W, Hid (W = (w.alloc (.cells z19 25)).setRow w.heap.size s00.v) := ⟨_, rfl⟩
  rw [← hW.out]
  have AW : At W w.heap.size s00 := by rw [hW.out]; unfold At; (repeat (first | (with_reducible assumption) | (with_reducible exact Hid.out (by assumption)) | (with_reducible refine (hsk _ _ _ (by (first | omega | (simp only [World.size_alloc, World.size_setCell, size_setRow, World.size_drew]; done) | (simp only [World.size_alloc, World.size_setCell, size_setRow, World.size_drew]; omega)))).trans ?_) | (with_reducible refine (hat _ _ _ (by (first | omega | (simp only [World.size_alloc, World.size_setCell, size_setRow, World.size_drew]; done) | (simp only [World.size_alloc, World.size_setCell, size_setRow, World.size_drew]; omega))))) | (with_reducible refine Kep.block (Kep.alloc (Kep.refl _) _) ?_) | (with_reducible refine (heap_setCell_other _ _ _ _ (by (first | omega | (simp only []; omega) | (show _ ≠ _; omega)))).trans ?_) | (with_reducible refine (setRow_other _ _ _ _ (by (first | omega | (simp only []; omega) | (show _ ≠ _; omega)))).trans ?_) | (with_reducible refine (drew_heap _ _).trans ?_) | (with_reducible refine (drewN_heap _ _ _).trans ?_) | (with_reducible refine Kep.block (by assumption) ?_) | (with_reducible exact setRow_heap _ _ _ _ _ _ (by (repeat (first | (with_reducible assumption) | (with_reducible exact Hid.out (by assumption)) | (with_reducible refine (hsk _ _ _ (by (first | omega | (simp only [World.size_alloc, World.size_setCell, size_setRow, World.size_drew]; done) | (simp only [World.size_alloc, World.size_setCell, size_setRow, World.size_drew]; omega)))).trans ?_) | (with_reducible refine (hat _ _ _ (by (first | omega | (simp only [World.size_alloc, World.size_setCell, size_setRow, World.size_drew]; done) | (simp only [World.size_alloc, World.size_setCell, size_setRow, World.size_drew]; omega))))) | (with_reducible refine Kep.block (Kep.alloc (Kep.refl _) _) ?_) | (with_reducible refine (heap_setCell_other _ _ _ _ (by (first | omega | (simp only []; omega) | (show _ ≠ _; omega)))).trans ?_) | (with_reducible refine (setRow_other _ _ _ _ (by (first | omega | (simp only []; omega) | (show _ ≠ _; omega)))).trans ?_) | (with_reducible refine (drew_heap _ _).trans ?_) | (with_reducible refine (drewN_heap _ _ _).trans ?_)))))))
  have GW : Hid (Kep w W) := by rw [hW.out]; show Kep _ _; (repeat (first | (with_reducible assumption) | (with_reducible exact Kep.refl _) | (with_reducible exact Hid.out (by assumption)) | (with_reducible refine Kep.alloc ?_ _) | (with_reducible refine Kep.drew ?_) | (with_reducible refine Kep.drewN ?_ _) | (with_reducible refine Kep.setRow ?_ _ _ (by (first | omega | (simp only [World.size_alloc, World.size_setCell, size_setRow, World.size_drew]; done) | (simp only [World.size_alloc, World.size_setCell, size_setRow, World.size_drew]; omega)))) | (with_reducible refine Kep.setCell ?_ (by first | omega | (simp only []; omega) | (show _ ≤ _; omega)) _)))
  have c1 := AW.reg 1 (by decide)
  have c2 := AW.reg 2 (by decide)
  have zf := row_frozen AW
  have AW' : Hid (At W w.heap.size s00) := AW
  clear AW
  go_wp2_with (refine wpList_load_row (by rfl) 25 _ (by rfl) w.heap.size (by rfl) 25 s0.v (0, 0) _ ((AW'.out.set 1 (by decide) 7).set 2 (by decide) 2) Tryd.underlying25 rfl (by exact size_sta) ?_)
  refine (D.out _ (hT'.out.grown kepA)).mono ?_
  rintro e w1 ⟨rfl, K1⟩
  have G1 : Hid (Kep w w1) := kep_trans kepA K1
  clear K1 c1 c2 zf AW'
  go_upto_region 5 with (first | (refine wpList_store_row (by rfl) 25 _ _ (by rfl) _ _ (by rfl) (by rfl) 25 z19 blkA (by exact size_sta) (by rfl) (v_one _) ?_) | (refine wpList_store_row (by rfl) 29 _ _ (by rfl) _ _ (by rfl) (by rfl) 29 #[.int .i64 0, .int .u32 0] blkA (by exact size_flt) (by rfl) (by simp [Value.oneCell']) ?_))
  dsimp only [Act.put]
  generalize hV : World.setRow (World.setRow (World.alloc (World.alloc w1 _) _) _ _) _ _ = V
  have AV : At V w1.heap.size S := by rw [← hV]; unfold At; (repeat (first | (with_reducible assumption) | (with_reducible exact Hid.out (by assumption)) | (with_reducible refine (hsk _ _ _ (by (first | omega | (simp only [World.size_alloc, World.size_setCell, size_setRow, World.size_drew]; done) | (simp only [World.size_alloc, World.size_setCell, size_setRow, World.size_drew]; omega)))).trans ?_) | (with_reducible refine (hat _ _ _ (by (first | omega | (simp only [World.size_alloc, World.size_setCell, size_setRow, World.size_drew]; done) | (simp only [World.size_alloc, World.size_setCell, size_setRow, World.size_drew]; omega))))) | (with_reducible refine Kep.block (Kep.alloc (Kep.refl _) _) ?_) | (with_reducible refine (heap_setCell_other _ _ _ _ (by (first | omega | (simp only []; omega) | (show _ ≠ _; omega)))).trans ?_) | (with_reducible refine (setRow_other _ _ _ _ (by (first | omega | (simp only []; omega) | (show _ ≠ _; omega)))).trans ?_) | (with_reducible refine (drew_heap _ _).trans ?_) | (with_reducible refine (drewN_heap _ _ _).trans ?_) | (with_reducible refine Kep.block (by assumption) ?_) | (with_reducible exact setRow_heap _ _ _ _ _ _ (by (repeat (first | (with_reducible assumption) | (with_reducible exact Hid.out (by assumption)) | (with_reducible refine (hsk _ _ _ (by (first | omega | (simp only [World.size_alloc, World.size_setCell, size_setRow, World.size_drew]; done) | (simp only [World.size_alloc, World.size_setCell, size_setRow, World.size_drew]; omega)))).trans ?_) | (with_reducible refine (hat _ _ _ (by (first | omega | (simp only [World.size_alloc, World.size_setCell, size_setRow, World.size_drew]; done) | (simp only [World.size_alloc, World.size_setCell, size_setRow, World.size_drew]; omega))))) | (with_reducible refine Kep.block (Kep.alloc (Kep.refl _) _) ?_) | (with_reducible refine (heap_setCell_other _ _ _ _ (by (first | omega | (simp only []; omega) | (show _ ≠ _; omega)))).trans ?_) | (with_reducible refine (setRow_other _ _ _ _ (by (first | omega | (simp only []; omega) | (show _ ≠ _; omega)))).trans ?_) | (with_reducible refine (drew_heap _ _).trans ?_) | (with_reducible refine (drewN_heap _ _ _).trans ?_)))))))
  have FV : V.heap[w1.heap.size + 1]? = some (.cells (fltV (0, 0)) 29 (0, 0)) := by rw [← hV]; (repeat (first | (with_reducible assumption) | (with_reducible exact Hid.out (by assumption)) | (with_reducible refine (hsk _ _ _ (by (first | omega | (simp only [World.size_alloc, World.size_setCell, size_setRow, World.size_drew]; done) | (simp only [World.size_alloc, World.size_setCell, size_setRow, World.size_drew]; omega)))).trans ?_) | (with_reducible refine (hat _ _ _ (by (first | omega | (simp only [World.size_alloc, World.size_setCell, size_setRow, World.size_drew]; done) | (simp only [World.size_alloc, World.size_setCell, size_setRow, World.size_drew]; omega))))) | (with_reducible refine Kep.block (Kep.alloc (Kep.refl _) _) ?_) | (with_reducible refine (heap_setCell_other _ _ _ _ (by (first | omega | (simp only []; omega) | (show _ ≠ _; omega)))).trans ?_) | (with_reducible refine (setRow_other _ _ _ _ (by (first | omega | (simp only []; omega) | (show _ ≠ _; omega)))).trans ?_) | (with_reducible refine (drew_heap _ _).trans ?_) | (with_reducible refine (drewN_heap _ _ _).trans ?_) | (with_reducible refine Kep.block (by assumption) ?_) | (with_reducible exact setRow_heap _ _ _ _ _ _ (by (repeat (first | (with_reducible assumption) | (with_reducible exact Hid.out (by assumption)) | (with_reducible refine (hsk _ _ _ (by (first | omega | (simp only [World.size_alloc, World.size_setCell, size_setRow, World.size_drew]; done) | (simp only [World.size_alloc, World.size_setCell, size_setRow, World.size_drew]; omega)))).trans ?_) | (with_reducible refine (hat _ _ _ (by (first | omega | (simp only [World.size_alloc, World.size_setCell, size_setRow, World.size_drew]; done) | (simp only [World.size_alloc, World.size_setCell, size_setRow, World.size_drew]; omega))))) | (with_reducible refine Kep.block (Kep.alloc (Kep.refl _) _) ?_) | (with_reducible refine (heap_setCell_other _ _ _ _ (by (first | omega | (simp only []; omega) | (show _ ≠ _; omega)))).trans ?_) | (with_reducible refine (setRow_other _ _ _ _ (by (first | omega | (simp only []; omega) | (show _ ≠ _; omega)))).trans ?_) | (with_reducible refine (drew_heap _ _).trans ?_) | (with_reducible refine (drewN_heap _ _ _).trans ?_)))))))
  have GV : Hid (Kep w V) := kep_trans G1.out (by rw [← hV]; (repeat (first | (with_reducible assumption) | (with_reducible exact Kep.refl _) | (with_reducible exact Hid.out (by assumption)) | (with_reducible refine Kep.alloc ?_ _) | (with_reducible refine Kep.drew ?_) | (with_reducible refine Kep.drewN ?_ _) | (with_reducible refine Kep.setRow ?_ _ _ (by (first | omega | (simp only [World.size_alloc, World.size_setCell, size_setRow, World.size_drew]; done) | (simp only [World.size_alloc, World.size_setCell, size_setRow, World.size_drew]; omega)))) | (with_reducible refine Kep.setCell ?_ (by first | omega | (simp only []; omega) | (show _ ≤ _; omega)) _))))
  have d1 := AV.reg 1 (by decide)
  have d8 := AV.pc
  rw [hr] at d1
  rw [hp] at d8
  have f0 : V.cell? ⟨w1.heap.size + 1, 0, none⟩ = some (.int .i64 0) := cell_of_block FV
  clear AV FV hV hW
  go_wp2_with fail
  go_ret
  exact ⟨rfl, GV.out⟩
def lets : List (Array UInt8) := [#[], #[97], #[98], #[97, 98], #[97, 115], #[115], #[108]]
def pA (s : Array UInt8) : Bool := s.toList.contains 97
def pB (s : Array UInt8) : Bool := s.toList.contains 98
def pI (s : Array UInt8) : Int := (if s.toList.contains 115 then 128 else 0) + (if s.toList.contains 108 then 64 else 0)
def plV (s : Array UInt8) : Array Value := #[.bool (pA s), .bool (pB s), .int .u8 (pI s)]
set_option maxHeartbeats 2000000 in
theorem pl_0 (w : World) : Calls Tryd.prog 59 #[.string ⟨#[]⟩] w fun e w' => e = .returned (.agg #[.bool false, .bool false, .int .u8 0]) ∧ ∃ o1 o2, w' = (w.alloc o1).alloc o2 := by
  go_enter Tryd.func59, Tryd.ntmps59
  go_wp2
  go_rounds 1
  go_returns
  exact ⟨rfl, _, _, rfl⟩
set_option maxHeartbeats 2000000 in
theorem pl_1 (w : World) : Calls Tryd.prog 59 #[.string ⟨#[97]⟩] w fun e w' => e = .returned (.agg #[.bool true, .bool false, .int .u8 0]) ∧ ∃ o1 o2, w' = (w.alloc o1).alloc o2 := by
  go_enter Tryd.func59, Tryd.ntmps59
  go_wp2
  go_rounds 2
  go_returns
  exact ⟨rfl, _, _, rfl⟩
set_option maxHeartbeats 2000000 in
theorem pl_2 (w : World) : Calls Tryd.prog 59 #[.string ⟨#[98]⟩] w fun e w' => e = .returned (.agg #[.bool false, .bool true, .int .u8 0]) ∧ ∃ o1 o2, w' = (w.alloc o1).alloc o2 := by
  go_enter Tryd.func59, Tryd.ntmps59
  go_wp2
  go_rounds 2
  go_returns
  exact ⟨rfl, _, _, rfl⟩
set_option maxHeartbeats 2000000 in
theorem pl_3 (w : World) : Calls Tryd.prog 59 #[.string ⟨#[97, 98]⟩] w fun e w' => e = .returned (.agg #[.bool true, .bool true, .int .u8 0]) ∧ ∃ o1 o2, w' = (w.alloc o1).alloc o2 := by
  go_enter Tryd.func59, Tryd.ntmps59
  go_wp2
  go_rounds 3
  go_returns
  exact ⟨rfl, _, _, rfl⟩
set_option maxHeartbeats 2000000 in
theorem pl_4 (w : World) : Calls Tryd.prog 59 #[.string ⟨#[97, 115]⟩] w fun e w' => e = .returned (.agg #[.bool true, .bool false, .int .u8 128]) ∧ ∃ o1 o2, w' = (w.alloc o1).alloc o2 := by
  go_enter Tryd.func59, Tryd.ntmps59
  go_wp2
  go_rounds 3
  go_returns
  exact ⟨rfl, _, _, rfl⟩
set_option maxHeartbeats 2000000 in
theorem pl_5 (w : World) : Calls Tryd.prog 59 #[.string ⟨#[115]⟩] w fun e w' => e = .returned (.agg #[.bool false, .bool false, .int .u8 128]) ∧ ∃ o1 o2, w' = (w.alloc o1).alloc o2 := by
  go_enter Tryd.func59, Tryd.ntmps59
  go_wp2
  go_rounds 2
  go_returns
  exact ⟨rfl, _, _, rfl⟩
set_option maxHeartbeats 2000000 in
theorem pl_6 (w : World) : Calls Tryd.prog 59 #[.string ⟨#[108]⟩] w fun e w' => e = .returned (.agg #[.bool false, .bool false, .int .u8 64]) ∧ ∃ o1 o2, w' = (w.alloc o1).alloc o2 := by
  go_enter Tryd.func59, Tryd.ntmps59
  go_wp2
  go_rounds 2
  go_returns
  exact ⟨rfl, _, _, rfl⟩
theorem placesBy_any (s : Array UInt8) (h : s ∈ lets) (w : World) : Calls Tryd.prog 59 #[.string ⟨s⟩] w fun e w' => e = .returned (.agg (plV s)) ∧ ∃ o1 o2, w' = (w.alloc o1).alloc o2 := by
  simp only [lets, List.mem_cons, List.not_mem_nil, or_false] at h
  rcases h with rfl | rfl | rfl | rfl | rfl | rfl | rfl
  · have e : plV #[] = #[.bool false, .bool false, .int .u8 0] := by kernel_rfl
    rw [e]; exact pl_0 w
  · have e : plV #[97] = #[.bool true, .bool false, .int .u8 0] := by kernel_rfl
    rw [e]; exact pl_1 w
  · have e : plV #[98] = #[.bool false, .bool true, .int .u8 0] := by kernel_rfl
    rw [e]; exact pl_2 w
  · have e : plV #[97, 98] = #[.bool true, .bool true, .int .u8 0] := by kernel_rfl
    rw [e]; exact pl_3 w
  · have e : plV #[97, 115] = #[.bool true, .bool false, .int .u8 128] := by kernel_rfl
    rw [e]; exact pl_4 w
  · have e : plV #[115] = #[.bool false, .bool false, .int .u8 128] := by kernel_rfl
    rw [e]; exact pl_5 w
  · have e : plV #[108] = #[.bool false, .bool false, .int .u8 64] := by kernel_rfl
    rw [e]; exact pl_6 w
structure Rw where
  ops : List Int
  cls : Int
  rd : Array UInt8
  wr : Array UInt8
  m : Array UInt8
def tabl : List Rw := [
  ⟨[0], 1, #[], #[], #[]⟩,
  ⟨[16], 1, #[98], #[97], #[]⟩,
  ⟨[17, 18, 19, 20, 21, 22, 23, 24, 27, 28, 29], 1, #[97, 98], #[97], #[116]⟩,
  ⟨[25, 30], 1, #[97, 98], #[97], #[116, 102]⟩,
  ⟨[26, 31], 1, #[97, 98], #[], #[116]⟩,
  ⟨[32], 1, #[], #[97], #[]⟩,
  ⟨[33], 1, #[97], #[97], #[116]⟩,
  ⟨[48, 50, 52, 54, 55], 2, #[98], #[97], #[102]⟩,
  ⟨[49, 51, 53], 2, #[97, 98], #[], #[102]⟩,
  ⟨[56], 2, #[97, 115], #[115], #[102]⟩,
  ⟨[57], 2, #[115], #[97, 115], #[102]⟩,
  ⟨[58], 2, #[97, 98], #[97], #[102]⟩,
  ⟨[64, 65, 66, 67, 68, 69, 70, 71], 3, #[], #[], #[]⟩,
  ⟨[72], 3, #[], #[108], #[]⟩,
  ⟨[73], 3, #[97], #[], #[]⟩,
  ⟨[74], 3, #[97], #[108], #[]⟩,
  ⟨[80], 3, #[], #[], #[102]⟩,
  ⟨[1], 4, #[], #[], #[102]⟩,
  ⟨[2], 4, #[], #[], #[116, 115]⟩,
  ⟨[3], 4, #[], #[], #[115]⟩,
  ⟨[96], 4, #[], #[97], #[115]⟩,
  ⟨[97], 4, #[97], #[], #[116, 115]⟩,
  ⟨[98], 4, #[], #[97], #[115]⟩,
  ⟨[99], 4, #[97], #[], #[102]⟩,
  ⟨[100], 4, #[], #[97], #[102]⟩,
  ⟨[101], 4, #[97], #[], #[102]⟩,
  ⟨[112, 113], 5, #[], #[], #[]⟩]
def opsO (r : Rw) : Obj := .cells (r.ops.map (Value.int .u8)).toArray 5
def rowL (B : Nat) (x : Rw × Nat) : List Value := [.slice (some ⟨B + x.2, 0, none⟩) x.1.ops.length x.1.ops.length, .int .i64 x.1.cls, .string ⟨x.1.rd⟩, .string ⟨x.1.wr⟩, .string ⟨x.1.m⟩]
def rowsO (B : Nat) : Obj := .cells (tabl.zipIdx.flatMap (rowL B)).toArray 84
def lay (w : World) : World := allocs w (tabl.map opsO ++ [rowsO w.heap.size])
theorem flat5 {α : Type} (f : α → List Value) (hf : ∀ a, (f a).length = 5) : ∀ (l : List α) (k j : Nat), j < 5 → (l.flatMap f)[k * 5 + j]? = l[k]?.bind fun a => (f a)[j]?
  | [], k, j, _ => by simp
  | a :: l, 0, j, h => by
    simp only [List.flatMap_cons, Nat.zero_mul, Nat.zero_add, List.getElem?_cons_zero, Option.bind_some]
    exact List.getElem?_append_left (by rw [hf]; exact h)
  | a :: l, k + 1, j, h => by
    simp only [List.flatMap_cons, List.getElem?_cons_succ]
    rw [List.getElem?_append_right (by rw [hf]; omega), hf]
    have e : (k + 1) * 5 + j - 5 = k * 5 + j := by omega
    rw [e]
    exact flat5 f hf l k j h
theorem lay_kep (w : World) : Kep w (lay w) := allocs_kep _ _
theorem lay_size (w : World) : (lay w).heap.size = w.heap.size + 28 := allocs_size _ _
theorem lay_ops (w : World) (k : Nat) (r : Rw) (h : tabl[k]? = some r) : (lay w).heap[w.heap.size + k]? = some (opsO r) := by
  refine allocs_at _ w k _ ?_
  rw [List.getElem?_append_left (by rw [List.length_map]; exact (List.getElem?_eq_some_iff.1 h).1)]
  simp [h]
theorem lay_rows (w : World) : (lay w).heap[w.heap.size + 27]? = some (rowsO w.heap.size) := allocs_at _ w 27 _ rfl
theorem row_cell (w : World) (k j : Nat) (r : Rw) (h : tabl[k]? = some r) (hj : j < 5) : (lay w).cell? ⟨w.heap.size + 27, k * 5 + j, none⟩ = (rowL w.heap.size (r, k))[j]? := by
  rw [cell_of_block (lay_rows w)]
  simp only [List.getElem?_toArray]
  rw [flat5 _ (fun _ => rfl) _ k j hj]
  simp [h]
theorem op_cell (w : World) (k j : Nat) (r : Rw) (h : tabl[k]? = some r) (op : Int) (hj : r.ops[j]? = some op) : (lay w).cell? ⟨w.heap.size + k, j, none⟩ = some (.int .u8 op) := by
  rw [cell_of_block (lay_ops w k r h)]
  simp [hj]
set_option maxHeartbeats 8000000 in
set_option maxRecDepth 100000 in
theorem rows_any (w : World) : Calls Tryd.prog 58 #[] w fun e w' => e = .returned (.slice (some ⟨w.heap.size + 27, 0, none⟩) 27 27) ∧ w' = lay w := by
  go_enter Tryd.func58, Tryd.ntmps58
  go_wp2_with fail
  go_ret
  exact ⟨rfl, rfl⟩
end Go.Proofs.YthimfiihebdchaaDoor
