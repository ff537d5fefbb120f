/- What the document's Show answers: an instruction's text. -/
import Derived.Test.YthmbajehcffnbaaDoorTshow
import Derived.Test.YthmbajehcffnbaaDoorTrdig
namespace Go.Proofs.YthmbajehcffnbaaDoor
open Go.RowKit
set_option linter.unusedVariables false

set_option maxHeartbeats 4000000 in
set_option maxRecDepth 100000 in
theorem rshow_0o (op a b imm z c : Int) (xs : Bool) (L : UInt8) (N : Array UInt8) (hNs : N.size ≤ 1000) (hc : c ≤ 0) (w : World) (ha : 0 ≤ a ∧ a ≤ 7) (hb : 0 ≤ b ∧ b ≤ 7) (hi : -2147483648 ≤ imm ∧ imm ≤ 2147483647)
    (M1 : ∀ w, Calls Tryd.prog 17 #[.agg (insA op a b imm), .bool true] w fun e w' => e = .returned (.bool true) ∧ Kep w w')
    (M2 : ∀ w, Calls Tryd.prog 18 #[.int .u8 op, .bool true] w fun e w' => e = .returned (.agg #[.int .i64 z, .bool false, .bool false, .int .i64 c, .bool xs]) ∧ Kep w w')
    (M3 : ∀ w, Calls Tryd.prog 19 #[.int .u8 op] w fun e w' => e = .returned (.string ⟨N⟩) ∧ Kep w w')
    (M4 : ∀ w, Calls Tryd.prog 21 #[.int .u8 op] w fun e w' => e = .returned (.string ⟨#[L]⟩) ∧ w' = w) :
    Calls Tryd.prog 9 #[.agg (insA op a b imm)] w fun e w' => e = .returned (.string ⟨N ++ partA false 114 (dg a) ++ partA false L (dg b) ++ partN false imm⟩) ∧ Kep w w' := by
  have H1 : Hid _ := M1
  have H2 : Hid _ := M2
  have H3 : Hid _ := M3
  have H4 : Hid _ := M4
  have HDa : Hid (∀ w, Calls Tryd.prog 20 #[.int .i64 a] w fun e w' => e = .returned (.string ⟨#[dg a]⟩) ∧ w' = w) := fun w => rdigit_any a ha.1 (by omega) w
  have HDb : Hid (∀ w, Calls Tryd.prog 20 #[.int .i64 b] w fun e w' => e = .returned (.string ⟨#[dg b]⟩) ∧ w' = w) := fun w => rdigit_any b hb.1 (by omega) w
  have HI : Hid (∀ w, Calls Tryd.prog 22 #[.int .i64 imm] w fun e w' => e = .returned (.string ⟨(Lib.itoa imm).toArray⟩) ∧ w' = w) := fun w => rdec_any imm hi.1 hi.2 w
  have hwa : IntKind.i64.wrap a = a := wrap_in (by omega) (by omega)
  have hwb : IntKind.i64.wrap b = b := wrap_in (by omega) (by omega)
  obtain ⟨D, hD⟩ : ∃ D, Hid (D = dg a) := ⟨_, rfl⟩
  obtain ⟨E, hDb⟩ : ∃ E, Hid (E = dg b) := ⟨_, rfl⟩
  rw [← hD.out, ← hDb.out]
  rw [← hD.out] at HDa
  rw [← hDb.out] at HDb
  have y0 : Hid (N.size ≤ 1000) := hNs
  clear M1 M2 M3 M4 hNs
  go_enter Tryd.func9, Tryd.ntmps9
  go_wp2_with fail
  refine (H1.out _).mono ?_
  rintro e w1 ⟨rfl, g1⟩
  have G1 : Hid (Kep w w1) := kep_trans ((Kep.refl _).alloc _) g1
  have b1 : Hid (w1.heap[w.heap.size]? = some (.cells (insA op a b imm) 23 (0, 0))) := g1.block (heap_alloc_new _ _)
  have z1 : w.heap.size < w1.heap.size := g1.lt (by simp)
  have c0 : w1.cell? ⟨w.heap.size, 0, none⟩ = some (.int .u8 op) := cell_of_block b1.out
  clear g1
  go_wp2_with fail
  refine (H2.out _).mono ?_
  rintro e w2 ⟨rfl, g2⟩
  have G2 : Hid (Kep w w2) := kep_trans G1.out g2
  have b2 : Hid (w2.heap[w.heap.size]? = some (.cells (insA op a b imm) 23 (0, 0))) := g2.block b1.out
  have z2 : w.heap.size < w2.heap.size := g2.lt z1
  have c0 : w2.cell? ⟨w.heap.size, 0, none⟩ = some (.int .u8 op) := cell_of_block b2.out
  clear g2
  go_wp2_with fail
  refine (H3.out _).mono ?_
  rintro e w3 ⟨rfl, g3⟩
  have G3 : Hid (Kep w w3) := kep_trans (G2.out.alloc _) g3
  have b3 : Hid (w3.heap[w.heap.size]? = some (.cells (insA op a b imm) 23 (0, 0))) := g3.block (((Kep.refl _).alloc _).block b2.out)
  have d3 : Hid (w3.heap[w2.heap.size]? = some (.cells #[.int .i64 z, .bool false, .bool false, .int .i64 c, .bool xs] 42 (0, 0))) := g3.block (heap_alloc_new _ _)
  have z3 : w2.heap.size < w3.heap.size := g3.lt (by simp)
  have z4 : w.heap.size < w3.heap.size := by omega
  have c0 : w3.cell? ⟨w.heap.size, 0, none⟩ = some (.int .u8 op) := cell_of_block b3.out
  have c1 : w3.cell? ⟨w.heap.size, 1, none⟩ = some (.int .u8 a) := cell_of_block b3.out
  have c2 : w3.cell? ⟨w.heap.size, 2, none⟩ = some (.int .u8 b) := cell_of_block b3.out
  have c3 : w3.cell? ⟨w.heap.size, 3, none⟩ = some (.int .i32 imm) := cell_of_block b3.out
  have e1 : w3.cell? ⟨w2.heap.size, 1, none⟩ = some (.bool false) := cell_of_block d3.out
  have e2 : w3.cell? ⟨w2.heap.size, 2, none⟩ = some (.bool false) := cell_of_block d3.out
  have e3 : w3.cell? ⟨w2.heap.size, 3, none⟩ = some (.int .i64 c) := cell_of_block d3.out
  clear g3
  go_wp2_with fail
  go_ret
  refine ⟨ret_str (congrArg ByteArray.mk (show N = _ from ?_)), G3.out⟩
  skip
  simp [partA, partN]

set_option maxHeartbeats 4000000 in
set_option maxRecDepth 100000 in
theorem rshow_0n (op a b imm z c : Int) (xs : Bool) (L : UInt8) (N : Array UInt8) (hNs : N.size ≤ 1000) (hc : 0 < c) (w : World) (ha : 0 ≤ a ∧ a ≤ 7) (hb : 0 ≤ b ∧ b ≤ 7) (hi : -2147483648 ≤ imm ∧ imm ≤ 2147483647)
    (M1 : ∀ w, Calls Tryd.prog 17 #[.agg (insA op a b imm), .bool true] w fun e w' => e = .returned (.bool true) ∧ Kep w w')
    (M2 : ∀ w, Calls Tryd.prog 18 #[.int .u8 op, .bool true] w fun e w' => e = .returned (.agg #[.int .i64 z, .bool false, .bool false, .int .i64 c, .bool xs]) ∧ Kep w w')
    (M3 : ∀ w, Calls Tryd.prog 19 #[.int .u8 op] w fun e w' => e = .returned (.string ⟨N⟩) ∧ Kep w w')
    (M4 : ∀ w, Calls Tryd.prog 21 #[.int .u8 op] w fun e w' => e = .returned (.string ⟨#[L]⟩) ∧ w' = w) :
    Calls Tryd.prog 9 #[.agg (insA op a b imm)] w fun e w' => e = .returned (.string ⟨N ++ partA false 114 (dg a) ++ partA false L (dg b) ++ partN true imm⟩) ∧ Kep w w' := by
  have H1 : Hid _ := M1
  have H2 : Hid _ := M2
  have H3 : Hid _ := M3
  have H4 : Hid _ := M4
  have HDa : Hid (∀ w, Calls Tryd.prog 20 #[.int .i64 a] w fun e w' => e = .returned (.string ⟨#[dg a]⟩) ∧ w' = w) := fun w => rdigit_any a ha.1 (by omega) w
  have HDb : Hid (∀ w, Calls Tryd.prog 20 #[.int .i64 b] w fun e w' => e = .returned (.string ⟨#[dg b]⟩) ∧ w' = w) := fun w => rdigit_any b hb.1 (by omega) w
  have HI : Hid (∀ w, Calls Tryd.prog 22 #[.int .i64 imm] w fun e w' => e = .returned (.string ⟨(Lib.itoa imm).toArray⟩) ∧ w' = w) := fun w => rdec_any imm hi.1 hi.2 w
  have hwa : IntKind.i64.wrap a = a := wrap_in (by omega) (by omega)
  have hwb : IntKind.i64.wrap b = b := wrap_in (by omega) (by omega)
  obtain ⟨D, hD⟩ : ∃ D, Hid (D = dg a) := ⟨_, rfl⟩
  obtain ⟨E, hDb⟩ : ∃ E, Hid (E = dg b) := ⟨_, rfl⟩
  rw [← hD.out, ← hDb.out]
  rw [← hD.out] at HDa
  rw [← hDb.out] at HDb
  have y0 : Hid (N.size ≤ 1000) := hNs
  obtain ⟨I, hI⟩ : ∃ I, Hid (I = (Lib.itoa imm).toArray) := ⟨_, rfl⟩
  rw [← hI.out] at HI
  have yI : Hid (I.size ≤ 21) := by unfold Hid; rw [hI.out]; simpa using itoa_size imm hi.1 hi.2
  obtain ⟨C1, hC1⟩ : ∃ C1 : Array UInt8, Hid (C1 = N ++ #[32]) := ⟨N ++ #[32], (rfl : (N ++ #[32] : Array UInt8) = N ++ #[32])⟩
  have tC1 : ∀ w, (Op.stringOp .add ⟨N⟩ ⟨#[32]⟩).run Tryd.prog w = .ok (.string ⟨C1⟩) w := fun w => by rw [hC1.out]; exact add_str N #[32] (by have := y0.out; omega) (by simp) w
  have yC1 : Hid (C1.size ≤ 1030) := by unfold Hid; rw [hC1.out, Array.size_append]; have := y0.out; simp; omega
  obtain ⟨C2, hC2⟩ : ∃ C2 : Array UInt8, Hid (C2 = C1 ++ I) := ⟨C1 ++ I, (rfl : (C1 ++ I : Array UInt8) = C1 ++ I)⟩
  have tC2 : ∀ w, (Op.stringOp .add ⟨C1⟩ ⟨I⟩).run Tryd.prog w = .ok (.string ⟨C2⟩) w := fun w => by rw [hC2.out]; exact add_str C1 I (by have := yC1.out; omega) (by have := yI.out; omega) w
  have yC2 : Hid (C2.size ≤ 1060) := by unfold Hid; rw [hC2.out, Array.size_append]; have := yC1.out; have := yI.out; omega
  clear M1 M2 M3 M4 hNs
  go_enter Tryd.func9, Tryd.ntmps9
  go_wp2_with fail
  refine (H1.out _).mono ?_
  rintro e w1 ⟨rfl, g1⟩
  have G1 : Hid (Kep w w1) := kep_trans ((Kep.refl _).alloc _) g1
  have b1 : Hid (w1.heap[w.heap.size]? = some (.cells (insA op a b imm) 23 (0, 0))) := g1.block (heap_alloc_new _ _)
  have z1 : w.heap.size < w1.heap.size := g1.lt (by simp)
  have c0 : w1.cell? ⟨w.heap.size, 0, none⟩ = some (.int .u8 op) := cell_of_block b1.out
  clear g1
  go_wp2_with fail
  refine (H2.out _).mono ?_
  rintro e w2 ⟨rfl, g2⟩
  have G2 : Hid (Kep w w2) := kep_trans G1.out g2
  have b2 : Hid (w2.heap[w.heap.size]? = some (.cells (insA op a b imm) 23 (0, 0))) := g2.block b1.out
  have z2 : w.heap.size < w2.heap.size := g2.lt z1
  have c0 : w2.cell? ⟨w.heap.size, 0, none⟩ = some (.int .u8 op) := cell_of_block b2.out
  clear g2
  go_wp2_with fail
  refine (H3.out _).mono ?_
  rintro e w3 ⟨rfl, g3⟩
  have G3 : Hid (Kep w w3) := kep_trans (G2.out.alloc _) g3
  have b3 : Hid (w3.heap[w.heap.size]? = some (.cells (insA op a b imm) 23 (0, 0))) := g3.block (((Kep.refl _).alloc _).block b2.out)
  have d3 : Hid (w3.heap[w2.heap.size]? = some (.cells #[.int .i64 z, .bool false, .bool false, .int .i64 c, .bool xs] 42 (0, 0))) := g3.block (heap_alloc_new _ _)
  have z3 : w2.heap.size < w3.heap.size := g3.lt (by simp)
  have z4 : w.heap.size < w3.heap.size := by omega
  have c0 : w3.cell? ⟨w.heap.size, 0, none⟩ = some (.int .u8 op) := cell_of_block b3.out
  have c1 : w3.cell? ⟨w.heap.size, 1, none⟩ = some (.int .u8 a) := cell_of_block b3.out
  have c2 : w3.cell? ⟨w.heap.size, 2, none⟩ = some (.int .u8 b) := cell_of_block b3.out
  have c3 : w3.cell? ⟨w.heap.size, 3, none⟩ = some (.int .i32 imm) := cell_of_block b3.out
  have e1 : w3.cell? ⟨w2.heap.size, 1, none⟩ = some (.bool false) := cell_of_block d3.out
  have e2 : w3.cell? ⟨w2.heap.size, 2, none⟩ = some (.bool false) := cell_of_block d3.out
  have e3 : w3.cell? ⟨w2.heap.size, 3, none⟩ = some (.int .i64 c) := cell_of_block d3.out
  clear g3
  go_wp2_with fail
  refine (HI.out _).mono ?_
  rintro e w9 ⟨rfl, rfl⟩
  go_wp2_with fail
  go_ret
  refine ⟨ret_str (congrArg ByteArray.mk (show C2 = _ from ?_)), G3.out⟩
  rw [hC2.out, hC1.out, hI.out]
  simp [partA, partN]

set_option maxHeartbeats 4000000 in
set_option maxRecDepth 100000 in
theorem rshow_1o (op a b imm z c : Int) (xs : Bool) (L : UInt8) (N : Array UInt8) (hNs : N.size ≤ 1000) (hc : c ≤ 0) (w : World) (ha : 0 ≤ a ∧ a ≤ 7) (hb : 0 ≤ b ∧ b ≤ 7) (hi : -2147483648 ≤ imm ∧ imm ≤ 2147483647)
    (M1 : ∀ w, Calls Tryd.prog 17 #[.agg (insA op a b imm), .bool true] w fun e w' => e = .returned (.bool true) ∧ Kep w w')
    (M2 : ∀ w, Calls Tryd.prog 18 #[.int .u8 op, .bool true] w fun e w' => e = .returned (.agg #[.int .i64 z, .bool true, .bool false, .int .i64 c, .bool xs]) ∧ Kep w w')
    (M3 : ∀ w, Calls Tryd.prog 19 #[.int .u8 op] w fun e w' => e = .returned (.string ⟨N⟩) ∧ Kep w w')
    (M4 : ∀ w, Calls Tryd.prog 21 #[.int .u8 op] w fun e w' => e = .returned (.string ⟨#[L]⟩) ∧ w' = w) :
    Calls Tryd.prog 9 #[.agg (insA op a b imm)] w fun e w' => e = .returned (.string ⟨N ++ partA true 114 (dg a) ++ partA false L (dg b) ++ partN false imm⟩) ∧ Kep w w' := by
  have H1 : Hid _ := M1
  have H2 : Hid _ := M2
  have H3 : Hid _ := M3
  have H4 : Hid _ := M4
  have HDa : Hid (∀ w, Calls Tryd.prog 20 #[.int .i64 a] w fun e w' => e = .returned (.string ⟨#[dg a]⟩) ∧ w' = w) := fun w => rdigit_any a ha.1 (by omega) w
  have HDb : Hid (∀ w, Calls Tryd.prog 20 #[.int .i64 b] w fun e w' => e = .returned (.string ⟨#[dg b]⟩) ∧ w' = w) := fun w => rdigit_any b hb.1 (by omega) w
  have HI : Hid (∀ w, Calls Tryd.prog 22 #[.int .i64 imm] w fun e w' => e = .returned (.string ⟨(Lib.itoa imm).toArray⟩) ∧ w' = w) := fun w => rdec_any imm hi.1 hi.2 w
  have hwa : IntKind.i64.wrap a = a := wrap_in (by omega) (by omega)
  have hwb : IntKind.i64.wrap b = b := wrap_in (by omega) (by omega)
  obtain ⟨D, hD⟩ : ∃ D, Hid (D = dg a) := ⟨_, rfl⟩
  obtain ⟨E, hDb⟩ : ∃ E, Hid (E = dg b) := ⟨_, rfl⟩
  rw [← hD.out, ← hDb.out]
  rw [← hD.out] at HDa
  rw [← hDb.out] at HDb
  have y0 : Hid (N.size ≤ 1000) := hNs
  obtain ⟨A1, hA1⟩ : ∃ A1 : Array UInt8, Hid (A1 = N ++ #[32, 114]) := ⟨N ++ #[32, 114], (rfl : (N ++ #[32, 114] : Array UInt8) = N ++ #[32, 114])⟩
  have tA1 : ∀ w, (Op.stringOp .add ⟨N⟩ ⟨#[32, 114]⟩).run Tryd.prog w = .ok (.string ⟨A1⟩) w := fun w => by rw [hA1.out]; exact add_str N #[32, 114] (by have := y0.out; omega) (by simp) w
  have yA1 : Hid (A1.size ≤ 1030) := by unfold Hid; rw [hA1.out, Array.size_append]; have := y0.out; simp; omega
  obtain ⟨A2, hA2⟩ : ∃ A2 : Array UInt8, Hid (A2 = A1 ++ #[D]) := ⟨A1 ++ #[D], (rfl : (A1 ++ #[D] : Array UInt8) = A1 ++ #[D])⟩
  have tA2 : ∀ w, (Op.stringOp .add ⟨A1⟩ ⟨#[D]⟩).run Tryd.prog w = .ok (.string ⟨A2⟩) w := fun w => by rw [hA2.out]; exact add_str A1 #[D] (by have := yA1.out; omega) (by simp) w
  have yA2 : Hid (A2.size ≤ 1060) := by unfold Hid; rw [hA2.out, Array.size_append]; have := yA1.out; simp; omega
  clear M1 M2 M3 M4 hNs
  go_enter Tryd.func9, Tryd.ntmps9
  go_wp2_with fail
  refine (H1.out _).mono ?_
  rintro e w1 ⟨rfl, g1⟩
  have G1 : Hid (Kep w w1) := kep_trans ((Kep.refl _).alloc _) g1
  have b1 : Hid (w1.heap[w.heap.size]? = some (.cells (insA op a b imm) 23 (0, 0))) := g1.block (heap_alloc_new _ _)
  have z1 : w.heap.size < w1.heap.size := g1.lt (by simp)
  have c0 : w1.cell? ⟨w.heap.size, 0, none⟩ = some (.int .u8 op) := cell_of_block b1.out
  clear g1
  go_wp2_with fail
  refine (H2.out _).mono ?_
  rintro e w2 ⟨rfl, g2⟩
  have G2 : Hid (Kep w w2) := kep_trans G1.out g2
  have b2 : Hid (w2.heap[w.heap.size]? = some (.cells (insA op a b imm) 23 (0, 0))) := g2.block b1.out
  have z2 : w.heap.size < w2.heap.size := g2.lt z1
  have c0 : w2.cell? ⟨w.heap.size, 0, none⟩ = some (.int .u8 op) := cell_of_block b2.out
  clear g2
  go_wp2_with fail
  refine (H3.out _).mono ?_
  rintro e w3 ⟨rfl, g3⟩
  have G3 : Hid (Kep w w3) := kep_trans (G2.out.alloc _) g3
  have b3 : Hid (w3.heap[w.heap.size]? = some (.cells (insA op a b imm) 23 (0, 0))) := g3.block (((Kep.refl _).alloc _).block b2.out)
  have d3 : Hid (w3.heap[w2.heap.size]? = some (.cells #[.int .i64 z, .bool true, .bool false, .int .i64 c, .bool xs] 42 (0, 0))) := g3.block (heap_alloc_new _ _)
  have z3 : w2.heap.size < w3.heap.size := g3.lt (by simp)
  have z4 : w.heap.size < w3.heap.size := by omega
  have c0 : w3.cell? ⟨w.heap.size, 0, none⟩ = some (.int .u8 op) := cell_of_block b3.out
  have c1 : w3.cell? ⟨w.heap.size, 1, none⟩ = some (.int .u8 a) := cell_of_block b3.out
  have c2 : w3.cell? ⟨w.heap.size, 2, none⟩ = some (.int .u8 b) := cell_of_block b3.out
  have c3 : w3.cell? ⟨w.heap.size, 3, none⟩ = some (.int .i32 imm) := cell_of_block b3.out
  have e1 : w3.cell? ⟨w2.heap.size, 1, none⟩ = some (.bool true) := cell_of_block d3.out
  have e2 : w3.cell? ⟨w2.heap.size, 2, none⟩ = some (.bool false) := cell_of_block d3.out
  have e3 : w3.cell? ⟨w2.heap.size, 3, none⟩ = some (.int .i64 c) := cell_of_block d3.out
  clear g3
  go_wp2_with fail
  refine (HDa.out _).mono ?_
  rintro e w4 ⟨rfl, rfl⟩
  go_wp2_with fail
  go_ret
  refine ⟨ret_str (congrArg ByteArray.mk (show A2 = _ from ?_)), G3.out⟩
  rw [hA2.out, hA1.out]
  simp [partA, partN]

set_option maxHeartbeats 4000000 in
set_option maxRecDepth 100000 in
theorem rshow_1n (op a b imm z c : Int) (xs : Bool) (L : UInt8) (N : Array UInt8) (hNs : N.size ≤ 1000) (hc : 0 < c) (w : World) (ha : 0 ≤ a ∧ a ≤ 7) (hb : 0 ≤ b ∧ b ≤ 7) (hi : -2147483648 ≤ imm ∧ imm ≤ 2147483647)
    (M1 : ∀ w, Calls Tryd.prog 17 #[.agg (insA op a b imm), .bool true] w fun e w' => e = .returned (.bool true) ∧ Kep w w')
    (M2 : ∀ w, Calls Tryd.prog 18 #[.int .u8 op, .bool true] w fun e w' => e = .returned (.agg #[.int .i64 z, .bool true, .bool false, .int .i64 c, .bool xs]) ∧ Kep w w')
    (M3 : ∀ w, Calls Tryd.prog 19 #[.int .u8 op] w fun e w' => e = .returned (.string ⟨N⟩) ∧ Kep w w')
    (M4 : ∀ w, Calls Tryd.prog 21 #[.int .u8 op] w fun e w' => e = .returned (.string ⟨#[L]⟩) ∧ w' = w) :
    Calls Tryd.prog 9 #[.agg (insA op a b imm)] w fun e w' => e = .returned (.string ⟨N ++ partA true 114 (dg a) ++ partA false L (dg b) ++ partN true imm⟩) ∧ Kep w w' := by
  have H1 : Hid _ := M1
  have H2 : Hid _ := M2
  have H3 : Hid _ := M3
  have H4 : Hid _ := M4
  have HDa : Hid (∀ w, Calls Tryd.prog 20 #[.int .i64 a] w fun e w' => e = .returned (.string ⟨#[dg a]⟩) ∧ w' = w) := fun w => rdigit_any a ha.1 (by omega) w
  have HDb : Hid (∀ w, Calls Tryd.prog 20 #[.int .i64 b] w fun e w' => e = .returned (.string ⟨#[dg b]⟩) ∧ w' = w) := fun w => rdigit_any b hb.1 (by omega) w
  have HI : Hid (∀ w, Calls Tryd.prog 22 #[.int .i64 imm] w fun e w' => e = .returned (.string ⟨(Lib.itoa imm).toArray⟩) ∧ w' = w) := fun w => rdec_any imm hi.1 hi.2 w
  have hwa : IntKind.i64.wrap a = a := wrap_in (by omega) (by omega)
  have hwb : IntKind.i64.wrap b = b := wrap_in (by omega) (by omega)
  obtain ⟨D, hD⟩ : ∃ D, Hid (D = dg a) := ⟨_, rfl⟩
  obtain ⟨E, hDb⟩ : ∃ E, Hid (E = dg b) := ⟨_, rfl⟩
  rw [← hD.out, ← hDb.out]
  rw [← hD.out] at HDa
  rw [← hDb.out] at HDb
  have y0 : Hid (N.size ≤ 1000) := hNs
  obtain ⟨I, hI⟩ : ∃ I, Hid (I = (Lib.itoa imm).toArray) := ⟨_, rfl⟩
  rw [← hI.out] at HI
  have yI : Hid (I.size ≤ 21) := by unfold Hid; rw [hI.out]; simpa using itoa_size imm hi.1 hi.2
  obtain ⟨A1, hA1⟩ : ∃ A1 : Array UInt8, Hid (A1 = N ++ #[32, 114]) := ⟨N ++ #[32, 114], (rfl : (N ++ #[32, 114] : Array UInt8) = N ++ #[32, 114])⟩
  have tA1 : ∀ w, (Op.stringOp .add ⟨N⟩ ⟨#[32, 114]⟩).run Tryd.prog w = .ok (.string ⟨A1⟩) w := fun w => by rw [hA1.out]; exact add_str N #[32, 114] (by have := y0.out; omega) (by simp) w
  have yA1 : Hid (A1.size ≤ 1030) := by unfold Hid; rw [hA1.out, Array.size_append]; have := y0.out; simp; omega
  obtain ⟨A2, hA2⟩ : ∃ A2 : Array UInt8, Hid (A2 = A1 ++ #[D]) := ⟨A1 ++ #[D], (rfl : (A1 ++ #[D] : Array UInt8) = A1 ++ #[D])⟩
  have tA2 : ∀ w, (Op.stringOp .add ⟨A1⟩ ⟨#[D]⟩).run Tryd.prog w = .ok (.string ⟨A2⟩) w := fun w => by rw [hA2.out]; exact add_str A1 #[D] (by have := yA1.out; omega) (by simp) w
  have yA2 : Hid (A2.size ≤ 1060) := by unfold Hid; rw [hA2.out, Array.size_append]; have := yA1.out; simp; omega
  obtain ⟨C1, hC1⟩ : ∃ C1 : Array UInt8, Hid (C1 = A2 ++ #[32]) := ⟨A2 ++ #[32], (rfl : (A2 ++ #[32] : Array UInt8) = A2 ++ #[32])⟩
  have tC1 : ∀ w, (Op.stringOp .add ⟨A2⟩ ⟨#[32]⟩).run Tryd.prog w = .ok (.string ⟨C1⟩) w := fun w => by rw [hC1.out]; exact add_str A2 #[32] (by have := yA2.out; omega) (by simp) w
  have yC1 : Hid (C1.size ≤ 1090) := by unfold Hid; rw [hC1.out, Array.size_append]; have := yA2.out; simp; omega
  obtain ⟨C2, hC2⟩ : ∃ C2 : Array UInt8, Hid (C2 = C1 ++ I) := ⟨C1 ++ I, (rfl : (C1 ++ I : Array UInt8) = C1 ++ I)⟩
  have tC2 : ∀ w, (Op.stringOp .add ⟨C1⟩ ⟨I⟩).run Tryd.prog w = .ok (.string ⟨C2⟩) w := fun w => by rw [hC2.out]; exact add_str C1 I (by have := yC1.out; omega) (by have := yI.out; omega) w
  have yC2 : Hid (C2.size ≤ 1120) := by unfold Hid; rw [hC2.out, Array.size_append]; have := yC1.out; have := yI.out; omega
  clear M1 M2 M3 M4 hNs
  go_enter Tryd.func9, Tryd.ntmps9
  go_wp2_with fail
  refine (H1.out _).mono ?_
  rintro e w1 ⟨rfl, g1⟩
  have G1 : Hid (Kep w w1) := kep_trans ((Kep.refl _).alloc _) g1
  have b1 : Hid (w1.heap[w.heap.size]? = some (.cells (insA op a b imm) 23 (0, 0))) := g1.block (heap_alloc_new _ _)
  have z1 : w.heap.size < w1.heap.size := g1.lt (by simp)
  have c0 : w1.cell? ⟨w.heap.size, 0, none⟩ = some (.int .u8 op) := cell_of_block b1.out
  clear g1
  go_wp2_with fail
  refine (H2.out _).mono ?_
  rintro e w2 ⟨rfl, g2⟩
  have G2 : Hid (Kep w w2) := kep_trans G1.out g2
  have b2 : Hid (w2.heap[w.heap.size]? = some (.cells (insA op a b imm) 23 (0, 0))) := g2.block b1.out
  have z2 : w.heap.size < w2.heap.size := g2.lt z1
  have c0 : w2.cell? ⟨w.heap.size, 0, none⟩ = some (.int .u8 op) := cell_of_block b2.out
  clear g2
  go_wp2_with fail
  refine (H3.out _).mono ?_
  rintro e w3 ⟨rfl, g3⟩
  have G3 : Hid (Kep w w3) := kep_trans (G2.out.alloc _) g3
  have b3 : Hid (w3.heap[w.heap.size]? = some (.cells (insA op a b imm) 23 (0, 0))) := g3.block (((Kep.refl _).alloc _).block b2.out)
  have d3 : Hid (w3.heap[w2.heap.size]? = some (.cells #[.int .i64 z, .bool true, .bool false, .int .i64 c, .bool xs] 42 (0, 0))) := g3.block (heap_alloc_new _ _)
  have z3 : w2.heap.size < w3.heap.size := g3.lt (by simp)
  have z4 : w.heap.size < w3.heap.size := by omega
  have c0 : w3.cell? ⟨w.heap.size, 0, none⟩ = some (.int .u8 op) := cell_of_block b3.out
  have c1 : w3.cell? ⟨w.heap.size, 1, none⟩ = some (.int .u8 a) := cell_of_block b3.out
  have c2 : w3.cell? ⟨w.heap.size, 2, none⟩ = some (.int .u8 b) := cell_of_block b3.out
  have c3 : w3.cell? ⟨w.heap.size, 3, none⟩ = some (.int .i32 imm) := cell_of_block b3.out
  have e1 : w3.cell? ⟨w2.heap.size, 1, none⟩ = some (.bool true) := cell_of_block d3.out
  have e2 : w3.cell? ⟨w2.heap.size, 2, none⟩ = some (.bool false) := cell_of_block d3.out
  have e3 : w3.cell? ⟨w2.heap.size, 3, none⟩ = some (.int .i64 c) := cell_of_block d3.out
  clear g3
  go_wp2_with fail
  refine (HDa.out _).mono ?_
  rintro e w4 ⟨rfl, rfl⟩
  go_wp2_with fail
  refine (HI.out _).mono ?_
  rintro e w9 ⟨rfl, rfl⟩
  go_wp2_with fail
  go_ret
  refine ⟨ret_str (congrArg ByteArray.mk (show C2 = _ from ?_)), G3.out⟩
  rw [hC2.out, hC1.out, hA2.out, hA1.out, hI.out]
  simp [partA, partN]

set_option maxHeartbeats 4000000 in
set_option maxRecDepth 100000 in
theorem rshow_2o (op a b imm z c : Int) (xs : Bool) (L : UInt8) (N : Array UInt8) (hNs : N.size ≤ 1000) (hc : c ≤ 0) (w : World) (ha : 0 ≤ a ∧ a ≤ 7) (hb : 0 ≤ b ∧ b ≤ 7) (hi : -2147483648 ≤ imm ∧ imm ≤ 2147483647)
    (M1 : ∀ w, Calls Tryd.prog 17 #[.agg (insA op a b imm), .bool true] w fun e w' => e = .returned (.bool true) ∧ Kep w w')
    (M2 : ∀ w, Calls Tryd.prog 18 #[.int .u8 op, .bool true] w fun e w' => e = .returned (.agg #[.int .i64 z, .bool true, .bool true, .int .i64 c, .bool xs]) ∧ Kep w w')
    (M3 : ∀ w, Calls Tryd.prog 19 #[.int .u8 op] w fun e w' => e = .returned (.string ⟨N⟩) ∧ Kep w w')
    (M4 : ∀ w, Calls Tryd.prog 21 #[.int .u8 op] w fun e w' => e = .returned (.string ⟨#[L]⟩) ∧ w' = w) :
    Calls Tryd.prog 9 #[.agg (insA op a b imm)] w fun e w' => e = .returned (.string ⟨N ++ partA true 114 (dg a) ++ partA true L (dg b) ++ partN false imm⟩) ∧ Kep w w' := by
  have H1 : Hid _ := M1
  have H2 : Hid _ := M2
  have H3 : Hid _ := M3
  have H4 : Hid _ := M4
  have HDa : Hid (∀ w, Calls Tryd.prog 20 #[.int .i64 a] w fun e w' => e = .returned (.string ⟨#[dg a]⟩) ∧ w' = w) := fun w => rdigit_any a ha.1 (by omega) w
  have HDb : Hid (∀ w, Calls Tryd.prog 20 #[.int .i64 b] w fun e w' => e = .returned (.string ⟨#[dg b]⟩) ∧ w' = w) := fun w => rdigit_any b hb.1 (by omega) w
  have HI : Hid (∀ w, Calls Tryd.prog 22 #[.int .i64 imm] w fun e w' => e = .returned (.string ⟨(Lib.itoa imm).toArray⟩) ∧ w' = w) := fun w => rdec_any imm hi.1 hi.2 w
  have hwa : IntKind.i64.wrap a = a := wrap_in (by omega) (by omega)
  have hwb : IntKind.i64.wrap b = b := wrap_in (by omega) (by omega)
  obtain ⟨D, hD⟩ : ∃ D, Hid (D = dg a) := ⟨_, rfl⟩
  obtain ⟨E, hDb⟩ : ∃ E, Hid (E = dg b) := ⟨_, rfl⟩
  rw [← hD.out, ← hDb.out]
  rw [← hD.out] at HDa
  rw [← hDb.out] at HDb
  have y0 : Hid (N.size ≤ 1000) := hNs
  obtain ⟨A1, hA1⟩ : ∃ A1 : Array UInt8, Hid (A1 = N ++ #[32, 114]) := ⟨N ++ #[32, 114], (rfl : (N ++ #[32, 114] : Array UInt8) = N ++ #[32, 114])⟩
  have tA1 : ∀ w, (Op.stringOp .add ⟨N⟩ ⟨#[32, 114]⟩).run Tryd.prog w = .ok (.string ⟨A1⟩) w := fun w => by rw [hA1.out]; exact add_str N #[32, 114] (by have := y0.out; omega) (by simp) w
  have yA1 : Hid (A1.size ≤ 1030) := by unfold Hid; rw [hA1.out, Array.size_append]; have := y0.out; simp; omega
  obtain ⟨A2, hA2⟩ : ∃ A2 : Array UInt8, Hid (A2 = A1 ++ #[D]) := ⟨A1 ++ #[D], (rfl : (A1 ++ #[D] : Array UInt8) = A1 ++ #[D])⟩
  have tA2 : ∀ w, (Op.stringOp .add ⟨A1⟩ ⟨#[D]⟩).run Tryd.prog w = .ok (.string ⟨A2⟩) w := fun w => by rw [hA2.out]; exact add_str A1 #[D] (by have := yA1.out; omega) (by simp) w
  have yA2 : Hid (A2.size ≤ 1060) := by unfold Hid; rw [hA2.out, Array.size_append]; have := yA1.out; simp; omega
  obtain ⟨B1, hB1⟩ : ∃ B1 : Array UInt8, Hid (B1 = A2 ++ #[32]) := ⟨A2 ++ #[32], (rfl : (A2 ++ #[32] : Array UInt8) = A2 ++ #[32])⟩
  have tB1 : ∀ w, (Op.stringOp .add ⟨A2⟩ ⟨#[32]⟩).run Tryd.prog w = .ok (.string ⟨B1⟩) w := fun w => by rw [hB1.out]; exact add_str A2 #[32] (by have := yA2.out; omega) (by simp) w
  have yB1 : Hid (B1.size ≤ 1090) := by unfold Hid; rw [hB1.out, Array.size_append]; have := yA2.out; simp; omega
  obtain ⟨B2, hB2⟩ : ∃ B2 : Array UInt8, Hid (B2 = B1 ++ #[L]) := ⟨B1 ++ #[L], (rfl : (B1 ++ #[L] : Array UInt8) = B1 ++ #[L])⟩
  have tB2 : ∀ w, (Op.stringOp .add ⟨B1⟩ ⟨#[L]⟩).run Tryd.prog w = .ok (.string ⟨B2⟩) w := fun w => by rw [hB2.out]; exact add_str B1 #[L] (by have := yB1.out; omega) (by simp) w
  have yB2 : Hid (B2.size ≤ 1120) := by unfold Hid; rw [hB2.out, Array.size_append]; have := yB1.out; simp; omega
  obtain ⟨B3, hB3⟩ : ∃ B3 : Array UInt8, Hid (B3 = B2 ++ #[E]) := ⟨B2 ++ #[E], (rfl : (B2 ++ #[E] : Array UInt8) = B2 ++ #[E])⟩
  have tB3 : ∀ w, (Op.stringOp .add ⟨B2⟩ ⟨#[E]⟩).run Tryd.prog w = .ok (.string ⟨B3⟩) w := fun w => by rw [hB3.out]; exact add_str B2 #[E] (by have := yB2.out; omega) (by simp) w
  have yB3 : Hid (B3.size ≤ 1150) := by unfold Hid; rw [hB3.out, Array.size_append]; have := yB2.out; simp; omega
  clear M1 M2 M3 M4 hNs
  go_enter Tryd.func9, Tryd.ntmps9
  go_wp2_with fail
  refine (H1.out _).mono ?_
  rintro e w1 ⟨rfl, g1⟩
  have G1 : Hid (Kep w w1) := kep_trans ((Kep.refl _).alloc _) g1
  have b1 : Hid (w1.heap[w.heap.size]? = some (.cells (insA op a b imm) 23 (0, 0))) := g1.block (heap_alloc_new _ _)
  have z1 : w.heap.size < w1.heap.size := g1.lt (by simp)
  have c0 : w1.cell? ⟨w.heap.size, 0, none⟩ = some (.int .u8 op) := cell_of_block b1.out
  clear g1
  go_wp2_with fail
  refine (H2.out _).mono ?_
  rintro e w2 ⟨rfl, g2⟩
  have G2 : Hid (Kep w w2) := kep_trans G1.out g2
  have b2 : Hid (w2.heap[w.heap.size]? = some (.cells (insA op a b imm) 23 (0, 0))) := g2.block b1.out
  have z2 : w.heap.size < w2.heap.size := g2.lt z1
  have c0 : w2.cell? ⟨w.heap.size, 0, none⟩ = some (.int .u8 op) := cell_of_block b2.out
  clear g2
  go_wp2_with fail
  refine (H3.out _).mono ?_
  rintro e w3 ⟨rfl, g3⟩
  have G3 : Hid (Kep w w3) := kep_trans (G2.out.alloc _) g3
  have b3 : Hid (w3.heap[w.heap.size]? = some (.cells (insA op a b imm) 23 (0, 0))) := g3.block (((Kep.refl _).alloc _).block b2.out)
  have d3 : Hid (w3.heap[w2.heap.size]? = some (.cells #[.int .i64 z, .bool true, .bool true, .int .i64 c, .bool xs] 42 (0, 0))) := g3.block (heap_alloc_new _ _)
  have z3 : w2.heap.size < w3.heap.size := g3.lt (by simp)
  have z4 : w.heap.size < w3.heap.size := by omega
  have c0 : w3.cell? ⟨w.heap.size, 0, none⟩ = some (.int .u8 op) := cell_of_block b3.out
  have c1 : w3.cell? ⟨w.heap.size, 1, none⟩ = some (.int .u8 a) := cell_of_block b3.out
  have c2 : w3.cell? ⟨w.heap.size, 2, none⟩ = some (.int .u8 b) := cell_of_block b3.out
  have c3 : w3.cell? ⟨w.heap.size, 3, none⟩ = some (.int .i32 imm) := cell_of_block b3.out
  have e1 : w3.cell? ⟨w2.heap.size, 1, none⟩ = some (.bool true) := cell_of_block d3.out
  have e2 : w3.cell? ⟨w2.heap.size, 2, none⟩ = some (.bool true) := cell_of_block d3.out
  have e3 : w3.cell? ⟨w2.heap.size, 3, none⟩ = some (.int .i64 c) := cell_of_block d3.out
  clear g3
  go_wp2_with fail
  refine (HDa.out _).mono ?_
  rintro e w4 ⟨rfl, rfl⟩
  go_wp2_with fail
  go_quiet (first | (go_at_call 21; exact (H4.out _).mono fun _ _ h => ⟨h.1, _, h.2⟩) | (go_at_call 20; exact (HDb.out _).mono fun _ _ h => ⟨h.1, _, h.2⟩))
  go_wp2_with fail
  go_ret
  refine ⟨ret_str (congrArg ByteArray.mk (show B3 = _ from ?_)), G3.out.drewN _⟩
  rw [hB3.out, hB2.out, hB1.out, hA2.out, hA1.out]
  simp [partA, partN]

set_option maxHeartbeats 4000000 in
set_option maxRecDepth 100000 in
theorem rshow_2n (op a b imm z c : Int) (xs : Bool) (L : UInt8) (N : Array UInt8) (hNs : N.size ≤ 1000) (hc : 0 < c) (w : World) (ha : 0 ≤ a ∧ a ≤ 7) (hb : 0 ≤ b ∧ b ≤ 7) (hi : -2147483648 ≤ imm ∧ imm ≤ 2147483647)
    (M1 : ∀ w, Calls Tryd.prog 17 #[.agg (insA op a b imm), .bool true] w fun e w' => e = .returned (.bool true) ∧ Kep w w')
    (M2 : ∀ w, Calls Tryd.prog 18 #[.int .u8 op, .bool true] w fun e w' => e = .returned (.agg #[.int .i64 z, .bool true, .bool true, .int .i64 c, .bool xs]) ∧ Kep w w')
    (M3 : ∀ w, Calls Tryd.prog 19 #[.int .u8 op] w fun e w' => e = .returned (.string ⟨N⟩) ∧ Kep w w')
    (M4 : ∀ w, Calls Tryd.prog 21 #[.int .u8 op] w fun e w' => e = .returned (.string ⟨#[L]⟩) ∧ w' = w) :
    Calls Tryd.prog 9 #[.agg (insA op a b imm)] w fun e w' => e = .returned (.string ⟨N ++ partA true 114 (dg a) ++ partA true L (dg b) ++ partN true imm⟩) ∧ Kep w w' := by
  have H1 : Hid _ := M1
  have H2 : Hid _ := M2
  have H3 : Hid _ := M3
  have H4 : Hid _ := M4
  have HDa : Hid (∀ w, Calls Tryd.prog 20 #[.int .i64 a] w fun e w' => e = .returned (.string ⟨#[dg a]⟩) ∧ w' = w) := fun w => rdigit_any a ha.1 (by omega) w
  have HDb : Hid (∀ w, Calls Tryd.prog 20 #[.int .i64 b] w fun e w' => e = .returned (.string ⟨#[dg b]⟩) ∧ w' = w) := fun w => rdigit_any b hb.1 (by omega) w
  have HI : Hid (∀ w, Calls Tryd.prog 22 #[.int .i64 imm] w fun e w' => e = .returned (.string ⟨(Lib.itoa imm).toArray⟩) ∧ w' = w) := fun w => rdec_any imm hi.1 hi.2 w
  have hwa : IntKind.i64.wrap a = a := wrap_in (by omega) (by omega)
  have hwb : IntKind.i64.wrap b = b := wrap_in (by omega) (by omega)
  obtain ⟨D, hD⟩ : ∃ D, Hid (D = dg a) := ⟨_, rfl⟩
  obtain ⟨E, hDb⟩ : ∃ E, Hid (E = dg b) := ⟨_, rfl⟩
  rw [← hD.out, ← hDb.out]
  rw [← hD.out] at HDa
  rw [← hDb.out] at HDb
  have y0 : Hid (N.size ≤ 1000) := hNs
  obtain ⟨I, hI⟩ : ∃ I, Hid (I = (Lib.itoa imm).toArray) := ⟨_, rfl⟩
  rw [← hI.out] at HI
  have yI : Hid (I.size ≤ 21) := by unfold Hid; rw [hI.out]; simpa using itoa_size imm hi.1 hi.2
  obtain ⟨A1, hA1⟩ : ∃ A1 : Array UInt8, Hid (A1 = N ++ #[32, 114]) := ⟨N ++ #[32, 114], (rfl : (N ++ #[32, 114] : Array UInt8) = N ++ #[32, 114])⟩
  have tA1 : ∀ w, (Op.stringOp .add ⟨N⟩ ⟨#[32, 114]⟩).run Tryd.prog w = .ok (.string ⟨A1⟩) w := fun w => by rw [hA1.out]; exact add_str N #[32, 114] (by have := y0.out; omega) (by simp) w
  have yA1 : Hid (A1.size ≤ 1030) := by unfold Hid; rw [hA1.out, Array.size_append]; have := y0.out; simp; omega
  obtain ⟨A2, hA2⟩ : ∃ A2 : Array UInt8, Hid (A2 = A1 ++ #[D]) := ⟨A1 ++ #[D], (rfl : (A1 ++ #[D] : Array UInt8) = A1 ++ #[D])⟩
  have tA2 : ∀ w, (Op.stringOp .add ⟨A1⟩ ⟨#[D]⟩).run Tryd.prog w = .ok (.string ⟨A2⟩) w := fun w => by rw [hA2.out]; exact add_str A1 #[D] (by have := yA1.out; omega) (by simp) w
  have yA2 : Hid (A2.size ≤ 1060) := by unfold Hid; rw [hA2.out, Array.size_append]; have := yA1.out; simp; omega
  obtain ⟨B1, hB1⟩ : ∃ B1 : Array UInt8, Hid (B1 = A2 ++ #[32]) := ⟨A2 ++ #[32], (rfl : (A2 ++ #[32] : Array UInt8) = A2 ++ #[32])⟩
  have tB1 : ∀ w, (Op.stringOp .add ⟨A2⟩ ⟨#[32]⟩).run Tryd.prog w = .ok (.string ⟨B1⟩) w := fun w => by rw [hB1.out]; exact add_str A2 #[32] (by have := yA2.out; omega) (by simp) w
  have yB1 : Hid (B1.size ≤ 1090) := by unfold Hid; rw [hB1.out, Array.size_append]; have := yA2.out; simp; omega
  obtain ⟨B2, hB2⟩ : ∃ B2 : Array UInt8, Hid (B2 = B1 ++ #[L]) := ⟨B1 ++ #[L], (rfl : (B1 ++ #[L] : Array UInt8) = B1 ++ #[L])⟩
  have tB2 : ∀ w, (Op.stringOp .add ⟨B1⟩ ⟨#[L]⟩).run Tryd.prog w = .ok (.string ⟨B2⟩) w := fun w => by rw [hB2.out]; exact add_str B1 #[L] (by have := yB1.out; omega) (by simp) w
  have yB2 : Hid (B2.size ≤ 1120) := by unfold Hid; rw [hB2.out, Array.size_append]; have := yB1.out; simp; omega
  obtain ⟨B3, hB3⟩ : ∃ B3 : Array UInt8, Hid (B3 = B2 ++ #[E]) := ⟨B2 ++ #[E], (rfl : (B2 ++ #[E] : Array UInt8) = B2 ++ #[E])⟩
  have tB3 : ∀ w, (Op.stringOp .add ⟨B2⟩ ⟨#[E]⟩).run Tryd.prog w = .ok (.string ⟨B3⟩) w := fun w => by rw [hB3.out]; exact add_str B2 #[E] (by have := yB2.out; omega) (by simp) w
  have yB3 : Hid (B3.size ≤ 1150) := by unfold Hid; rw [hB3.out, Array.size_append]; have := yB2.out; simp; omega
  obtain ⟨C1, hC1⟩ : ∃ C1 : Array UInt8, Hid (C1 = B3 ++ #[32]) := ⟨B3 ++ #[32], (rfl : (B3 ++ #[32] : Array UInt8) = B3 ++ #[32])⟩
  have tC1 : ∀ w, (Op.stringOp .add ⟨B3⟩ ⟨#[32]⟩).run Tryd.prog w = .ok (.string ⟨C1⟩) w := fun w => by rw [hC1.out]; exact add_str B3 #[32] (by have := yB3.out; omega) (by simp) w
  have yC1 : Hid (C1.size ≤ 1180) := by unfold Hid; rw [hC1.out, Array.size_append]; have := yB3.out; simp; omega
  obtain ⟨C2, hC2⟩ : ∃ C2 : Array UInt8, Hid (C2 = C1 ++ I) := ⟨C1 ++ I, (rfl : (C1 ++ I : Array UInt8) = C1 ++ I)⟩
  have tC2 : ∀ w, (Op.stringOp .add ⟨C1⟩ ⟨I⟩).run Tryd.prog w = .ok (.string ⟨C2⟩) w := fun w => by rw [hC2.out]; exact add_str C1 I (by have := yC1.out; omega) (by have := yI.out; omega) w
  have yC2 : Hid (C2.size ≤ 1210) := by unfold Hid; rw [hC2.out, Array.size_append]; have := yC1.out; have := yI.out; omega
  clear M1 M2 M3 M4 hNs
  go_enter Tryd.func9, Tryd.ntmps9
  go_wp2_with fail
  refine (H1.out _).mono ?_
  rintro e w1 ⟨rfl, g1⟩
  have G1 : Hid (Kep w w1) := kep_trans ((Kep.refl _).alloc _) g1
  have b1 : Hid (w1.heap[w.heap.size]? = some (.cells (insA op a b imm) 23 (0, 0))) := g1.block (heap_alloc_new _ _)
  have z1 : w.heap.size < w1.heap.size := g1.lt (by simp)
  have c0 : w1.cell? ⟨w.heap.size, 0, none⟩ = some (.int .u8 op) := cell_of_block b1.out
  clear g1
  go_wp2_with fail
  refine (H2.out _).mono ?_
  rintro e w2 ⟨rfl, g2⟩
  have G2 : Hid (Kep w w2) := kep_trans G1.out g2
  have b2 : Hid (w2.heap[w.heap.size]? = some (.cells (insA op a b imm) 23 (0, 0))) := g2.block b1.out
  have z2 : w.heap.size < w2.heap.size := g2.lt z1
  have c0 : w2.cell? ⟨w.heap.size, 0, none⟩ = some (.int .u8 op) := cell_of_block b2.out
  clear g2
  go_wp2_with fail
  refine (H3.out _).mono ?_
  rintro e w3 ⟨rfl, g3⟩
  have G3 : Hid (Kep w w3) := kep_trans (G2.out.alloc _) g3
  have b3 : Hid (w3.heap[w.heap.size]? = some (.cells (insA op a b imm) 23 (0, 0))) := g3.block (((Kep.refl _).alloc _).block b2.out)
  have d3 : Hid (w3.heap[w2.heap.size]? = some (.cells #[.int .i64 z, .bool true, .bool true, .int .i64 c, .bool xs] 42 (0, 0))) := g3.block (heap_alloc_new _ _)
  have z3 : w2.heap.size < w3.heap.size := g3.lt (by simp)
  have z4 : w.heap.size < w3.heap.size := by omega
  have c0 : w3.cell? ⟨w.heap.size, 0, none⟩ = some (.int .u8 op) := cell_of_block b3.out
  have c1 : w3.cell? ⟨w.heap.size, 1, none⟩ = some (.int .u8 a) := cell_of_block b3.out
  have c2 : w3.cell? ⟨w.heap.size, 2, none⟩ = some (.int .u8 b) := cell_of_block b3.out
  have c3 : w3.cell? ⟨w.heap.size, 3, none⟩ = some (.int .i32 imm) := cell_of_block b3.out
  have e1 : w3.cell? ⟨w2.heap.size, 1, none⟩ = some (.bool true) := cell_of_block d3.out
  have e2 : w3.cell? ⟨w2.heap.size, 2, none⟩ = some (.bool true) := cell_of_block d3.out
  have e3 : w3.cell? ⟨w2.heap.size, 3, none⟩ = some (.int .i64 c) := cell_of_block d3.out
  clear g3
  go_wp2_with fail
  refine (HDa.out _).mono ?_
  rintro e w4 ⟨rfl, rfl⟩
  go_wp2_with fail
  go_quiet (first | (go_at_call 21; exact (H4.out _).mono fun _ _ h => ⟨h.1, _, h.2⟩) | (go_at_call 20; exact (HDb.out _).mono fun _ _ h => ⟨h.1, _, h.2⟩))
  go_wp2_with fail
  refine (HI.out _).mono ?_
  rintro e w9 ⟨rfl, rfl⟩
  go_wp2_with fail
  go_ret
  refine ⟨ret_str (congrArg ByteArray.mk (show C2 = _ from ?_)), G3.out.drewN _⟩
  rw [hC2.out, hC1.out, hB3.out, hB2.out, hB1.out, hA2.out, hA1.out, hI.out]
  simp [partA, partN]

end Go.Proofs.YthmbajehcffnbaaDoor
