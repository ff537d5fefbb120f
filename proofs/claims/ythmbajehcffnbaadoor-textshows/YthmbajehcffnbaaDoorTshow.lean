/- What Show answers: an instruction's text. -/
import Derived.Test.YthmbajehcffnbaaDoorTform
import Derived.Test.YthmbajehcffnbaaDoorTtab
import Derived.Test.YthmbajehcffnbaaDoorTname
import Derived.Lib.ItoaLen
namespace Go.Proofs.YthmbajehcffnbaaDoor
open Go.RowKit
set_option linter.unusedVariables false

def partA (x : Bool) (l d : UInt8) : Array UInt8 := if x then #[32, l, d] else #[]
def partN (x : Bool) (n : Int) : Array UInt8 := if x then #[32] ++ (Lib.itoa n).toArray else #[]
def showA (op a b imm : Int) (r : Nat) : Array UInt8 := nameA op ++ partA (hA r) 114 (dg a) ++ partA (hB r) (letB op) (dg b) ++ partN (hN r) imm
def showS (op a b imm : Int) : Array UInt8 := if mayB (rowOf op true) a b imm then showA op a b imm (rowOf op true) else #[]

theorem wrap_in {a : Int} (h0 : -9223372036854775808 ≤ a) (h1 : a ≤ 9223372036854775807) : IntKind.i64.wrap a = a := IntWalk.i64_in a ⟨h0, h1⟩
theorem cut0 (l : UInt8) (w : World) : (Instr.slice 9 (.string ⟨#[l]⟩) (some (.int .i64 0)) (some (.int .i64 1)) none).run Tryd.prog w = .ok (.string ⟨#[l]⟩) w := by
  rw [run_slice_string w 9 ⟨#[l]⟩ .i64 .i64 _ _ Tryd.underlying9 (by decide) (by decide) (by exact Int.ofNat_le.2 (Nat.le_refl 1))]
  rfl
theorem cut1 (l m : UInt8) (w : World) : (Instr.slice 9 (.string ⟨#[l, m]⟩) (some (.int .i64 0)) (some (.int .i64 1)) none).run Tryd.prog w = .ok (.string ⟨#[l]⟩) w := by
  rw [run_slice_string w 9 ⟨#[l, m]⟩ .i64 .i64 _ _ Tryd.underlying9 (by decide) (by decide) (by exact Int.ofNat_le.2 (show 1 ≤ 2 by decide))]
  rfl
theorem cut2 (l m : UInt8) (w : World) : (Instr.slice 9 (.string ⟨#[l, m]⟩) (some (.int .i64 1)) (some (.int .i64 2)) none).run Tryd.prog w = .ok (.string ⟨#[m]⟩) w := by
  rw [run_slice_string w 9 ⟨#[l, m]⟩ .i64 .i64 _ _ Tryd.underlying9 (by decide) (by decide) (by exact Int.ofNat_le.2 (Nat.le_refl 2))]
  rfl
theorem add_str (a b : Array UInt8) (h : a.size ≤ 1000000) (i : b.size ≤ 1000000) (w : World) : (Op.stringOp .add ⟨a⟩ ⟨b⟩).run Tryd.prog w = .ok (.string ⟨a ++ b⟩) w := by
  rw [run_string_add_sum w ⟨a⟩ ⟨b⟩ (show a.size + b.size ≤ _ by omega), ba_app]
theorem itoa_size (n : Int) (h0 : -2147483648 ≤ n) (h1 : n ≤ 2147483647) : (Lib.itoa n).length ≤ 21 := Lib.itoa_length_le n (by omega) (by omega)

set_option maxHeartbeats 4000000 in
set_option maxRecDepth 100000 in
theorem show_0o (op a b imm : Int) (L : UInt8) (N : Array UInt8) (hNs : N.size ≤ 1000) (w : World) (h0 : 0 ≤ op) (h1 : op < 256) (ha : 0 ≤ a ∧ a ≤ 7) (hb : 0 ≤ b ∧ b ≤ 7) (hi : -2147483648 ≤ imm ∧ imm ≤ 2147483647) (hE : Env w)
    (M1 : ∀ w, Env w → Calls Tryd.prog 13 #[.agg (insA op a b imm), .bool true] w fun e w' => e = .returned (.bool true) ∧ Kep w w')
    (M2 : ∀ w, Env w → Calls Tryd.prog 14 #[.int .u8 op] w fun e w' => e = .returned (.agg #[.string ⟨#[]⟩, .bool false]) ∧ Kep w w')
    (M3 : ∀ w, Calls Tryd.prog 15 #[.int .u8 op] w fun e w' => e = .returned (.string ⟨N⟩) ∧ Kep w w') :
    Calls Tryd.prog 8 #[.agg (insA op a b imm)] w fun e w' => e = .returned (.string ⟨N ++ partA false 114 (dg a) ++ partA false L (dg b) ++ partN false imm⟩) ∧ Kep w w' := by
  have hE' : Hid (Env w) := hE
  have H1 : Hid _ := M1
  have H2 : Hid _ := M2
  have H3 : Hid _ := M3
  have HDa : Hid (∀ w, Calls Tryd.prog 16 #[.int .i64 a] w fun e w' => e = .returned (.string ⟨#[dg a]⟩) ∧ w' = w) := fun w => itoa_digit a ha.1 ha.2 w
  have HDb : Hid (∀ w, Calls Tryd.prog 16 #[.int .i64 b] w fun e w' => e = .returned (.string ⟨#[dg b]⟩) ∧ w' = w) := fun w => itoa_digit b hb.1 hb.2 w
  have HI : Hid (∀ w, Env w → Calls Tryd.prog 16 #[.int .i64 imm] w fun e w' => e = .returned (.string ⟨(Lib.itoa imm).toArray⟩) ∧ Kep w w') := fun w h => itoa_any imm hi.1 hi.2 w h
  have hw1 : IntKind.i64.wrap 1 = 1 := by decide
  have hw2 : IntKind.i64.wrap 2 = 2 := by decide
  have hwa : IntKind.i64.wrap a = a := wrap_in (by omega) (by omega)
  have hwb : IntKind.i64.wrap b = b := wrap_in (by omega) (by omega)
  obtain ⟨D, hD⟩ : ∃ D, Hid (D = dg a) := ⟨_, rfl⟩
  obtain ⟨E, hDb⟩ : ∃ E, Hid (E = dg b) := ⟨_, rfl⟩
  rw [← hD.out, ← hDb.out]
  rw [← hD.out] at HDa
  rw [← hDb.out] at HDb
  have y0 : Hid (N.size ≤ 1000) := hNs
  clear hE M1 M2 M3 hNs
  go_enter Tryd.func8, Tryd.ntmps8
  go_wp2_with fail
  refine (H1.out _ (hE'.out.grown ((Kep.refl _).alloc _))).mono ?_
  rintro e w1 ⟨rfl, g1⟩
  have G1 : Hid (Kep w w1) := kep_trans ((Kep.refl _).alloc _) g1
  have z1 : w.heap.size < w1.heap.size := g1.lt (by simp)
  have b1 : Hid (w1.heap[w.heap.size]? = some (.cells (insA op a b imm) 23 (0, 0))) := g1.block (heap_alloc_new _ _)
  have c0 : w1.cell? ⟨w.heap.size, 0, none⟩ = some (.int .u8 op) := cell_of_block b1.out
  clear g1
  go_wp2_with fail
  refine (H2.out _ (hE'.out.grown G1.out)).mono ?_
  rintro e w2 ⟨rfl, g2⟩
  have G2 : Hid (Kep w w2) := kep_trans G1.out g2
  have z2 : w.heap.size < w2.heap.size := g2.lt z1
  have b2 : Hid (w2.heap[w.heap.size]? = some (.cells (insA op a b imm) 23 (0, 0))) := g2.block b1.out
  have c0 : w2.cell? ⟨w.heap.size, 0, none⟩ = some (.int .u8 op) := cell_of_block b2.out
  clear g2
  go_wp2_with fail
  refine (H3.out _).mono ?_
  rintro e w3 ⟨rfl, g3⟩
  have G3 : Hid (Kep w w3) := kep_trans (G2.out.alloc _) g3
  have z3 : w2.heap.size < w3.heap.size := g3.lt (by simp)
  have b3 : Hid (w3.heap[w.heap.size]? = some (.cells (insA op a b imm) 23 (0, 0))) := g3.block (((Kep.refl _).alloc _).block b2.out)
  have d3 : Hid (w3.heap[w2.heap.size]? = some (.cells #[.string ⟨#[]⟩, .bool false] 36 (0, 0))) := g3.block (heap_alloc_new _ _)
  have c0 : w3.cell? ⟨w.heap.size, 0, none⟩ = some (.int .u8 op) := cell_of_block b3.out
  have c1 : w3.cell? ⟨w.heap.size, 1, none⟩ = some (.int .u8 a) := cell_of_block b3.out
  have c2 : w3.cell? ⟨w.heap.size, 2, none⟩ = some (.int .u8 b) := cell_of_block b3.out
  have c3 : w3.cell? ⟨w.heap.size, 3, none⟩ = some (.int .i32 imm) := cell_of_block b3.out
  have e0 : w3.cell? ⟨w2.heap.size, 0, none⟩ = some (.string ⟨#[]⟩) := cell_of_block d3.out
  have e1 : w3.cell? ⟨w2.heap.size, 1, none⟩ = some (.bool false) := cell_of_block d3.out
  have z4 : w.heap.size < w3.heap.size := by omega
  clear g3
  go_wp2_with fail
  refine wp_loop_rounds 1 ?_
  rw [rounds_succ]
  go_wp2_with fail
  go_ret
  refine ⟨ret_str (congrArg ByteArray.mk (show N = _ from ?_)), G3.out.alloc _⟩
  skip
  simp [partA, partN]

set_option maxHeartbeats 4000000 in
set_option maxRecDepth 100000 in
theorem show_0n (op a b imm : Int) (L : UInt8) (N : Array UInt8) (hNs : N.size ≤ 1000) (w : World) (h0 : 0 ≤ op) (h1 : op < 256) (ha : 0 ≤ a ∧ a ≤ 7) (hb : 0 ≤ b ∧ b ≤ 7) (hi : -2147483648 ≤ imm ∧ imm ≤ 2147483647) (hE : Env w)
    (M1 : ∀ w, Env w → Calls Tryd.prog 13 #[.agg (insA op a b imm), .bool true] w fun e w' => e = .returned (.bool true) ∧ Kep w w')
    (M2 : ∀ w, Env w → Calls Tryd.prog 14 #[.int .u8 op] w fun e w' => e = .returned (.agg #[.string ⟨#[]⟩, .bool true]) ∧ Kep w w')
    (M3 : ∀ w, Calls Tryd.prog 15 #[.int .u8 op] w fun e w' => e = .returned (.string ⟨N⟩) ∧ Kep w w') :
    Calls Tryd.prog 8 #[.agg (insA op a b imm)] w fun e w' => e = .returned (.string ⟨N ++ partA false 114 (dg a) ++ partA false L (dg b) ++ partN true imm⟩) ∧ Kep w w' := by
  have hE' : Hid (Env w) := hE
  have H1 : Hid _ := M1
  have H2 : Hid _ := M2
  have H3 : Hid _ := M3
  have HDa : Hid (∀ w, Calls Tryd.prog 16 #[.int .i64 a] w fun e w' => e = .returned (.string ⟨#[dg a]⟩) ∧ w' = w) := fun w => itoa_digit a ha.1 ha.2 w
  have HDb : Hid (∀ w, Calls Tryd.prog 16 #[.int .i64 b] w fun e w' => e = .returned (.string ⟨#[dg b]⟩) ∧ w' = w) := fun w => itoa_digit b hb.1 hb.2 w
  have HI : Hid (∀ w, Env w → Calls Tryd.prog 16 #[.int .i64 imm] w fun e w' => e = .returned (.string ⟨(Lib.itoa imm).toArray⟩) ∧ Kep w w') := fun w h => itoa_any imm hi.1 hi.2 w h
  have hw1 : IntKind.i64.wrap 1 = 1 := by decide
  have hw2 : IntKind.i64.wrap 2 = 2 := by decide
  have hwa : IntKind.i64.wrap a = a := wrap_in (by omega) (by omega)
  have hwb : IntKind.i64.wrap b = b := wrap_in (by omega) (by omega)
  obtain ⟨D, hD⟩ : ∃ D, Hid (D = dg a) := ⟨_, rfl⟩
  obtain ⟨E, hDb⟩ : ∃ E, Hid (E = dg b) := ⟨_, rfl⟩
  rw [← hD.out, ← hDb.out]
  rw [← hD.out] at HDa
  rw [← hDb.out] at HDb
  have y0 : Hid (N.size ≤ 1000) := hNs
  obtain ⟨I, hI⟩ : ∃ I, Hid (I = (Lib.itoa imm).toArray) := ⟨_, rfl⟩
  rw [← hI.out] at HI
  have yI : Hid (I.size ≤ 21) := by unfold Hid; rw [hI.out]; simpa using itoa_size imm hi.1 hi.2
  obtain ⟨J, hJ⟩ : ∃ J : Array UInt8, Hid (J = #[32] ++ I) := ⟨#[32] ++ I, (rfl : (#[32] ++ I : Array UInt8) = #[32] ++ I)⟩
  obtain ⟨R, hR⟩ : ∃ R : Array UInt8, Hid (R = N ++ J) := ⟨_, rfl⟩
  have t7 : ∀ w, (Op.stringOp .add ⟨#[32]⟩ ⟨I⟩).run Tryd.prog w = .ok (.string ⟨J⟩) w := fun w => by rw [hJ.out]; exact add_str #[32] I (by decide) (by have := yI.out; omega) w
  have t8 : ∀ w, (Op.stringOp .add ⟨N⟩ ⟨J⟩).run Tryd.prog w = .ok (.string ⟨R⟩) w := fun w => by rw [hR.out]; exact add_str N J (by have := y0.out; omega) (by rw [hJ.out, Array.size_append]; have := yI.out; simp; omega) w
  clear hE M1 M2 M3 hNs
  go_enter Tryd.func8, Tryd.ntmps8
  go_wp2_with fail
  refine (H1.out _ (hE'.out.grown ((Kep.refl _).alloc _))).mono ?_
  rintro e w1 ⟨rfl, g1⟩
  have G1 : Hid (Kep w w1) := kep_trans ((Kep.refl _).alloc _) g1
  have z1 : w.heap.size < w1.heap.size := g1.lt (by simp)
  have b1 : Hid (w1.heap[w.heap.size]? = some (.cells (insA op a b imm) 23 (0, 0))) := g1.block (heap_alloc_new _ _)
  have c0 : w1.cell? ⟨w.heap.size, 0, none⟩ = some (.int .u8 op) := cell_of_block b1.out
  clear g1
  go_wp2_with fail
  refine (H2.out _ (hE'.out.grown G1.out)).mono ?_
  rintro e w2 ⟨rfl, g2⟩
  have G2 : Hid (Kep w w2) := kep_trans G1.out g2
  have z2 : w.heap.size < w2.heap.size := g2.lt z1
  have b2 : Hid (w2.heap[w.heap.size]? = some (.cells (insA op a b imm) 23 (0, 0))) := g2.block b1.out
  have c0 : w2.cell? ⟨w.heap.size, 0, none⟩ = some (.int .u8 op) := cell_of_block b2.out
  clear g2
  go_wp2_with fail
  refine (H3.out _).mono ?_
  rintro e w3 ⟨rfl, g3⟩
  have G3 : Hid (Kep w w3) := kep_trans (G2.out.alloc _) g3
  have z3 : w2.heap.size < w3.heap.size := g3.lt (by simp)
  have b3 : Hid (w3.heap[w.heap.size]? = some (.cells (insA op a b imm) 23 (0, 0))) := g3.block (((Kep.refl _).alloc _).block b2.out)
  have d3 : Hid (w3.heap[w2.heap.size]? = some (.cells #[.string ⟨#[]⟩, .bool true] 36 (0, 0))) := g3.block (heap_alloc_new _ _)
  have c0 : w3.cell? ⟨w.heap.size, 0, none⟩ = some (.int .u8 op) := cell_of_block b3.out
  have c1 : w3.cell? ⟨w.heap.size, 1, none⟩ = some (.int .u8 a) := cell_of_block b3.out
  have c2 : w3.cell? ⟨w.heap.size, 2, none⟩ = some (.int .u8 b) := cell_of_block b3.out
  have c3 : w3.cell? ⟨w.heap.size, 3, none⟩ = some (.int .i32 imm) := cell_of_block b3.out
  have e0 : w3.cell? ⟨w2.heap.size, 0, none⟩ = some (.string ⟨#[]⟩) := cell_of_block d3.out
  have e1 : w3.cell? ⟨w2.heap.size, 1, none⟩ = some (.bool true) := cell_of_block d3.out
  have z4 : w.heap.size < w3.heap.size := by omega
  clear g3
  go_wp2_with fail
  refine wp_loop_rounds 1 ?_
  rw [rounds_succ]
  go_wp2_with fail
  refine (HI.out _ (hE'.out.grown (G3.out.alloc _))).mono ?_
  rintro e w9 ⟨rfl, g9⟩
  have G9 : Hid (Kep w w9) := kep_trans (G3.out.alloc _) g9
  clear g9
  go_wp2_with fail
  go_ret
  refine ⟨ret_str (congrArg ByteArray.mk (show R = _ from ?_)), G9.out⟩
  rw [hR.out, hJ.out, hI.out]
  simp [partA, partN]

set_option maxHeartbeats 4000000 in
set_option maxRecDepth 100000 in
theorem show_1o (op a b imm : Int) (L : UInt8) (N : Array UInt8) (hNs : N.size ≤ 1000) (w : World) (h0 : 0 ≤ op) (h1 : op < 256) (ha : 0 ≤ a ∧ a ≤ 7) (hb : 0 ≤ b ∧ b ≤ 7) (hi : -2147483648 ≤ imm ∧ imm ≤ 2147483647) (hE : Env w)
    (M1 : ∀ w, Env w → Calls Tryd.prog 13 #[.agg (insA op a b imm), .bool true] w fun e w' => e = .returned (.bool true) ∧ Kep w w')
    (M2 : ∀ w, Env w → Calls Tryd.prog 14 #[.int .u8 op] w fun e w' => e = .returned (.agg #[.string ⟨#[114]⟩, .bool false]) ∧ Kep w w')
    (M3 : ∀ w, Calls Tryd.prog 15 #[.int .u8 op] w fun e w' => e = .returned (.string ⟨N⟩) ∧ Kep w w') :
    Calls Tryd.prog 8 #[.agg (insA op a b imm)] w fun e w' => e = .returned (.string ⟨N ++ partA true 114 (dg a) ++ partA false L (dg b) ++ partN false imm⟩) ∧ Kep w w' := by
  have hE' : Hid (Env w) := hE
  have H1 : Hid _ := M1
  have H2 : Hid _ := M2
  have H3 : Hid _ := M3
  have HDa : Hid (∀ w, Calls Tryd.prog 16 #[.int .i64 a] w fun e w' => e = .returned (.string ⟨#[dg a]⟩) ∧ w' = w) := fun w => itoa_digit a ha.1 ha.2 w
  have HDb : Hid (∀ w, Calls Tryd.prog 16 #[.int .i64 b] w fun e w' => e = .returned (.string ⟨#[dg b]⟩) ∧ w' = w) := fun w => itoa_digit b hb.1 hb.2 w
  have HI : Hid (∀ w, Env w → Calls Tryd.prog 16 #[.int .i64 imm] w fun e w' => e = .returned (.string ⟨(Lib.itoa imm).toArray⟩) ∧ Kep w w') := fun w h => itoa_any imm hi.1 hi.2 w h
  have hc0 := cut0 114
  have hw1 : IntKind.i64.wrap 1 = 1 := by decide
  have hw2 : IntKind.i64.wrap 2 = 2 := by decide
  have hwa : IntKind.i64.wrap a = a := wrap_in (by omega) (by omega)
  have hwb : IntKind.i64.wrap b = b := wrap_in (by omega) (by omega)
  obtain ⟨D, hD⟩ : ∃ D, Hid (D = dg a) := ⟨_, rfl⟩
  obtain ⟨E, hDb⟩ : ∃ E, Hid (E = dg b) := ⟨_, rfl⟩
  rw [← hD.out, ← hDb.out]
  rw [← hD.out] at HDa
  rw [← hDb.out] at HDb
  have y0 : Hid (N.size ≤ 1000) := hNs
  obtain ⟨N1, hN1⟩ : ∃ N1, Hid (N1 = N ++ #[32, 114, D]) := ⟨_, rfl⟩
  have t1 : ∀ w, (Op.stringOp .add ⟨#[32]⟩ ⟨#[114]⟩).run Tryd.prog w = .ok (.string ⟨#[32, 114]⟩) w := fun w => add_str #[32] #[114] (by decide) (by decide) w
  have t2 : ∀ w, (Op.stringOp .add ⟨#[32, 114]⟩ ⟨#[D]⟩).run Tryd.prog w = .ok (.string ⟨#[32, 114, D]⟩) w := fun w => add_str #[32, 114] #[D] (by decide) (by simp) w
  have t3 : ∀ w, (Op.stringOp .add ⟨N⟩ ⟨#[32, 114, D]⟩).run Tryd.prog w = .ok (.string ⟨N1⟩) w := fun w => by rw [hN1.out]; exact add_str N #[32, 114, D] (by omega) (by simp) w
  have y1 : Hid (N1.size ≤ 2000) := by unfold Hid; rw [hN1.out, Array.size_append]; have := y0.out; simp; omega
  clear hE M1 M2 M3 hNs
  go_enter Tryd.func8, Tryd.ntmps8
  go_wp2_with fail
  refine (H1.out _ (hE'.out.grown ((Kep.refl _).alloc _))).mono ?_
  rintro e w1 ⟨rfl, g1⟩
  have G1 : Hid (Kep w w1) := kep_trans ((Kep.refl _).alloc _) g1
  have z1 : w.heap.size < w1.heap.size := g1.lt (by simp)
  have b1 : Hid (w1.heap[w.heap.size]? = some (.cells (insA op a b imm) 23 (0, 0))) := g1.block (heap_alloc_new _ _)
  have c0 : w1.cell? ⟨w.heap.size, 0, none⟩ = some (.int .u8 op) := cell_of_block b1.out
  clear g1
  go_wp2_with fail
  refine (H2.out _ (hE'.out.grown G1.out)).mono ?_
  rintro e w2 ⟨rfl, g2⟩
  have G2 : Hid (Kep w w2) := kep_trans G1.out g2
  have z2 : w.heap.size < w2.heap.size := g2.lt z1
  have b2 : Hid (w2.heap[w.heap.size]? = some (.cells (insA op a b imm) 23 (0, 0))) := g2.block b1.out
  have c0 : w2.cell? ⟨w.heap.size, 0, none⟩ = some (.int .u8 op) := cell_of_block b2.out
  clear g2
  go_wp2_with fail
  refine (H3.out _).mono ?_
  rintro e w3 ⟨rfl, g3⟩
  have G3 : Hid (Kep w w3) := kep_trans (G2.out.alloc _) g3
  have z3 : w2.heap.size < w3.heap.size := g3.lt (by simp)
  have b3 : Hid (w3.heap[w.heap.size]? = some (.cells (insA op a b imm) 23 (0, 0))) := g3.block (((Kep.refl _).alloc _).block b2.out)
  have d3 : Hid (w3.heap[w2.heap.size]? = some (.cells #[.string ⟨#[114]⟩, .bool false] 36 (0, 0))) := g3.block (heap_alloc_new _ _)
  have c0 : w3.cell? ⟨w.heap.size, 0, none⟩ = some (.int .u8 op) := cell_of_block b3.out
  have c1 : w3.cell? ⟨w.heap.size, 1, none⟩ = some (.int .u8 a) := cell_of_block b3.out
  have c2 : w3.cell? ⟨w.heap.size, 2, none⟩ = some (.int .u8 b) := cell_of_block b3.out
  have c3 : w3.cell? ⟨w.heap.size, 3, none⟩ = some (.int .i32 imm) := cell_of_block b3.out
  have e0 : w3.cell? ⟨w2.heap.size, 0, none⟩ = some (.string ⟨#[114]⟩) := cell_of_block d3.out
  have e1 : w3.cell? ⟨w2.heap.size, 1, none⟩ = some (.bool false) := cell_of_block d3.out
  have z4 : w.heap.size < w3.heap.size := by omega
  clear g3
  go_wp2_with fail
  refine wp_loop_rounds 2 ?_
  rw [rounds_succ]
  go_wp2_with fail
  go_quiet ((go_at_call 16; exact (HDa.out _).mono fun _ _ h => ⟨h.1, _, h.2⟩))
  go_wp2_with fail
  rw [rounds_succ]
  go_wp2_with fail
  go_ret
  refine ⟨ret_str (congrArg ByteArray.mk (show N1 = _ from ?_)), (G3.out.alloc _).drewN _⟩
  rw [hN1.out]
  simp [partA, partN]

set_option maxHeartbeats 4000000 in
set_option maxRecDepth 100000 in
theorem show_1n (op a b imm : Int) (L : UInt8) (N : Array UInt8) (hNs : N.size ≤ 1000) (w : World) (h0 : 0 ≤ op) (h1 : op < 256) (ha : 0 ≤ a ∧ a ≤ 7) (hb : 0 ≤ b ∧ b ≤ 7) (hi : -2147483648 ≤ imm ∧ imm ≤ 2147483647) (hE : Env w)
    (M1 : ∀ w, Env w → Calls Tryd.prog 13 #[.agg (insA op a b imm), .bool true] w fun e w' => e = .returned (.bool true) ∧ Kep w w')
    (M2 : ∀ w, Env w → Calls Tryd.prog 14 #[.int .u8 op] w fun e w' => e = .returned (.agg #[.string ⟨#[114]⟩, .bool true]) ∧ Kep w w')
    (M3 : ∀ w, Calls Tryd.prog 15 #[.int .u8 op] w fun e w' => e = .returned (.string ⟨N⟩) ∧ Kep w w') :
    Calls Tryd.prog 8 #[.agg (insA op a b imm)] w fun e w' => e = .returned (.string ⟨N ++ partA true 114 (dg a) ++ partA false L (dg b) ++ partN true imm⟩) ∧ Kep w w' := by
  have hE' : Hid (Env w) := hE
  have H1 : Hid _ := M1
  have H2 : Hid _ := M2
  have H3 : Hid _ := M3
  have HDa : Hid (∀ w, Calls Tryd.prog 16 #[.int .i64 a] w fun e w' => e = .returned (.string ⟨#[dg a]⟩) ∧ w' = w) := fun w => itoa_digit a ha.1 ha.2 w
  have HDb : Hid (∀ w, Calls Tryd.prog 16 #[.int .i64 b] w fun e w' => e = .returned (.string ⟨#[dg b]⟩) ∧ w' = w) := fun w => itoa_digit b hb.1 hb.2 w
  have HI : Hid (∀ w, Env w → Calls Tryd.prog 16 #[.int .i64 imm] w fun e w' => e = .returned (.string ⟨(Lib.itoa imm).toArray⟩) ∧ Kep w w') := fun w h => itoa_any imm hi.1 hi.2 w h
  have hc0 := cut0 114
  have hw1 : IntKind.i64.wrap 1 = 1 := by decide
  have hw2 : IntKind.i64.wrap 2 = 2 := by decide
  have hwa : IntKind.i64.wrap a = a := wrap_in (by omega) (by omega)
  have hwb : IntKind.i64.wrap b = b := wrap_in (by omega) (by omega)
  obtain ⟨D, hD⟩ : ∃ D, Hid (D = dg a) := ⟨_, rfl⟩
  obtain ⟨E, hDb⟩ : ∃ E, Hid (E = dg b) := ⟨_, rfl⟩
  rw [← hD.out, ← hDb.out]
  rw [← hD.out] at HDa
  rw [← hDb.out] at HDb
  have y0 : Hid (N.size ≤ 1000) := hNs
  obtain ⟨N1, hN1⟩ : ∃ N1, Hid (N1 = N ++ #[32, 114, D]) := ⟨_, rfl⟩
  have t1 : ∀ w, (Op.stringOp .add ⟨#[32]⟩ ⟨#[114]⟩).run Tryd.prog w = .ok (.string ⟨#[32, 114]⟩) w := fun w => add_str #[32] #[114] (by decide) (by decide) w
  have t2 : ∀ w, (Op.stringOp .add ⟨#[32, 114]⟩ ⟨#[D]⟩).run Tryd.prog w = .ok (.string ⟨#[32, 114, D]⟩) w := fun w => add_str #[32, 114] #[D] (by decide) (by simp) w
  have t3 : ∀ w, (Op.stringOp .add ⟨N⟩ ⟨#[32, 114, D]⟩).run Tryd.prog w = .ok (.string ⟨N1⟩) w := fun w => by rw [hN1.out]; exact add_str N #[32, 114, D] (by omega) (by simp) w
  have y1 : Hid (N1.size ≤ 2000) := by unfold Hid; rw [hN1.out, Array.size_append]; have := y0.out; simp; omega
  obtain ⟨I, hI⟩ : ∃ I, Hid (I = (Lib.itoa imm).toArray) := ⟨_, rfl⟩
  rw [← hI.out] at HI
  have yI : Hid (I.size ≤ 21) := by unfold Hid; rw [hI.out]; simpa using itoa_size imm hi.1 hi.2
  obtain ⟨J, hJ⟩ : ∃ J : Array UInt8, Hid (J = #[32] ++ I) := ⟨#[32] ++ I, (rfl : (#[32] ++ I : Array UInt8) = #[32] ++ I)⟩
  obtain ⟨R, hR⟩ : ∃ R : Array UInt8, Hid (R = N1 ++ J) := ⟨_, rfl⟩
  have t7 : ∀ w, (Op.stringOp .add ⟨#[32]⟩ ⟨I⟩).run Tryd.prog w = .ok (.string ⟨J⟩) w := fun w => by rw [hJ.out]; exact add_str #[32] I (by decide) (by have := yI.out; omega) w
  have t8 : ∀ w, (Op.stringOp .add ⟨N1⟩ ⟨J⟩).run Tryd.prog w = .ok (.string ⟨R⟩) w := fun w => by rw [hR.out]; exact add_str N1 J (by have := y1.out; omega) (by rw [hJ.out, Array.size_append]; have := yI.out; simp; omega) w
  clear hE M1 M2 M3 hNs
  go_enter Tryd.func8, Tryd.ntmps8
  go_wp2_with fail
  refine (H1.out _ (hE'.out.grown ((Kep.refl _).alloc _))).mono ?_
  rintro e w1 ⟨rfl, g1⟩
  have G1 : Hid (Kep w w1) := kep_trans ((Kep.refl _).alloc _) g1
  have z1 : w.heap.size < w1.heap.size := g1.lt (by simp)
  have b1 : Hid (w1.heap[w.heap.size]? = some (.cells (insA op a b imm) 23 (0, 0))) := g1.block (heap_alloc_new _ _)
  have c0 : w1.cell? ⟨w.heap.size, 0, none⟩ = some (.int .u8 op) := cell_of_block b1.out
  clear g1
  go_wp2_with fail
  refine (H2.out _ (hE'.out.grown G1.out)).mono ?_
  rintro e w2 ⟨rfl, g2⟩
  have G2 : Hid (Kep w w2) := kep_trans G1.out g2
  have z2 : w.heap.size < w2.heap.size := g2.lt z1
  have b2 : Hid (w2.heap[w.heap.size]? = some (.cells (insA op a b imm) 23 (0, 0))) := g2.block b1.out
  have c0 : w2.cell? ⟨w.heap.size, 0, none⟩ = some (.int .u8 op) := cell_of_block b2.out
  clear g2
  go_wp2_with fail
  refine (H3.out _).mono ?_
  rintro e w3 ⟨rfl, g3⟩
  have G3 : Hid (Kep w w3) := kep_trans (G2.out.alloc _) g3
  have z3 : w2.heap.size < w3.heap.size := g3.lt (by simp)
  have b3 : Hid (w3.heap[w.heap.size]? = some (.cells (insA op a b imm) 23 (0, 0))) := g3.block (((Kep.refl _).alloc _).block b2.out)
  have d3 : Hid (w3.heap[w2.heap.size]? = some (.cells #[.string ⟨#[114]⟩, .bool true] 36 (0, 0))) := g3.block (heap_alloc_new _ _)
  have c0 : w3.cell? ⟨w.heap.size, 0, none⟩ = some (.int .u8 op) := cell_of_block b3.out
  have c1 : w3.cell? ⟨w.heap.size, 1, none⟩ = some (.int .u8 a) := cell_of_block b3.out
  have c2 : w3.cell? ⟨w.heap.size, 2, none⟩ = some (.int .u8 b) := cell_of_block b3.out
  have c3 : w3.cell? ⟨w.heap.size, 3, none⟩ = some (.int .i32 imm) := cell_of_block b3.out
  have e0 : w3.cell? ⟨w2.heap.size, 0, none⟩ = some (.string ⟨#[114]⟩) := cell_of_block d3.out
  have e1 : w3.cell? ⟨w2.heap.size, 1, none⟩ = some (.bool true) := cell_of_block d3.out
  have z4 : w.heap.size < w3.heap.size := by omega
  clear g3
  go_wp2_with fail
  refine wp_loop_rounds 2 ?_
  rw [rounds_succ]
  go_wp2_with fail
  go_quiet ((go_at_call 16; exact (HDa.out _).mono fun _ _ h => ⟨h.1, _, h.2⟩))
  go_wp2_with fail
  rw [rounds_succ]
  go_wp2_with fail
  refine (HI.out _ (hE'.out.grown ((G3.out.alloc _).drewN _))).mono ?_
  rintro e w9 ⟨rfl, g9⟩
  have G9 : Hid (Kep w w9) := kep_trans ((G3.out.alloc _).drewN _) g9
  clear g9
  go_wp2_with fail
  go_ret
  refine ⟨ret_str (congrArg ByteArray.mk (show R = _ from ?_)), G9.out⟩
  rw [hR.out, hJ.out, hI.out, hN1.out]
  simp [partA, partN]

set_option maxHeartbeats 4000000 in
set_option maxRecDepth 100000 in
theorem show_2o (op a b imm : Int) (L : UInt8) (N : Array UInt8) (hNs : N.size ≤ 1000) (w : World) (h0 : 0 ≤ op) (h1 : op < 256) (ha : 0 ≤ a ∧ a ≤ 7) (hb : 0 ≤ b ∧ b ≤ 7) (hi : -2147483648 ≤ imm ∧ imm ≤ 2147483647) (hE : Env w)
    (M1 : ∀ w, Env w → Calls Tryd.prog 13 #[.agg (insA op a b imm), .bool true] w fun e w' => e = .returned (.bool true) ∧ Kep w w')
    (M2 : ∀ w, Env w → Calls Tryd.prog 14 #[.int .u8 op] w fun e w' => e = .returned (.agg #[.string ⟨#[114, L]⟩, .bool false]) ∧ Kep w w')
    (M3 : ∀ w, Calls Tryd.prog 15 #[.int .u8 op] w fun e w' => e = .returned (.string ⟨N⟩) ∧ Kep w w') :
    Calls Tryd.prog 8 #[.agg (insA op a b imm)] w fun e w' => e = .returned (.string ⟨N ++ partA true 114 (dg a) ++ partA true L (dg b) ++ partN false imm⟩) ∧ Kep w w' := by
  have hE' : Hid (Env w) := hE
  have H1 : Hid _ := M1
  have H2 : Hid _ := M2
  have H3 : Hid _ := M3
  have HDa : Hid (∀ w, Calls Tryd.prog 16 #[.int .i64 a] w fun e w' => e = .returned (.string ⟨#[dg a]⟩) ∧ w' = w) := fun w => itoa_digit a ha.1 ha.2 w
  have HDb : Hid (∀ w, Calls Tryd.prog 16 #[.int .i64 b] w fun e w' => e = .returned (.string ⟨#[dg b]⟩) ∧ w' = w) := fun w => itoa_digit b hb.1 hb.2 w
  have HI : Hid (∀ w, Env w → Calls Tryd.prog 16 #[.int .i64 imm] w fun e w' => e = .returned (.string ⟨(Lib.itoa imm).toArray⟩) ∧ Kep w w') := fun w h => itoa_any imm hi.1 hi.2 w h
  have hc1 := cut1 114 L
  have hc2 := cut2 114 L
  have hw1 : IntKind.i64.wrap 1 = 1 := by decide
  have hw2 : IntKind.i64.wrap 2 = 2 := by decide
  have hwa : IntKind.i64.wrap a = a := wrap_in (by omega) (by omega)
  have hwb : IntKind.i64.wrap b = b := wrap_in (by omega) (by omega)
  obtain ⟨D, hD⟩ : ∃ D, Hid (D = dg a) := ⟨_, rfl⟩
  obtain ⟨E, hDb⟩ : ∃ E, Hid (E = dg b) := ⟨_, rfl⟩
  rw [← hD.out, ← hDb.out]
  rw [← hD.out] at HDa
  rw [← hDb.out] at HDb
  have y0 : Hid (N.size ≤ 1000) := hNs
  obtain ⟨N1, hN1⟩ : ∃ N1, Hid (N1 = N ++ #[32, 114, D]) := ⟨_, rfl⟩
  have t1 : ∀ w, (Op.stringOp .add ⟨#[32]⟩ ⟨#[114]⟩).run Tryd.prog w = .ok (.string ⟨#[32, 114]⟩) w := fun w => add_str #[32] #[114] (by decide) (by decide) w
  have t2 : ∀ w, (Op.stringOp .add ⟨#[32, 114]⟩ ⟨#[D]⟩).run Tryd.prog w = .ok (.string ⟨#[32, 114, D]⟩) w := fun w => add_str #[32, 114] #[D] (by decide) (by simp) w
  have t3 : ∀ w, (Op.stringOp .add ⟨N⟩ ⟨#[32, 114, D]⟩).run Tryd.prog w = .ok (.string ⟨N1⟩) w := fun w => by rw [hN1.out]; exact add_str N #[32, 114, D] (by omega) (by simp) w
  have y1 : Hid (N1.size ≤ 2000) := by unfold Hid; rw [hN1.out, Array.size_append]; have := y0.out; simp; omega
  obtain ⟨N2, hN2⟩ : ∃ N2, Hid (N2 = N1 ++ #[32, L, E]) := ⟨_, rfl⟩
  have t4 : ∀ w, (Op.stringOp .add ⟨#[32]⟩ ⟨#[L]⟩).run Tryd.prog w = .ok (.string ⟨#[32, L]⟩) w := fun w => add_str #[32] #[L] (by decide) (by simp) w
  have t5 : ∀ w, (Op.stringOp .add ⟨#[32, L]⟩ ⟨#[E]⟩).run Tryd.prog w = .ok (.string ⟨#[32, L, E]⟩) w := fun w => add_str #[32, L] #[E] (by simp) (by simp) w
  have t6 : ∀ w, (Op.stringOp .add ⟨N1⟩ ⟨#[32, L, E]⟩).run Tryd.prog w = .ok (.string ⟨N2⟩) w := fun w => by rw [hN2.out]; exact add_str N1 #[32, L, E] (by have := y1.out; omega) (by simp) w
  have y2 : Hid (N2.size ≤ 3000) := by unfold Hid; rw [hN2.out, Array.size_append]; have := y1.out; simp; omega
  clear hE M1 M2 M3 hNs
  go_enter Tryd.func8, Tryd.ntmps8
  go_wp2_with fail
  refine (H1.out _ (hE'.out.grown ((Kep.refl _).alloc _))).mono ?_
  rintro e w1 ⟨rfl, g1⟩
  have G1 : Hid (Kep w w1) := kep_trans ((Kep.refl _).alloc _) g1
  have z1 : w.heap.size < w1.heap.size := g1.lt (by simp)
  have b1 : Hid (w1.heap[w.heap.size]? = some (.cells (insA op a b imm) 23 (0, 0))) := g1.block (heap_alloc_new _ _)
  have c0 : w1.cell? ⟨w.heap.size, 0, none⟩ = some (.int .u8 op) := cell_of_block b1.out
  clear g1
  go_wp2_with fail
  refine (H2.out _ (hE'.out.grown G1.out)).mono ?_
  rintro e w2 ⟨rfl, g2⟩
  have G2 : Hid (Kep w w2) := kep_trans G1.out g2
  have z2 : w.heap.size < w2.heap.size := g2.lt z1
  have b2 : Hid (w2.heap[w.heap.size]? = some (.cells (insA op a b imm) 23 (0, 0))) := g2.block b1.out
  have c0 : w2.cell? ⟨w.heap.size, 0, none⟩ = some (.int .u8 op) := cell_of_block b2.out
  clear g2
  go_wp2_with fail
  refine (H3.out _).mono ?_
  rintro e w3 ⟨rfl, g3⟩
  have G3 : Hid (Kep w w3) := kep_trans (G2.out.alloc _) g3
  have z3 : w2.heap.size < w3.heap.size := g3.lt (by simp)
  have b3 : Hid (w3.heap[w.heap.size]? = some (.cells (insA op a b imm) 23 (0, 0))) := g3.block (((Kep.refl _).alloc _).block b2.out)
  have d3 : Hid (w3.heap[w2.heap.size]? = some (.cells #[.string ⟨#[114, L]⟩, .bool false] 36 (0, 0))) := g3.block (heap_alloc_new _ _)
  have c0 : w3.cell? ⟨w.heap.size, 0, none⟩ = some (.int .u8 op) := cell_of_block b3.out
  have c1 : w3.cell? ⟨w.heap.size, 1, none⟩ = some (.int .u8 a) := cell_of_block b3.out
  have c2 : w3.cell? ⟨w.heap.size, 2, none⟩ = some (.int .u8 b) := cell_of_block b3.out
  have c3 : w3.cell? ⟨w.heap.size, 3, none⟩ = some (.int .i32 imm) := cell_of_block b3.out
  have e0 : w3.cell? ⟨w2.heap.size, 0, none⟩ = some (.string ⟨#[114, L]⟩) := cell_of_block d3.out
  have e1 : w3.cell? ⟨w2.heap.size, 1, none⟩ = some (.bool false) := cell_of_block d3.out
  have z4 : w.heap.size < w3.heap.size := by omega
  clear g3
  go_wp2_with fail
  refine wp_loop_rounds 3 ?_
  rw [rounds_succ]
  go_wp2_with fail
  go_quiet ((go_at_call 16; exact (HDa.out _).mono fun _ _ h => ⟨h.1, _, h.2⟩))
  go_wp2_with fail
  rw [rounds_succ]
  go_wp2_with fail
  go_quiet ((go_at_call 16; exact (HDb.out _).mono fun _ _ h => ⟨h.1, _, h.2⟩))
  go_wp2_with fail
  rw [rounds_succ]
  go_wp2_with fail
  go_ret
  refine ⟨ret_str (congrArg ByteArray.mk (show N2 = _ from ?_)), (G3.out.alloc _).drewN _⟩
  rw [hN2.out, hN1.out]
  simp [partA, partN]

set_option maxHeartbeats 4000000 in
set_option maxRecDepth 100000 in
theorem show_2n (op a b imm : Int) (L : UInt8) (N : Array UInt8) (hNs : N.size ≤ 1000) (w : World) (h0 : 0 ≤ op) (h1 : op < 256) (ha : 0 ≤ a ∧ a ≤ 7) (hb : 0 ≤ b ∧ b ≤ 7) (hi : -2147483648 ≤ imm ∧ imm ≤ 2147483647) (hE : Env w)
    (M1 : ∀ w, Env w → Calls Tryd.prog 13 #[.agg (insA op a b imm), .bool true] w fun e w' => e = .returned (.bool true) ∧ Kep w w')
    (M2 : ∀ w, Env w → Calls Tryd.prog 14 #[.int .u8 op] w fun e w' => e = .returned (.agg #[.string ⟨#[114, L]⟩, .bool true]) ∧ Kep w w')
    (M3 : ∀ w, Calls Tryd.prog 15 #[.int .u8 op] w fun e w' => e = .returned (.string ⟨N⟩) ∧ Kep w w') :
    Calls Tryd.prog 8 #[.agg (insA op a b imm)] w fun e w' => e = .returned (.string ⟨N ++ partA true 114 (dg a) ++ partA true L (dg b) ++ partN true imm⟩) ∧ Kep w w' := by
  have hE' : Hid (Env w) := hE
  have H1 : Hid _ := M1
  have H2 : Hid _ := M2
  have H3 : Hid _ := M3
  have HDa : Hid (∀ w, Calls Tryd.prog 16 #[.int .i64 a] w fun e w' => e = .returned (.string ⟨#[dg a]⟩) ∧ w' = w) := fun w => itoa_digit a ha.1 ha.2 w
  have HDb : Hid (∀ w, Calls Tryd.prog 16 #[.int .i64 b] w fun e w' => e = .returned (.string ⟨#[dg b]⟩) ∧ w' = w) := fun w => itoa_digit b hb.1 hb.2 w
  have HI : Hid (∀ w, Env w → Calls Tryd.prog 16 #[.int .i64 imm] w fun e w' => e = .returned (.string ⟨(Lib.itoa imm).toArray⟩) ∧ Kep w w') := fun w h => itoa_any imm hi.1 hi.2 w h
  have hc1 := cut1 114 L
  have hc2 := cut2 114 L
  have hw1 : IntKind.i64.wrap 1 = 1 := by decide
  have hw2 : IntKind.i64.wrap 2 = 2 := by decide
  have hwa : IntKind.i64.wrap a = a := wrap_in (by omega) (by omega)
  have hwb : IntKind.i64.wrap b = b := wrap_in (by omega) (by omega)
  obtain ⟨D, hD⟩ : ∃ D, Hid (D = dg a) := ⟨_, rfl⟩
  obtain ⟨E, hDb⟩ : ∃ E, Hid (E = dg b) := ⟨_, rfl⟩
  rw [← hD.out, ← hDb.out]
  rw [← hD.out] at HDa
  rw [← hDb.out] at HDb
  have y0 : Hid (N.size ≤ 1000) := hNs
  obtain ⟨N1, hN1⟩ : ∃ N1, Hid (N1 = N ++ #[32, 114, D]) := ⟨_, rfl⟩
  have t1 : ∀ w, (Op.stringOp .add ⟨#[32]⟩ ⟨#[114]⟩).run Tryd.prog w = .ok (.string ⟨#[32, 114]⟩) w := fun w => add_str #[32] #[114] (by decide) (by decide) w
  have t2 : ∀ w, (Op.stringOp .add ⟨#[32, 114]⟩ ⟨#[D]⟩).run Tryd.prog w = .ok (.string ⟨#[32, 114, D]⟩) w := fun w => add_str #[32, 114] #[D] (by decide) (by simp) w
  have t3 : ∀ w, (Op.stringOp .add ⟨N⟩ ⟨#[32, 114, D]⟩).run Tryd.prog w = .ok (.string ⟨N1⟩) w := fun w => by rw [hN1.out]; exact add_str N #[32, 114, D] (by omega) (by simp) w
  have y1 : Hid (N1.size ≤ 2000) := by unfold Hid; rw [hN1.out, Array.size_append]; have := y0.out; simp; omega
  obtain ⟨N2, hN2⟩ : ∃ N2, Hid (N2 = N1 ++ #[32, L, E]) := ⟨_, rfl⟩
  have t4 : ∀ w, (Op.stringOp .add ⟨#[32]⟩ ⟨#[L]⟩).run Tryd.prog w = .ok (.string ⟨#[32, L]⟩) w := fun w => add_str #[32] #[L] (by decide) (by simp) w
  have t5 : ∀ w, (Op.stringOp .add ⟨#[32, L]⟩ ⟨#[E]⟩).run Tryd.prog w = .ok (.string ⟨#[32, L, E]⟩) w := fun w => add_str #[32, L] #[E] (by simp) (by simp) w
  have t6 : ∀ w, (Op.stringOp .add ⟨N1⟩ ⟨#[32, L, E]⟩).run Tryd.prog w = .ok (.string ⟨N2⟩) w := fun w => by rw [hN2.out]; exact add_str N1 #[32, L, E] (by have := y1.out; omega) (by simp) w
  have y2 : Hid (N2.size ≤ 3000) := by unfold Hid; rw [hN2.out, Array.size_append]; have := y1.out; simp; omega
  obtain ⟨I, hI⟩ : ∃ I, Hid (I = (Lib.itoa imm).toArray) := ⟨_, rfl⟩
  rw [← hI.out] at HI
  have yI : Hid (I.size ≤ 21) := by unfold Hid; rw [hI.out]; simpa using itoa_size imm hi.1 hi.2
  obtain ⟨J, hJ⟩ : ∃ J : Array UInt8, Hid (J = #[32] ++ I) := ⟨#[32] ++ I, (rfl : (#[32] ++ I : Array UInt8) = #[32] ++ I)⟩
  obtain ⟨R, hR⟩ : ∃ R : Array UInt8, Hid (R = N2 ++ J) := ⟨_, rfl⟩
  have t7 : ∀ w, (Op.stringOp .add ⟨#[32]⟩ ⟨I⟩).run Tryd.prog w = .ok (.string ⟨J⟩) w := fun w => by rw [hJ.out]; exact add_str #[32] I (by decide) (by have := yI.out; omega) w
  have t8 : ∀ w, (Op.stringOp .add ⟨N2⟩ ⟨J⟩).run Tryd.prog w = .ok (.string ⟨R⟩) w := fun w => by rw [hR.out]; exact add_str N2 J (by have := y2.out; omega) (by rw [hJ.out, Array.size_append]; have := yI.out; simp; omega) w
  clear hE M1 M2 M3 hNs
  go_enter Tryd.func8, Tryd.ntmps8
  go_wp2_with fail
  refine (H1.out _ (hE'.out.grown ((Kep.refl _).alloc _))).mono ?_
  rintro e w1 ⟨rfl, g1⟩
  have G1 : Hid (Kep w w1) := kep_trans ((Kep.refl _).alloc _) g1
  have z1 : w.heap.size < w1.heap.size := g1.lt (by simp)
  have b1 : Hid (w1.heap[w.heap.size]? = some (.cells (insA op a b imm) 23 (0, 0))) := g1.block (heap_alloc_new _ _)
  have c0 : w1.cell? ⟨w.heap.size, 0, none⟩ = some (.int .u8 op) := cell_of_block b1.out
  clear g1
  go_wp2_with fail
  refine (H2.out _ (hE'.out.grown G1.out)).mono ?_
  rintro e w2 ⟨rfl, g2⟩
  have G2 : Hid (Kep w w2) := kep_trans G1.out g2
  have z2 : w.heap.size < w2.heap.size := g2.lt z1
  have b2 : Hid (w2.heap[w.heap.size]? = some (.cells (insA op a b imm) 23 (0, 0))) := g2.block b1.out
  have c0 : w2.cell? ⟨w.heap.size, 0, none⟩ = some (.int .u8 op) := cell_of_block b2.out
  clear g2
  go_wp2_with fail
  refine (H3.out _).mono ?_
  rintro e w3 ⟨rfl, g3⟩
  have G3 : Hid (Kep w w3) := kep_trans (G2.out.alloc _) g3
  have z3 : w2.heap.size < w3.heap.size := g3.lt (by simp)
  have b3 : Hid (w3.heap[w.heap.size]? = some (.cells (insA op a b imm) 23 (0, 0))) := g3.block (((Kep.refl _).alloc _).block b2.out)
  have d3 : Hid (w3.heap[w2.heap.size]? = some (.cells #[.string ⟨#[114, L]⟩, .bool true] 36 (0, 0))) := g3.block (heap_alloc_new _ _)
  have c0 : w3.cell? ⟨w.heap.size, 0, none⟩ = some (.int .u8 op) := cell_of_block b3.out
  have c1 : w3.cell? ⟨w.heap.size, 1, none⟩ = some (.int .u8 a) := cell_of_block b3.out
  have c2 : w3.cell? ⟨w.heap.size, 2, none⟩ = some (.int .u8 b) := cell_of_block b3.out
  have c3 : w3.cell? ⟨w.heap.size, 3, none⟩ = some (.int .i32 imm) := cell_of_block b3.out
  have e0 : w3.cell? ⟨w2.heap.size, 0, none⟩ = some (.string ⟨#[114, L]⟩) := cell_of_block d3.out
  have e1 : w3.cell? ⟨w2.heap.size, 1, none⟩ = some (.bool true) := cell_of_block d3.out
  have z4 : w.heap.size < w3.heap.size := by omega
  clear g3
  go_wp2_with fail
  refine wp_loop_rounds 3 ?_
  rw [rounds_succ]
  go_wp2_with fail
  go_quiet ((go_at_call 16; exact (HDa.out _).mono fun _ _ h => ⟨h.1, _, h.2⟩))
  go_wp2_with fail
  rw [rounds_succ]
  go_wp2_with fail
  go_quiet ((go_at_call 16; exact (HDb.out _).mono fun _ _ h => ⟨h.1, _, h.2⟩))
  go_wp2_with fail
  rw [rounds_succ]
  go_wp2_with fail
  refine (HI.out _ (hE'.out.grown ((G3.out.alloc _).drewN _))).mono ?_
  rintro e w9 ⟨rfl, g9⟩
  have G9 : Hid (Kep w w9) := kep_trans ((G3.out.alloc _).drewN _) g9
  clear g9
  go_wp2_with fail
  go_ret
  refine ⟨ret_str (congrArg ByteArray.mk (show R = _ from ?_)), G9.out⟩
  rw [hR.out, hJ.out, hI.out, hN2.out, hN1.out]
  simp [partA, partN]

end Go.Proofs.YthmbajehcffnbaaDoor
