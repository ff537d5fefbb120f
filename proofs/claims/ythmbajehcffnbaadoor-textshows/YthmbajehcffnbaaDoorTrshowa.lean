/- What the document's Show answers of any instruction. -/
import Derived.Test.YthmbajehcffnbaaDoorTrshow
import Derived.Test.YthmbajehcffnbaaDoorTrnama
import Derived.Test.YthmbajehcffnbaaDoorTrnamb
import Derived.Test.YthmbajehcffnbaaDoorTrnamc
import Derived.Test.YthmbajehcffnbaaDoorRefmay
import Derived.Test.YthmbajehcffnbaaDoorTshowa
namespace Go.Proofs.YthmbajehcffnbaaDoor
open Go.RowKit
set_option linter.unusedVariables false

theorem ops_all : ∀ n : Nat, n < 256 → rowOf n true ≠ 0 → n ∈ [0, 1, 2, 3, 16, 17, 18, 19, 20, 21, 22, 23, 24, 25, 26, 27, 28, 29, 30, 31, 32, 33, 48, 49, 50, 51, 52, 53, 54, 55, 56, 57, 58, 64, 65, 66, 67, 68, 69, 70, 71, 72, 73, 74, 80, 96, 97, 98, 99, 100, 101, 112, 113] := by decide +kernel
theorem rname_any (op : Int) (h0 : 0 ≤ op) (h1 : op < 256) (h : rowOf op true ≠ 0) (w : World) : Calls Tryd.prog 19 #[.int .u8 op] w fun e w' => e = .returned (.string ⟨nameA op⟩) ∧ Kep w w' := by
  obtain ⟨n, rfl⟩ : ∃ n : Nat, op = n := ⟨op.toNat, by omega⟩
  have hm := ops_all n (by omega) h
  simp only [List.mem_cons, List.not_mem_nil, or_false] at hm
  clear h0 h1 h
  rcases hm with rfl | rfl | rfl | rfl | rfl | rfl | rfl | rfl | rfl | rfl | rfl | rfl | rfl | rfl | rfl | rfl | rfl | rfl | rfl | rfl | rfl | rfl | rfl | rfl | rfl | rfl | rfl | rfl | rfl | rfl | rfl | rfl | rfl | rfl | rfl | rfl | rfl | rfl | rfl | rfl | rfl | rfl | rfl | rfl | rfl | rfl | rfl | rfl | rfl | rfl | rfl | rfl | rfl
  · exact rname0 w
  · exact rname1 w
  · exact rname2 w
  · exact rname3 w
  · exact rname16 w
  · exact rname17 w
  · exact rname18 w
  · exact rname19 w
  · exact rname20 w
  · exact rname21 w
  · exact rname22 w
  · exact rname23 w
  · exact rname24 w
  · exact rname25 w
  · exact rname26 w
  · exact rname27 w
  · exact rname28 w
  · exact rname29 w
  · exact rname30 w
  · exact rname31 w
  · exact rname32 w
  · exact rname33 w
  · exact rname48 w
  · exact rname49 w
  · exact rname50 w
  · exact rname51 w
  · exact rname52 w
  · exact rname53 w
  · exact rname54 w
  · exact rname55 w
  · exact rname56 w
  · exact rname57 w
  · exact rname58 w
  · exact rname64 w
  · exact rname65 w
  · exact rname66 w
  · exact rname67 w
  · exact rname68 w
  · exact rname69 w
  · exact rname70 w
  · exact rname71 w
  · exact rname72 w
  · exact rname73 w
  · exact rname74 w
  · exact rname80 w
  · exact rname96 w
  · exact rname97 w
  · exact rname98 w
  · exact rname99 w
  · exact rname100 w
  · exact rname101 w
  · exact rname112 w
  · exact rname113 w
theorem rforms : ∀ r, r < 10 → hasA r = hA r ∧ rB r = hB r ∧ (hN r = true → 0 < f3 r) ∧ (hN r = false → f3 r ≤ 0) := by decide

set_option maxHeartbeats 1000000 in
theorem rshow_no (op a b imm : Int) (w : World) (M1 : ∀ w, Calls Tryd.prog 17 #[.agg (insA op a b imm), .bool true] w fun e w' => e = .returned (.bool false) ∧ Kep w w') :
    Calls Tryd.prog 9 #[.agg (insA op a b imm)] w fun e w' => e = .returned (.string ⟨#[]⟩) ∧ Kep w w' := by
  have H1 : Hid _ := M1
  clear M1
  go_enter Tryd.func9, Tryd.ntmps9
  go_wp2_with fail
  refine (H1.out _).mono ?_
  rintro e w1 ⟨rfl, g1⟩
  have G1 : Hid (Kep w w1) := kep_trans ((Kep.refl _).alloc _) g1
  clear g1
  go_wp2_with fail
  go_ret
  exact ⟨rfl, G1.out⟩

theorem rshow_any (op a b imm : Int) (w : World) (h0 : 0 ≤ op ∧ op < 256) (ha : 0 ≤ a) (hb : 0 ≤ b) (hi : -2147483648 ≤ imm ∧ imm ≤ 2147483647) :
    Calls Tryd.prog 9 #[.agg (insA op a b imm)] w fun e w' => e = .returned (.string ⟨showS op a b imm⟩) ∧ Kep w w' := by
  have M1 := fun (w : World) => refMay_any op a b imm true w ha hb hi.1 hi.2
  unfold showS
  cases hm : mayB (rowOf op true) a b imm
  · rw [hm] at M1
    exact rshow_no op a b imm w M1
  · rw [hm] at M1
    obtain ⟨m0, m1, m2, m3, m4⟩ := may_pts hm
    obtain ⟨p1, p2⟩ := f12_le _ (rowOf_lt op true)
    have M2 := fun (w : World) => refOf_any op true w
    have M3 := fun (w : World) => rname_any op h0.1 h0.2 m0 w
    have M4 := fun (w : World) => rsecond_any op w
    have hN' := name_size op h0.1 h0.2
    have hr := rowOf_lt op true
    unfold rformA at M2
    unfold showA
    rw [if_pos rfl]
    clear hm m3 m4
    generalize rowOf op true = r at *
    rcases (by omega : r = 1 ∨ r = 2 ∨ r = 3 ∨ r = 4 ∨ r = 5 ∨ r = 6 ∨ r = 7 ∨ r = 8 ∨ r = 9) with rfl | rfl | rfl | rfl | rfl | rfl | rfl | rfl | rfl
    · exact rshow_0o op a b imm _ _ _ (letB op) _ (by omega) (by decide) w ⟨ha, by omega⟩ ⟨hb, by omega⟩ hi M1 M2 M3 M4
    · exact rshow_1o op a b imm _ _ _ (letB op) _ (by omega) (by decide) w ⟨ha, by omega⟩ ⟨hb, by omega⟩ hi M1 M2 M3 M4
    · exact rshow_2o op a b imm _ _ _ (letB op) _ (by omega) (by decide) w ⟨ha, by omega⟩ ⟨hb, by omega⟩ hi M1 M2 M3 M4
    · exact rshow_0n op a b imm _ _ _ (letB op) _ (by omega) (by decide) w ⟨ha, by omega⟩ ⟨hb, by omega⟩ hi M1 M2 M3 M4
    · exact rshow_1n op a b imm _ _ _ (letB op) _ (by omega) (by decide) w ⟨ha, by omega⟩ ⟨hb, by omega⟩ hi M1 M2 M3 M4
    · exact rshow_2n op a b imm _ _ _ (letB op) _ (by omega) (by decide) w ⟨ha, by omega⟩ ⟨hb, by omega⟩ hi M1 M2 M3 M4
    · exact rshow_0n op a b imm _ _ _ (letB op) _ (by omega) (by decide) w ⟨ha, by omega⟩ ⟨hb, by omega⟩ hi M1 M2 M3 M4
    · exact rshow_0n op a b imm _ _ _ (letB op) _ (by omega) (by decide) w ⟨ha, by omega⟩ ⟨hb, by omega⟩ hi M1 M2 M3 M4
    · exact rshow_1n op a b imm _ _ _ (letB op) _ (by omega) (by decide) w ⟨ha, by omega⟩ ⟨hb, by omega⟩ hi M1 M2 M3 M4
end Go.Proofs.YthmbajehcffnbaaDoor
