/- What Show answers of any instruction; the law's plain call. -/
import Derived.Test.YthmbajehcffnbaaDoorTshow
namespace Go.Proofs.YthmbajehcffnbaaDoor
open Go.RowKit
set_option linter.unusedVariables false

theorem name_size_all : ∀ n : Nat, n < 256 → (nameA n).size ≤ 5 := by decide +kernel
theorem name_size (op : Int) (h0 : 0 ≤ op) (h1 : op < 256) : (nameA op).size ≤ 5 := by
  obtain ⟨n, rfl⟩ : ∃ n : Nat, op = n := ⟨op.toNat, by omega⟩
  exact name_size_all n (by omega)
theorem f12_le : ∀ r, r < 10 → f1 r ≤ 7 ∧ f2 r ≤ 7 := by decide
theorem may_pts {r : Nat} {a b imm : Int} (h : mayB r a b imm = true) : r ≠ 0 ∧ a ≤ f1 r ∧ b ≤ f2 r ∧ lo r ≤ imm ∧ imm ≤ hi r := by
  unfold mayB at h
  simp only [Bool.and_eq_true, decide_eq_true_eq, bne_iff_ne] at h
  exact ⟨h.1, h.2.1.1.1, h.2.1.1.2, h.2.1.2, h.2.2⟩

set_option maxHeartbeats 1000000 in
theorem show_no (op a b imm : Int) (w : World) (M1 : ∀ w, Env w → Calls Tryd.prog 13 #[.agg (insA op a b imm), .bool true] w fun e w' => e = .returned (.bool false) ∧ Kep w w') (hE : Env w) :
    Calls Tryd.prog 8 #[.agg (insA op a b imm)] w fun e w' => e = .returned (.string ⟨#[]⟩) ∧ Kep w w' := by
  have hE' : Hid (Env w) := hE
  have H1 : Hid _ := M1
  clear hE M1
  go_enter Tryd.func8, Tryd.ntmps8
  go_wp2_with fail
  refine (H1.out _ (hE'.out.grown ((Kep.refl _).alloc _))).mono ?_
  rintro e w1 ⟨rfl, g1⟩
  have G1 : Hid (Kep w w1) := kep_trans ((Kep.refl _).alloc _) g1
  clear g1
  go_wp2_with fail
  go_ret
  exact ⟨rfl, G1.out⟩

theorem show_any (op a b imm : Int) (w : World) (h0 : 0 ≤ op ∧ op < 256) (ha : 0 ≤ a) (hb : 0 ≤ b) (hi : -2147483648 ≤ imm ∧ imm ≤ 2147483647) (hE : Env w) :
    Calls Tryd.prog 8 #[.agg (insA op a b imm)] w fun e w' => e = .returned (.string ⟨showS op a b imm⟩) ∧ Kep w w' := by
  have M1 := fun (w : World) (h : Env w) => may_any op a b imm true w h0.1 h0.2 hi.1 hi.2 h.1
  unfold showS
  cases hm : mayB (rowOf op true) a b imm
  · rw [hm] at M1
    exact show_no op a b imm w M1 hE
  · rw [hm] at M1
    obtain ⟨m0, m1, m2, m3, m4⟩ := may_pts hm
    obtain ⟨p1, p2⟩ := f12_le _ (rowOf_lt op true)
    have M2 := fun (w : World) (h : Env w) => tformOf_any op w h0.1 h0.2 h.1
    have M3 := fun (w : World) => nameOf_any op w h0.1 h0.2
    have hN := name_size op h0.1 h0.2
    have hr := rowOf_lt op true
    unfold formV at M2
    unfold showA
    rw [if_pos rfl]
    clear hm m3 m4
    generalize rowOf op true = r at *
    rcases (by omega : r = 1 ∨ r = 2 ∨ r = 3 ∨ r = 4 ∨ r = 5 ∨ r = 6 ∨ r = 7 ∨ r = 8 ∨ r = 9) with rfl | rfl | rfl | rfl | rfl | rfl | rfl | rfl | rfl
    · exact show_0o op a b imm (letB op) _ (by omega) w h0.1 h0.2 ⟨ha, by omega⟩ ⟨hb, by omega⟩ hi hE M1 M2 M3
    · exact show_1o op a b imm (letB op) _ (by omega) w h0.1 h0.2 ⟨ha, by omega⟩ ⟨hb, by omega⟩ hi hE M1 M2 M3
    · exact show_2o op a b imm (letB op) _ (by omega) w h0.1 h0.2 ⟨ha, by omega⟩ ⟨hb, by omega⟩ hi hE M1 M2 M3
    · exact show_0n op a b imm (letB op) _ (by omega) w h0.1 h0.2 ⟨ha, by omega⟩ ⟨hb, by omega⟩ hi hE M1 M2 M3
    · exact show_1n op a b imm (letB op) _ (by omega) w h0.1 h0.2 ⟨ha, by omega⟩ ⟨hb, by omega⟩ hi hE M1 M2 M3
    · exact show_2n op a b imm (letB op) _ (by omega) w h0.1 h0.2 ⟨ha, by omega⟩ ⟨hb, by omega⟩ hi hE M1 M2 M3
    · exact show_0n op a b imm (letB op) _ (by omega) w h0.1 h0.2 ⟨ha, by omega⟩ ⟨hb, by omega⟩ hi hE M1 M2 M3
    · exact show_0n op a b imm (letB op) _ (by omega) w h0.1 h0.2 ⟨ha, by omega⟩ ⟨hb, by omega⟩ hi hE M1 M2 M3
    · exact show_1n op a b imm (letB op) _ (by omega) w h0.1 h0.2 ⟨ha, by omega⟩ ⟨hb, by omega⟩ hi hE M1 M2 M3

theorem works_show : showS 17 1 2 0 = #[97, 100, 100, 32, 114, 49, 32, 114, 50] := by decide +kernel

set_option maxHeartbeats 1000000 in
theorem works_any (w : World) (hE : Env w) :
    Calls Tryd.prog 10 #[] w fun e w' => e = .returned (.bool true) ∧ Kep w w' := by
  have HS : Hid (Calls Tryd.prog 8 #[.agg (insA 17 1 2 0)] w fun e w' => e = .returned (.string ⟨#[97, 100, 100, 32, 114, 49, 32, 114, 50]⟩) ∧ Kep w w') := works_show ▸ show_any 17 1 2 0 w (by decide) (by decide) (by decide) (by decide) hE
  clear hE
  go_enter Tryd.func10, Tryd.ntmps10
  go_wp2_with fail
  refine Calls.mono HS.out ?_
  rintro e w1 ⟨rfl, g1⟩
  have G1 : Hid (Kep w w1) := g1
  clear g1 HS
  go_wp2_with fail
  go_ret
  exact ⟨rfl, G1.out⟩
end Go.Proofs.YthmbajehcffnbaaDoor
