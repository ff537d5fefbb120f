/- A register's word, and the digits of a number, as the code reads them. -/
import Derived.Test.YthmbajehcffnbaaDoorTpure
namespace Go.Proofs.YthmbajehcffnbaaDoor
open Go.RowKit
set_option linter.unusedVariables false

theorem u8_lt (x : UInt8) : 0 ≤ (x.toNat : Int) ∧ (x.toNat : Int) < 256 := by have := x.toNat_lt; omega
set_option maxHeartbeats 1000000 in
theorem reg_two (p d l : UInt8) (w : World) :
    Calls Tryd.prog 26 #[.string ⟨#[p, d]⟩, .int .u8 l.toNat] w fun e w' => e = .returned (.tuple #[.int .u8 ((regL [p, d] l).getD 0), .bool (regL [p, d] l).isSome]) ∧ w' = w := by
  have hp := u8_lt p
  have hd := u8_lt d
  obtain ⟨P, hP⟩ : ∃ P : Int, Hid (P = p.toNat) := ⟨_, rfl⟩
  obtain ⟨D, hD⟩ : ∃ D : Int, Hid (D = d.toNat) := ⟨_, rfl⟩
  obtain ⟨L, hL⟩ : ∃ L : Int, Hid (L = l.toNat) := ⟨_, rfl⟩
  have i0 : ∀ w, (Instr.index 9 (.string ⟨#[p, d]⟩) (.int .i64 0)).run Tryd.prog w = .ok (.int .u8 P) w := fun w => by rw [hP.out, run_index_string w 9 _ _ _ Tryd.underlying9]; rfl
  have i1 : ∀ w, (Instr.index 9 (.string ⟨#[p, d]⟩) (.int .i64 1)).run Tryd.prog w = .ok (.int .u8 D) w := fun w => by rw [hD.out, run_index_string w 9 _ _ _ Tryd.underlying9]; rfl
  rw [← hP.out] at hp
  rw [← hD.out] at hd
  rw [← hL.out]
  have hR : Hid (regL [p, d] l = if P = L ∧ 48 ≤ D ∧ D ≤ 55 then some (D - 48) else none) := by
    unfold Hid
    rw [hP.out, hL.out, hD.out]
    simp only [regL]
    by_cases h : p = l ∧ 48 ≤ d.toNat ∧ d.toNat ≤ 55
    · rw [if_pos h, if_pos ⟨by rw [h.1], by omega, by omega⟩]
    · rw [if_neg h, if_neg]
      rintro ⟨h1, h2, h3⟩
      exact h ⟨UInt8.toNat_inj.1 (by omega), by omega, by omega⟩
  by_cases h1 : P = L
  · by_cases h2 : 48 ≤ D
    · by_cases h3 : D ≤ 55
      · go_enter Tryd.func26, Tryd.ntmps26
        go_wp2_with fail
        go_ret2
        exact ⟨by rw [hR.out, if_pos ⟨h1, h2, h3⟩]; rfl, rfl⟩
      · have h3' : 55 < D := by omega
        go_enter Tryd.func26, Tryd.ntmps26
        go_wp2_with fail
        go_ret2
        exact ⟨by rw [hR.out, if_neg (fun h => by omega)]; rfl, rfl⟩
    · have h2' : D < 48 := by omega
      go_enter Tryd.func26, Tryd.ntmps26
      go_wp2_with fail
      go_ret2
      exact ⟨by rw [hR.out, if_neg (fun h => by omega)]; rfl, rfl⟩
  · go_enter Tryd.func26, Tryd.ntmps26
    go_wp2_with fail
    go_ret2
    exact ⟨by rw [hR.out, if_neg (fun h => h1 h.1)]; rfl, rfl⟩

set_option maxHeartbeats 1000000 in
theorem reg_no (x : Array UInt8) (l : Int) (w : World) (h : (x.size : Int) ≠ 2) :
    Calls Tryd.prog 26 #[.string ⟨x⟩, .int .u8 l] w fun e w' => e = .returned (.tuple #[.int .u8 0, .bool false]) ∧ w' = w := by
  go_enter Tryd.func26, Tryd.ntmps26
  have hz : (⟨x⟩ : ByteArray).size = x.size := rfl
  go_wp2_with fail
  go_ret2
  exact ⟨rfl, rfl⟩
theorem register_any (x : List UInt8) (l : UInt8) (w : World) :
    Calls Tryd.prog 26 #[.string ⟨x.toArray⟩, .int .u8 l.toNat] w fun e w' => e = .returned (.tuple #[.int .u8 ((regL x l).getD 0), .bool (regL x l).isSome]) ∧ w' = w := by
  rcases x with _ | ⟨p, _ | ⟨d, _ | ⟨c, x⟩⟩⟩
  · exact reg_no _ _ w (by simp)
  · exact reg_no _ _ w (by simp)
  · exact reg_two p d l w
  · exact reg_no _ _ w (by simp; omega)
end Go.Proofs.YthmbajehcffnbaaDoor
