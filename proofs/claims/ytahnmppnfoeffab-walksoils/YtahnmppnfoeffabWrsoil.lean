/- The document's Soil. -/
import Derived.Test.YtahnmppnfoeffabWsoil
import Derived.Test.YtahnmppnfoeffabWrlook
namespace Go.Proofs.Ytahnmppnfoeffab
open Go.RowKit
set_option linter.unusedVariables false

set_option maxHeartbeats 4000000 in
set_option maxRecDepth 100000 in
theorem rsoil_any {w : World} {x : Option Addr} {Rb n : Nat} {B : List Int} (h : Refd w x Rb B) (hb : Byts B) (hl : B.length = 64 * n) (a : Nat) (ha : (a : Int) < 4294967296) :
    Calls Try.prog 10 #[refV x (64 * n), .int .u32 a] w fun e w' => e = .returned (.bool (soilOk B (List.range n) a)) ∧ Put [Rb] w w' ∧ RowB w' Rb (soilL B (List.range n) a) := by
  have hW : Hid (∀ o, Calls Try.prog 25 #[.agg #[.slice x (64 * n) (64 * n)], .int .u32 a] (w.alloc o) fun e w' => e = .returned (.tuple (wdR (wdF B (List.range n) a))) ∧ Kep (w.alloc o) w') := by
    intro o
    have := refWord_any (w.alloc o) x Rb B (h.kep ((Kep.refl _).alloc o)) hb (by omega) a ha
    rw [hl] at this
    refine this.mono ?_
    rintro e w' ⟨rfl, k⟩
    refine ⟨?_, k⟩
    unfold wdF
    rw [List.length_range]
    by_cases hc : a % 4 = 0 ∧ a < 64 * n
    · have := wordAt_range hb a
      rw [if_pos hc, if_pos hc, pos_range hc.2]
      simp only [wdR]
      rw [Int.toNat_of_nonneg this.1]
    · rw [if_neg hc, if_neg hc]; rfl
  have hr0 : Hid (Refd w x Rb B) := h
  have h' : Hid (RowB w Rb B) := h.row
  unfold soilOk soilL
  rcases hu : wdF B (List.range n) a with _ | u
  · rw [hu] at hW
    have hW' : Hid (∀ o, Calls Try.prog 25 #[.agg #[.slice x (64 * n) (64 * n)], .int .u32 a] (w.alloc o) fun e w' => e = .returned (.tuple #[.int .u32 0, .bool false]) ∧ Kep (w.alloc o) w') := hW
    clear hW hu h ha hl hb
    go_enter Try.func10, Try.ntmps10
    go_wp2_with fail
    refine (hW'.out _).mono ?_
    rintro e w1 ⟨rfl, k1⟩
    have K1 : Hid (Kep w w1) := kep_trans ((Kep.refl _).alloc _) k1
    clear k1
    go_wp2_with fail
    go_ret
    exact ⟨rfl, Put.of_kep K1.out, h'.out.kep K1.out⟩
  · rw [hu] at hW
    have hW' : Hid (∀ o, Calls Try.prog 25 #[.agg #[.slice x (64 * n) (64 * n)], .int .u32 a] (w.alloc o) fun e w' => e = .returned (.tuple #[.int .u32 u, .bool true]) ∧ Kep (w.alloc o) w') := hW
    have hlt := wdF_lt hb a u hu
    have hok : a % 4 = 0 ∧ a < 64 * (List.range n).length := by
      unfold wdF at hu
      split at hu
      · assumption
      · cases hu
    rw [List.length_range] at hok
    have hH : Hid (∀ w, Calls Try.prog 26 #[.int .u32 u, .int .u32 16] w fun e w' => e = .returned (.bool (u / 16 % 2 == 1)) ∧ w' = w) := fun w => rhas_any w u 16 (by omega) (by decide) (by decide)
    by_cases hd : u / 16 % 2 = 0
    · have e3 : soilW (some u) = some (u + 16) := by unfold soilW; simp [hd]
      rw [e3]
      have e1 : (u / 16 % 2 == 1) = false := by rw [hd]; rfl
      rw [e1] at hH
      have hS : Hid (∀ w', Kep w w' → Calls Try.prog 17 #[.agg #[.slice x (64 * n) (64 * n)], .int .u32 a, .int .u32 ((u : Int) + 16)] w' fun e w'' => e = .returned (.bool true) ∧ Put [Rb] w' w'' ∧ RowB w'' Rb (setW B (pos (List.range n) a) ((u + 16 : Nat) : Int))) := by
        intro w' k
        have := refSetWord_any w' x Rb B (hr0.out.kep k) (by omega) a ha ((u : Int) + 16) (by omega) (by omega)
        rw [hl, if_pos hok, decide_eq_true hok] at this
        rw [pos_range hok.2]
        exact this
      generalize hC0 : setW B (pos (List.range n) a) ((u + 16 : Nat) : Int) = C at hS
      have hC : Hid (setW B (pos (List.range n) a) ((u + 16 : Nat) : Int) = C) := hC0
      clear hC0
      have hu2 : (u : Int) < 4294967280 := by omega
      clear hW hu h hlt hok e3 e1 hd ha hl hb
      go_enter Try.func10, Try.ntmps10
      go_wp2_with fail
      refine (hW'.out _).mono ?_
      rintro e w1 ⟨rfl, k1⟩
      have K1 : Hid (Kep w w1) := kep_trans ((Kep.refl _).alloc _) k1
      have c1 : w1.cell? ⟨w.heap.size, 0, none⟩ = some (.slice x (64 * n) (64 * n)) := cell_of_block (k1.block (hat _ _ _ rfl))
      clear k1
      go_wp2_with fail
      refine (hH.out _).mono ?_
      rintro e w2 ⟨rfl, hw2⟩
      subst hw2
      go_wp2_with fail
      refine (hS.out _ K1.out).mono ?_
      rintro e w3 ⟨rfl, P3, R3⟩
      have P3' : Hid (Put [Rb] w w3 ∧ RowB w3 Rb C) := ⟨(Put.of_kep K1.out).trans P3, R3⟩
      clear P3 R3
      go_wp2_with fail
      go_ret
      refine ⟨rfl, P3'.out.1, ?_⟩
      show RowB w3 Rb (setW B (pos (List.range n) a) ((u + 16 : Nat) : Int))
      rw [hC.out]
      exact P3'.out.2
    · have e3 : soilW (some u) = none := by unfold soilW; simp [hd]
      rw [e3]
      have e1 : (u / 16 % 2 == 1) = true := by simp; omega
      rw [e1] at hH
      clear hW hu h hlt hok e3 e1 hd ha hl hb
      go_enter Try.func10, Try.ntmps10
      go_wp2_with fail
      refine (hW'.out _).mono ?_
      rintro e w1 ⟨rfl, k1⟩
      have K1 : Hid (Kep w w1) := kep_trans ((Kep.refl _).alloc _) k1
      clear k1
      go_wp2_with fail
      refine (hH.out _).mono ?_
      rintro e w2 ⟨rfl, hw2⟩
      subst hw2
      go_wp2_with fail
      go_ret
      exact ⟨rfl, Put.of_kep K1.out, h'.out.kep K1.out⟩
end Go.Proofs.Ytahnmppnfoeffab
