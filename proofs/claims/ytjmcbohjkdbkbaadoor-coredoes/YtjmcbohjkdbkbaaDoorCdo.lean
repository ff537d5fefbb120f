/- Do: whatever the instruction. -/
import Derived.Test.YtjmcbohjkdbkbaaDoorCdo1
import Derived.Test.YtjmcbohjkdbkbaaDoorCdo2
import Derived.Test.YtjmcbohjkdbkbaaDoorCdo3
import Derived.Test.YtjmcbohjkdbkbaaDoorCdo4
import Derived.Test.YtjmcbohjkdbkbaaDoorCdo5
namespace Go.Proofs.YtjmcbohjkdbkbaaDoor
open Go.RowKit
set_option linter.unusedVariables false
set_option linter.unusedSimpArgs false

theorem next_ok {s : Sta} (ok : s.Ok) (op : Int) : (nextS s op).Ok := ok.go _ (by omega) (by omega)
theorem workF_zero (s : Sta) (op : Int) (a b : Nat) (imm : Int) : (workF s op a b imm).1 = 0 → (workF s op a b imm).2 = 0 := by
  unfold workF wantF
  repeat' split
  all_goals first
    | (intro _; rfl)
    | (intro h; exact absurd h (show (3 : Int) ≠ 0 by decide))
    | (intro h; exact absurd h (show (4 : Int) ≠ 0 by decide))
    | (intro h; exact absurd h (show (8 : Int) ≠ 0 by decide))
theorem do_any (s : Sta) (op : Int) (a b : Nat) (imm v : Int) (w : World) (ok : s.Ok) (h0 : 0 ≤ op) (h1 : op < 256) (h2 : -2147483648 ≤ imm) (h3 : imm ≤ 2147483647) (hv : 0 ≤ v ∧ v < 4294967296) (hT : Tabs w) :
    Calls Tryd.prog 12 #[.agg s.v, .agg (insA op a b imm), .int .u32 v] w fun e w' => e = .returned (.tuple #[.agg (doS s op a b imm v).v, .agg (fltV (doF s op a b imm))]) ∧ Kep w w' := by
  cases e : isIns op a b imm with
  | false =>
    have eF : doF s op a b imm = (1, s.pc) := by unfold doF; rw [e]; rfl
    have eS : doS s op a b imm v = s := by unfold doS; rw [eF]; exact if_neg (show ¬ (1 : Int) = 0 by decide)
    rw [eF, eS]
    exact do_none s op a b imm v w ok h0 h1 h2 h3 e hT
  | true =>
    have eF : doF s op a b imm = workF (nextS s op) op a b imm := by unfold doF; rw [e]; rfl
    have S0 : (workF (nextS s op) op a b imm).1 = 0 → doS s op a b imm v = workS (nextS s op) op a b imm v := fun h => by unfold doS; rw [eF, if_pos h]
    have S1 : (workF (nextS s op) op a b imm).1 ≠ 0 → doS s op a b imm v = s := fun h => by unfold doS; rw [eF, if_neg h]
    rw [eF]
    have okn := next_ok ok op
    have e' := e
    unfold isIns at e'
    simp only [Bool.and_eq_true, bne_iff_ne, ne_eq] at e'
    obtain ⟨ha, hb⟩ := may_reg op false a b imm e'.1
    have Hz := workF_zero (nextS s op) op a b imm
    rcases cls_cases op e'.2 with rfl | hc | hc | hc | rfl
    · refine do_1 s 0 a b imm v w ok h0 h1 h2 h3 _ _ rfl e hT ?_ _ S0 S1 Hz
      intro p w hA hT
      refine (idle_any _ _ _ _ _ _ w).mono ?_
      rintro x w' ⟨rfl, K⟩
      exact ⟨rfl, Put.of_kep K, fun _ => hA.kep K⟩
    · have ec : cls op = 2 := by unfold cls; rw [if_neg (show ¬ op = 0 by omega), if_pos hc]
      have ek : workK op = 46 := by unfold workK; rw [ec]; rfl
      have eW : workF (nextS s op) op a b imm = if aluIs op (secN (nextS s op) op b imm) then (0, 0) else (3, 0) := by unfold workF; rw [ec]; rfl
      have eR : workS (nextS s op) op a b imm v = reckS (nextS s op) op a b imm := by unfold workS; rw [ec]; rfl
      refine do_2 s op a b imm v w ok h0 h1 h2 h3 _ _ ek e hT ?_ _ S0 S1 Hz
      intro p w hA hT
      rw [eW, eR]
      by_cases h25 : op = 25
      · subst h25
        refine (reck_div _ a b imm v p w hA okn (by omega) (by omega) h2 h3).mono ?_
        rintro x w' ⟨rfl, P, h⟩
        refine ⟨rfl, P, fun hq => h ?_⟩
        cases hi : aluIs 25 (secN (nextS s 25) 25 b imm) with
        | true => rfl
        | false => rw [hi] at hq; exact absurd hq (show ¬ (3 : Int) = 0 by decide)
      by_cases h30 : op = 30
      · subst h30
        refine (reck_rem _ a b imm v p w hA okn (by omega) (by omega) h2 h3).mono ?_
        rintro x w' ⟨rfl, P, h⟩
        refine ⟨rfl, P, fun hq => h ?_⟩
        cases hi : aluIs 30 (secN (nextS s 30) 30 b imm) with
        | true => rfl
        | false => rw [hi] at hq; exact absurd hq (show ¬ (3 : Int) = 0 by decide)
      have hi : aluIs op (secN (nextS s op) op b imm) = true := by unfold aluIs; rw [ne_lit h25, ne_lit h30]; rfl
      rw [hi]
      refine (reck_alw _ op a b imm v p w hA okn (by omega) (by omega) h2 h3 ⟨hc.1, hc.2, h25, h30⟩).mono ?_
      rintro x w' ⟨rfl, P, h⟩
      exact ⟨rfl, P, fun _ => h⟩
    · have ec : cls op = 3 := by unfold cls; rw [if_neg (show ¬ op = 0 by omega), if_neg (show ¬ (16 ≤ op ∧ op ≤ 33) by omega), if_pos hc]
      have ek : workK op = 47 := by unfold workK; rw [ec]; rfl
      have eW : workF (nextS s op) op a b imm = wantF (nextS s op) op a b imm := by unfold workF; rw [ec]; rfl
      have eR : workS (nextS s op) op a b imm v = movS (nextS s op) op a v := by unfold workS; rw [ec]; rfl
      refine do_3 s op a b imm v w ok h0 h1 h2 h3 _ _ ek e hT ?_ _ S0 S1 Hz
      intro p w hA hT
      rw [eW, eR]
      exact move_any _ op a b imm v p w hA okn hc (by omega) h2 h3 hv hT
    · have ec : cls op = 4 := by unfold cls; rw [if_neg (show ¬ op = 0 by omega), if_neg (show ¬ (16 ≤ op ∧ op ≤ 33) by omega), if_neg (show ¬ (48 ≤ op ∧ op ≤ 58) by omega), if_pos hc]
      have ek : workK op = 48 := by unfold workK; rw [ec]; rfl
      have eW : workF (nextS s op) op a b imm = (0, 0) := by unfold workF; rw [ec]; rfl
      have eR : workS (nextS s op) op a b imm v = jmpS (nextS s op) op a imm := by unfold workS; rw [ec]; rfl
      refine do_4 s op a b imm v w ok h0 h1 h2 h3 _ _ ek e hT ?_ _ S0 S1 Hz
      intro p w hA hT
      rw [eW, eR]
      refine (jump_any _ op a b imm v p w hA okn hc (by omega) h2 h3).mono ?_
      rintro x w' ⟨rfl, P, h⟩
      exact ⟨rfl, P, fun _ => h⟩
    · refine do_5 s 80 a b imm v w ok h0 h1 h2 h3 _ _ rfl e hT ?_ _ S0 S1 Hz
      intro p w hA hT
      refine (ask_any _ _ _ _ _ _ w h2 h3).mono ?_
      rintro x w' ⟨rfl, K⟩
      exact ⟨rfl, Put.of_kep K, fun _ => hA.kep K⟩
end Go.Proofs.YtjmcbohjkdbkbaaDoor
