/- The document's Do: whatever the instruction. -/
import Derived.Test.YtjmcbohjkdbkbaaDoorRdo0
import Derived.Test.YtjmcbohjkdbkbaaDoorRdo1
import Derived.Test.YtjmcbohjkdbkbaaDoorRdo2
import Derived.Test.YtjmcbohjkdbkbaaDoorRdo3
import Derived.Test.YtjmcbohjkdbkbaaDoorRdo4
import Derived.Test.YtjmcbohjkdbkbaaDoorRdo5
import Derived.Test.YtjmcbohjkdbkbaaDoorRdo6
import Derived.Test.YtjmcbohjkdbkbaaDoorRdo7
import Derived.Test.YtjmcbohjkdbkbaaDoorRdo8
import Derived.Test.YtjmcbohjkdbkbaaDoorRdo9
import Derived.Test.YtjmcbohjkdbkbaaDoorRdoA
import Derived.Test.YtjmcbohjkdbkbaaDoorRdoB
import Derived.Test.YtjmcbohjkdbkbaaDoorRdoC
import Derived.Test.YtjmcbohjkdbkbaaDoorRdoD
import Derived.Test.YtjmcbohjkdbkbaaDoorRdoE
import Derived.Test.YtjmcbohjkdbkbaaDoorCdo
namespace Go.Proofs.YtjmcbohjkdbkbaaDoor
open Go.RowKit
set_option linter.unusedVariables false
set_option linter.unusedSimpArgs false

theorem none_ops (op : Int) (a b imm : Int) (h0 : 0 ≤ op) (hm : mayB (rowOf op false) a b imm = true) (hc : cls op = 0) : (1 ≤ op ∧ op ≤ 3) ∨ 96 ≤ op := by
  have hr : rowOf op false ≠ 0 := by
    unfold mayB at hm
    simp only [Bool.and_eq_true, bne_iff_ne] at hm
    exact hm.1
  unfold cls at hc
  unfold rowOf at hr
  clear hm
  simp only [Bool.false_eq_true, and_false, or_false] at hr
  repeat' split at hc
  all_goals first | (exact absurd hc (by decide)) | skip
  repeat' split at hr
  all_goals first | omega | (exact absurd rfl hr) | (exfalso; assumption)

theorem rdo_any (s : Sta) (op : Int) (a b : Nat) (imm v : Int) (w : World) (ok : s.Ok) (h0 : 0 ≤ op) (h1 : op < 256) (h2 : -2147483648 ≤ imm) (h3 : imm ≤ 2147483647) (hv : 0 ≤ v ∧ v < 4294967296) :
    Calls Tryd.prog 13 #[.agg s.v, .agg (insA op a b imm), .int .u32 v] w fun e w' => e = .returned (.tuple #[.agg (doS s op a b imm v).v, .agg (fltV (doF s op a b imm))]) ∧ Kep w w' := by
  cases hm : mayB (rowOf op false) a b imm with
  | false =>
    have e : isIns op a b imm = false := by unfold isIns; rw [hm]; rfl
    have eF : doF s op a b imm = (1, s.pc) := by unfold doF; rw [e]; rfl
    have eS : doS s op a b imm v = s := by unfold doS; rw [eF]; exact if_neg (show ¬ (1 : Int) = 0 by decide)
    rw [eF, eS]
    exact rdo_none_may s op a b imm v w h0 h1 h2 h3 hm
  | true =>
    obtain ⟨ha, hb⟩ := may_reg op false a b imm hm
    have ha : (a : Int) < 8 := by omega
    have hb : (b : Int) < 8 := by omega
    by_cases hc0 : cls op = 0
    · have e : isIns op a b imm = false := by unfold isIns; rw [hm, hc0]; rfl
      have eF : doF s op a b imm = (1, s.pc) := by unfold doF; rw [e]; rfl
      have eS : doS s op a b imm v = s := by unfold doS; rw [eF]; exact if_neg (show ¬ (1 : Int) = 0 by decide)
      rw [eF, eS]
      rcases none_ops op a b imm h0 hm hc0 with hq | hq
      · exact rdo_none_low s op a b imm v w h0 h1 h2 h3 hm hq
      · exact rdo_none_high s op a b imm v w h0 h1 h2 h3 hm hq
    · have e : isIns op a b imm = true := by unfold isIns; rw [hm]; simp [hc0]
      have eF : doF s op a b imm = workF (nextS s op) op a b imm := by unfold doF; rw [e]; rfl
      have S0 : (workF (nextS s op) op a b imm).1 = 0 → doS s op a b imm v = workS (nextS s op) op a b imm v := fun h => by unfold doS; rw [eF, if_pos h]
      have S1 : (workF (nextS s op) op a b imm).1 ≠ 0 → doS s op a b imm v = s := fun h => by unfold doS; rw [eF, if_neg h]
      have Hz := workF_zero (nextS s op) op a b imm
      rw [eF]
      rcases cls_cases op hc0 with rfl | hc | hc | hc | rfl
      · have eW : workF (nextS s 0) 0 a b imm = (0, 0) := by unfold workF; rfl
        rw [S0 (by rw [eW]), eW, workS_nop]
        exact rdo_0 s a b imm v w ok ha hb h2 h3 hv hm
      · have ec : cls op = 2 := by unfold cls; rw [if_neg (show ¬ op = 0 by omega), if_pos hc]
        have eW : workF (nextS s op) op a b imm = if aluIs op (secN (nextS s op) op b imm) then (0, 0) else (3, 0) := by unfold workF; rw [ec]; rfl
        have eR := workS_alu (nextS s op) op a b imm v hc
        by_cases q16 : op = 16
        · subst q16
          have eI : workF (nextS s 16) 16 a b imm = (0, 0) := by rw [eW]; rfl
          rw [S0 (by rw [eI]), eI, eR]
          exact rdo_16 s a b imm v w ok ha hb h2 h3 hv hm
        by_cases q32 : op = 32
        · subst q32
          have eI : workF (nextS s 32) 32 a b imm = (0, 0) := by rw [eW]; rfl
          rw [S0 (by rw [eI]), eI, eR]
          exact rdo_32 s a b imm v w ok ha hb h2 h3 hv hm
        by_cases q33 : op = 33
        · subst q33
          have eI : workF (nextS s 33) 33 a b imm = (0, 0) := by rw [eW]; rfl
          rw [S0 (by rw [eI]), eI, eR]
          exact rdo_33 s a b imm v w ok ha hb h2 h3 hv hm
        have hop : 17 ≤ op ∧ op ≤ 31 := by omega
        have hs : secN (nextS s op) op b imm = s.r b := by unfold secN; exact if_neg (by omega)
        cases hi : aluIs op (s.r b) with
        | false =>
          have eI : workF (nextS s op) op a b imm = (3, 0) := by rw [eW, hs, hi]; rfl
          rw [S1 (by rw [eI]; decide), eI]
          have hq : (op = 25 ∨ op = 30) ∧ s.r b = 0 := by
            unfold aluIs at hi
            have hi' : (¬ op = 25 → op = 30) ∧ s.r b = 0 := by simpa using hi
            exact ⟨(Decidable.em (op = 25)).elim Or.inl (fun h => Or.inr (hi'.1 h)), hi'.2⟩
          exact rdo_alu_no s op a b imm v w ok ha hb h2 h3 hv hm hop hq.1 hq.2
        | true =>
          have eI : workF (nextS s op) op a b imm = (0, 0) := by rw [eW, hs, hi]; rfl
          rw [S0 (by rw [eI]), eI, eR]
          by_cases q26 : op = 26
          · subst q26
            exact rdo_alu_26 s a b imm v w ok ha hb h2 h3 hv hm
          by_cases q31 : op = 31
          · subst q31
            exact rdo_alu_31 s a b imm v w ok ha hb h2 h3 hv hm
          have hk : keepsB op = true := by unfold keepsB; simp [q26, q31]
          have ht : turnsB op = true := by unfold turnsB; simp [q16, q32]
          unfold reckS
          rw [hk, ht, hs]
          exact rdo_alu_put s op a b imm v w ok ha hb h2 h3 hv hm hop hi (by simp [q26]) (by simp [q31])
      · have ec : cls op = 3 := by unfold cls; rw [if_neg (by omega), if_neg (by omega), if_pos hc]
        have eW : workF (nextS s op) op a b imm = wantF s op a b imm := by unfold workF; rw [ec]; rfl
        by_cases hz : (wantF s op a b imm).1 = 0
        · have hq : wantF s op a b imm = (0, 0) := Prod.ext hz (by rw [← eW]; exact Hz (by rw [eW]; exact hz))
          rw [S0 (by rw [eW]; exact hz), eW, hq, workS_mem (nextS s op) op a b imm v hc]
          exact rdo_mem_ok s op a b imm v w ok ha hb h2 h3 hv hm hc hq
        · rw [S1 (by rw [eW]; exact hz), eW]
          exact rdo_mem_no s op a b imm v w ok ha hb h2 h3 hv hm hc (by simpa using hz)
      · have ec : cls op = 4 := by unfold cls; rw [if_neg (by omega), if_neg (by omega), if_neg (by omega), if_pos hc]
        have eW : workF (nextS s op) op a b imm = (0, 0) := by unfold workF; rw [ec]; rfl
        rw [S0 (by rw [eW]), eW, workS_jmp (nextS s op) op a b imm v hc]
        by_cases q72 : op = 72
        · subst q72
          exact rdo_72 s a b imm v w ok ha hb h2 h3 hv hm
        by_cases q73 : op = 73
        · subst q73
          exact rdo_73 s a b imm v w ok ha hb h2 h3 hv hm
        by_cases q74 : op = 74
        · subst q74
          exact rdo_74 s a b imm v w ok ha hb h2 h3 hv hm
        have hop : 64 ≤ op ∧ op ≤ 71 := by omega
        have eg : jgoes op (nextS s op).ps = holdsB (op - 64) s.ps := by
          unfold jgoes; rw [if_neg (by omega), if_neg (by omega)]; rfl
        have et : jto (nextS s op) op a imm = ((nextS s op).pc + imm % 4294967296) % 4294967296 := by
          unfold jto; rw [if_neg (by omega)]
        unfold jmpS
        rw [eg]
        cases hh : holdsB (op - 64) s.ps with
        | true =>
          rw [if_pos rfl]
          unfold linkS
          rw [if_neg (by omega), et]
          exact rdo_jcc_true s op a b imm v w ok ha hb h2 h3 hv hm hop hh
        | false =>
          rw [if_neg (by decide)]
          exact rdo_jcc_false s op a b imm v w ok ha hb h2 h3 hv hm hop hh
      · have eW : workF (nextS s 80) 80 a b imm = (8, imm % 4294967296) := by unfold workF; rfl
        rw [S1 (by rw [eW]; show ¬ (8 : Int) = 0; decide), eW]
        exact rdo_80 s a b imm v w ok ha hb h2 h3 hv hm
end Go.Proofs.YtjmcbohjkdbkbaaDoor
