/- The document's Do (layer 9), whatever the instruction. -/
import Derived.Test.YtaifildofgeonaaDoorRn0
import Derived.Test.YtaifildofgeonaaDoorRn1
import Derived.Test.YtaifildofgeonaaDoorRn2
import Derived.Test.YtaifildofgeonaaDoorRn3
import Derived.Test.YtaifildofgeonaaDoorRn96
import Derived.Test.YtaifildofgeonaaDoorRn97
import Derived.Test.YtaifildofgeonaaDoorRn98
import Derived.Test.YtaifildofgeonaaDoorRn99
import Derived.Test.YtaifildofgeonaaDoorRn100
import Derived.Test.YtaifildofgeonaaDoorRn101
import Derived.Test.YtaifildofgeonaaDoorRnno
import Derived.Test.YtaifildofgeonaaDoorNdo
namespace Go.Proofs.YtaifildofgeonaaDoor
open Go.RowKit
set_option linter.unusedVariables false
set_option linter.unusedSimpArgs false

theorem reg_reg (s : Sta) (a : Nat) (x y : Int) : (s.reg a x).reg a y = s.reg a y := by
  have : up (up s.r a x) a y = up s.r a y := by
    funext n; unfold up; by_cases h : n = a
    · rw [if_pos h, if_pos h]
    · rw [if_neg h, if_neg h, if_neg h]
  show { s with r := up (up s.r a x) a y } = _
  rw [this]; rfl
theorem rdo9_any (s : Sta) (op : Int) (a b : Nat) (imm n : Int) (w : World) (ok : s.Ok) (h0 : 0 ≤ op) (h1 : op < 256) (h2 : -2147483648 ≤ imm) (h3 : imm ≤ 2147483647) :
    Calls Tryd.prog 10 #[.agg s.v, .agg (insA op a b imm), .int .u32 n] w fun e w' => e = .returned (.tuple #[.agg (sdoS s op a b imm n).v, .agg (sdoE s op a b imm).v]) ∧ Kep w w' := by
  cases hm : mayB (rowOf op false) a b imm with
  | false =>
    have hi : isS op a b imm = false := by unfold isS; rw [hm]; rfl
    have eS : sdoS s op a b imm n = s := by unfold sdoS; rw [if_pos hi]
    have eE : sdoE s op a b imm = e0 1 := by unfold sdoE; rw [if_pos hi]
    rw [eS, eE]
    exact r9_may s op a b imm n w ok h0 h1 h2 h3 hm
  | true =>
    cases hs : isSen op with
    | false =>
      have hi : isS op a b imm = false := by unfold isS; rw [hs, Bool.and_false]
      have eS : sdoS s op a b imm n = s := by unfold sdoS; rw [if_pos hi]
      have eE : sdoE s op a b imm = e0 1 := by unfold sdoE; rw [if_pos hi]
      rw [eS, eE]
      exact r9_none s op a b imm n w ok h0 h1 h2 h3 hm hs
    | true =>
      have hi : ¬ isS op a b imm = false := by unfold isS; rw [hm, hs]; decide
      obtain ⟨ha, hb⟩ := may_eight (rowOf op false) (rowOf_lt op false) a b imm hm
      have ha' : a < 8 := by omega
      have hb' : b < 8 := by omega
      cases hu : usr s with
      | true =>
        have huT : usr (nextS s op) = true := hu
        cases hf : forb op with
        | true =>
          have eS : sdoS s op a b imm n = s := by unfold sdoS; rw [if_neg hi, if_pos (by rw [hu, hf]; rfl)]
          have eE : sdoE s op a b imm = e0 2 := by unfold sdoE; rw [if_neg hi, if_pos (by rw [hu, hf]; rfl)]
          rw [eS, eE]
          have hc : op = 1 ∨ op = 99 ∨ op = 100 ∨ op = 101 := by
            unfold forb at hf
            simp only [Bool.or_eq_true, beq_iff_eq] at hf
            omega
          rcases hc with hc | hc | hc | hc
          · exact r9_1_no s op a b imm n w ok h0 h1 h2 h3 hm hs hu hc ha' hb'
          · exact r9_99_no s op a b imm n w ok h0 h1 h2 h3 hm hs hu hc ha' hb'
          · exact r9_100_no s op a b imm n w ok h0 h1 h2 h3 hm hs hu hc ha' hb'
          · exact r9_101_no s op a b imm n w ok h0 h1 h2 h3 hm hs hu hc ha' hb'
        | false =>
          have eS : sdoS s op a b imm n = senS (nextS s op) op a b n := by unfold sdoS; rw [if_neg hi, if_neg (by rw [hu, hf]; decide)]
          have eE : sdoE s op a b imm = senE (nextS s op) op a b := by unfold sdoE; rw [if_neg hi, if_neg (by rw [hu, hf]; decide)]
          rw [eS, eE]
          have hc : op = 2 ∨ op = 3 ∨ op = 96 ∨ op = 97 ∨ op = 98 := by
            have := sen_cases hs
            unfold forb at hf
            simp only [Bool.or_eq_false_iff, beq_eq_false_iff_ne] at hf
            omega
          rcases hc with hc | hc | hc | hc | hc
          · rw [show senS (nextS s op) op a b n = nextS s op by unfold senS; rw [huT]; simp [hc], show senE (nextS s op) op a b = e0 0 by simp [senE, hc]]
            exact r9_2_u s op a b imm n w ok h0 h1 h2 h3 hm hs hu hc ha' hb'
          · rw [show senS (nextS s op) op a b n = nextS s op by simp [senS, hc], show senE (nextS s op) op a b = e0 0 by unfold senE; rw [huT]; simp [e0, hc]]
            exact r9_3_u s op a b imm n w ok h0 h1 h2 h3 hm hs hu hc ha' hb'
          · rw [show senS (nextS s op) op a b n = (nextS s op).reg a s.ps by simp [senS, hc]; rfl, show senE (nextS s op) op a b = e0 0 by simp [senE, hc]]
            exact r9_96_u s op a b imm n w ok h0 h1 h2 h3 hm hs hu hc ha' hb'
          · rw [show senS (nextS s op) op a b n = (nextS s op).mark (flgI s.ps (s.r a / 16 % 16 * 16)) by unfold senS; rw [huT]; simp [hc]; rfl, show senE (nextS s op) op a b = e0 0 by simp [senE, hc]]
            exact r9_97_u s op a b imm n w ok h0 h1 h2 h3 hm hs hu hc ha' hb'
          · rw [show senS (nextS s op) op a b n = (nextS s op).reg a 0 by unfold senS; rw [huT]; simp [hc], show senE (nextS s op) op a b = e0 0 by simp [senE, hc]]
            exact r9_98_u s op a b imm n w ok h0 h1 h2 h3 hm hs hu hc ha' hb'
      | false =>
        have huT : usr (nextS s op) = false := hu
        have eS : sdoS s op a b imm n = senS (nextS s op) op a b n := by unfold sdoS; rw [if_neg hi, if_neg (by rw [hu]; simp)]
        have eE : sdoE s op a b imm = senE (nextS s op) op a b := by unfold sdoE; rw [if_neg hi, if_neg (by rw [hu]; simp)]
        rw [eS, eE]
        rcases sen_cases hs with hc | hc | hc | hc | hc | hc | hc | hc | hc
        · rw [show senS (nextS s op) op a b n = (nextS s op).halt by simp [senS, hc], show senE (nextS s op) op a b = e0 0 by simp [senE, hc]]
          exact r9_1_s s op a b imm n w ok h0 h1 h2 h3 hm hs hu hc ha' hb'
        · rw [show senS (nextS s op) op a b n = ((nextS s op).go (s.c 2)).mark (mskI (s.c 3)) by unfold senS; rw [huT]; simp [hc]; rfl, show senE (nextS s op) op a b = e0 0 by simp [senE, hc]]
          exact r9_2_s s op a b imm n w ok h0 h1 h2 h3 hm hs hu hc ha' hb'
        · rw [show senS (nextS s op) op a b n = nextS s op by simp [senS, hc], show senE (nextS s op) op a b = { e0 0 with f := true } by unfold senE; rw [huT]; simp [e0, hc]]
          exact r9_3_s s op a b imm n w ok h0 h1 h2 h3 hm hs hu hc ha' hb'
        · rw [show senS (nextS s op) op a b n = (nextS s op).reg a s.ps by simp [senS, hc]; rfl, show senE (nextS s op) op a b = e0 0 by simp [senE, hc]]
          exact r9_96_s s op a b imm n w ok h0 h1 h2 h3 hm hs hu hc ha' hb'
        · rw [show senS (nextS s op) op a b n = (nextS s op).mark (mskI (s.r a)) by unfold senS; rw [huT]; simp [hc]; rfl, show senE (nextS s op) op a b = e0 0 by simp [senE, hc]]
          exact r9_97_s s op a b imm n w ok h0 h1 h2 h3 hm hs hu hc ha' hb'
        · rw [show senS (nextS s op) op a b n = ((nextS s op).reg a 0).reg a (s.c b) by rw [reg_reg]; unfold senS; rw [huT]; simp [hc]; rfl, show senE (nextS s op) op a b = e0 0 by simp [senE, hc]]
          exact r9_98_s s op a b imm n w ok h0 h1 h2 h3 hm hs hu hc ha' hb'
        · rw [show senS (nextS s op) op a b n = (nextS s op).ctl b (s.r a) by simp [senS, hc]; rfl, show senE (nextS s op) op a b = { e0 0 with f := ((b : Int) == 0) } by simp [senE, e0, hc]]
          exact r9_99_s s op a b imm n w ok h0 h1 h2 h3 hm hs hu hc ha' hb'
        · rw [show senS (nextS s op) op a b n = (nextS s op).reg a n by simp [senS, hc], show senE (nextS s op) op a b = e0 0 by simp [senE, hc]]
          exact r9_100_s s op a b imm n w ok h0 h1 h2 h3 hm hs hu hc ha' hb'
        · rw [show senS (nextS s op) op a b n = nextS s op by simp [senS, hc], show senE (nextS s op) op a b = { e0 0 with o := true, p := b, x := s.r a } by simp [senE, e0, hc]; rfl]
          exact r9_101_s s op a b imm n w ok h0 h1 h2 h3 hm hs hu hc ha' hb'
end Go.Proofs.YtaifildofgeonaaDoor
