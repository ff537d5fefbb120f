/- Do, whatever the instruction. -/
import Derived.Test.YtaknjceneplonaaDoorNdo1
namespace Go.Proofs.YtaknjceneplonaaDoor
open Go.RowKit
set_option linter.unusedVariables false
set_option linter.unusedSimpArgs false

theorem may_eight (r : Nat) (hr : r < 10) (a b imm : Int) (hm : mayB r a b imm = true) : a ≤ 7 ∧ b ≤ 7 := by
  refine ten (p := fun r => mayB r a b imm = true → a ≤ 7 ∧ b ≤ 7) r hr ?_ ?_ ?_ ?_ ?_ ?_ ?_ ?_ ?_ ?_ hm
  all_goals
    intro h
    simp [mayB, formA, f0, f1, f2, f3, f4] at h
    try omega
theorem next9_ok {s : Sta} (ok : s.Ok) (op : Int) : (nextS s op).Ok := ok.go _ (by omega) (by omega)
theorem enter_any (k : Nat) (hk : k = 21 ∨ k = 22 ∨ k = 23 ∨ k = 24 ∨ k = 25 ∨ k = 26 ∨ k = 27 ∨ k = 28 ∨ k = 29) (args : Array Value) (w : World) :
    (callFunc k args).run Tryd.prog w = .ok (.enter k args) w := by
  rcases hk with rfl | rfl | rfl | rfl | rfl | rfl | rfl | rfl | rfl <;> kernel_rfl

theorem sdo_any (s : Sta) (op : Int) (a b : Nat) (imm n : Int) (w : World) (ok : s.Ok) (h0 : 0 ≤ op) (h1 : op < 256) (h2 : -2147483648 ≤ imm) (h3 : imm ≤ 2147483647) (hT : Tabs w) :
    Calls Tryd.prog 10 #[.agg s.v, .agg (insA op a b imm), .int .u32 n] w fun e w' => e = .returned (.tuple #[.agg (sdoS s op a b imm n).v, .agg (sdoE s op a b imm).v]) ∧ Kep w w' := by
  cases hm : mayB (rowOf op false) a b imm with
  | false =>
    have hi : isS op a b imm = false := by unfold isS; rw [hm]; rfl
    have eS : sdoS s op a b imm n = s := by unfold sdoS; rw [if_pos hi]
    have eE : sdoE s op a b imm = e0 1 := by unfold sdoE; rw [if_pos hi]
    rw [eS, eE]
    exact do_may s op a b imm n w ok h0 h1 h2 h3 hm hT
  | true =>
    cases hs : isSen op with
    | false =>
      have hi : isS op a b imm = false := by unfold isS; rw [hs, Bool.and_false]
      have eS : sdoS s op a b imm n = s := by unfold sdoS; rw [if_pos hi]
      have eE : sdoE s op a b imm = e0 1 := by unfold sdoE; rw [if_pos hi]
      rw [eS, eE]
      exact do_none s op a b imm n w ok h0 h1 h2 h3 hm hT hs
    | true =>
      have hi : ¬ isS op a b imm = false := by unfold isS; rw [hm, hs]; decide
      obtain ⟨ha, hb⟩ := may_eight (rowOf op false) (rowOf_lt op false) a b imm hm
      have ha' : a < 8 := by omega
      have hb' : b < 8 := by omega
      have okT := next9_ok ok op
      cases hu : usr s with
      | true =>
        have huT : usr (nextS s op) = true := hu
        cases hf : forb op with
        | true =>
          have eS : sdoS s op a b imm n = s := by unfold sdoS; rw [if_neg hi, if_pos (by rw [hu, hf]; rfl)]
          have eE : sdoE s op a b imm = e0 2 := by unfold sdoE; rw [if_neg hi, if_pos (by rw [hu, hf]; rfl)]
          rw [eS, eE]
          have hc : op = 1 ∨ op = 99 ∨ op = 100 ∨ op = 101 := by
            unfold forb at hf
            simp only [Bool.or_eq_true, beq_iff_eq] at hf
            omega
          rcases hc with rfl | rfl | rfl | rfl
          · exact do_gave s _ a b imm n w ok h0 h1 h2 h3 hm hT 21 rfl hs fun w p h => gave _ (enter_any _ (by simp)) (fun w h => halt_no okT h huT) h
          · exact do_gave s _ a b imm n w ok h0 h1 h2 h3 hm hT 27 rfl hs fun w p h => gave _ (enter_any _ (by simp)) (fun w h => writeControl_no okT h huT) h
          · exact do_gave s _ a b imm n w ok h0 h1 h2 h3 hm hT 28 rfl hs fun w p h => gave _ (enter_any _ (by simp)) (fun w h => takeIn_no okT h huT) h
          · exact do_gave s _ a b imm n w ok h0 h1 h2 h3 hm hT 29 rfl hs fun w p h => gave _ (enter_any _ (by simp)) (fun w h => sendOut_no okT h huT) h
        | false =>
          have eS : sdoS s op a b imm n = senS (nextS s op) op a b n := by unfold sdoS; rw [if_neg hi, if_neg (by rw [hu, hf]; decide)]
          have eE : sdoE s op a b imm = senE (nextS s op) op a b := by unfold sdoE; rw [if_neg hi, if_neg (by rw [hu, hf]; decide)]
          rw [eS, eE]
          have hc : op = 2 ∨ op = 3 ∨ op = 96 ∨ op = 97 ∨ op = 98 := by
            have := sen_cases hs
            unfold forb at hf
            simp only [Bool.or_eq_false_iff, beq_eq_false_iff_ne] at hf
            omega
          rcases hc with rfl | rfl | rfl | rfl | rfl
          · rw [show senS (nextS s 2) 2 a b n = nextS s 2 by simp [senS, huT], show senE (nextS s 2) 2 a b = e0 0 by simp [senE]]
            exact do_did s _ a b imm n w ok h0 h1 h2 h3 hm hT 22 rfl hs _ _ fun w p h => did _ (enter_any _ (by simp)) _ _ (fun w h => goBack_user okT h huT) h
          · rw [show senS (nextS s 3) 3 a b n = nextS s 3 by simp [senS], show senE (nextS s 3) 3 a b = { e0 0 with f := !usr (nextS s 3) } by simp [senE, e0]]
            exact do_did s _ a b imm n w ok h0 h1 h2 h3 hm hT 23 rfl hs _ _ fun w p h => did _ (enter_any _ (by simp)) _ _ (fun w h => flush_any okT h) h
          · rw [show senS (nextS s 96) 96 a b n = (nextS s 96).reg a (nextS s 96).ps by simp [senS], show senE (nextS s 96) 96 a b = e0 0 by simp [senE]]
            exact do_did s _ a b imm n w ok h0 h1 h2 h3 hm hT 24 rfl hs _ _ fun w p h => did _ (enter_any _ (by simp)) _ _ (fun w h => readStatus_any okT h ha') h
          · rw [show senS (nextS s 97) 97 a b n = (nextS s 97).mark (flgI (nextS s 97).ps ((nextS s 97).r a / 16 % 16 * 16)) by simp [senS, huT], show senE (nextS s 97) 97 a b = e0 0 by simp [senE]]
            exact do_did s _ a b imm n w ok h0 h1 h2 h3 hm hT 25 rfl hs _ _ fun w p h => did _ (enter_any _ (by simp)) _ _ (fun w h => writeStatus_user okT h ha' huT) h
          · rw [show senS (nextS s 98) 98 a b n = (nextS s 98).reg a 0 by simp [senS, huT], show senE (nextS s 98) 98 a b = e0 0 by simp [senE]]
            exact do_did s _ a b imm n w ok h0 h1 h2 h3 hm hT 26 rfl hs _ _ fun w p h => did _ (enter_any _ (by simp)) _ _ (fun w h => readControl_user okT h ha' huT) h
      | false =>
        have huT : usr (nextS s op) = false := hu
        have eS : sdoS s op a b imm n = senS (nextS s op) op a b n := by unfold sdoS; rw [if_neg hi, if_neg (by rw [hu]; simp)]
        have eE : sdoE s op a b imm = senE (nextS s op) op a b := by unfold sdoE; rw [if_neg hi, if_neg (by rw [hu]; simp)]
        rw [eS, eE]
        rcases sen_cases hs with rfl | rfl | rfl | rfl | rfl | rfl | rfl | rfl | rfl
        · rw [show senS (nextS s 1) 1 a b n = (nextS s 1).halt by simp [senS], show senE (nextS s 1) 1 a b = e0 0 by simp [senE]]
          exact do_did s _ a b imm n w ok h0 h1 h2 h3 hm hT 21 rfl hs _ _ fun w p h => did _ (enter_any _ (by simp)) _ _ (fun w h => halt_yes okT h huT) h
        · rw [show senS (nextS s 2) 2 a b n = ((nextS s 2).go ((nextS s 2).c 2)).mark (mskI ((nextS s 2).c 3)) by simp [senS, huT], show senE (nextS s 2) 2 a b = e0 0 by simp [senE]]
          exact do_did s _ a b imm n w ok h0 h1 h2 h3 hm hT 22 rfl hs _ _ fun w p h => did _ (enter_any _ (by simp)) _ _ (fun w h => goBack_sys okT h huT) h
        · rw [show senS (nextS s 3) 3 a b n = nextS s 3 by simp [senS], show senE (nextS s 3) 3 a b = { e0 0 with f := !usr (nextS s 3) } by simp [senE, e0]]
          exact do_did s _ a b imm n w ok h0 h1 h2 h3 hm hT 23 rfl hs _ _ fun w p h => did _ (enter_any _ (by simp)) _ _ (fun w h => flush_any okT h) h
        · rw [show senS (nextS s 96) 96 a b n = (nextS s 96).reg a (nextS s 96).ps by simp [senS], show senE (nextS s 96) 96 a b = e0 0 by simp [senE]]
          exact do_did s _ a b imm n w ok h0 h1 h2 h3 hm hT 24 rfl hs _ _ fun w p h => did _ (enter_any _ (by simp)) _ _ (fun w h => readStatus_any okT h ha') h
        · rw [show senS (nextS s 97) 97 a b n = (nextS s 97).mark (mskI ((nextS s 97).r a)) by simp [senS, huT], show senE (nextS s 97) 97 a b = e0 0 by simp [senE]]
          exact do_did s _ a b imm n w ok h0 h1 h2 h3 hm hT 25 rfl hs _ _ fun w p h => did _ (enter_any _ (by simp)) _ _ (fun w h => writeStatus_sys okT h ha' huT) h
        · rw [show senS (nextS s 98) 98 a b n = (nextS s 98).reg a ((nextS s 98).c b) by simp [senS, huT], show senE (nextS s 98) 98 a b = e0 0 by simp [senE]]
          exact do_did s _ a b imm n w ok h0 h1 h2 h3 hm hT 26 rfl hs _ _ fun w p h => did _ (enter_any _ (by simp)) _ _ (fun w h => readControl_sys okT h ha' hb' huT) h
        · rw [show senS (nextS s 99) 99 a b n = (nextS s 99).ctl b ((nextS s 99).r a) by simp [senS], show senE (nextS s 99) 99 a b = { e0 0 with f := ((b : Int) == 0) } by simp [senE, e0]]
          exact do_did s _ a b imm n w ok h0 h1 h2 h3 hm hT 27 rfl hs _ _ fun w p h => did _ (enter_any _ (by simp)) _ _ (fun w h => writeControl_yes okT h ha' hb' huT) h
        · rw [show senS (nextS s 100) 100 a b n = (nextS s 100).reg a n by simp [senS], show senE (nextS s 100) 100 a b = e0 0 by simp [senE]]
          exact do_did s _ a b imm n w ok h0 h1 h2 h3 hm hT 28 rfl hs _ _ fun w p h => did _ (enter_any _ (by simp)) _ _ (fun w h => takeIn_yes okT h ha' huT) h
        · rw [show senS (nextS s 101) 101 a b n = nextS s 101 by simp [senS], show senE (nextS s 101) 101 a b = { e0 0 with o := true, p := b, x := (nextS s 101).r a } by simp [senE, e0]]
          exact do_did s _ a b imm n w ok h0 h1 h2 h3 hm hT 29 rfl hs _ _ fun w p h => did _ (enter_any _ (by simp)) _ _ (fun w h => sendOut_yes okT h ha' hb' huT) h
end Go.Proofs.YtaknjceneplonaaDoor
