/- The document's digits, letters and decimal numbers. -/
import Derived.Test.YthmbajehcffnbaaDoorTshow
import Derived.LoopTactic
namespace Go.Proofs.YthmbajehcffnbaaDoor
open Go.RowKit
set_option linter.unusedVariables false

theorem digits_cut (n : Int) (h0 : 0 ≤ n) (h1 : n ≤ 9) (w : World) : (Instr.slice 9 (.string ⟨#[48, 49, 50, 51, 52, 53, 54, 55, 56, 57]⟩) (some (.int .i64 n)) (some (.int .i64 (n + 1))) none).run Tryd.prog w = .ok (.string ⟨#[dg n]⟩) w := by
  rcases (by omega : n = 0 ∨ n = 1 ∨ n = 2 ∨ n = 3 ∨ n = 4 ∨ n = 5 ∨ n = 6 ∨ n = 7 ∨ n = 8 ∨ n = 9) with rfl | rfl | rfl | rfl | rfl | rfl | rfl | rfl | rfl | rfl <;>
    (rw [run_slice_string w 9 _ .i64 .i64 _ _ Tryd.underlying9 (by decide) (by decide) (by decide)]; rfl)

set_option maxHeartbeats 1000000 in
theorem rdigit_any (n : Int) (h0 : 0 ≤ n) (h1 : n ≤ 9) (w : World) :
    Calls Tryd.prog 20 #[.int .i64 n] w fun e w' => e = .returned (.string ⟨#[dg n]⟩) ∧ w' = w := by
  have hc := digits_cut n h0 h1
  go_enter Tryd.func20, Tryd.ntmps20
  go_wp2_with fail
  go_ret
  exact ⟨rfl, rfl⟩

set_option maxHeartbeats 1000000 in
theorem rsecond_any (op : Int) (w : World) :
    Calls Tryd.prog 21 #[.int .u8 op] w fun e w' => e = .returned (.string ⟨#[letB op]⟩) ∧ w' = w := by
  by_cases h1 : op = 98
  · subst h1
    go_enter Tryd.func21, Tryd.ntmps21
    go_wp2_with fail
    go_ret
    exact ⟨rfl, rfl⟩
  · by_cases h2 : op = 99
    · subst h2
      go_enter Tryd.func21, Tryd.ntmps21
      go_wp2_with fail
      go_ret
      exact ⟨rfl, rfl⟩
    · by_cases h3 : op = 100
      · subst h3
        go_enter Tryd.func21, Tryd.ntmps21
        go_wp2_with fail
        go_ret
        exact ⟨rfl, rfl⟩
      · by_cases h4 : op = 101
        · subst h4
          go_enter Tryd.func21, Tryd.ntmps21
          go_wp2_with fail
          go_ret
          exact ⟨rfl, rfl⟩
        · have e : letB op = 114 := by unfold letB; rw [if_neg (by omega), if_neg (by omega)]
          rw [e]
          have b1 : (op == 98) = false := by simpa using h1
          have b2 : (op == 99) = false := by simpa using h2
          have b3 : (op == 100) = false := by simpa using h3
          have b4 : (op == 101) = false := by simpa using h4
          clear h1 h2 h3 h4
          go_enter Tryd.func21, Tryd.ntmps21
          go_wp2_with fail
          go_ret
          exact ⟨rfl, rfl⟩

def lead (m : Nat) : List UInt8 := if m = 0 then [] else Lib.decDigits m
theorem dec_split (u : Nat) : Lib.decDigits u = lead (u / 10) ++ [dg ((u % 10 : Nat) : Int)] := by
  rw [Lib.decDigits]
  unfold lead dg
  by_cases h : u < 10
  · rw [dif_pos h, if_pos (by omega), show u % 10 = u by omega]
    rfl
  · rw [dif_neg h, if_neg (by omega)]
    rfl

set_option maxHeartbeats 2000000 in
set_option maxRecDepth 100000 in
theorem rdec_nat (n : Int) (h0 : 0 ≤ n) (h1 : n ≤ 2147483648) (w : World) :
    Calls Tryd.prog 22 #[.int .i64 n] w fun e w' => e = .returned (.string ⟨(Lib.decDigits n.toNat).toArray⟩) ∧ w' = w := by
  have HD : Hid (∀ (k : Int) (w : World), 0 ≤ k → k ≤ 9 → Calls Tryd.prog 20 #[.int .i64 k] w fun e w' => e = .returned (.string ⟨#[dg k]⟩) ∧ w' = w) := fun k w a b => rdigit_any k a b w
  have hlen : Hid ((Lib.decDigits n.toNat).length ≤ 21) := by
    have := Lib.itoa_length_le n (by omega) (by omega)
    unfold Lib.itoa at this
    rw [if_neg (by omega)] at this
    exact this
  have hs0 : Hid (Lib.decDigits n.toNat = lead (n / 10).toNat ++ [dg (n % 10)]) := by
    unfold Hid
    rw [dec_split, show (n / 10).toNat = n.toNat / 10 by omega, show ((n.toNat % 10 : Nat) : Int) = n % 10 by omega]
  go_enter Tryd.func22, Tryd.ntmps22
  go_wp2_with fail
  refine (HD.out _ _ (by omega) (by omega)).mono ?_
  rintro e w1 ⟨rfl, rfl⟩
  go_wp2_with fail
  go_loopw [0, 3] (fun v s wr => wr = w1 ∧ ∃ (m : Int) (S : Array UInt8), v = .int .i64 m ∧ s = .string ⟨S⟩ ∧ 0 ≤ m ∧ m ≤ 2147483648 ∧ Hid (Lib.decDigits n.toNat = lead m.toNat ++ S.toList)) (fun v _ _ => (intOf v).toNat)
  case atStart => exact ⟨rfl, n / 10, #[dg (n % 10)], rfl, rfl, by omega, by omega, hs0⟩
  case round =>
    obtain ⟨rfl, m, S, rfl, rfl, hm0, hm1, hS⟩ := hrel
    by_cases hpos : 0 < m
    · have hsz : Hid (S.size ≤ 21) := by
        have h := hlen.out
        rw [hS.out, List.length_append] at h
        have h2 : S.toList.length = S.size := Array.length_toList
        show S.size ≤ 21
        omega
      obtain ⟨S', hS'⟩ : ∃ S' : Array UInt8, Hid (S' = #[dg (m % 10)] ++ S) := ⟨#[dg (m % 10)] ++ S, (rfl : (#[dg (m % 10)] ++ S : Array UInt8) = #[dg (m % 10)] ++ S)⟩
      have hadd : ∀ w, (Op.stringOp .add ⟨#[dg (m % 10)]⟩ ⟨S⟩).run Tryd.prog w = .ok (.string ⟨S'⟩) w := fun w => by rw [hS'.out]; exact add_str #[dg (m % 10)] S (by simp) (by have := hsz.out; omega) w
      have hnx : Hid (Lib.decDigits n.toNat = lead (m / 10).toNat ++ S'.toList) := by
        unfold Hid
        rw [hS.out, hS'.out]
        have e : lead m.toNat = Lib.decDigits m.toNat := by unfold lead; rw [if_neg (by omega)]
        rw [e, dec_split, show m.toNat / 10 = (m / 10).toNat by omega, show ((m.toNat % 10 : Nat) : Int) = m % 10 by omega]
        simp
      go_wp2_with fail
      refine (HD.out _ _ (by omega) (by omega)).mono ?_
      rintro e w5 ⟨rfl, rfl⟩
      go_wp2_with fail
      go_roundw
      case rel => exact ⟨by first | trivial | rfl, m / 10, S', rfl, rfl, by omega, by omega, hnx⟩
      case measure => simp [intOf]; omega
    · have hfin : Hid (Lib.decDigits n.toNat = S.toList) := by
        unfold Hid
        rw [hS.out]
        unfold lead
        rw [if_pos (by omega)]
        rfl
      have hz : m ≤ 0 := by omega
      clear hpos
      go_wp2_with fail
      go_ret
      exact ⟨ret_str (by rw [hfin.out]), rfl⟩

set_option maxHeartbeats 2000000 in
theorem rdec_any (n : Int) (h0 : -2147483648 ≤ n) (h1 : n ≤ 2147483647) (w : World) :
    Calls Tryd.prog 22 #[.int .i64 n] w fun e w' => e = .returned (.string ⟨(Lib.itoa n).toArray⟩) ∧ w' = w := by
  by_cases hn : n < 0
  · have HD : Hid (∀ w, Calls Tryd.prog 22 #[.int .i64 (-n)] w fun e w' => e = .returned (.string ⟨(Lib.decDigits (-n).toNat).toArray⟩) ∧ w' = w) := fun w => rdec_nat (-n) (by omega) (by omega) w
    have e1 : Lib.itoa n = 45 :: Lib.decDigits (-n).toNat := by unfold Lib.itoa; rw [if_pos hn, show n.natAbs = (-n).toNat by omega]
    have hl := Lib.itoa_length_le n (by omega) (by omega)
    rw [e1] at hl ⊢
    generalize Lib.decDigits (-n).toNat = L at *
    have hadd : ∀ w, (Op.stringOp .add ⟨#[45]⟩ ⟨L.toArray⟩).run Tryd.prog w = .ok (.string ⟨(45 :: L).toArray⟩) w := fun w => by
      rw [add_str #[45] L.toArray (by decide) (by simp at hl ⊢; omega) w]
      simp
    clear e1 hl
    go_enter Tryd.func22, Tryd.ntmps22
    go_wp2_with fail
    refine (HD.out _).mono ?_
    rintro e w1 ⟨rfl, rfl⟩
    go_wp2_with fail
    go_ret
    exact ⟨rfl, rfl⟩
  · have e1 : Lib.itoa n = Lib.decDigits n.toNat := by unfold Lib.itoa; rw [if_neg hn]
    rw [e1]
    exact rdec_nat n (by omega) (by omega) w
end Go.Proofs.YthmbajehcffnbaaDoor
