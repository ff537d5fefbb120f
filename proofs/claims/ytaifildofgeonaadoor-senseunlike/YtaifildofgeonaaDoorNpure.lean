/- What follows of what Do does. -/
import Derived.Test.YtaifildofgeonaaDoorNdo
import Derived.Test.YtaifildofgeonaaDoorCset
namespace Go.Proofs.YtaifildofgeonaaDoor
open Go.RowKit
set_option linter.unusedVariables false
set_option linter.unusedSimpArgs false

def keepI (x : Int) : Int := x - x / 16 % 16 * 16
theorem keep_is (x : Int) (h : 0 ≤ x ∧ x < 4294967296) : bits .andNot .u32 x 240 = keepI x := by
  obtain ⟨m, rfl⟩ : ∃ m : Nat, x = m := ⟨x.toNat, by omega⟩
  rw [show (240 : Int) = ((240 : Nat) : Int) from rfl, u32_andNot_nat m 240 (by omega) (by decide), show 4294967295 - 240 = 4294967055 from rfl, keep_nat m (by omega)]
  unfold keepI; omega
theorem or_one (x : Nat) : x ||| 1 = x - x % 2 + 1 := by
  have h1 : (x ||| 1) >>> 1 = x / 2 := by
    rw [Nat.shiftRight_or_distrib, Nat.shiftRight_eq_div_pow, show 1 >>> 1 = 0 by rfl, Nat.or_zero]
  have h2 : (x ||| 1) % 2 = 1 := by
    rw [show 2 = 2 ^ 1 by rfl, Nat.or_mod_two_pow, show 1 % 2 ^ 1 = 1 by rfl, show 2 ^ 1 = 2 by rfl]
    rcases Nat.mod_two_eq_zero_or_one x with h | h <;> rw [h] <;> rfl
  rw [Nat.shiftRight_eq_div_pow] at h1
  omega
def userI (x : Int) : Int := x - x % 2 + 1
theorem user_is (x : Int) (h : 0 ≤ x ∧ x < 4294967296) : bits .or .u32 x 1 = userI x := by
  obtain ⟨m, rfl⟩ : ∃ m : Nat, x = m := ⟨x.toNat, by omega⟩
  rw [show (1 : Int) = ((1 : Nat) : Int) from rfl, u32_or_nat m 1 (by omega) (by decide), or_one m]
  unfold userI; omega
theorem userI_range (x : Int) (h : 0 ≤ x ∧ x < 4294967296) : 0 ≤ userI x ∧ userI x < 4294967296 := by unfold userI; omega
theorem usr_userI (s : Sta) (x : Int) : usr (s.mark (userI x)) = true := by
  show (userI x % 2 == 1) = true
  rw [beq_iff_eq]; unfold userI; omega
theorem and_sys (x : Nat) (hx : x < 4294967296) : x &&& 4294967294 = x - x % 2 := by
  have h1 : (x &&& 4294967294) >>> 1 = x / 2 := by
    rw [Nat.shiftRight_and_distrib, Nat.shiftRight_eq_div_pow, show 4294967294 >>> 1 = 2 ^ 31 - 1 by decide, Nat.and_two_pow_sub_one_eq_mod]
    exact Nat.mod_eq_of_lt (by omega)
  have h2 : (x &&& 4294967294) % 2 = 0 := by
    rw [show 2 = 2 ^ 1 by rfl, Nat.and_mod_two_pow, show 4294967294 % 2 ^ 1 = 0 by decide, Nat.and_zero]
  rw [Nat.shiftRight_eq_div_pow] at h1
  omega
def sysI (x : Int) : Int := x - x % 2
theorem sys_is (x : Int) (h : 0 ≤ x ∧ x < 4294967296) : bits .andNot .u32 x 1 = sysI x := by
  obtain ⟨m, rfl⟩ : ∃ m : Nat, x = m := ⟨x.toNat, by omega⟩
  rw [show (1 : Int) = ((1 : Nat) : Int) from rfl, u32_andNot_nat m 1 (by omega) (by decide), show 4294967295 - 1 = 4294967294 from rfl, and_sys m (by omega)]
  unfold sysI; omega
theorem sysI_range (x : Int) (h : 0 ≤ x ∧ x < 4294967296) : 0 ≤ sysI x ∧ sysI x < 4294967296 := by unfold sysI; omega
theorem usr_sysI (s : Sta) (x : Int) : usr (s.mark (sysI x)) = false := by
  show (sysI x % 2 == 1) = false
  rw [beq_eq_false_iff_ne]; unfold sysI; omega
/-- What Do comes to: none of the nine; forbidden; done. -/
theorem sdo_cases (s : Sta) (op : Int) (a b : Nat) (imm n : Int) :
    (isS op a b imm = false ∧ sdoS s op a b imm n = s ∧ sdoE s op a b imm = e0 1) ∨
    (isS op a b imm = true ∧ usr s = true ∧ forb op = true ∧ sdoS s op a b imm n = s ∧ sdoE s op a b imm = e0 2) ∨
    (isS op a b imm = true ∧ (usr s = true → forb op = false) ∧ sdoS s op a b imm n = senS (nextS s op) op a b n ∧ sdoE s op a b imm = senE (nextS s op) op a b) := by
  unfold sdoS sdoE
  cases hi : isS op a b imm with
  | false => exact .inl ⟨rfl, rfl, rfl⟩
  | true =>
    cases hu : usr s with
    | false => exact .inr (.inr ⟨rfl, by simp, by simp, by simp⟩)
    | true =>
      cases hf : forb op with
      | true => exact .inr (.inl ⟨rfl, rfl, rfl, by simp, by simp⟩)
      | false => exact .inr (.inr ⟨rfl, by simp, by simp, by simp⟩)
theorem senE_k (s : Sta) (op : Int) (a b : Nat) : (senE s op a b).k = 0 := by
  unfold senE
  repeat' split
  all_goals rfl
theorem is_sen {op a b imm : Int} (h : isS op a b imm = true) : mayB (rowOf op false) a b imm = true ∧ isSen op = true := by
  unfold isS at h
  simpa using h
/-- In the user ring. -/
theorem kept_of (s : Sta) (ok : s.Ok) (op : Int) (a b : Nat) (imm n : Int) (hu : usr s = true) :
    keepI (sdoS s op a b imm n).ps = keepI s.ps ∧ (0 ≤ (sdoS s op a b imm n).ps ∧ (sdoS s op a b imm n).ps < 4294967296) ∧ (sdoS s op a b imm n).c = s.c ∧ (sdoS s op a b imm n).h = s.h ∧ (sdoE s op a b imm).f = false ∧ (sdoE s op a b imm).o = false := by
  have hps := ok.ps
  have hT : usr (nextS s op) = true := hu
  rcases sdo_cases s op a b imm n with ⟨_, e1, e2⟩ | ⟨_, _, _, e1, e2⟩ | ⟨hi, hf, e1, e2⟩
  · rw [e1, e2]; exact ⟨rfl, hps, rfl, rfl, rfl, rfl⟩
  · rw [e1, e2]; exact ⟨rfl, hps, rfl, rfl, rfl, rfl⟩
  · rw [e1, e2]
    have hfo := hf hu
    rcases sen_cases (is_sen hi).2 with rfl | rfl | rfl | rfl | rfl | rfl | rfl | rfl | rfl
    · exact absurd hfo (by decide)
    · rw [show senS (nextS s 2) 2 a b n = nextS s 2 by simp [senS, hT], show senE (nextS s 2) 2 a b = e0 0 by simp [senE]]
      exact ⟨rfl, hps, rfl, rfl, rfl, rfl⟩
    · rw [show senS (nextS s 3) 3 a b n = nextS s 3 by simp [senS], show senE (nextS s 3) 3 a b = e0 0 by simp [senE, e0, hT]]
      exact ⟨rfl, hps, rfl, rfl, rfl, rfl⟩
    · rw [show senS (nextS s 96) 96 a b n = (nextS s 96).reg a (nextS s 96).ps by simp [senS], show senE (nextS s 96) 96 a b = e0 0 by simp [senE]]
      exact ⟨rfl, hps, rfl, rfl, rfl, rfl⟩
    · rw [show senS (nextS s 97) 97 a b n = (nextS s 97).mark (flgI (nextS s 97).ps ((nextS s 97).r a / 16 % 16 * 16)) by simp [senS, hT], show senE (nextS s 97) 97 a b = e0 0 by simp [senE]]
      refine ⟨?_, ?_, rfl, rfl, rfl, rfl⟩
      · show keepI (flgI s.ps (s.r a / 16 % 16 * 16)) = keepI s.ps
        unfold keepI flgI; omega
      · show 0 ≤ flgI s.ps (s.r a / 16 % 16 * 16) ∧ flgI s.ps (s.r a / 16 % 16 * 16) < 4294967296
        unfold flgI; omega
    · rw [show senS (nextS s 98) 98 a b n = (nextS s 98).reg a 0 by simp [senS, hT], show senE (nextS s 98) 98 a b = e0 0 by simp [senE]]
      exact ⟨rfl, hps, rfl, rfl, rfl, rfl⟩
    · exact absurd hfo (by decide)
    · exact absurd hfo (by decide)
    · exact absurd hfo (by decide)
theorem nine_tab : gC (tabF 1) = 4 ∧ gC (tabF 2) = 4 ∧ gC (tabF 3) = 4 ∧ gC (tabF 96) = 4 ∧ gC (tabF 97) = 4 ∧ gC (tabF 98) = 4 ∧ gC (tabF 99) = 4 ∧ gC (tabF 100) = 4 ∧ gC (tabF 101) = 4 := by decide +kernel
theorem silent_tab : gS (tabF 1) = false ∧ gS (tabF 2) = true ∧ gS (tabF 3) = true ∧ gS (tabF 96) = true ∧ gS (tabF 97) = true ∧ gS (tabF 98) = true ∧ gS (tabF 99) = false ∧ gS (tabF 100) = false ∧ gS (tabF 101) = false := by decide +kernel
theorem written_tab : gWa (tabF 96) = true ∧ gWa (tabF 98) = true ∧ gWa (tabF 100) = true := by decide +kernel
theorem silent_of (s : Sta) (op : Int) (a b : Nat) (imm n : Int) (hu : usr s = true) :
    ((sdoE s op a b imm).k = 1 ∧ sdoS s op a b imm n = s) ∨ ((sdoE s op a b imm).k = 2 ∧ sdoS s op a b imm n = s ∧ gC (tabF op) = 4 ∧ gS (tabF op) = false) ∨ ((sdoE s op a b imm).k = 0 ∧ gC (tabF op) = 4 ∧ gS (tabF op) = true) := by
  obtain ⟨g1, g2, g3, g4, g5, g6, g7, g8, g9⟩ := nine_tab
  obtain ⟨t1, t2, t3, t4, t5, t6, t7, t8, t9⟩ := silent_tab
  rcases sdo_cases s op a b imm n with ⟨_, e1, e2⟩ | ⟨hi, _, hf, e1, e2⟩ | ⟨hi, hf, e1, e2⟩
  · rw [e1, e2]; exact .inl ⟨rfl, rfl⟩
  · rw [e1, e2]
    refine .inr (.inl ⟨rfl, rfl, ?_⟩)
    rcases sen_cases (is_sen hi).2 with rfl | rfl | rfl | rfl | rfl | rfl | rfl | rfl | rfl
    all_goals first | exact ⟨by assumption, by assumption⟩ | exact absurd hf (by decide)
  · rw [e2]
    refine .inr (.inr ⟨senE_k _ _ _ _, ?_⟩)
    have hfo := hf hu
    rcases sen_cases (is_sen hi).2 with rfl | rfl | rfl | rfl | rfl | rfl | rfl | rfl | rfl
    all_goals first | exact ⟨by assumption, by assumption⟩ | exact absurd hfo (by decide)
theorem up_off9 (r : Nat → Int) (a n : Nat) (x : Int) (h : n ≠ a) : up r a x n = r n := by unfold up; rw [if_neg h]
/-- Only the register turns that is written. -/
theorem writes9_of (s : Sta) (op : Int) (a b : Nat) (imm n : Int) (k : Nat) : (sdoS s op a b imm n).r k = s.r k ∨ ((sdoE s op a b imm).k = 0 ∧ inS (wset op a b imm) k = true) := by
  rcases sdo_cases s op a b imm n with ⟨_, e1, e2⟩ | ⟨hi, _, hf, e1, e2⟩ | ⟨hi, hf, e1, e2⟩
  · rw [e1]; exact .inl rfl
  · rw [e1]; exact .inl rfl
  · rw [e1, e2]
    obtain ⟨hm, hs⟩ := is_sen hi
    obtain ⟨ha, hb⟩ := may_eight _ (rowOf_lt op false) _ _ _ hm
    obtain ⟨w1, w2, w3⟩ := written_tab
    have wr : ∀ m : Nat, op = m → m < 112 → gWa (tabF op) = true → inS (wset op a b imm) a = true := by
      intro m e hm' hw
      subst e
      obtain ⟨t0, t1, _, _⟩ := set_tab m (by omega)
      unfold wset
      rw [row_tab m hm', hm, hw]
      show inS (orB true _ _ a b) a = true
      rw [inS_orB _ _ _ _ _ _ t0 t1 (by omega) (by omega)]
      simp
    rcases sen_cases hs with rfl | rfl | rfl | rfl | rfl | rfl | rfl | rfl | rfl
    · left; simp [senS]; rfl
    · left; unfold senS; simp; split <;> rfl
    · left; simp [senS]; rfl
    · by_cases hk : k = a
      · subst hk; exact .inr ⟨senE_k _ _ _ _, wr 96 rfl (by decide) w1⟩
      · left; simp [senS]; exact up_off9 _ _ _ _ hk
    · left; unfold senS; simp; split <;> rfl
    · by_cases hk : k = a
      · subst hk; exact .inr ⟨senE_k _ _ _ _, wr 98 rfl (by decide) w2⟩
      · left; unfold senS; simp; split <;> exact up_off9 _ _ _ _ hk
    · left; simp [senS]; rfl
    · by_cases hk : k = a
      · subst hk; exact .inr ⟨senE_k _ _ _ _, wr 100 rfl (by decide) w3⟩
      · left; simp [senS]; exact up_off9 _ _ _ _ hk
    · left; simp [senS]; rfl
end Go.Proofs.YtaifildofgeonaaDoor
