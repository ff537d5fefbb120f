/- What an instruction turns. -/
import Derived.Test.YtjmcbohjkdbkbaaDoorCpureb
namespace Go.Proofs.YtjmcbohjkdbkbaaDoor
open Go.RowKit
set_option linter.unusedVariables false
set_option linter.unusedSimpArgs false

theorem regIf_r (s : Sta) (k : Bool) (a n : Nat) (x : Int) (h : k = true → n ≠ a) : (s.regIf k a x).r n = s.r n := by
  cases k
  · rfl
  · exact up_off _ _ _ _ (h rfl)
theorem markIf_r (s : Sta) (k : Bool) (x : Int) : (s.markIf k x).r = s.r := by cases k <;> rfl
theorem stack_r (s : Sta) (op : Int) (n : Nat) (h : op = 56 ∨ op = 57 → n ≠ 7) : (stackS s op).r n = s.r n := by
  unfold stackS
  by_cases h1 : op = 56
  · rw [if_pos h1]; exact up_off _ _ _ _ (h (.inl h1))
  · rw [if_neg h1]
    by_cases h2 : op = 57
    · rw [if_pos h2]; exact up_off _ _ _ _ (h (.inr h2))
    · rw [if_neg h2]
theorem link_r (s : Sta) (op back : Int) (n : Nat) (h : op = 72 ∨ op = 74 → n ≠ 6) : (linkS s op back).r n = s.r n := by
  unfold linkS
  by_cases h1 : op = 72 ∨ op = 74
  · rw [if_pos h1]; exact up_off _ _ _ _ (h h1)
  · rw [if_neg h1]
theorem jmp_r (s : Sta) (op : Int) (a : Nat) (imm : Int) (n : Nat) (h : op = 72 ∨ op = 74 → n ≠ 6) : (jmpS s op a imm).r n = s.r n := by
  unfold jmpS
  split
  · rw [link_r _ _ _ _ h]; rfl
  · rfl
/-- The set of written registers. -/
def wset (op : Int) (a b : Nat) (imm : Int) : Int := setB (mayB (rowOf op true) a b imm) (gWa (tabF op)) (gWb (tabF op)) (gWi (tabF op)) a b
def rset (op : Int) (a b : Nat) (imm : Int) : Int := setB (mayB (rowOf op true) a b imm) (gRa (tabF op)) (gRb (tabF op)) (gRi (tabF op)) a b
theorem set_is (n : Nat) (a b : Nat) (imm : Int) (hn : n < 112) (hi : isIns n a b imm = true) : a < 8 ∧ b < 8 ∧ (∀ pa pb it, setB (mayB (rowOf (n : Int) true) a b imm) pa pb it a b = orB pa pb it a b) := by
  unfold isIns at hi
  simp only [Bool.and_eq_true] at hi
  obtain ⟨ha, hb⟩ := may_reg n false a b imm hi.1
  refine ⟨by omega, by omega, fun pa pb it => ?_⟩
  rw [row_tab n hn, hi.1]
  rfl
theorem writes_of (s : Sta) (op : Int) (a b : Nat) (imm v : Int) (h0 : 0 ≤ op) (h1 : op < 256) (h : (doF s op a b imm).1 = 0) (k : Nat) : (doS s op a b imm v).r k = s.r k ∨ inS (wset op a b imm) k = true := by
  obtain ⟨hi, eS, hc⟩ := doS_is s op a b imm v h
  obtain ⟨n, rfl⟩ : ∃ n : Nat, op = n := ⟨op.toNat, by omega⟩
  obtain ⟨ha, hb, hset⟩ := set_is n a b imm (by omega) hi
  obtain ⟨t0, t1, t2, t3⟩ := set_tab n (by omega)
  rw [eS]
  unfold wset
  rw [hset, inS_orB _ _ _ _ _ _ t0 t1 ha hb]
  rcases hc with hc | hc | hc | hc
  · left
    have hn : n = 0 := by omega
    subst hn
    rw [show ((0 : Nat) : Int) = 0 from rfl, workS_nop]; rfl
  · by_cases hk : keepsB (n : Int) = true ∧ k = a
    · right
      rw [wa_alu n (by omega) (by omega) hk.1]
      simp [hk.2]
    · left
      rw [workS_alu _ _ _ _ _ _ hc]; unfold reckS
      rw [markIf_r, regIf_r _ _ _ _ _ (fun q e => hk ⟨q, e⟩)]; rfl
  · by_cases hs : (n = 56 ∨ n = 57) ∧ k = 7
    · right
      rw [hs.2, wi_stk n (by omega) hs.1]; simp
    · by_cases hk : takes (n : Int) = true ∧ k = a
      · right
        rw [wa_mem n (by omega) (by omega) hk.1]
        simp [hk.2]
      · left
        rw [workS_mem _ _ _ _ _ _ hc]; unfold movS
        rw [regIf_r _ _ _ _ _ (fun q e => hk ⟨q, e⟩), stack_r _ _ _ (fun q e => hs ⟨by omega, e⟩)]; rfl
  · by_cases hs : (n = 72 ∨ n = 74) ∧ k = 6
    · right
      rw [hs.2, wi_lnk n (by omega) hs.1]; simp
    · left
      rw [workS_jmp _ _ _ _ _ _ hc, jmp_r _ _ _ _ _ (fun q e => hs ⟨by omega, e⟩)]; rfl
theorem regIf_ps (s : Sta) (k : Bool) (a : Nat) (x : Int) : (s.regIf k a x).ps = s.ps ∧ (s.regIf k a x).c = s.c ∧ (s.regIf k a x).h = s.h := by cases k <;> exact ⟨rfl, rfl, rfl⟩
theorem stack_ps (s : Sta) (op : Int) : (stackS s op).ps = s.ps ∧ (stackS s op).c = s.c ∧ (stackS s op).h = s.h := by
  unfold stackS; split
  · exact ⟨rfl, rfl, rfl⟩
  · split <;> exact ⟨rfl, rfl, rfl⟩
theorem jmp_ps (s : Sta) (op : Int) (a : Nat) (imm : Int) : (jmpS s op a imm).ps = s.ps ∧ (jmpS s op a imm).c = s.c ∧ (jmpS s op a imm).h = s.h := by
  unfold jmpS linkS; split
  · split <;> exact ⟨rfl, rfl, rfl⟩
  · exact ⟨rfl, rfl, rfl⟩
theorem flg_keep (op x y ps : Int) (h0 : 0 ≤ ps) (h1 : ps < 4294967296) : bits .andNot .u32 (flgI ps (alu op x y).2) 240 = bits .andNot .u32 ps 240 := by
  obtain ⟨k, hk, e⟩ := alu_form op x y
  obtain ⟨n, rfl⟩ : ∃ n : Nat, ps = n := ⟨ps.toNat, by omega⟩
  rw [e]
  obtain ⟨m, hm, hm2⟩ : ∃ m : Nat, flgI (n : Int) ((16 * k : Nat) : Int) = m ∧ m = n - n / 16 % 16 * 16 + 16 * k := ⟨n - n / 16 % 16 * 16 + 16 * k, by unfold flgI; omega, rfl⟩
  rw [hm, show (240 : Int) = ((240 : Nat) : Int) from rfl, u32_andNot_nat n 240 (by omega) (by decide), u32_andNot_nat m 240 (by omega) (by decide), show 4294967295 - 240 = 4294967055 from rfl, keep_nat n (by omega), keep_nat m (by omega)]
  congr 1
  omega
theorem status_of (s : Sta) (ok : s.Ok) (op : Int) (a b : Nat) (imm v : Int) (h0 : 0 ≤ op) (h1 : op < 256) (h : (doF s op a b imm).1 = 0) :
    ((doS s op a b imm v).ps = s.ps ∨ gT (tabF op) = true) ∧ bits .andNot .u32 (doS s op a b imm v).ps 240 = bits .andNot .u32 s.ps 240 ∧ (doS s op a b imm v).c = s.c ∧ (doS s op a b imm v).h = s.h := by
  obtain ⟨hi, eS, hc⟩ := doS_is s op a b imm v h
  obtain ⟨n, rfl⟩ : ∃ n : Nat, op = n := ⟨op.toNat, by omega⟩
  rw [eS]
  rcases hc with hc | hc | hc | hc
  · have hn : n = 0 := by omega
    subst hn
    rw [show ((0 : Nat) : Int) = 0 from rfl, workS_nop]
    exact ⟨.inl rfl, rfl, rfl, rfl⟩
  · rw [workS_alu _ _ _ _ _ _ hc]; unfold reckS
    obtain ⟨r1, r2, r3⟩ := regIf_ps (nextS s n) (keepsB n) a (alu n ((nextS s n).r a) (secN (nextS s n) n b imm)).1
    cases hq : turnsB (n : Int) with
    | false => exact ⟨.inl r1, congrArg (fun x => bits .andNot .u32 x 240) r1, r2, r3⟩
    | true => exact ⟨.inr (turn_tab n (by omega) (by omega) hq), flg_keep _ _ _ _ ok.ps.1 ok.ps.2, r2, r3⟩
  · rw [workS_mem _ _ _ _ _ _ hc]; unfold movS
    obtain ⟨r1, r2, r3⟩ := regIf_ps (stackS (nextS s n) n) (takes n) a (takenV n v)
    obtain ⟨q1, q2, q3⟩ := stack_ps (nextS s n) n
    exact ⟨.inl (r1.trans q1), by rw [r1, q1]; rfl, r2.trans q2, r3.trans q3⟩
  · rw [workS_jmp _ _ _ _ _ _ hc]
    obtain ⟨q1, q2, q3⟩ := jmp_ps (nextS s n) n a imm
    exact ⟨.inl q1, by rw [q1]; rfl, q2, q3⟩
end Go.Proofs.YtjmcbohjkdbkbaaDoor
