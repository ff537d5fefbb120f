/- What an instruction hangs on. -/
import Derived.Test.YtjmcbohjkdbkbaaDoorCwrites
namespace Go.Proofs.YtjmcbohjkdbkbaaDoor
open Go.RowKit
set_option linter.unusedVariables false
set_option linter.unusedSimpArgs false

theorem sta_ext {s t : Sta} (hr : ∀ n, s.r n = t.r n) (h1 : s.pc = t.pc) (h2 : s.ps = t.ps) (h3 : s.c = t.c) (h4 : s.h = t.h) : s = t := by
  cases s; cases t
  simp only at hr h1 h2 h3 h4
  subst h1 h2 h3 h4
  congr 1
  exact funext hr
theorem regIf_at (s : Sta) (k : Bool) (a n : Nat) (x : Int) : (s.regIf k a x).r n = if k = true ∧ n = a then x else s.r n := by
  cases k
  · simp [Sta.regIf]
  · show up s.r a x n = _
    unfold up; simp
theorem markIf_ps (s : Sta) (k : Bool) (x : Int) : (s.markIf k x).ps = (if k then x else s.ps) ∧ (s.markIf k x).c = s.c ∧ (s.markIf k x).h = s.h := by cases k <;> exact ⟨rfl, rfl, rfl⟩
/-- Two states that are alike but for one register. -/
structure Off (r : Nat) (u t : Sta) : Prop where
  r : ∀ n, n ≠ r → u.r n = t.r n
  pc : u.pc = t.pc
  ps : u.ps = t.ps
  c : u.c = t.c
  h : u.h = t.h
theorem Off.back {r : Nat} {u t : Sta} (h : Off r u t) (y : Int) (hy : t.r r = y) : u.reg r y = t := by
  refine sta_ext (fun n => ?_) h.pc h.ps h.c h.h
  by_cases e : n = r
  · subst e; exact (up_at _ _ _).trans hy.symm
  · exact (up_off _ _ _ _ e).trans (h.r n e)
theorem off_reg (s : Sta) (r : Nat) (x : Int) : Off r (s.reg r x) s := ⟨fun n h => up_off _ _ _ _ h, rfl, rfl, rfl, rfl⟩
theorem Off.next {r : Nat} {u t : Sta} (h : Off r u t) (op : Int) : Off r (nextS u op) (nextS t op) := ⟨h.r, by show (u.pc + _) % _ = (t.pc + _) % _; rw [h.pc], h.ps, h.c, h.h⟩
theorem Off.regIf {r : Nat} {u t : Sta} (h : Off r u t) (k : Bool) (a : Nat) (x : Int) : Off r (u.regIf k a x) (t.regIf k a x) := by
  obtain ⟨p1, p2, p3⟩ := regIf_ps u k a x
  obtain ⟨q1, q2, q3⟩ := regIf_ps t k a x
  refine ⟨fun n hn => ?_, by rw [regIf_pc, regIf_pc, h.pc], by rw [p1, q1, h.ps], by rw [p2, q2, h.c], by rw [p3, q3, h.h]⟩
  rw [regIf_at, regIf_at, h.r n hn]
theorem Off.markIf {r : Nat} {u t : Sta} (h : Off r u t) (k : Bool) (x : Int) : Off r (u.markIf k x) (t.markIf k x) := by
  obtain ⟨p1, p2, p3⟩ := markIf_ps u k x
  obtain ⟨q1, q2, q3⟩ := markIf_ps t k x
  exact ⟨fun n hn => by rw [markIf_r, markIf_r, h.r n hn], by rw [markIf_pc, markIf_pc, h.pc], by rw [p1, q1, h.ps], by rw [p2, q2, h.c], by rw [p3, q3, h.h]⟩
theorem Off.reg {r : Nat} {u t : Sta} (h : Off r u t) (a : Nat) (x : Int) : Off r (u.reg a x) (t.reg a x) := h.regIf true a x
theorem Off.go {r : Nat} {u t : Sta} (h : Off r u t) (x : Int) : Off r (u.go x) (t.go x) := ⟨h.r, rfl, h.ps, h.c, h.h⟩
theorem Off.stack {r : Nat} {u t : Sta} (h : Off r u t) (op : Int) (h7 : op = 56 ∨ op = 57 → r ≠ 7) : Off r (stackS u op) (stackS t op) := by
  unfold stackS
  by_cases h1 : op = 56
  · rw [if_pos h1, if_pos h1, h.r 7 (fun e => h7 (.inl h1) e.symm)]; exact h.reg _ _
  · rw [if_neg h1, if_neg h1]
    by_cases h2 : op = 57
    · rw [if_pos h2, if_pos h2, h.r 7 (fun e => h7 (.inr h2) e.symm)]; exact h.reg _ _
    · rw [if_neg h2, if_neg h2]; exact h
theorem Off.jmp {r : Nat} {u t : Sta} (h : Off r u t) (op : Int) (a : Nat) (imm : Int) (hra : op = 73 ∨ op = 74 → r ≠ a) : Off r (jmpS u op a imm) (jmpS t op a imm) := by
  have ej : jto u op a imm = jto t op a imm := by
    unfold jto
    by_cases h1 : op = 73 ∨ op = 74
    · rw [if_pos h1, if_pos h1, h.r a (fun e => hra h1 e.symm)]
    · rw [if_neg h1, if_neg h1, h.pc]
  unfold jmpS
  rw [h.ps, ej, h.pc]
  split
  · unfold linkS
    split
    · exact (h.go _).reg _ _
    · exact h.go _
  · exact h
theorem sec_off {r : Nat} {u t : Sta} (h : Off r u t) (op : Int) (b : Nat) (imm : Int) (hb : op ≠ 32 → op ≠ 33 → r ≠ b) : secN u op b imm = secN t op b imm := by
  unfold secN
  by_cases h1 : op = 32 ∨ op = 33
  · rw [if_pos h1, if_pos h1]
  · rw [if_neg h1, if_neg h1, h.r b (fun e => hb (by omega) (by omega) e.symm)]
theorem adr_off {r : Nat} {u t : Sta} (h : Off r u t) (op : Int) (b : Nat) (imm : Int) (h7 : op = 56 ∨ op = 57 → r ≠ 7) (hb : op ≠ 56 → op ≠ 57 → r ≠ b) : adr u op b imm = adr t op b imm := by
  unfold adr
  by_cases h1 : op = 56
  · rw [if_pos h1, if_pos h1, h.r 7 (fun e => h7 (.inl h1) e.symm)]
  · rw [if_neg h1, if_neg h1]
    by_cases h2 : op = 57
    · rw [if_pos h2, if_pos h2, h.r 7 (fun e => h7 (.inr h2) e.symm)]
    · rw [if_neg h2, if_neg h2, h.r b (fun e => hb h1 h2 e.symm)]
theorem reads_of (s : Sta) (op : Int) (a b : Nat) (imm v : Int) (r : Nat) (x : Int) (h0 : 0 ≤ op) (h1 : op < 256) (hr : inS (rset op a b imm) r = false) (hw : inS (wset op a b imm) r = false) :
    doF (s.reg r x) op a b imm = doF s op a b imm ∧ (doS (s.reg r x) op a b imm v).reg r (s.r r) = doS s op a b imm v := by
  have O := off_reg s r x
  cases hi : isIns op a b imm with
  | false =>
    have e1 : ∀ t : Sta, doF t op a b imm = (1, t.pc) := fun t => by unfold doF; rw [hi]; rfl
    have e2 : ∀ t : Sta, doS t op a b imm v = t := fun t => by unfold doS; rw [e1]; exact if_neg (show ¬ (1 : Int) = 0 by decide)
    rw [e1, e1, e2, e2]
    exact ⟨rfl, O.back _ rfl⟩
  | true =>
    obtain ⟨n, rfl⟩ : ∃ n : Nat, op = n := ⟨op.toNat, by omega⟩
    have hi' := hi
    unfold isIns at hi'
    simp only [Bool.and_eq_true, bne_iff_ne, ne_eq] at hi'
    have hc := cls_cases _ hi'.2
    obtain ⟨ha, hb, hset⟩ := set_is n a b imm (by omega) hi
    obtain ⟨t0, t1, t2, t3⟩ := set_tab n (by omega)
    unfold rset at hr
    unfold wset at hw
    rw [hset, inS_orB _ _ _ _ _ _ t2 t3 ha hb] at hr
    rw [hset, inS_orB _ _ _ _ _ _ t0 t1 ha hb] at hw
    simp only [Bool.or_eq_false_iff] at hr hw
    obtain ⟨⟨r1, r2⟩, r3⟩ := hr
    obtain ⟨⟨w1, w2⟩, w3⟩ := hw
    have ON := O.next n
    have eF : ∀ t : Sta, doF t n a b imm = workF (nextS t n) n a b imm := fun t => by unfold doF; rw [hi]; rfl
    suffices H : workF (nextS (s.reg r x) n) n a b imm = workF (nextS s n) n a b imm ∧ ((workF (nextS s n) n a b imm).1 = 0 → Off r (workS (nextS (s.reg r x) n) n a b imm v) (workS (nextS s n) n a b imm v)) by
      obtain ⟨H1, H2⟩ := H
      have e1 : doF (s.reg r x) n a b imm = doF s n a b imm := by rw [eF, eF, H1]
      refine ⟨e1, ?_⟩
      by_cases hz : (doF s n a b imm).1 = 0
      · have W := writes_of s n a b imm v h0 h1 hz r
        have hzz : inS (wset n a b imm) r = false := by
          unfold wset
          rw [hset, inS_orB _ _ _ _ _ _ t0 t1 ha hb, w1, w2, w3]; rfl
        rw [hzz] at W
        have W' : (doS s n a b imm v).r r = s.r r := W.resolve_right (by decide)
        have hz2 : (workF (nextS s n) n a b imm).1 = 0 := by rw [← eF]; exact hz
        have q1 : doS s n a b imm v = workS (nextS s n) n a b imm v := by unfold doS; rw [if_pos hz]
        have q2 : doS (s.reg r x) n a b imm v = workS (nextS (s.reg r x) n) n a b imm v := by unfold doS; rw [e1, if_pos hz]
        have OO := H2 hz2
        rw [← q1, ← q2] at OO
        exact OO.back _ W'
      · have q1 : doS s n a b imm v = s := by unfold doS; rw [if_neg hz]
        have q2 : doS (s.reg r x) n a b imm v = s.reg r x := by unfold doS; rw [e1, if_neg hz]
        rw [q1, q2]
        exact O.back _ rfl
    have na : gRa (tabF (n : Int)) = true ∨ gWa (tabF (n : Int)) = true → r ≠ a := fun h e => by
      rcases h with h | h
      · rw [h, e] at r2; simp at r2
      · rw [h, e] at w2; simp at w2
    have nb : gRb (tabF (n : Int)) = true → r ≠ b := fun h e => by rw [h, e] at r3; simp at r3
    have n7 : n = 56 ∨ n = 57 → r ≠ 7 := fun h e => by rw [e, ri_stk n (by omega) h] at r1; simp at r1
    generalize nextS (s.reg r x) n = u at *
    generalize nextS s n = t at *
    rcases hc with hc | hc | hc | hc | hc
    · have hn : n = 0 := by omega
      subst hn
      refine ⟨rfl, fun _ => ?_⟩
      rw [show ((0 : Nat) : Int) = 0 from rfl, workS_nop, workS_nop]; exact ON
    · have ec : cls (n : Int) = 2 := by unfold cls; rw [if_neg (by omega), if_pos hc]
      have hra : r ≠ a := by
        apply na
        by_cases h16 : n = 16
        · right; exact wa_alu n (by omega) (by omega) (by rw [h16]; rfl)
        by_cases h32 : n = 32
        · right; exact wa_alu n (by omega) (by omega) (by rw [h32]; rfl)
        left; exact ra_alu n (by omega) (by omega) h16 h32
      have es : secN u n b imm = secN t n b imm := sec_off ON n b imm (fun q1 q2 => nb (rb_alu n (by omega) (by omega)))
      have er : u.r a = t.r a := ON.r a (fun e => hra e.symm)
      refine ⟨by unfold workF; rw [ec, es]; rfl, fun _ => ?_⟩
      rw [workS_alu _ _ _ _ _ _ hc, workS_alu _ _ _ _ _ _ hc]
      unfold reckS
      rw [es, er, ON.ps]
      exact (ON.regIf _ _ _).markIf _ _
    · have ec : cls (n : Int) = 3 := by unfold cls; rw [if_neg (by omega), if_neg (by omega), if_pos hc]
      have ea : adr u n b imm = adr t n b imm := adr_off ON n b imm (fun h => n7 (by omega)) (fun q1 q2 => nb (rb_mem n (by omega) (by omega) (by omega) (by omega)))
      refine ⟨by unfold workF wantF; rw [ec, ea]; rfl, fun _ => ?_⟩
      rw [workS_mem _ _ _ _ _ _ hc, workS_mem _ _ _ _ _ _ hc]
      unfold movS
      exact (ON.stack n (fun h => n7 (by omega))).regIf _ _ _
    · have ec : cls (n : Int) = 4 := by unfold cls; rw [if_neg (by omega), if_neg (by omega), if_neg (by omega), if_pos hc]
      refine ⟨by unfold workF; rw [ec]; rfl, fun _ => ?_⟩
      rw [workS_jmp _ _ _ _ _ _ hc, workS_jmp _ _ _ _ _ _ hc]
      exact ON.jmp n a imm (fun h => na (.inl (ra_jmp n (by omega) (by omega))))
    · have ec : cls (n : Int) = 5 := by rw [hc]; rfl
      refine ⟨by unfold workF; rw [ec]; rfl, fun h => ?_⟩
      unfold workF at h; rw [ec] at h
      exact absurd h (show ¬ (8 : Int) = 0 by decide)
theorem setB_range (op : Int) (a b : Nat) (imm : Int) (pa pb : Bool) (it : Int) (h0 : 0 ≤ it) (h1 : it < 256) : 0 ≤ setB (mayB (rowOf op true) a b imm) pa pb it a b ∧ setB (mayB (rowOf op true) a b imm) pa pb it a b < 256 := by
  unfold setB
  split
  · rename_i hm
    obtain ⟨ha, hb⟩ := may_reg op true a b imm hm
    exact orB_range pa pb it a b h0 h1 (by omega) (by omega)
  · exact ⟨by decide, by decide⟩
theorem rset_range (op : Int) (a b : Nat) (imm : Int) (h0 : 0 ≤ op) (h1 : op < 256) : 0 ≤ rset op a b imm ∧ rset op a b imm < 256 := by
  obtain ⟨n, rfl⟩ : ∃ n : Nat, op = n := ⟨op.toNat, by omega⟩
  obtain ⟨t0, t1, t2, t3⟩ := set_tab n (by omega)
  exact setB_range _ a b imm _ _ _ t2 t3
theorem wset_range (op : Int) (a b : Nat) (imm : Int) (h0 : 0 ≤ op) (h1 : op < 256) : 0 ≤ wset op a b imm ∧ wset op a b imm < 256 := by
  obtain ⟨n, rfl⟩ : ∃ n : Nat, op = n := ⟨op.toNat, by omega⟩
  obtain ⟨t0, t1, t2, t3⟩ := set_tab n (by omega)
  exact setB_range _ a b imm _ _ _ t0 t1
theorem pow_cast : ∀ r : Nat, (2 : Int) ^ r = ((2 ^ r : Nat) : Int)
  | 0 => rfl
  | r + 1 => by rw [Int.pow_succ, pow_cast r, Nat.pow_succ]; rfl
theorem bit_val (x : Int) (r : Nat) (h0 : 0 ≤ x) (h1 : x < 256) : bits .and .u8 (x / 2 ^ r) 1 = (if inS x r then 1 else 0) := by
  obtain ⟨n, rfl⟩ : ∃ n : Nat, x = n := ⟨x.toNat, by omega⟩
  have e : (n : Int) / 2 ^ r = ((n / 2 ^ r : Nat) : Int) := by rw [pow_cast r]; rfl
  have hl : n / 2 ^ r < 256 := Nat.lt_of_le_of_lt (Nat.div_le_self _ _) (by omega)
  rw [e, show (1 : Int) = ((1 : Nat) : Int) from rfl, u8_and_nat _ 1 hl (by decide), Nat.and_one_is_mod]
  unfold inS
  rw [Int.toNat_natCast, Nat.testBit_eq_decide_div_mod_eq]
  by_cases q : n / 2 ^ r % 2 = 1
  · rw [q]; simp
  · have : n / 2 ^ r % 2 = 0 := by omega
    rw [this]; simp
theorem bit_one (x : Int) (r : Nat) (h0 : 0 ≤ x) (h1 : x < 256) : (bits .and .u8 (x / 2 ^ r) 1 == 1) = inS x r := by
  rw [bit_val x r h0 h1]; cases inS x r <;> rfl
theorem bit_zero (x : Int) (r : Nat) (h0 : 0 ≤ x) (h1 : x < 256) : (bits .and .u8 (x / 2 ^ r) 1 == 0) = !inS x r := by
  rw [bit_val x r h0 h1]; cases inS x r <;> rfl
theorem inS_both (x y : Int) (r : Nat) (h0 : 0 ≤ x) (h1 : x < 256) (h2 : 0 ≤ y) (h3 : y < 256) : inS (bits .or .u8 x y) r = (inS x r || inS y r) ∧ 0 ≤ bits .or .u8 x y ∧ bits .or .u8 x y < 256 := by
  obtain ⟨n, rfl⟩ : ∃ n : Nat, x = n := ⟨x.toNat, by omega⟩
  obtain ⟨m, rfl⟩ : ∃ m : Nat, y = m := ⟨y.toNat, by omega⟩
  rw [u8_or_nat n m (by omega) (by omega)]
  have hl : n ||| m < 256 := Nat.or_lt_two_pow (n := 8) (by omega) (by omega)
  refine ⟨?_, by omega, by omega⟩
  unfold inS
  simp only [Int.toNat_natCast, Nat.testBit_or]
end Go.Proofs.YtjmcbohjkdbkbaaDoor
