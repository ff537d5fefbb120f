/- Part of a proof. -/
import Derived.Deep.QuietTactic
import Derived.BigQuiet
import Derived.OrdersHeld
import Derived.Deep.RegionHeld
import Derived.Test.YtamffningddgbaaGreatDoorJ13
namespace Go.Proofs.YtamffningddgbaaGreatDoor
open Go.RowKit
set_option linter.unusedVariables false
set_option linter.unusedSimpArgs false
theorem one_I (B : List Int) (ix : List Nat) (s : Sta) (x : SB) : (x.one B ix s).I = x.I ++ [insF4 B ix (s.go x.n)] := rfl
theorem one_A (B : List Int) (ix : List Nat) (s : Sta) (x : SB) : (x.one B ix s).A = x.A ++ [x.n] := rfl
theorem run_pre (B : List Int) (ix : List Nat) (s : Sta) : ∀ (k : Nat) (x : SB), x.I <+: (SB.run B ix s k x).I ∧ x.A <+: (SB.run B ix s k x).A
  | 0, x => ⟨List.prefix_refl _, List.prefix_refl _⟩
  | k + 1, x => by
    cases h : x.stop B ix s with
    | true => rw [run_stop _ h]; exact ⟨List.prefix_refl _, List.prefix_refl _⟩
    | false =>
      rw [run_on _ h]
      have h1 : x.I <+: (x.one B ix s).I := ⟨_, rfl⟩
      have h2 : x.A <+: (x.one B ix s).A := ⟨_, rfl⟩
      split
      · exact ⟨h1.trans (run_pre B ix s k _).1, h2.trans (run_pre B ix s k _).2⟩
      · exact ⟨h1, h2⟩
theorem run_same (B : List Int) (ix : List Nat) (s : Sta) : ∀ (k : Nat) (x : SB), x.I.length = x.A.length → (SB.run B ix s k x).I.length = (SB.run B ix s k x).A.length
  | 0, x, h => h
  | k + 1, x, hx => by
    have h1 : (x.one B ix s).I.length = (x.one B ix s).A.length := by rw [one_I, one_A]; simp [hx]
    cases h : x.stop B ix s with
    | true => rw [run_stop _ h]; exact hx
    | false =>
      rw [run_on _ h]
      split
      · exact run_same B ix s k _ h1
      · exact h1
theorem run_less (B : List Int) (ix : List Nat) (s : Sta) : ∀ (k l : Nat) (x : SB), k ≤ l → x.I.length = x.A.length →
    (SB.run B ix s k x).I <+: (SB.run B ix s l x).I ∧ (SB.run B ix s k x).A <+: (SB.run B ix s l x).A ∧
    (SB.run B ix s k x = SB.run B ix s l x ∨ ((SB.run B ix s k x).I.length = x.I.length + k ∧ (k = 0 ∨ (SB.run B ix s k x).e = 1) ∧ (SB.run B ix s l x).A[x.I.length + k]? = some (SB.run B ix s k x).n))
  | 0, l, x, _, hx => by
    refine ⟨(run_pre B ix s l x).1, (run_pre B ix s l x).2, ?_⟩
    cases l with
    | zero => exact .inl rfl
    | succ l =>
      cases h : x.stop B ix s with
      | true => rw [run_stop (l + 1) h]; exact .inl rfl
      | false =>
        refine .inr ⟨rfl, .inl rfl, ?_⟩
        rw [run_on _ h]
        have h0 : (x.one B ix s).A[x.I.length]? = some x.n := by rw [one_A, hx]; simp
        split
        · obtain ⟨t, ht⟩ := (run_pre B ix s l (x.one B ix s)).2
          rw [← ht, Nat.add_zero, List.getElem?_append_left (by rw [one_A, hx]; simp)]
          exact h0
        · exact h0
  | k + 1, 0, x, h, _ => by omega
  | k + 1, l + 1, x, hkl, hx => by
    cases h : x.stop B ix s with
    | true => rw [run_stop _ h, run_stop _ h]; exact ⟨List.prefix_refl _, List.prefix_refl _, .inl rfl⟩
    | false =>
      have h1 : (x.one B ix s).I.length = (x.one B ix s).A.length := by rw [one_I, one_A]; simp [hx]
      have hl : (x.one B ix s).I.length = x.I.length + 1 := by rw [one_I]; simp
      rw [run_on _ h, run_on _ h]
      split
      · rename_i he
        obtain ⟨a, b, c⟩ := run_less B ix s k l (x.one B ix s) (by omega) h1
        refine ⟨a, b, c.imp id ?_⟩
        rintro ⟨c1, c2, c3⟩
        refine ⟨by omega, .inr ?_, ?_⟩
        · rcases c2 with rfl | c2
          · exact he
          · exact c2
        · rw [show x.I.length + (k + 1) = (x.one B ix s).I.length + k by omega]; exact c3
      · exact ⟨List.prefix_refl _, List.prefix_refl _, .inl rfl⟩
theorem scn_same (B : List Int) (ix : List Nat) (s : Sta) (m : Int) : (scnB B ix s m).I.length = (scnB B ix s m).A.length := run_same B ix s _ _ rfl
theorem scn_less (B : List Int) (ix : List Nat) (s : Sta) (m m' : Int) (h1 : 1 ≤ m) (h2 : m ≤ 32) (h : m ≤ m') :
    (scnB B ix s m).I <+: (scnB B ix s m').I ∧ (scnB B ix s m).A <+: (scnB B ix s m').A ∧
    ((scnB B ix s m).I.length = (scnB B ix s m').I.length ∨ (((scnB B ix s m).I.length : Int) = m ∧ (scnB B ix s m).e = 1 ∧ (scnB B ix s m').A[m.toNat]? = some (scnB B ix s m).n)) := by
  have hm : mstN m = m.toNat := by unfold mstN; congr 1; omega
  obtain ⟨a, b, c⟩ := run_less B ix s (mstN m) (mstN m') (sb0 s) (by unfold mstN; omega) rfl
  refine ⟨a, b, ?_⟩
  rcases c with c | ⟨c1, c2, c3⟩
  · exact .inl (by unfold scnB; rw [c])
  · refine .inr ⟨?_, ?_, ?_⟩
    · have : (scnB B ix s m).I.length = 0 + mstN m := c1
      rw [hm] at this; omega
    · rcases c2 with c2 | c2
      · rw [hm] at c2; omega
      · exact c2
    · have : (scnB B ix s m').A[0 + mstN m]? = some (scnB B ix s m).n := c3
      rwa [hm, Nat.zero_add] at this
structure KW (w : World) where
  val : World
  ok : Kep w val
theorem quiet_row {P : Program} {ops : Array Oper} {C : World → Prop} {Q : Act → Prop} {a : Act} {o : Oper} {rest : List Oper} (ty : TypeId) (x : Operand) (ho : o.op = .load ty x) (g : Nat) (hx : a.eval x = .pointer (some ⟨g, 0, none⟩)) (hw : Region.wanted o (yielded ops a.tmps) = true)
    (t : TypeId) (cs : Array Value) (fr : Nat × Nat) (d : TypeDesc) (hC : ∀ w, C w → w.heap[g]? = some (.cells cs t fr)) (hu : P.underlying ty = some d) (hd : (match d with | .struct _ | .array _ _ => true | _ => false) = true) (hi : (P.info? ty).map (·.size) = some cs.size)
    (h : wpQuiet P ops C Q rest (a.put o.dst (.agg cs))) : wpQuiet P ops C Q (o :: rest) a :=
  wpQuiet_step fun K hK => by
    rw [if_pos hw]
    refine ⟨.agg cs, fun w hc => ?_, hK _ h⟩
    unfold Oper.quietAt execOp
    simp only [ho, hx, Instr.loadAt, Instr.sureAddr, Sem.run_bind, Sem.run_pure, Result.andThen_ok, run_loadVar_row w g t ty cs fr d (hC w hc) hu hd hi]
    exact ⟨rfl, rfl⟩
theorem yields_row {P : Program} {ops : Array Oper} {S : World → Prop} {o : Oper} {a : Act} (hg : o.guard = none) (ty : TypeId) (x : Operand) (ho : o.op = .load ty x) (g : Nat) (hx : a.eval x = .pointer (some ⟨g, 0, none⟩)) (t : TypeId) (cs : Array Value) (fr : Nat × Nat) (d : TypeDesc)
    (hS : ∀ w, S w → w.heap[g]? = some (.cells cs t fr)) (hu : P.underlying ty = some d) (hd : (match d with | .struct _ | .array _ _ => true | _ => false) = true) (hi : (P.info? ty).map (·.size) = some cs.size) : YieldsIf P ops S o (.agg cs) a :=
  .inl ⟨by simp [Region.wanted, hg], fun w h => by
    unfold execOp
    simp only [ho, hx, Instr.loadAt, Instr.sureAddr, Sem.run_bind, Sem.run_pure, Result.andThen_ok, run_loadVar_row w g t ty cs fr d (hS w h) hu hd hi]⟩
end Go.Proofs.YtamffningddgbaaGreatDoor
