/- What each silent instruction comes to in the two rings, from one state. -/
import Derived.Test.YtaifildofgeonaaDoorNworks
import Derived.Test.YtaifildofgeonaaDoorNthere
import Derived.Test.YtaifildofgeonaaDoorNeq
import Derived.Test.YtaifildofgeonaaDoorCeq
import Derived.Deep.MidRow
namespace Go.Proofs.YtaifildofgeonaaDoor
open Go.RowKit
set_option linter.unusedVariables false
set_option linter.unusedSimpArgs false

/-- The state in the system's ring, and the one in the user ring. -/
def zS (x y : Nat) : Sta := ((u0.reg x 0).ctl y 9).ctl 2 7
def yS (x y : Nat) : Sta := (zS x y).mark 3
/-- The five instructions, as they lie. -/
def fiveL (x y : Nat) : List Value := [.int .u8 2, .int .u8 0, .int .u8 0, .int .i32 0, .int .u8 3, .int .u8 0, .int .u8 0, .int .i32 0, .int .u8 96, .int .u8 x, .int .u8 0, .int .i32 0, .int .u8 97, .int .u8 x, .int .u8 0, .int .i32 0, .int .u8 98, .int .u8 x, .int .u8 y, .int .i32 0]
theorem u0_ok : u0.Ok := ⟨fun _ => by show (0 : Int) ≤ 0 ∧ (0 : Int) < 4294967296; decide, by decide, by decide, fun _ => by show (0 : Int) ≤ 0 ∧ (0 : Int) < 4294967296; decide⟩
theorem z_ok (x y : Nat) : (zS x y).Ok := Sta.Ok.ctl (Sta.Ok.ctl (u0_ok.reg x 0 (by decide) (by decide)) y 9 (by decide) (by decide)) 2 7 (by decide) (by decide)
theorem y_ok (x y : Nat) : (yS x y).Ok := (z_ok x y).mark 3 (by decide) (by decide)
theorem sdo_ok (s : Sta) (ok : s.Ok) (op : Int) (a b : Nat) (imm n : Int) (hn : 0 ≤ n ∧ n < 4294967296) : (sdoS s op a b imm n).Ok := by
  have okn := next9_ok ok op
  have hm := fun x (h : 0 ≤ x ∧ x < 4294967296) => msk_range x h
  have hf : ∀ x k : Int, 0 ≤ x ∧ x < 4294967296 → 0 ≤ flgI x (k / 16 % 16 * 16) ∧ flgI x (k / 16 % 16 * 16) < 4294967296 := by intro x k h; unfold flgI; omega
  rcases sdo_cases s op a b imm n with ⟨_, e1, e2⟩ | ⟨_, _, _, e1, e2⟩ | ⟨_, _, e1, e2⟩
  · rw [e1]; exact ok
  · rw [e1]; exact ok
  · rw [e1]
    unfold senS
    repeat' split
    all_goals first
      | exact okn
      | exact ⟨okn.r, okn.pc, okn.ps, okn.c⟩
      | exact (okn.go _ (okn.c 2).1 (okn.c 2).2).mark _ (hm _ (okn.c 3)).1 (hm _ (okn.c 3)).2
      | exact okn.reg _ _ okn.ps.1 okn.ps.2
      | exact okn.mark _ (hf _ _ okn.ps).1 (hf _ _ okn.ps).2
      | exact okn.mark _ (hm _ (okn.r a)).1 (hm _ (okn.r a)).2
      | exact okn.reg _ _ (by decide) (by decide)
      | exact okn.reg _ _ (okn.c b).1 (okn.c b).2
      | exact okn.ctl _ _ (okn.r a).1 (okn.r a).2
      | exact okn.reg _ _ hn.1 hn.2
theorem lits_r {s t : Sta} (h : s.lits = t.lits) (n : Nat) (hn : n < 8) : s.r n = t.r n := by
  simp only [Sta.lits, List.cons.injEq, Lit.int.injEq, true_and] at h
  exact eight (p := fun n => s.r n = t.r n) ⟨h.1, h.2.1, h.2.2.1, h.2.2.2.1, h.2.2.2.2.1, h.2.2.2.2.2.1, h.2.2.2.2.2.2.1, h.2.2.2.2.2.2.2.1⟩ n hn
theorem lits_pc {s t : Sta} (h : s.lits = t.lits) : s.pc = t.pc := by
  simp only [Sta.lits, List.cons.injEq, Lit.int.injEq, true_and] at h
  exact h.2.2.2.2.2.2.2.2.1
theorem lits_ps {s t : Sta} (h : s.lits = t.lits) : s.ps = t.ps := by
  simp only [Sta.lits, List.cons.injEq, Lit.int.injEq, true_and] at h
  exact h.2.2.2.2.2.2.2.2.2.1
theorem may_five : ∀ x : Nat, x < 8 → isS 96 x (0 : Nat) 0 = true ∧ isS 97 x (0 : Nat) 0 = true ∧ isS 2 (0 : Nat) (0 : Nat) 0 = true ∧ isS 3 (0 : Nat) (0 : Nat) 0 = true := by decide
theorem done_sys (s : Sta) (op : Int) (a b : Nat) (hi : isS op a b 0 = true) (hu : usr s = false) : sdoS s op a b 0 0 = senS (nextS s op) op a b 0 ∧ sdoE s op a b 0 = senE (nextS s op) op a b := by
  unfold sdoS sdoE
  rw [if_neg (by rw [hi]; decide), if_neg (by rw [hu]; simp), if_neg (by rw [hi]; decide), if_neg (by rw [hu]; simp)]
  exact ⟨rfl, rfl⟩
theorem done_usr (s : Sta) (op : Int) (a b : Nat) (hi : isS op a b 0 = true) (hf : forb op = false) : sdoS s op a b 0 0 = senS (nextS s op) op a b 0 ∧ sdoE s op a b 0 = senE (nextS s op) op a b := by
  unfold sdoS sdoE
  rw [if_neg (by rw [hi]; decide), if_neg (by rw [hf]; simp), if_neg (by rw [hi]; decide), if_neg (by rw [hf]; simp)]
  exact ⟨rfl, rfl⟩
theorem z_c2 (x y : Nat) : (zS x y).c 2 = 7 := by
  show up (up (fun _ => (0 : Int)) y 9) 2 7 2 = 7
  exact up_same _ _ _
theorem z_cy (x y : Nat) : (zS x y).c y ≠ 0 := by
  show up (up (fun _ => (0 : Int)) y 9) 2 7 y ≠ 0
  unfold up
  split
  · decide
  · rw [if_pos rfl]; decide
theorem z_rx (x y : Nat) : (zS x y).r x = 0 := up_same _ _ _
theorem z_usr (x y : Nat) : usr (zS x y) = false := rfl
theorem y_usr (x y : Nat) : usr (yS x y) = true := rfl
/-- Two outcomes that the comparison tells apart. -/
def Apart (S1 S2 : Sta) (E1 E2 : Eff) : Prop := E1.k = 0 ∧ E2.k = 0 ∧ (0 ≤ S2.ps ∧ S2.ps < 4294967296) ∧ ((∀ w, (Op.equalIn 10000 25 (.agg S1.v) (.agg (S2.mark (sysI S2.ps)).v)).run Tryd.prog w = .ok false w) ∨ (S1 = S2.mark (sysI S2.ps) ∧ E1.f = true ∧ E2.f = false))
theorem range_five (x y k : Nat) (op : Int) (a b : Nat) (hk : (fiveL x y).drop (k * 4) = (insA op a b 0).toList ++ (fiveL x y).drop (k * 4 + 4)) (w : World) (g : Nat) (h : w.heap[g]? = some (.cells (fiveL x y).toArray 27 (0, 0))) : w.rangeAt g (k * 4) (insA op a b 0).toList := fun j v hv => by
  have hj : j < (insA op a b 0).toList.length := (List.getElem?_eq_some_iff.1 hv).1
  rw [cell_of_block h, List.getElem?_toArray, ← List.getElem?_drop, hk, List.getElem?_append_left hj, hv]
theorem apart_of (x y : Nat) (op : Int) (a b : Nat) (hd : (sdoS (zS x y) op a b 0 0).lits ≠ ((sdoS (yS x y) op a b 0 0).mark (sysI (sdoS (yS x y) op a b 0 0).ps)).lits) (h1 : (sdoE (zS x y) op a b 0).k = 0) (h2 : (sdoE (yS x y) op a b 0).k = 0) :
    Apart (sdoS (zS x y) op a b 0 0) (sdoS (yS x y) op a b 0 0) (sdoE (zS x y) op a b 0) (sdoE (yS x y) op a b 0) := by
  have o1 := sdo_ok _ (z_ok x y) op a b 0 0 (by decide)
  have o2 := sdo_ok _ (y_ok x y) op a b 0 0 (by decide)
  have hr := sysI_range _ o2.ps
  exact ⟨h1, h2, o2.ps, .inl fun w => sta_differ _ _ o1 (o2.mark _ hr.1 hr.2) hd w⟩
/-- Each of the five. -/
theorem five_of (x y : Nat) (hx : x < 8) (hy : y < 8) (k : Nat) (hk : k < 5) : ∃ (op : Int) (a b : Nat), (0 ≤ op ∧ op < 256) ∧ (∀ (w : World) (g : Nat), w.heap[g]? = some (.cells (fiveL x y).toArray 27 (0, 0)) → w.rangeAt g (k * 4) (insA op a b 0).toList) ∧
    Apart (sdoS (zS x y) op a b 0 0) (sdoS (yS x y) op a b 0 0) (sdoE (zS x y) op a b 0) (sdoE (yS x y) op a b 0) := by
  obtain ⟨m96, m97, m2, m3⟩ := may_five x hx
  have m98 := (may_cr x hx y hy).2
  have hz := fun op : Int => (show usr (nextS (zS x y) op) = false from z_usr x y)
  have hw := fun op : Int => (show usr (nextS (yS x y) op) = true from y_usr x y)
  rcases (by omega : k = 0 ∨ k = 1 ∨ k = 2 ∨ k = 3 ∨ k = 4) with rfl | rfl | rfl | rfl | rfl
  · obtain ⟨a1, a2⟩ := done_sys (zS x y) 2 0 0 m2 (z_usr x y)
    obtain ⟨c1, c2⟩ := done_usr (yS x y) 2 0 0 m2 (by decide)
    refine ⟨2, 0, 0, by decide, fun w g h => range_five x y 0 2 0 0 rfl w g h, apart_of x y 2 0 0 ?_ (by rw [a2]; exact senE_k _ _ _ _) (by rw [c2]; exact senE_k _ _ _ _)⟩
    intro he
    have := lits_pc he
    rw [a1, c1, show senS (nextS (zS x y) 2) 2 0 0 0 = ((nextS (zS x y) 2).go ((nextS (zS x y) 2).c 2)).mark (mskI ((nextS (zS x y) 2).c 3)) by simp [senS, hz], show senS (nextS (yS x y) 2) 2 0 0 0 = nextS (yS x y) 2 by simp [senS, hw]] at this
    have h7 : (zS x y).c 2 = 41 := this
    rw [z_c2] at h7
    exact absurd h7 (by decide)
  · obtain ⟨a1, a2⟩ := done_sys (zS x y) 3 0 0 m3 (z_usr x y)
    obtain ⟨c1, c2⟩ := done_usr (yS x y) 3 0 0 m3 (by decide)
    refine ⟨3, 0, 0, by decide, fun w g h => range_five x y 1 3 0 0 rfl w g h, ?_⟩
    rw [a1, a2, c1, c2, show senS (nextS (zS x y) 3) 3 0 0 0 = nextS (zS x y) 3 by simp [senS], show senS (nextS (yS x y) 3) 3 0 0 0 = nextS (yS x y) 3 by simp [senS], show senE (nextS (zS x y) 3) 3 0 0 = { e0 0 with f := true } by simp [senE, e0, hz], show senE (nextS (yS x y) 3) 3 0 0 = e0 0 by simp [senE, e0, hw]]
    exact ⟨rfl, rfl, (by decide : 0 ≤ (3 : Int) ∧ (3 : Int) < 4294967296), .inr ⟨rfl, rfl, rfl⟩⟩
  · obtain ⟨a1, a2⟩ := done_sys (zS x y) 96 x 0 m96 (z_usr x y)
    obtain ⟨c1, c2⟩ := done_usr (yS x y) 96 x 0 m96 (by decide)
    refine ⟨96, x, 0, by decide, fun w g h => range_five x y 2 96 x 0 rfl w g h, apart_of x y 96 x 0 ?_ (by rw [a2]; exact senE_k _ _ _ _) (by rw [c2]; exact senE_k _ _ _ _)⟩
    intro he
    have := lits_r he x hx
    rw [a1, c1, show senS (nextS (zS x y) 96) 96 x 0 0 = (nextS (zS x y) 96).reg x (nextS (zS x y) 96).ps by simp [senS], show senS (nextS (yS x y) 96) 96 x 0 0 = (nextS (yS x y) 96).reg x (nextS (yS x y) 96).ps by simp [senS]] at this
    have h2 : up (zS x y).r x 2 x = up (yS x y).r x 3 x := this
    rw [up_same, up_same] at h2
    exact absurd h2 (by decide)
  · obtain ⟨a1, a2⟩ := done_sys (zS x y) 97 x 0 m97 (z_usr x y)
    obtain ⟨c1, c2⟩ := done_usr (yS x y) 97 x 0 m97 (by decide)
    refine ⟨97, x, 0, by decide, fun w g h => range_five x y 3 97 x 0 rfl w g h, apart_of x y 97 x 0 ?_ (by rw [a2]; exact senE_k _ _ _ _) (by rw [c2]; exact senE_k _ _ _ _)⟩
    intro he
    have := lits_ps he
    rw [a1, c1, show senS (nextS (zS x y) 97) 97 x 0 0 = (nextS (zS x y) 97).mark (mskI ((nextS (zS x y) 97).r x)) by simp [senS, hz], show senS (nextS (yS x y) 97) 97 x 0 0 = (nextS (yS x y) 97).mark (flgI (nextS (yS x y) 97).ps ((nextS (yS x y) 97).r x / 16 % 16 * 16)) by simp [senS, hw]] at this
    have h2 : mskI ((zS x y).r x) = sysI (flgI 3 ((zS x y).r x / 16 % 16 * 16)) := this
    rw [z_rx] at h2
    exact absurd h2 (by decide)
  · obtain ⟨a1, a2⟩ := done_sys (zS x y) 98 x y m98 (z_usr x y)
    obtain ⟨c1, c2⟩ := done_usr (yS x y) 98 x y m98 (by decide)
    refine ⟨98, x, y, by decide, fun w g h => range_five x y 4 98 x y rfl w g h, apart_of x y 98 x y ?_ (by rw [a2]; exact senE_k _ _ _ _) (by rw [c2]; exact senE_k _ _ _ _)⟩
    intro he
    have := lits_r he x hx
    rw [a1, c1, show senS (nextS (zS x y) 98) 98 x y 0 = (nextS (zS x y) 98).reg x ((nextS (zS x y) 98).c y) by simp [senS, hz], show senS (nextS (yS x y) 98) 98 x y 0 = (nextS (yS x y) 98).reg x 0 by simp [senS, hw]] at this
    have h2 : up (zS x y).r x ((zS x y).c y) x = up (yS x y).r x 0 x := this
    rw [up_same, up_same] at h2
    exact absurd h2 (z_cy x y)
/-- What lies there all the time. -/
structure In3 (w : World) (p q g x y : Nat) : Prop where
  z : w.heap[p]? = some (.cells (zS x y).v 25 (0, 0))
  u : w.heap[q]? = some (.cells (yS x y).v 25 (0, 0))
  l : w.heap[g]? = some (.cells (fiveL x y).toArray 27 (0, 0))
theorem In3.kep {w w' : World} {p q g x y : Nat} (h : In3 w p q g x y) (k : Kep w w') : In3 w' p q g x y := ⟨k.block h.z, k.block h.u, k.block h.l⟩
theorem In3.setRow {w : World} {p q g x y : Nat} (h : In3 w p q g x y) {b : Nat} (h1 : p ≠ b) (h2 : q ≠ b) (h3 : g ≠ b) (cs : Array Value) : In3 (w.setRow b cs) p q g x y :=
  ⟨(setRow_other _ _ _ _ h1).trans h.z, (setRow_other _ _ _ _ h2).trans h.u, (setRow_other _ _ _ _ h3).trans h.l⟩
end Go.Proofs.YtaifildofgeonaaDoor
