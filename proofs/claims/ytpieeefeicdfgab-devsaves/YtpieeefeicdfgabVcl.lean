/- Cells that lie one behind the other; a slice of them cloned. -/
import Derived.Test.YtpieeefeicdfgabVsli
import Derived.Test.YtpieeefeicdfgabMram
import Derived.OwnWalk
namespace Go.Proofs.Ytpieeefeicdfgab
open Go.RowKit
set_option linter.unusedVariables false

/-- At x lie the cells zs. -/
def Lies (w : World) (x : Option Addr) (zs : List Value) : Prop := zs = [] ∨ ∃ b off : Nat, x = some ⟨b, off, none⟩ ∧ b < w.heap.size ∧ ∀ j u, zs[j]? = some u → w.cell? ⟨b, off + j, none⟩ = some u
theorem Lies.put {w w' : World} {x : Option Addr} {zs : List Value} {l : List Nat} (h : Lies w x zs) (k : Put l w w') (hl : ∀ b off, x = some ⟨b, off, none⟩ → b < w.heap.size → b ∉ l) : Lies w' x zs := by
  rcases h with h | ⟨b, off, e, hb, hc⟩
  · exact .inl h
  · exact .inr ⟨b, off, e, Nat.lt_of_lt_of_le hb k.size, fun j u hj => (k.cell hb (hl b off e hb)).trans (hc j u hj)⟩
theorem Lies.kep {w w' : World} {x : Option Addr} {zs : List Value} (h : Lies w x zs) (k : Kep w w') : Lies w' x zs := h.put (l := []) (Put.of_kep k) (by simp)
theorem Sli.lies {w : World} {e : TypeId} {z : Nat} {v : Value} {n : Nat} {xs : List Value} {F : List Nat} (h : Sli w e z v n xs F) : ∃ x cap, v = .slice x n cap ∧ Lies w x xs ∧ n ≤ cap ∧ cap ≤ maxLen ∧ (x = none → n = 0 ∧ cap = 0) := by
  rcases h.form with ⟨rfl, rfl, rfl, _⟩ | ⟨g, off, cap, rfl, _, h1, h2, hg, hc, _⟩
  · exact ⟨none, 0, rfl, .inl rfl, Nat.le_refl _, by simp [maxLen], fun _ => ⟨rfl, rfl⟩⟩
  · exact ⟨_, cap, rfl, .inr ⟨g, off, rfl, hg, hc⟩, h1, h2, fun e => by cases e⟩
theorem byt_ones (B : List Int) : ∀ u ∈ byt B, u.oneCell' = true := by
  intro u hu
  simp only [byt, List.mem_map] at hu
  obtain ⟨b, _, rfl⟩ := hu
  rfl

/-- An event: at which step, its kind, its byte. -/
abbrev Ev := Int × Int × Int
def evV (e : Ev) : List Value := [.int .i64 e.1, .int .i64 e.2.1, .int .u8 e.2.2]
def evs (E : List Ev) : List Value := E.flatMap evV
theorem evs_cons (e : Ev) (E : List Ev) : evs (e :: E) = evV e ++ evs E := rfl
theorem evs_append (E D : List Ev) : evs (E ++ D) = evs E ++ evs D := by simp [evs]
theorem evs_len : ∀ E : List Ev, (evs E).length = E.length * 3
  | [] => rfl
  | e :: E => by rw [evs_cons, List.length_append, evs_len E, List.length_cons]; simp [evV]; omega
theorem evs_drop (e : Ev) (E : List Ev) : (evs (e :: E)).drop 3 = evs E := rfl
theorem evs_ones (E : List Ev) : ∀ u ∈ evs E, u.oneCell' = true := by
  intro u hu
  obtain ⟨e, _, he⟩ := List.mem_flatMap.1 hu
  simp only [evV, List.mem_cons, List.not_mem_nil, or_false] at he
  rcases he with rfl | rfl | rfl <;> rfl
theorem evs_at : ∀ (E : List Ev) (k : Nat) (e : Ev), E[k]? = some e → ∀ j, j < 3 → (evs E)[k * 3 + j]? = (evV e)[j]?
  | [], k, e, h, j, hj => by simp at h
  | x :: E, 0, e, h, j, hj => by
    simp at h; subst h
    rw [evs_cons, List.getElem?_append_left (by simp [evV]; omega)]
    simp
  | x :: E, k + 1, e, h, j, hj => by
    rw [evs_cons, List.getElem?_append_right (by simp [evV]; omega), ← evs_at E k e (by simpa using h) j hj]
    congr 1; simp [evV]; omega

theorem info_ev : (Try.prog.info? 68).map (fun i => (i.zero, i.size, i.bytes)) = some (some (.agg #[.int .i64 0, .int .i64 0, .int .u8 0]), 3, 24) := by kernel_rfl
theorem vinfo_u8 : (Try.prog.info? 5).map (fun i => (i.zero, i.size, i.bytes)) = some (some (.int .u8 0), 1, 1) := by kernel_rfl
def zb64 : Array Value := (List.replicate 64 (Value.int .u8 0)).toArray
theorem info_blk : (Try.prog.info? 106).map (fun i => (i.zero, i.size, i.bytes)) = some (some (.agg zb64), 64, 64) := by kernel_rfl

theorem eqnil0 {P : Program} (w : World) (d : Nat) (t e : TypeId) (a : Option Addr) (l c : Nat) (h : P.underlying t = some (.slice e)) : (Op.equalIn (d + 1) t (.slice a l c) (.slice none 0 0)).run P w = .ok a.isNone w := by
  cases a <;> simp [Op.equalIn, run_underlying h]
theorem eqnil1 {P : Program} (w : World) (t e : TypeId) (a : Option Addr) (l c : Nat) (h : P.underlying t = some (.slice e)) : (Op.equal t (.slice a l c) (.slice none 0 0)).run P w = .ok a.isNone w := eqnil0 w 9999 t e a l c h
theorem eqnil (P : Program) (t e : TypeId) (a : Option Addr) (l c : Nat) (h : P.underlying t = some (.slice e)) (w : World) : (binOp .eql t (.slice a l c) (.slice none 0 0)).run P w = .ok (.bool a.isNone) w := by
  simp [binOp, eqnil1 w t e a l c h]

set_option maxHeartbeats 1000000 in
theorem clone_ev (w : World) (x : Option Addr) (n cap : Nat) (xs : List Value) (hl : xs.length = n * 3) (h : Lies w x xs) (h1 : ∀ u ∈ xs, u.oneCell' = true) (hn : (n : Int) * 24 ≤ 140737488355328) :
    Calls Try.prog 25 #[.slice x n cap] w fun e w' => ∃ v, e = .returned v ∧ w'.ownsRow w.heap.size 68 3 v n xs ∧ Kep w w' := by
  obtain ⟨i0, hi, hz0, hz1, hz2⟩ := info_parts info_ev
  cases x with
  | none =>
    have hq : ∀ w, (binOp .eql 22 (.slice none n cap) (.slice none 0 0)).run Try.prog w = .ok (.bool true) w := eqnil _ _ _ none n cap Try.underlying22
    have hx : xs = [] := by rcases h with h | ⟨_, _, e, _⟩; exact h; cases e
    subst hx
    have hn0 : n = 0 := by simp at hl; omega
    subst hn0
    clear hl h1 h hn
    go_enter Try.func25, Try.ntmps25
    go_wp2
    go_ret
    exact ⟨_, rfl, World.ownsRow_nil _ _ _ _, Kep.refl _⟩
  | some ad =>
    have hq : ∀ w, (binOp .eql 22 (.slice (some ad) n cap) (.slice none 0 0)).run Try.prog w = .ok (.bool false) w := eqnil _ _ _ (some ad) n cap Try.underlying22
    have hs : Hid (∀ j u, xs[j]? = some u → (w.alloc (.cells #[] 68)).cell? (ad.add j) = some u) := fun j u hj => by
      rcases (h.kep ((Kep.refl w).alloc (.cells #[] 68))) with rfl | ⟨b, off, e, _, hc⟩
      · simp at hj
      · cases e; rw [Addr.add_lit]; exact hc j u hj
    have hl' : Hid (xs.length = n * 3) := hl
    have h1' : Hid (∀ u ∈ xs, u.oneCell' = true) := h1
    clear h hl h1
    go_enter Try.func25, Try.ntmps25
    go_wp2_with (at_builtin; refine wpList_append_own _ rfl _ _ 22 rfl w.heap.size 68 i0 _ 3 24 Try.underlying22 hi hz0 hz1 hz2 rfl (by decide) (.slice (some ⟨w.heap.size, 0, none⟩) 0 0) 0 [] rfl (World.ownsRow_made w #[] 0 (Nat.le_refl _) (by simp) (by simp)) ad n cap xs rfl hl'.out hs.out h1'.out (by unfold maxLen; omega) (by omega) (by simp) ?_; intro v' w1 hown hgrow _)
    go_ret
    refine ⟨_, rfl, by simpa using hown, ((Kep.refl w).alloc _).by hgrow ?_⟩
    intro k hk
    simp [Value.ownBlock] at hk; omega

set_option maxHeartbeats 1000000 in
theorem clone_u8 (w : World) (x : Option Addr) (n cap : Nat) (xs : List Value) (hl : xs.length = n * 1) (h : Lies w x xs) (h1 : ∀ u ∈ xs, u.oneCell' = true) (hn : (n : Int) * 1 ≤ 140737488355328) :
    Calls Try.prog 51 #[.slice x n cap] w fun e w' => ∃ v, e = .returned v ∧ w'.ownsRow w.heap.size 5 1 v n xs ∧ Kep w w' := by
  obtain ⟨i0, hi, hz0, hz1, hz2⟩ := info_parts vinfo_u8
  cases x with
  | none =>
    have hq : ∀ w, (binOp .eql 37 (.slice none n cap) (.slice none 0 0)).run Try.prog w = .ok (.bool true) w := eqnil _ _ _ none n cap Try.underlying37
    have hx : xs = [] := by rcases h with h | ⟨_, _, e, _⟩; exact h; cases e
    subst hx
    have hn0 : n = 0 := by simp at hl; omega
    subst hn0
    clear hl h1 h hn
    go_enter Try.func51, Try.ntmps51
    go_wp2
    go_ret
    exact ⟨_, rfl, World.ownsRow_nil _ _ _ _, Kep.refl _⟩
  | some ad =>
    have hq : ∀ w, (binOp .eql 37 (.slice (some ad) n cap) (.slice none 0 0)).run Try.prog w = .ok (.bool false) w := eqnil _ _ _ (some ad) n cap Try.underlying37
    have hs : Hid (∀ j u, xs[j]? = some u → (w.alloc (.cells #[] 5)).cell? (ad.add j) = some u) := fun j u hj => by
      rcases (h.kep ((Kep.refl w).alloc (.cells #[] 5))) with rfl | ⟨b, off, e, _, hc⟩
      · simp at hj
      · cases e; rw [Addr.add_lit]; exact hc j u hj
    have hl' : Hid (xs.length = n * 1) := hl
    have h1' : Hid (∀ u ∈ xs, u.oneCell' = true) := h1
    clear h hl h1
    go_enter Try.func51, Try.ntmps51
    go_wp2_with (at_builtin; refine wpList_append_own _ rfl _ _ 37 rfl w.heap.size 5 i0 _ 1 1 Try.underlying37 hi hz0 hz1 hz2 rfl (by decide) (.slice (some ⟨w.heap.size, 0, none⟩) 0 0) 0 [] rfl (World.ownsRow_made w #[] 0 (Nat.le_refl _) (by simp) (by simp)) ad n cap xs rfl hl'.out hs.out h1'.out (by unfold maxLen; omega) (by omega) (by simp) ?_; intro v' w1 hown hgrow _)
    go_ret
    refine ⟨_, rfl, by simpa using hown, ((Kep.refl w).alloc _).by hgrow ?_⟩
    intro k hk
    simp [Value.ownBlock] at hk; omega

end Go.Proofs.Ytpieeefeicdfgab
