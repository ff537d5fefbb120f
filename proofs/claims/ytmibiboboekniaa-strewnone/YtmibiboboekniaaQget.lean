/- What a map of a guest's frames answers. -/
import Derived.Test.YtmibiboboekniaaQnew
import Derived.Test.YtmibiboboekniaaQsame
namespace Go.Proofs.Ytmibiboboekniaa
open Go.RowKit
set_option linter.unusedVariables false
set_option linter.unusedSimpArgs false

theorem host_yes {w : World} {p R M n : Nat} {l : List Int} {f : Int → Option Int} (h : MapAt w p R M l n f) (k : Nat) (hk : (k : Int) < l.length) (hl : (l.length : Int) ≤ 64) :
    Calls Try.prog 14 #[.pointer (some ⟨p, 0, none⟩), .int .i64 k] w fun e w' => e = .returned (.tuple #[.int .i64 (l.getD k 0), .bool true]) ∧ w' = w := by
  have d0 : w.cell? ⟨p, 0, none⟩ = some (.slice (some ⟨R, 0, none⟩) l.length l.length) := by rw [cell_of_block h.box]; rfl
  have d2 := h.row.cell (k := k) (by omega)
  clear h
  generalize l.getD k 0 = a at d2
  generalize l.length = m at d0 hk hl
  go_enter Try.func14, Try.ntmps14
  go_wp2
  go_ret2
  exact ⟨rfl, rfl⟩
theorem host_no {w : World} {p R M n : Nat} {l : List Int} {f : Int → Option Int} (h : MapAt w p R M l n f) (k : Int) (hk : k < 0 ∨ l.length ≤ k) :
    Calls Try.prog 14 #[.pointer (some ⟨p, 0, none⟩), .int .i64 k] w fun e w' => e = .returned (.tuple #[.int .i64 0, .bool false]) ∧ w' = w := by
  have d0 : w.cell? ⟨p, 0, none⟩ = some (.slice (some ⟨R, 0, none⟩) l.length l.length) := by rw [cell_of_block h.box]; rfl
  clear h
  generalize l.length = m at d0 hk
  rcases (by omega : k < 0 ∨ (0 ≤ k ∧ (m : Int) ≤ k)) with hk | ⟨h0, hk⟩
  all_goals
    go_enter Try.func14, Try.ntmps14
    go_wp2
    go_ret2
    exact ⟨rfl, rfl⟩
theorem guest_any {w : World} {p R M n : Nat} {l : List Int} {f : Int → Option Int} (h : MapAt w p R M l n f) (k : Int) (hk : I64 k) :
    Calls Try.prog 15 #[.pointer (some ⟨p, 0, none⟩), .int .i64 k] w fun e w' => e = .returned (.tuple #[.int .i64 ((f k).getD 0), .bool (f k).isSome]) ∧ w' = w := by
  have d1 : w.cell? ⟨p, 1, none⟩ = some (.map (some M)) := by rw [cell_of_block h.box]; rfl
  have hu := h.map.look k hk
  clear h
  generalize (f k).getD 0 = a at hu
  generalize (f k).isSome = b at hu
  go_enter Try.func15, Try.ntmps15
  go_wp2
  go_ret2
  exact ⟨rfl, rfl⟩

theorem qeqnil0 {P : Program} (w : World) (d : Nat) (t e : TypeId) (a : Option Addr) (l c : Nat) (h : P.underlying t = some (.slice e)) : (Op.equalIn (d + 1) t (.slice a l c) (.slice none 0 0)).run P w = .ok a.isNone w := by
  cases a <;> simp [Op.equalIn, run_underlying h]
theorem qeqnil1 {P : Program} (w : World) (t e : TypeId) (a : Option Addr) (l c : Nat) (h : P.underlying t = some (.slice e)) : (Op.equal t (.slice a l c) (.slice none 0 0)).run P w = .ok a.isNone w := qeqnil0 w 9999 t e a l c h
theorem qeqnil (P : Program) (t e : TypeId) (a : Option Addr) (l c : Nat) (h : P.underlying t = some (.slice e)) (w : World) : (binOp .eql t (.slice a l c) (.slice none 0 0)).run P w = .ok (.bool a.isNone) w := by
  simp [binOp, qeqnil1 w t e a l c h]
theorem ints_ones (l : List Int) : ∀ u ∈ ints l, u.oneCell' = true := by
  intro u hu
  simp only [ints, List.mem_map] at hu
  obtain ⟨b, _, rfl⟩ := hu
  rfl

set_option maxHeartbeats 1000000 in
theorem clone_ints {w : World} {R : Nat} {l : List Int} (cap : Nat) (h : RowT w R l []) (hn : (l.length : Int) ≤ 512) :
    Calls Try.prog 17 #[.slice (some ⟨R, 0, none⟩) l.length cap] w fun e w' => ∃ v, e = .returned v ∧ w'.ownsRow w.heap.size 3 1 v l.length (ints l) ∧ Kep w w' := by
  obtain ⟨i0, hi, hz0, hz1, hz2⟩ := info_parts info_i64
  have hq : ∀ w, (binOp .eql 24 (.slice (some ⟨R, 0, none⟩) l.length cap) (.slice none 0 0)).run Try.prog w = .ok (.bool false) w := qeqnil _ _ _ (some _) _ cap Try.underlying24
  have hs : Hid (∀ j u, (ints l)[j]? = some u → (w.alloc (.cells #[] 3)).cell? ((⟨R, 0, none⟩ : Addr).add j) = some u) := fun j u hj => by
    have hjl : j < l.length := by have := (List.getElem?_eq_some_iff.1 hj).1; rwa [ints_len] at this
    have := (h.kep ((Kep.refl w).alloc (.cells #[] 3))).cell hjl
    rw [ints_at hjl] at hj
    simp only [Option.some.injEq] at hj
    subst hj
    rw [Addr.add_lit, Nat.zero_add]; exact this
  have hl' : Hid ((ints l).length = l.length * 1) := by rw [Hid, ints_len, Nat.mul_one]
  have h1' : Hid (∀ u ∈ ints l, u.oneCell' = true) := ints_ones l
  clear h
  generalize ints l = xs at hs hl' h1'
  generalize l.length = n at *
  go_enter Try.func17, Try.ntmps17
  go_wp2_with (at_builtin; refine wpList_append_own _ rfl _ _ 24 rfl w.heap.size 3 i0 _ 1 8 Try.underlying24 hi hz0 hz1 hz2 rfl (by decide) (.slice (some ⟨w.heap.size, 0, none⟩) 0 0) 0 [] rfl (World.ownsRow_made w #[] 0 (Nat.le_refl _) (by simp) (by simp)) ⟨R, 0, none⟩ n cap xs rfl hl'.out hs.out h1'.out (by unfold maxLen; omega) (by omega) (by simp) ?_; intro v' w1 hown hgrow _)
  go_ret
  refine ⟨_, rfl, by simpa using hown, ((Kep.refl w).alloc _).by hgrow ?_⟩
  intro k hk
  simp [Value.ownBlock] at hk; omega
theorem slist_any {w : World} {p R M n : Nat} {l : List Int} {f : Int → Option Int} (h : MapAt w p R M l n f) (h0 : 1 ≤ l.length) (hl : (l.length : Int) ≤ 512) :
    Calls Try.prog 13 #[.pointer (some ⟨p, 0, none⟩)] w fun e w' => ∃ (x : Option Addr) (cap : Nat), e = .returned (.slice x l.length cap) ∧ LI w' x l ∧ Kep w w' := by
  have d0 : w.cell? ⟨p, 0, none⟩ = some (.slice (some ⟨R, 0, none⟩) l.length l.length) := by rw [cell_of_block h.box]; rfl
  have HC : Hid (Calls Try.prog 17 #[.slice (some ⟨R, 0, none⟩) l.length l.length] w fun e w' => ∃ (x : Option Addr) (cap : Nat), e = .returned (.slice x l.length cap) ∧ LI w' x l ∧ Kep w w') := by
    refine (clone_ints l.length h.row hl).mono ?_
    rintro e w' ⟨v, rfl, ho, K⟩
    obtain ⟨g, cap, T, rfl, _, hR, _⟩ := RowT.of_owns h0 rfl ho
    exact ⟨_, cap, rfl, hR.li, K⟩
  clear h
  go_enter Try.func13, Try.ntmps13
  go_wp2_with fail
  refine HC.out.mono ?_
  rintro e w1 ⟨x, cap, rfl, L, K⟩
  go_wp2_with fail
  go_ret
  exact ⟨x, cap, rfl, L, K⟩
theorem host_nil (w : World) (k : Int) : Calls Try.prog 14 #[.pointer none, .int .i64 k] w fun e w' => e = .returned (.tuple #[.int .i64 0, .bool false]) ∧ w' = w := by
  go_enter Try.func14, Try.ntmps14
  go_wp2
  go_ret2
  exact ⟨rfl, rfl⟩
theorem guest_nil (w : World) (k : Int) : Calls Try.prog 15 #[.pointer none, .int .i64 k] w fun e w' => e = .returned (.tuple #[.int .i64 0, .bool false]) ∧ w' = w := by
  go_enter Try.func15, Try.ntmps15
  go_wp2
  go_ret2
  exact ⟨rfl, rfl⟩
theorem slist_nil (w : World) : Calls Try.prog 13 #[.pointer none] w fun e w' => e = .returned (.slice none 0 0) ∧ w' = w := by
  go_enter Try.func13, Try.ntmps13
  go_wp2
  go_ret
  exact ⟨rfl, rfl⟩
/-- At p lies a map that no call made. -/
def MapZ (w : World) (p : Nat) : Prop := w.heap[p]? = some (.cells #[.slice none 0 0, .map none] 41 (0, 0))
theorem host_zero {w : World} {p : Nat} (h : MapZ w p) (k : Int) : Calls Try.prog 14 #[.pointer (some ⟨p, 0, none⟩), .int .i64 k] w fun e w' => e = .returned (.tuple #[.int .i64 0, .bool false]) ∧ w' = w := by
  have d0 : w.cell? ⟨p, 0, none⟩ = some (.slice none 0 0) := by rw [cell_of_block h]; rfl
  clear h
  rcases Int.lt_or_le k 0 with hk | hk
  all_goals
    go_enter Try.func14, Try.ntmps14
    go_wp2
    go_ret2
    exact ⟨rfl, rfl⟩
theorem guest_zero {w : World} {p : Nat} (h : MapZ w p) (k : Int) (hk : I64 k) : Calls Try.prog 15 #[.pointer (some ⟨p, 0, none⟩), .int .i64 k] w fun e w' => e = .returned (.tuple #[.int .i64 0, .bool false]) ∧ w' = w := by
  have d1 : w.cell? ⟨p, 1, none⟩ = some (.map none) := by rw [cell_of_block h]; rfl
  have hu : (Instr.lookup 39 (.map none) (.int .i64 k) true).run Try.prog w = .ok (.tuple #[.int .i64 0, .bool false]) w := Maps.look_nil true keyI64 Try.underlying39 (zeroI64 w) (keyI k hk)
  clear h
  go_enter Try.func15, Try.ntmps15
  go_wp2
  go_ret2
  exact ⟨rfl, rfl⟩
theorem clone_none (w : World) : Calls Try.prog 17 #[.slice none 0 0] w fun e w' => e = .returned (.slice none 0 0) ∧ w' = w := by
  have hq : ∀ w, (binOp .eql 24 (.slice none 0 0) (.slice none 0 0)).run Try.prog w = .ok (.bool true) w := qeqnil _ _ _ none 0 0 Try.underlying24
  go_enter Try.func17, Try.ntmps17
  go_wp2
  go_ret
  exact ⟨rfl, rfl⟩
theorem slist_zero {w : World} {p : Nat} (h : MapZ w p) : Calls Try.prog 13 #[.pointer (some ⟨p, 0, none⟩)] w fun e w' => e = .returned (.slice none 0 0) ∧ w' = w := by
  have d0 : w.cell? ⟨p, 0, none⟩ = some (.slice none 0 0) := by rw [cell_of_block h]; rfl
  have HC : Hid (∀ w, Calls Try.prog 17 #[.slice none 0 0] w fun e w' => e = .returned (.slice none 0 0) ∧ w' = w) := clone_none
  clear h
  go_enter Try.func13, Try.ntmps13
  go_wp2_with (go_at_call 17; refine (HC.out _).mono ?_; rintro e w1 ⟨rfl, rfl⟩)
  go_ret
  exact ⟨rfl, rfl⟩
end Go.Proofs.Ytmibiboboekniaa
