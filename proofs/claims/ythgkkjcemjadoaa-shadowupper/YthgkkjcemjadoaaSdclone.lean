/- A slice of words cloned. -/
import Derived.Test.YthgkkjcemjadoaaSdrnew
import Derived.Test.YthgkkjcemjadoaaSdfin
import Derived.Test.YthgkkjcemjadoaaVcl
import Derived.OwnWalk
namespace Go.Proofs.Ythgkkjcemjadoaa
open Go.RowKit
set_option linter.unusedVariables false
set_option linter.unusedSimpArgs false

set_option maxHeartbeats 1000000 in
theorem clone_u32 (w : World) (x : Option Addr) (n cap : Nat) (xs : List Value) (hl : xs.length = n * 1) (h : Lies w x xs) (h1 : ∀ u ∈ xs, u.oneCell' = true) (hn : (n : Int) * 4 ≤ 140737488355328) :
    Calls Try.prog 53 #[.slice x n cap] w fun e w' => ∃ v, e = .returned v ∧ w'.ownsRow w.heap.size 34 1 v n xs ∧ Kep w w' := by
  obtain ⟨i0, hi, hz0, hz1, hz2⟩ := info_parts info_w32
  cases x with
  | none =>
    have hq : ∀ w, (binOp .eql 23 (.slice none n cap) (.slice none 0 0)).run Try.prog w = .ok (.bool true) w := eqnil _ _ _ none n cap Try.underlying23
    have hx : xs = [] := by rcases h with h | ⟨_, _, e, _⟩; exact h; cases e
    subst hx
    have hn0 : n = 0 := by simp at hl; omega
    subst hn0
    clear hl h1 h hn
    go_enter Try.func53, Try.ntmps53
    go_wp2
    go_ret
    exact ⟨_, rfl, World.ownsRow_nil _ _ _ _, Kep.refl _⟩
  | some ad =>
    have hq : ∀ w, (binOp .eql 23 (.slice (some ad) n cap) (.slice none 0 0)).run Try.prog w = .ok (.bool false) w := eqnil _ _ _ (some ad) n cap Try.underlying23
    have hs : Hid (∀ j u, xs[j]? = some u → (w.alloc (.cells #[] 34)).cell? (ad.add j) = some u) := fun j u hj => by
      rcases (h.kep ((Kep.refl w).alloc (.cells #[] 34))) with rfl | ⟨b, off, e, _, hc⟩
      · simp at hj
      · cases e; rw [Addr.add_lit]; exact hc j u hj
    have hl' : Hid (xs.length = n * 1) := hl
    have h1' : Hid (∀ u ∈ xs, u.oneCell' = true) := h1
    clear h hl h1
    go_enter Try.func53, Try.ntmps53
    go_wp2_with (at_builtin; refine wpList_append_own _ rfl _ _ 23 rfl w.heap.size 34 i0 _ 1 4 Try.underlying23 hi hz0 hz1 hz2 rfl (by decide) (.slice (some ⟨w.heap.size, 0, none⟩) 0 0) 0 [] rfl (World.ownsRow_made w #[] 0 (Nat.le_refl _) (by simp) (by simp)) ad n cap xs rfl hl'.out hs.out h1'.out (by unfold maxLen; omega) (by omega) (by simp) ?_; intro v' w1 hown hgrow _)
    go_ret
    refine ⟨_, rfl, by simpa using hown, ((Kep.refl w).alloc _).by hgrow ?_⟩
    intro k hk
    simp [Value.ownBlock] at hk; omega

theorem neq_tab : ∀ w, (binOp .neq 87 (.agg z16) (.agg z16)).run Try.prog w = .ok (.bool false) w := by
  intro w
  kernel_rfl
end Go.Proofs.Ythgkkjcemjadoaa
