/- Two rows of numbers that are the same. -/
import Derived.Test.YtmibiboboekniaaQref
namespace Go.Proofs.Ytmibiboboekniaa
open Go.RowKit
set_option linter.unusedVariables false
set_option linter.unusedSimpArgs false

/-- At x lie the numbers l. -/
def LI (w : World) (x : Option Addr) (l : List Int) : Prop := l = [] ∨ ∃ R, x = some ⟨R, 0, none⟩ ∧ R < w.heap.size ∧ ∀ k, k < l.length → w.cell? ⟨R, k, none⟩ = some (.int .i64 (l.getD k 0))
theorem LI.kep {w w' : World} {x : Option Addr} {l : List Int} (h : LI w x l) (k : Kep w w') : LI w' x l := by
  rcases h with h | ⟨R, e, hR, hc⟩
  · exact .inl h
  · exact .inr ⟨R, e, k.lt hR, fun j hj => (k.cell hR).trans (hc j hj)⟩
theorem RowT.li {w : World} {R : Nat} {l : List Int} {T : List Value} (h : RowT w R l T) : LI w (some ⟨R, 0, none⟩) l := .inr ⟨R, rfl, block_lt h, fun k hk => h.cell hk⟩

set_option maxHeartbeats 1000000 in
theorem same13_yes (x y : Option Addr) (n c d : Nat) (hn : (n : Int) ≤ 512) (l : List Int) (hl : l.length = n) (w : World) (hx : LI w x l) (hy : LI w y l) :
    Calls Try.prog 8 #[.slice x n c, .slice y n d] w fun e w' => e = .returned (.bool true) ∧ Kep w w' := by
  have hx' : Hid (LI w x l) := hx
  have hy' : Hid (LI w y l) := hy
  clear hx hy
  go_enter Try.func8, Try.ntmps8
  go_wp2_with fail
  go_loopw [5] (fun i wr => ∃ k : Nat, (k : Int) ≤ n ∧ i = .int .i64 k ∧ Hid (Kep w wr)) (fun i _ => n - (intOf i).toNat)
  case atStart => exact ⟨0, by omega, rfl, Kep.refl _⟩
  case round =>
    obtain ⟨k, hk, rfl, K⟩ := hrel
    by_cases hlt : k < n
    · have hkl : k < l.length := by omega
      have hne : l ≠ [] := fun e => by rw [e] at hkl; simp at hkl
      obtain ⟨R, rfl, _, hc⟩ := (hx'.out.kep K.out).resolve_left hne
      obtain ⟨S, rfl, _, hd⟩ := (hy'.out.kep K.out).resolve_left hne
      have c1 := hc k hkl
      have c2 := hd k hkl
      clear hc hd hx' hy'
      generalize l.getD k 0 = a at c1 c2
      have hlt' : (k : Int) < n := by omega
      go_wp2_with fail
      go_region
      all_goals
        go_wp2_with fail
        go_roundw
        case rel => exact ⟨k + 1, by omega, by go_num, K.out.drew⟩
        case measure => simp [intOf]; omega
    · obtain rfl : k = n := by omega
      go_wp2_with fail
      go_ret
      exact ⟨rfl, K.out⟩
theorem same13_nil (w : World) : Calls Try.prog 8 #[.slice none 0 0, .slice none 0 0] w fun e w' => e = .returned (.bool true) ∧ Kep w w' :=
  same13_yes none none 0 0 0 (by omega) [] rfl w (.inl rfl) (.inl rfl)
end Go.Proofs.Ytmibiboboekniaa
