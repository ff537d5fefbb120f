/- What the document's powers, bits and bitwise joins come to. -/
import Derived.Test.YthoolhndhicidabSums
import Derived.Test.YthoolhndhicidabBitm
import Derived.Test.YthoolhndhicidabProdm
import Derived.Deep.QuietTactic
import Derived.BigQuiet
namespace Go.Proofs.Ythoolhndhicidab
open Go.RowKit

set_option maxHeartbeats 400000 in
theorem power_any (n : Nat) (w : World) (hn : n < 32) :
    Calls Try.prog 36 #[.int .i64 n] w fun e w' => e = .returned (.int .u32 (pw n)) ∧ w' = w := by
  go_enter Try.func36, Try.ntmps36
  go_wp2
  go_loop [3, 4] (fun p i => ∃ k : Nat, k ≤ n ∧ i = .int .i64 k ∧ p = .int .u32 (pw k)) (fun _ i => n - (intOf i).toNat)
  case atStart => exact ⟨0, Nat.zero_le _, rfl, rfl⟩
  case round =>
    obtain ⟨k, hk, rfl, rfl⟩ := hrel
    by_cases hlt : k < n
    · have hp := pw_range k (by omega)
      have hq := pw_range (k + 1) (by omega)
      have HS : Hid (pw (k + 1) = pw k * 2) := pw_succ k
      have hm : pw k * 2 ≤ 2147483648 := by have := pw_succ k; omega
      clear hq
      go_wp2
      go_round
      case rel => exact ⟨k + 1, by omega, by go_num, by rw [HS.out]⟩
      case measure => simp [intOf]; omega
    · have hk' : k = n := by omega
      subst hk'
      go_wp2
      go_ret
      exact ⟨rfl, rfl⟩

set_option maxHeartbeats 400000 in
theorem bit_any (a : Int) (i : Nat) (w : World) (h0 : 0 ≤ a) (h1 : a < 4294967296) (hi : i < 32) :
    Calls Try.prog 33 #[.int .u32 a, .int .i64 i] w fun e w' => e = .returned (.bool (bt a i)) ∧ w' = w := by
  have hp := pw_range i hi
  have ht := tdiv_is a (pw i) h0 h1 (by omega)
  have hd := div_range a (pw i) h0 h1 (by omega)
  have hb := bt_is a i h0
  go_enter Try.func33, Try.ntmps33
  go_wp2_with (go_at_call 36; refine (power_any _ _ hi).mono ?_; rintro e w' ⟨rfl, rfl⟩)
  go_ret
  exact ⟨rfl, rfl⟩

end Go.Proofs.Ythoolhndhicidab
