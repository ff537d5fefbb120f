/- Part of a proof. -/
import Derived.Deep.QuietTactic
import Derived.BigQuiet
import Derived.Test.YthimfiihebdchaaDoorJ12
namespace Go.Proofs.YthimfiihebdchaaDoor
open Go.RowKit
set_option linter.unusedVariables false
set_option linter.unusedSimpArgs false
set_option maxHeartbeats 400000 in
theorem power_any (n : Nat) (w : World) (hn : n < 32) :
    Calls Tryd.prog 69 #[.int .i64 n] w fun e w' => e = .returned (.int .u32 (pw n)) ∧ w' = w := by
  go_enter Tryd.func69, Tryd.ntmps69
  go_wp2
  go_loop [3, 4] (fun p i => ∃ k : Nat, k ≤ n ∧ i = .int .i64 k ∧ p = .int .u32 (pw k)) (fun _ i => n - (intOf i).toNat)
  case atStart => exact ⟨0, Nat.zero_le _, rfl, rfl⟩
  case round =>
    obtain ⟨k, hk, rfl, rfl⟩ := hrel
    by_cases hlt : k < n
    · have hp := pw_range k (by omega)
      have hq := pw_range (k + 1) (by omega)
      have HS : Hid (pw (k + 1) = pw k * 2) := pw_succ k
      have hm : pw k * 2 ≤ 2147483648 := by have := pw_succ k; omega
      clear hq
      go_wp2
      go_round
      case rel => exact ⟨k + 1, by omega, by go_num, by rw [HS.out]⟩
      case measure => simp [intOf]; omega
    · have hk' : k = n := by omega
      subst hk'
      go_wp2
      go_ret
      exact ⟨rfl, rfl⟩
set_option maxHeartbeats 400000 in
theorem bit_any (a : Int) (i : Nat) (w : World) (h0 : 0 ≤ a) (h1 : a < 4294967296) (hi : i < 32) :
    Calls Tryd.prog 68 #[.int .u32 a, .int .i64 i] w fun e w' => e = .returned (.bool (bt a i)) ∧ w' = w := by
  have hp := pw_range i hi
  have ht := tdiv_is a (pw i) h0 h1 (by omega)
  have hd := div_range a (pw i) h0 h1 (by omega)
  have hb := bt_is a i h0
  go_enter Tryd.func68, Tryd.ntmps68
  go_wp2_with (go_at_call 69; refine (power_any _ _ hi).mono ?_; rintro e w' ⟨rfl, rfl⟩)
  go_ret
  exact ⟨rfl, rfl⟩
set_option maxHeartbeats 800000 in
theorem logic_any (which : Int) (a b : Int) (X : Nat) (w : World) (h0 : 0 ≤ a) (h1 : a < 4294967296) (h2 : 0 ≤ b) (h3 : b < 4294967296)
    (hwh : which = 0 ∨ which = 1 ∨ which = 2) (hX : ∀ k, X.testBit k = joined which (bt a k) (bt b k)) :
    Calls Tryd.prog 43 #[.int .i64 which, .int .u32 a, .int .u32 b] w fun e w' => e = .returned (.tuple #[.int .u32 (low X 32), .int .u32 (fl (low X 32) false false)]) ∧ w' = w := by
  have HX : Hid (∀ k, X.testBit k = joined which (bt a k) (bt b k)) := hX
  have htop := low_top X
  have hl0 : Hid (low X 0 = 0) := low_zero X
  clear hX
  rcases hwh with rfl | rfl | rfl
  all_goals
    go_enter Tryd.func43, Tryd.ntmps43
    go_wp2
    go_loop [8, 9] (fun r i => ∃ k : Nat, k ≤ 32 ∧ i = .int .i64 k ∧ r = .int .u32 (low X k)) (fun _ i => 32 - (intOf i).toNat)
    case atStart => exact ⟨0, Nat.zero_le _, rfl, by rw [hl0.out]⟩
    case round =>
      obtain ⟨k, hk, rfl, rfl⟩ := hrel
      by_cases hlt : k < 32
      · have hp := pw_range k (by omega)
        have hl := low_range X k (by omega)
        have HS : Hid (low X (k + 1) = low X k + wt (joined _ (bt a k) (bt b k)) (pw k)) := low_step X k _ (HX.out k)
        cases hx : bt a k <;> cases hy : bt b k
        all_goals
          go_wp2_with (first | (go_at_call 68; refine (bit_any _ _ _ (by omega) (by omega) (by omega)).mono ?_; rintro e w' ⟨rfl, rfl⟩) | (go_at_call 69; refine (power_any _ _ (by omega)).mono ?_; rintro e w' ⟨rfl, rfl⟩))
          go_round
          case rel => exact ⟨k + 1, by omega, by go_num, by rw [HS.out, hx, hy]; simp [joined, wt]⟩
          case measure => simp [intOf]; omega
      · have hk' : k = 32 := by omega
        subst hk'
        go_wp2_with (go_at_call 50; refine (of_any _ _ _ _ (by omega) (by omega)).mono ?_; rintro e w' ⟨rfl, rfl⟩)
        go_ret2
        exact ⟨rfl, rfl⟩
theorem bit31 (a : Int) (w : World) (h0 : 0 ≤ a) (h1 : a < 4294967296) :
    Calls Tryd.prog 68 #[.int .u32 a, .int .i64 31] w fun e w' => e = .returned (.bool (bt a 31)) ∧ w' = w :=
  bit_any a 31 w h0 h1 (by omega)
theorem bit0 (a : Int) (w : World) (h0 : 0 ≤ a) (h1 : a < 4294967296) :
    Calls Tryd.prog 68 #[.int .u32 a, .int .i64 0] w fun e w' => e = .returned (.bool (bt a 0)) ∧ w' = w :=
  bit_any a 0 w h0 h1 (by omega)
set_option maxHeartbeats 400000 in
theorem refShl_any (a k : Nat) (n : Int) (w : World) (ha : a < 4294967296) (h0 : 0 ≤ n) (h1 : n < 4294967296) (hk : n % 32 = (k : Int)) :
    Calls Tryd.prog 47 #[.bool true, .int .u32 a, .int .u32 n] w fun e w' => e = .returned (.tuple #[.int .u32 (shlI a k), .int .u32 (fl (shlI a k) (outUp a k) false)]) ∧ w' = w := by
  have hb : k < 32 := by omega
  have hz : Hid (shlI a 0 = (a : Int)) := shlI_zero a ha
  go_enter Tryd.func47, Tryd.ntmps47
  go_wp2
  go_loop [1, 8, 9] (fun x c i => ∃ j : Nat, j ≤ k ∧ x = .int .u32 (shlI a j) ∧ c = .bool (outUp a j) ∧ i = .int .u32 j) (fun _ _ i => k - (intOf i).toNat)
  case atStart => exact ⟨0, Nat.zero_le _, by rw [hz.out], rfl, rfl⟩
  case round =>
    obtain ⟨j, hj, rfl, rfl, rfl⟩ := hrel
    have hr := shlI_range a j
    by_cases hlt : j < k
    · have e1 := shlI_step a j
      have e2 := bt_shl a j (by omega)
      go_wp2_with (go_at_call 68; refine (bit31 _ _ (by omega) (by omega)).mono ?_; rintro e w' ⟨rfl, rfl⟩)
      go_round
      case rel => exact ⟨j + 1, by omega, by rw [e1], rfl, by go_num⟩
      case measure => simp [intOf]; omega
    · have hk' : j = k := by omega
      subst hk'
      go_wp2_with (go_at_call 50; refine (of_any _ _ _ _ (by omega) (by omega)).mono ?_; rintro e w' ⟨rfl, rfl⟩)
      go_ret2
      exact ⟨rfl, rfl⟩
set_option maxHeartbeats 400000 in
theorem refShr_any (a k : Nat) (n : Int) (w : World) (ha : a < 4294967296) (h0 : 0 ≤ n) (h1 : n < 4294967296) (hk : n % 32 = (k : Int)) :
    Calls Tryd.prog 47 #[.bool false, .int .u32 a, .int .u32 n] w fun e w' => e = .returned (.tuple #[.int .u32 (shrI a k), .int .u32 (fl (shrI a k) (outDown a k) false)]) ∧ w' = w := by
  have hb : k < 32 := by omega
  have hz : Hid (shrI a 0 = (a : Int)) := shrI_zero a
  go_enter Tryd.func47, Tryd.ntmps47
  go_wp2
  go_loop [1, 8, 9] (fun x c i => ∃ j : Nat, j ≤ k ∧ x = .int .u32 (shrI a j) ∧ c = .bool (outDown a j) ∧ i = .int .u32 j) (fun _ _ i => k - (intOf i).toNat)
  case atStart => exact ⟨0, Nat.zero_le _, by rw [hz.out], rfl, rfl⟩
  case round =>
    obtain ⟨j, hj, rfl, rfl, rfl⟩ := hrel
    have hr := shrI_range a j ha
    by_cases hlt : j < k
    · have e1 := shrI_step a j
      have e2 := bt_shr a j
      go_wp2_with (go_at_call 68; refine (bit0 _ _ (by omega) (by omega)).mono ?_; rintro e w' ⟨rfl, rfl⟩)
      go_round
      case rel => exact ⟨j + 1, by omega, by rw [e1], rfl, by go_num⟩
      case measure => simp [intOf]; omega
    · have hk' : j = k := by omega
      subst hk'
      go_wp2_with (go_at_call 50; refine (of_any _ _ _ _ (by omega) (by omega)).mono ?_; rintro e w' ⟨rfl, rfl⟩)
      go_ret2
      exact ⟨rfl, rfl⟩
set_option maxHeartbeats 800000 in
theorem refRor_any (a k : Nat) (n : Int) (w : World) (ha : a < 4294967296) (h0 : 0 ≤ n) (h1 : n < 4294967296) (hk : n % 32 = (k : Int)) :
    Calls Tryd.prog 44 #[.bool true, .int .u32 a, .int .u32 n] w fun e w' => e = .returned (.tuple #[.int .u32 (rorI a k), .int .u32 (fl (rorI a k) (outDown a k) false)]) ∧ w' = w := by
  have hb : k < 32 := by omega
  have hz : Hid (rorI a 0 = (a : Int)) := rorI_zero a
  go_enter Tryd.func44, Tryd.ntmps44
  go_wp2
  go_loop [1, 8, 9] (fun x c i => ∃ j : Nat, j ≤ k ∧ x = .int .u32 (rorI a j) ∧ c = .bool (outDown a j) ∧ i = .int .u32 j) (fun _ _ i => k - (intOf i).toNat)
  case atStart => exact ⟨0, Nat.zero_le _, by rw [hz.out], rfl, rfl⟩
  case round =>
    obtain ⟨j, hj, rfl, rfl, rfl⟩ := hrel
    have hr := rorI_range a j ha (by omega)
    by_cases hlt : j < k
    · have HS : Hid (rorI a (j + 1) = rorI a j / 2 + wt (bt (rorI a j) 0) 2147483648) := ror_step a j (by omega)
      have HO : Hid (bt (rorI a j) 0 = outDown a (j + 1)) := ror_outs a j (by omega)
      cases hc : bt (rorI a j) 0
      all_goals
        go_wp2_with fail
        refine (bit0 _ _ (by omega) (by omega)).mono ?_
        rintro e w' ⟨rfl, rfl⟩
        go_wp2_with fail
        refine (bit31 _ _ (by omega) (by omega)).mono ?_
        rintro e w' ⟨rfl, rfl⟩
        go_wp2_with fail
        go_round
        case rel => exact ⟨j + 1, by omega, by rw [HS.out, hc]; simp [wt], by rw [← HO.out, hc], by go_num⟩
        case measure => simp [intOf]; omega
    · have hk' : j = k := by omega
      subst hk'
      go_wp2_with (go_at_call 50; refine (of_any _ _ _ _ (by omega) (by omega)).mono ?_; rintro e w' ⟨rfl, rfl⟩)
      go_ret2
      exact ⟨rfl, rfl⟩
set_option maxHeartbeats 800000 in
theorem refSar_any (a k : Nat) (n : Int) (w : World) (ha : a < 4294967296) (h0 : 0 ≤ n) (h1 : n < 4294967296) (hk : n % 32 = (k : Int)) :
    Calls Tryd.prog 44 #[.bool false, .int .u32 a, .int .u32 n] w fun e w' => e = .returned (.tuple #[.int .u32 (sarI a k), .int .u32 (fl (sarI a k) (outDown a k) false)]) ∧ w' = w := by
  have hb : k < 32 := by omega
  have hz : Hid (sarI a 0 = (a : Int)) := sarI_zero a ha
  go_enter Tryd.func44, Tryd.ntmps44
  go_wp2
  go_loop [1, 8, 9] (fun x c i => ∃ j : Nat, j ≤ k ∧ x = .int .u32 (sarI a j) ∧ c = .bool (outDown a j) ∧ i = .int .u32 j) (fun _ _ i => k - (intOf i).toNat)
  case atStart => exact ⟨0, Nat.zero_le _, by rw [hz.out], rfl, rfl⟩
  case round =>
    obtain ⟨j, hj, rfl, rfl, rfl⟩ := hrel
    have hr := sarI_range a j ha
    by_cases hlt : j < k
    · have HS : Hid (sarI a (j + 1) = sarI a j / 2 + wt (bt (sarI a j) 31) 2147483648) := sar_step a j ha
      have HO : Hid (bt (sarI a j) 0 = outDown a (j + 1)) := sar_out a j ha (by omega)
      cases hc : bt (sarI a j) 31
      all_goals
        go_wp2_with fail
        refine (bit0 _ _ (by omega) (by omega)).mono ?_
        rintro e w' ⟨rfl, rfl⟩
        go_wp2_with fail
        refine (bit31 _ _ (by omega) (by omega)).mono ?_
        rintro e w' ⟨rfl, rfl⟩
        go_wp2_with fail
        go_round
        case rel => exact ⟨j + 1, by omega, by rw [HS.out, hc]; simp [wt], by rw [← HO.out], by go_num⟩
        case measure => simp [intOf]; omega
    · have hk' : j = k := by omega
      subst hk'
      go_wp2_with (go_at_call 50; refine (of_any _ _ _ _ (by omega) (by omega)).mono ?_; rintro e w' ⟨rfl, rfl⟩)
      go_ret2
      exact ⟨rfl, rfl⟩
set_option maxHeartbeats 1600000 in
theorem refBytes_any (op : Int) (w : World) (m : 48 ≤ op ∧ op ≤ 58) :
    Calls Tryd.prog 52 #[.int .u8 op] w fun e w' => e = .returned (.int .i64 (rN op)) ∧ w' = w := by
  rcases mem_ops m with rfl | rfl | rfl | rfl | rfl | rfl | rfl | rfl | rfl | rfl | rfl
  all_goals
    clear m
    go_enter Tryd.func52, Tryd.ntmps52
    go_wp2
    go_ret
    exact ⟨rfl, rfl⟩
set_option maxHeartbeats 1600000 in
theorem refReads_any (op : Int) (w : World) (m : 48 ≤ op ∧ op ≤ 58) :
    Calls Tryd.prog 53 #[.int .u8 op] w fun e w' => e = .returned (.bool (rK op == 2)) ∧ w' = w := by
  rcases mem_ops m with rfl | rfl | rfl | rfl | rfl | rfl | rfl | rfl | rfl | rfl | rfl
  all_goals
    clear m
    go_enter Tryd.func53, Tryd.ntmps53
    go_wp2
    go_ret
    exact ⟨rfl, rfl⟩
set_option maxHeartbeats 800000 in
theorem refLow_any (x n : Int) (w : World) (h0 : 0 ≤ x) (h1 : x < 4294967296) (hn : n = 1 ∨ n = 2 ∨ n = 4) :
    Calls Tryd.prog 54 #[.int .u32 x, .int .i64 n] w fun e w' => e = .returned (.int .u32 (lowI x n)) ∧ w' = w := by
  rcases hn with rfl | rfl | rfl
  all_goals
    go_enter Tryd.func54, Tryd.ntmps54
    go_wp2
    go_ret
    exact ⟨ret_int (by simp [lowI] <;> omega), rfl⟩
set_option maxHeartbeats 800000 in
theorem refSig_any (x n : Int) (w : World) (h0 : 0 ≤ x) (h1 : x < 4294967296) (hn : n = 1 ∨ n = 2) :
    Calls Tryd.prog 55 #[.int .u32 x, .int .i64 n] w fun e w' => e = .returned (.int .u32 (if n = 1 then sext (x % 256) 128 else sext (x % 65536) 32768)) ∧ w' = w := by
  have HL : Hid (∀ w, Calls Tryd.prog 54 #[.int .u32 x, .int .i64 n] w fun e w' => e = .returned (.int .u32 (lowI x n)) ∧ w' = w) := fun w => refLow_any x n w h0 h1 (by omega)
  rcases hn with rfl | rfl
  all_goals
    simp only [lowI] at HL
    go_enter Tryd.func55, Tryd.ntmps55
    go_wp2_with (go_at_call 54; refine (HL.out _).mono ?_; rintro e w' ⟨rfl, rfl⟩)
    all_goals go_ret
    all_goals exact ⟨ret_int (by simp [sext] at * <;> (first | omega | (split <;> omega))), rfl⟩
set_option maxHeartbeats 800000 in
theorem flagged_any (ps : Int) (k : Nat) (w : World) (h0 : 0 ≤ ps) (h1 : ps < 4294967296) (hk : k < 16) :
    Calls Tryd.prog 22 #[.int .u32 ps, .int .u32 ((16 * k : Nat) : Int)] w fun e w' => e = .returned (.int .u32 (flgI ps ((16 * k : Nat) : Int))) ∧ w' = w := by
  have hf : (0 : Int) ≤ ((16 * k : Nat) : Int) ∧ ((16 * k : Nat) : Int) ≤ 240 := by omega
  generalize ((16 * k : Nat) : Int) = f at *
  go_enter Tryd.func22, Tryd.ntmps22
  go_wp2
  go_ret
  refine ⟨ret_int ?_, rfl⟩
  unfold flgI
  simp [IntKind.wrap_u32] at *
  try omega
set_option maxHeartbeats 4000000 in
set_option maxRecDepth 100000 in
theorem moved_57 (s : Sta) (a b : Nat) (imm v : Int) (w : World) (ok : s.Ok) (ha : (a : Int) < 8) (hv : 0 ≤ v ∧ v < 4294967296) :
    Calls Tryd.prog 25 #[.agg s.v, .agg (insA 57 a b imm), .int .u32 v] w fun e w' => e = .returned (.agg (movS s 57 a v).v) ∧ Kep w w' := by
  have BY : Hid (∀ w, Calls Tryd.prog 52 #[.int .u8 57] w fun e w' => e = .returned (.int .i64 4) ∧ w' = w) := fun w => refBytes_any 57 w (by decide)
  have r7 := ok.r 7
  have hS : Hid (movS s 57 a v = (s.reg 7 ((s.r 7 + 4) % 4294967296)).reg a v) := rfl
  rw [hS.out]
  go_enter Tryd.func25, Tryd.ntmps25
  go_upto_region 1 with fail
  generalize hX : World.alloc (World.alloc (World.alloc w _) _) _ = X
  have XA : At X w.heap.size s := by rw [← hX]; unfold At; (repeat (first | (with_reducible assumption) | (with_reducible exact Hid.out (by assumption)) | (with_reducible refine (hsk _ _ _ (by (first | omega | (simp only [World.size_alloc, World.size_setCell, size_setRow, World.size_drew]; done) | (simp only [World.size_alloc, World.size_setCell, size_setRow, World.size_drew]; omega)))).trans ?_) | (with_reducible refine (hat _ _ _ (by (first | omega | (simp only [World.size_alloc, World.size_setCell, size_setRow, World.size_drew]; done) | (simp only [World.size_alloc, World.size_setCell, size_setRow, World.size_drew]; omega))))) | (with_reducible refine Kep.block (Kep.alloc (Kep.refl _) _) ?_) | (with_reducible refine (heap_setCell_other _ _ _ _ (by (first | omega | (simp only []; omega) | (show _ ≠ _; omega)))).trans ?_) | (with_reducible refine (setRow_other _ _ _ _ (by (first | omega | (simp only []; omega) | (show _ ≠ _; omega)))).trans ?_) | (with_reducible refine (drew_heap _ _).trans ?_) | (with_reducible refine (drewN_heap _ _ _).trans ?_) | (with_reducible refine Kep.block (by assumption) ?_) | (with_reducible exact setRow_heap _ _ _ _ _ _ (by (repeat (first | (with_reducible assumption) | (with_reducible exact Hid.out (by assumption)) | (with_reducible refine (hsk _ _ _ (by (first | omega | (simp only [World.size_alloc, World.size_setCell, size_setRow, World.size_drew]; done) | (simp only [World.size_alloc, World.size_setCell, size_setRow, World.size_drew]; omega)))).trans ?_) | (with_reducible refine (hat _ _ _ (by (first | omega | (simp only [World.size_alloc, World.size_setCell, size_setRow, World.size_drew]; done) | (simp only [World.size_alloc, World.size_setCell, size_setRow, World.size_drew]; omega))))) | (with_reducible refine Kep.block (Kep.alloc (Kep.refl _) _) ?_) | (with_reducible refine (heap_setCell_other _ _ _ _ (by (first | omega | (simp only []; omega) | (show _ ≠ _; omega)))).trans ?_) | (with_reducible refine (setRow_other _ _ _ _ (by (first | omega | (simp only []; omega) | (show _ ≠ _; omega)))).trans ?_) | (with_reducible refine (drew_heap _ _).trans ?_) | (with_reducible refine (drewN_heap _ _ _).trans ?_)))))))
  have XI : X.heap[w.heap.size + 1]? = some (.cells (insA 57 a b imm) 27 (0, 0)) := by rw [← hX]; (repeat (first | (with_reducible assumption) | (with_reducible exact Hid.out (by assumption)) | (with_reducible refine (hsk _ _ _ (by (first | omega | (simp only [World.size_alloc, World.size_setCell, size_setRow, World.size_drew]; done) | (simp only [World.size_alloc, World.size_setCell, size_setRow, World.size_drew]; omega)))).trans ?_) | (with_reducible refine (hat _ _ _ (by (first | omega | (simp only [World.size_alloc, World.size_setCell, size_setRow, World.size_drew]; done) | (simp only [World.size_alloc, World.size_setCell, size_setRow, World.size_drew]; omega))))) | (with_reducible refine Kep.block (Kep.alloc (Kep.refl _) _) ?_) | (with_reducible refine (heap_setCell_other _ _ _ _ (by (first | omega | (simp only []; omega) | (show _ ≠ _; omega)))).trans ?_) | (with_reducible refine (setRow_other _ _ _ _ (by (first | omega | (simp only []; omega) | (show _ ≠ _; omega)))).trans ?_) | (with_reducible refine (drew_heap _ _).trans ?_) | (with_reducible refine (drewN_heap _ _ _).trans ?_) | (with_reducible refine Kep.block (by assumption) ?_) | (with_reducible exact setRow_heap _ _ _ _ _ _ (by (repeat (first | (with_reducible assumption) | (with_reducible exact Hid.out (by assumption)) | (with_reducible refine (hsk _ _ _ (by (first | omega | (simp only [World.size_alloc, World.size_setCell, size_setRow, World.size_drew]; done) | (simp only [World.size_alloc, World.size_setCell, size_setRow, World.size_drew]; omega)))).trans ?_) | (with_reducible refine (hat _ _ _ (by (first | omega | (simp only [World.size_alloc, World.size_setCell, size_setRow, World.size_drew]; done) | (simp only [World.size_alloc, World.size_setCell, size_setRow, World.size_drew]; omega))))) | (with_reducible refine Kep.block (Kep.alloc (Kep.refl _) _) ?_) | (with_reducible refine (heap_setCell_other _ _ _ _ (by (first | omega | (simp only []; omega) | (show _ ≠ _; omega)))).trans ?_) | (with_reducible refine (setRow_other _ _ _ _ (by (first | omega | (simp only []; omega) | (show _ ≠ _; omega)))).trans ?_) | (with_reducible refine (drew_heap _ _).trans ?_) | (with_reducible refine (drewN_heap _ _ _).trans ?_)))))))
  have XR : Hid (X.heap[w.heap.size + 1 + 1]? = some (.cells z19 25 (0, 0))) := by rw [← hX]; unfold Hid; (repeat (first | (with_reducible assumption) | (with_reducible exact Hid.out (by assumption)) | (with_reducible refine (hsk _ _ _ (by (first | omega | (simp only [World.size_alloc, World.size_setCell, size_setRow, World.size_drew]; done) | (simp only [World.size_alloc, World.size_setCell, size_setRow, World.size_drew]; omega)))).trans ?_) | (with_reducible refine (hat _ _ _ (by (first | omega | (simp only [World.size_alloc, World.size_setCell, size_setRow, World.size_drew]; done) | (simp only [World.size_alloc, World.size_setCell, size_setRow, World.size_drew]; omega))))) | (with_reducible refine Kep.block (Kep.alloc (Kep.refl _) _) ?_) | (with_reducible refine (heap_setCell_other _ _ _ _ (by (first | omega | (simp only []; omega) | (show _ ≠ _; omega)))).trans ?_) | (with_reducible refine (setRow_other _ _ _ _ (by (first | omega | (simp only []; omega) | (show _ ≠ _; omega)))).trans ?_) | (with_reducible refine (drew_heap _ _).trans ?_) | (with_reducible refine (drewN_heap _ _ _).trans ?_) | (with_reducible refine Kep.block (by assumption) ?_) | (with_reducible exact setRow_heap _ _ _ _ _ _ (by (repeat (first | (with_reducible assumption) | (with_reducible exact Hid.out (by assumption)) | (with_reducible refine (hsk _ _ _ (by (first | omega | (simp only [World.size_alloc, World.size_setCell, size_setRow, World.size_drew]; done) | (simp only [World.size_alloc, World.size_setCell, size_setRow, World.size_drew]; omega)))).trans ?_) | (with_reducible refine (hat _ _ _ (by (first | omega | (simp only [World.size_alloc, World.size_setCell, size_setRow, World.size_drew]; done) | (simp only [World.size_alloc, World.size_setCell, size_setRow, World.size_drew]; omega))))) | (with_reducible refine Kep.block (Kep.alloc (Kep.refl _) _) ?_) | (with_reducible refine (heap_setCell_other _ _ _ _ (by (first | omega | (simp only []; omega) | (show _ ≠ _; omega)))).trans ?_) | (with_reducible refine (setRow_other _ _ _ _ (by (first | omega | (simp only []; omega) | (show _ ≠ _; omega)))).trans ?_) | (with_reducible refine (drew_heap _ _).trans ?_) | (with_reducible refine (drewN_heap _ _ _).trans ?_)))))))
  have GX : Hid (Kep w X) := by rw [← hX]; show Kep _ _; (repeat (first | (with_reducible assumption) | (with_reducible exact Kep.refl _) | (with_reducible exact Hid.out (by assumption)) | (with_reducible refine Kep.alloc ?_ _) | (with_reducible refine Kep.drew ?_) | (with_reducible refine Kep.drewN ?_ _) | (with_reducible refine Kep.setRow ?_ _ _ (by (first | omega | (simp only [World.size_alloc, World.size_setCell, size_setRow, World.size_drew]; done) | (simp only [World.size_alloc, World.size_setCell, size_setRow, World.size_drew]; omega)))) | (with_reducible refine Kep.setCell ?_ (by first | omega | (simp only []; omega) | (show _ ≤ _; omega)) _)))
  obtain ⟨i0, i1, i2, i3⟩ := ins_at XI
  have ca := XA.reg a (by omega)
  have c7 := XA.reg 7 (by omega)
  have fz := row_frozen XA
  have l1 := block_lt XI
  have XA' : Hid (At X w.heap.size s) := XA
  clear hX XA XI
  by_cases a7 : a = 7
  · subst a7
    have e7 : (s.reg 7 ((s.r 7 + 4) % 4294967296)).reg 7 v = s.reg 7 v := by
      unfold Sta.reg
      congr 1
      funext n
      show up (up s.r 7 _) 7 v n = up s.r 7 v n
      unfold up
      split <;> rfl
    go_wp2_with (first | (go_at_call 52; refine (BY.out _).mono ?_; rintro e w' ⟨rfl, rfl⟩) | (refine wpList_load_row (by rfl) 25 _ (by rfl) w.heap.size (by rfl) 25 ((s.reg 7 v) : Sta).v (0, 0) _ (show At _ w.heap.size (s.reg 7 v) from by first | ((repeat (first | (with_reducible assumption) | (with_reducible refine At.kep ?_ (by assumption)) | (with_reducible exact Hid.out (by assumption)) | (with_reducible refine At.drew ?_) | (with_reducible refine At.drewN ?_ _) | (with_reducible refine At.alloc ?_ _) | (with_reducible refine At.setRow ?_ (by (first | omega | (simp only []; omega) | (show _ ≠ _; omega))) _) | (with_reducible refine At.set ?_ _ (by omega) _) | (with_reducible refine At.setPc ?_ _) | (with_reducible refine At.setPs ?_ _) | (with_reducible refine At.setOther ?_ (by (first | omega | (simp only []; omega) | (show _ ≠ _; omega))) _))); done) | (rw [← e7]; (repeat (first | (with_reducible assumption) | (with_reducible refine At.kep ?_ (by assumption)) | (with_reducible exact Hid.out (by assumption)) | (with_reducible refine At.drew ?_) | (with_reducible refine At.drewN ?_ _) | (with_reducible refine At.alloc ?_ _) | (with_reducible refine At.setRow ?_ (by (first | omega | (simp only []; omega) | (show _ ≠ _; omega))) _) | (with_reducible refine At.set ?_ _ (by omega) _) | (with_reducible refine At.setPc ?_ _) | (with_reducible refine At.setPs ?_ _) | (with_reducible refine At.setOther ?_ (by (first | omega | (simp only []; omega) | (show _ ≠ _; omega))) _))); done)) Tryd.underlying25 rfl (by exact size_sta) ?_) | (refine wpList_store_row (by rfl) 25 (.tmp 6) _ (by rfl) (w.heap.size + 1 + 1) _ (by rfl) (by rfl) 25 z19 blkA (by exact size_sta) (by rfl) (v_one _) ?_))
    try simp only [Exit.inBlock, Exit.then]
    exact bodyPost_ret (results_cell_row rfl _ _ (w.heap.size + 1 + 1) 25 _ (0, 0) _ (by rfl) (setRow_heap _ _ _ _ _ _ blkA) Tryd.underlying25 rfl (by exact size_sta)) rfl ⟨by rfl, by (repeat (first | (with_reducible assumption) | (with_reducible exact Kep.refl _) | (with_reducible exact Hid.out (by assumption)) | (with_reducible refine Kep.alloc ?_ _) | (with_reducible refine Kep.drew ?_) | (with_reducible refine Kep.drewN ?_ _) | (with_reducible refine Kep.setRow ?_ _ _ (by (first | omega | (simp only [World.size_alloc, World.size_setCell, size_setRow, World.size_drew]; done) | (simp only [World.size_alloc, World.size_setCell, size_setRow, World.size_drew]; omega)))) | (with_reducible refine Kep.setCell ?_ (by first | omega | (simp only []; omega) | (show _ ≤ _; omega)) _)))⟩
  · have h7a : ∀ (w' : World) (v : Value), (w'.setCell ⟨w.heap.size, 7, none⟩ v).cell? ⟨w.heap.size, a, none⟩ = w'.cell? ⟨w.heap.size, a, none⟩ := fun w' v => World.cell?_setCell_other _ ⟨w.heap.size, 7, none⟩ ⟨w.heap.size, a, none⟩ _ (fun e => a7 (congrArg Addr.off e).symm)
    go_wp2_with (first | (go_at_call 52; refine (BY.out _).mono ?_; rintro e w' ⟨rfl, rfl⟩) | (refine wpList_load_row (by rfl) 25 _ (by rfl) w.heap.size (by rfl) 25 (((s.reg 7 ((s.r 7 + 4) % 4294967296)).reg a v) : Sta).v (0, 0) _ (show At _ w.heap.size ((s.reg 7 ((s.r 7 + 4) % 4294967296)).reg a v) from by (repeat (first | (with_reducible assumption) | (with_reducible refine At.kep ?_ (by assumption)) | (with_reducible exact Hid.out (by assumption)) | (with_reducible refine At.drew ?_) | (with_reducible refine At.drewN ?_ _) | (with_reducible refine At.alloc ?_ _) | (with_reducible refine At.setRow ?_ (by (first | omega | (simp only []; omega) | (show _ ≠ _; omega))) _) | (with_reducible refine At.set ?_ _ (by omega) _) | (with_reducible refine At.setPc ?_ _) | (with_reducible refine At.setPs ?_ _) | (with_reducible refine At.setOther ?_ (by (first | omega | (simp only []; omega) | (show _ ≠ _; omega))) _)))) Tryd.underlying25 rfl (by exact size_sta) ?_) | (refine wpList_store_row (by rfl) 25 (.tmp 6) _ (by rfl) (w.heap.size + 1 + 1) _ (by rfl) (by rfl) 25 z19 blkA (by exact size_sta) (by rfl) (v_one _) ?_))
    try simp only [Exit.inBlock, Exit.then]
    exact bodyPost_ret (results_cell_row rfl _ _ (w.heap.size + 1 + 1) 25 _ (0, 0) _ (by rfl) (setRow_heap _ _ _ _ _ _ blkA) Tryd.underlying25 rfl (by exact size_sta)) rfl ⟨by rfl, by (repeat (first | (with_reducible assumption) | (with_reducible exact Kep.refl _) | (with_reducible exact Hid.out (by assumption)) | (with_reducible refine Kep.alloc ?_ _) | (with_reducible refine Kep.drew ?_) | (with_reducible refine Kep.drewN ?_ _) | (with_reducible refine Kep.setRow ?_ _ _ (by (first | omega | (simp only [World.size_alloc, World.size_setCell, size_setRow, World.size_drew]; done) | (simp only [World.size_alloc, World.size_setCell, size_setRow, World.size_drew]; omega)))) | (with_reducible refine Kep.setCell ?_ (by first | omega | (simp only []; omega) | (show _ ≤ _; omega)) _)))⟩
end Go.Proofs.YthimfiihebdchaaDoor
