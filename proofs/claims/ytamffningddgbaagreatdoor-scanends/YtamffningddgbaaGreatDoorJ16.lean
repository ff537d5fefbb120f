/- Part of a proof. -/
import Derived.Deep.CutRange
import Derived.BigQuiet
import Derived.Deep.QuietTactic
import Derived.LoopTactic
import Derived.Test.YtamffningddgbaaGreatDoorShelf
import Derived.Test.YtamffningddgbaaGreatDoorJ10
namespace Go.Proofs.YtamffningddgbaaGreatDoor
open Go.RowKit
set_option linter.unusedVariables false
set_option linter.unusedSimpArgs false
structure Asc (w : World) (b off n : Nat) (d : Nat → Int) : Prop where
  lt : b < w.heap.size
  cell : ∀ i, i < n → w.cell? ⟨b, off + i, none⟩ = some (.int .u32 (d i))
  up : ∀ i j, i ≤ j → j < n → d i ≤ d j
  max : (n : Int) ≤ 1000
theorem Asc.kep {w w' : World} {b off n : Nat} {d : Nat → Int} (h : Asc w b off n d) (k : Kep w w') : Asc w' b off n d := ⟨k.lt h.lt, fun i hi => (k.cell h.lt).trans (h.cell i hi), h.up, h.max⟩
theorem isNaN_any (x : Int) (w : World) : Calls Tryz.prog 126 #[.int .u32 x] w fun e w' => e = .returned (.bool false) ∧ w' = w := by
  go_enter Tryz.func126, Tryz.ntmps126
  go_wp2
  go_ret
  exact ⟨by simp, rfl⟩
theorem less_any (x y : Int) (w : World) : Calls Tryz.prog 101 #[.int .u32 x, .int .u32 y] w fun e w' => e = .returned (.bool (decide (x < y))) ∧ w' = w := by
  go_enter Tryz.func101, Tryz.ntmps101
  go_wp2_with (go_at_call 126; refine (isNaN_any _ _).mono ?_; rintro e w1 ⟨rfl, rfl⟩)
  go_ret
  exact ⟨rfl, rfl⟩
theorem less_no {x y : Int} (h : x ≤ y) (w : World) : Calls Tryz.prog 101 #[.int .u32 y, .int .u32 x] w fun e w' => e = .returned (.bool false) ∧ w' = w := by
  have := less_any y x w
  rw [decide_eq_false (by omega)] at this
  exact this
theorem order2_any {w : World} {b off n : Nat} {d : Nat → Int} (h : Asc w b off n d) (cap i j : Nat) (hij : i ≤ j) (hj : j < n) (p : Option Addr) :
    Calls Tryz.prog 139 #[.slice (some ⟨b, off, none⟩) n cap, .int .i64 i, .int .i64 j, .pointer p] w fun e w' => e = .returned (.tuple #[.int .i64 i, .int .i64 j]) ∧ Kep w w' := by
  have c1 := h.cell i (by omega)
  have c2 := h.cell j hj
  have HL : Hid (∀ w, Calls Tryz.prog 101 #[.int .u32 (d j), .int .u32 (d i)] w fun e w' => e = .returned (.bool false) ∧ w' = w) := less_no (h.up i j hij hj)
  have hm := h.max
  generalize d i = x at *
  generalize d j = y at *
  clear h
  go_enter Tryz.func139, Tryz.ntmps139
  go_upto_region 1 with fail
  go_quiet ((go_at_call 101; exact Calls.quiet_of_same (HL.out _)))
  go_wp2_with fail
  go_ret2
  exact ⟨rfl, (by repeat (first | exact Kep.refl _ | apply Kep.drewN | apply Kep.drew | apply Kep.alloc))⟩
theorem median_any {w : World} {b off n : Nat} {d : Nat → Int} (h : Asc w b off n d) (cap i j k : Nat) (hij : i ≤ j) (hjk : j ≤ k) (hk : k < n) (p : Option Addr) :
    Calls Tryz.prog 125 #[.slice (some ⟨b, off, none⟩) n cap, .int .i64 i, .int .i64 j, .int .i64 k, .pointer p] w fun e w' => e = .returned (.int .i64 j) ∧ Kep w w' := by
  have H1 : Hid (∀ w', Kep w w' → Calls Tryz.prog 139 #[.slice (some ⟨b, off, none⟩) n cap, .int .i64 i, .int .i64 j, .pointer p] w' fun e w'' => e = .returned (.tuple #[.int .i64 i, .int .i64 j]) ∧ Kep w' w'') := fun w' q => order2_any (h.kep q) cap i j hij (by omega) p
  have H2 : Hid (∀ w', Kep w w' → Calls Tryz.prog 139 #[.slice (some ⟨b, off, none⟩) n cap, .int .i64 j, .int .i64 k, .pointer p] w' fun e w'' => e = .returned (.tuple #[.int .i64 j, .int .i64 k]) ∧ Kep w' w'') := fun w' q => order2_any (h.kep q) cap j k hjk hk p
  clear h
  go_enter Tryz.func125, Tryz.ntmps125
  go_wp2_with fail
  refine (H1.out w (Kep.refl _)).mono ?_
  rintro e w1 ⟨rfl, k1⟩
  have K1 : Hid (Kep w w1) := k1
  clear k1
  go_wp2_with fail
  refine (H2.out w1 K1.out).mono ?_
  rintro e w2 ⟨rfl, k2⟩
  have K2 : Hid (Kep w w2) := kep_trans K1.out k2
  clear k2
  go_wp2_with fail
  refine (H1.out w2 K2.out).mono ?_
  rintro e w3 ⟨rfl, k3⟩
  have K3 : Hid (Kep w w3) := kep_trans K2.out k3
  clear k3
  go_wp2_with fail
  go_ret
  exact ⟨rfl, K3.out⟩
theorem medianA_any {w : World} {b off n : Nat} {d : Nat → Int} (h : Asc w b off n d) (cap i : Nat) (hi : 1 ≤ i) (hn : i + 1 < n) (p : Option Addr) :
    Calls Tryz.prog 124 #[.slice (some ⟨b, off, none⟩) n cap, .int .i64 i, .pointer p] w fun e w' => e = .returned (.int .i64 i) ∧ Kep w w' := by
  obtain ⟨j, rfl⟩ : ∃ j, i = j + 1 := ⟨i - 1, by omega⟩
  have hm := h.max
  have H : Hid (∀ x y : Int, x = (j : Nat) → y = (j + 2 : Nat) → Calls Tryz.prog 125 #[.slice (some ⟨b, off, none⟩) n cap, .int .i64 x, .int .i64 (j + 1 : Nat), .int .i64 y, .pointer p] w fun e w' => e = .returned (.int .i64 (j + 1 : Nat)) ∧ Kep w w') := fun x y hx hy => by
    subst hx hy; exact median_any h cap j (j + 1) (j + 2) (by omega) (by omega) (by omega) p
  have g1 : (0 : Int) ≤ j := by omega
  have g2 : (j : Int) ≤ 1000 := by omega
  clear h
  go_enter Tryz.func124, Tryz.ntmps124
  go_wp2_with fail
  refine (H.out _ _ (by omega) (by omega)).mono ?_
  rintro e w1 ⟨rfl, k1⟩
  have K1 : Hid (Kep w w1) := k1
  clear k1
  go_wp2_with fail
  go_ret
  exact ⟨rfl, K1.out⟩
set_option maxHeartbeats 1000000 in
theorem pivot_any {w : World} {b off n : Nat} {d : Nat → Int} (h : Asc w b off n d) (cap : Nat) (hn : 12 < n) :
    Calls Tryz.prog 98 #[.slice (some ⟨b, off, none⟩) n cap, .int .i64 0, .int .i64 n] w fun e w' => (∃ j, e = .returned (.tuple #[.int .i64 j, .int .i64 1])) ∧ Kep w w' := by
  have hm := h.max
  have g1 : (12 : Int) < n := by omega
  obtain ⟨q, hq⟩ : ∃ q : Nat, (n : Int) / 4 = q := ⟨n / 4, by omega⟩
  have hq3 : (3 : Int) ≤ q ∧ 4 * (q : Int) ≤ n ∧ (n : Int) < 4 * q + 4 := by omega
  have HA : Hid (∀ (w' : World) (a : Int) (i : Nat), Kep w w' → a = (i : Int) → 1 ≤ i → i + 1 < n → ∀ p, Calls Tryz.prog 124 #[.slice (some ⟨b, off, none⟩) n cap, .int .i64 a, .pointer p] w' fun e w'' => e = .returned (.int .i64 a) ∧ Kep w' w'') := fun w' a i k e h1 h2 p => by subst e; exact medianA_any (h.kep k) cap i h1 h2 p
  have HM : Hid (∀ (w' : World) (a c e : Int) (i j k : Nat), Kep w w' → a = (i : Int) → c = (j : Int) → e = (k : Int) → i ≤ j → j ≤ k → k < n → ∀ p, Calls Tryz.prog 125 #[.slice (some ⟨b, off, none⟩) n cap, .int .i64 a, .int .i64 c, .int .i64 e, .pointer p] w' fun e w'' => e = .returned (.int .i64 c) ∧ Kep w' w'') := fun w' a c e i j k q h1 h2 h3 h4 h5 h6 p => by subst h1 h2 h3; exact median_any (h.kep q) cap i j k h4 h5 h6 p
  obtain ⟨W, hW⟩ : ∃ W, Hid (w.alloc (.cells #[.int .i64 0] 3) = W) := ⟨_, rfl⟩
  have KW : Hid (Kep w W) := by rw [Hid, ← hW.out]; exact (Kep.refl w).alloc _
  have ZW : Hid (W.heap[w.heap.size]? = some (.cells #[.int .i64 0] 3 (0, 0))) := by rw [Hid, ← hW.out]; exact hat _ _ _ rfl
  clear h
  have TAIL : Hid (∀ w', Kep W w' → w'.heap[w.heap.size]? = some (.cells #[.int .i64 0] 3 (0, 0))) := fun w' k => k.block ZW.out
  by_cases h50 : n < 50
  · have h50' : (n : Int) < 50 := by omega
    go_enter Tryz.func98, Tryz.ntmps98
    go_wp2_with fail
    rw [hW.out]
    refine (HM.out W _ _ _ q (q * 2) (q * 3) KW.out rfl (by omega) (by omega) (by omega) (by omega) (by omega) _).mono ?_
    rintro e w1 ⟨rfl, k1⟩
    have K1 : Hid (Kep w w1) := kep_trans KW.out k1
    have c1 : w1.cell? ⟨w.heap.size, 0, none⟩ = some (.int .i64 0) := cell_of_block (TAIL.out w1 k1)
    clear k1
    go_wp2_with fail
    go_ret2
    exact ⟨⟨_, rfl⟩, K1.out⟩
  · have h50' : ¬ (n : Int) < 50 := by omega
    go_enter Tryz.func98, Tryz.ntmps98
    go_wp2_with fail
    rw [hW.out]
    refine (HA.out W _ q KW.out rfl (by omega) (by omega) _).mono ?_
    rintro e w1 ⟨rfl, k1⟩
    have K1 : Hid (Kep W w1) := k1
    clear k1
    go_wp2_with fail
    refine (HA.out w1 _ (q * 2) (kep_trans KW.out K1.out) (by omega) (by omega) (by omega) _).mono ?_
    rintro e w2 ⟨rfl, k2⟩
    have K2 : Hid (Kep W w2) := kep_trans K1.out k2
    clear k2
    go_wp2_with fail
    refine (HA.out w2 _ (q * 3) (kep_trans KW.out K2.out) (by omega) (by omega) (by omega) _).mono ?_
    rintro e w3 ⟨rfl, k3⟩
    have K3 : Hid (Kep W w3) := kep_trans K2.out k3
    clear k3
    go_wp2_with fail
    refine (HM.out w3 _ _ _ q (q * 2) (q * 3) (kep_trans KW.out K3.out) rfl (by omega) (by omega) (by omega) (by omega) (by omega) _).mono ?_
    rintro e w4 ⟨rfl, k4⟩
    have K4 : Hid (Kep w w4) := kep_trans KW.out (kep_trans K3.out k4)
    have c1 : w4.cell? ⟨w.heap.size, 0, none⟩ = some (.int .i64 0) := cell_of_block (TAIL.out w4 (kep_trans K3.out k4))
    clear k4
    go_wp2_with fail
    go_ret2
    exact ⟨⟨_, rfl⟩, K4.out⟩
set_option maxHeartbeats 1000000 in
theorem insert_any {w : World} {b off n : Nat} {d : Nat → Int} (h : Asc w b off n d) (cap : Nat) :
    Calls Tryz.prog 95 #[.slice (some ⟨b, off, none⟩) n cap, .int .i64 0, .int .i64 n] w fun e w' => e = .returned (.tuple #[]) ∧ Kep w w' := by
  have A : Hid (∀ w', Kep w w' → Asc w' b off n d) := fun w' k => h.kep k
  have hm := h.max
  clear h
  go_enter Tryz.func95, Tryz.ntmps95
  go_wp2_with fail
  go_loopw [6] (fun i wr => ∃ m : Nat, (m : Int) ≤ n ∧ i = .int .i64 ((m : Int) + 1) ∧ Hid (Kep w wr)) (fun i _ => 2000 - (intOf i).toNat)
  case atStart => exact ⟨0, by omega, by go_num, Kep.refl _⟩
  case round =>
    obtain ⟨m, hmn, rfl, K⟩ := hrel
    by_cases hlt : m + 1 < n
    · have g1 : (m : Int) + 1 < n := by omega
      have HA := A.out wr K.out
      have c1 := HA.cell m (by omega)
      have c2 := HA.cell (m + 1) hlt
      have HL : Hid (∀ w, Calls Tryz.prog 101 #[.int .u32 (d (m + 1)), .int .u32 (d m)] w fun e w' => e = .returned (.bool false) ∧ w' = w) := less_no (HA.up m (m + 1) (by omega) hlt)
      generalize d m = x at *
      generalize d (m + 1) = y at *
      clear HA
      go_wp2_with fail
      refine wp_loop_rounds 1 ?_
      rw [rounds_succ]
      go_upto_region 4 with fail
      go_quiet ((go_at_call 101; exact Calls.quiet_of_same (HL.out _)))
      go_wp2_with fail
      go_roundw
      case rel => exact ⟨m + 1, by omega, by go_num, K.out.drewN _⟩
      case measure => simp [intOf]; omega
    · have g1 : ¬ (m : Int) + 1 < n := by omega
      go_wp2_with fail
      go_returns
      exact ⟨rfl, K.out⟩
set_option maxHeartbeats 1000000 in
theorem partial_any {w : World} {b off n : Nat} {d : Nat → Int} (h : Asc w b off n d) (cap : Nat) (hn : 12 < n) :
    Calls Tryz.prog 100 #[.slice (some ⟨b, off, none⟩) n cap, .int .i64 0, .int .i64 n] w fun e w' => e = .returned (.bool true) ∧ Kep w w' := by
  have A : Hid (∀ w', Kep w w' → Asc w' b off n d) := fun w' k => h.kep k
  have hm := h.max
  have hn' : (12 : Int) < n := by omega
  clear h
  go_enter Tryz.func100, Tryz.ntmps100
  go_wp2_with fail
  refine wp_loop_rounds 1 ?_
  rw [rounds_succ]
  go_wp2_with fail
  go_loopw [7] (fun i wr => ∃ m : Nat, (m : Int) + 1 ≤ n ∧ i = .int .i64 ((m : Int) + 1) ∧ Hid (Kep w wr)) (fun i _ => 2000 - (intOf i).toNat)
  case atStart => exact ⟨0, by omega, by go_num, Kep.refl _⟩
  case round =>
    obtain ⟨m, hmn, rfl, K⟩ := hrel
    by_cases hlt : m + 1 < n
    · have g1 : (m : Int) + 1 < n := by omega
      have HA := A.out wr K.out
      have c1 := HA.cell m (by omega)
      have c2 := HA.cell (m + 1) hlt
      have HL : Hid (∀ w, Calls Tryz.prog 101 #[.int .u32 (d (m + 1)), .int .u32 (d m)] w fun e w' => e = .returned (.bool false) ∧ w' = w) := less_no (HA.up m (m + 1) (by omega) hlt)
      generalize d m = x at *
      generalize d (m + 1) = y at *
      clear HA
      go_upto_region 5 with fail
      go_quiet ((go_at_call 101; exact Calls.quiet_of_same (HL.out _)))
      go_wp2_with fail
      go_roundw
      case rel => exact ⟨m + 1, by omega, by go_num, K.out.drewN _⟩
      case measure => simp [intOf]; omega
    · have g1 : ¬ (m : Int) + 1 < n := by omega
      have g2 : (m : Int) + 1 = n := by omega
      have g3 : decide ((m : Int) + 1 < n) = false := decide_eq_false g1
      have K' : Hid (Kep w wr) := K
      go_upto_region 5 with fail
      go_quiet (fail)
      go_wp2_with fail
      go_ret
      exact ⟨rfl, K'.out.drewN _⟩
set_option maxHeartbeats 2000000 in
theorem pdq_any {w : World} {b off n : Nat} {d : Nat → Int} (h : Asc w b off n d) (cap : Nat) (lim : Int) (hl : 1 ≤ lim) :
    Calls Tryz.prog 73 #[.slice (some ⟨b, off, none⟩) n cap, .int .i64 0, .int .i64 n, .int .i64 lim] w fun e w' => e = .returned (.tuple #[]) ∧ Kep w w' := by
  have hm := h.max
  by_cases hn : n ≤ 12
  · have g1 : (n : Int) ≤ 12 := by omega
    have H := hidd (insert_any h cap)
    clear h
    go_enter Tryz.func73, Tryz.ntmps73
    go_wp2_with fail
    refine wp_loop_rounds 1 ?_
    rw [rounds_succ]
    go_wp2_with fail
    refine H.out.mono ?_
    rintro e w1 ⟨rfl, k1⟩
    have K1 := hidd k1
    clear k1
    go_wp2_with fail
    go_returns
    exact ⟨rfl, K1.out⟩
  · have g1 : ¬ (n : Int) ≤ 12 := by omega
    have HP := hidd (pivot_any h cap (by omega))
    have HI : Hid (∀ w', Kep w w' → Calls Tryz.prog 100 #[.slice (some ⟨b, off, none⟩) n cap, .int .i64 0, .int .i64 n] w' fun e w'' => e = .returned (.bool true) ∧ Kep w' w'') := fun w' k => partial_any (h.kep k) cap (by omega)
    clear h
    go_enter Tryz.func73, Tryz.ntmps73
    go_wp2_with fail
    refine wp_loop_rounds 1 ?_
    rw [rounds_succ]
    go_wp2_with fail
    refine HP.out.mono ?_
    rintro e w1 ⟨⟨j, rfl⟩, k1⟩
    have K1 := hidd k1
    clear k1
    go_wp2_with fail
    refine (HI.out w1 K1.out).mono ?_
    rintro e w2 ⟨rfl, k2⟩
    have K2 := hidd (kep_trans K1.out k2)
    clear k2
    go_wp2_with fail
    go_returns
    exact ⟨rfl, K2.out⟩
def num (k : IntKind) (l : List Int) : List Value := l.map (Value.int k)
theorem num_len (k : IntKind) (l : List Int) : (num k l).length = l.length := by simp [num]
theorem put_row {enc : Int → Value} {w : World} {b off : Nat} {d : Array Int} : Put [b] w (Go.Sort.putRow enc w b off d) := by
  refine ⟨rfl, rfl, rfl, by simp, fun k hk hn => ?_⟩
  have : b ≠ k := fun e => hn (by simp [e])
  simp [Go.Sort.putRow, Go.Sort.mapBlock, Array.getElem?_modify, this]
theorem kep_ahead {w : World} {n : Nat} : Kep w (Go.Sort.ahead w n) := show Below w.heap.size w (Go.Sort.ahead w n) from { os := rfl, tape := rfl, output := rfl, size := Nat.le_refl _, block := fun _ _ => rfl }
theorem kep_grow {w : World} {os : Array Obj} : Kep w (Go.Sort.grow w os) := show Below w.heap.size w (Go.Sort.grow w os) from { os := rfl, tape := rfl, output := rfl, size := by simp, block := fun k hk => Go.Sort.heap_grow_old w os hk }
structure Rown (w : World) (k : IntKind) (g off : Nat) (xs : List Int) : Prop where
  holds : Go.Sort.Holds (Value.int k) w g off xs.toArray
  lt : g < w.heap.size
theorem Rown.kep {w w' : World} {k : IntKind} {g off : Nat} {xs : List Int} (h : Rown w k g off xs) (K : Kep w w') : Rown w' k g off xs :=
  ⟨fun j hj => ⟨(K.cell h.lt).trans (h.holds j hj).1, (World.frozen?_of_block (a := ⟨g, off + j, none⟩) (by have : Below w.heap.size w w' := K; exact this.block g h.lt)).trans (h.holds j hj).2⟩, K.lt h.lt⟩
theorem Rown.of_sli {w : World} {e : TypeId} {k : IntKind} {v : Value} {n : Nat} {xs : List Int} {F : List Nat} (h : Sli w e 1 v n (num k xs) F) (hn : 1 ≤ n) : ∃ g off cap, v = .slice (some ⟨g, off, none⟩) n cap ∧ F = [g] ∧ n ≤ cap ∧ xs.length = n ∧ Rown w k g off xs := by
  have hl := h.1
  rw [num_len] at hl
  rcases h.form with ⟨_, h0, _⟩ | ⟨g, off, cap, rfl, rfl, h1, h2, hg, hc, hf⟩
  · omega
  · refine ⟨g, off, cap, rfl, rfl, h1, by omega, fun j hj => ?_, hg⟩
    have hj' : j < xs.length := by simpa using hj
    refine ⟨?_, (hf j (by omega)).2⟩
    rw [bang_list xs j hj']
    exact hc j _ (by simp [num, hj'])
theorem Rown.of_put {w : World} {k : IntKind} {g off : Nat} {xs ys : List Int} (h : Rown w k g off xs) (hl : ys.length = xs.length) (q : Nat) (os : Array Obj) : Rown (Go.Sort.grow (Go.Sort.putRow (Value.int k) (Go.Sort.ahead w q) g off ys.toArray) os) k g off ys ∧ Put [g] w (Go.Sort.grow (Go.Sort.putRow (Value.int k) (Go.Sort.ahead w q) g off ys.toArray) os) := by
  have h1 := Go.Sort.holds_putRow (Value.int k) (Go.Sort.ahead w q) g off xs.toArray ys.toArray (Go.Sort.holds_ahead _ _ _ _ _ _ h.holds) (by simpa using hl)
  have hlt : g < (Go.Sort.putRow (Value.int k) (Go.Sort.ahead w q) g off ys.toArray).heap.size := by simpa using h.lt
  refine ⟨⟨Go.Sort.holds_grow _ _ _ _ _ _ hlt h1, by simp; have := h.lt; omega⟩, ?_⟩
  exact ((Put.of_kep kep_ahead).trans put_row).trans (Put.of_kep kep_grow)
theorem Rown.lies {w : World} {k : IntKind} {g off : Nat} {xs ys : List Int} (h : Rown w k g off (xs ++ ys)) : Lies w (some ⟨g, off, none⟩) (num k xs) := by
  refine .inr ⟨g, off, rfl, h.lt, fun j u hj => ?_⟩
  have hj' : j < xs.length := by have := (List.getElem?_eq_some_iff.1 hj).1; rwa [num_len] at this
  have := (h.holds j (by simp; omega)).1
  rw [this, bang_list _ j (by simp; omega)]
  simp [num, hj'] at hj
  rw [← hj, List.getElem_append_left hj']
theorem sortI_any {w : World} {g off : Nat} {xs : List Int} (h : Rown w .i64 g off xs) (cap : Nat) (hl : xs.length < 1000) :
    Calls Tryz.prog 52 #[.slice (some ⟨g, off, none⟩) xs.length cap] w fun e w' => e = .returned (.tuple #[]) ∧ Rown w' .i64 g off (xs.mergeSort fun x y => decide (x ≤ y)) ∧ Put [g] w w' := by
  refine (Tryz.slices_Sort_int g off cap xs w h.holds h.lt (by omega)).mono ?_
  rintro e w' ⟨rfl, n, os, rfl⟩
  obtain ⟨h1, h2⟩ := h.of_put (ys := xs.mergeSort fun x y => decide (x ≤ y)) (List.length_mergeSort xs) n os
  exact ⟨rfl, h1, h2⟩
open Go.Lib in
theorem cutI_any {w : World} {g off : Nat} {xs ys : List Int} (h : Rown w .i64 g off xs) (cap : Nat) (hl : xs.length < 1000) (hc : xs.length ≤ cap) (hy : compactUpTo xs.toArray xs.toArray.size = ys) :
    Calls Tryz.prog 53 #[.slice (some ⟨g, off, none⟩) xs.length cap] w fun e w' => e = .returned (.slice (some ⟨g, off, none⟩) ys.length cap) ∧ Lies w' (some ⟨g, off, none⟩) (num .i64 ys) ∧ Put [g] w w' := by
  have H := Tryz.slices_Compact_f53 (Value.int .i64) (fun _ => rfl) (EqlAt.intD _ _ _) (NeqAt.intD _ _ _) 0 (fun w => Tryz.zeroValue3 w) g off cap xs.toArray w h.holds (by simp; omega) (by simpa using hc)
  have e0 : xs.toArray.size = xs.length := by simp
  rw [hy, e0] at H
  refine H.mono ?_
  rintro e w' ⟨rfl, q, rfl⟩
  have hle : ys.length ≤ xs.length := by
    rw [← hy]; unfold compactUpTo
    simp only [List.length_map]
    exact Nat.le_trans (List.length_filter_le _ _) (by simp)
  obtain ⟨h1, h2⟩ := h.of_put (ys := ys ++ List.replicate (xs.length - ys.length) 0) (by simp; omega) q #[]
  rw [Go.Sort.grow_empty] at h1 h2
  exact ⟨rfl, h1.lies, h2⟩
open Go.Lib in
theorem cutU_any {w : World} {g off : Nat} {xs ys : List Int} (h : Rown w .u32 g off xs) (cap : Nat) (hl : xs.length < 1000) (hc : xs.length ≤ cap) (hy : compactUpTo xs.toArray xs.toArray.size = ys) :
    Calls Tryz.prog 51 #[.slice (some ⟨g, off, none⟩) xs.length cap] w fun e w' => e = .returned (.slice (some ⟨g, off, none⟩) ys.length cap) ∧ Lies w' (some ⟨g, off, none⟩) (num .u32 ys) ∧ Put [g] w w' := by
  have H := Tryz.slices_Compact_f51 (Value.int .u32) (fun _ => rfl) (EqlAt.intD _ _ _) (NeqAt.intD _ _ _) 0 (fun w => Tryz.zeroValue25 w) g off cap xs.toArray w h.holds (by simp; omega) (by simpa using hc)
  have e0 : xs.toArray.size = xs.length := by simp
  rw [hy, e0] at H
  refine H.mono ?_
  rintro e w' ⟨rfl, q, rfl⟩
  have hle : ys.length ≤ xs.length := by
    rw [← hy]; unfold compactUpTo
    simp only [List.length_map]
    exact Nat.le_trans (List.length_filter_le _ _) (by simp)
  obtain ⟨h1, h2⟩ := h.of_put (ys := ys ++ List.replicate (xs.length - ys.length) 0) (by simp; omega) q #[]
  rw [Go.Sort.grow_empty] at h1 h2
  exact ⟨rfl, h1.lies, h2⟩
set_option maxHeartbeats 1000000 in
theorem sortU_any {w : World} {g off : Nat} {xs : List Int} (h : Rown w .u32 g off xs) (cap : Nat) (hl : xs.length < 1000) (h1 : 1 ≤ xs.length) (hu : xs.Pairwise (· ≤ ·)) :
    Calls Tryz.prog 50 #[.slice (some ⟨g, off, none⟩) xs.length cap] w fun e w' => e = .returned (.tuple #[]) ∧ Kep w w' := by
  have A : Asc w g off xs.length (fun i => xs.toArray[i]!) := by
    refine ⟨h.lt, fun i hi => (h.holds i (by simpa using hi)).1, fun i j hij hj => ?_, by omega⟩
    rcases Nat.lt_or_ge i j with hlt | hge
    · show xs.toArray[i]! ≤ xs.toArray[j]!
      rw [bang_list xs i (by omega), bang_list xs j hj]
      exact List.pairwise_iff_getElem.1 hu i j (by omega) hj hlt
    · obtain rfl : i = j := by omega
      exact Int.le_refl _
  have HL : Hid (∀ w, ∃ l : Int, 1 ≤ l ∧ Calls Tryz.prog 74 #[.int .u64 (xs.length : Int)] w fun e w' => e = .returned (.int .i64 l) ∧ w' = w) := fun w => by
    refine ⟨(Lib.bitLen ((xs.length : Int)).toNat : Int), ?_, Tryz.bits_Len _ w (by omega) (by omega)⟩
    have e : ((xs.length : Int)).toNat = xs.length := by omega
    rw [e]
    have : 1 ≤ Lib.bitLen xs.length := by
      show 1 ≤ Lib.bitLenAux (63 + 1) xs.length
      unfold Lib.bitLenAux
      rw [if_neg (by omega)]
      omega
    omega
  have HP : Hid (∀ w' l, Kep w w' → 1 ≤ l → Calls Tryz.prog 73 #[.slice (some ⟨g, off, none⟩) xs.length cap, .int .i64 0, .int .i64 xs.length, .int .i64 l] w' fun e w'' => e = .returned (.tuple #[]) ∧ Kep w' w'') := fun w' l k hl => pdq_any (A.kep k) cap l hl
  have hn : (xs.length : Int) ≤ 1000 := by omega
  clear A h hu h1 hl
  generalize xs.length = n at *
  go_enter Tryz.func50, Tryz.ntmps50
  go_wp2_with fail
  obtain ⟨l, hl, H⟩ := HL.out w
  refine H.mono ?_
  rintro e w1 ⟨rfl, rfl⟩
  have hl' := hidd hl
  clear H hl
  go_wp2_with fail
  refine (HP.out _ l (Kep.refl _) hl'.out).mono ?_
  rintro e w2 ⟨rfl, k2⟩
  have K2 := hidd k2
  clear k2
  go_wp2_with fail
  go_returns
  exact ⟨rfl, K2.out⟩
end Go.Proofs.YtamffningddgbaaGreatDoor
