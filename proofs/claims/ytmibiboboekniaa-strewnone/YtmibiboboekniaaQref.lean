/- A row of places, strewn by a key: what the document's Order makes. -/
import Derived.Test.YtmibiboboekniaaQworks
import Derived.Maps.AppendAt
import Derived.OwnWalk
namespace Go.Proofs.Ytmibiboboekniaa
open Go.RowKit
set_option linter.unusedVariables false
set_option linter.unusedSimpArgs false

/-- Block R holds the numbers l, and T behind them. -/
def RowT (w : World) (R : Nat) (l : List Int) (T : List Value) : Prop := w.heap[R]? = some (.cells (ints l ++ T).toArray 3 (0, 0))
theorem RowT.cell {w : World} {R k : Nat} {l : List Int} {T : List Value} (h : RowT w R l T) (hk : k < l.length) : w.cell? ⟨R, k, none⟩ = some (.int .i64 (l.getD k 0)) := by
  rw [cell_of_block h]
  have h1 := ints_at hk
  have h2 : k < (ints l).length := by rw [ints_len]; exact hk
  rw [List.getElem?_toArray, List.getElem?_append_left h2, h1]
theorem RowT.frz {w : World} {R k : Nat} {l : List Int} {T : List Value} (h : RowT w R l T) : w.frozen? ⟨R, k, none⟩ = false := row_frz h
theorem RowT.set {w : World} {R k : Nat} {l : List Int} {T : List Value} (h : RowT w R l T) (hk : k < l.length) (a : Int) : RowT (w.setCell ⟨R, k, none⟩ (.int .i64 a)) R (l.set k a) T := by
  unfold RowT
  rw [heap_setCell_row h, ← ints_set]
  have h2 : k < (ints l).length := by rw [ints_len]; exact hk
  simp [List.set_append, h2]
theorem RowT.kep {w w' : World} {R : Nat} {l : List Int} {T : List Value} (h : RowT w R l T) (k : Kep w w') : RowT w' R l T := k.block h
theorem RowT.of_row {w : World} {R : Nat} {l : List Int} (h : w.heap[R]? = some (.cells (ints l).toArray 3 (0, 0))) : RowT w R l [] := by simpa [RowT] using h
theorem RowT.drew {w : World} {R : Nat} {l : List Int} {T : List Value} (h : RowT w R l T) : RowT w.drew R l T := h

theorem qown_base {w : World} {base : Nat} {e : TypeId} {size n g : Nat} {v : Value} {xs : List Value} (h : w.ownsRow base e size v n xs) (hg : v.ownBlock = some g) : base ≤ g := by
  rcases h.2 with ⟨rfl, _⟩ | ⟨g', cap, cur, rfl, hb, _⟩
  · simp [Value.ownBlock] at hg
  · simp [Value.ownBlock] at hg; omega
theorem RowT.of_owns {w : World} {base : Nat} {v : Value} {n : Nat} {l : List Int} (hn : 1 ≤ n) (hl : l.length = n) (h : w.ownsRow base 3 1 v n (ints l)) : ∃ (g cap : Nat) (T : List Value), v = .slice (some ⟨g, 0, none⟩) n cap ∧ base ≤ g ∧ RowT w g l T ∧ n ≤ cap ∧ cap ≤ maxLen := by
  rcases h with ⟨h0, ⟨_, hn0⟩ | ⟨g, cap, cur, hv, hb, hg, h1, h2, h3, h4⟩⟩
  · omega
  · refine ⟨g, cap, cur.toList.drop n, hv, hb, ?_, h1, h2⟩
    unfold RowT
    rw [Nat.mul_one] at h4
    rw [← h4, List.take_append_drop]
    simpa using hg

theorem ints_one (a : Int) : ∀ u ∈ [Value.int .i64 a], u.oneCell' = true := by simp [Value.oneCell']

theorem rorder_no (n : Int) (key : Int) (h : n < 1 ∨ 512 < n) (w : World) :
    Calls Try.prog 10 #[.int .i64 n, .int .u32 key] w fun e w' => e = .returned (.slice none 0 0) ∧ w' = w := by
  rcases Int.lt_or_le n 1 with h1 | h1
  · clear h
    go_enter Try.func10, Try.ntmps10
    go_wp2
    go_ret
    exact ⟨rfl, rfl⟩
  · have h2 : 512 < n := by omega
    clear h
    go_enter Try.func10, Try.ntmps10
    go_wp2
    go_ret
    exact ⟨rfl, rfl⟩

set_option maxHeartbeats 2000000 in
set_option maxRecDepth 100000 in
theorem rorder_any (n : Nat) (h1 : (1 : Int) ≤ n) (h2 : (n : Int) ≤ 512) (key : Int) (hk : 0 ≤ key ∧ key < 4294967296) (w : World) :
    Calls Try.prog 10 #[.int .i64 n, .int .u32 key] w fun e w' => ∃ (g cap : Nat) (T : List Value), e = .returned (.slice (some ⟨g, 0, none⟩) n cap) ∧ Kep w w' ∧ w.heap.size ≤ g ∧ RowT w' g (ordL n key) T ∧ n ≤ cap ∧ cap ≤ maxLen := by
  have n1 : ¬ (n : Int) < 1 := by omega
  have n2 : ¬ (512 : Int) < n := by omega
  obtain ⟨i0, hi, hz0, hz1, hz2⟩ := info_parts info_i64
  go_enter Try.func10, Try.ntmps10
  go_wp2_with fail
  go_loopw [5, 6] (fun v i wr => ∃ (k : Nat), (k : Int) ≤ n ∧ i = .int .i64 k ∧ Hid (wr.ownsRow w.heap.size 3 1 v k (ints (iot k))) ∧ Hid (Kep w wr)) (fun _ i _ => n - (intOf i).toNat)
  case atStart => exact ⟨0, by omega, rfl, World.ownsRow_nil _ _ _ _, Kep.refl _⟩
  case round =>
    obtain ⟨k, hkn, rfl, O, K⟩ := hrel
    by_cases hlt : k < n
    · have hlt' : (k : Int) < n := by omega
      have hadd : Hid (ints (iot (k + 1)) = ints (iot k) ++ [.int .i64 k]) := by rw [Hid, ← iot_succ, ints_app]
      have hs : Hid (∀ o, w.heap.size ≤ (wr.alloc o).heap.size) := fun o => by have := K.out.size; simp; omega
      have hml : k + 1 ≤ maxLen := by unfold maxLen; omega
      go_wp2_with (at_builtin; (refine wpList_append_own _ rfl _ _ 24 rfl w.heap.size 3 i0 (.int .i64 0) 1 8 Try.underlying24 hi hz0 hz1 hz2 rfl (by decide) _ k (ints (iot k)) rfl (World.ownsRow.alloc O.out _) ⟨wr.heap.size, 0, none⟩ 1 1 [.int .i64 k] rfl rfl (cell_one_new _ _ _) (ints_one _) hml (by omega) (hs.out _) ?_); intro v' w1 hown' hgrow _)
      go_roundw
      case rel =>
        refine ⟨k + 1, by omega, by go_num, by rw [Hid, hadd.out]; exact hown', ?_⟩
        exact (K.out.alloc _).by hgrow (fun g hg => by have := qown_base O.out hg; simp; omega)
      case measure => simp [intOf]; omega
    · obtain rfl : k = n := by omega
      have R : Hid (∃ (g cap : Nat) (T : List Value), u5 = .slice (some ⟨g, 0, none⟩) k cap ∧ w.heap.size ≤ g ∧ RowT wr g (iot k) T ∧ k ≤ cap ∧ cap ≤ maxLen) := RowT.of_owns (by omega) (iot_len k) O.out
      clear O
      obtain ⟨g, cap, T, rfl, hg, hR, hc1, hc2⟩ := R.out
      clear R
      have hc3 : (k : Int) ≤ cap := by omega
      have hc4 : (cap : Int) ≤ 9223372036854775807 := by unfold maxLen at hc2; omega
      have hR' : Hid (RowT wr g (iot k) T) := hR
      have hg' : Hid (w.heap.size ≤ g) := hg
      have hm : Hid (k ≤ cap ∧ cap ≤ maxLen) := ⟨hc1, hc2⟩
      clear hR hg hc1 hc2
      go_wp2_with fail
      go_loopw [7, 8] (fun xv iv wr => ∃ (i : Nat) (l : List Int) (x : Int), (i : Int) < k ∧ iv = .int .i64 i ∧ xv = .int .u64 x ∧ (l.length = k ∧ 0 ≤ x ∧ x < 4294967296) ∧ Hid (ordF i x l = ordL k key) ∧ Hid (Kep w wr ∧ RowT wr g l T)) (fun _ i _ => (intOf i).toNat)
      case atStart => exact ⟨k - 1, iot k, key, by omega, by go_num, by go_num, ⟨iot_len k, hk.1, hk.2⟩, rfl, K.out, hR'.out⟩
      case round =>
        clear hR' K
        obtain ⟨i, l, x, hik, rfl, rfl, ⟨hl, hx0, hx1⟩, hO, D⟩ := hrel
        rcases Nat.eq_zero_or_pos i with rfl | hi0
        · have hO' := hO.out
          unfold ordF at hO'
          subst hO'
          go_wp2_with fail
          go_ret
          exact ⟨g, cap, T, rfl, D.out.1, hg'.out, D.out.2, hm.out⟩
        · obtain ⟨i, rfl⟩ : ∃ j, i = j + 1 := ⟨i - 1, by omega⟩
          have e1 : (x * 1664525 + 1013904223) % 4294967296 = nx x := rfl
          have hnr := nx_range x
          have hj := pick_range x i
          have hO' : Hid (ordF i (nx x) (swp l (i + 1) (nx x / 256 % (i + 2)).toNat) = ordL k key) := hO.out
          have e3 : nx x / 256 % ((i : Int) + 1 + 1) = ((nx x / 256 % ((i : Int) + 2)).toNat : Int) := by
            have : 0 ≤ nx x / 256 % ((i : Int) + 2) := Int.emod_nonneg _ (by omega)
            rw [show (i : Int) + 1 + 1 = i + 2 by omega]; omega
          generalize (nx x / 256 % ((i : Int) + 2)).toNat = j at hj hO' e3
          generalize nx x = y at e1 hnr hO' e3
          rw [← e1] at hnr
          have hnr' : Hid (0 ≤ y ∧ y < 4294967296) := by rw [← e1]; exact hnr
          go_wp2_with fail
          have hK : Hid (Kep w wr) := D.out.1
          have hR := D.out.2
          have hjl : j < l.length := by omega
          have hil : i + 1 < l.length := by omega
          have c1 := hR.cell (k := i + 1) hil
          have c2 := hR.cell (k := j) hjl
          have f1 := hR.frz (k := i + 1)
          have f2 := hR.frz (k := j)
          have D2 : Hid (Kep w ((wr.setCell ⟨g, i + 1, none⟩ (.int .i64 (l.getD j 0))).setCell ⟨g, j, none⟩ (.int .i64 (l.getD (i + 1) 0))) ∧ RowT ((wr.setCell ⟨g, i + 1, none⟩ (.int .i64 (l.getD j 0))).setCell ⟨g, j, none⟩ (.int .i64 (l.getD (i + 1) 0))) g (swp l (i + 1) j) T) :=
            ⟨(hK.out.setCell (by exact hg'.out) _).setCell (by exact hg'.out) _, (hR.set hil _).set (by simpa using hjl) _⟩
          have ls : (swp l (i + 1) j).length = k := by rw [swp_len, hl]
          obtain ⟨bb, c3⟩ : ∃ bb, (wr.setCell ⟨g, i + 1, none⟩ (.int .i64 (l.getD j 0))).cell? ⟨g, j, none⟩ = some (.int .i64 bb) := ⟨_, (hR.set hil (l.getD j 0)).cell (by simpa using hjl)⟩
          generalize swp l (i + 1) j = l2 at D2 hO' ls
          generalize l.getD (i + 1) 0 = a at c1 D2
          generalize l.getD j 0 = b at c2 D2 c3
          have hjk : (j : Int) < k := by omega
          have hik' : (i : Int) + 1 < k := by omega
          have p0 : (0 : Int) ≤ (i : Int) + 1 := by omega
          clear hR D hO
          have f3 : (wr.setCell ⟨g, i + 1, none⟩ (.int .i64 b)).frozen? ⟨g, j, none⟩ = false := by simpa using f2
          go_region
          all_goals
            go_wp2_with fail
            go_roundw
            case rel => exact ⟨i, l2, y, by omega, by go_num, by go_num, ⟨ls, hnr'.out⟩, hO', D2.out.1.drew, D2.out.2⟩
            case measure => simp [intOf]
end Go.Proofs.Ytmibiboboekniaa
