/- A row of places, strewn by a key: what Order makes. -/
import Derived.Test.YtmibiboboekniaaQpure
namespace Go.Proofs.Ytmibiboboekniaa
open Go.RowKit
set_option linter.unusedVariables false
set_option linter.unusedSimpArgs false

theorem repI_made (x : Value) (n : Nat) : madeCells #[x] n = (List.replicate n x).toArray := by
  apply Array.ext
  · simp [madeCells]
  · intro i h1 h2
    simp [madeCells, Nat.mod_one]
theorem info_i64 : (Try.prog.info? 3).map (fun i => (i.zero, i.size, i.bytes)) = some (some (.int .i64 0), 1, 8) := by kernel_rfl
theorem made_i64 (n : Nat) : (List.replicate n (Value.int .i64 0)) = ints (List.replicate n 0) := by simp [ints]
theorem make_ints (s : Nat) (hs : s ≤ 1000000) (w : World) : Sem.run Try.prog (Instr.makeSlice 24 (.int .i64 s) (.int .i64 s)) w = .ok (.slice (some ⟨w.heap.size, 0, none⟩) s s) (w.alloc (.cells (ints (List.replicate s 0)).toArray 3)) := by
  obtain ⟨i, hi, hz0, hz1, hz2⟩ := info_parts info_i64
  have := run_make (P := Try.prog) w 24 3 i (.int .i64 0) Try.underlying24 hi hz0 .i64 .i64 s s (by omega) (by omega) (by rw [hz2]; omega) (by omega)
  rw [hz1] at this
  rw [← made_i64]
  simpa [Value.cells, repI_made] using this

abbrev pkV (X : Nat) : Value := .func (.func 18) #[] #[.pointer (some ⟨X, 0, none⟩)]
theorem picker_any (x : Int) (w : World) :
    Calls Try.prog 16 #[.int .u32 x] w fun e w' => e = .returned (pkV w.heap.size) ∧ w' = w.alloc (.cells #[.int .u32 x] 22) := by
  have hmf : ∀ (fn : Fn) (first cap : Array Value) (w : World), (Instr.makeFunc fn first cap).run Try.prog w = .ok (.func fn first cap) w := fun _ _ _ _ => rfl
  go_enter Try.func16, Try.ntmps16
  go_wp2
  go_ret
  exact ⟨rfl, rfl⟩

theorem pick_any (X : Nat) (x : Int) (hx : 0 ≤ x ∧ x < 4294967296) (p : Nat) (h1 : 1 ≤ p) (h2 : p ≤ 512) (w : World) (hc : w.cell? ⟨X, 0, none⟩ = some (.int .u32 x)) (hz : w.frozen? ⟨X, 0, none⟩ = false) :
    Calls Try.prog 18 #[.int .i64 p, .pointer (some ⟨X, 0, none⟩)] w fun e w' => e = .returned (.int .i64 (nx x / 256 % p)) ∧ w' = w.setCell ⟨X, 0, none⟩ (.int .u32 (nx x)) := by
  have hq : ((p : Int) == 0) = false := by simp; omega
  have e1 : (x * 1664525 % 4294967296 + 1013904223) % 4294967296 = nx x := by unfold nx; omega
  have hr := nx_range x
  have r1 : 0 ≤ nx x / 256 % (p : Int) := Int.emod_nonneg _ (by omega)
  have r2 : nx x / 256 % (p : Int) < p := Int.emod_lt_of_pos _ (by omega)
  have e2 : wrap64 (nx x / 256 % (p : Int)) = nx x / 256 % (p : Int) := by unfold wrap64; omega
  go_enter Try.func18, Try.ntmps18
  go_wp2
  go_ret
  exact ⟨rfl, rfl⟩

/-- So far: the row holds l, the picker's number is x. -/
structure OrdS (w wr : World) (X : Nat) (l : List Int) (x : Int) : Prop where
  kep : Kep w wr
  row : wr.heap[w.heap.size]? = some (.cells (ints l).toArray 3 (0, 0))
  gt : w.heap.size < X
  box : wr.heap[X]? = some (.cells #[.int .u32 x] 22 (0, 0))
theorem fill_at {n k : Nat} (h : k < n) : (iot k ++ List.replicate (n - k) 0).set k (k : Int) = iot (k + 1) ++ List.replicate (n - (k + 1)) 0 := by
  have e : n - k = (n - (k + 1)) + 1 := by omega
  rw [e, List.replicate_succ, List.set_append]
  simp [iot_len, ← iot_succ]
theorem row_set {w : World} {R k : Nat} {l : List Int} (h : w.heap[R]? = some (.cells (ints l).toArray 3 (0, 0))) (a : Int) : (w.setCell ⟨R, k, none⟩ (.int .i64 a)).heap[R]? = some (.cells (ints (l.set k a)).toArray 3 (0, 0)) := by
  rw [heap_setCell_row h, ← ints_set]; simp
theorem row_cell {w : World} {R k : Nat} {l : List Int} (h : w.heap[R]? = some (.cells (ints l).toArray 3 (0, 0))) (hk : k < l.length) : w.cell? ⟨R, k, none⟩ = some (.int .i64 (l.getD k 0)) := by
  rw [cell_of_block h]; simpa using ints_at hk
theorem row_frz {w : World} {R k : Nat} {cs : Array Value} {t : TypeId} (h : w.heap[R]? = some (.cells cs t (0, 0))) : w.frozen? ⟨R, k, none⟩ = false := by simp [World.frozen?, h]

theorem OrdS.step {w wr : World} {X : Nat} {l : List Int} {x : Int} (h : OrdS w wr X l x) (y a b : Int) (i j : Nat) : OrdS w (((wr.setCell ⟨X, 0, none⟩ (.int .u32 y)).setCell ⟨w.heap.size, i, none⟩ (.int .i64 a)).setCell ⟨w.heap.size, j, none⟩ (.int .i64 b)) X ((l.set i a).set j b) y := by
  have hg := h.gt
  refine ⟨((h.kep.setCell (by simp; omega) _).setCell (by simp) _).setCell (by simp) _, row_set (row_set ((heap_setCell_other _ _ _ _ (by simp; omega)).trans h.row) a) b, hg, ?_⟩
  exact (heap_setCell_other _ _ _ _ (by simp; omega)).trans ((heap_setCell_other _ _ _ _ (by simp; omega)).trans ((heap_setCell_row h.box _).trans rfl))

theorem OrdS.drew {w wr : World} {X : Nat} {l : List Int} {x : Int} (h : OrdS w wr X l x) : OrdS w wr.drew X l x := ⟨h.kep.drew, h.row, h.gt, h.box⟩

theorem order_no (n : Int) (key : Int) (h : n < 1 ∨ 512 < n) (w : World) :
    Calls Try.prog 9 #[.int .i64 n, .int .u32 key] w fun e w' => e = .returned (.slice none 0 0) ∧ w' = w := by
  rcases Int.lt_or_le n 1 with h1 | h1
  · clear h
    go_enter Try.func9, Try.ntmps9
    go_wp2
    go_ret
    exact ⟨rfl, rfl⟩
  · have h2 : 512 < n := by omega
    clear h
    go_enter Try.func9, Try.ntmps9
    go_wp2
    go_ret
    exact ⟨rfl, rfl⟩

set_option maxHeartbeats 1000000 in
set_option maxRecDepth 100000 in
theorem order_any (n : Nat) (h1 : (1 : Int) ≤ n) (h2 : (n : Int) ≤ 512) (key : Int) (hk : 0 ≤ key ∧ key < 4294967296) (w : World) :
    Calls Try.prog 9 #[.int .i64 n, .int .u32 key] w fun e w' => e = .returned (.slice (some ⟨w.heap.size, 0, none⟩) n n) ∧ Kep w w' ∧ w'.heap[w.heap.size]? = some (.cells (ints (ordL n key)).toArray 3 (0, 0)) := by
  have m1 := make_ints n (by omega)
  have HP : Hid (∀ w, Calls Try.prog 16 #[.int .u32 key] w fun e w' => e = .returned (pkV w.heap.size) ∧ w' = w.alloc (.cells #[.int .u32 key] 22)) := fun w => picker_any key w
  have n1 : ¬ (n : Int) < 1 := by omega
  have n2 : ¬ (512 : Int) < n := by omega
  go_enter Try.func9, Try.ntmps9
  go_wp2_with fail
  go_loopw [20] (fun i wr => ∃ k : Nat, (k : Int) ≤ n ∧ i = .int .i64 k ∧ Hid (Kep w wr ∧ wr.heap.size = w.heap.size + 1 ∧ wr.heap[w.heap.size]? = some (.cells (ints (iot k ++ List.replicate (n - k) 0)).toArray 3 (0, 0)))) (fun i _ => n - (intOf i).toNat)
  case atStart => exact ⟨0, by omega, rfl, (Kep.refl _).alloc _, by simp, hat _ _ _ rfl⟩
  case round =>
    obtain ⟨k, hkn, rfl, C⟩ := hrel
    clear m1
    by_cases hlt : k < n
    · have f2 := row_frz (k := k) C.out.2.2
      have c2 := row_cell (k := k) C.out.2.2 (by simp [iot_len]; omega)
      have hlt' : (k : Int) < n := by omega
      go_wp2_with fail
      go_roundw
      case rel => exact ⟨k + 1, by omega, by go_num, C.out.1.setCell (by simp) _, by simp [C.out.2.1], by rw [row_set C.out.2.2, fill_at hlt]⟩
      case measure => simp [intOf]; omega
    · obtain rfl : k = n := by omega
      obtain ⟨C1, C2, C3⟩ := C.out
      clear C
      have C3' : Hid (wr.heap[w.heap.size]? = some (.cells (ints (iot k)).toArray 3 (0, 0))) := by unfold Hid; simpa using C3
      have C1' : Hid (Kep w wr) := C1
      have C2' : Hid (wr.heap.size = w.heap.size + 1) := C2
      clear C1 C2 C3
      go_wp2_with (go_at_call 16; refine (HP.out _).mono ?_; rintro e w1 ⟨rfl, rfl⟩)
      clear HP
      have hX : w.heap.size < wr.heap.size := by rw [C2'.out]; omega
      have st : Hid (OrdS w (wr.alloc (.cells #[.int .u32 key] 22)) wr.heap.size (iot k) key) := ⟨C1'.out.alloc _, (hsk _ _ _ hX).trans C3'.out, hX, hat _ _ _ rfl⟩
      clear C1' C2' C3'
      generalize wr.alloc (.cells #[.int .u32 key] 22) = W at st
      generalize wr.heap.size = X at st hX
      go_loopw [32] (fun i wr => ∃ (m : Nat) (l : List Int) (x : Int), (m : Int) ≤ k - 1 ∧ i = .int .i64 m ∧ (l.length = k ∧ InR k l ∧ 0 ≤ x ∧ x < 4294967296) ∧ ordF (k - 1 - m) x l = ordL k key ∧ Hid (OrdS w wr X l x)) (fun i _ => k - (intOf i).toNat)
      case atStart => exact ⟨0, iot k, key, by omega, rfl, ⟨iot_len k, iot_in k, hk.1, hk.2⟩, rfl, st⟩
      case round =>
        obtain ⟨m, l, x, hm, rfl, ⟨hl, hr, hx⟩, hO, D⟩ := hrel
        clear st
        by_cases hlt : m < k - 1
        · obtain ⟨i, hi⟩ : ∃ i, k - 1 - m = i + 1 := ⟨k - 1 - m - 1, by omega⟩
          have hmi : (k : Int) - 1 - m = (i : Int) + 1 := by omega
          rw [hi] at hO
          have e2 : ((i + 2 : Nat) : Int) = (i : Int) + 1 + 1 := by omega
          have P := pick_any X x hx (i + 2) (by omega) (by omega) wr ((cell_of_block D.out.box).trans rfl) (row_frz D.out.box)
          rw [e2] at P
          have hj := pick_range x i
          unfold ordF at hO
          have e3 : nx x / 256 % ((i : Int) + 1 + 1) = ((nx x / 256 % ((i : Int) + 2)).toNat : Int) := by
            have : 0 ≤ nx x / 256 % ((i : Int) + 2) := Int.emod_nonneg _ (by omega)
            rw [show (i : Int) + 1 + 1 = i + 2 by omega]; omega
          rw [e3] at P
          have hnr := nx_range x
          generalize (nx x / 256 % ((i : Int) + 2)).toNat = j at hj P hO
          generalize nx x = y at P hO hnr
          clear e3 e2 hx
          have PH : Hid (Calls Try.prog 18 #[.int .i64 ((i : Int) + 1 + 1), .pointer (some ⟨X, 0, none⟩)] wr fun e w' => e = .returned (.int .i64 (j : Int)) ∧ w' = wr.setCell ⟨X, 0, none⟩ (.int .u32 y)) := P
          clear P
          have hlt' : (m : Int) < k - 1 := by omega
          go_wp2_with (go_at_call 18; refine PH.out.mono ?_; rintro e w1 ⟨rfl, rfl⟩)
          clear PH
          have D2 : Hid (∀ a b : Int, OrdS w (((wr.setCell ⟨X, 0, none⟩ (.int .u32 y)).setCell ⟨w.heap.size, i + 1, none⟩ (.int .i64 a)).setCell ⟨w.heap.size, j, none⟩ (.int .i64 b)) X ((l.set (i + 1) a).set j b) y) := fun a b => D.out.step y a b (i + 1) j
          have R2 : (wr.setCell ⟨X, 0, none⟩ (.int .u32 y)).heap[w.heap.size]? = some (.cells (ints l).toArray 3 (0, 0)) := (heap_setCell_other _ _ _ _ (by simp; omega)).trans D.out.row
          generalize wr.setCell ⟨X, 0, none⟩ (.int .u32 y) = W2 at R2 D2
          have c1 := row_cell (k := i + 1) R2 (by omega)
          have c2 := row_cell (k := j) R2 (by omega)
          have f1 := row_frz (k := i + 1) R2
          have f2 := row_frz (k := j) R2
          have ls : (swp l (i + 1) j).length = k ∧ InR k (swp l (i + 1) j) := ⟨by rw [swp_len, hl], hr.swp (by omega) (by omega)⟩
          have hs : swp l (i + 1) j = (l.set (i + 1) (l.getD j 0)).set j (l.getD (i + 1) 0) := rfl
          rw [hs] at ls hO
          have hab : j = i + 1 → l.getD j 0 = l.getD (i + 1) 0 := fun h => by rw [h]
          generalize l.getD (i + 1) 0 = a at c1 ls hO hab
          generalize l.getD j 0 = b at c2 ls hO hab
          have hjk : (j : Int) < k := by omega
          have hik : (i : Int) + 1 < k := by omega
          clear hs R2 D hr
          have p0 : (0 : Int) ≤ (i : Int) + 1 := by omega
          by_cases hji : j = i + 1
          · obtain rfl := hab hji
            subst hji
            clear hab
            go_region
            all_goals
              go_wp2_with fail
              go_roundw
              case rel => exact ⟨m + 1, _, y, by omega, by go_num, ⟨ls.1, ls.2, hnr⟩, by rw [← hO]; congr 1; omega, (D2.out _ _).drew⟩
              case measure => simp [intOf]; omega
          · clear hab
            have hij : ¬ i + 1 = j := fun h => hji h.symm
            go_region
            all_goals
              go_wp2_with fail
              go_roundw
              case rel => exact ⟨m + 1, _, y, by omega, by go_num, ⟨ls.1, ls.2, hnr⟩, by rw [← hO]; congr 1; omega, (D2.out _ _).drew⟩
              case measure => simp [intOf]; omega
        · obtain rfl : m = k - 1 := by omega
          have hq : ¬ ((k - 1 : Nat) : Int) < k - 1 := by omega
          rw [Nat.sub_self] at hO
          unfold ordF at hO
          subst hO
          have DK := D.out.kep
          have DR := D.out.row
          clear D
          go_wp2_with fail
          go_ret
          exact ⟨rfl, DK, DR⟩
end Go.Proofs.Ytmibiboboekniaa
