/- New marks, and a Clear. -/
import Derived.Test.YtncfkbnjiacblaaMkcode
namespace Go.Proofs.Ytncfkbnjiacblaa
open Go.RowKit
set_option linter.unusedVariables false
set_option linter.unusedSimpArgs false

theorem clear_no {w : World} {v : Value} {L0 L1 : List Bool} (k : Int) (h : MSt w v L0 L1) (hk : k ≠ 1 ∧ k ≠ 2 ∨ L0 = [] ∧ L1 = []) :
    Calls Try.prog 13 #[v, .int .i64 k] w fun e w' => e = .returned (.tuple #[]) ∧ w' = w := by
  have HO : Hid (Calls Try.prog 21 #[v, .int .i64 k] w fun e w' => ∃ x, e = .returned (.slice x 0 0) ∧ w' = w) := by
    refine (of_any k h).mono ?_
    have e : kindL L0 L1 k = [] := by
      rcases hk with ⟨h1, h2⟩ | ⟨rfl, rfl⟩
      · exact kind_no h1 h2
      · simp [kindL]
    rintro e' w' ⟨x, rfl, _, rfl⟩
    rw [e]
    exact ⟨x, rfl, rfl⟩
  clear h hk
  have hc : ∀ (x : Option Addr) (w : World) (ty : TypeId), (Builtin.clear_ #[44] ty #[.slice x 0 0]).run Try.prog w = .ok (.tuple #[]) w := fun x w ty => by
    cases x <;> simp [Builtin.clear_, run_underlying Try.underlying44]
  go_enter Try.func13, Try.ntmps13
  go_wp2_with (go_at_call 21; refine HO.out.mono ?_; rintro e w0 ⟨x, rfl, hq0⟩; rw [hq0]; clear hq0 w0)
  go_end0
  exact ⟨rfl, rfl⟩
theorem clear_one {w : World} {p b0 b1 : Nat} {L0 L1 : List Bool} (k : Int) (h : MarksAt w p b0 b1 L0 L1) (hk : k = 1 ∨ k = 2) :
    Calls Try.prog 13 #[.pointer (some ⟨p, 0, none⟩), .int .i64 k] w fun e w' => e = .returned (.tuple #[]) ∧ w' = w.setCells (if k = 1 then b0 else b1) 0 (bls (List.replicate L0.length false)) := by
  have HO : Hid (Calls Try.prog 21 #[.pointer (some ⟨p, 0, none⟩), .int .i64 k] w fun e w' => e = .returned (.slice (some ⟨(if k = 1 then b0 else b1), 0, none⟩) L0.length L0.length) ∧ w' = w) := by
    have := of_box (n0 := 0) (n1 := 0) k h.box
    have hl := h.le.1
    rcases hk with rfl | rfl
    · simpa [kindX, kindL, Hid] using this
    · simpa [kindX, kindL, hl, Hid] using this
  have hc : ∀ ty, (Builtin.clear_ #[44] ty #[.slice (some ⟨(if k = 1 then b0 else b1), 0, none⟩) L0.length L0.length]).run Try.prog w = .ok (.tuple #[]) (w.setCells (if k = 1 then b0 else b1) 0 (bls (List.replicate L0.length false))) := fun ty => by
    rcases hk with rfl | rfl
    · exact clear_bls w ty _ _ _ (by have := h.le; omega) L0 h.r0 (Nat.le_refl _)
    · exact clear_bls w ty _ _ _ (by have := h.le; omega) L1 h.r1 (by have := h.le; omega)
  clear h hk
  generalize L0.length = n at *
  generalize (if k = 1 then b0 else b1) = b at *
  generalize bls (List.replicate n false) = X at *
  go_enter Try.func13, Try.ntmps13
  go_wp2_with (go_at_call 21; refine HO.out.mono ?_; rintro e w0 ⟨rfl, hq0⟩; rw [hq0]; clear hq0 w0)
  go_end0
  exact ⟨rfl, rfl⟩
theorem row_none {w : World} {R : Nat} {L : List Bool} (h : w.heap[R]? = some (.cells (bls L).toArray 4 (0, 0))) : (w.setCells R 0 (bls (List.replicate L.length false))).heap[R]? = some (.cells (bls (noneB L)).toArray 4 (0, 0)) := by
  rw [heap_setCells_row (bls (List.replicate L.length false)) 0 w (bls L) h (by simp [bls_len])]
  have e : (bls L).drop (0 + (bls (List.replicate L.length false)).length) = [] := List.drop_eq_nil_of_le (by simp [bls_len])
  rw [e]
  simp [noneB]
theorem MarksAt.none0 {w : World} {p b0 b1 : Nat} {L0 L1 : List Bool} (h : MarksAt w p b0 b1 L0 L1) : MarksAt (w.setCells b0 0 (bls (List.replicate L0.length false))) p b0 b1 (noneB L0) L1 := by
  have P : Put [b0] w (w.setCells b0 0 (bls (List.replicate L0.length false))) := Put.setCells (by simp) _ 0 w (Put.refl _)
  have hl : (noneB L0).length = L0.length := by simp [noneB]
  refine ⟨?_, row_none h.r0, P.keeps h.r1 (by simp; exact h.ne.symm), h.ne, by rw [hl]; exact h.le⟩
  rw [hl]; exact P.keeps h.box (by simp; exact h.pn.1)
theorem MarksAt.none1 {w : World} {p b0 b1 : Nat} {L0 L1 : List Bool} (h : MarksAt w p b0 b1 L0 L1) : MarksAt (w.setCells b1 0 (bls (List.replicate L1.length false))) p b0 b1 L0 (noneB L1) := by
  have P : Put [b1] w (w.setCells b1 0 (bls (List.replicate L1.length false))) := Put.setCells (by simp) _ 0 w (Put.refl _)
  have hl : (noneB L1).length = L1.length := by simp [noneB]
  refine ⟨?_, P.keeps h.r0 (by simp; exact h.ne), row_none h.r1, h.ne, by rw [hl]; exact h.le⟩
  rw [hl]; exact P.keeps h.box (by simp; exact h.pn.2)
theorem mclear_any {w : World} {p b0 b1 : Nat} {L0 L1 : List Bool} (k : Int) (h : MarksAt w p b0 b1 L0 L1) :
    Calls Try.prog 13 #[.pointer (some ⟨p, 0, none⟩), .int .i64 k] w fun e w' => e = .returned (.tuple #[]) ∧ MarksAt w' p b0 b1 (onK k 1 noneB L0) (onK k 2 noneB L1) ∧ Put [b0, b1] w w' := by
  rcases (by omega : (k ≠ 1 ∧ k ≠ 2) ∨ k = 1 ∨ k = 2) with hk | rfl | rfl
  · refine (clear_no k h.st (.inl hk)).mono ?_
    rintro e w' ⟨rfl, rfl⟩
    have e1 : onK k 1 noneB L0 = L0 := by unfold onK; rw [if_neg hk.1]
    have e2 : onK k 2 noneB L1 = L1 := by unfold onK; rw [if_neg hk.2]
    rw [e1, e2]
    exact ⟨rfl, h, Put.refl _⟩
  · refine (clear_one 1 h (.inl rfl)).mono ?_
    rintro e w' ⟨rfl, rfl⟩
    exact ⟨rfl, by simpa [onK] using h.none0, Put.setCells (by simp) _ 0 w (Put.refl _)⟩
  · refine (clear_one 2 h (.inr rfl)).mono ?_
    rintro e w' ⟨rfl, rfl⟩
    rw [h.le.1]
    exact ⟨rfl, by simpa [onK] using h.none1, Put.setCells (by simp) _ 0 w (Put.refl _)⟩
theorem clear_none {w : World} {v : Value} (k : Int) (h : NoMarks w v) :
    Calls Try.prog 13 #[v, .int .i64 k] w fun e w' => e = .returned (.tuple #[]) ∧ w' = w := clear_no k h.st (.inr ⟨rfl, rfl⟩)

theorem mnew_no (w : World) (n : Int) (h : n < 1 ∨ 64 < n) :
    Calls Try.prog 7 #[.int .i64 n] w fun e w' => e = .returned (.tuple #[.pointer none, .int .i64 2]) ∧ w' = w := by
  rcases (by omega : n < 1 ∨ (¬ n < 1 ∧ 64 < n)) with g | ⟨g0, g1⟩
  all_goals
    clear h
    go_enter Try.func7, Try.ntmps7
    go_wp2
    go_ret2
    exact ⟨rfl, rfl⟩
/-- k of the rows are made. -/
structure NewI (w W : World) (n k : Nat) : Prop where
  kep : Kep w W
  size : W.heap.size = w.heap.size + 1 + k
  box : W.heap[w.heap.size]? = some (.cells #[if 1 ≤ k then .slice (some ⟨w.heap.size + 1, 0, none⟩) n n else .slice none 0 0, if 2 ≤ k then .slice (some ⟨w.heap.size + 2, 0, none⟩) n n else .slice none 0 0] 47 (0, 0))
  r0 : 1 ≤ k → W.heap[w.heap.size + 1]? = some (.cells (bls (List.replicate n false)).toArray 4 (0, 0))
  r1 : 2 ≤ k → W.heap[w.heap.size + 2]? = some (.cells (bls (List.replicate n false)).toArray 4 (0, 0))
theorem NewI.next {w W W' : World} {n k : Nat} (h : NewI w W n k) (hk : k < 2) (e : W'.heap = ((W.setCell ⟨w.heap.size, k, none⟩ (.slice (some ⟨W.heap.size, 0, none⟩) n n)).alloc (.cells (bls (List.replicate n false)).toArray 4)).heap) (kp : Kep w W') : NewI w W' n (k + 1) := by
  have hp : w.heap.size < W.heap.size := by have := h.size; omega
  obtain ⟨V, hV⟩ : ∃ V, V = W.setCell ⟨w.heap.size, k, none⟩ (.slice (some ⟨W.heap.size, 0, none⟩) n n) := ⟨_, rfl⟩
  have hVs : V.heap.size = W.heap.size := by rw [hV]; simp
  rw [← hV] at e
  have hn : (V.alloc (.cells (bls (List.replicate n false)).toArray 4)).heap[W.heap.size]? = some (.cells (bls (List.replicate n false)).toArray 4 (0, 0)) := by rw [← hVs]; exact hat _ _ _ rfl
  have hbox := h.box
  have hsz := h.size
  refine ⟨kp, by rw [e]; simp; omega, ?_, fun _ => ?_, fun h2 => ?_⟩
  · rw [e]
    refine (hsk _ _ _ (by omega)).trans ?_
    rw [hV]
    have hk' : k = 0 ∨ k = 1 := by omega
    rcases hk' with rfl | rfl
    · refine (heap_setCell_row hbox _).trans ?_
      have : W.heap.size = w.heap.size + 1 := by omega
      simp [this]
    · refine (heap_setCell_row hbox _).trans ?_
      have : W.heap.size = w.heap.size + 2 := by omega
      simp [this]
  · rw [e]
    by_cases hk0 : k = 0
    · subst hk0
      have : W.heap.size = w.heap.size + 1 := by omega
      rw [← this]; exact hn
    · refine (hsk _ _ _ (by omega)).trans ?_
      rw [hV, heap_setCell_other _ _ _ _ (show w.heap.size + 1 ≠ w.heap.size by omega)]
      exact h.r0 (by omega)
  · rw [e]
    have : W.heap.size = w.heap.size + 2 := by omega
    rw [← this]; exact hn
theorem NewI.drew {w W : World} {n k : Nat} (h : NewI w W n k) : NewI w W.drew n k := ⟨h.kep.drew, h.size, h.box, h.r0, h.r1⟩
set_option maxHeartbeats 1000000 in
theorem mnew_any (w : World) (n : Nat) (h0 : 1 ≤ n) (h1 : (n : Int) ≤ 64) :
    Calls Try.prog 7 #[.int .i64 n] w fun e w' => e = .returned (.tuple #[.pointer (some ⟨w.heap.size, 0, none⟩), .int .i64 0]) ∧ Kep w w' ∧ MarksAt w' w.heap.size (w.heap.size + 1) (w.heap.size + 2) (List.replicate n false) (List.replicate n false) := by
  have mk := make_bls 44 Try.underlying44 n (by omega)
  have H0 : Hid (NewI w (w.alloc (.cells #[.slice none 0 0, .slice none 0 0] 47)) n 0) := ⟨(Kep.refl _).alloc _, by simp, hat _ _ _ rfl, fun h => by omega, fun h => by omega⟩
  have HS : Hid (∀ W W' k, NewI w W n k → k < 2 → W'.heap = ((W.setCell ⟨w.heap.size, k, none⟩ (.slice (some ⟨W.heap.size, 0, none⟩) n n)).alloc (.cells (bls (List.replicate n false)).toArray 4)).heap → Kep w W' → NewI w W' n (k + 1)) := fun W W' k h => h.next
  have h0' : (1 : Int) ≤ n := by omega
  generalize hX : bls (List.replicate n false) = X at mk HS
  have hX' : Hid (bls (List.replicate n false) = X) := hX
  clear hX
  go_enter Try.func7, Try.ntmps7
  go_wp2_with fail
  go_loopw [14] (fun i wr => ∃ k : Nat, (k : Int) ≤ 2 ∧ i = .int .i64 k ∧ Hid (NewI w wr n k)) (fun i _ => 2 - (intOf i).toNat)
  case atStart => exact ⟨0, by omega, rfl, H0.out⟩
  case round =>
    obtain ⟨k, hk, rfl, A⟩ := hrel
    by_cases hlt : k < 2
    · have hb := A.out.box
      have hlt' : (k : Int) < 2 := by omega
      have hc : wr.cell? ⟨w.heap.size, k, none⟩ = some (.slice none 0 0) := by
        rcases (by omega : k = 0 ∨ k = 1) with rfl | rfl
        · rw [cell_of_block hb]; rfl
        · rw [cell_of_block hb]; rfl
      have hz : wr.frozen? ⟨w.heap.size, k, none⟩ = false := by simp [World.frozen?, hb]
      have hl : w.heap.size < wr.heap.size := block_lt hb
      have hk' : k < 2 := hlt
      clear hb
      go_wp2_with fail
      go_region
      all_goals
        go_wp2_with fail
        go_roundw
        case rel => exact ⟨k + 1, by omega, by go_num, HS.out _ _ k A.out hk' rfl ((A.out.kep.setCell (a := ⟨w.heap.size, k, none⟩) (Nat.le_refl _) _).alloc _).drew⟩
        case measure => simp [intOf]; omega
    · obtain rfl : k = 2 := by omega
      go_wp2_with fail
      go_ret2
      have hA := A.out
      have hl : (List.replicate n false).length = n := by simp
      refine ⟨rfl, hA.kep, ?_, hA.r0 (by omega), hA.r1 (by omega), by omega, by simp; omega⟩
      rw [hl]
      simpa using hA.box
end Go.Proofs.Ytncfkbnjiacblaa
