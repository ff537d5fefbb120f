/- What marks do: New, Mark, Has, Watched, Drop, Clear. -/
import Derived.Test.YtncfkbnjiacblaaMkbase
import Derived.BigRegion
import Derived.BigQuiet
namespace Go.Proofs.Ytncfkbnjiacblaa
open Go.RowKit
set_option linter.unusedVariables false
set_option linter.unusedSimpArgs false

theorem info_bool : (Try.prog.info? 4).map (fun i => (i.zero, i.size, i.bytes)) = some (some (.bool false), 1, 1) := by kernel_rfl
theorem made_bls (n : Nat) : madeCells #[.bool false] (n * 1) = (bls (List.replicate n false)).toArray := by
  apply Array.ext
  · simp [madeCells, bls]
  · intro i h1 h2
    simp [madeCells, bls, Nat.mod_one]
theorem make_bls (t : TypeId) (ht : Try.prog.underlying t = some (.slice 4)) (s : Nat) (hs : s ≤ 600) (w : World) : Sem.run Try.prog (Instr.makeSlice t (.int .i64 s) (.int .i64 s)) w = .ok (.slice (some ⟨w.heap.size, 0, none⟩) s s) (w.alloc (.cells (bls (List.replicate s false)).toArray 4)) := by
  obtain ⟨i, hi, hz0, hz1, hz2⟩ := info_parts info_bool
  have := run_make (P := Try.prog) w t 4 i _ ht hi hz0 .i64 .i64 s s (by omega) (by omega) (by rw [hz2]; omega) (by omega)
  rw [hz1] at this
  rw [← made_bls]
  exact this

theorem there_any (w : World) (x : Option Addr) (n c : Nat) (f : Int) :
    Calls Try.prog 22 #[.slice x n c, .int .i64 f] w fun e w' => e = .returned (.bool (isF n f)) ∧ w' = w := by
  rcases (by omega : f < 0 ∨ (0 ≤ f ∧ (n : Int) ≤ f) ∨ (0 ≤ f ∧ f < n)) with h | ⟨h0, h⟩ | ⟨h0, h⟩
  · rw [isF_no (.inl h)]
    go_enter Try.func22, Try.ntmps22
    go_wp2
    go_ret
    exact ⟨rfl, rfl⟩
  · rw [isF_no (.inr h)]
    have h' : ¬ f < (n : Int) := by omega
    go_enter Try.func22, Try.ntmps22
    go_wp2
    go_ret
    exact ⟨rfl, rfl⟩
  · rw [isF_yes h0 h]
    go_enter Try.func22, Try.ntmps22
    go_wp2
    go_ret
    exact ⟨rfl, rfl⟩
theorem has_any (w : World) (x : Option Addr) (L : List Bool) (f : Int) (h : SetAt w x L) :
    Calls Try.prog 23 #[.slice x L.length L.length, .int .i64 f] w fun e w' => e = .returned (.bool (bears L f)) ∧ w' = w := by
  have HT : Hid (Calls Try.prog 22 #[.slice x L.length L.length, .int .i64 f] w fun e w' => e = .returned (.bool (isF L.length f)) ∧ w' = w) := there_any w x _ _ f
  by_cases hf : 0 ≤ f ∧ f < L.length
  · obtain ⟨k, rfl⟩ : ∃ k : Nat, f = k := ⟨f.toNat, by omega⟩
    have hk : k < L.length := by omega
    obtain ⟨b, rfl, hc, _⟩ := h.at hk
    rw [isF_yes hf.1 hf.2] at HT
    rw [bears_nat]
    have hk' : (k : Int) < L.length := hf.2
    clear hf h
    generalize L.getD k false = v at hc
    generalize L.length = n at *
    go_enter Try.func23, Try.ntmps23
    go_wp2_with (go_at_call 22; refine HT.out.mono ?_; rintro e w0 ⟨rfl, hq0⟩; rw [hq0]; clear hq0 w0)
    go_ret
    exact ⟨rfl, rfl⟩
  · have hf' : f < 0 ∨ (L.length : Int) ≤ f := by omega
    rw [isF_no hf'] at HT
    rw [bears_no hf']
    clear hf hf' h
    generalize L.length = n at *
    go_enter Try.func23, Try.ntmps23
    go_wp2_with (go_at_call 22; refine HT.out.mono ?_; rintro e w0 ⟨rfl, hq0⟩; rw [hq0]; clear hq0 w0)
    go_ret
    exact ⟨rfl, rfl⟩
def kindX (x0 x1 : Option Addr) (k : Int) : Option Addr := if k = 1 then x0 else if k = 2 then x1 else none
theorem of_box {w : World} {p n0 n1 : Nat} {x0 x1 : Option Addr} {L0 L1 : List Bool} (k : Int) (hb : w.heap[p]? = some (.cells #[.slice x0 L0.length L0.length, .slice x1 L1.length L1.length] 47 (0, 0))) :
    Calls Try.prog 21 #[.pointer (some ⟨p, 0, none⟩), .int .i64 k] w fun e w' => e = .returned (.slice (kindX x0 x1 k) (kindL L0 L1 k).length (kindL L0 L1 k).length) ∧ w' = w := by
  have c0 : w.cell? ⟨p, 0, none⟩ = some (.slice x0 L0.length L0.length) := by rw [cell_of_block hb]; rfl
  have c1 : w.cell? ⟨p, 1, none⟩ = some (.slice x1 L1.length L1.length) := by rw [cell_of_block hb]; rfl
  clear hb
  rcases (by omega : k = 1 ∨ k = 2 ∨ k < 1 ∨ 2 < k) with rfl | rfl | h | h
  · have e1 : kindX x0 x1 1 = x0 := rfl
    have e2 : kindL L0 L1 1 = L0 := rfl
    rw [e1, e2]
    generalize L0.length = n at *
    go_enter Try.func21, Try.ntmps21
    go_wp2
    go_ret
    exact ⟨rfl, rfl⟩
  · have e1 : kindX x0 x1 2 = x1 := rfl
    have e2 : kindL L0 L1 2 = L1 := rfl
    rw [e1, e2]
    generalize L1.length = n at *
    go_enter Try.func21, Try.ntmps21
    go_wp2
    go_ret
    exact ⟨rfl, rfl⟩
  all_goals
    have e1 : kindX x0 x1 k = none := by unfold kindX; rw [if_neg (by omega), if_neg (by omega)]
    have e2 : kindL L0 L1 k = [] := by unfold kindL; rw [if_neg (by omega), if_neg (by omega)]
    rw [e1, e2]
    have g : ¬ k < 1 ∨ k < 1 := by omega
    go_enter Try.func21, Try.ntmps21
    rcases g with g | g
    all_goals
      go_wp2
      go_ret
      exact ⟨rfl, rfl⟩
theorem of_any {w : World} {v : Value} {L0 L1 : List Bool} (k : Int) (h : MSt w v L0 L1) :
    Calls Try.prog 21 #[v, .int .i64 k] w fun e w' => ∃ x, e = .returned (.slice x (kindL L0 L1 k).length (kindL L0 L1 k).length) ∧ SetAt w x (kindL L0 L1 k) ∧ w' = w := by
  rcases h with ⟨rfl, rfl, rfl⟩ | ⟨p, x0, x1, rfl, hb, h0, h1⟩
  · have e : kindL [] [] k = [] := by simp [kindL]
    rw [e]
    go_enter Try.func21, Try.ntmps21
    go_wp2
    go_ret
    exact ⟨none, rfl, .inl rfl, rfl⟩
  · refine (of_box (n0 := 0) (n1 := 0) k hb).mono ?_
    rintro e w' ⟨rfl, rfl⟩
    refine ⟨_, rfl, ?_, rfl⟩
    unfold kindX kindL
    split
    · exact h0
    · split
      · exact h1
      · exact .inl rfl
theorem mhas_any {w : World} {v : Value} {L0 L1 : List Bool} (f k : Int) (h : MSt w v L0 L1) :
    Calls Try.prog 14 #[v, .int .i64 f, .int .i64 k] w fun e w' => e = .returned (.bool (bears (kindL L0 L1 k) f)) ∧ w' = w := by
  have HO : Hid (Calls Try.prog 21 #[v, .int .i64 k] w fun e w' => ∃ x, e = .returned (.slice x (kindL L0 L1 k).length (kindL L0 L1 k).length) ∧ SetAt w x (kindL L0 L1 k) ∧ w' = w) := of_any k h
  clear h
  generalize kindL L0 L1 k = L at *
  go_enter Try.func14, Try.ntmps14
  go_wp2_with (first
    | (go_at_call 21; refine HO.out.mono ?_; rintro e w0 ⟨x, rfl, hS, hq0⟩; rw [hq0]; clear hq0 w0)
    | (go_at_call 23; refine (has_any w x L f hS).mono ?_; rintro e w0 ⟨rfl, hq0⟩; rw [hq0]; clear hq0 w0))
  go_ret
  exact ⟨rfl, rfl⟩
theorem mwatched_any {w : World} {v : Value} {L0 L1 : List Bool} (f : Int) (h : MSt w v L0 L1) :
    Calls Try.prog 15 #[v, .int .i64 f] w fun e w' => e = .returned (.bool (bears L0 f || bears L1 f)) ∧ w' = w := by
  rcases h with ⟨rfl, rfl, rfl⟩ | ⟨p, x0, x1, rfl, hb, h0, h1⟩
  · have e : (bears [] f || bears [] f) = false := by simp [bears]
    rw [e]
    go_enter Try.func15, Try.ntmps15
    go_wp2
    go_ret
    exact ⟨rfl, rfl⟩
  · have H0 : Hid (Calls Try.prog 23 #[.slice x0 L0.length L0.length, .int .i64 f] w fun e w' => e = .returned (.bool (bears L0 f)) ∧ w' = w) := has_any w x0 L0 f h0
    have H1 : Hid (Calls Try.prog 23 #[.slice x1 L1.length L1.length, .int .i64 f] w fun e w' => e = .returned (.bool (bears L1 f)) ∧ w' = w) := has_any w x1 L1 f h1
    have c0 : w.cell? ⟨p, 0, none⟩ = some (.slice x0 L0.length L0.length) := by rw [cell_of_block hb]; rfl
    have c1 : w.cell? ⟨p, 1, none⟩ = some (.slice x1 L1.length L1.length) := by rw [cell_of_block hb]; rfl
    clear h0 h1
    generalize L0.length = n0 at *
    generalize L1.length = n1 at *
    generalize bears L0 f = b0 at *
    generalize bears L1 f = b1 at *
    have i0 : ∀ w, (Instr.index 45 (.agg #[.slice x0 n0 n0, .slice x1 n1 n1]) (.int .i64 0)).run Try.prog w = .ok (.slice x0 n0 n0) w := fun _ => by kernel_rfl
    have i1 : ∀ w, (Instr.index 45 (.agg #[.slice x0 n0 n0, .slice x1 n1 n1]) (.int .i64 1)).run Try.prog w = .ok (.slice x1 n1 n1) w := fun _ => by kernel_rfl
    go_enter Try.func15, Try.ntmps15
    go_wp2_with fail
    go_loopw [13] (fun i wr => ∃ k : Nat, (k : Int) ≤ 2 ∧ i = .int .i64 k ∧ Hid (1 ≤ k → b0 = false) ∧ Hid (2 ≤ k → b1 = false) ∧ w = wr) (fun i _ => 2 - (intOf i).toNat)
    case atStart => exact ⟨0, by omega, rfl, fun h => by omega, fun h => by omega, rfl⟩
    case round =>
      obtain ⟨k, hk, rfl, A0, A1, rfl⟩ := hrel
      rcases (by omega : k = 0 ∨ k = 1 ∨ k = 2) with rfl | rfl | rfl
      · cases b0
        · go_wp2_with (go_at_call 23; refine H0.out.mono ?_; rintro e w0 ⟨rfl, hq0⟩; rw [hq0]; clear hq0 w0)
          go_roundw
          case rel => exact ⟨1, by omega, by go_num, by simp [Hid], by simp [Hid], by trivial⟩
          case measure => simp [intOf]
        · go_wp2_with (go_at_call 23; refine H0.out.mono ?_; rintro e w0 ⟨rfl, hq0⟩; rw [hq0]; clear hq0 w0)
          go_ret
          exact ⟨rfl, rfl⟩
      · obtain rfl : b0 = false := A0.out (by omega)
        cases b1
        · go_wp2_with (go_at_call 23; refine H1.out.mono ?_; rintro e w0 ⟨rfl, hq0⟩; rw [hq0]; clear hq0 w0)
          go_roundw
          case rel => exact ⟨2, by omega, by go_num, by simp [Hid], by simp [Hid], by trivial⟩
          case measure => simp [intOf]
        · go_wp2_with (go_at_call 23; refine H1.out.mono ?_; rintro e w0 ⟨rfl, hq0⟩; rw [hq0]; clear hq0 w0)
          go_ret
          exact ⟨rfl, rfl⟩
      · obtain rfl : b0 = false := A0.out (by omega)
        obtain rfl : b1 = false := A1.out (by omega)
        go_wp2_with fail
        go_ret
        exact ⟨rfl, rfl⟩
/-- What is done to the rows of a kind. -/
def onK (k : Int) (c : Int) (F : List Bool → List Bool) (L : List Bool) : List Bool := if k = c then F L else L
theorem kind_no {L0 L1 : List Bool} {k : Int} (h : k ≠ 1) (g : k ≠ 2) : kindL L0 L1 k = [] := by unfold kindL; rw [if_neg h, if_neg g]
theorem mark_no {w : World} {v : Value} {L0 L1 : List Bool} (f k : Int) (h : MSt w v L0 L1) (hf : isF (kindL L0 L1 k).length f = false) :
    Calls Try.prog 10 #[v, .int .i64 f, .int .i64 k] w fun e w' => e = .returned (.bool false) ∧ w' = w := by
  have HO : Hid (Calls Try.prog 21 #[v, .int .i64 k] w fun e w' => ∃ x, e = .returned (.slice x (kindL L0 L1 k).length (kindL L0 L1 k).length) ∧ SetAt w x (kindL L0 L1 k) ∧ w' = w) := of_any k h
  clear h
  generalize (kindL L0 L1 k).length = n at *
  go_enter Try.func10, Try.ntmps10
  go_wp2_with (first
    | (go_at_call 21; refine HO.out.mono ?_; rintro e w0 ⟨x, rfl, _, hq0⟩; rw [hq0]; clear hq0 w0)
    | (go_at_call 22; refine (there_any w x n n f).mono ?_; rintro e w0 ⟨rfl, hq0⟩; rw [hq0, hf]; clear hq0 w0))
  go_ret
  exact ⟨rfl, rfl⟩
theorem mark_cell {w : World} {p b0 b1 : Nat} {L0 L1 : List Bool} (f k : Int) (h : MarksAt w p b0 b1 L0 L1) (hf : isF (kindL L0 L1 k).length f = true) (hk : k = 1 ∨ k = 2) :
    Calls Try.prog 10 #[.pointer (some ⟨p, 0, none⟩), .int .i64 f, .int .i64 k] w fun e w' => e = .returned (.bool (!(bears L0 f || bears L1 f))) ∧ w' = w.setCell ⟨(if k = 1 then b0 else b1), f.toNat, none⟩ (.bool true) := by
  have HO : Hid (Calls Try.prog 21 #[.pointer (some ⟨p, 0, none⟩), .int .i64 k] w fun e w' => e = .returned (.slice (kindX (some ⟨b0, 0, none⟩) (some ⟨b1, 0, none⟩) k) (kindL L0 L1 k).length (kindL L0 L1 k).length) ∧ w' = w) := of_box (n0 := 0) (n1 := 0) k h.box
  have HW : Hid (Calls Try.prog 15 #[.pointer (some ⟨p, 0, none⟩), .int .i64 f] w fun e w' => e = .returned (.bool (bears L0 f || bears L1 f)) ∧ w' = w) := mwatched_any f h.st
  have hx : kindX (some ⟨b0, 0, none⟩) (some ⟨b1, 0, none⟩) k = some ⟨(if k = 1 then b0 else b1), 0, none⟩ := by rcases hk with rfl | rfl <;> rfl
  rw [hx] at HO
  obtain ⟨hf0, hf1⟩ : 0 ≤ f ∧ f < (kindL L0 L1 k).length := by simpa [isF] using hf
  obtain ⟨i, rfl⟩ : ∃ i : Nat, f = i := ⟨f.toNat, by omega⟩
  have hn : ((kindL L0 L1 k).length : Int) ≤ 64 := by have := h.le; rcases hk with rfl | rfl <;> simp [kindL] <;> omega
  have hc : ∃ u, w.cell? ⟨(if k = 1 then b0 else b1), i, none⟩ = some (.bool u) := by
    rcases hk with rfl | rfl
    · exact ⟨_, by rw [if_pos rfl, cell_of_block h.r0]; simpa using bls_at (L := L0) (k := i) (by simpa [kindL] using hf1)⟩
    · exact ⟨_, by rw [if_neg (by omega), cell_of_block h.r1]; simpa using bls_at (L := L1) (k := i) (by simpa [kindL] using hf1)⟩
  obtain ⟨u, hc⟩ := hc
  have hz : w.frozen? ⟨(if k = 1 then b0 else b1), i, none⟩ = false := by
    rcases hk with rfl | rfl
    · simp [World.frozen?, h.r0]
    · simp [World.frozen?, h.r1]
  have e : ((i : Int)).toNat = i := by omega
  rw [e]
  clear h hx hk
  generalize (kindL L0 L1 k).length = n at *
  generalize (if k = 1 then b0 else b1) = b at *
  generalize (bears L0 i || bears L1 i) = ww at *
  go_enter Try.func10, Try.ntmps10
  go_wp2_with (first
    | (go_at_call 21; refine HO.out.mono ?_; rintro e w0 ⟨rfl, hq0⟩; rw [hq0]; clear hq0 w0)
    | (go_at_call 22; refine (there_any w _ n n i).mono ?_; rintro e w0 ⟨rfl, hq0⟩; rw [hq0, hf]; clear hq0 w0)
    | (go_at_call 15; refine HW.out.mono ?_; rintro e w0 ⟨rfl, hq0⟩; rw [hq0]; clear hq0 w0))
  go_ret
  exact ⟨rfl, rfl⟩
theorem isF_iff {n : Nat} {f : Int} : isF n f = true ↔ 0 ≤ f ∧ f < n := by simp [isF]
theorem kind_is {L0 L1 : List Bool} {k f : Int} (h : isF (kindL L0 L1 k).length f = true) : k = 1 ∨ k = 2 := by
  by_cases h1 : k = 1
  · exact .inl h1
  · by_cases h2 : k = 2
    · exact .inr h2
    · rw [kind_no h1 h2] at h
      have := isF_iff.1 h
      simp at this; omega
theorem isF_not {n : Nat} {f : Int} (h : isF n f = false) : f < 0 ∨ (n : Int) ≤ f := by
  rcases (by omega : (f < 0 ∨ (n : Int) ≤ f) ∨ (0 ≤ f ∧ f < n)) with g | ⟨g0, g1⟩
  · exact g
  · rw [isF_yes g0 g1] at h; cases h
/-- The rows when a frame bears a mark from now on, or none. -/
theorem turn_no {L0 L1 : List Bool} {f k : Int} {b : Bool} (h : isF (kindL L0 L1 k).length f = false) : onK k 1 (putB · f b) L0 = L0 ∧ onK k 2 (putB · f b) L1 = L1 := by
  have g := isF_not h
  unfold onK
  constructor
  · split
    · rename_i e; subst e; exact putB_no (by simpa [kindL] using g)
    · rfl
  · split
    · rename_i e; subst e; exact putB_no (by simpa [kindL] using g)
    · rfl
theorem turn_yes {w : World} {p b0 b1 : Nat} {L0 L1 : List Bool} {f k : Int} (b : Bool) (h : MarksAt w p b0 b1 L0 L1) (hf : isF (kindL L0 L1 k).length f = true) :
    MarksAt (w.setCell ⟨(if k = 1 then b0 else b1), f.toNat, none⟩ (.bool b)) p b0 b1 (onK k 1 (putB · f b) L0) (onK k 2 (putB · f b) L1) := by
  have hk := kind_is hf
  obtain ⟨g0, g1⟩ := isF_iff.1 hf
  rcases hk with rfl | rfl
  · have := h.set0 f.toNat b
    simpa [onK, putB, g0] using this
  · have := h.set1 f.toNat b
    simpa [onK, putB, g0] using this
theorem mmark_any {w : World} {p b0 b1 : Nat} {L0 L1 : List Bool} (f k : Int) (h : MarksAt w p b0 b1 L0 L1) :
    Calls Try.prog 10 #[.pointer (some ⟨p, 0, none⟩), .int .i64 f, .int .i64 k] w fun e w' => e = .returned (.bool (isF (kindL L0 L1 k).length f && !(bears L0 f || bears L1 f))) ∧ MarksAt w' p b0 b1 (onK k 1 (putB · f true) L0) (onK k 2 (putB · f true) L1) ∧ Put [b0, b1] w w' := by
  cases hf : isF (kindL L0 L1 k).length f
  · refine (mark_no f k h.st hf).mono ?_
    rintro e w' ⟨rfl, rfl⟩
    obtain ⟨e1, e2⟩ := turn_no (b := true) hf
    rw [e1, e2]
    exact ⟨rfl, h, Put.refl _⟩
  · refine (mark_cell f k h hf (kind_is hf)).mono ?_
    rintro e w' ⟨rfl, rfl⟩
    exact ⟨rfl, turn_yes true h hf, (Put.refl _).setCell (by by_cases e : k = 1 <;> simp [e]) _⟩
theorem mark_none {w : World} {v : Value} (f k : Int) (h : NoMarks w v) :
    Calls Try.prog 10 #[v, .int .i64 f, .int .i64 k] w fun e w' => e = .returned (.bool false) ∧ w' = w :=
  mark_no f k h.st (by have e : kindL [] [] k = [] := by simp [kindL]
                       rw [e]; exact isF_no (by simp; omega))
theorem drop_no {w : World} {v : Value} {L0 L1 : List Bool} (f k : Int) (h : MSt w v L0 L1) (hf : isF (kindL L0 L1 k).length f = false) :
    Calls Try.prog 12 #[v, .int .i64 f, .int .i64 k] w fun e w' => e = .returned (.tuple #[]) ∧ w' = w := by
  have HO : Hid (Calls Try.prog 21 #[v, .int .i64 k] w fun e w' => ∃ x, e = .returned (.slice x (kindL L0 L1 k).length (kindL L0 L1 k).length) ∧ SetAt w x (kindL L0 L1 k) ∧ w' = w) := of_any k h
  clear h
  generalize (kindL L0 L1 k).length = n at *
  go_enter Try.func12, Try.ntmps12
  go_wp2_with (first
    | (go_at_call 21; refine HO.out.mono ?_; rintro e w0 ⟨x, rfl, _, hq0⟩; rw [hq0]; clear hq0 w0)
    | (go_at_call 22; refine (there_any w x n n f).mono ?_; rintro e w0 ⟨rfl, hq0⟩; rw [hq0, hf]; clear hq0 w0))
  go_end0
  exact ⟨rfl, rfl⟩
theorem drop_cell {w : World} {p b0 b1 : Nat} {L0 L1 : List Bool} (f k : Int) (h : MarksAt w p b0 b1 L0 L1) (hf : isF (kindL L0 L1 k).length f = true) (hk : k = 1 ∨ k = 2) :
    Calls Try.prog 12 #[.pointer (some ⟨p, 0, none⟩), .int .i64 f, .int .i64 k] w fun e w' => e = .returned (.tuple #[]) ∧ w' = w.setCell ⟨(if k = 1 then b0 else b1), f.toNat, none⟩ (.bool false) := by
  have HO : Hid (Calls Try.prog 21 #[.pointer (some ⟨p, 0, none⟩), .int .i64 k] w fun e w' => e = .returned (.slice (kindX (some ⟨b0, 0, none⟩) (some ⟨b1, 0, none⟩) k) (kindL L0 L1 k).length (kindL L0 L1 k).length) ∧ w' = w) := of_box (n0 := 0) (n1 := 0) k h.box
  have hx : kindX (some ⟨b0, 0, none⟩) (some ⟨b1, 0, none⟩) k = some ⟨(if k = 1 then b0 else b1), 0, none⟩ := by rcases hk with rfl | rfl <;> rfl
  rw [hx] at HO
  obtain ⟨hf0, hf1⟩ : 0 ≤ f ∧ f < (kindL L0 L1 k).length := by simpa [isF] using hf
  obtain ⟨i, rfl⟩ : ∃ i : Nat, f = i := ⟨f.toNat, by omega⟩
  have hn : ((kindL L0 L1 k).length : Int) ≤ 64 := by have := h.le; rcases hk with rfl | rfl <;> simp [kindL] <;> omega
  have hc : ∃ u, w.cell? ⟨(if k = 1 then b0 else b1), i, none⟩ = some (.bool u) := by
    rcases hk with rfl | rfl
    · exact ⟨_, by rw [if_pos rfl, cell_of_block h.r0]; simpa using bls_at (L := L0) (k := i) (by simpa [kindL] using hf1)⟩
    · exact ⟨_, by rw [if_neg (by omega), cell_of_block h.r1]; simpa using bls_at (L := L1) (k := i) (by simpa [kindL] using hf1)⟩
  obtain ⟨u, hc⟩ := hc
  have hz : w.frozen? ⟨(if k = 1 then b0 else b1), i, none⟩ = false := by
    rcases hk with rfl | rfl
    · simp [World.frozen?, h.r0]
    · simp [World.frozen?, h.r1]
  have e : ((i : Int)).toNat = i := by omega
  rw [e]
  clear h hx hk
  generalize (kindL L0 L1 k).length = n at *
  generalize (if k = 1 then b0 else b1) = b at *
  go_enter Try.func12, Try.ntmps12
  go_wp2_with (first
    | (go_at_call 21; refine HO.out.mono ?_; rintro e w0 ⟨rfl, hq0⟩; rw [hq0]; clear hq0 w0)
    | (go_at_call 22; refine (there_any w _ n n i).mono ?_; rintro e w0 ⟨rfl, hq0⟩; rw [hq0, hf]; clear hq0 w0))
  go_end0
  exact ⟨rfl, rfl⟩
theorem mdrop_any {w : World} {p b0 b1 : Nat} {L0 L1 : List Bool} (f k : Int) (h : MarksAt w p b0 b1 L0 L1) :
    Calls Try.prog 12 #[.pointer (some ⟨p, 0, none⟩), .int .i64 f, .int .i64 k] w fun e w' => e = .returned (.tuple #[]) ∧ MarksAt w' p b0 b1 (onK k 1 (putB · f false) L0) (onK k 2 (putB · f false) L1) ∧ Put [b0, b1] w w' := by
  cases hf : isF (kindL L0 L1 k).length f
  · refine (drop_no f k h.st hf).mono ?_
    rintro e w' ⟨rfl, rfl⟩
    obtain ⟨e1, e2⟩ := turn_no (b := false) hf
    rw [e1, e2]
    exact ⟨rfl, h, Put.refl _⟩
  · refine (drop_cell f k h hf (kind_is hf)).mono ?_
    rintro e w' ⟨rfl, rfl⟩
    exact ⟨rfl, turn_yes false h hf, (Put.refl _).setCell (by by_cases e : k = 1 <;> simp [e]) _⟩
theorem drop_none {w : World} {v : Value} (f k : Int) (h : NoMarks w v) :
    Calls Try.prog 12 #[v, .int .i64 f, .int .i64 k] w fun e w' => e = .returned (.tuple #[]) ∧ w' = w :=
  drop_no f k h.st (by have e : kindL [] [] k = [] := by simp [kindL]
                       rw [e]; exact isF_no (by simp; omega))
theorem zero_bls (n : Nat) : (Builtin.zeroCells #[Value.bool false] n).toList = bls (List.replicate n false) := by
  have e : Builtin.zeroCells #[Value.bool false] n = madeCells #[.bool false] (n * 1) := rfl
  rw [e, made_bls]
theorem clear_bls (w : World) (ty : TypeId) (R n c : Nat) (hn : 0 < n) (L : List Bool) (hR : w.heap[R]? = some (.cells (bls L).toArray 4 (0, 0))) (hl : n ≤ L.length) :
    (Builtin.clear_ #[44] ty #[.slice (some ⟨R, 0, none⟩) n c]).run Try.prog w = .ok (.tuple #[]) (w.setCells R 0 (bls (List.replicate n false))) := by
  have hst := run_storeCells_cells (P := Try.prog) R 0 (bls (List.replicate n false)) 0 w
    (fun j hj => by rw [cell_of_block hR]; simp [bls_len] at hj; simp [bls_len]; omega)
    (fun j hj => by simp [World.frozen?, hR]) (bls_one _)
  simp only [Nat.add_zero] at hst
  obtain ⟨m, rfl⟩ : ∃ m, n = m + 1 := ⟨n - 1, by omega⟩
  have hz := zero_bls (m + 1)
  simp [Builtin.clear_, run_underlying Try.underlying44, Value.cells, hz, hst]
theorem clear_nil (w : World) (ty : TypeId) : (Builtin.clear_ #[44] ty #[.slice none 0 0]).run Try.prog w = .ok (.tuple #[]) w := by
  simp [Builtin.clear_, run_underlying Try.underlying44]
end Go.Proofs.Ytncfkbnjiacblaa
