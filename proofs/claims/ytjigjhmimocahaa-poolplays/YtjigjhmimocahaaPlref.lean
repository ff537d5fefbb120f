/- The document's pool. -/
import Derived.Test.YtjigjhmimocahaaPlbase
import Derived.BigRegion
import Derived.BigQuiet
namespace Go.Proofs.Ytjigjhmimocahaa
open Go.RowKit
set_option linter.unusedVariables false
set_option linter.unusedSimpArgs false

def bools (L : List Bool) : List Value := L.map Value.bool
theorem bools_len (L : List Bool) : (bools L).length = L.length := by simp [bools]
/-- At q lies the document's pool, its row of bools at R. -/
structure RPool (w : World) (q R : Nat) (f : Int) (L : List Bool) : Prop where
  box : w.heap[q]? = some (.cells #[.int .i64 f, .slice (some ⟨R, 0, none⟩) L.length L.length] 30 (0, 0))
  row : w.heap[R]? = some (.cells (bools L).toArray 4 (0, 0))
  rng : 0 ≤ f ∧ f + L.length ≤ 512
  ne : q ≠ R
theorem RPool.put {w w' : World} {q R : Nat} {f : Int} {L : List Bool} {l : List Nat} (h : RPool w q R f L) (k : Put l w w') (h1 : q ∉ l) (h2 : R ∉ l) : RPool w' q R f L := ⟨k.keeps h.box h1, k.keeps h.row h2, h.rng, h.ne⟩
theorem RPool.kep {w w' : World} {q R : Nat} {f : Int} {L : List Bool} (h : RPool w q R f L) (k : Kep w w') : RPool w' q R f L := h.put (l := []) (Put.of_kep k) (by simp) (by simp)
theorem RPool.c0 {w : World} {q R : Nat} {f : Int} {L : List Bool} (h : RPool w q R f L) : w.cell? ⟨q, 0, none⟩ = some (.int .i64 f) := by rw [cell_of_block h.box]; rfl
theorem RPool.c1 {w : World} {q R : Nat} {f : Int} {L : List Bool} (h : RPool w q R f L) : w.cell? ⟨q, 1, none⟩ = some (.slice (some ⟨R, 0, none⟩) L.length L.length) := by rw [cell_of_block h.box]; rfl
theorem RPool.at {w : World} {q R : Nat} {f : Int} {L : List Bool} (h : RPool w q R f L) {k : Nat} (hk : k < L.length) : w.cell? ⟨R, k, none⟩ = some (.bool (L.getD k false)) := by
  rw [cell_of_block h.row]; simp [bools, List.getD, hk]
theorem RPool.set {w : World} {q R : Nat} {f : Int} {L : List Bool} (h : RPool w q R f L) (k : Nat) (b : Bool) : RPool (w.setCell ⟨R, k, none⟩ (.bool b)) q R f (L.set k b) := by
  refine ⟨?_, ?_, by simpa using h.rng, h.ne⟩
  · rw [heap_setCell_other _ _ _ _ h.ne]; simpa using h.box
  · rw [heap_setCell_row h.row]; simp [bools, List.map_set]
theorem RPool.frz {w : World} {q R : Nat} {f : Int} {L : List Bool} (h : RPool w q R f L) (k : Nat) : w.frozen? ⟨R, k, none⟩ = false := by simp [World.frozen?, h.row]

set_option maxHeartbeats 1000000 in
theorem rptake_any (w : World) (q R : Nat) (f : Int) (L : List Bool) (h : RPool w q R f L) :
    Calls Try.prog 9 #[.pointer (some ⟨q, 0, none⟩)] w fun e w' => e = .returned (leastR f L) ∧ RPool w' q R f (takeL L) ∧ Put [R] w w' := by
  have hP : Hid (RPool w q R f L) := h
  have c0 := h.c0
  have c1 := h.c1
  have hr := h.rng
  clear h
  generalize hn : L.length = n at c1 hr
  have hn' : Hid (L.length = n) := hn
  clear hn
  obtain ⟨hr0, hr1⟩ := hr
  go_enter Try.func9, Try.ntmps9
  go_wp2_with fail
  go_loopw [4] (fun i wr => ∃ k : Nat, (k : Int) ≤ n ∧ i = .int .i64 k ∧ Hid (∀ j, j < k → L.getD j false = true) ∧ w = wr) (fun i _ => n - (intOf i).toNat)
  case atStart => exact ⟨0, by omega, rfl, fun j hj => by omega, rfl⟩
  case round =>
    obtain ⟨k, hk, rfl, hA, rfl⟩ := hrel
    by_cases hlt : (k : Int) < n
    · have hkL : Hid (k < L.length) := by rw [Hid, hn'.out]; omega
      have d2 := hP.out.at hkL.out
      have f2 := hP.out.frz k
      have hne : q ≠ R := hP.out.ne
      have hw : IntKind.i64.wrap (f + k) = f + k := by rw [IntKind.wrap_i64]; omega
      generalize hbb : L.getD k false = b at d2
      have hbb' : Hid (L.getD k false = b) := hbb
      clear hbb
      cases b
      · go_wp2
        go_ret2
        have e := leastL_is hkL.out hA.out hbb'.out
        refine ⟨by rw [leastR_yes e hkL.out]; rfl, ?_, (Put.refl _).setCell (by simp) _⟩
        unfold takeL; rw [e]; exact hP.out.set k true
      · go_wp2
        go_roundw
        case rel => exact ⟨k + 1, by omega, by go_num, fun j hj => by
          rcases Nat.lt_or_ge j k with g | g
          · exact hA.out j g
          · have : j = k := by omega
            subst this; exact hbb'.out, trivial⟩
        case measure => simp [intOf]; omega
    · obtain rfl : k = n := by omega
      have e : leastL L = L.length := leastL_no (fun j hj => hA.out j (by have := hn'.out; omega))
      go_wp2
      go_ret2
      exact ⟨by rw [leastR_no e]; rfl, by rw [takeL_no e]; exact hP.out, Put.refl _⟩

set_option maxHeartbeats 1000000 in
theorem rpgive_any (w : World) (q R : Nat) (f : Int) (L : List Bool) (h : RPool w q R f L) (j : Int) (hj : I6 j) :
    Calls Try.prog 11 #[.pointer (some ⟨q, 0, none⟩), .int .i64 j] w fun e w' => e = .returned (.bool (lentF f L j)) ∧ RPool w' q R f (giveL f L j) ∧ Put [R] w w' := by
  have c0 := h.c0
  have c1 := h.c1
  have hr := h.rng
  have hP : Hid (RPool w q R f L) := h
  unfold I6 at hj
  rcases (by omega : j < f ∨ (f ≤ j ∧ f + L.length ≤ j) ∨ (f ≤ j ∧ j < f + L.length)) with g | ⟨g0, g⟩ | ⟨g0, g⟩
  · have e : lentF f L j = false := lentF_off (.inl g)
    rw [e, giveL_no e]
    clear h e
    generalize L.length = n at c1 hr
    go_enter Try.func11, Try.ntmps11
    go_wp2_with fail
    go_quiet (fail)
    go_wp2_with fail
    go_ret
    exact ⟨rfl, hP.out.kep ((Kep.refl _).drewN _), (Put.refl _).drewN _⟩
  · have e : lentF f L j = false := lentF_off (.inr g)
    rw [e, giveL_no e]
    clear h e
    generalize L.length = n at c1 hr g
    have g1 : decide (j < f) = false := decide_eq_false (by omega)
    have g2 : decide (f + (n : Int) ≤ j) = true := decide_eq_true g
    have hw : IntKind.i64.wrap (f + n) = f + n := by rw [IntKind.wrap_i64]; omega
    have hw2 : wrap64 (f + n) = f + n := by unfold wrap64; omega
    go_enter Try.func11, Try.ntmps11
    go_wp2_with fail
    go_quiet (fail)
    go_wp2_with fail
    go_ret
    exact ⟨rfl, hP.out.kep ((Kep.refl _).drewN _), (Put.refl _).drewN _⟩
  · obtain ⟨k, rfl⟩ : ∃ k : Nat, j = f + k := ⟨(j - f).toNat, by omega⟩
    have hk : k < L.length := by omega
    have d2 := h.at hk
    have hP2 : Hid (RPool (w.setCell ⟨R, k, none⟩ (.bool false)) q R f (giveL f L (f + k))) := by
      have e : giveL f L (f + k) = L.set k false := by
        unfold giveL; rw [if_pos (by omega)]; congr 1; omega
      rw [e]; exact h.set k false
    have f2 := h.frz k
    have hno : Hid (L.getD k false = false → giveL f L (f + k) = L) := fun e => giveL_no (by rw [lentF_at]; exact e)
    rw [lentF_at]
    generalize L.getD k false = b at d2 hno
    have hpl : q < w.heap.size := block_lt h.box
    clear h
    generalize giveL f L (f + k) = L2 at hno hP2
    generalize L.length = n at c1 hr g hk
    have g1 : decide (f + (k : Int) < f) = false := decide_eq_false (by omega)
    have g2 : decide (f + (n : Int) ≤ f + k) = false := decide_eq_false (by omega)
    have hw : IntKind.i64.wrap (f + n) = f + n := by rw [IntKind.wrap_i64]; omega
    have hw2 : wrap64 (f + n) = f + n := by unfold wrap64; omega
    have hw3 : IntKind.i64.wrap (f + k - f) = k := by rw [IntKind.wrap_i64]; omega
    have hw4 : wrap64 (f + k - f) = k := by unfold wrap64; omega
    have hkn : (k : Int) < n := by omega
    cases b
    · go_enter Try.func11, Try.ntmps11
      go_wp2_with fail
      go_quiet (fail)
      go_wp2_with fail
      go_ret
      exact ⟨rfl, by rw [hno.out trivial]; exact hP.out.kep ((Kep.refl _).drewN _), (Put.refl _).drewN _⟩
    · go_enter Try.func11, Try.ntmps11
      go_wp2_with fail
      go_quiet (fail)
      go_wp2_with fail
      go_region
      all_goals
        go_wp2_with fail
        go_ret

        exact ⟨rfl, hP2.out.kep ((Kep.refl _).drewN _), ((Put.refl _).setCell (by simp) _).drewN _⟩

theorem take_true (L : List Bool) {k : Nat} (hk : k < L.length) : nTrue (L.take (k + 1)) = nTrue (L.take k) + (if L.getD k false = true then 1 else 0) := by
  have e : L.take (k + 1) = L.take k ++ [L.getD k false] := by rw [List.take_succ_eq_append_getElem hk]; simp [List.getD, hk]
  rw [e]
  unfold nTrue
  rw [List.count_append]
  cases L.getD k false <;> simp
theorem take_true_le (L : List Bool) (k : Nat) : nTrue (L.take k) ≤ k := by have := nTrue_le (L.take k); simp at this; omega
set_option maxHeartbeats 1000000 in
theorem rpleft_any (w : World) (q R : Nat) (f : Int) (L : List Bool) (h : RPool w q R f L) :
    Calls Try.prog 14 #[.pointer (some ⟨q, 0, none⟩)] w fun e w' => e = .returned (.int .i64 (L.length - nTrue L)) ∧ w' = w := by
  have hP : Hid (RPool w q R f L) := h
  have c1 := h.c1
  have hr := h.rng
  clear h
  have hR : Hid ((L.length : Int) - nTrue L = L.length - nTrue (L.take L.length)) := by rw [Hid, List.take_length]
  rw [hR.out]
  clear hR
  generalize hn : L.length = n at c1 hr
  have hn' : Hid (L.length = n) := hn
  clear hn
  go_enter Try.func14, Try.ntmps14
  go_wp2_with fail
  go_loopw [3, 4] (fun c i wr => ∃ k s : Nat, (k : Int) ≤ n ∧ (s : Int) ≤ k ∧ i = .int .i64 k ∧ c = .int .i64 (k - s) ∧ Hid (nTrue (L.take k) = s) ∧ w = wr) (fun _ i _ => n - (intOf i).toNat)
  case atStart => exact ⟨0, 0, by omega, by omega, rfl, rfl, rfl, rfl⟩
  case round =>
    obtain ⟨k, s, hk, hs, rfl, rfl, hS, rfl⟩ := hrel
    by_cases hlt : (k : Int) < n
    · have hkL : Hid (k < L.length) := by rw [Hid, hn'.out]; omega
      have d2 := hP.out.at hkL.out
      have hT := take_true L hkL.out
      rw [hS.out] at hT
      generalize L.getD k false = b at d2 hT
      have hT' : Hid (nTrue (L.take (k + 1)) = s + (if b = true then 1 else 0)) := hT
      clear hT
      cases b
      · go_wp2
        go_roundw
        case rel => exact ⟨k + 1, s, by omega, by omega, by go_num, by go_num, by simpa using hT', trivial⟩
        case measure => simp [intOf]; omega
      · go_wp2
        go_roundw
        case rel => exact ⟨k + 1, s + 1, by omega, by omega, by go_num, by go_num, by simpa using hT', trivial⟩
        case measure => simp [intOf]; omega
    · obtain rfl : k = n := by omega
      go_wp2
      go_ret
      exact ⟨by rw [hS.out]; rfl, rfl⟩
end Go.Proofs.Ytjigjhmimocahaa
