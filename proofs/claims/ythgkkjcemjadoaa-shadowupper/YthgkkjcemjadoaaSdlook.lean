/- The document's Look. -/
import Derived.Test.YthgkkjcemjadoaaSdrdrop
namespace Go.Proofs.Ythgkkjcemjadoaa
open Go.RowKit
set_option linter.unusedVariables false
set_option linter.unusedSimpArgs false

theorem size_page : (Try.prog.info? 41).map (·.size) = some 3 := by kernel_rfl
set_option maxHeartbeats 4000000 in
set_option maxRecDepth 20000 in
theorem rs_look (w : World) (r most : Nat) (T : List Nat) (P : List (Nat × Nat)) (F G : List Nat) (h : RS w r most T P F G) (va : Nat) (hva : va < 4294967296) (hP : P.length ≤ 600) :
    Calls Try.prog 17 #[.pointer (some ⟨r, 0, none⟩), .int .u32 va] w fun e w' => ∃ a f b : Int, e = .returned (.tuple #[.agg #[.int .u32 a, .int .i64 f, .int .u32 b], .bool (decide (∃ x ∈ P, x.1 = va / 64))]) ∧ Kep w w' := by
  obtain ⟨pv, tv, hb, hp, ht⟩ := h.box
  obtain ⟨x, cap, rfl, hl, hcap, _, _⟩ := hp.lies
  have hl' : Hid (Lies w x (pgV P)) := hl
  have c2 : Hid (∀ wr, Kep w wr → wr.cell? ⟨r, 1, none⟩ = some (.slice x P.length cap)) := fun wr k => by rw [cell_of_block (k.block hb)]; rfl
  have hcap' : (P.length : Int) ≤ cap := by omega
  have hP' : (P.length : Int) ≤ 600 := by omega
  obtain ⟨N, hN⟩ : ∃ N, Hid (P.length = N) := ⟨_, rfl⟩
  rw [hN.out] at c2 hcap' hP'
  obtain ⟨vb, hvb⟩ : ∃ vb : Nat, (va : Int) - (va : Int) % 64 = (vb : Int) := ⟨va - va % 64, by omega⟩
  have hvi : Hid (vb = 64 * (va / 64)) := by rw [Hid]; omega
  have hvbb : (vb : Int) < 4294967296 := by omega
  have hW : Hid (Kep w (w.alloc (.cells #[.int .u32 0, .int .i64 0, .int .u32 0] 41))) := (Kep.refl _).alloc _
  have hW4 : (w.alloc (.cells #[.int .u32 0, .int .i64 0, .int .u32 0] 41)).heap[w.heap.size]? = some (.cells #[.int .u32 0, .int .i64 0, .int .u32 0] 41 (0, 0)) := hat _ _ _ rfl
  clear h hb ht hl hcap hP hp
  go_enter Try.func17, Try.ntmps17
  go_wp2_with fail
  have hsz : Hid (w.heap.size ≤ w.heap.size) := Nat.le_refl _
  generalize w.alloc (.cells #[.int .u32 0, .int .i64 0, .int .u32 0] 41) = W at hW hW4 ⊢
  obtain ⟨g4, hg4⟩ : ∃ g4, Hid (g4 = w.heap.size) := ⟨_, rfl⟩
  rw [← hg4.out] at hW4 ⊢
  have BW : Hid (W.heap[g4]? = some (.cells #[.int .u32 0, .int .i64 0, .int .u32 0] 41 (0, 0))) := hW4
  clear hW4
  go_loopw [6] (fun i wr => ∃ k : Nat, (k : Int) ≤ N ∧ i = .int .i64 k ∧ Hid (∀ j : Nat, j < k → ∀ y, P[j]? = some y → y.1 ≠ va / 64) ∧ Hid (Kep W wr)) (fun i _ => N - (intOf i).toNat)
  case atStart => exact ⟨0, by omega, rfl, fun j hj => by omega, Kep.refl _⟩
  case round =>
    obtain ⟨k, hk, rfl, hA, K⟩ := hrel
    have d2 := c2.out wr (kep_trans hW.out K.out)
    have FIN : Hid (∀ (a f b : Int), Kep w (((wr.setCell ⟨g4, 0, none⟩ (.int .u32 a)).setCell ⟨g4, 1, none⟩ (.int .i64 f)).setCell ⟨g4, 2, none⟩ (.int .u32 b))
        ∧ (((wr.setCell ⟨g4, 0, none⟩ (.int .u32 a)).setCell ⟨g4, 1, none⟩ (.int .i64 f)).setCell ⟨g4, 2, none⟩ (.int .u32 b)).heap[g4]? = some (.cells #[.int .u32 a, .int .i64 f, .int .u32 b] 41 (0, 0))) := fun a f b => by
      have hb4 := K.out.block BW.out
      have hge : w.heap.size ≤ g4 := by rw [hg4.out]; exact Nat.le_refl _
      refine ⟨(((kep_trans hW.out K.out).setCell (a := ⟨g4, 0, none⟩) hge _).setCell (a := ⟨g4, 1, none⟩) hge _).setCell (a := ⟨g4, 2, none⟩) hge _, ?_⟩
      rw [heap_setCell_row (heap_setCell_row (heap_setCell_row hb4 _) _) _]; rfl
    have f0 : wr.frozen? ⟨g4, 0, none⟩ = false := by simp [World.frozen?, K.out.block BW.out]
    have f1 : wr.frozen? ⟨g4, 1, none⟩ = false := by simp [World.frozen?, K.out.block BW.out]
    have f2 : wr.frozen? ⟨g4, 2, none⟩ = false := by simp [World.frozen?, K.out.block BW.out]
    have y0 : wr.cell? ⟨g4, 0, none⟩ = some (.int .u32 0) := by rw [cell_of_block (K.out.block BW.out)]; rfl
    have y1 : wr.cell? ⟨g4, 1, none⟩ = some (.int .i64 0) := by rw [cell_of_block (K.out.block BW.out)]; rfl
    have y2 : wr.cell? ⟨g4, 2, none⟩ = some (.int .u32 0) := by rw [cell_of_block (K.out.block BW.out)]; rfl
    by_cases hlt : (k : Int) < N
    · have hkP : k < P.length := by rw [hN.out]; omega
      obtain ⟨b, off, hx, e0, e1, e2⟩ := page_at (hl'.out.kep (kep_trans hW.out K.out)) hkP
      subst hx
      have hget : P[k]? = some P[k] := List.getElem?_eq_getElem hkP
      have hmem : P[k] ∈ P := List.getElem_mem _
      generalize P[k] = y at e0 e1 e2 hget hmem
      obtain ⟨ya, hya⟩ : ∃ ya, Hid (64 * y.1 = ya) := ⟨_, rfl⟩
      obtain ⟨yf, hyf⟩ : ∃ yf, Hid (y.2 / 64 = yf) := ⟨_, rfl⟩
      obtain ⟨yb, hyb⟩ : ∃ yb, Hid (y.2 % 64 = yb) := ⟨_, rfl⟩
      rw [hya.out] at e0
      rw [hyf.out] at e1
      rw [hyb.out] at e2
      by_cases he : y.1 = va / 64
      · have hq : ((ya : Int) == (vb : Int)) = true := by have := hvi.out; have := hya.out; simp; omega
        have hd : Hid (decide (∃ x ∈ P, x.1 = va / 64) = true) := decide_eq_true ⟨y, hmem, he⟩
        clear he hmem hget hkP hA
        go_wp2_with fail
        have F1 := FIN.out (ya : Int) (yf : Int) (yb : Int)
        (try simp only [Exit.inBlock, Exit.then]); refine bodyPost_ret (resultsC1 rfl _ _ g4 41 _ (0, 0) _ (by rfl) F1.2 Try.underlying41 rfl (by exact size_page)) rfl ?_
        exact ⟨_, _, _, by rw [hd.out]; rfl, F1.1⟩
      · have hq : ((ya : Int) == (vb : Int)) = false := by have := hvi.out; have := hya.out; simp; omega
        have hA2 : Hid (∀ j : Nat, j < k + 1 → ∀ y, P[j]? = some y → y.1 ≠ va / 64) := fun j hj z hz => by
          rcases Nat.lt_or_ge j k with g | g
          · exact hA.out j g z hz
          · obtain rfl : j = k := by omega
            rw [hget] at hz; cases hz; exact he
        clear he hmem hget hkP hA e1 e2
        go_wp2_with fail
        go_roundw
        case rel => exact ⟨k + 1, by omega, by go_num, hA2, K⟩
        case measure => simp [intOf]; omega
    · have hd : Hid (decide (∃ x ∈ P, x.1 = va / 64) = false) := decide_eq_false fun ⟨y, hy, e⟩ => by
        obtain ⟨j, hj, hjj⟩ := List.mem_iff_getElem.1 hy
        exact hA.out j (by have := hN.out; omega) y (by rw [List.getElem?_eq_getElem hj, hjj]) e
      clear hA
      go_wp2_with fail
      have F1 := FIN.out 0 0 0
      (try simp only [Exit.inBlock, Exit.then]); refine bodyPost_ret (resultsC1 rfl _ _ g4 41 _ (0, 0) _ (by rfl) F1.2 Try.underlying41 rfl (by exact size_page)) rfl ?_
      exact ⟨⟨_, _, _, by rw [hd.out]; rfl⟩, F1.1⟩
end Go.Proofs.Ythgkkjcemjadoaa
