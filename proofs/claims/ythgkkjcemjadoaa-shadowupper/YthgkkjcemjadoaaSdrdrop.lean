/- The document's Drop. -/
import Derived.Test.YthgkkjcemjadoaaSdref
namespace Go.Proofs.Ythgkkjcemjadoaa
open Go.RowKit
set_option linter.unusedVariables false
set_option linter.unusedSimpArgs false

/-- The page number k, where it lies. -/
theorem page_at {w : World} {x : Option Addr} {P : List (Nat × Nat)} (h : Lies w x (pgV P)) {k : Nat} (hk : k < P.length) : ∃ b off : Nat, x = some ⟨b, off, none⟩ ∧ w.cell? ⟨b, off + k * 3, none⟩ = some (.int .u32 (64 * P[k].1 : Nat)) ∧ w.cell? ⟨b, off + k * 3 + 1, none⟩ = some (.int .i64 (P[k].2 / 64 : Nat)) ∧ w.cell? ⟨b, off + k * 3 + 2, none⟩ = some (.int .u32 (P[k].2 % 64 : Nat)) := by
  rcases h with h0 | ⟨b, off, e, _, hc⟩
  · have := congrArg List.length h0; rw [pgV_len, List.length_nil] at this; omega
  · have at' := pgV_at P k P[k] (List.getElem?_eq_getElem hk)
    refine ⟨b, off, e, ?_, ?_, ?_⟩
    · exact hc (k * 3) _ ((at' 0 (by omega)).trans rfl)
    · exact hc (k * 3 + 1) _ ((at' 1 (by omega)).trans rfl)
    · exact hc (k * 3 + 2) _ ((at' 2 (by omega)).trans rfl)
theorem without_take {i : Nat} {P : List (Nat × Nat)} {k : Nat} (hk : k < P.length) : without i (P.take (k + 1)) = without i (P.take k) ++ if P[k].1 = i then [] else [P[k]] := by
  unfold without
  rw [List.take_add_one, List.filter_append, List.getElem?_eq_getElem hk]
  congr 1
  show [P[k]].filter _ = _
  rw [List.filter_cons, List.filter_nil]
  by_cases h : P[k].1 = i <;> simp [h]
theorem without_len (i : Nat) (P : List (Nat × Nat)) : (without i P).length ≤ P.length := List.length_filter_le _ _
/-- A list of pages of its own, that lies behind w. -/
def PL (w : World) (v : Value) (Q : List (Nat × Nat)) (wr : World) : Prop := ∃ F, Sli wr 41 3 v Q.length (pgV Q) F ∧ (∀ g ∈ F, w.heap.size ≤ g) ∧ Kep w wr
theorem PL.form {w wr : World} {v : Value} {Q : List (Nat × Nat)} (h : PL w v Q wr) : ∃ x c, v = .slice x Q.length c ∧ PL w (.slice x Q.length c) Q wr := by
  obtain ⟨F, h1, h2, h3⟩ := h
  obtain ⟨x, c, rfl, _⟩ := h1.lies
  exact ⟨x, c, rfl, F, h1, h2, h3⟩
theorem PL.alloc {w wr : World} {v : Value} {Q : List (Nat × Nat)} (h : PL w v Q wr) (o : Obj) : PL w v Q (wr.alloc o) := by
  obtain ⟨F, h1, h2, h3⟩ := h
  exact ⟨F, h1.kep ((Kep.refl _).alloc _), h2, h3.alloc _⟩
theorem PL.more {w wr w1 : World} {v' : Value} {Q : List (Nat × Nat)} {F F' : List Nat} {x : Nat × Nat} (hF : ∀ g ∈ F, w.heap.size ≤ g) (hk : Kep w wr) (S : Sli w1 41 3 v' (Q.length + 1) (pgV Q ++ pgv x) F') (P : Put F wr w1) (H : ∀ g ∈ F', g ∈ F ∨ wr.heap.size ≤ g) : PL w v' (Q ++ [x]) w1 := by
  refine ⟨F', ?_, fun g hg => ?_, hk.put P hF⟩
  · rw [pgV_app, pgV_one, List.length_append]; exact S
  · rcases H g hg with h | h
    · exact hF g h
    · exact Nat.le_trans hk.size h
set_option maxHeartbeats 4000000 in
theorem rs_drop (w : World) (r most : Nat) (T : List Nat) (P : List (Nat × Nat)) (F G : List Nat) (h : RS w r most T P F G) (va : Nat) (hva : va < 4294967296) (hP : P.length ≤ 600) :
    Calls Try.prog 27 #[.pointer (some ⟨r, 0, none⟩), .int .u32 va] w fun e w' => ∃ F', e = .returned (.tuple #[]) ∧ RS w' r most T (without (va / 64) P) F' G ∧ Put [r] w w' ∧ ∀ g ∈ F', w.heap.size ≤ g := by
  obtain ⟨i0, hi, hy0, hy1, hy2⟩ := info_parts info_page
  obtain ⟨pv, tv, hb, hp, ht⟩ := h.box
  obtain ⟨x, cap, rfl, hl, hcap, _, _⟩ := hp.lies
  have hl' : Hid (Lies w x (pgV P)) := hl
  have hb' : Hid (w.heap[r]? = some (.cells #[.int .i64 40, .slice x P.length cap, tv, .int .i64 most] 32 (0, 0))) := hb
  have c2 : Hid (∀ wr, Kep w wr → wr.cell? ⟨r, 1, none⟩ = some (.slice x P.length cap)) := fun wr k => by rw [cell_of_block (k.block hb)]; rfl
  have ht' : Hid (Sli w 34 1 tv T.length (u32s T) G ∧ r ∉ G) := ⟨ht, h.nr.2.1⟩
  have hcap' : (P.length : Int) ≤ cap := by omega
  have hP' : (P.length : Int) ≤ 600 := by omega
  obtain ⟨N, hN⟩ : ∃ N, Hid (P.length = N) := ⟨_, rfl⟩
  rw [hN.out] at c2 hcap' hP'
  obtain ⟨vb, hvb⟩ : ∃ vb : Nat, (va : Int) - (va : Int) % 64 = (vb : Int) := ⟨va - va % 64, by omega⟩
  have hvi : Hid (vb = 64 * (va / 64)) := by rw [Hid]; omega
  have hvbb : (vb : Int) < 4294967296 := by omega
  clear h hb ht hl hcap hP
  go_enter Try.func27, Try.ntmps27
  go_wp2_with fail
  go_loopw [4, 5] (fun v i wr => ∃ (k nv cv : Nat) (xv : Option Addr), (k : Int) ≤ N ∧ v = .slice xv nv cv ∧ i = .int .i64 k ∧ Hid (PL w (.slice xv nv cv) (without (va / 64) (P.take k)) wr)) (fun _ i _ => N - (intOf i).toNat)
  case atStart => exact ⟨0, 0, 0, none, by omega, rfl, rfl, [], by simpa [without, pgV] using Sli.nil _ _ _, by simp, Kep.refl _⟩
  case round =>
    obtain ⟨k, nv, cv, xv, hk, rfl, rfl, hI⟩ := hrel
    have K : Hid (Kep w wr) := by obtain ⟨_, _, _, K⟩ := hI.out; exact K
    have d2 := c2.out wr K.out
    by_cases hlt : (k : Int) < N
    · have hkP : k < P.length := by rw [hN.out]; omega
      obtain ⟨b, off, hx, e0, e1, e2⟩ := page_at (hl'.out.kep K.out) hkP
      subst hx
      have hst : Hid (without (va / 64) (P.take (k + 1)) = without (va / 64) (P.take k) ++ if P[k].1 = va / 64 then [] else [P[k]]) := without_take hkP
      have hlen : (without (va / 64) (P.take k)).length ≤ 600 := by
        have := without_len (va / 64) (P.take k)
        rw [List.length_take] at this
        have := hN.out
        omega
      generalize P[k] = y at e0 e1 e2 hst
      clear hkP
      generalize without (va / 64) (P.take k) = Q at hI hst hlen
      by_cases he : y.1 = va / 64
      · have hq : ((64 * y.1 : Nat) : Int) = (vb : Int) := by have := hvi.out; omega
        rw [hq] at e0
        have hI2 : Hid (PL w (.slice xv nv cv) (without (va / 64) (P.take (k + 1))) wr) := by rw [Hid, hst.out, if_pos he, List.append_nil]; exact hI.out
        clear hst he hq e1 e2
        go_wp2_with fail
        go_roundw
        case rel => exact ⟨k + 1, nv, cv, xv, by omega, rfl, by go_num, hI2⟩
        case measure => simp [intOf]; omega
      · obtain ⟨ya, hya⟩ : ∃ ya, Hid (64 * y.1 = ya) := ⟨_, rfl⟩
        obtain ⟨yf, hyf⟩ : ∃ yf, Hid (y.2 / 64 = yf) := ⟨_, rfl⟩
        obtain ⟨yb, hyb⟩ : ∃ yb, Hid (y.2 % 64 = yb) := ⟨_, rfl⟩
        have hyv : Hid (pgv y = [.int .u32 (ya : Nat), .int .i64 (yf : Nat), .int .u32 (yb : Nat)]) := by rw [Hid, ← hya.out, ← hyf.out, ← hyb.out]; rfl
        have hq : ((ya : Int) != (vb : Int)) = true := by have := hvi.out; have := hya.out; simp; omega
        rw [hya.out] at e0
        rw [hyf.out] at e1
        rw [hyb.out] at e2
        have hst2 : Hid (without (va / 64) (P.take (k + 1)) = Q ++ [y]) := by rw [Hid, hst.out, if_neg he]
        obtain ⟨FQ, hsl, hFQ, KQ⟩ := hI.out.alloc (.cells #[.int .u32 ya, .int .i64 yf, .int .u32 yb] 41)
        have HF : Hid _ := hFQ
        have HK : Hid _ := KQ
        obtain ⟨xq, cq, hvq, _⟩ := hsl.lies
        have hnq : nv = Q.length := by cases hvq; rfl
        subst hnq
        clear hst he hFQ KQ hya hyf hyb hvq
        go_wp2_with (at_builtin; refine wpList_append_sli rfl (.tmp 28) (.tmp 36) 30 rfl 41 i0 _ 3 24 Try.underlying30 hi hy0 hy1 hy2 rfl (by decide) _ Q.length (pgV Q) FQ rfl hsl ⟨wr.heap.size, 0, none⟩ 1 [.int .u32 ya, .int .i64 yf, .int .u32 yb] rfl rfl cell_page (by simp [Value.oneCell']) (by unfold maxLen; omega) (by omega) ?_; intro v' w1 G1 S1 P1 H1; obtain ⟨x1, c1, hv', _⟩ := S1.out.lies; subst hv')
        go_roundw
        case rel =>
          refine ⟨k + 1, _, _, _, by omega, rfl, by go_num, ?_⟩
          rw [hst2.out]
          exact PL.more HF.out HK.out (by rw [hyv.out]; exact S1.out) P1.out (fun g hg => (H1.out g hg))
        case measure => simp [intOf]; omega
    · obtain rfl : k = N := by omega
      have hQ : without (va / 64) (P.take k) = without (va / 64) P := by rw [List.take_of_length_le (by rw [hN.out]; exact Nat.le_refl _)]
      rw [hQ] at hI
      obtain ⟨FQ, hsl, hFQ, _⟩ := hI.out
      have hnb : Hid (nv = (without (va / 64) P).length) := by obtain ⟨_, _, hv, _⟩ := hsl.lies; cases hv; rfl
      have hb2 := K.out.block hb'.out
      have f1 : wr.frozen? ⟨r, 1, none⟩ = false := by simp [World.frozen?, hb2]
      have B1 : Hid ((wr.setCell ⟨r, 1, none⟩ (.slice xv nv cv)).heap[r]? = some (.cells #[.int .i64 40, .slice xv nv cv, tv, .int .i64 most] 32 (0, 0))) := by
        rw [Hid, heap_setCell_row hb2]; rfl
      have Q1 : Hid (Put [r] wr (wr.setCell ⟨r, 1, none⟩ (.slice xv nv cv))) := (Put.refl _).setCell (by simp) _
      have nr : Hid (∀ g ∈ FQ, g ∉ [r]) := fun g hg => by
        simp; rintro rfl
        have := hFQ g hg
        have := block_lt hb'.out
        omega
      clear hQ hb2 hlt
      go_wp2_with fail
      go_end0
      exact ⟨FQ, rfl, ⟨_, _, B1.out, hsl.put Q1.out nr.out, (ht'.out.1.kep K.out).put Q1.out (fun g hg => by simp; rintro rfl; exact ht'.out.2 hg)⟩, (Put.of_kep K.out).trans Q1.out, hFQ⟩
end Go.Proofs.Ythgkkjcemjadoaa
