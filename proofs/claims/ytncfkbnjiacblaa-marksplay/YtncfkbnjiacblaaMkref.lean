/- The document's marks. -/
import Derived.Test.YtncfkbnjiacblaaMkgot
namespace Go.Proofs.Ytncfkbnjiacblaa
open Go.RowKit
set_option linter.unusedVariables false
set_option linter.unusedSimpArgs false

abbrev rmV (c0 c1 n : Nat) : Value := .agg #[.slice (some ⟨c0, 0, none⟩) n n, .slice (some ⟨c1, 0, none⟩) n n]
/-- The document's marks: their rows at c0 and c1. -/
structure RAt (w : World) (c0 c1 n : Nat) (L0 L1 : List Bool) : Prop where
  r0 : w.heap[c0]? = some (.cells (bls L0).toArray 4 (0, 0))
  r1 : w.heap[c1]? = some (.cells (bls L1).toArray 4 (0, 0))
  ne : c0 ≠ c1
  le : L0.length = n ∧ L1.length = n ∧ 1 ≤ n ∧ (n : Int) ≤ 64
theorem RAt.put {w w' : World} {c0 c1 n : Nat} {L0 L1 : List Bool} {l : List Nat} (h : RAt w c0 c1 n L0 L1) (k : Put l w w') (h2 : c0 ∉ l) (h3 : c1 ∉ l) : RAt w' c0 c1 n L0 L1 := ⟨k.keeps h.r0 h2, k.keeps h.r1 h3, h.ne, h.le⟩
theorem RAt.kep {w w' : World} {c0 c1 n : Nat} {L0 L1 : List Bool} (h : RAt w c0 c1 n L0 L1) (k : Kep w w') : RAt w' c0 c1 n L0 L1 := h.put (l := []) (Put.of_kep k) (by simp) (by simp)
theorem RAt.set0 {w : World} {c0 c1 n : Nat} {L0 L1 : List Bool} (h : RAt w c0 c1 n L0 L1) (k : Nat) (b : Bool) : RAt (w.setCell ⟨c0, k, none⟩ (.bool b)) c0 c1 n (L0.set k b) L1 := by
  refine ⟨?_, ?_, h.ne, by simpa using h.le⟩
  · rw [heap_setCell_row h.r0]; simp [bls, List.map_set]
  · rw [heap_setCell_other _ _ _ _ h.ne.symm]; exact h.r1
theorem RAt.set1 {w : World} {c0 c1 n : Nat} {L0 L1 : List Bool} (h : RAt w c0 c1 n L0 L1) (k : Nat) (b : Bool) : RAt (w.setCell ⟨c1, k, none⟩ (.bool b)) c0 c1 n L0 (L1.set k b) := by
  refine ⟨?_, ?_, h.ne, by simpa using h.le⟩
  · rw [heap_setCell_other _ _ _ _ h.ne]; exact h.r0
  · rw [heap_setCell_row h.r1]; simp [bls, List.map_set]
def rowX (c0 c1 : Nat) (k : Int) : Option Addr := if k = 1 then some ⟨c0, 0, none⟩ else if k = 2 then some ⟨c1, 0, none⟩ else none
def rowN (n : Nat) (k : Int) : Nat := if k = 1 ∨ k = 2 then n else 0
theorem RAt.len {w : World} {c0 c1 n : Nat} {L0 L1 : List Bool} (h : RAt w c0 c1 n L0 L1) (k : Int) : (kindL L0 L1 k).length = rowN n k := by
  unfold rowN kindL
  by_cases h1 : k = 1
  · simp [h1, h.le.1]
  · by_cases h2 : k = 2
    · simp [h2, h.le.2.1]
    · simp [h1, h2]
theorem RAt.row {w : World} {c0 c1 n : Nat} {L0 L1 : List Bool} (h : RAt w c0 c1 n L0 L1) (k : Int) : SetAt w (rowX c0 c1 k) (kindL L0 L1 k) := by
  unfold rowX kindL
  split
  · exact .inr ⟨_, rfl, h.r0⟩
  · split
    · exact .inr ⟨_, rfl, h.r1⟩
    · exact .inl rfl
theorem rof_any (w : World) (c0 c1 n : Nat) (k : Int) :
    Calls Try.prog 20 #[rmV c0 c1 n, .int .i64 k] w fun e w' => e = .returned (.slice (rowX c0 c1 k) (rowN n k) (rowN n k)) ∧ Kep w w' := by
  rcases (by omega : k = 1 ∨ k = 2 ∨ (k ≠ 1 ∧ k ≠ 2)) with rfl | rfl | ⟨h1, h2⟩
  · have e1 : rowX c0 c1 1 = some ⟨c0, 0, none⟩ := rfl
    have e2 : rowN n 1 = n := rfl
    rw [e1, e2]
    go_enter Try.func20, Try.ntmps20
    go_wp2
    go_ret
    exact ⟨rfl, (Kep.refl _).alloc _⟩
  · have e1 : rowX c0 c1 2 = some ⟨c1, 0, none⟩ := rfl
    have e2 : rowN n 2 = n := rfl
    rw [e1, e2]
    go_enter Try.func20, Try.ntmps20
    go_wp2
    go_ret
    exact ⟨rfl, (Kep.refl _).alloc _⟩
  · have e1 : rowX c0 c1 k = none := by unfold rowX; rw [if_neg h1, if_neg h2]
    have e2 : rowN n k = 0 := by unfold rowN; rw [if_neg (by omega)]
    rw [e1, e2]
    have t1 : (k == 1) = false := by simpa using h1
    have t2 : (k == 2) = false := by simpa using h2
    go_enter Try.func20, Try.ntmps20
    go_wp2
    go_ret
    exact ⟨rfl, (Kep.refl _).alloc _⟩
theorem rhas_any {w : World} {c0 c1 n : Nat} {L0 L1 : List Bool} (f k : Int) (h : RAt w c0 c1 n L0 L1) :
    Calls Try.prog 9 #[rmV c0 c1 n, .int .i64 f, .int .i64 k] w fun e w' => e = .returned (.bool (bears (kindL L0 L1 k) f)) ∧ Kep w w' := by
  have HO : Hid (∀ w, Calls Try.prog 20 #[rmV c0 c1 n, .int .i64 k] w fun e w' => e = .returned (.slice (rowX c0 c1 k) (rowN n k) (rowN n k)) ∧ Kep w w') := fun w => rof_any w c0 c1 n k
  have hS := h.row k
  have hn := h.len k
  clear h
  rw [← hn] at HO
  generalize kindL L0 L1 k = L at *
  generalize rowX c0 c1 k = x at *
  clear hn
  rcases (by omega : (0 ≤ f ∧ f < L.length) ∨ f < 0 ∨ (0 ≤ f ∧ ¬ f < L.length)) with hf | hf | ⟨hf, hf'⟩
  · obtain ⟨i, rfl⟩ : ∃ i : Nat, f = i := ⟨f.toNat, by omega⟩
    have hi : i < L.length := by omega
    have hk' : (i : Int) < L.length := hf.2
    rw [bears_nat]
    have HC : Hid (∀ w1, Kep w w1 → ∃ b : Nat, x = some ⟨b, 0, none⟩ ∧ w1.cell? ⟨b, i, none⟩ = some (.bool (L.getD i false)) ∧ b < w1.heap.size) := fun w1 K => (hS.kep K).at hi
    clear hf hS hi
    generalize L.getD i false = u at *
    generalize L.length = m at *
    go_enter Try.func9, Try.ntmps9
    go_wp2_with fail
    refine (HO.out _).mono ?_
    rintro e w1 ⟨rfl, K⟩
    have K' : Hid (Kep w w1) := kep_trans ((Kep.refl _).alloc _) K
    obtain ⟨b, rfl, hc, hb⟩ := HC.out w1 K'.out
    clear HO HC K
    go_wp2_with fail
    go_ret
    exact ⟨rfl, K'.out⟩
  · rw [bears_no (.inl hf)]
    go_enter Try.func9, Try.ntmps9
    go_wp2_with fail
    refine (HO.out _).mono ?_
    rintro e w1 ⟨rfl, K⟩
    have K' : Hid (Kep w w1) := kep_trans ((Kep.refl _).alloc _) K
    clear HO hS K
    generalize L.length = m at *
    go_wp2_with fail
    go_ret
    exact ⟨rfl, K'.out⟩
  · rw [bears_no (.inr (by omega))]
    go_enter Try.func9, Try.ntmps9
    go_wp2_with fail
    refine (HO.out _).mono ?_
    rintro e w1 ⟨rfl, K⟩
    have K' : Hid (Kep w w1) := kep_trans ((Kep.refl _).alloc _) K
    clear HO hS K
    generalize L.length = m at *
    go_wp2_with fail
    go_ret
    exact ⟨rfl, K'.out⟩
theorem rset_no {w : World} {c0 c1 n : Nat} {L0 L1 : List Bool} (f k : Int) (b : Bool) (h : RAt w c0 c1 n L0 L1) (hf : isF (rowN n k) f = false) :
    Calls Try.prog 11 #[rmV c0 c1 n, .int .i64 f, .int .i64 k, .bool b] w fun e w' => e = .returned (.bool false) ∧ Kep w w' := by
  have HO : Hid (∀ w, Calls Try.prog 20 #[rmV c0 c1 n, .int .i64 k] w fun e w' => e = .returned (.slice (rowX c0 c1 k) (rowN n k) (rowN n k)) ∧ Kep w w') := fun w => rof_any w c0 c1 n k
  have g := isF_not hf
  clear h hf
  generalize rowN n k = m at *
  generalize rowX c0 c1 k = x at *
  rcases (by omega : f < 0 ∨ (¬ f < 0 ∧ (m : Int) ≤ f)) with g | ⟨g, g'⟩
  all_goals
    go_enter Try.func11, Try.ntmps11
    go_wp2_with fail
    refine (HO.out _).mono ?_
    rintro e w1 ⟨rfl, K⟩
    have K' : Hid (Kep w w1) := kep_trans ((Kep.refl _).alloc _) K
    clear HO K
    go_wp2_with fail
    go_ret
    exact ⟨rfl, K'.out⟩
theorem rset_yes {w : World} {c0 c1 n : Nat} {L0 L1 : List Bool} (i : Nat) (k : Int) (b : Bool) (h : RAt w c0 c1 n L0 L1) (hi : i < n) (hk : k = 1 ∨ k = 2) :
    Calls Try.prog 11 #[rmV c0 c1 n, .int .i64 i, .int .i64 k, .bool b] w fun e w' => e = .returned (.bool true) ∧ ∃ w1, Kep w w1 ∧ w' = w1.setCell ⟨(if k = 1 then c0 else c1), i, none⟩ (.bool b) := by
  have HO : Hid (∀ w, Calls Try.prog 20 #[rmV c0 c1 n, .int .i64 k] w fun e w' => e = .returned (.slice (some ⟨(if k = 1 then c0 else c1), 0, none⟩) n n) ∧ Kep w w') := fun w => by
    have := rof_any w c0 c1 n k
    rcases hk with rfl | rfl <;> exact this
  have hc : Hid (∀ w1, Kep w w1 → (∃ u, w1.cell? ⟨(if k = 1 then c0 else c1), i, none⟩ = some (.bool u)) ∧ w1.frozen? ⟨(if k = 1 then c0 else c1), i, none⟩ = false) := fun w1 K => by
    have h' := h.kep K
    rcases hk with rfl | rfl
    · exact ⟨⟨_, by rw [if_pos rfl, cell_of_block h'.r0]; simpa using bls_at (L := L0) (k := i) (by have := h.le; omega)⟩, by simp [World.frozen?, h'.r0]⟩
    · exact ⟨⟨_, by rw [if_neg (by omega), cell_of_block h'.r1]; simpa using bls_at (L := L1) (k := i) (by have := h.le; omega)⟩, by simp [World.frozen?, h'.r1]⟩
  have g0 : ¬ (i : Int) < 0 := by omega
  have g1 : ¬ (n : Int) ≤ i := by omega
  have g2 : (i : Int) < n := by omega
  have hn : (n : Int) ≤ 64 := h.le.2.2.2
  clear h hk
  generalize (if k = 1 then c0 else c1) = c at *
  go_enter Try.func11, Try.ntmps11
  go_wp2_with fail
  refine (HO.out _).mono ?_
  rintro e w1 ⟨rfl, K⟩
  have K' : Hid (Kep w w1) := kep_trans ((Kep.refl _).alloc _) K
  obtain ⟨⟨u, hc1⟩, hz1⟩ := hc.out w1 K'.out
  clear HO K hc
  go_wp2_with fail
  go_ret
  exact ⟨rfl, w1, K'.out, rfl⟩
theorem rset_any {w : World} {c0 c1 n : Nat} {L0 L1 : List Bool} (f k : Int) (b : Bool) (h : RAt w c0 c1 n L0 L1) :
    Calls Try.prog 11 #[rmV c0 c1 n, .int .i64 f, .int .i64 k, .bool b] w fun e w' => e = .returned (.bool (isF (kindL L0 L1 k).length f)) ∧ RAt w' c0 c1 n (onK k 1 (putB · f b) L0) (onK k 2 (putB · f b) L1) ∧ Put [c0, c1] w w' := by
  have hl := h.len k
  cases hf : isF (kindL L0 L1 k).length f
  · obtain ⟨e1, e2⟩ := turn_no (b := b) hf
    rw [e1, e2]
    refine (rset_no f k b h (by rw [← hl]; exact hf)).mono ?_
    rintro e w' ⟨rfl, K⟩
    exact ⟨rfl, h.kep K, Put.of_kep K⟩
  · have hk := kind_is hf
    obtain ⟨g0, g1⟩ := isF_iff.1 hf
    obtain ⟨i, rfl⟩ : ∃ i : Nat, f = i := ⟨f.toNat, by omega⟩
    have hi : i < n := by
      rw [hl] at g1
      unfold rowN at g1
      rw [if_pos hk] at g1
      omega
    refine (rset_yes i k b h hi hk).mono ?_
    rintro e w' ⟨rfl, w1, K, rfl⟩
    refine ⟨rfl, ?_, (Put.of_kep K).setCell (by by_cases e : k = 1 <;> simp [e]) _⟩
    rcases hk with rfl | rfl
    · simpa [onK, putB] using (h.kep K).set0 i b
    · simpa [onK, putB] using (h.kep K).set1 i b
set_option maxHeartbeats 1000000 in
theorem rlist_any {w : World} {c0 c1 n : Nat} {L0 L1 : List Bool} (k : Int) (h : RAt w c0 c1 n L0 L1) :
    Calls Try.prog 18 #[rmV c0 c1 n, .int .i64 k] w fun e w' => ∃ (x : Option Addr) (cap : Nat), e = .returned (.slice x (frs (kindL L0 L1 k) (kindL L0 L1 k).length).length cap) ∧ LI w' x (frs (kindL L0 L1 k) (kindL L0 L1 k).length) ∧ Kep w w' := by
  have HO : Hid (∀ w, Calls Try.prog 20 #[rmV c0 c1 n, .int .i64 k] w fun e w' => e = .returned (.slice (rowX c0 c1 k) (rowN n k) (rowN n k)) ∧ Kep w w') := fun w => rof_any w c0 c1 n k
  have hS : Hid (SetAt w (rowX c0 c1 k) (kindL L0 L1 k)) := h.row k
  have hl := h.len k
  have hn : ((kindL L0 L1 k).length : Int) ≤ 64 := by rw [hl]; unfold rowN; have := h.le; split <;> omega
  rw [← hl] at HO
  clear h hl
  generalize kindL L0 L1 k = L at *
  generalize rowX c0 c1 k = x at *
  generalize hm : L.length = m at HO hn ⊢
  have hm' : Hid (L.length = m) := hm
  clear hm
  obtain ⟨i0, hi, hz0, hz1, hz2⟩ := info_parts info_i64
  go_enter Try.func18, Try.ntmps18
  go_wp2_with fail
  refine (HO.out _).mono ?_
  rintro e w1 ⟨rfl, K⟩
  have K1 : Hid (Kep w w1) := kep_trans ((Kep.refl _).alloc _) K
  clear HO K
  go_wp2_with fail
  go_loopw [5, 7] (fun v i wr => ∃ (k : Nat), (k : Int) ≤ m ∧ i = .int .i64 k ∧ Hid (wr.ownsRow w.heap.size 3 1 v (frs L k).length (ints (frs L k))) ∧ Hid (Kep w wr)) (fun _ i _ => m - (intOf i).toNat)
  case atStart => exact ⟨0, by omega, rfl, World.ownsRow_nil _ _ _ _, K1.out⟩
  case round =>
    obtain ⟨k, hkn, rfl, O, K⟩ := hrel
    by_cases hlt : k < m
    · have hlt' : (k : Int) < m := by omega
      obtain ⟨b, rfl, hc, hb⟩ := (hS.out.kep K.out).at (k := k) (by rw [hm'.out]; exact hlt)
      generalize hu : L.getD k false = u at hc
      have hu' : Hid (L.getD k false = u) := hu
      clear hu
      cases u
      · go_wp2_with fail
        go_roundw
        case rel => exact ⟨k + 1, by omega, by go_num, by rw [Hid, frs_no hu'.out]; exact O.out, K.out⟩
        case measure => simp [intOf]; omega
      · have hadd : Hid (ints (frs L (k + 1)) = ints (frs L k) ++ [.int .i64 k] ∧ (frs L (k + 1)).length = (frs L k).length + 1) := by rw [Hid, frs_yes hu'.out]; exact ⟨(ints_app _ _).symm, by simp⟩
        have hs : Hid (∀ o, w.heap.size ≤ (wr.alloc o).heap.size) := fun o => by have := K.out.size; simp; omega
        have hfl := frs_len L k
        have hml : (frs L k).length + 1 ≤ maxLen := by unfold maxLen; omega
        go_wp2_with (at_builtin; (refine wpList_append_own _ rfl _ _ 39 rfl w.heap.size 3 i0 (.int .i64 0) 1 8 Try.underlying39 hi hz0 hz1 hz2 rfl (by decide) _ (frs L k).length (ints (frs L k)) rfl (World.ownsRow.alloc O.out _) ⟨wr.heap.size, 0, none⟩ 1 1 [.int .i64 k] rfl rfl (cell_one_new _ _ _) (ints_one _) hml (by omega) (hs.out _) ?_); intro v' w1 hown' hgrow _)
        go_roundw
        case rel =>
          refine ⟨k + 1, by omega, by go_num, by rw [Hid, hadd.out.1, hadd.out.2]; exact hown', ?_⟩
          exact (K.out.alloc _).by hgrow (fun g hg => by have := own_base O.out hg; simp; omega)
        case measure => simp [intOf]; omega
    · obtain rfl : k = m := by omega
      obtain ⟨y, cap, hv, hL⟩ := LI.of_owns O.out
      subst hv
      have hL' : Hid (LI wr y (frs L k)) := hL
      clear hL O
      go_wp2_with fail
      go_ret
      exact ⟨y, cap, rfl, hL'.out, K.out⟩
set_option maxHeartbeats 1000000 in
theorem rnew_any (w : World) (n : Nat) (h0 : 1 ≤ n) (h1 : (n : Int) ≤ 64) :
    Calls Try.prog 8 #[.int .i64 n] w fun e w' => ∃ c0 c1 : Nat, e = .returned (rmV c0 c1 n) ∧ Kep w w' ∧ RAt w' c0 c1 n (List.replicate n false) (List.replicate n false) ∧ w.heap.size ≤ c0 ∧ w.heap.size ≤ c1 := by
  have mk := make_bls 27 Try.underlying27 n (by omega)
  have HX : Hid (∀ W : World, W.heap.size = w.heap.size + 3 → W.heap[w.heap.size + 1]? = some (.cells (bls (List.replicate n false)).toArray 4 (0, 0)) → W.heap[w.heap.size + 2]? = some (.cells (bls (List.replicate n false)).toArray 4 (0, 0)) → RAt W (w.heap.size + 1) (w.heap.size + 2) n (List.replicate n false) (List.replicate n false) ∧ RAt W (w.heap.size + 2) (w.heap.size + 1) n (List.replicate n false) (List.replicate n false)) := fun W hs a b =>
    ⟨⟨a, b, by omega, by simp; omega⟩, ⟨b, a, by omega, by simp; omega⟩⟩
  have h0' : (1 : Int) ≤ n := by omega
  generalize bls (List.replicate n false) = X at *
  go_enter Try.func8, Try.ntmps8
  go_wp2_with fail
  go_region
  all_goals
    generalize hW : World.drew _ = W
    have hs : W.heap.size = w.heap.size + 3 := by rw [← hW]; simp
    have k : Kep w W := by rw [← hW]; exact ((((Kep.refl _).alloc _).alloc _).alloc _).drew
    have q1 : W.heap[w.heap.size + 1]? = some (.cells X.toArray 4 (0, 0)) := by rw [← hW]; exact (hsk _ _ _ (by simp)).trans (hat _ _ _ (by simp))
    have q2 : W.heap[w.heap.size + 2]? = some (.cells X.toArray 4 (0, 0)) := by rw [← hW]; exact hat _ _ _ (by simp)
    have q0 : ∃ c0 c1 : Nat, W.heap[w.heap.size]? = some (.cells #[.slice (some ⟨c0, 0, none⟩) n n, .slice (some ⟨c1, 0, none⟩) n n] 29 (0, 0)) ∧ ((c0 = w.heap.size + 1 ∧ c1 = w.heap.size + 2) ∨ (c0 = w.heap.size + 2 ∧ c1 = w.heap.size + 1)) := by
      rw [← hW]
      first
        | exact ⟨w.heap.size + 1, w.heap.size + 1 + 1, (hsk _ _ _ (by simp; omega)).trans ((hsk _ _ _ (by simp)).trans (hat _ _ _ rfl)), by omega⟩
        | exact ⟨w.heap.size + 1 + 1, w.heap.size + 1, (hsk _ _ _ (by simp; omega)).trans ((hsk _ _ _ (by simp)).trans (hat _ _ _ rfl)), by omega⟩
    obtain ⟨c0, c1, q0, hc⟩ := q0
    have R : Hid (RAt W c0 c1 n (List.replicate n false) (List.replicate n false) ∧ w.heap.size ≤ c0 ∧ w.heap.size ≤ c1) := by
      have := HX.out W hs q1 q2
      rcases hc with ⟨rfl, rfl⟩ | ⟨rfl, rfl⟩
      · exact ⟨this.1, by omega, by omega⟩
      · exact ⟨this.2, by omega, by omega⟩
    have d0 : W.cell? ⟨w.heap.size, 0, none⟩ = some (.slice (some ⟨c0, 0, none⟩) n n) := (cell_of_block q0).trans rfl
    have d1 : W.cell? ⟨w.heap.size, 1, none⟩ = some (.slice (some ⟨c1, 0, none⟩) n n) := (cell_of_block q0).trans rfl
    have k' : Hid (Kep w W) := k
    clear hW hs q1 q2 hc HX mk k
    go_wp2_with fail
    exact bodyPost_ret (results_cell_row rfl _ _ w.heap.size 29 _ (0, 0) _ (by rfl) q0 Try.underlying29 rfl (by kernel_rfl)) rfl ⟨c0, c1, rfl, k'.out, R.out.1, R.out.2⟩
end Go.Proofs.Ytncfkbnjiacblaa
