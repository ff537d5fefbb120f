/- The document's memory: bytes laid in a row, its copy, its frames. -/
import Derived.Test.YtpieeefeicdfgabMref
namespace Go.Proofs.Ytpieeefeicdfgab
open Go.RowKit
set_option linter.unusedVariables false

theorem splice_step (B : List Int) (a : Nat) (zs : List Int) (k : Nat) (hk : k < zs.length) (h : a + zs.length ≤ B.length) : (splice B a (zs.take k)).set (a + k) (zs.getD k 0) = splice B a (zs.take (k + 1)) := by
  have l1 : (zs.take k).length = k := by simp; omega
  have l2 : (zs.take (k + 1)).length = k + 1 := by simp; omega
  have e : zs.take (k + 1) = zs.take k ++ [zs.getD k 0] := by rw [List.take_add_one]; simp [List.getD, hk]
  unfold splice
  rw [l1, l2, e, List.append_assoc, List.set_append_right _ _ (by simp; omega), List.length_take, show min a B.length = a by omega, show a + k - a = k by omega, List.set_append_right _ _ (by omega), l1, Nat.sub_self]
  congr 2
  rw [← Nat.add_assoc]
  obtain ⟨y, hy⟩ : ∃ y, B.drop (a + k) = y :: B.drop (a + k + 1) := ⟨_, (List.drop_eq_getElem_cons (by omega))⟩
  rw [hy]
  simp
theorem splice_zero (B : List Int) (a : Nat) (zs : List Int) : splice B a (zs.take 0) = B := by simp [splice]
theorem layL_range {n : Nat} : ∀ (zs B : List Int) (a : Nat), B.length = 64 * n → a + zs.length ≤ 64 * n → layL B (List.range n) a zs = splice B a zs
  | [], B, a, _, _ => (splice_nil B _).symm
  | z :: zs, B, a, h1, h2 => by
    simp only [List.length_cons] at h2
    rw [layL, pos_range (by omega), layL_range zs _ _ (by simpa using h1) (by omega)]
    exact splice_cons _ _ _ _ (by omega)

theorem one8 (x : Int) (w : World) : ∀ j u, ([Value.int .u8 x])[j]? = some u → (w.alloc (.cells #[.int .u8 x] 5)).cell? ((⟨w.heap.size, 0, none⟩ : Addr).add j) = some u := by
  intro j u hj
  match j, hj with
  | 0, hj => simp at hj; subst hj; simp [Addr.add]
theorem one8c (x : Int) : ∀ u ∈ [Value.int .u8 x], u.oneCell' = true := by
  intro u hu; simp at hu; subst hu; rfl
theorem own_base {w : World} {base : Nat} {e : TypeId} {size n g : Nat} {v : Value} {xs : List Value} (h : w.ownsRow base e size v n xs) (hg : v.ownBlock = some g) : base ≤ g := by
  rcases h.2 with ⟨rfl, _⟩ | ⟨g', cap, cur, rfl, h2, _⟩
  · simp [Value.ownBlock] at hg
  · simp [Value.ownBlock] at hg; omega
/-- A slice value that holds a row of bytes of its own. -/
def OwnV (w : World) (base : Nat) (v : Value) (B : List Int) : Prop := w.ownsRow base 5 1 v B.length (byt B)

set_option maxRecDepth 100000 in
theorem refCopy_any (w : World) (y : Option Addr) (Rb : Nat) (B : List Int) (h : Refd w y Rb B) :
    Calls Try.prog 76 #[refV y B.length] w fun e w' => ∃ v : Value, e = .returned (.agg #[v]) ∧ OwnV w' w.heap.size v B ∧ Kep w w' := by
  obtain ⟨n, hn⟩ : ∃ n, n = B.length := ⟨_, rfl⟩
  obtain ⟨i5, hi5, hz0, hz1, hz2⟩ := info_parts info_u8
  have hm := h.max
  have hr : Hid (∀ o1 o2, RowB ((w.alloc o1).alloc o2) Rb B) := fun o1 o2 => h.row.kep (((Kep.refl _).alloc o1).alloc o2)
  have hw : Hid (B ≠ [] → Rb < w.heap.size) := fun hB => h.row.lt hB
  have ha' : Hid (B ≠ [] → y = some ⟨Rb, 0, none⟩) := h.adr
  have hn' : Hid (n = B.length) := hn
  rw [← hn] at hm ⊢
  clear h hn
  go_enter Try.func76, Try.ntmps76
  go_wp2
  go_loopw [3, 4] (fun bv i wr => ∃ k : Nat, (k : Int) ≤ n ∧ i = .int .i64 k ∧ Hid (wr.ownsRow (w.heap.size + 2) 5 1 bv k (byt (B.take k))) ∧ Hid (Kep ((w.alloc (.cells #[.slice y n n] 42)).alloc (.cells #[.slice none 0 0] 42)) wr)) (fun _ i _ => n - (intOf i).toNat)
  case atStart => exact ⟨0, by omega, rfl, World.ownsRow_nil _ _ _ _, Kep.refl _⟩
  case round =>
    obtain ⟨k, hk, rfl, hO, hK⟩ := hrel
    have d0 : wr.cell? ⟨w.heap.size, 0, none⟩ = some (.slice y n n) := (hK.out.cell (by simp; omega)).trans ((cell_old (by simp)).trans (by rw [cell_of_block (heap_alloc_new _ _)]; rfl))
    by_cases hlt : k < n
    · have hlt' : (k : Int) < n := by omega
      have hB : B ≠ [] := by intro e; have := hn'.out; rw [e] at this; simp at this; omega
      have hRb := hw.out hB
      have d1 : wr.cell? ⟨Rb, k, none⟩ = some (.int .u8 (B.getD k 0)) := ((hr.out _ _).kep hK.out).cell (by have := hn'.out; omega)
      rw [ha'.out hB] at d0
      have hadd : Hid (byt (B.take (k + 1)) = byt (B.take k) ++ [.int .u8 (B.getD k 0)]) := by
        have hkl : k < B.length := by have := hn'.out; omega
        have e : B[k]? = some (B.getD k 0) := by simp [hkl]
        rw [Hid, List.take_add_one, e, byt, List.map_append]
        rfl
      generalize B.getD k 0 = b at d1 hadd
      have hs : Hid (∀ o, w.heap.size + 2 ≤ (wr.alloc o).heap.size) := fun o => by have := hK.out.size; simp at this ⊢; omega
      have hml : k + 1 ≤ maxLen := by unfold maxLen; omega
      go_wp2_with (at_builtin; (refine wpList_append_own _ rfl _ _ 37 rfl (w.heap.size + 2) 5 i5 (.int .u8 0) 1 1 Try.underlying37 hi5 hz0 hz1 hz2 rfl (by decide) _ k (byt (B.take k)) rfl (World.ownsRow.alloc hO.out _) ⟨wr.heap.size, 0, none⟩ 1 1 [.int .u8 b] rfl rfl (one8 _ _) (one8c _) hml (by omega) (hs.out _) ?_); intro v' w1 hown' hgrow _)
      go_roundw
      case rel =>
        refine ⟨k + 1, by omega, by go_num, by rw [Hid, hadd.out]; exact hown', ?_⟩
        exact (hK.out.alloc _).by hgrow (fun g hg => by have := own_base hO.out hg; simp; omega)
      case measure => simp [intOf]; omega
    · obtain rfl : k = n := by omega
      have hb1 : Hid (wr.heap[w.heap.size + 1]? = some (.cells #[.slice none 0 0] 42 (0, 0))) := hK.out.block (hat _ _ _ (by simp))
      have d3 : wr.cell? ⟨w.heap.size + 1, 0, none⟩ = some (.slice none 0 0) := by rw [cell_of_block hb1.out]; rfl
      have f3 : wr.frozen? ⟨w.heap.size + 1, 0, none⟩ = false := by simp [World.frozen?, hb1.out]
      obtain ⟨xo, l, cp, rfl⟩ : ∃ (xo : Option Addr) (l cp : Nat), u3 = .slice xo l cp := by
        rcases hO.out.2 with ⟨h1, _⟩ | ⟨g, cap, _, h1, _⟩
        · exact ⟨none, 0, 0, h1⟩
        · exact ⟨_, _, _, h1⟩
      go_wp2
      refine bodyPost_ret (results1 rfl _ _ (w.heap.size + 1) 42 #[.slice xo l cp] (0, 0) _ rfl ?_ Try.underlying42 rfl size_ref) rfl ⟨_, rfl, ?_, ?_⟩
      · exact (heap_setCell_row hb1.out _).trans (by simp)
      · have ho := hO.out
        have e1 : B.take k = B := List.take_of_length_le (by have := hn'.out; omega)
        rw [e1, hn'.out] at ho
        refine ⟨ho.1, ?_⟩
        rcases ho.2 with h1 | ⟨g, cap, cur, h1, h2, h3, h4⟩
        · exact .inl h1
        · exact .inr ⟨g, cap, cur, h1, by omega, (heap_setCell_other _ _ _ _ (by simp; omega)).trans h3, h4⟩
      · exact (kep_trans (((Kep.refl w).alloc _).alloc _) hK.out).setCell (by simp) _

theorem OwnV.kep {w w' : World} {base : Nat} {v : Value} {B : List Int} (h : OwnV w base v B) (k : Kep w w') : OwnV w' base v B := by
  refine ⟨h.1, ?_⟩
  rcases h.2 with h1 | ⟨g, cap, cur, h1, h2, h3, h4⟩
  · exact .inl h1
  · exact .inr ⟨g, cap, cur, h1, h2, k.block h3, h4⟩
/-- The cells of a slice value are these bytes. -/
def Rd (w : World) (v : Value) (B : List Int) : Prop := ∃ (g off c : Nat), v = .slice (some ⟨g, off, none⟩) B.length c ∧ ∀ j u, (byt B)[j]? = some u → w.cell? ((⟨g, off, none⟩ : Addr).add j) = some u
theorem Rd.kep {w w' : World} {v : Value} {B : List Int} (h : Rd w v B) (k : Kep w w') (hB : B ≠ []) : Rd w' v B := by
  obtain ⟨g, off, c, e, hc⟩ := h
  refine ⟨g, off, c, e, fun j u hu => ?_⟩
  have h0 := hc j u hu
  have hlt := World.block_lt_of_cell? w _ h0
  rw [Addr.add_lit] at h0 hlt ⊢
  exact (k.cell hlt).trans h0

theorem ref_field (x : Option Addr) (l c : Nat) (w : World) : (Instr.field 42 (.agg #[.slice x l c]) 0).run Try.prog w = .ok (.slice x l c) w := by kernel_rfl
theorem ownV_slice {w : World} {base : Nat} {v : Value} {B : List Int} (h : OwnV w base v B) (hB : 0 < B.length) : ∃ g cap : Nat, v = .slice (some ⟨g, 0, none⟩) B.length cap ∧ B.length ≤ cap := by
  rcases h.2 with ⟨_, h1⟩ | ⟨g, cap, cur, h1, h2, h3, h4, _⟩
  · omega
  · exact ⟨g, cap, h1, h4⟩
theorem ownV_cell {w : World} {base g cap : Nat} {B : List Int} (h : OwnV w base (.slice (some ⟨g, 0, none⟩) B.length cap) B) {j : Nat} (hj : j < B.length) : w.cell? ⟨g, j, none⟩ = some (.int .u8 (B.getD j 0)) := by
  rw [World.ownsRow.cellAt h j (by omega), byt_at]
  simp [hj]

set_option maxRecDepth 100000 in
theorem refFrame_yes (w : World) (y : Option Addr) (Rb : Nat) (B : List Int) (h : Refd w y Rb B) (m : Nat) (hm : B.length = 64 * m) (n : Nat) (hn : n < m) :
    Calls Try.prog 55 #[refV y B.length, .int .i64 n] w fun e w' => ∃ v : Value, e = .returned v ∧ Rd w' v (frameL B n) ∧ Kep w w' := by
  have hc : Hid (∀ o, Calls Try.prog 76 #[refV y B.length] (w.alloc o) fun e w' => ∃ v : Value, e = .returned (.agg #[v]) ∧ OwnV w' (w.alloc o).heap.size v B ∧ Kep (w.alloc o) w') := fun o => refCopy_any _ y Rb B (h.kep ((Kep.refl _).alloc o))
  have hmax := h.max
  have hm' : Hid (B.length = 64 * m) := hm
  rw [hm] at hc hmax ⊢
  have g1 : (n : Int) < m := by omega
  have g2 : decide ((n : Int) < 0) = false := decide_eq_false (by omega)
  have g4 : ((64 * m : Nat) : Int) / 64 = m := by omega
  clear h hn hm
  go_enter Try.func55, Try.ntmps55
  have hfd := ref_field
  go_wp2_with (go_at_call 76; refine (hc.out _).mono ?_; rintro e w1 ⟨v, rfl, hO, hK⟩; obtain ⟨g, cap, rfl, hcap⟩ := ownV_slice hO (by have := hm'.out; omega); rw [hm'.out] at hcap ⊢; have hcap' : ((64 * m : Nat) : Int) ≤ cap := by omega)
  go_ret
  refine ⟨_, rfl, ?_, kep_trans ((Kep.refl _).alloc _) hK⟩
  have hfl : (frameL B n).length = 64 := frameL_len (by have := hm'.out; omega)
  refine ⟨g, n * 64, cap - n * 64, ?_, ?_⟩
  · show Value.slice _ (n * 64 + 64 - n * 64) _ = _
    rw [hfl, show n * 64 + 64 - n * 64 = 64 by omega]
  · intro j u hu
    have hj : j < 64 := by have := (List.getElem?_eq_some_iff.1 hu).1; rw [byt_len, hfl] at this; exact this
    rw [byt_at, frameL_at hj] at hu
    have hl : 64 * n + j < B.length := by have := hm'.out; omega
    rw [Addr.add_lit, show n * 64 + j = 64 * n + j by omega, ownV_cell hO hl, ← hu]
    simp [hl]

set_option maxRecDepth 100000 in
theorem refFrame_no (w : World) (y : Option Addr) (B : List Int) (hmax : (B.length : Int) ≤ 32768) (m : Nat) (hm : B.length = 64 * m) (n : Int) (hn : n < 0 ∨ (m : Int) ≤ n) :
    Calls Try.prog 55 #[refV y B.length, .int .i64 n] w fun e w' => e = .returned (.slice none 0 0) ∧ Kep w w' := by
  rw [hm] at hmax ⊢
  have g4 : ((64 * m : Nat) : Int) / 64 = m := by omega
  clear hm
  rcases (by omega : n < 0 ∨ (0 ≤ n ∧ (m : Int) ≤ n)) with h | ⟨h, h'⟩
  · have g2 : decide (n < 0) = true := decide_eq_true (by omega)
    clear hn
    go_enter Try.func55, Try.ntmps55
    go_wp2_with fail
    go_ret
    exact ⟨rfl, (Kep.refl _).alloc _⟩
  · have g2 : decide (n < 0) = false := decide_eq_false (by omega)
    clear hn
    go_enter Try.func55, Try.ntmps55
    go_wp2_with fail
    go_ret
    exact ⟨rfl, (Kep.refl _).alloc _⟩

end Go.Proofs.Ytpieeefeicdfgab
