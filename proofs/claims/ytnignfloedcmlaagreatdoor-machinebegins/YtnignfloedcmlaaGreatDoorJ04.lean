/- Part of a proof. -/
import Derived.BigRegion
import Derived.Test.YtnignfloedcmlaaGreatDoorJ03
namespace Go.Proofs.YtnignfloedcmlaaGreatDoor
open Go.RowKit
set_option linter.unusedVariables false
set_option linter.unusedSimpArgs false
def Byts (B : List Int) : Prop := ∀ b ∈ B, 0 ≤ b ∧ b < 256
theorem Byts.at {B : List Int} (h : Byts B) (k : Nat) : 0 ≤ B.getD k 0 ∧ B.getD k 0 < 256 := by
  rcases Nat.lt_or_ge k B.length with hk | hk
  · have : B.getD k 0 = B[k] := by simp [List.getD, hk]
    rw [this]; exact h _ (List.getElem_mem hk)
  · have : B.getD k 0 = 0 := by simp [List.getD, hk]
    rw [this]; omega
theorem Byts.set {B : List Int} (h : Byts B) (k : Nat) {b : Int} (h0 : 0 ≤ b) (h1 : b < 256) : Byts (B.set k b) := by
  intro x hx
  rcases List.mem_or_eq_of_mem_set hx with h' | h'
  · exact h x h'
  · subst h'; exact ⟨h0, h1⟩
def wordI (b0 b1 b2 b3 : Int) : Int := b0 + 256 * b1 + 65536 * b2 + 16777216 * b3
def wordAt (B : List Int) (q : Nat) : Int := wordI (B.getD q 0) (B.getD (q + 1) 0) (B.getD (q + 2) 0) (B.getD (q + 3) 0)
theorem or32_comm (x y : Int) : bits .or .u32 x y = bits .or .u32 y x := by simp only [bits, BitVec.or_comm]
theorem join32 (raw z : Int) (k : Nat) (hk : k ≤ 3) (h0 : 0 ≤ raw) (h1 : raw < 2 ^ (8 * k)) (z0 : 0 ≤ z) (z1 : z < 256) : bits .or .u32 raw (z * 2 ^ (8 * k)) = raw + z * 2 ^ (8 * k) := by
  rw [or32_comm, bits_join .u32 32 (by decide) (by intro n h₀ h₁; rw [IntKind.wrap_u32]; omega) (8 * k) (z * 2 ^ (8 * k)) raw]
  · omega
  · exact Int.mul_nonneg z0 (Int.le_of_lt (Int.pow_pos (by decide)))
  · exact Int.mul_emod_left _ _
  · rcases (by omega : k = 0 ∨ k = 1 ∨ k = 2 ∨ k = 3) with rfl | rfl | rfl | rfl <;> simp <;> omega
  · exact h0
  · exact h1
  · rcases (by omega : k = 0 ∨ k = 1 ∨ k = 2 ∨ k = 3) with rfl | rfl | rfl | rfl <;> simp at h1 ⊢ <;> omega
theorem or4 (b0 b1 b2 b3 : Int) (h0 : 0 ≤ b0 ∧ b0 < 256) (h1 : 0 ≤ b1 ∧ b1 < 256) (h2 : 0 ≤ b2 ∧ b2 < 256) (h3 : 0 ≤ b3 ∧ b3 < 256) :
    bits .or .u32 (bits .or .u32 (bits .or .u32 (bits .or .u32 0 (b0 % 4294967296)) (b1 % 4294967296 * 256 % 4294967296)) (b2 % 4294967296 * 65536 % 4294967296)) (b3 % 4294967296 * 16777216 % 4294967296) = wordI b0 b1 b2 b3 := by
  have e0 : b0 % 4294967296 = b0 * 2 ^ (8 * 0) := by simp; omega
  have e1 : b1 % 4294967296 * 256 % 4294967296 = b1 * 2 ^ (8 * 1) := by simp; omega
  have e2 : b2 % 4294967296 * 65536 % 4294967296 = b2 * 2 ^ (8 * 2) := by simp; omega
  have e3 : b3 % 4294967296 * 16777216 % 4294967296 = b3 * 2 ^ (8 * 3) := by simp; omega
  rw [e0, e1, e2, e3, join32 0 b0 0 (by decide) (by decide) (by decide) h0.1 h0.2, join32 _ b1 1 (by decide) (by simp; omega) (by simp; omega) h1.1 h1.2,
    join32 _ b2 2 (by decide) (by simp; omega) (by simp; omega) h2.1 h2.2, join32 _ b3 3 (by decide) (by simp; omega) (by simp; omega) h3.1 h3.2]
  unfold wordI
  simp
  omega
theorem word_any (w : World) (v : Value) (R : Nat) (ix : List Nat) (B : List Int) (h : Ram w v R ix) (hix : (ix.length : Int) ≤ 512) (hB : RowB w R B) (hf : Fits B ix) (hb : Byts B) (a : Nat) (ha : (a : Int) < 4294967296) :
    Calls Tryz.prog 137 #[v, .int .u32 a] w fun e w' => e = .returned (.tuple (if a % 4 = 0 ∧ a < 64 * ix.length then #[.int .u32 (wordAt B (pos ix a)), .bool true] else #[.int .u32 0, .bool false])) ∧ w' = w := by
  have hc := spotWord_any w v R ix h hix a ha
  have hmf : ∀ (fn : Fn) (first cap : Array Value) (w : World), (Instr.makeFunc fn first cap).run Tryz.prog w = .ok (.func fn first cap) w := fun _ _ _ _ => rfl
  by_cases hl : a % 4 = 0 ∧ a < 64 * ix.length
  · rw [if_pos hl] at hc ⊢
    have hp := hf.pos hl.2
    have c0 := hB.cell (k := pos ix a) hp.2
    have c1 := hB.cell (k := pos ix a + 1) (by unfold pos at hp ⊢; omega)
    have c2 := hB.cell (k := pos ix a + 2) (by unfold pos at hp ⊢; omega)
    have c3 := hB.cell (k := pos ix a + 3) (by unfold pos at hp ⊢; omega)
    unfold fromV at hc
    unfold wordAt
    have H := or4 _ _ _ _ (hb.at (pos ix a)) (hb.at (pos ix a + 1)) (hb.at (pos ix a + 2)) (hb.at (pos ix a + 3))
    generalize B.getD (pos ix a) 0 = b0 at c0 H
    generalize B.getD (pos ix a + 1) 0 = b1 at c1 H
    generalize B.getD (pos ix a + 2) 0 = b2 at c2 H
    generalize B.getD (pos ix a + 3) 0 = b3 at c3 H
    generalize pos ix a = q at c0 c1 c2 c3 hc
    have H' : Hid (_ = _) := H
    have hs : Hid (Calls Tryz.prog 122 #[.int .u32 a, .func (.func 150) #[v] #[], .func (.func 28) #[v] #[]] w fun e w' => e = .returned (.tuple #[.slice (some ⟨R, q, none⟩) (64 - a % 64) (64 - a % 64), .bool true]) ∧ w' = w) := hc
    have hm : (4 : Int) ≤ (64 - a % 64 : Nat) := by omega
    clear hc h hl hp hf hB ha hix hb H
    generalize 64 - a % 64 = m at hm hs
    go_enter Tryz.func137, Tryz.ntmps137
    go_wp2_with (go_at_call 122; refine hs.out.mono ?_; rintro e w1 ⟨rfl, rfl⟩)
    go_rounds 5
    go_ret2
    exact ⟨by rw [← H'.out]; rfl, rfl⟩
  · rw [if_neg hl] at hc ⊢
    have hs : Hid (Calls Tryz.prog 122 #[.int .u32 a, .func (.func 150) #[v] #[], .func (.func 28) #[v] #[]] w fun e w' => e = .returned (.tuple #[.slice none 0 0, .bool false]) ∧ w' = w) := hc
    clear hc h hl hf hB ha hix hb
    go_enter Tryz.func137, Tryz.ntmps137
    go_wp2_with (go_at_call 122; refine hs.out.mono ?_; rintro e w1 ⟨rfl, rfl⟩)
    go_ret2
    exact ⟨rfl, rfl⟩
def setW (B : List Int) (q : Nat) (x : Int) : List Int := (((B.set q (x % 256)).set (q + 1) (x / 256 % 256)).set (q + 2) (x / 65536 % 256)).set (q + 3) (x / 16777216 % 256)
theorem setW_len (B : List Int) (q : Nat) (x : Int) : (setW B q x).length = B.length := by simp [setW]
theorem Byts.setW {B : List Int} (h : Byts B) (q : Nat) (x : Int) : Byts (setW B q x) :=
  (((h.set _ (by omega) (by omega)).set _ (by omega) (by omega)).set _ (by omega) (by omega)).set _ (by omega) (by omega)
theorem setByte_put (w : World) (v : Value) (R : Nat) (ix : List Nat) (B : List Int) (h : Ram w v R ix) (hix : (ix.length : Int) ≤ 512) (hB : RowB w R B) (hf : Fits B ix) (a : Nat) (ha : (a : Int) < 4294967296) (b : Int) :
    Calls Tryz.prog 117 #[v, .int .u32 a, .int .u8 b] w fun e w' => e = .returned (.bool (decide (a < 64 * ix.length))) ∧ Put [R] w w' ∧ RowB w' R (if a < 64 * ix.length then B.set (pos ix a) b else B) := by
  refine (setByte_any w v R ix B h hix hB hf a ha b).mono ?_
  rintro e w' ⟨rfl, rfl⟩
  split
  · exact ⟨rfl, (Put.refl _).setCell (by simp) _, hB.set _ _⟩
  · exact ⟨rfl, Put.refl _, hB⟩
theorem setWord_put (w : World) (v : Value) (R : Nat) (ix : List Nat) (B : List Int) (h : Ram w v R ix) (hix : (ix.length : Int) ≤ 512) (hB : RowB w R B) (hf : Fits B ix) (a : Nat) (ha : (a : Int) < 4294967296) (x : Int) (hx0 : 0 ≤ x) (hx1 : x < 4294967296) :
    Calls Tryz.prog 141 #[v, .int .u32 a, .int .u32 x] w fun e w' => e = .returned (.bool (decide (a % 4 = 0 ∧ a < 64 * ix.length))) ∧ Put [R] w w' ∧ RowB w' R (if a % 4 = 0 ∧ a < 64 * ix.length then setW B (pos ix a) x else B) := by
  have hc := spotWord_any w v R ix h hix a ha
  have hmf : ∀ (fn : Fn) (first cap : Array Value) (w : World), (Instr.makeFunc fn first cap).run Tryz.prog w = .ok (.func fn first cap) w := fun _ _ _ _ => rfl
  by_cases hl : a % 4 = 0 ∧ a < 64 * ix.length
  · rw [if_pos hl] at hc ⊢
    rw [decide_eq_true hl]
    have hp := hf.pos hl.2
    have c0 := hB.cell (k := pos ix a) hp.2
    have c1 := hB.cell (k := pos ix a + 1) (by unfold pos at hp ⊢; omega)
    have c2 := hB.cell (k := pos ix a + 2) (by unfold pos at hp ⊢; omega)
    have c3 := hB.cell (k := pos ix a + 3) (by unfold pos at hp ⊢; omega)
    have hfz : ∀ k, w.frozen? ⟨R, k, none⟩ = false := by
      have := hB (by intro e; subst e; simp at hp)
      intro k
      simp [World.frozen?, this]
    unfold fromV at hc
    generalize B.getD (pos ix a) 0 = b0 at c0
    generalize B.getD (pos ix a + 1) 0 = b1 at c1
    generalize B.getD (pos ix a + 2) 0 = b2 at c2
    generalize B.getD (pos ix a + 3) 0 = b3 at c3
    generalize pos ix a = q at c0 c1 c2 c3 hc
    have hs : Hid (Calls Tryz.prog 122 #[.int .u32 a, .func (.func 150) #[v] #[], .func (.func 28) #[v] #[]] w fun e w' => e = .returned (.tuple #[.slice (some ⟨R, q, none⟩) (64 - a % 64) (64 - a % 64), .bool true]) ∧ w' = w) := hc
    have hm : (4 : Int) ≤ (64 - a % 64 : Nat) := by omega
    have hB' : Hid (RowB w R B) := hB
    clear hc h hl hp hf ha hix hB
    generalize 64 - a % 64 = m at hm hs
    go_enter Tryz.func141, Tryz.ntmps141
    go_wp2_with (go_at_call 122; refine hs.out.mono ?_; rintro e w1 ⟨rfl, rfl⟩)
    go_rounds 5
    go_ret
    refine ⟨rfl, ((((Put.refl _).setCell (by simp) _).setCell (by simp) _).setCell (by simp) _).setCell (by simp) _, ?_⟩
    unfold setW
    rw [show x / 16777216 % 256 = x / 16777216 by omega]
    exact (((hB'.out.set _ _).set _ _).set _ _).set _ _
  · rw [if_neg hl] at hc ⊢
    rw [decide_eq_false hl]
    have hs : Hid (Calls Tryz.prog 122 #[.int .u32 a, .func (.func 150) #[v] #[], .func (.func 28) #[v] #[]] w fun e w' => e = .returned (.tuple #[.slice none 0 0, .bool false]) ∧ w' = w) := hc
    have hB' : Hid (RowB w R B) := hB
    clear hc h hl hf hB ha hix
    go_enter Tryz.func141, Tryz.ntmps141
    go_wp2_with (go_at_call 122; refine hs.out.mono ?_; rintro e w1 ⟨rfl, rfl⟩)
    go_ret
    exact ⟨rfl, Put.refl _, hB'.out⟩
theorem made_rep (x : Value) (n : Nat) : madeCells #[x] n = (List.replicate n x).toArray := by
  apply Array.ext
  · simp [madeCells]
  · intro i h1 h2
    simp [madeCells, Nat.mod_one]
theorem info_u8 : (Tryz.prog.info? 5).map (fun i => (i.zero, i.size, i.bytes)) = some (some (.int .u8 0), 1, 1) := by kernel_rfl
theorem info_sl : (Tryz.prog.info? 22).map (fun i => (i.zero, i.size, i.bytes)) = some (some (.slice none 0 0), 1, 24) := by kernel_rfl
theorem byt_zero (n : Nat) : byt (List.replicate n 0) = List.replicate n (.int .u8 0) := by simp [byt]
theorem make_row (s : Nat) (hs : s ≤ 140737488355328) (w : World) : Sem.run Tryz.prog (Instr.makeSlice 22 (.int .i64 s) (.int .i64 s)) w = .ok (.slice (some ⟨w.heap.size, 0, none⟩) s s) (w.alloc (.cells (byt (List.replicate s 0)).toArray 5)) := by
  obtain ⟨i, hi, hz0, hz1, hz2⟩ := info_parts info_u8
  have := run_make (P := Tryz.prog) w 22 5 i (.int .u8 0) Tryz.underlying22 hi hz0 .i64 .i64 s s (by omega) (by omega) (by rw [hz2]; omega) (by omega)
  rw [hz1] at this
  rw [byt_zero]
  simpa [Value.cells, made_rep] using this
theorem make_frames (s : Nat) (hs : s ≤ 1000000) (w : World) : Sem.run Tryz.prog (Instr.makeSlice 78 (.int .i64 s) (.int .i64 s)) w = .ok (.slice (some ⟨w.heap.size, 0, none⟩) s s) (w.alloc (.cells (List.replicate s (Value.slice none 0 0)).toArray 22)) := by
  obtain ⟨i, hi, hz0, hz1, hz2⟩ := info_parts info_sl
  have := run_make (P := Tryz.prog) w 78 22 i (.slice none 0 0) Tryz.underlying78 hi hz0 .i64 .i64 s s (by omega) (by omega) (by rw [hz2]; omega) (by omega)
  rw [hz1] at this
  simpa [Value.cells, made_rep] using this
def cutF (R n k : Nat) : List Value := frs R (List.range k) ++ List.replicate (n - k) (.slice none 0 0)
theorem cutF_zero (R n : Nat) : cutF R n 0 = List.replicate n (.slice none 0 0) := by simp [cutF, frs]
theorem cutF_all (R n : Nat) : cutF R n n = frs R (List.range n) := by simp [cutF]
theorem cutF_at (R n k : Nat) (h : k < n) : (cutF R n k)[k]? = some (.slice none 0 0) := by
  have hl : (frs R (List.range k)).length = k := by simp [frs]
  rw [cutF, List.getElem?_append_right (by omega), hl, Nat.sub_self]
  simp [List.getElem?_replicate]; omega
theorem cutF_set (R n k : Nat) (h : k < n) : (cutF R n k).set k (.slice (some ⟨R, 64 * k, none⟩) 64 64) = cutF R n (k + 1) := by
  have hl : (frs R (List.range k)).length = k := by simp [frs]
  have e1 : frs R (List.range (k + 1)) = frs R (List.range k) ++ [.slice (some ⟨R, 64 * k, none⟩) 64 64] := by simp [frs, List.range_succ]
  have e2 : n - k = (n - (k + 1)) + 1 := by omega
  rw [cutF, cutF, List.set_append_right _ _ (by omega), hl, Nat.sub_self, e1, e2, List.replicate_succ]
  simp
structure Cut (w wr : World) (Z : Array Value) (n k : Nat) : Prop where
  kep : Kep w wr
  row : wr.heap[w.heap.size]? = some (.cells Z 5 (0, 0))
  fr : wr.heap[w.heap.size + 1]? = some (.cells (cutF w.heap.size n k).toArray 22 (0, 0))
  box : wr.heap[w.heap.size + 2]? = some (.cells #[.slice (some ⟨w.heap.size + 1, 0, none⟩) n n] 80 (0, 0))
theorem Cut.step {w wr : World} {Z : Array Value} {n k : Nat} (h : Cut w wr Z n k) (hk : k < n) : Cut w ((wr.setCell ⟨w.heap.size + 1, k, none⟩ (.slice (some ⟨w.heap.size, 64 * k, none⟩) 64 64)).drew) Z n (k + 1) := by
  refine ⟨(h.kep.setCell (by simp) _).drew, ?_, ?_, ?_⟩
  · rw [heap_drew, heap_setCell_other _ _ _ _ (by simp)]; exact h.row
  · rw [heap_drew, heap_setCell_row h.fr, ← cutF_set _ _ _ hk]; simp
  · rw [heap_drew, heap_setCell_other _ _ _ _ (by simp)]; exact h.box
set_option maxRecDepth 100000 in
theorem cut_any (w : World) (n : Nat) (h1 : (1 : Int) ≤ n) (h2 : (n : Int) ≤ 512) :
    Calls Tryz.prog 27 #[.int .i64 n] w fun e w' => e = .returned (.pointer (some ⟨w.heap.size + 2, 0, none⟩)) ∧ Kep w w' ∧ w'.heap[w.heap.size]? = some (.cells (byt (List.replicate (64 * n) 0)).toArray 5 (0, 0)) ∧
      w'.heap[w.heap.size + 1]? = some (.cells (frs w.heap.size (List.range n)).toArray 22 (0, 0)) ∧ w'.heap[w.heap.size + 2]? = some (.cells #[.slice (some ⟨w.heap.size + 1, 0, none⟩) n n] 80 (0, 0)) := by
  have m1 := make_row (n * 64) (by omega)
  have m2 := make_frames n (by omega)
  have e1 : ((n * 64 : Nat) : Int) = (n : Int) * 64 := by omega
  rw [e1] at m1
  have e2 : 64 * n = n * 64 := by omega
  rw [e2]
  clear e1 e2
  generalize (byt (List.replicate (n * 64) 0)).toArray = Z at m1
  rw [← cutF_zero w.heap.size n] at m2
  go_enter Tryz.func27, Tryz.ntmps27
  go_wp2
  go_loopw [16] (fun i wr => ∃ k : Nat, (k : Int) ≤ n ∧ i = .int .i64 k ∧ Hid (Cut w wr Z n k)) (fun i _ => n - (intOf i).toNat)
  case atStart =>
    refine ⟨0, by omega, rfl, ⟨(((Kep.refl _).alloc _).alloc _).alloc _, ?_, ?_, ?_⟩⟩
    · exact (hsk _ _ _ (by simp; omega)).trans ((hsk _ _ _ (by simp)).trans (hat _ _ _ rfl))
    · exact (hsk _ _ _ (by simp)).trans (hat _ _ _ (by simp))
    · exact hat _ _ _ (by simp)
  case round =>
    obtain ⟨k, hk, rfl, C⟩ := hrel
    clear m1 m2
    have c1 : wr.cell? ⟨w.heap.size + 2, 0, none⟩ = some (.slice (some ⟨w.heap.size + 1, 0, none⟩) n n) := by rw [cell_of_block C.out.box]; rfl
    by_cases hlt : k < n
    · have c2 : wr.cell? ⟨w.heap.size + 1, k, none⟩ = some (.slice none 0 0) := by rw [cell_of_block C.out.fr]; simpa using cutF_at _ n k hlt
      have f2 : wr.frozen? ⟨w.heap.size + 1, k, none⟩ = false := by simp [World.frozen?, C.out.fr]
      have hlt' : (k : Int) < n := by omega
      go_wp2
      go_region
      all_goals
        go_wp2
        go_roundw
        case rel =>
          have e1 : (k + 1) * 64 - k * 64 = 64 := by omega
          have e2 : k * 64 = 64 * k := by omega
          rw [e1, e2]
          exact ⟨k + 1, by omega, by go_num, C.out.step hlt⟩
        case measure => simp [intOf]; omega
    · obtain rfl : k = n := by omega
      go_wp2
      go_ret
      rw [← cutF_all]
      exact ⟨rfl, C.out.kep, C.out.row, C.out.fr, C.out.box⟩
structure Own (w w' : World) (v : Value) (R n : Nat) (B : List Int) : Prop where
  kep : Kep w w'
  ram : Ram w' v R (List.range n)
  row : RowB w' R B
  len : B.length = 64 * n
  byts : Byts B
  ge : w.heap.size ≤ R
  pos : 1 ≤ n
  le : n ≤ 512
  sz : w.heap.size + 3 ≤ w'.heap.size
theorem byts_zero (n : Nat) : Byts (List.replicate n 0) := by
  intro b hb
  have := (List.mem_replicate.1 hb).2
  subst this; decide
theorem fits_range {B : List Int} {n : Nat} (h : B.length = 64 * n) : Fits B (List.range n) := by
  intro i hi
  have := List.mem_range.1 hi
  omega
theorem pos_range {n a : Nat} (h : a < 64 * n) : pos (List.range n) a = a := by
  have h1 : a / 64 < n := by omega
  have : (List.range n).getD (a / 64) 0 = a / 64 := by simp [List.getD, h1]
  unfold pos
  rw [this]; omega
theorem cut_own (w : World) (n : Nat) (h1 : 1 ≤ n) (h2 : n ≤ 512) :
    Calls Tryz.prog 27 #[.int .i64 n] w fun e w' => ∃ v : Value, e = .returned v ∧ Own w w' v w.heap.size n (List.replicate (64 * n) 0) := by
  refine (cut_any w n (by omega) (by omega)).mono ?_
  rintro e w' ⟨rfl, k, r, f, b⟩
  refine ⟨_, rfl, k, .inr (.inr ⟨_, _, rfl, ?_, f, by omega, by omega, ?_⟩), fun _ => r, by simp, byts_zero _, Nat.le_refl _, h1, h2, block_lt b⟩
  · simpa using b
  · intro e
    have := congrArg List.length e
    simp at this; omega
theorem new_any (w : World) (n : Nat) (h1 : 1 ≤ n) (h2 : n ≤ 512) :
    Calls Tryz.prog 10 #[.int .i64 n] w fun e w' => ∃ p : Nat, e = .returned (.tuple #[.pointer (some ⟨p, 0, none⟩), .int .i64 0]) ∧ Own w w' (.pointer (some ⟨p, 0, none⟩)) w.heap.size n (List.replicate (64 * n) 0) := by
  have hc : Hid (Calls Tryz.prog 27 #[.int .i64 n] w fun e w' => ∃ v : Value, e = .returned v ∧ Own w w' v w.heap.size n (List.replicate (64 * n) 0)) := cut_own w n h1 h2
  have g1 : (1 : Int) ≤ n := by omega
  have g2 : (n : Int) ≤ 512 := by omega
  have g3 : decide ((n : Int) < 1) = false := decide_eq_false (by omega)
  go_enter Tryz.func10, Tryz.ntmps10
  go_wp2_with (go_at_call 27; refine hc.out.mono ?_; rintro e w1 ⟨v, rfl, O⟩)
  go_ret2
  rcases O.ram with ⟨h, _⟩ | ⟨h, _⟩ | ⟨p, F, rfl, _⟩
  · have := congrArg List.length h
    simp at this; omega
  · have := congrArg List.length h
    simp at this; omega
  · exact ⟨p, rfl, O⟩
def frameL (B : List Int) (i : Nat) : List Int := (B.drop (64 * i)).take 64
theorem frameL_len {B : List Int} {i : Nat} (h : 64 * i + 64 ≤ B.length) : (frameL B i).length = 64 := by simp [frameL]; omega
theorem Byts.frameL {B : List Int} (h : Byts B) (i : Nat) : Byts (frameL B i) := fun b hb => h b (List.drop_subset _ _ (List.take_subset _ _ hb))
theorem byt_one (B : List Int) : ∀ v ∈ byt B, v.oneCell' = true := by
  intro v hv
  obtain ⟨b, _, rfl⟩ := List.mem_map.1 hv
  rfl
theorem cells_row {w : World} {R : Nat} {B : List Int} (h : RowB w R B) (q n : Nat) (hq : q + n ≤ B.length) : ∀ j v, (byt ((B.drop q).take n))[j]? = some v → w.cell? ((⟨R, q, none⟩ : Addr).add j) = some v := by
  intro j v hj
  rw [Addr.add_lit]
  rw [byt_at] at hj
  have hlt : j < n := by
    rcases Nat.lt_or_ge j n with h | h
    · exact h
    · rw [List.getElem?_eq_none (by simp; omega)] at hj; cases hj
  have hl : q + j < B.length := by omega
  rw [List.getElem?_take_of_lt hlt, List.getElem?_drop] at hj
  rw [h.cell hl, ← hj]
  simp [hl]
theorem mk64 : ∀ w, Sem.run Tryz.prog (Instr.makeSlice 22 (.int .i64 64) (.int .i64 64)) w = .ok (.slice (some ⟨w.heap.size, 0, none⟩) 64 64) (w.alloc (.cells (byt (List.replicate 64 0)).toArray 5)) := fun w => make_row 64 (by decide) w
set_option maxRecDepth 100000 in
theorem frame_yes (w : World) (v : Value) (R : Nat) (ix : List Nat) (B : List Int) (h : Ram w v R ix) (hB : RowB w R B) (hf : Fits B ix) (n : Nat) (hn : n < ix.length) :
    Calls Tryz.prog 23 #[v, .int .i64 n] w fun e w' => e = .returned (.slice (some ⟨w.heap.size, 0, none⟩) 64 64) ∧ Kep w w' ∧ w'.heap[w.heap.size]? = some (.cells (byt (frameL B (ix.getD n 0))).toArray 5 (0, 0)) := by
  have hc : Hid (Calls Tryz.prog 37 #[v, .int .i64 n] w fun e w' => e = .returned (.bool (decide ((0 : Int) ≤ n) && decide ((n : Int) < ix.length))) ∧ w' = w) := hasFrame_any w v R ix h n
  rw [show (decide ((0 : Int) ≤ n) && decide ((n : Int) < ix.length)) = true by simp; omega] at hc
  rcases h with ⟨rfl, rfl⟩ | ⟨rfl, p, rfl, hp, n0⟩ | ⟨p, F, rfl, hp, hF, n1, n2, n0⟩
  · simp at hn
  · simp at hn
  · have c := cell_of_block (i := 0) hp
    simp at c
    have lp := block_lt hp
    have lF := block_lt hF
    have k1 : ∀ o, (w.alloc o).cell? ⟨p, 0, none⟩ = some (.slice (some ⟨F, 0, none⟩) ix.length ix.length) := fun o => (cell_old lp).trans c
    have c1 : w.cell? ⟨F, n, none⟩ = some (.slice (some ⟨R, 64 * ix.getD n 0, none⟩) 64 64) := by
      rw [cell_of_block hF]
      simp only [List.getElem?_toArray]
      exact frs_at hn
    have k2 : ∀ o, (w.alloc o).cell? ⟨F, n, none⟩ = some (.slice (some ⟨R, 64 * ix.getD n 0, none⟩) 64 64) := fun o => (cell_old lF).trans c1
    have hi := hf (ix.getD n 0) (by simp [List.getD, hn])
    have hn' : (n : Int) < ix.length := by omega
    generalize ix.getD n 0 = i at hi k2 c1
    have hm := mk64
    have hsrc : Hid (∀ o, ∀ j v, (byt (frameL B i))[j]? = some v → (w.alloc o).cell? ((⟨R, 64 * i, none⟩ : Addr).add j) = some v) := fun o => cells_row (hB.kep ((Kep.refl _).alloc o)) (64 * i) 64 hi
    have hlen := frameL_len hi
    have hZ : Hid ((byt (List.replicate 64 0)).toArray.size = 64) := by simp [Hid, byt]
    generalize ix.length = m at c hc hn' k1
    generalize byt (List.replicate 64 0) = Z at hm hZ
    clear hp hF n1 n2 n0 hB hf c c1 lp lF hn
    go_enter Tryz.func23, Tryz.ntmps23
    go_wp2_with (first | (go_at_call 37; refine hc.out.mono ?_; rintro e w1 ⟨rfl, rfl⟩) | (refine wpList_copy_own rfl (.tmp 11) (.tmp 18) 22 22 rfl 5 Tryz.underlying22 (by kernel_rfl) _ 0 64 64 ⟨R, 64 * i, none⟩ 64 64 rfl rfl Z.toArray 5 (heap_alloc_new _ _) (byt (frameL B i)) ?_ (hsrc.out _) ?_ (byt_one _) ?_))
    · rw [byt_len, hlen]; rfl
    · rw [byt_len, hlen, hZ.out]; decide
    · go_ret
      have e1 : (byt (frameL B i) ++ List.drop (byt (frameL B i)).length Z) = byt (frameL B i) := by
        rw [byt_len, hlen, List.drop_eq_nil_of_le (by have := hZ.out; simp at this; omega), List.append_nil]
      rw [e1]
      exact ⟨rfl, ((Kep.refl _).alloc _).setRow _ _ (Nat.le_refl _), setRow_heap _ _ _ _ _ _ (heap_alloc_new _ _)⟩
end Go.Proofs.YtnignfloedcmlaaGreatDoor
