/- A window onto some of a memory's frames. -/
import Derived.Test.YtiegihaagolmdaaMnone
namespace Go.Proofs.Ytiegihaagolmdaa
open Go.RowKit
set_option linter.unusedVariables false

/-- Which numbers have been taken. -/
def tkn (zs : List Int) (k : Nat) : List Value := (List.range 512).map fun (j : Nat) => Value.bool (decide (((j : Nat) : Int) ∈ zs.take k))
theorem tkn_zero (zs : List Int) : tkn zs 0 = List.replicate 512 (.bool false) := by
  refine List.eq_replicate_iff.2 ⟨by rw [tkn, List.length_map, List.length_range], fun v hv => ?_⟩
  obtain ⟨j, _, rfl⟩ := List.mem_map.1 hv
  rw [List.take_zero, decide_eq_false (by intro h; cases h)]
theorem tkn_at (zs : List Int) (k n : Nat) (h : n < 512) : (tkn zs k)[n]? = some (.bool (decide ((n : Int) ∈ zs.take k))) := by simp [tkn, h]
theorem tkn_set (zs : List Int) (k n : Nat) (hn : n < 512) (hk : k < zs.length) (e : zs.getD k 0 = n) : (tkn zs k).set n (.bool true) = tkn zs (k + 1) := by
  have e1 : zs.take (k + 1) = zs.take k ++ [(n : Int)] := by
    rw [List.take_add_one, List.getElem?_eq_getElem hk]
    have : zs.getD k 0 = zs[k] := by simp [List.getD, hk]
    rw [← this, e]; rfl
  apply List.ext_getElem?
  intro j
  rw [List.getElem?_set]
  rcases Nat.lt_or_ge j 512 with h | h
  · rw [tkn_at _ _ _ h, tkn_at _ _ _ h, e1]
    by_cases hj : n = j
    · subst hj; simp [tkn, h]
    · rw [if_neg hj]
      have : ¬ ((j : Int) = (n : Int)) := by omega
      simp [this]
  · rw [if_neg (by omega), List.getElem?_eq_none (by simpa [tkn] using h), List.getElem?_eq_none (by simpa [tkn] using h)]
/-- The frames of which the first k are there. -/
def partF (R : Nat) (jx : List Nat) (k : Nat) : List Value := frs R (jx.take k) ++ List.replicate (jx.length - k) (.slice none 0 0)
theorem partF_zero (R : Nat) (jx : List Nat) : partF R jx 0 = List.replicate jx.length (.slice none 0 0) := by simp [partF, frs]
theorem partF_all (R : Nat) (jx : List Nat) : partF R jx jx.length = frs R jx := by simp [partF]
theorem partF_at (R : Nat) (jx : List Nat) (k : Nat) (h : k < jx.length) : (partF R jx k)[k]? = some (.slice none 0 0) := by
  have hl : (frs R (jx.take k)).length = k := by simp [frs]; omega
  rw [partF, List.getElem?_append_right (by omega), hl, Nat.sub_self]
  simp [List.getElem?_replicate]; omega
theorem partF_set (R : Nat) (jx : List Nat) (k : Nat) (h : k < jx.length) : (partF R jx k).set k (.slice (some ⟨R, 64 * jx.getD k 0, none⟩) 64 64) = partF R jx (k + 1) := by
  have hl : (frs R (jx.take k)).length = k := by simp [frs]; omega
  have e1 : frs R (jx.take (k + 1)) = frs R (jx.take k) ++ [.slice (some ⟨R, 64 * jx.getD k 0, none⟩) 64 64] := by
    rw [List.take_add_one, List.getElem?_eq_getElem h]
    have : jx.getD k 0 = jx[k] := by simp [List.getD, h]
    rw [this]; unfold frs; rw [List.map_append]; rfl
  have e2 : jx.length - k = (jx.length - (k + 1)) + 1 := by omega
  rw [partF, partF, List.set_append_right _ _ (by omega), hl, Nat.sub_self, e1, e2, List.replicate_succ]
  simp
/-- The list may be: numbers of frames that are there, none of them twice. -/
def Good (zs : List Int) (m : Nat) : Prop := (∀ z ∈ zs, 0 ≤ z ∧ z < m) ∧ zs.Nodup
/-- The frames of a window. -/
def winX (ix : List Nat) (zs : List Int) : List Nat := zs.map fun z => ix.getD z.toNat 0
theorem winX_len (ix : List Nat) (zs : List Int) : (winX ix zs).length = zs.length := by simp [winX]
theorem winX_at {ix : List Nat} {zs : List Int} {k n : Nat} (hk : k < zs.length) (e : zs.getD k 0 = n) : (winX ix zs).getD k 0 = ix.getD n 0 := by
  have : zs[k] = (n : Int) := by rw [← e]; simp [List.getD, hk]
  simp [winX, List.getD, hk, this]
theorem zero_tk (w : World) : Sem.run Try.prog (zeroValue 70) w = .ok (.agg (List.replicate 512 (.bool false)).toArray) w := by kernel_rfl
/-- A window of which the first k frames are there. -/
structure Win (w wr : World) (R : Nat) (ix : List Nat) (zs : List Int) (k : Nat) : Prop where
  kep : Kep w wr
  tk : wr.heap[w.heap.size]? = some (.cells (tkn zs k).toArray 70 (0, 0))
  fr : wr.heap[w.heap.size + 1]? = some (.cells (partF R (winX ix zs) k).toArray 24 (0, 0))
theorem Win.step {w wr : World} {R : Nat} {ix : List Nat} {zs : List Int} {k n : Nat} (h : Win w wr R ix zs k) (hk : k < zs.length) (hn : n < 512) (e : zs.getD k 0 = n) :
    Win w ((wr.setCell ⟨w.heap.size, n, none⟩ (.bool true)).setCell ⟨w.heap.size + 1, k, none⟩ (.slice (some ⟨R, 64 * ix.getD n 0, none⟩) 64 64)) R ix zs (k + 1) := by
  have h1 : (wr.setCell ⟨w.heap.size, n, none⟩ (.bool true)).heap[w.heap.size + 1]? = some (.cells (partF R (winX ix zs) k).toArray 24 (0, 0)) := by
    rw [heap_setCell_other _ _ _ _ (by simp)]; exact h.fr
  refine ⟨(h.kep.setCell (by simp) _).setCell (by simp) _, ?_, ?_⟩
  · rw [heap_setCell_other _ _ _ _ (by simp), heap_setCell_row h.tk, ← tkn_set zs k n hn hk e]; simp
  · rw [heap_setCell_row h1, ← partF_set R _ k (by rw [winX_len]; exact hk), winX_at hk e]; simp

set_option maxHeartbeats 4000000 in
set_option maxRecDepth 100000 in
theorem window_any (w : World) (v : Value) (R : Nat) (ix : List Nat) (h : Ram w v R ix) (hix : (ix.length : Int) ≤ 512) (h0 : (1 : Int) ≤ ix.length) (x : Option Addr) (l c : Nat) (zs : List Int) (S : ISl .i64 w x l c zs) (hl : (1 : Int) ≤ l) (hl2 : (l : Int) ≤ 512) (hR : R < w.heap.size) :
    Calls Try.prog 19 #[v, .slice x l c] w fun e w' => ∃ (pv : Value) (er : Int), e = .returned (.tuple #[pv, .int .i64 er]) ∧ Kep w w' ∧ (Good zs ix.length → er = 0 ∧ (∃ p : Nat, pv = .pointer (some ⟨p, 0, none⟩)) ∧ Ram w' pv R (winX ix zs)) ∧ (¬ Good zs ix.length → pv = .pointer none ∧ er = 2) := by
  have hc : Hid (∀ w, Ram w v R ix → Calls Try.prog 26 #[v] w fun e w' => e = .returned (.int .i64 ix.length) ∧ w' = w) := fun w h => count_any w v R ix h
  have hF : Hid (∀ w z, Ram w v R ix → Calls Try.prog 36 #[v, .int .i64 z] w fun e w' => e = .returned (.bool (decide (0 ≤ z) && decide (z < ix.length))) ∧ w' = w) := fun w z h => hasFrame_any w v R ix h z
  have h' : Hid (Ram w v R ix) := h
  have hz : ((ix.length : Int) == 0) = false := by rw [beq_eq_false_iff_ne]; omega
  have hz2 : ((l : Int) == 0) = false := by rw [beq_eq_false_iff_ne]; omega
  have hm := make_frames l (by omega)
  have hzv := zero_tk
  obtain ⟨b, off, hb, hbl, hcell⟩ : ∃ b off : Nat, x = some ⟨b, off, none⟩ ∧ b < w.heap.size ∧ ∀ i, i < zs.length → w.cell? ⟨b, off + i, none⟩ = some (.int .i64 (zs.getD i 0)) := by
    rcases S.2.2.2.1 with e | h
    · have := S.1; rw [e] at this; simp at this; omega
    · exact h
  have hzl : Hid (zs.length = l) := S.1
  have hlc : (l : Int) ≤ c := by have := S.2.1; omega
  have hcm : (c : Int) ≤ 9223372036854775807 := S.2.2.1
  have hcell' : Hid (∀ i, i < zs.length → w.cell? ⟨b, off + i, none⟩ = some (.int .i64 (zs.getD i 0))) := hcell
  rcases h with ⟨rfl, rfl⟩ | ⟨rfl, p, rfl, hp, n0⟩ | ⟨p, F, rfl, hp, hFr, n1, n2, n0⟩
  · simp at h0
  · simp at h0
  have hp' : Hid (w.heap[p]? = some (.cells #[.slice (some ⟨F, 0, none⟩) ix.length ix.length] 48 (0, 0))) := hp
  have hFr' : Hid (w.heap[F]? = some (.cells (frs R ix).toArray 24 (0, 0))) := hFr
  have lp := block_lt hp
  have lF := block_lt hFr
  rw [← tkn_zero zs] at hzv
  have e1 : List.replicate l (Value.slice none 0 0) = partF R (winX ix zs) 0 := by rw [partF_zero, winX_len, hzl.out]
  rw [e1] at hm
  subst hb
  clear S hcell hp hFr e1 n0
  obtain ⟨m, hm0⟩ : ∃ m, m = ix.length := ⟨_, rfl⟩
  have hmi : Hid (m = ix.length) := hm0
  rw [← hm0] at hc hF hp' hz hix h0 ⊢
  clear hm0
  go_enter Try.func19, Try.ntmps19
  go_wp2_with (go_at_call 26; refine (hc.out _ h'.out).mono ?_; rintro e w1 ⟨rfl, rfl⟩)
  rename World => w0
  go_loopw [26] (fun i wr => ∃ k : Nat, (k : Int) ≤ l ∧ i = .int .i64 k ∧ Hid (Good (zs.take k) m) ∧ Hid (Win w0 wr R ix zs k)) (fun i _ => l - (intOf i).toNat)
  case atStart =>
    refine ⟨0, by omega, rfl, ⟨fun z hz => by simp at hz, by simp⟩, ((Kep.refl _).alloc _).alloc _, ?_, ?_⟩
    · exact (hsk _ _ _ (by simp)).trans (hat _ _ _ rfl)
    · exact hat _ _ _ (by simp)
  case round =>
    obtain ⟨k, hk, rfl, hG, W⟩ := hrel
    clear hm hzv
    by_cases hlt : k < l
    · have hlt' : (k : Int) < l := by omega
      have hkz : k < zs.length := by have := hzl.out; omega
      have d0 : wr.cell? ⟨b, off + k, none⟩ = some (.int .i64 (zs.getD k 0)) := (W.out.kep.cell hbl).trans (hcell'.out k hkz)
      have hzk : Hid (zs.getD k 0 = zs[k]) := by simp [Hid, List.getD, hkz]
      have hmem : Hid (zs.getD k 0 ∈ zs) := by rw [Hid, hzk.out]; exact List.getElem_mem hkz
      have hF1 := hF.out wr (zs.getD k 0) (h'.out.kep W.out.kep)
      obtain ⟨z, hzz⟩ : ∃ z, z = zs.getD k 0 := ⟨_, rfl⟩
      rw [← hzz] at d0 hF1
      have hzz' : Hid (z = zs.getD k 0) := hzz
      clear hzz
      by_cases hr : 0 ≤ z ∧ z < m
      · rw [decide_eq_true hr.1, decide_eq_true hr.2] at hF1
        have hF2 : Hid (Calls Try.prog 36 #[.pointer (some ⟨p, 0, none⟩), .int .i64 z] wr fun e w' => e = .returned (.bool true) ∧ w' = wr) := hF1
        clear hF1
        obtain ⟨n, rfl⟩ : ∃ n : Nat, z = n := ⟨z.toNat, by omega⟩
        have hn : n < 512 := by omega
        have hn' : (n : Int) < 512 := by omega
        have hnm : (n : Int) < m := hr.2
        have d1 : wr.cell? ⟨w0.heap.size, n, none⟩ = some (.bool (decide ((n : Int) ∈ zs.take k))) := by rw [cell_of_block W.out.tk]; simpa using tkn_at zs k n hn
        have hW' : Hid (Win w0 wr R ix zs k) := W
        by_cases ht : (n : Int) ∈ zs.take k
        · rw [decide_eq_true ht] at d1
          have bad : Hid (¬ Good zs m) := fun g => by
            have h1 : zs = zs.take k ++ zs.drop k := (List.take_append_drop k zs).symm
            have h2 := g.2
            rw [h1, List.nodup_append] at h2
            have h3 : (n : Int) ∈ zs.drop k := by
              rw [List.drop_eq_getElem_cons hkz, ← hzk.out, ← hzz'.out]; simp
            exact h2.2.2 _ ht _ h3 rfl
          clear W ht
          go_wp2_with (go_at_call 36; refine hF2.out.mono ?_; rintro e w2 ⟨rfl, rfl⟩)
          go_ret2
          exact ⟨_, _, rfl, hW'.out.kep, fun g => absurd g bad.out, fun _ => ⟨rfl, rfl⟩⟩
        · rw [decide_eq_false ht] at d1
          have ht' : Hid (¬ (n : Int) ∈ zs.take k) := ht
          have f1 : wr.frozen? ⟨w0.heap.size, n, none⟩ = false := by simp [World.frozen?, W.out.tk]
          have d2 : wr.cell? ⟨p, 0, none⟩ = some (.slice (some ⟨F, 0, none⟩) m m) := by rw [cell_of_block (W.out.kep.block hp'.out)]; rfl
          have d3 : wr.cell? ⟨F, n, none⟩ = some (.slice (some ⟨R, 64 * ix.getD n 0, none⟩) 64 64) := by
            rw [cell_of_block (W.out.kep.block hFr'.out)]
            simpa using frs_at (by have := hmi.out; omega)
          have d4 : wr.cell? ⟨w0.heap.size + 1, k, none⟩ = some (.slice none 0 0) := by
            rw [cell_of_block W.out.fr]; simpa using partF_at R _ k (by rw [winX_len]; exact hkz)
          have f4 : wr.frozen? ⟨w0.heap.size + 1, k, none⟩ = false := by simp [World.frozen?, W.out.fr]
          have st : Hid (Win w0 ((wr.setCell ⟨w0.heap.size, n, none⟩ (.bool true)).setCell ⟨w0.heap.size + 1, k, none⟩ (.slice (some ⟨R, 64 * ix.getD n 0, none⟩) 64 64)) R ix zs (k + 1)) := W.out.step hkz hn hzz'.out.symm
          have good : Hid (Good (zs.take (k + 1)) m) := by
            have e : zs.take (k + 1) = zs.take k ++ [(n : Int)] := by rw [List.take_add_one, List.getElem?_eq_getElem hkz, ← hzk.out, ← hzz'.out]; rfl
            rw [Hid, e]
            refine ⟨fun z hz => ?_, List.nodup_append.2 ⟨hG.out.2, by simp, ?_⟩⟩
            · rcases List.mem_append.1 hz with h | h
              · exact hG.out.1 z h
              · simp at h; subst h; exact hr
            · intro a ha b hb e2
              simp at hb
              subst hb
              subst e2
              exact ht'.out ha
          generalize 64 * ix.getD n 0 = q at d3 st
          have np : w0.heap.size ≠ p := by omega
          have nF : w0.heap.size ≠ F := by omega
          clear W ht hG
          go_wp2_with (go_at_call 36; refine hF2.out.mono ?_; rintro e w2 ⟨rfl, rfl⟩)
          go_roundw
          case rel => exact ⟨k + 1, by omega, by go_num, good, st⟩
          case measure => simp [intOf]; omega
      · rw [show (decide (0 ≤ z) && decide (z < (m : Int))) = false by simp; omega] at hF1
        have hF2 : Hid (Calls Try.prog 36 #[.pointer (some ⟨p, 0, none⟩), .int .i64 z] wr fun e w' => e = .returned (.bool false) ∧ w' = wr) := hF1
        have bad : Hid (¬ Good zs m) := fun g => hr (by rw [hzz'.out]; exact g.1 _ hmem.out)
        clear hF1 hr
        go_wp2_with (go_at_call 36; refine hF2.out.mono ?_; rintro e w2 ⟨rfl, rfl⟩)
        go_ret2
        exact ⟨_, _, rfl, W.out.kep, fun g => absurd g bad.out, fun _ => ⟨rfl, rfl⟩⟩
    · obtain rfl : k = l := by omega
      have e1 : zs.take k = zs := List.take_of_length_le (by have := hzl.out; omega)
      rw [e1] at hG
      go_wp2_with fail
      go_ret2
      have hjl : (winX ix zs).length = k := by rw [winX_len]; exact hzl.out
      refine ⟨_, _, rfl, W.out.kep.alloc _, fun _ => ⟨rfl, ⟨_, rfl⟩, .inr (.inr ⟨wr.heap.size, w0.heap.size + 1, rfl, ?_, ?_, ?_, ?_, ?_⟩)⟩, fun g => absurd hG.out g⟩
      · rw [hjl]; exact hat _ _ _ rfl
      · have := W.out.fr
        rw [← hjl, partF_all] at this
        exact (hsk _ _ _ (block_lt this)).trans this
      · have := W.out.kep.size; omega
      · omega
      · intro e; rw [e] at hjl; simp at hjl; omega

theorem window_long (w : World) (v : Value) (R : Nat) (ix : List Nat) (h : Ram w v R ix) (h0 : (1 : Int) ≤ ix.length) (x : Option Addr) (l c : Nat) (hl : l = 0 ∨ 512 < l) :
    Calls Try.prog 19 #[v, .slice x l c] w fun e w' => e = .returned (.tuple #[.pointer none, .int .i64 2]) ∧ w' = w := by
  have hc : Hid (Calls Try.prog 26 #[v] w fun e w' => e = .returned (.int .i64 ix.length) ∧ w' = w) := count_any w v R ix h
  have hz : ((ix.length : Int) == 0) = false := by rw [beq_eq_false_iff_ne]; omega
  clear h
  rcases hl with rfl | hl
  · go_enter Try.func19, Try.ntmps19
    go_wp2_with (go_at_call 26; refine hc.out.mono ?_; rintro e w1 ⟨rfl, rfl⟩)
    go_ret2
    exact ⟨rfl, rfl⟩
  · have hz2 : ((l : Int) == 0) = false := by rw [beq_eq_false_iff_ne]; omega
    have hl' : (512 : Int) < l := by omega
    clear hl
    go_enter Try.func19, Try.ntmps19
    go_wp2_with (go_at_call 26; refine hc.out.mono ?_; rintro e w1 ⟨rfl, rfl⟩)
    go_ret2
    exact ⟨rfl, rfl⟩
end Go.Proofs.Ytiegihaagolmdaa
