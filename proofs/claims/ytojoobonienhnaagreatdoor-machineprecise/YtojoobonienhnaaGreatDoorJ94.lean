/- Part of a proof. -/
import Derived.Test.YtojoobonienhnaaGreatDoorJ51
namespace Go.Proofs.YtojoobonienhnaaGreatDoor
open Go.RowKit
set_option linter.unusedVariables false
set_option linter.unusedSimpArgs false
theorem view_len {B : List Int} : ∀ {ix : List Nat}, Fits B ix → (view B ix).length = 64 * ix.length
  | [], _ => rfl
  | i :: ix, h => by
    have h1 := frameL_len (h i (by simp))
    have h2 := view_len (B := B) (ix := ix) (fun j hj => h j (by simp [hj]))
    simp only [view, List.flatMap_cons, List.length_append, List.length_cons] at h2 ⊢
    omega
theorem Byts.view {B : List Int} (h : Byts B) (ix : List Nat) : Byts (view B ix) := by
  intro b hb
  obtain ⟨i, _, hb⟩ := List.mem_flatMap.1 hb
  exact h.frameL i b hb
theorem view_range (n : Nat) (B : List Int) (h : 64 * n ≤ B.length) : view B (List.range n) = B.take (64 * n) := by
  induction n with
  | zero => simp [view]
  | succ n ih =>
    have := ih (by omega)
    simp only [view] at this ⊢
    rw [List.range_succ, List.flatMap_append, this, show 64 * (n + 1) = 64 * n + 64 by omega, List.take_add]
    simp [frameL]
theorem part_zero (B : List Int) (ix : List Nat) : part B ix 0 = List.replicate (64 * ix.length) 0 := by simp [part, view]
theorem part_all (B : List Int) (ix : List Nat) : part B ix ix.length = view B ix := by simp [part]
theorem fits_take {B : List Int} {ix : List Nat} (h : Fits B ix) (k : Nat) : Fits B (ix.take k) := fun i hi => h i (List.take_subset _ _ hi)
theorem part_len {B : List Int} {ix : List Nat} (h : Fits B ix) {k : Nat} (hk : k ≤ ix.length) : (part B ix k).length = 64 * ix.length := by
  have := view_len (fits_take h k)
  simp [part, this]; omega
theorem part_step {B : List Int} {ix : List Nat} (h : Fits B ix) {k : Nat} (hk : k < ix.length) : splice (part B ix k) (64 * k) (frameL B (ix.getD k 0)) = part B ix (k + 1) := by
  have h1 := view_len (fits_take h k)
  have h2 : (List.take k ix).length = k := by simp; omega
  rw [h2] at h1
  have h3 := frameL_len (h (ix.getD k 0) (by simp [List.getD, hk]))
  have e : ix.take (k + 1) = ix.take k ++ [ix.getD k 0] := by rw [List.take_add_one]; simp [List.getD, hk]
  unfold part
  rw [e]
  simp only [view, List.flatMap_append, List.flatMap_cons, List.flatMap_nil, List.append_nil] at h1 ⊢
  generalize List.flatMap (frameL B) (List.take k ix) = V at h1
  generalize frameL B (ix.getD k 0) = X at h3
  unfold splice
  rw [List.take_append_of_le_length (by omega), List.take_of_length_le (by omega), h3]
  rw [List.drop_append, List.drop_eq_nil_of_le (by omega), h1]
  simp only [List.nil_append, List.drop_replicate, List.append_assoc]
  rw [show 64 * (ix.length - k) - (64 * k + 64 - 64 * k) = 64 * (ix.length - (k + 1)) by omega]
structure Cop (w1 wr : World) (g : Nat) (B : List Int) (ix : List Nat) (k : Nat) : Prop where
  put : Put [g] w1 wr
  row : wr.heap[g]? = some (.cells (byt (part B ix k)).toArray 5 (0, 0))
set_option maxRecDepth 100000 in
theorem copy_any (w : World) (v : Value) (R : Nat) (ix : List Nat) (B : List Int) (h : Ram w v R ix) (h0 : ix ≠ []) (hix : (ix.length : Int) ≤ 512) (hB : RowB w R B) (hf : Fits B ix) (hb : Byts B) :
    Calls Tryz.prog 26 #[v] w fun e w' => ∃ p : Nat, e = .returned (.pointer (some ⟨p, 0, none⟩)) ∧ Own w w' (.pointer (some ⟨p, 0, none⟩)) w.heap.size ix.length (view B ix) := by
  have hm1 : 1 ≤ ix.length := by rcases ix with _ | ⟨i, ix⟩; exact absurd rfl h0; simp
  have hc : Hid (Calls Tryz.prog 54 #[v] w fun e w' => e = .returned (.int .i64 ix.length) ∧ w' = w) := count_any w v R ix h
  have hcut : Hid (Calls Tryz.prog 55 #[.int .i64 ix.length] w _) := cut_any w ix.length (by omega) (by omega)
  rcases h with ⟨rfl, rfl⟩ | ⟨rfl, p, rfl, hp, n0⟩ | ⟨p, F, rfl, hp, hF, n1, n2, n0⟩
  · exact absurd rfl h0
  · exact absurd rfl h0
  have lp := block_lt hp
  have lF := block_lt hF
  have hz : ((ix.length : Int) == 0) = false := by simp; omega
  have hlen : (1 : Int) ≤ ix.length := by omega
  have hp' : Hid (w.heap[p]? = some (.cells #[.slice (some ⟨F, 0, none⟩) ix.length ix.length] 107 (0, 0))) := hp
  have hF' : Hid (w.heap[F]? = some (.cells (frs R ix).toArray 22 (0, 0))) := hF
  have hB' : Hid (RowB w R B) := hB
  have hf' : Hid (Fits B ix) := hf
  have hb' : Hid (Byts B) := hb
  obtain ⟨m, hm⟩ : ∃ m, m = ix.length := ⟨_, rfl⟩
  rw [← hm] at hc hcut hz hlen hix hp' hm1
  have hm' : Hid (m = ix.length) := hm
  clear hp hF hB hf hb hm n0
  go_enter Tryz.func26, Tryz.ntmps26
  go_wp2_with (first | (go_at_call 54; refine hc.out.mono ?_; rintro e w1 ⟨rfl, rfl⟩) | fail)
  refine hcut.out.mono ?_
  rintro e w2 ⟨rfl, k2, r2, f2, b2⟩
  have g1 : w2.cell? ⟨p, 0, none⟩ = some (.slice (some ⟨F, 0, none⟩) m m) := by rw [cell_of_block (k2.block hp'.out)]; rfl
  have K2 : Hid (Kep w1 w2) := k2
  have R2 : Hid (w2.heap[w1.heap.size]? = some (.cells (byt (List.replicate (64 * m) 0)).toArray 5 (0, 0))) := r2
  have F2 : Hid (w2.heap[w1.heap.size + 1]? = some (.cells (frs w1.heap.size (List.range m)).toArray 22 (0, 0))) := f2
  have B2 : Hid (w2.heap[w1.heap.size + 2]? = some (.cells #[.slice (some ⟨w1.heap.size + 1, 0, none⟩) m m] 107 (0, 0))) := b2
  clear k2 r2 f2 b2
  go_wp2_with fail
  go_loopw [17] (fun i wr => ∃ k : Nat, (k : Int) ≤ m ∧ i = .int .i64 k ∧ Hid (Cop w2 wr w1.heap.size B ix k)) (fun i _ => m - (intOf i).toNat)
  case atStart => exact ⟨0, by omega, rfl, Put.refl _, by rw [part_zero, ← hm'.out]; exact R2.out⟩
  case round =>
    obtain ⟨k, hk, rfl, C⟩ := hrel
    clear g1
    by_cases hlt : k < m
    · have hlt' : (k : Int) < m := by omega
      have hki : k < ix.length := by have := hm'.out; omega
      have d1 : wr.cell? ⟨F, k, none⟩ = some (.slice (some ⟨R, 64 * ix.getD k 0, none⟩) 64 64) := by
        rw [cell_of_block (C.out.put.keeps (K2.out.block hF'.out) (by simp; omega))]
        simpa using frs_at hki
      have d2 : wr.cell? ⟨w1.heap.size + 2, 0, none⟩ = some (.slice (some ⟨w1.heap.size + 1, 0, none⟩) m m) := by
        rw [cell_of_block (C.out.put.keeps B2.out (by simp))]; rfl
      have d3 : wr.cell? ⟨w1.heap.size + 1, k, none⟩ = some (.slice (some ⟨w1.heap.size, 64 * k, none⟩) 64 64) := by
        rw [cell_of_block (C.out.put.keeps F2.out (by simp))]
        have := frs_at (R := w1.heap.size) (ix := List.range m) (k := k) (by simpa using hlt)
        simpa [List.getD, hlt] using this
      have hi := hf'.out (ix.getD k 0) (by simp [List.getD, hki])
      have hRlt : R < w1.heap.size := hB'.out.lt (by intro e; subst e; simp at hi)
      have hBr : RowB wr R B := (hB'.out.kep K2.out).put C.out.put (by simp; omega)
      have hsrc : Hid (∀ j v, (byt (frameL B (ix.getD k 0)))[j]? = some v → wr.cell? ((⟨R, 64 * ix.getD k 0, none⟩ : Addr).add j) = some v) := cells_row hBr (64 * ix.getD k 0) 64 hi
      have hcl : Hid ((byt (frameL B (ix.getD k 0))).length = 64) := by rw [Hid, byt_len]; exact frameL_len hi
      have hstep : Hid (splice (byt (part B ix k)) (64 * k) (byt (frameL B (ix.getD k 0))) = byt (part B ix (k + 1))) := by rw [Hid, byt_splice, part_step hf'.out hki]
      have hfit : Hid (64 * k + 64 ≤ (byt (part B ix k)).length) := by rw [Hid, byt_len, part_len hf'.out (by omega)]; omega
      have h1c : Hid (∀ v ∈ byt (frameL B (ix.getD k 0)), v.oneCell' = true) := byt_one _
      generalize byt (frameL B (ix.getD k 0)) = cs at hsrc hcl hstep h1c
      generalize ix.getD k 0 = i at d1 hsrc hi
      clear hBr
      go_wp2_with (refine copy_into rfl (.tmp 28) (.tmp 29) 22 22 rfl 5 Tryz.underlying22 (by kernel_rfl) w1.heap.size (64 * k) 64 64 ⟨R, 64 * i, none⟩ 64 64 rfl rfl _ 5 C.out.row cs hcl.out hsrc.out (by rw [hcl.out]; exact hfit.out) h1c.out ?_; intro w3 H3 P3)
      go_roundw
      case rel => exact ⟨k + 1, by omega, by go_num, C.out.put.trans P3.out, by rw [H3.out, hstep.out]⟩
      case measure => simp [intOf]; omega
    · obtain rfl : k = m := by omega
      go_wp2
      go_ret
      have e := hm'.out
      have hr := C.out.row
      rw [e, part_all] at hr
      have F3 := F2.out
      have B3 := B2.out
      rw [e] at F3 B3
      refine ⟨_, rfl, ⟨K2.out.put C.out.put (by simp), .inr (.inr ⟨w1.heap.size + 2, w1.heap.size + 1, rfl, ?_, C.out.put.keeps F3 (by simp), by omega, by omega, ?_⟩), fun _ => ?_, ?_, hb'.out.view ix, Nat.le_refl _, by omega, by omega, block_lt (C.out.put.keeps B3 (by simp))⟩⟩
      · have := C.out.put.keeps B3 (by simp)
        simpa using this
      · intro e
        have := congrArg List.length e
        simp at this; exact h0 this
      · exact hr
      · exact view_len hf'.out
theorem nm2 {a R Rb : Nat} (h1 : a ≠ R) (h2 : a ≠ Rb) : a ∉ [R, Rb] := by simp [h1, h2]
theorem off_of {w : World} {v : Value} {R Rb : Nat} {ix : List Nat} {C : List Int} (hr : Ram w v R ix) (hb : RowB w Rb C) (hC : C ≠ []) : Off w v [R, Rb] := by
  intro p e
  subst e
  rcases hr with ⟨_, h⟩ | ⟨_, q, e, hp, n⟩ | ⟨q, F, e, hp, hF, n1, n2, hn⟩
  · simp at h
  · simp at e; subst e
    refine ⟨nm2 n fun e => ?_, fun F a b hc => ?_⟩
    · subst e; exact not_row hb hC hp none 0 0 rfl
    · rw [cell_of_block hp] at hc; simp at hc
  · simp at e; subst e
    refine ⟨nm2 n1 fun e => ?_, fun F' a b hc => ?_⟩
    · subst e; exact not_row hb hC hp _ _ _ rfl
    · rw [cell_of_block hp] at hc
      have e2 : F = F' := by have := hc; simp at this; exact this.1
      subst e2
      refine nm2 n2 fun e => ?_
      subst e
      refine not_row hb hC hF (some ⟨R, 64 * ix.getD 0 0, none⟩) 64 64 ?_
      rcases ix with _ | ⟨i, ix⟩
      · exact absurd rfl hn
      · simp [frs]
theorem off_tag {w : World} {v : Value} {R b : Nat} {ix : List Nat} (hr : Ram w v R ix) {cs : Array Value} {t : TypeId} {fr : Nat × Nat} (hb : w.heap[b]? = some (.cells cs t fr)) (h1 : t ≠ 107) (h2 : t ≠ 22) : Off w v [b] := by
  intro p e
  subst e
  rcases hr with ⟨_, h⟩ | ⟨_, q, e, hp, n⟩ | ⟨q, F, e, hp, hF, n1, n2, hn⟩
  · simp at h
  · simp at e; subst e
    refine ⟨fun e => ?_, fun F a b hc => ?_⟩
    · simp at e; subst e; rw [hp] at hb; simp at hb; exact h1 hb.2.1.symm
    · rw [cell_of_block hp] at hc; simp at hc
  · simp at e; subst e
    refine ⟨fun e => ?_, fun F' a b hc => ?_⟩
    · simp at e; subst e; rw [hp] at hb; simp at hb; exact h1 hb.2.1.symm
    · rw [cell_of_block hp] at hc
      have e2 : F = F' := by have := hc; simp at this; exact this.1
      subst e2
      intro e
      simp at e; subst e; rw [hF] at hb; simp at hb; exact h2 hb.2.1.symm
theorem mram_any {w : World} {p pm R : Nat} {ix : List Nat} {x : MS} {G : List Nat} (H : Mach w p pm R ix x G) :
    Calls Tryz.prog 25 #[.pointer (some ⟨p, 0, none⟩)] w fun e w' => e = .returned (mpt pm) ∧ w' = w := by
  have HW := hidd H.works
  obtain ⟨q, vn, Fd, Fn, H, _⟩ := H
  have c1 : w.cell? ⟨p, 0, none⟩ = some (mpt pm) := H.box.cm
  clear H
  go_enter Tryz.func25, Tryz.ntmps25
  go_wp2_with (go_at_call 44; refine HW.out.mono ?_; rintro e w1 ⟨rfl, rfl⟩)
  go_ret
  exact ⟨rfl, rfl⟩
theorem sliOff {w : World} {e : TypeId} {z : Nat} {u : Value} {n : Nat} {xs : List Value} {F : List Nat} (h : Sli w e z u n xs F) {v : Value} {R : Nat} {ix : List Nat} (hr : Ram w v R ix) (h1 : e ≠ 107) (h2 : e ≠ 22) : Off w v F := by
  rcases h with ⟨_, ⟨_, _, rfl⟩ | ⟨g, off, cap, cur, _, rfl, hg, _⟩⟩
  · exact fun p e => ⟨by simp, by simp⟩
  · exact off_tag hr hg h1 h2
theorem devOff {w : World} {p : Nat} {s : DS} {F : List Nat} (h : Dev w p s F) {v : Value} {R : Nat} {ix : List Nat} (hr : Ram w v R ix) : Off w v F := by
  obtain ⟨vs, vq, vo, vb, Fs, Fq, Fo, Fb, D, rfl⟩ := h
  have h0 : Off w v [p] := off_tag hr D.box (by decide) (by decide)
  exact (h0.app ((sliOff D.sc hr (by decide) (by decide)).app ((sliOff D.q hr (by decide) (by decide)).app ((sliOff D.o hr (by decide) (by decide)).app (sliOff D.d hr (by decide) (by decide)))))).sub (by simp)
theorem Mach.offx {w : World} {p pm R : Nat} {ix : List Nat} {x : MS} {G : List Nat} (h : Mach w p pm R ix x G) (hB : x.B ≠ []) {v : Value} {R' : Nat} {iy : List Nat} (hr : Ram w v R' iy) : Off w v (R :: G) := by
  obtain ⟨q, vn, Fd, Fn, h, rfl⟩ := h
  have h0 : Off w v [p] := off_tag hr h.box (by decide) (by decide)
  exact ((off_of hr h.mem.row hB).sub (by simp)).cons ((h0.app ((devOff h.dev hr).app (sliOff h.nts hr (by decide) (by decide)))).sub (by simp))
theorem wpAnyH_to {P : Program} {ops : Array Oper} {Q : Exit → Act → World → Prop} {md : Region.Mode} {S S' : World → Prop} (hS : ∀ w, S' w → S w) : ∀ {fuel : Nat} {listed : Array Bool} {a : Act} {w : World}, wpAnyH P md ops Q S' fuel listed a w → wpAnyH P md ops Q S fuel listed a w
  | 0, _, _, _, h => h
  | fuel + 1, _, _, _, h => ⟨h.1, fun i hi => wpOp_mono (fun a' w' h' => ⟨hS w' h'.1, wpAnyH_to hS h'.2⟩) (h.2 i hi)⟩
end Go.Proofs.YtojoobonienhnaaGreatDoor
