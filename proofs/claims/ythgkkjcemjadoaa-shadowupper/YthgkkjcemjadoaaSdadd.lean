/- A new table. -/
import Derived.Test.YthgkkjcemjadoaaSdlay
import Derived.Test.YthgkkjcemjadoaaPlcode
namespace Go.Proofs.Ythgkkjcemjadoaa
open Go.RowKit
set_option linter.unusedVariables false
set_option linter.unusedSimpArgs false

theorem shfill_any {w : World} {v : Value} {R n : Nat} {B : List Int} (h : Ram w v R (List.range n)) (hB : RowB w R B) (lB : B.length = 64 * n) (hn : n ≤ 512) (a c b : Nat) (ha : a + c ≤ 64 * n) (hc : c ≤ 64 * n) (hb : w.heap[b]? = some (.cells (byt (List.replicate c 0)).toArray 5 (0, 0))) (hbR : b ≠ R) :
    Calls Try.prog 31 #[v, .int .u32 a, .slice (some ⟨b, 0, none⟩) c c] w fun e w' => e = .returned (.bool true) ∧ Put [R] w w' ∧ RowB w' R (zer B n a c) := by
  have S : Src w (some ⟨b, 0, none⟩) (List.replicate c 0) [R] := .inr ⟨b, 0, rfl, block_lt hb, by simpa using hbR, fun i hi => by
    rw [List.length_replicate] at hi
    rw [Nat.zero_add, cell_of_block hb, List.getElem?_toArray, byt_at]
    simp [hi, List.getD]⟩
  have := fill_put w v R (List.range n) B h (by simp; omega) hB (fits_range lB) a (by omega) (some ⟨b, 0, none⟩) (List.replicate c 0) c c (by simp) (Nat.le_refl _) (by omega) S
  rw [List.length_range, decide_eq_true ha, if_pos ha] at this
  exact this
theorem low6 (a b : Nat) (hb : b < 64) : (64 * a) ||| b = 64 * a + b := by
  have := Nat.two_pow_add_eq_or_of_lt (i := 6) (b := b) (by simpa using hb) a
  simpa using this.symm
theorem or7 (fr : Nat) (h : fr < 512) : bits .or .u32 (64 * (fr : Int)) 7 = 64 * (fr : Int) + 7 := by
  have := u32_or_nat (64 * fr) 7 (by omega) (by decide)
  rw [low6 fr 7 (by decide)] at this
  simpa using this
/-- Behind a table's filling with zeros. -/
structure Aft7 (w w' : World) (p pv R n d f q M : Nat) (s : SD) (B : List Int) (L : List Bool) (g m : Int) (F : List Nat) : Prop where
  sh : ShAt w' p (.pointer (some ⟨pv, 0, none⟩)) q d s F
  ram : Ram w' (.pointer (some ⟨pv, 0, none⟩)) R (List.range n)
  row : RowB w' R (zer B n (64 * (f + leastL L)) 64)
  pool : PoolAt w' q M f (takeL L) (g + 1) m
  put : Put [p, R, q, M] w w'
  tg : Tagd w' R [p]
  np : p ∉ [R, q, M]
theorem Aft7.fin {w w' : World} {p pv R n d f q M : Nat} {Z : List Int} {s : SD} {B : List Int} {L : List Bool} {g m : Int} {F : List Nat} (h : Aft7 w w' p pv R n d f q M s B L g m F) {k : Nat} (hk : k < 32) (h0 : s.D.getD k 0 = 0) (hl : leastL L < L.length) (hU : k < 16 ∨ s.U = []) (hi : TInv n d f Z s B L) :
    ShW (w'.setCell ⟨p, 3 + k, none⟩ (.int .u32 (64 * (f + leastL L) + 7 : Nat))) p pv R n d f q M Z (addS s k f L) (zer B n (64 * (f + leastL L)) 64) (takeL L) (g + 1) m F ∧ Put [p, R, q, M] w (w'.setCell ⟨p, 3 + k, none⟩ (.int .u32 (64 * (f + leastL L) + 7 : Nat))) := by
  have P1 : Put [p] w' (w'.setCell ⟨p, 3 + k, none⟩ (.int .u32 (64 * (f + leastL L) + 7 : Nat))) := (Put.refl _).setCell (by simp) _
  have np := h.np
  simp at np
  exact ⟨⟨h.sh.setD hk _, ram_tags h.ram P1 h.tg, h.row.put P1 (by simp; exact fun e => np.1 e.symm), h.pool.put P1 (by simp; exact fun e => np.2.1 e.symm) (by simp; exact fun e => np.2.2 e.symm), hi.add hk h0 hl hU⟩, h.put.setCell (by simp) _⟩

set_option maxHeartbeats 1000000 in
theorem shadd_no (w : World) (p pv R n d f q M : Nat) (Z : List Int) (s : SD) (B : List Int) (L : List Bool) (g m : Int) (F : List Nat) (h : ShW w p pv R n d f q M Z s B L g m F) (hg : 0 ≤ g ∧ g < 1000000) (hm : 0 ≤ m ∧ m < 1000000) (k : Nat) (hl : ¬ leastL L < L.length) :
    Calls Try.prog 45 #[.pointer (some ⟨p, 0, none⟩), .int .i64 k] w fun e w' => e = .returned (.bool false) ∧ ShW w' p pv R n d f q M Z s B L g (m + 1) F ∧ Put [p, R, q, M] w w' := by
  have HT : Hid (Calls Try.prog 61 #[.pointer (some ⟨q, 0, none⟩)] w fun e w' => e = .returned (.tuple #[.int .i64 0, .bool false]) ∧ PoolAt w' q M f L g (m + 1) ∧ Put [q, M] w w') := by
    have := ptake_any w q M f L g m h.pool hg hm
    rw [leastR_no (Nat.le_antisymm (leastL_le L) (Nat.le_of_not_lt hl))] at this
    refine this.mono ?_
    rintro e w' ⟨e1, e2, e3⟩
    rw [if_neg hl] at e2
    exact ⟨e1, e2, e3⟩
  have c1 := h.sh.c1
  have h' : Hid (ShW w p pv R n d f q M Z s B L g m F) := h
  clear h hl
  go_enter Try.func45, Try.ntmps45
  go_wp2_with (go_at_call 61; refine HT.out.mono ?_; rintro e w1 ⟨rfl, P1, Q1⟩)
  go_ret
  exact ⟨rfl, h'.out.pooled Q1 P1 h'.out.inv, Q1.mono (by simp)⟩
set_option maxHeartbeats 2000000 in
theorem shadd_yes (w : World) (p pv R n d f q M : Nat) (Z : List Int) (s : SD) (B : List Int) (L : List Bool) (g m : Int) (F : List Nat) (h : ShW w p pv R n d f q M Z s B L g m F) (hg : 0 ≤ g ∧ g < 1000000) (hm : 0 ≤ m ∧ m < 1000000) (k : Nat) (hk : k < 32) (h0 : s.D.getD k 0 = 0) (hl : leastL L < L.length) (hU : k < 16 ∨ s.U = []) :
    Calls Try.prog 45 #[.pointer (some ⟨p, 0, none⟩), .int .i64 k] w fun e w' => e = .returned (.bool true) ∧ ShW w' p pv R n d f q M Z (addS s k f L) (zer B n (64 * (f + leastL L)) 64) (takeL L) (g + 1) m F ∧ Put [p, R, q, M] w w' := by
  have hpl := h.inv.pl
  have hnn := h.inv.nn
  have hlB := h.inv.lB
  have ne := h.ne
  have h0 : Hid (s.D.getD k 0 = 0) := h0
  have hU : Hid (k < 16 ∨ s.U = []) := hU
  obtain ⟨fr, hfr⟩ : ∃ fr, Hid (fr = f + leastL L) := ⟨_, rfl⟩
  have hfn : fr < n := by have := hfr.out; omega
  have HT : Hid (Calls Try.prog 61 #[.pointer (some ⟨q, 0, none⟩)] w fun e w' => e = .returned (.tuple #[.int .i64 fr, .bool true]) ∧ PoolAt w' q M f (takeL L) (g + 1) m ∧ Put [q, M] w w') := by
    have := ptake_any w q M f L g m h.pool hg hm
    rw [leastR_yes rfl hl] at this
    refine this.mono ?_
    rintro e w' ⟨e1, e2, e3⟩
    rw [if_pos hl] at e2
    refine ⟨?_, e2, e3⟩
    rw [e1, hfr.out]
    simp
  have hl : Hid (leastL L < L.length) := hl
  have c1 := h.sh.c1
  have h' : Hid (ShW w p pv R n d f q M Z s B L g m F) := h
  clear h
  go_enter Try.func45, Try.ntmps45
  go_wp2_with fail
  refine HT.out.mono ?_
  rintro e w1 ⟨rfl, P1, Q1⟩
  have S1 : Hid (ShAt w1 p (.pointer (some ⟨pv, 0, none⟩)) q d s F) := h'.out.sh.put Q1 (by simp; exact ⟨ne.2.1, ne.2.2.1⟩) (fun x hx => by simp; exact ⟨(ne.2.2.2.2.2.2 x hx).2.2.1, (ne.2.2.2.2.2.2 x hx).2.2.2⟩)
  have R1 : Hid (Ram w1 (.pointer (some ⟨pv, 0, none⟩)) R (List.range n)) := ram_tags h'.out.ram Q1 fun x hx => h'.out.tags x (by simp at hx; rcases hx with rfl | rfl <;> simp [shB])
  have B1 : Hid (RowB w1 R B) := h'.out.row.put Q1 (by simp; exact ⟨ne.2.2.2.1, ne.2.2.2.2.1⟩)
  have P1' : Hid (PoolAt w1 q M f (takeL L) (g + 1) m) := P1
  have Q1' : Hid (Put [q, M] w w1) := Q1
  have HI : Hid (TInv n d f Z s B L) := h'.out.inv
  have Bn : Hid (B ≠ []) := h'.out.bnil
  clear P1 Q1 c1 HT
  have c0 := S1.out.c0
  have HF : Hid (Calls Try.prog 44 #[.pointer (some ⟨pv, 0, none⟩), .int .i64 fr] w1 fun e w' => e = .returned (.bool true) ∧ w' = w1) := by
    have := shframe_any w1 _ R (List.range n) R1.out (by simp; omega) fr
    rw [List.length_range] at this
    unfold Hid; simpa [hfn] using this
  go_wp2_with (go_at_call 44; refine HF.out.mono ?_; rintro e wa ⟨rfl, hqa⟩; rw [hqa]; clear hqa wa)
  have lp : p < w1.heap.size := by obtain ⟨_, hb⟩ := S1.out.blk; exact block_lt hb
  have H2 : Hid (∀ w, Calls Try.prog 47 #[.int .i64 fr] w fun e w' => e = .returned (.int .u32 (64 * fr : Nat)) ∧ w' = w) := fun w => shaddr_any fr (by omega) w
  have mk := mk64
  have K1 : Kep w1 (w1.drew.alloc (.cells (byt (List.replicate 64 0)).toArray 5)) := (Kep.refl w1).drew.alloc _
  have RB : R < w1.heap.size := block_lt (B1.out Bn.out)
  have H3 : Hid (Calls Try.prog 31 #[.pointer (some ⟨pv, 0, none⟩), .int .u32 (64 * fr : Nat), .slice (some ⟨w1.heap.size, 0, none⟩) 64 64] (w1.drew.alloc (.cells (byt (List.replicate 64 0)).toArray 5)) fun e w' => e = .returned (.bool true) ∧ Put [R] (w1.drew.alloc (.cells (byt (List.replicate 64 0)).toArray 5)) w' ∧ RowB w' R (zer B n (64 * fr) 64)) :=
    shfill_any (R1.out.kep K1) (B1.out.kep K1) hlB hnn (64 * fr) 64 w1.heap.size (by omega) (by omega) (hat _ _ _ (by simp)) (by omega)
  have HA : Hid (∀ w3, Put [R] (w1.drew.alloc (.cells (byt (List.replicate 64 0)).toArray 5)) w3 → RowB w3 R (zer B n (64 * fr) 64) → Aft7 w w3 p pv R n d f q M s B L g m F) := fun w3 P3 B3 => by
    have P13 : Put [R] w1 w3 := (Put.of_kep K1).trans P3
    have S3 : ShAt w3 p (.pointer (some ⟨pv, 0, none⟩)) q d s F := S1.out.put P13 (by simp; exact ne.1) (fun x hx => by simp; exact (ne.2.2.2.2.2.2 x hx).2.1)
    refine ⟨S3, R1.out.put P13, by rw [← hfr.out]; exact B3, P1'.out.put P13 (by simp; exact fun e => ne.2.2.2.1 e.symm) (by simp; exact fun e => ne.2.2.2.2.1 e.symm), (Q1'.out.mono (by simp)).trans (P13.mono (by simp)), fun x hx => ?_, by simp; exact ⟨ne.1, ne.2.1, ne.2.2.1⟩⟩
    obtain rfl : x = p := by simpa using hx
    obtain ⟨cs0, hb⟩ := S3.blk
    exact .inr fun cs t fr hc => by rw [hb] at hc; simp at hc; obtain ⟨_, rfl, _⟩ := hc; exact ⟨by decide, by decide⟩
  clear K1 RB HF R1 B1 P1' Q1' h'
  have h7 : bits .or .u32 (64 * (fr : Int)) 7 = 64 * (fr : Int) + 7 := or7 fr (by omega)
  refine wp_region_held_drew (S := fun w' => w'.cell? ⟨p, 0, none⟩ = some (.pointer (some ⟨pv, 0, none⟩))) (by kernel_rfl) (c0) (fun hH => ?_)
  refine wpAnyH_take (i := 0) (v := .pointer (some ⟨p, 0, none⟩)) rfl (by kernel_rfl) (by kernel_rfl) (by kernel_rfl) (fun _ _ _ h => h) (.inl ⟨by rfl, by intro w hS; go_simp⟩) hH ?_
  (try dsimp only [Act.put]); (try simp only [List.getElem_toArray, List.getElem_cons_zero, List.getElem_cons_succ, Act.put, List.setIfInBounds_toArray, List.set_cons_zero, List.set_cons_succ])
  refine wpAnyH_take (i := 1) (v := .pointer (some ⟨p, 0, none⟩)) rfl (by kernel_rfl) (by kernel_rfl) (by kernel_rfl) (fun _ _ _ h => h) (.inl ⟨by rfl, by intro w hS; go_simp⟩) hH ?_
  (try dsimp only [Act.put]); (try simp only [List.getElem_toArray, List.getElem_cons_zero, List.getElem_cons_succ, Act.put, List.setIfInBounds_toArray, List.set_cons_zero, List.set_cons_succ])
  refine wpAnyH_take (i := 2) (v := .pointer (some ⟨p, 0, none⟩)) rfl (by kernel_rfl) (by kernel_rfl) (by kernel_rfl) (fun _ _ _ h => h) (.inl ⟨by rfl, by intro w hS; go_simp⟩) hH ?_
  (try dsimp only [Act.put]); (try simp only [List.getElem_toArray, List.getElem_cons_zero, List.getElem_cons_succ, Act.put, List.setIfInBounds_toArray, List.set_cons_zero, List.set_cons_succ])
  refine wpAnyH_take (i := 3) (v := .pointer (some ⟨pv, 0, none⟩)) rfl (by kernel_rfl) (by kernel_rfl) (by kernel_rfl) (fun _ _ _ h => h) (.inl ⟨by rfl, by intro w hS; have c := hS; clear hS; go_simp⟩) hH ?_
  (try dsimp only [Act.put]); (try simp only [List.getElem_toArray, List.getElem_cons_zero, List.getElem_cons_succ, Act.put, List.setIfInBounds_toArray, List.set_cons_zero, List.set_cons_succ])
  refine wpAnyH_take (i := 4) (v := .int .i64 fr) rfl (by kernel_rfl) (by kernel_rfl) (by kernel_rfl) (fun _ _ _ h => h) (.inl ⟨by rfl, by intro w hS; go_simp⟩) hH ?_
  (try dsimp only [Act.put]); (try simp only [List.getElem_toArray, List.getElem_cons_zero, List.getElem_cons_succ, Act.put, List.setIfInBounds_toArray, List.set_cons_zero, List.set_cons_succ])
  refine wpAnyH_ready (rs := [5, 6]) (by kernel_rfl) (by simp) ?_
  refine AllReadyH.cons rfl (fun K hK => ?_) ?_
  · skip
    rw [if_pos (by rfl)]
    go_simp
    refine (H2.out _).mono ?_
    rintro x w2 ⟨rfl, rfl⟩
    refine hK.out _ _ hH (fun hH => ?_)
    clear hK K
    (try dsimp only [Act.put]); (try simp only [List.getElem_toArray, List.getElem_cons_zero, List.getElem_cons_succ, Act.put, List.setIfInBounds_toArray, List.set_cons_zero, List.set_cons_succ])
    refine wpAnyH_ready (rs := [6]) (by kernel_rfl) (by simp) ?_
    refine AllReadyH.cons rfl (fun K hK => ?_) AllReadyH.nil
    rw [if_pos (by rfl)]
    go_simp
    refine hK.out _ _ ((((Kep.refl w1).drew.alloc _).cell lp).trans c0) (fun hH => ?_)
    clear hK K
    (try dsimp only [Act.put]); (try simp only [List.getElem_toArray, List.getElem_cons_zero, List.getElem_cons_succ, Act.put, List.setIfInBounds_toArray, List.set_cons_zero, List.set_cons_succ])
    refine wpAnyH_ready (rs := [7]) (by kernel_rfl) (by simp) ?_
    refine AllReadyH.cons rfl (fun K hK => ?_) AllReadyH.nil
    rw [if_pos (by rfl)]
    go_simp
    refine H3.out.mono ?_
    rintro x w3 ⟨rfl, P3, B3⟩
    have A3 : Hid (Aft7 w w3 p pv R n d f q M s B L g m F) := HA.out w3 P3 B3
    clear P3 B3
    refine hK.out _ _ (A3.out.sh.c0) (fun hH => ?_)
    clear hK K
    (try dsimp only [Act.put]); (try simp only [List.getElem_toArray, List.getElem_cons_zero, List.getElem_cons_succ, Act.put, List.setIfInBounds_toArray, List.set_cons_zero, List.set_cons_succ])
    refine wpAnyH_done (by kernel_rfl) ?_ _
    go_wp2_with fail
    clear H3 HA
    have c0 := A3.out.sh.c0
    have c3 := A3.out.sh.cD hk
    have f3 := A3.out.sh.fz (3 + k)
    refine wp_region_held_drew (S := fun w' => True) (by kernel_rfl) (trivial) (fun hH => ?_)
    refine wpAnyH_take (i := 0) (v := .pointer (some ⟨p, 0, none⟩)) rfl (by kernel_rfl) (by kernel_rfl) (by kernel_rfl) (fun _ _ _ h => h) (.inl ⟨by rfl, by intro w hS; go_simp⟩) hH ?_
    (try dsimp only [Act.put]); (try simp only [List.getElem_toArray, List.getElem_cons_zero, List.getElem_cons_succ, Act.put, List.setIfInBounds_toArray, List.set_cons_zero, List.set_cons_succ])
    refine wpAnyH_take (i := 1) (v := .int .i64 k) rfl (by kernel_rfl) (by kernel_rfl) (by kernel_rfl) (fun _ _ _ h => h) (.inl ⟨by rfl, by intro w hS; go_simp⟩) hH ?_
    (try dsimp only [Act.put]); (try simp only [List.getElem_toArray, List.getElem_cons_zero, List.getElem_cons_succ, Act.put, List.setIfInBounds_toArray, List.set_cons_zero, List.set_cons_succ])
    refine wpAnyH_take (i := 2) (v := .int .i64 fr) rfl (by kernel_rfl) (by kernel_rfl) (by kernel_rfl) (fun _ _ _ h => h) (.inl ⟨by rfl, by intro w hS; go_simp⟩) hH ?_
    (try dsimp only [Act.put]); (try simp only [List.getElem_toArray, List.getElem_cons_zero, List.getElem_cons_succ, Act.put, List.setIfInBounds_toArray, List.set_cons_zero, List.set_cons_succ])
    refine wpAnyH_take (i := 5) (v := .pointer (some ⟨p, 0, none⟩)) rfl (by kernel_rfl) (by kernel_rfl) (by kernel_rfl) (fun _ _ _ h => h) (.inl ⟨by rfl, by intro w hS; go_simp⟩) hH ?_
    (try dsimp only [Act.put]); (try simp only [List.getElem_toArray, List.getElem_cons_zero, List.getElem_cons_succ, Act.put, List.setIfInBounds_toArray, List.set_cons_zero, List.set_cons_succ])
    refine wpAnyH_take (i := 6) (v := .pointer (some ⟨p, 3, none⟩)) rfl (by kernel_rfl) (by kernel_rfl) (by kernel_rfl) (fun _ _ _ h => h) (.inl ⟨by rfl, by intro w hS; go_simp⟩) hH ?_
    (try dsimp only [Act.put]); (try simp only [List.getElem_toArray, List.getElem_cons_zero, List.getElem_cons_succ, Act.put, List.setIfInBounds_toArray, List.set_cons_zero, List.set_cons_succ])
    refine wpAnyH_ready (rs := [3]) (by kernel_rfl) (by simp) ?_
    refine AllReadyH.cons rfl (fun K hK => ?_) AllReadyH.nil
    rw [if_pos (by rfl)]
    go_simp
    refine (H2.out _).mono ?_
    rintro x w4 ⟨rfl, rfl⟩
    refine hK.out _ _ trivial (fun hH => ?_)
    clear hK K
    (try dsimp only [Act.put]); (try simp only [List.getElem_toArray, List.getElem_cons_zero, List.getElem_cons_succ, Act.put, List.setIfInBounds_toArray, List.set_cons_zero, List.set_cons_succ])
    refine wpAnyH_take (i := 4) (v := .int .u32 (64 * fr + 7 : Nat)) rfl (by kernel_rfl) (by kernel_rfl) (by kernel_rfl) (fun _ _ _ h => h) (.inl ⟨by rfl, by intro w hS; go_simp⟩) hH ?_
    (try dsimp only [Act.put]); (try simp only [List.getElem_toArray, List.getElem_cons_zero, List.getElem_cons_succ, Act.put, List.setIfInBounds_toArray, List.set_cons_zero, List.set_cons_succ])
    refine wpAnyH_take (i := 7) (v := .pointer (some ⟨p, 3 + k, none⟩)) rfl (by kernel_rfl) (by kernel_rfl) (by kernel_rfl) (fun _ _ _ h => h) (.inl ⟨by rfl, by intro w hS; go_simp; intro h; omega⟩) hH ?_
    (try dsimp only [Act.put]); (try simp only [List.getElem_toArray, List.getElem_cons_zero, List.getElem_cons_succ, Act.put, List.setIfInBounds_toArray, List.set_cons_zero, List.set_cons_succ])
    refine wpAnyH_ready (rs := [8]) (by kernel_rfl) (by simp) ?_
    refine AllReadyH.cons rfl (fun K hK => ?_) AllReadyH.nil
    rw [if_pos (by rfl)]
    go_simp
    refine hK.out _ _ trivial (fun hH => ?_)
    clear hK K
    (try dsimp only [Act.put]); (try simp only [List.getElem_toArray, List.getElem_cons_zero, List.getElem_cons_succ, Act.put, List.setIfInBounds_toArray, List.set_cons_zero, List.set_cons_succ])
    refine wpAnyH_done (by kernel_rfl) ?_ _
    go_wp2_with fail
    go_ret
    have fin := A3.out.fin hk h0.out hl.out hU.out HI.out
    rw [show ((64 * (f + leastL L) + 7 : Nat) : Int) = 64 * (fr : Int) + 7 by rw [← hfr.out]; simp] at fin
    exact ⟨rfl, fin.1.kep (Kep.refl _).drew, fin.2.drew⟩
  refine AllReadyH.cons rfl (fun K hK => ?_) AllReadyH.nil
  rw [if_pos (by rfl)]
  go_simp
  refine hK.out _ _ ((((Kep.refl w1).drew.alloc _).cell lp).trans c0) (fun hH => ?_)
  clear hK K
  (try dsimp only [Act.put]); (try simp only [List.getElem_toArray, List.getElem_cons_zero, List.getElem_cons_succ, Act.put, List.setIfInBounds_toArray, List.set_cons_zero, List.set_cons_succ])
  refine wpAnyH_ready (rs := [5]) (by kernel_rfl) (by simp) ?_
  refine AllReadyH.cons rfl (fun K hK => ?_) AllReadyH.nil
  rw [if_pos (by rfl)]
  go_simp
  refine (H2.out _).mono ?_
  rintro x w2 ⟨rfl, rfl⟩
  refine hK.out _ _ hH (fun hH => ?_)
  clear hK K
  (try dsimp only [Act.put]); (try simp only [List.getElem_toArray, List.getElem_cons_zero, List.getElem_cons_succ, Act.put, List.setIfInBounds_toArray, List.set_cons_zero, List.set_cons_succ])
  refine wpAnyH_ready (rs := [7]) (by kernel_rfl) (by simp) ?_
  refine AllReadyH.cons rfl (fun K hK => ?_) AllReadyH.nil
  rw [if_pos (by rfl)]
  go_simp
  refine H3.out.mono ?_
  rintro x w3 ⟨rfl, P3, B3⟩
  have A3 : Hid (Aft7 w w3 p pv R n d f q M s B L g m F) := HA.out w3 P3 B3
  clear P3 B3
  refine hK.out _ _ (A3.out.sh.c0) (fun hH => ?_)
  clear hK K
  (try dsimp only [Act.put]); (try simp only [List.getElem_toArray, List.getElem_cons_zero, List.getElem_cons_succ, Act.put, List.setIfInBounds_toArray, List.set_cons_zero, List.set_cons_succ])
  refine wpAnyH_done (by kernel_rfl) ?_ _
  go_wp2_with fail
  clear H3 HA
  have c0 := A3.out.sh.c0
  have c3 := A3.out.sh.cD hk
  have f3 := A3.out.sh.fz (3 + k)
  refine wp_region_held_drew (S := fun w' => True) (by kernel_rfl) (trivial) (fun hH => ?_)
  refine wpAnyH_take (i := 0) (v := .pointer (some ⟨p, 0, none⟩)) rfl (by kernel_rfl) (by kernel_rfl) (by kernel_rfl) (fun _ _ _ h => h) (.inl ⟨by rfl, by intro w hS; go_simp⟩) hH ?_
  (try dsimp only [Act.put]); (try simp only [List.getElem_toArray, List.getElem_cons_zero, List.getElem_cons_succ, Act.put, List.setIfInBounds_toArray, List.set_cons_zero, List.set_cons_succ])
  refine wpAnyH_take (i := 1) (v := .int .i64 k) rfl (by kernel_rfl) (by kernel_rfl) (by kernel_rfl) (fun _ _ _ h => h) (.inl ⟨by rfl, by intro w hS; go_simp⟩) hH ?_
  (try dsimp only [Act.put]); (try simp only [List.getElem_toArray, List.getElem_cons_zero, List.getElem_cons_succ, Act.put, List.setIfInBounds_toArray, List.set_cons_zero, List.set_cons_succ])
  refine wpAnyH_take (i := 2) (v := .int .i64 fr) rfl (by kernel_rfl) (by kernel_rfl) (by kernel_rfl) (fun _ _ _ h => h) (.inl ⟨by rfl, by intro w hS; go_simp⟩) hH ?_
  (try dsimp only [Act.put]); (try simp only [List.getElem_toArray, List.getElem_cons_zero, List.getElem_cons_succ, Act.put, List.setIfInBounds_toArray, List.set_cons_zero, List.set_cons_succ])
  refine wpAnyH_take (i := 5) (v := .pointer (some ⟨p, 0, none⟩)) rfl (by kernel_rfl) (by kernel_rfl) (by kernel_rfl) (fun _ _ _ h => h) (.inl ⟨by rfl, by intro w hS; go_simp⟩) hH ?_
  (try dsimp only [Act.put]); (try simp only [List.getElem_toArray, List.getElem_cons_zero, List.getElem_cons_succ, Act.put, List.setIfInBounds_toArray, List.set_cons_zero, List.set_cons_succ])
  refine wpAnyH_take (i := 6) (v := .pointer (some ⟨p, 3, none⟩)) rfl (by kernel_rfl) (by kernel_rfl) (by kernel_rfl) (fun _ _ _ h => h) (.inl ⟨by rfl, by intro w hS; go_simp⟩) hH ?_
  (try dsimp only [Act.put]); (try simp only [List.getElem_toArray, List.getElem_cons_zero, List.getElem_cons_succ, Act.put, List.setIfInBounds_toArray, List.set_cons_zero, List.set_cons_succ])
  refine wpAnyH_ready (rs := [3]) (by kernel_rfl) (by simp) ?_
  refine AllReadyH.cons rfl (fun K hK => ?_) AllReadyH.nil
  rw [if_pos (by rfl)]
  go_simp
  refine (H2.out _).mono ?_
  rintro x w4 ⟨rfl, rfl⟩
  refine hK.out _ _ trivial (fun hH => ?_)
  clear hK K
  (try dsimp only [Act.put]); (try simp only [List.getElem_toArray, List.getElem_cons_zero, List.getElem_cons_succ, Act.put, List.setIfInBounds_toArray, List.set_cons_zero, List.set_cons_succ])
  refine wpAnyH_take (i := 4) (v := .int .u32 (64 * fr + 7 : Nat)) rfl (by kernel_rfl) (by kernel_rfl) (by kernel_rfl) (fun _ _ _ h => h) (.inl ⟨by rfl, by intro w hS; go_simp⟩) hH ?_
  (try dsimp only [Act.put]); (try simp only [List.getElem_toArray, List.getElem_cons_zero, List.getElem_cons_succ, Act.put, List.setIfInBounds_toArray, List.set_cons_zero, List.set_cons_succ])
  refine wpAnyH_take (i := 7) (v := .pointer (some ⟨p, 3 + k, none⟩)) rfl (by kernel_rfl) (by kernel_rfl) (by kernel_rfl) (fun _ _ _ h => h) (.inl ⟨by rfl, by intro w hS; go_simp; intro h; omega⟩) hH ?_
  (try dsimp only [Act.put]); (try simp only [List.getElem_toArray, List.getElem_cons_zero, List.getElem_cons_succ, Act.put, List.setIfInBounds_toArray, List.set_cons_zero, List.set_cons_succ])
  refine wpAnyH_ready (rs := [8]) (by kernel_rfl) (by simp) ?_
  refine AllReadyH.cons rfl (fun K hK => ?_) AllReadyH.nil
  rw [if_pos (by rfl)]
  go_simp
  refine hK.out _ _ trivial (fun hH => ?_)
  clear hK K
  (try dsimp only [Act.put]); (try simp only [List.getElem_toArray, List.getElem_cons_zero, List.getElem_cons_succ, Act.put, List.setIfInBounds_toArray, List.set_cons_zero, List.set_cons_succ])
  refine wpAnyH_done (by kernel_rfl) ?_ _
  go_wp2_with fail
  go_ret
  have fin := A3.out.fin hk h0.out hl.out hU.out HI.out
  rw [show ((64 * (f + leastL L) + 7 : Nat) : Int) = 64 * (fr : Int) + 7 by rw [← hfr.out]; simp] at fin
  exact ⟨rfl, fin.1.kep (Kep.refl _).drew, fin.2.drew⟩
end Go.Proofs.Ythgkkjcemjadoaa
