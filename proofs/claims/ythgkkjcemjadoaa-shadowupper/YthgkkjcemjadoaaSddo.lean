/- A call of both. -/
import Derived.Test.YthgkkjcemjadoaaSddm
import Derived.Test.YthgkkjcemjadoaaSdopen
import Derived.Deep.RegionHeld3
import Derived.Deep.Cut
namespace Go.Proofs.Ythgkkjcemjadoaa
open Go.RowKit
set_option linter.unusedVariables false
set_option linter.unusedSimpArgs false

/-- A block of another kind is as it was. -/
def Zkept (a : TypeId) (w w' : World) : Prop := ∀ (z : Nat) (cs : Array Value) (t : TypeId) (fr : Nat × Nat), w.heap[z]? = some (.cells cs t fr) → t ≠ a → t ≠ 34 → w'.heap[z]? = some (.cells cs t fr)
def Zkept2 (w w' : World) : Prop := ∀ (z : Nat) (cs : Array Value) (t : TypeId) (fr : Nat × Nat), w.heap[z]? = some (.cells cs t fr) → t ≠ 90 → t ≠ 5 → t ≠ 84 → w'.heap[z]? = some (.cells cs t fr)
/-- The shadow has been called, the document's has not. -/
def DH (w wr : World) (p pv R q M r b1 most : Nat) (Fs U : List Nat) (k va : Nat) (fr : Int) (x : Nat) (b : Bool) : Prop :=
  ∃ s s' B' L L' T P F G g m, DM w wr p pv R q M r b1 most Fs s' B' L' T P F G g m ∧ DEq s L T P most ∧ PutR 40 s L va fr x b s' L' ∧ s.U = U ∧ s.E.length = 512 ∧ (0 ≤ g ∧ g ≤ (k : Int)) ∧ (0 ≤ m ∧ m ≤ (k : Int))
section
variable {w wr : World} {p pv R q M r b1 most : Nat} {Fs U : List Nat} {k : Nat}
theorem zkept_sh {s : SD} {B : List Int} {L : List Bool} {g m : Int} (h : ShW wr p pv R 40 8 20 q M Z5 s B L g m Fs) {w' : World} (P : Put [p, R, q, M] wr w') : Zkept2 wr w' := by
  intro z cs t fr hz h1 h2 h3
  refine P.keeps hz fun hm => ?_
  have t1 := h.tags
  obtain ⟨cs0, hb⟩ := h.sh.blk
  have hq := h.pool.box
  obtain ⟨_, ⟨es, c, hM, _⟩, _⟩ := h.pool.set
  simp at hm
  rcases hm with rfl | rfl | rfl | rfl
  · rw [hb] at hz; simp at hz; exact h1 hz.2.1.symm
  · rw [h.row h.bnil] at hz; simp at hz; exact h2 hz.2.1.symm
  · rw [hq] at hz; simp at hz; exact h3 hz.2.1.symm
  · rw [hM] at hz; simp at hz
theorem DR.sput (h : DR w wr p pv R q M r b1 most Fs U k) (hk : k < 1000) {va x : Nat} (hva : va < 4294967296) (fr : Int) (hx : x < 4294967296) :
    Calls Try.prog 20 #[.pointer (some ⟨p, 0, none⟩), .int .u32 va, .int .i64 fr, .int .u32 x] wr fun e w' => ∃ b, e = .returned (.bool b) ∧ DH w w' p pv R q M r b1 most Fs U (k + 1) va fr x b ∧ Zkept2 wr w' := by
  obtain ⟨s, B, L, T, P, F, G, g, m, D, E, hU, hg, hm⟩ := h
  refine (shput_any wr p pv R 40 8 20 q M Z5 s B L g m Fs D.sh D.dir (by omega) (by omega) va hva fr x hx).mono ?_
  rintro e w' ⟨b, s', B', L', g', m', rfl, S', D', P', pr, hg', hm'⟩
  exact ⟨b, rfl, ⟨s, s', B', L, L', T, P, F, G, g', m', D.turn S' D' P', E, pr, hU, D.sh.inv.lE, by omega, by omega⟩, zkept_sh D.sh P'⟩
theorem DH.rput {va x : Nat} {fr : Int} {b : Bool} (h : DH w wr p pv R q M r b1 most Fs U k va fr x b) (hm12 : most ≤ 12) (hfree : va < 16384 ∨ U = []) (hva : va < 4294967296) (hx : x < 4294967296) :
    Calls Try.prog 26 #[.pointer (some ⟨r, 0, none⟩), .int .u32 va, .int .i64 fr, .int .u32 x] wr fun e w' => e = .returned (.bool b) ∧ DR w w' p pv R q M r b1 most Fs U k ∧ Zkept 32 wr w' := by
  obtain ⟨s, s', B', L, L', T, P, F, G, g, m, D, E, pr, hU, lE, hg, hm⟩ := h
  refine (D.rput E pr (by rw [hU]; exact hfree) hva hx hm12 lE).mono ?_
  rintro e w' ⟨rfl, K, T', P', F', G', D', E'⟩
  exact ⟨rfl, ⟨s', B', L', T', P', F', G', g, m, D', E', pr.2.1.trans hU, hg, hm⟩, fun z cs t fr hz h1 h2 => K.keeps hz (D.gtags hz h1 h2)⟩
theorem DR.drop (h : DR w wr p pv R q M r b1 most Fs U k) {va : Nat} (hva : va < 4294967296) :
    Calls Try.prog 21 #[.pointer (some ⟨p, 0, none⟩), .int .u32 va] wr fun e w' => e = .returned (.tuple #[]) ∧ (Calls Try.prog 27 #[.pointer (some ⟨r, 0, none⟩), .int .u32 va] w' fun e w'' => e = .returned (.tuple #[]) ∧ DR w w'' p pv R q M r b1 most Fs U k) := by
  obtain ⟨s, B, L, T, P, F, G, g, m, D, E, hU, hg, hm⟩ := h
  refine (shdrop_any wr p pv R 40 8 20 q M Z5 s B L g m Fs D.sh D.dir va hva).mono ?_
  rintro e w' ⟨s', B', rfl, S', D', P', hD, hU', hE⟩
  refine ⟨rfl, ((D.turn S' D' P').rdrop E hD hE hva D.sh.inv.lE).mono ?_⟩
  rintro e w'' ⟨rfl, T', P2, F', G', D2, E2⟩
  exact ⟨rfl, s', B', L, T', P2, F', G', g, m, D2, E2, hU'.trans hU, hg, hm⟩
theorem DR.clear (h : DR w wr p pv R q M r b1 most Fs U k) :
    Calls Try.prog 28 #[.pointer (some ⟨p, 0, none⟩)] wr fun e w' => e = .returned (.tuple #[]) ∧ (Calls Try.prog 29 #[.pointer (some ⟨r, 0, none⟩)] w' fun e w'' => e = .returned (.tuple #[]) ∧ DR w w'' p pv R q M r b1 most Fs U k) := by
  obtain ⟨s, B, L, T, P, F, G, g, m, D, E, hU, hg, hm⟩ := h
  refine (shclear_any wr p pv R 40 8 20 q M Z5 s B L g m Fs D.sh).mono ?_
  rintro e w' ⟨B', L', rfl, S', D', P', hl, h0⟩
  refine ⟨rfl, ((D.turn S' D' P').rclear (hl.trans E.most) h0).mono ?_⟩
  rintro e w'' ⟨rfl, T', P2, F', G', D2, E2⟩
  exact ⟨rfl, _, B', L', T', P2, F', G', g, m, D2, E2, hU, hg, hm⟩
end
set_option maxHeartbeats 8000000 in
set_option maxRecDepth 20000 in
theorem do16_any (w wr : World) (p pv R q M r b1 most : Nat) (Fs : List Nat) (k : Nat) (h : DR w wr p pv R q M r b1 most Fs [] k) (hk : k < 1000) (hm12 : most ≤ 12) (sk : Int) (sp : Nat) (sf : Int) (sb : Nat) (hok : (⟨sk, sp, sf, sb⟩ : Hst).Ok) :
    Calls Try.prog 9 #[.pointer (some ⟨p, 0, none⟩), .pointer (some ⟨r, 0, none⟩), .agg #[.int .i64 sk, .int .u32 sp, .int .i64 sf, .int .u32 sb]] wr fun e w' => e = .returned (.bool true) ∧ DR w w' p pv R q M r b1 most Fs [] (k + 1) := by
  obtain ⟨hok1, hok2⟩ := hok
  simp only at hok1 hok2
  obtain ⟨na, hna⟩ : ∃ na, Hid (nearF sp = na) := ⟨_, rfl⟩
  have hnab : Hid (na < 4294967296) := by rw [Hid, ← hna.out]; exact nearF_lt hok1
  have HN : Hid (∀ w, Calls Try.prog 16 #[.int .u32 sp] w fun e w' => e = .returned (.int .u32 na) ∧ w' = w) := fun w => hna.out ▸ near16_any sp w
  have hb : (wr.alloc (.cells #[.int .i64 sk, .int .u32 sp, .int .i64 sf, .int .u32 sb] 36)).heap[wr.heap.size]? = some (.cells #[.int .i64 sk, .int .u32 sp, .int .i64 sf, .int .u32 sb] 36 (0, 0)) := hat _ _ _ rfl
  have hD : Hid (DR w (wr.alloc (.cells #[.int .i64 sk, .int .u32 sp, .int .i64 sf, .int .u32 sb] 36)) p pv R q M r b1 most Fs [] k) := h.kp ((Kep.refl _).alloc _)
  have HS : Hid (∀ w6, DR w w6 p pv R q M r b1 most Fs [] k → Calls Try.prog 20 #[.pointer (some ⟨p, 0, none⟩), .int .u32 na, .int .i64 sf, .int .u32 sb] w6 fun e w' => ∃ b, e = .returned (.bool b) ∧ DH w w' p pv R q M r b1 most Fs [] (k + 1) na sf sb b ∧ Zkept2 w6 w') := fun w6 h => h.sput hk hnab.out sf hok2
  have HR : Hid (∀ w6 b, DH w w6 p pv R q M r b1 most Fs [] (k + 1) na sf sb b → Calls Try.prog 26 #[.pointer (some ⟨r, 0, none⟩), .int .u32 na, .int .i64 sf, .int .u32 sb] w6 fun e w' => e = .returned (.bool b) ∧ DR w w' p pv R q M r b1 most Fs [] (k + 1) ∧ Zkept 32 w6 w') := fun w6 b h => h.rput hm12 (.inr rfl) hnab.out hok2
  have HD : Hid (∀ w6, DR w w6 p pv R q M r b1 most Fs [] k → Calls Try.prog 21 #[.pointer (some ⟨p, 0, none⟩), .int .u32 na] w6 fun e w' => e = .returned (.tuple #[]) ∧ (Calls Try.prog 27 #[.pointer (some ⟨r, 0, none⟩), .int .u32 na] w' fun e w'' => e = .returned (.tuple #[]) ∧ DR w w'' p pv R q M r b1 most Fs [] k)) := fun w6 h => h.drop hnab.out
  have HC : Hid (∀ w6, DR w w6 p pv R q M r b1 most Fs [] k → Calls Try.prog 28 #[.pointer (some ⟨p, 0, none⟩)] w6 fun e w' => e = .returned (.tuple #[]) ∧ (Calls Try.prog 29 #[.pointer (some ⟨r, 0, none⟩)] w' fun e w'' => e = .returned (.tuple #[]) ∧ DR w w'' p pv R q M r b1 most Fs [] k)) := fun w6 h => h.clear
  clear h hok1 hok2
  go_enter Try.func9, Try.ntmps9
  go_upto_region 1 with fail
  generalize wr.alloc (.cells #[.int .i64 sk, .int .u32 sp, .int .i64 sf, .int .u32 sb] 36) = W at hb hD ⊢
  generalize wr.heap.size = z at hb ⊢
  have c0 : W.cell? ⟨z, 0, none⟩ = some (.int .i64 sk) := (cell_of_block hb).trans rfl
  have c1 : W.cell? ⟨z, 1, none⟩ = some (.int .u32 sp) := (cell_of_block hb).trans rfl
  by_cases e0 : sk = 0
  · subst e0
    have BD : Hid (DR w W.drew p pv R q M r b1 most Fs [] k) := hD.out.kp (Kep.refl _).drew
    have BZ : Hid (W.drew.heap[z]? = some (.cells #[.int .i64 0, .int .u32 sp, .int .i64 sf, .int .u32 sb] 36 (0, 0))) := hb
    clear hb HD HC hD
    go_wp2_with (go_at_call 16; refine (HN.out _).mono ?_; rintro e wa ⟨rfl, hqa⟩; rw [hqa]; clear hqa wa)
    refine wp_region_held_drew (S := fun w' => w'.heap[z]? = some (.cells #[.int .i64 0, .int .u32 sp, .int .i64 sf, .int .u32 sb] 36 (0, 0))) (by kernel_rfl) (BZ.out) (fun hH => ?_)
    refine wpAnyH_take (i := 0) (v := .pointer (some ⟨p, 0, none⟩)) rfl (by kernel_rfl) (by kernel_rfl) (by kernel_rfl) (fun _ _ _ h => h) (.inl ⟨by rfl, by intro w hS; go_simp⟩) hH ?_
    (try dsimp only [Act.put]); (try simp only [List.getElem_toArray, List.getElem_cons_zero, List.getElem_cons_succ, Act.put, List.setIfInBounds_toArray, List.set_cons_zero, List.set_cons_succ])
    refine wpAnyH_take (i := 1) (v := .int .u32 na) rfl (by kernel_rfl) (by kernel_rfl) (by kernel_rfl) (fun _ _ _ h => h) (.inl ⟨by rfl, by intro w hS; go_simp⟩) hH ?_
    (try dsimp only [Act.put]); (try simp only [List.getElem_toArray, List.getElem_cons_zero, List.getElem_cons_succ, Act.put, List.setIfInBounds_toArray, List.set_cons_zero, List.set_cons_succ])
    refine wpAnyH_take (i := 2) (v := .pointer (some ⟨z, 2, none⟩)) rfl (by kernel_rfl) (by kernel_rfl) (by kernel_rfl) (fun _ _ _ h => h) (.inl ⟨by rfl, by intro w hS; go_simp⟩) hH ?_
    (try dsimp only [Act.put]); (try simp only [List.getElem_toArray, List.getElem_cons_zero, List.getElem_cons_succ, Act.put, List.setIfInBounds_toArray, List.set_cons_zero, List.set_cons_succ])
    refine wpAnyH_take (i := 3) (v := .int .i64 sf) rfl (by kernel_rfl) (by kernel_rfl) (by kernel_rfl) (fun _ _ _ h => h) (.inl ⟨by rfl, by intro w hS; have c1 : w.cell? ⟨z, 2, none⟩ = some (.int .i64 sf) := (cell_of_block hS).trans rfl; clear hS; go_simp⟩) hH ?_
    (try dsimp only [Act.put]); (try simp only [List.getElem_toArray, List.getElem_cons_zero, List.getElem_cons_succ, Act.put, List.setIfInBounds_toArray, List.set_cons_zero, List.set_cons_succ])
    refine wpAnyH_take (i := 4) (v := .pointer (some ⟨z, 3, none⟩)) rfl (by kernel_rfl) (by kernel_rfl) (by kernel_rfl) (fun _ _ _ h => h) (.inl ⟨by rfl, by intro w hS; go_simp⟩) hH ?_
    (try dsimp only [Act.put]); (try simp only [List.getElem_toArray, List.getElem_cons_zero, List.getElem_cons_succ, Act.put, List.setIfInBounds_toArray, List.set_cons_zero, List.set_cons_succ])
    refine wpAnyH_take (i := 5) (v := .int .u32 sb) rfl (by kernel_rfl) (by kernel_rfl) (by kernel_rfl) (fun _ _ _ h => h) (.inl ⟨by rfl, by intro w hS; have c1 : w.cell? ⟨z, 3, none⟩ = some (.int .u32 sb) := (cell_of_block hS).trans rfl; clear hS; go_simp⟩) hH ?_
    (try dsimp only [Act.put]); (try simp only [List.getElem_toArray, List.getElem_cons_zero, List.getElem_cons_succ, Act.put, List.setIfInBounds_toArray, List.set_cons_zero, List.set_cons_succ])
    refine wpAnyH_take (i := 7) (v := .pointer (some ⟨r, 0, none⟩)) rfl (by kernel_rfl) (by kernel_rfl) (by kernel_rfl) (fun _ _ _ h => h) (.inl ⟨by rfl, by intro w hS; go_simp⟩) hH ?_
    (try dsimp only [Act.put]); (try simp only [List.getElem_toArray, List.getElem_cons_zero, List.getElem_cons_succ, Act.put, List.setIfInBounds_toArray, List.set_cons_zero, List.set_cons_succ])
    refine wpAnyH_take (i := 8) (v := .int .u32 na) rfl (by kernel_rfl) (by kernel_rfl) (by kernel_rfl) (fun _ _ _ h => h) (.inl ⟨by rfl, by intro w hS; go_simp⟩) hH ?_
    (try dsimp only [Act.put]); (try simp only [List.getElem_toArray, List.getElem_cons_zero, List.getElem_cons_succ, Act.put, List.setIfInBounds_toArray, List.set_cons_zero, List.set_cons_succ])
    refine wpAnyH_take (i := 9) (v := .pointer (some ⟨z, 2, none⟩)) rfl (by kernel_rfl) (by kernel_rfl) (by kernel_rfl) (fun _ _ _ h => h) (.inl ⟨by rfl, by intro w hS; go_simp⟩) hH ?_
    (try dsimp only [Act.put]); (try simp only [List.getElem_toArray, List.getElem_cons_zero, List.getElem_cons_succ, Act.put, List.setIfInBounds_toArray, List.set_cons_zero, List.set_cons_succ])
    refine wpAnyH_take (i := 10) (v := .int .i64 sf) rfl (by kernel_rfl) (by kernel_rfl) (by kernel_rfl) (fun _ _ _ h => h) (.inl ⟨by rfl, by intro w hS; have c1 : w.cell? ⟨z, 2, none⟩ = some (.int .i64 sf) := (cell_of_block hS).trans rfl; clear hS; go_simp⟩) hH ?_
    (try dsimp only [Act.put]); (try simp only [List.getElem_toArray, List.getElem_cons_zero, List.getElem_cons_succ, Act.put, List.setIfInBounds_toArray, List.set_cons_zero, List.set_cons_succ])
    refine wpAnyH_take (i := 11) (v := .pointer (some ⟨z, 3, none⟩)) rfl (by kernel_rfl) (by kernel_rfl) (by kernel_rfl) (fun _ _ _ h => h) (.inl ⟨by rfl, by intro w hS; go_simp⟩) hH ?_
    (try dsimp only [Act.put]); (try simp only [List.getElem_toArray, List.getElem_cons_zero, List.getElem_cons_succ, Act.put, List.setIfInBounds_toArray, List.set_cons_zero, List.set_cons_succ])
    refine wpAnyH_take (i := 12) (v := .int .u32 sb) rfl (by kernel_rfl) (by kernel_rfl) (by kernel_rfl) (fun _ _ _ h => h) (.inl ⟨by rfl, by intro w hS; have c1 : w.cell? ⟨z, 3, none⟩ = some (.int .u32 sb) := (cell_of_block hS).trans rfl; clear hS; go_simp⟩) hH ?_
    (try dsimp only [Act.put]); (try simp only [List.getElem_toArray, List.getElem_cons_zero, List.getElem_cons_succ, Act.put, List.setIfInBounds_toArray, List.set_cons_zero, List.set_cons_succ])
    refine wpAnyH_ready (rs := [6]) (by kernel_rfl) (by simp) ?_
    refine AllReadyH.cons rfl (fun K hK => ?_) AllReadyH.nil
    rw [if_pos (by rfl)]
    go_simp
    refine (HS.out _ BD.out).mono ?_
    rintro e w4 ⟨b, rfl, H4, Z4⟩
    have H4' : Hid _ := H4
    have Z4' : Hid (w4.heap[z]? = some (.cells #[.int .i64 0, .int .u32 sp, .int .i64 sf, .int .u32 sb] 36 (0, 0))) := Z4 z _ _ _ BZ.out (by decide) (by decide) (by decide)
    clear H4 Z4
    refine hK.out _ _ Z4'.out (fun hH => ?_)
    clear hK K
    (try dsimp only [Act.put]); (try simp only [List.getElem_toArray, List.getElem_cons_zero, List.getElem_cons_succ, Act.put, List.setIfInBounds_toArray, List.set_cons_zero, List.set_cons_succ])
    refine wpAnyH_ready (rs := [13]) (by kernel_rfl) (by simp) ?_
    refine AllReadyH.cons rfl (fun K hK => ?_) AllReadyH.nil
    rw [if_pos (by rfl)]
    go_simp
    refine (HR.out _ b H4'.out).mono ?_
    rintro e w5 ⟨rfl, H5, Z5'⟩
    have H5' : Hid _ := H5
    have Z5'' := Z5' z _ _ _ Z4'.out (by decide) (by decide)
    clear H5 Z5'
    refine hK.out _ _ Z5'' (fun hH => ?_)
    clear Z5''
    clear hK K
    (try dsimp only [Act.put]); (try simp only [List.getElem_toArray, List.getElem_cons_zero, List.getElem_cons_succ, Act.put, List.setIfInBounds_toArray, List.set_cons_zero, List.set_cons_succ])
    refine wpAnyH_take (i := 14) (v := .bool true) rfl (by kernel_rfl) (by kernel_rfl) (by kernel_rfl) (fun _ _ _ h => h) (.inl ⟨by rfl, by intro w hS; go_simp⟩) hH ?_
    (try dsimp only [Act.put]); (try simp only [List.getElem_toArray, List.getElem_cons_zero, List.getElem_cons_succ, Act.put, List.setIfInBounds_toArray, List.set_cons_zero, List.set_cons_succ])
    refine wpAnyH_take (i := 15) (v := .bool true) rfl (by kernel_rfl) (by kernel_rfl) (by kernel_rfl) (fun _ _ _ h => h) (.inl ⟨by rfl, by intro w hS; go_simp⟩) hH ?_
    (try dsimp only [Act.put]); (try simp only [List.getElem_toArray, List.getElem_cons_zero, List.getElem_cons_succ, Act.put, List.setIfInBounds_toArray, List.set_cons_zero, List.set_cons_succ])
    refine wpAnyH_done (by kernel_rfl) ?_ _
    go_wp2_with fail
    go_ret
    exact ⟨rfl, H5'.out⟩
  have t0 : (sk == 0) = false := by simpa using e0
  by_cases e1 : sk = 1
  · subst e1
    clear hb HS HR HC e0
    go_wp2_with (go_at_call 16; refine (HN.out _).mono ?_; rintro e wa ⟨rfl, hqa⟩; rw [hqa]; clear hqa wa)
    refine (HD.out _ hD.out).mono ?_
    rintro e w4 ⟨rfl, H4⟩
    have H4' : Hid (Calls Try.prog 27 #[.pointer (some ⟨r, 0, none⟩), .int .u32 na] w4 fun e w'' => e = .returned (.tuple #[]) ∧ DR w w'' p pv R q M r b1 most Fs [] k) := H4
    clear H4 HD hD
    go_wp2_with fail
    refine H4'.out.mono ?_
    rintro e w5 ⟨rfl, H5⟩
    clear H4'
    go_wp2_with fail
    go_ret
    exact ⟨rfl, H5.more⟩
  have t1 : (sk == 1) = false := by simpa using e1
  by_cases e2 : sk = 2
  · subst e2
    clear hb HS HR HD e0 e1
    go_wp2_with (go_at_call 16; refine (HN.out _).mono ?_; rintro e wa ⟨rfl, hqa⟩; rw [hqa]; clear hqa wa)
    refine (HC.out _ hD.out).mono ?_
    rintro e w4 ⟨rfl, H4⟩
    have H4' : Hid (Calls Try.prog 29 #[.pointer (some ⟨r, 0, none⟩)] w4 fun e w'' => e = .returned (.tuple #[]) ∧ DR w w'' p pv R q M r b1 most Fs [] k) := H4
    clear H4 HC hD
    go_wp2_with fail
    refine H4'.out.mono ?_
    rintro e w5 ⟨rfl, H5⟩
    clear H4'
    go_wp2_with fail
    go_ret
    exact ⟨rfl, H5.more⟩
  have t2 : (sk == 2) = false := by simpa using e2
  clear hb HS HR HD HC e0 e1 e2
  go_wp2_with (go_at_call 16; refine (HN.out _).mono ?_; rintro e wa ⟨rfl, hqa⟩; rw [hqa]; clear hqa wa)
  go_ret
  exact ⟨rfl, hD.out.more⟩
end Go.Proofs.Ythgkkjcemjadoaa
