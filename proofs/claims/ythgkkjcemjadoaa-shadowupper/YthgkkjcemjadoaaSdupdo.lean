/- The shadow beside the document's, with its upper half laid. -/
import Derived.Test.YthgkkjcemjadoaaSdupper
import Derived.Test.YthgkkjcemjadoaaSdplay
namespace Go.Proofs.Ythgkkjcemjadoaa
open Go.RowKit
set_option linter.unusedVariables false
set_option linter.unusedSimpArgs false

/-- A row of words that came in. -/
theorem row_words {w : World} {x : Option Addr} {len cap : Nat} {zs : List Int} (h : IsRow .u32 w x len cap zs) : ∃ U : List Nat, U.length = len ∧ (∀ u ∈ U, u < 4294967296) ∧ Lies w x (u32s U) ∧ len ≤ cap := by
  have hat : ∀ i, i < len → ∃ (b off : Nat) (z : Nat), x = some ⟨b, off, none⟩ ∧ b < w.heap.size ∧ w.cell? ⟨b, off + i, none⟩ = some (.int .u32 z) ∧ z < 4294967296 := fun i hi => by
    obtain ⟨b, off, z, e, _, hb, hc, hw⟩ := h.at hi
    have hz := u32_of hw
    exact ⟨b, off, z.toNat, e, hb, by rw [hc, show ((z.toNat : Nat) : Int) = z by omega], by omega⟩
  have hcap : len ≤ cap := by
    rcases h with ⟨_, h1, h2, _⟩ | ⟨_, _, h1, _⟩ <;> omega
  refine ⟨(List.range len).map fun i => if hi : i < len then (hat i hi).choose_spec.choose_spec.choose else 0, by simp, fun u hu => ?_, ?_, hcap⟩
  · simp only [List.mem_map, List.mem_range] at hu
    obtain ⟨i, hi, rfl⟩ := hu
    rw [dif_pos hi]
    exact (hat i hi).choose_spec.choose_spec.choose_spec.2.2.2
  · rcases Nat.eq_zero_or_pos len with h0 | h0
    · subst h0; exact .inl rfl
    · obtain ⟨b, off, z, e, hb, _⟩ := hat 0 h0
      refine .inr ⟨b, off, e, hb, fun j u hj => ?_⟩
      simp only [u32s, List.getElem?_map, Option.map_eq_some_iff] at hj
      obtain ⟨a, ⟨i, hi, rfl⟩, rfl⟩ := hj
      obtain ⟨hlt, hij⟩ := List.getElem?_eq_some_iff.1 hi
      simp only [List.getElem_range, List.length_range] at hij hlt
      subst hij
      rw [dif_pos hlt]
      have s := (hat j hlt).choose_spec.choose_spec.choose_spec
      have e2 := e.symm.trans s.1
      simp only [Option.some.injEq, Addr.mk.injEq, and_true] at e2
      have hc := s.2.2.1
      have go : ∀ (b' off' : Nat) (X : Option Value), b = b' → off = off' → w.cell? ⟨b', off' + j, none⟩ = X → w.cell? ⟨b, off + j, none⟩ = X := by
        rintro _ _ _ rfl rfl h; exact h
      exact go _ _ _ e2.1 e2.2 hc
/-- Both in a round, with the upper half laid. -/
def DU (w wr : World) (p pv R q M r b1 most : Nat) (Fs : List Nat) (U : List Nat) (k : Nat) : Prop :=
  ∃ s B L T P F G g m, DM w wr p pv R q M r b1 most Fs s B L T P F G g m ∧ DEq s L T P most ∧ s.U = U ∧ (∀ j, 16 ≤ j → s.D.getD j 0 = 0) ∧ (0 ≤ g ∧ g ≤ (k : Int)) ∧ (0 ≤ m ∧ m ≤ (k : Int))
def DUH (w wr : World) (p pv R q M r b1 most : Nat) (Fs U : List Nat) (k va : Nat) (fr : Int) (x : Nat) (b : Bool) : Prop :=
  ∃ s s' B' L L' T P F G g m, DM w wr p pv R q M r b1 most Fs s' B' L' T P F G g m ∧ DEq s L T P most ∧ PutR 40 s L va fr x b s' L' ∧ s.U = U ∧ s.E.length = 512 ∧ (∀ j, 16 ≤ j → s.D.getD j 0 = 0) ∧ (0 ≤ g ∧ g ≤ (k : Int)) ∧ (0 ≤ m ∧ m ≤ (k : Int))
theorem DU.begin {w w1 : World} {p pv R q M n : Nat} {B : List Int} {L : List Bool} {Fs U : List Nat} (S1 : ShW w1 p pv R 40 8 20 q M Z5 (sdU U) B L 0 0 Fs) (D1 : DInv 8 (sdU U) B) (hl : L.length = n) (K1 : Kep w w1) (LT : Late w p R q M) :
    DU w (w1.alloc (.cells #[.int .i64 40, .slice none 0 0, .slice none 0 0, .int .i64 n] 32)) p pv R q M w1.heap.size w1.heap.size n Fs U 0 := by
  obtain ⟨l1, l2, l3, l4⟩ := shw_lt S1
  have h0 : nTrue L = 0 := S1.inv.cnt.trans (nD_zero 32)
  have hz : ∀ k, (sdU U).D.getD k 0 = 0 := fun k => sd0_D k
  refine ⟨sdU U, B, _, [], [], [], [], 0, 0, ⟨S1.kep ((Kep.refl _).alloc _), D1, ⟨_, _, hat _ _ _ rfl, Sli.nil _ _ _, Sli.nil _ _ _⟩, K1.alloc _, ⟨l1, l2, l3, l4, fun x hx => ?_⟩, ⟨Nat.le_refl _, by simp, by simp⟩, K1.size, LT⟩, ⟨?_, ?_, hl, fun k => ?_⟩, rfl, fun j _ => hz j, by omega, by omega⟩
  · obtain ⟨⟨uv, _, hs⟩, _, _⟩ := S1.sh
    exact hs.lt x hx
  · exact (pg_zero 512 0).symm
  · rw [h0]; rfl
  · exact ⟨fun h => by simp at h, fun h => absurd (hz k) h⟩
section
variable {w wr : World} {p pv R q M r b1 most : Nat} {Fs U : List Nat} {k : Nat}
theorem DU.kp {w' : World} (h : DU w wr p pv R q M r b1 most Fs U k) (K : Kep wr w') : DU w w' p pv R q M r b1 most Fs U k := by
  obtain ⟨s, B, L, T, P, F, G, g, m, a, r⟩ := h
  exact ⟨s, B, L, T, P, F, G, g, m, a.kp K, r⟩
theorem DU.kep (h : DU w wr p pv R q M r b1 most Fs U k) : Kep w wr := by
  obtain ⟨s, B, L, T, P, F, G, g, m, a, _⟩ := h
  exact a.kep
theorem DU.more (h : DU w wr p pv R q M r b1 most Fs U k) : DU w wr p pv R q M r b1 most Fs U (k + 1) := by
  obtain ⟨s, B, L, T, P, F, G, g, m, a, b, c, d, e, f⟩ := h
  exact ⟨s, B, L, T, P, F, G, g, m, a, b, c, d, by omega, by omega⟩
theorem zkept_shu {s : SD} {B : List Int} {L : List Bool} {g m : Int} (h : ShW wr p pv R 40 8 20 q M Z5 s B L g m Fs) {w' : World} (P : Put [p, R, q, M] wr w') : Zkept2 wr w' := zkept_sh h P
theorem DU.sput (h : DU w wr p pv R q M r b1 most Fs U k) (hk : k < 1000) {va x : Nat} (hva : va < 4294967296) (fr : Int) (hx : x < 4294967296) :
    Calls Try.prog 20 #[.pointer (some ⟨p, 0, none⟩), .int .u32 va, .int .i64 fr, .int .u32 x] wr fun e w' => ∃ b, e = .returned (.bool b) ∧ DUH w w' p pv R q M r b1 most Fs U (k + 1) va fr x b ∧ Zkept2 wr w' := by
  obtain ⟨s, B, L, T, P, F, G, g, m, D, E, hU, h0, hg, hm⟩ := h
  refine (shput_any wr p pv R 40 8 20 q M Z5 s B L g m Fs D.sh D.dir (by omega) (by omega) va hva fr x hx).mono ?_
  rintro e w' ⟨b, s', B', L', g', m', rfl, S', D', P', pr, hg', hm'⟩
  exact ⟨b, rfl, ⟨s, s', B', L, L', T, P, F, G, g', m', D.turn S' D' P', E, pr, hU, D.sh.inv.lE, h0, by omega, by omega⟩, zkept_shu D.sh P'⟩
theorem DU.hi (h : DU w wr p pv R q M r b1 most Fs U k) (hk : k < 1000) {va x : Nat} (hva : va < 4294967296) (fr : Int) (hx : x < 4294967296) (hh : 16384 ≤ va) (hU : U ≠ []) :
    Calls Try.prog 20 #[.pointer (some ⟨p, 0, none⟩), .int .u32 va, .int .i64 fr, .int .u32 x] wr fun e w' => e = .returned (.bool false) ∧ DU w w' p pv R q M r b1 most Fs U (k + 1) := by
  refine (h.sput hk hva fr hx).mono ?_
  rintro e w' ⟨b, rfl, ⟨s, s', B', L, L', T, P, F, G, g, m, D, E, pr, hu, lE, h0, hg, hm⟩, _⟩
  have hb : b = false := by
    rw [pr.1]
    exact decide_eq_false fun ⟨h1, _⟩ => by
      rcases h1 with h1 | ⟨_, h1⟩
      · omega
      · exact hU (hu.symm.trans h1)
  subst hb
  obtain ⟨rfl, rfl⟩ := pr.2.2.2.1 rfl
  exact ⟨rfl, s', B', L', T, P, F, G, g, m, D, E, hu, h0, hg, hm⟩
theorem DUH.rput {va x : Nat} {fr : Int} {b : Bool} (h : DUH w wr p pv R q M r b1 most Fs U k va fr x b) (hm12 : most ≤ 12) (hfree : va < 16384) (hx : x < 4294967296) :
    Calls Try.prog 26 #[.pointer (some ⟨r, 0, none⟩), .int .u32 va, .int .i64 fr, .int .u32 x] wr fun e w' => e = .returned (.bool b) ∧ DU w w' p pv R q M r b1 most Fs U k ∧ Zkept 32 wr w' := by
  obtain ⟨s, s', B', L, L', T, P, F, G, g, m, D, E, pr, hU, lE, h0, hg, hm⟩ := h
  refine (D.rput E pr (.inl hfree) (by omega) hx hm12 lE).mono ?_
  rintro e w' ⟨rfl, K, T', P', F', G', D', E'⟩
  refine ⟨rfl, ⟨s', B', L', T', P', F', G', g, m, D', E', pr.2.1.trans hU, fun j hj => ?_, hg, hm⟩, fun z cs t fr hz h1 h2 => K.keeps hz (D.gtags hz h1 h2)⟩
  cases b
  · rw [(pr.2.2.2.1 rfl).1]; exact h0 j hj
  · exact ((pr.2.2.2.2 rfl).2.1 j).2 ⟨h0 j hj, by omega⟩
theorem DU.drop (h : DU w wr p pv R q M r b1 most Fs U k) {va : Nat} (hva : va < 4294967296) :
    Calls Try.prog 21 #[.pointer (some ⟨p, 0, none⟩), .int .u32 va] wr fun e w' => e = .returned (.tuple #[]) ∧ (Calls Try.prog 27 #[.pointer (some ⟨r, 0, none⟩), .int .u32 va] w' fun e w'' => e = .returned (.tuple #[]) ∧ DU w w'' p pv R q M r b1 most Fs U k) ∧ Zkept2 wr w' := by
  obtain ⟨s, B, L, T, P, F, G, g, m, D, E, hU, h0, hg, hm⟩ := h
  refine (shdrop_any wr p pv R 40 8 20 q M Z5 s B L g m Fs D.sh D.dir va hva).mono ?_
  rintro e w' ⟨s', B', rfl, S', D', P', hD, hU', hE⟩
  refine ⟨rfl, ((D.turn S' D' P').rdrop E hD hE hva D.sh.inv.lE).mono ?_, zkept_shu D.sh P'⟩
  rintro e w'' ⟨rfl, T', P2, F', G', D2, E2⟩
  exact ⟨rfl, s', B', L, T', P2, F', G', g, m, D2, E2, hU'.trans hU, fun j hj => by rw [hD]; exact h0 j hj, hg, hm⟩
theorem DU.clear (h : DU w wr p pv R q M r b1 most Fs U k) :
    Calls Try.prog 28 #[.pointer (some ⟨p, 0, none⟩)] wr fun e w' => e = .returned (.tuple #[]) ∧ (Calls Try.prog 29 #[.pointer (some ⟨r, 0, none⟩)] w' fun e w'' => e = .returned (.tuple #[]) ∧ DU w w'' p pv R q M r b1 most Fs U k) := by
  obtain ⟨s, B, L, T, P, F, G, g, m, D, E, hU, h0, hg, hm⟩ := h
  refine (shclear_any wr p pv R 40 8 20 q M Z5 s B L g m Fs D.sh).mono ?_
  rintro e w' ⟨B', L', rfl, S', D', P', hl, hn0⟩
  refine ⟨rfl, ((D.turn S' D' P').rclear (hl.trans E.most) hn0).mono ?_⟩
  rintro e w'' ⟨rfl, T', P2, F', G', D2, E2⟩
  exact ⟨rfl, _, B', L', T', P2, F', G', g, m, D2, E2, hU, fun j _ => grep 32 j, hg, hm⟩
theorem DM.word {s : SD} {B : List Int} {L : List Bool} {T : List Nat} {P : List (Nat × Nat)} {F G : List Nat} {g m : Int} (h : DM w wr p pv R q M r b1 most Fs s B L T P F G g m) (h0 : ∀ j, 16 ≤ j → s.D.getD j 0 = 0) {c : Nat} (hc : c < 16) :
    Calls Try.prog 30 #[.pointer (some ⟨pv, 0, none⟩), .int .u32 (576 + 4 * c : Nat)] wr fun e w' => e = .returned (.tuple #[.int .u32 (s.U.getD c 0 : Nat), .bool true]) ∧ w' = wr := by
  have hl := h.sh.inv.lB
  have := word_any wr _ R (List.range 40) B h.sh.ram (by simp) h.sh.row (fits_range hl) h.sh.inv.bB (576 + 4 * c) (by omega)
  rw [List.length_range, if_pos ⟨by omega, by omega⟩] at this
  have hw := h.dir (16 + c) (by omega)
  unfold dirW at hw
  rw [h0 _ (by omega), if_pos (by omega), show 16 + c - 16 = c by omega, Nat.zero_add] at hw
  have e1 : wordAt B (pos (List.range 40) (576 + 4 * c)) = ((s.U.getD c 0 : Nat) : Int) := by
    rw [pos_range (by omega), ← hw]
    rw [show 576 + 4 * c = 64 * 8 + 4 * (16 + c) by omega]
    have := (wordAt_range h.sh.inv.bB (64 * 8 + 4 * (16 + c))).1
    unfold wd
    omega
  rw [e1] at this
  exact this
end
end Go.Proofs.Ythgkkjcemjadoaa
