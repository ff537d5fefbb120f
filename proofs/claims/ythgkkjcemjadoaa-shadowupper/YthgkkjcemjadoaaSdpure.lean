/- A shadow's data, and the words that it keeps in its host's memory: plain. -/
import Derived.Test.YthgkkjcemjadoaaWpage
import Derived.Test.YthgkkjcemjadoaaMfill
import Derived.Test.YthgkkjcemjadoaaPlbase
namespace Go.Proofs.Ythgkkjcemjadoaa
open Go.RowKit
set_option linter.unusedVariables false
set_option linter.unusedSimpArgs false

/-- The word at a. -/
def wd (B : List Int) (a : Nat) : Nat := (wordAt B a).toNat
theorem wd_same {B C : List Int} {a : Nat} (h : ∀ i, i < 4 → C.getD (a + i) 0 = B.getD (a + i) 0) : wd C a = wd B a := by
  have h0 := h 0 (by decide); have h1 := h 1 (by decide); have h2 := h 2 (by decide); have h3 := h 3 (by decide)
  rw [Nat.add_zero] at h0
  unfold wd wordAt
  rw [h0, h1, h2, h3]
theorem wd_lt {B : List Int} (h : Byts B) (a : Nat) : wd B a < 4294967296 := by
  have := wordAt_range h a
  unfold wd; omega
theorem wd_set {B : List Int} {a x : Nat} (h : a + 3 < B.length) (hx : x < 4294967296) : wd (setW B a x) a = x := by
  have e0 : (setW B a x).getD a 0 = (x : Int) % 256 := by unfold setW; simp [show a < B.length by omega]
  have e1 : (setW B a x).getD (a + 1) 0 = (x : Int) / 256 % 256 := by unfold setW; simp [show a + 1 < B.length by omega]
  have e2 : (setW B a x).getD (a + 2) 0 = (x : Int) / 65536 % 256 := by unfold setW; simp [show a + 2 < B.length by omega]
  have e3 : (setW B a x).getD (a + 3) 0 = (x : Int) / 16777216 % 256 := by unfold setW; simp [h]
  unfold wd wordAt wordI
  rw [e0, e1, e2, e3]
  omega
theorem set_off (B : List Int) (a k : Nat) (x : Int) (hk : k < a ∨ a + 3 < k) : (setW B a x).getD k 0 = B.getD k 0 := by
  unfold setW
  simp only [List.getD_eq_getElem?_getD, List.getElem?_set]
  rw [if_neg (by omega), if_neg (by omega), if_neg (by omega), if_neg (by omega)]
theorem wd_other {B : List Int} {a q : Nat} {x : Int} (h : q + 3 < a ∨ a + 3 < q) : wd (setW B a x) q = wd B q := by
  unfold wd; rw [setW_other _ _ _ _ h]
/-- Bytes laid: what is there then. -/
theorem layL_get {n : Nat} : ∀ (zs B : List Int) (a : Nat), B.length = 64 * n → a + zs.length ≤ 64 * n → ∀ j, (layL B (List.range n) a zs).getD j 0 = if a ≤ j ∧ j < a + zs.length then zs.getD (j - a) 0 else B.getD j 0
  | [], B, a, _, _, j => by simp [layL]; intro h1 h2; omega
  | z :: zs, B, a, hB, hl, j => by
    simp only [List.length_cons] at hl ⊢
    rw [layL, layL_get zs _ _ (by simpa using hB) (by omega), pos_range (by omega)]
    by_cases h1 : a + 1 ≤ j ∧ j < a + 1 + zs.length
    · rw [if_pos h1, if_pos (by omega)]
      obtain ⟨m, rfl⟩ : ∃ m, j = a + 1 + m := ⟨j - (a + 1), by omega⟩
      rw [show a + 1 + m - (a + 1) = m by omega, show a + 1 + m - a = m + 1 by omega]
      rfl
    · rw [if_neg h1]
      by_cases h2 : j = a
      · subst h2
        rw [if_pos (by omega)]
        simp [List.getD, show j < B.length by omega]
      · rw [if_neg (by omega)]
        simp [List.getD, List.getElem?_set_ne (Ne.symm h2)]
/-- n zeros from a on. -/
def zer (B : List Int) (n a c : Nat) : List Int := layL B (List.range n) a (List.replicate c 0)
theorem zer_len (B : List Int) (n a c : Nat) : (zer B n a c).length = B.length := layL_len _ _ _ _
theorem zer_byts {B : List Int} (h : Byts B) (n a c : Nat) : Byts (zer B n a c) := Byts.layL _ _ _ _ h (byts_zero c)
theorem zer_get {n : Nat} {B : List Int} {a c : Nat} (hB : B.length = 64 * n) (hl : a + c ≤ 64 * n) (j : Nat) : (zer B n a c).getD j 0 = if a ≤ j ∧ j < a + c then 0 else B.getD j 0 := by
  unfold zer
  rw [layL_get _ _ _ hB (by simpa using hl), List.length_replicate]
  by_cases h : a ≤ j ∧ j < a + c
  · rw [if_pos h, if_pos h]; simp [List.getD, List.getElem?_replicate]; split <;> rfl
  · rw [if_neg h, if_neg h]
theorem zer_wd {n : Nat} {B : List Int} {a c q : Nat} (hB : B.length = 64 * n) (hl : a + c ≤ 64 * n) (h1 : a ≤ q) (h2 : q + 3 < a + c) : wd (zer B n a c) q = 0 := by
  unfold wd wordAt wordI
  rw [zer_get hB hl, zer_get hB hl, zer_get hB hl, zer_get hB hl, if_pos (by omega), if_pos (by omega), if_pos (by omega), if_pos (by omega)]
  rfl
theorem zer_off {n : Nat} {B : List Int} {a c j : Nat} (hB : B.length = 64 * n) (hl : a + c ≤ 64 * n) (h : j < a ∨ a + c ≤ j) : (zer B n a c).getD j 0 = B.getD j 0 := by
  rw [zer_get hB hl, if_neg (by omega)]
theorem zer_other {n : Nat} {B : List Int} {a c q : Nat} (hB : B.length = 64 * n) (hl : a + c ≤ 64 * n) (h : q + 3 < a ∨ a + c ≤ q) : wd (zer B n a c) q = wd B q :=
  wd_same fun i hi => zer_off hB hl (by omega)

/-- A shadow's data: the entries that lead to tables, the pages' entries (all tables, one behind the other), what Upper has laid. -/
structure SD where
  D : List Nat
  E : List Nat
  U : List Nat
def sd0 : SD := ⟨List.replicate 32 0, List.replicate 512 0, []⟩
theorem gset_eq {l : List Nat} {k : Nat} (h : k < l.length) (x : Nat) : (l.set k x).getD k 0 = x := by simp [List.getD, h]
theorem gset_ne {l : List Nat} {k j : Nat} (h : j ≠ k) (x : Nat) : (l.set k x).getD j 0 = l.getD j 0 := by simp [List.getD, List.getElem?_set_ne (Ne.symm h)]
theorem grep (n k : Nat) : (List.replicate n 0).getD k 0 = 0 := by
  simp only [List.getD_eq_getElem?_getD, List.getElem?_replicate]; split <;> rfl
def nD (D : List Nat) : Nat := D.countP (· != 0)
theorem nD_add {D : List Nat} {k x : Nat} (hk : k < D.length) (h : D.getD k 0 = 0) (hx : x ≠ 0) : nD (D.set k x) = nD D + 1 := by
  have h' : D[k] = 0 := by simpa [List.getD, hk] using h
  unfold nD
  rw [List.countP_set (h := hk)]
  simp [h', hx]
theorem nD_del {D : List Nat} {k : Nat} (hk : k < D.length) (h : D.getD k 0 ≠ 0) : nD (D.set k 0) = nD D - 1 := by
  have h' : D[k] ≠ 0 := by simpa [List.getD, hk] using h
  unfold nD
  rw [List.countP_set (h := hk)]
  simp [h']
theorem nD_zero (n : Nat) : nD (List.replicate n 0) = 0 := by simp [nD, List.countP_replicate]

/-- An entry of a page: none, or one of a frame that is there. -/
def EntOk (n e : Nat) : Prop := e = 0 ∨ (e % 2 = 1 ∧ e % 64 < 16 ∧ e / 64 < n)
/-- The tables of a shadow in a memory of n frames, whose directory lies in frame d, and whose pool has the frames from f on, L says which are lent; Z: the bytes at first. -/
structure TInv (n d f : Nat) (Z : List Int) (s : SD) (B : List Int) (L : List Bool) : Prop where
  lD : s.D.length = 32
  lE : s.E.length = 512
  lU : s.U.length ≤ 16
  lB : B.length = 64 * n
  bB : Byts B
  nn : n ≤ 512
  dn : d + 1 < n
  pl : f + L.length ≤ n
  off : ∀ j, j < L.length → f + j ≠ d ∧ f + j ≠ d + 1
  tab : ∀ k, k < 32 → s.D.getD k 0 ≠ 0 → ∃ j, j < L.length ∧ L.getD j false = true ∧ s.D.getD k 0 = 64 * (f + j) + 7 ∧ ∀ m, m < 16 → wd B (64 * (f + j) + 4 * m) = s.E.getD (16 * k + m) 0
  inj : ∀ k k', k < 32 → k' < 32 → s.D.getD k 0 ≠ 0 → s.D.getD k 0 = s.D.getD k' 0 → k = k'
  no : ∀ k m, k < 32 → m < 16 → s.D.getD k 0 = 0 → s.E.getD (16 * k + m) 0 = 0
  ent : ∀ i, EntOk n (s.E.getD i 0)
  cnt : nTrue L = nD s.D
  up : s.U ≠ [] → ∀ k, 16 ≤ k → s.D.getD k 0 = 0
  uw : ∀ u ∈ s.U, u < 4294967296
  rest : ∀ a, a / 64 ≠ d → a / 64 ≠ d + 1 → ¬ (f ≤ a / 64 ∧ a / 64 < f + L.length) → B.getD a 0 = Z.getD a 0
/-- The directory's word k. -/
def dirW (s : SD) (k : Nat) : Nat := s.D.getD k 0 + if 16 ≤ k then s.U.getD (k - 16) 0 else 0
def DInv (d : Nat) (s : SD) (B : List Int) : Prop := ∀ k, k < 32 → wd B (64 * d + 4 * k) = dirW s k
theorem dirW_of {n d f : Nat} {Z : List Int} {s : SD} {B : List Int} {L : List Bool} (h : TInv n d f Z s B L) {k : Nat} (hD : s.D.getD k 0 ≠ 0 ∨ k < 16 ∨ s.U = []) : dirW s k = s.D.getD k 0 := by
  unfold dirW
  by_cases h1 : 16 ≤ k
  · rw [if_pos h1]
    have hU : s.U = [] := by
      rcases hD with hD | hD | hD
      · exact Classical.byContradiction fun hU => hD (h.up hU k h1)
      · omega
      · exact hD
    rw [hU]; rfl
  · rw [if_neg h1, Nat.add_zero]
/-- The same but for the directory's frames. -/
structure DirOnly (d : Nat) (B C : List Int) : Prop where
  len : C.length = B.length
  byts : Byts C
  same : ∀ a, a / 64 ≠ d → a / 64 ≠ d + 1 → C.getD a 0 = B.getD a 0
theorem TInv.dir {n d f : Nat} {Z : List Int} {s : SD} {B C : List Int} {L : List Bool} (h : TInv n d f Z s B L) (k : DirOnly d B C) : TInv n d f Z s C L :=
  { h with
    lB := k.len.trans h.lB
    bB := k.byts
    tab := fun x hx h0 => by
      obtain ⟨j, h1, h2, h3, h4⟩ := h.tab x hx h0
      have := h.off j h1
      exact ⟨j, h1, h2, h3, fun m hm => (wd_same fun i hi => k.same _ (by omega) (by omega)).trans (h4 m hm)⟩
    rest := fun a h1 h2 h3 => (k.same a h1 h2).trans (h.rest a h1 h2 h3) }

/-- An entry laid into its table, and the table's into the directory. -/
def layS (s : SD) (i e : Nat) : SD := { s with E := s.E.set i e }
def layB (s : SD) (d : Nat) (B : List Int) (i e : Nat) : List Int :=
  setW (setW B (64 * d + 4 * (i / 16)) (s.D.getD (i / 16) 0 : Nat)) (s.D.getD (i / 16) 0 - s.D.getD (i / 16) 0 % 64 + 4 * (i % 16)) (e : Nat)
theorem TInv.lay {n d f : Nat} {Z : List Int} {s : SD} {B : List Int} {L : List Bool} (h : TInv n d f Z s B L) {i e : Nat} (hi : i < 512) (hD : s.D.getD (i / 16) 0 ≠ 0) (he : EntOk n e)
    (dv : ∀ k, k < 32 → k ≠ i / 16 → wd B (64 * d + 4 * k) = dirW s k) : TInv n d f Z (layS s i e) (layB s d B i e) L ∧ DInv d (layS s i e) (layB s d B i e) := by
  obtain ⟨j, h1, h2, h3, h4⟩ := h.tab (i / 16) (by omega) hD
  have ho := h.off j h1
  have hn := h.nn
  have hp := h.pl
  have hd := h.dn
  have hB := h.lB
  have elt : e < 4294967296 := by rcases he with rfl | ⟨_, _, he⟩ <;> omega
  have hB2 : layB s d B i e = setW (setW B (64 * d + 4 * (i / 16)) ((64 * (f + j) + 7 : Nat) : Int)) (64 * (f + j) + 4 * (i % 16)) (e : Nat) := by
    unfold layB; rw [h3]; congr 1; omega
  have hl : (layB s d B i e).length = 64 * n := by rw [hB2, setW_len, setW_len]; exact hB
  refine ⟨{ h with lE := by simp [layS, h.lE], lB := hl, bB := by rw [hB2]; exact (h.bB.setW _ _).setW _ _, tab := fun k hk h0 => ?_, no := fun k m hk hm h0 => ?_, ent := fun x => ?_, rest := fun a a1 a2 a3 => ?_ }, fun k hk => ?_⟩
  · obtain ⟨j', g1, g2, g3, g4⟩ := h.tab k hk h0
    have ho' := h.off j' g1
    refine ⟨j', g1, g2, g3, fun m hm => ?_⟩
    rw [hB2]
    by_cases hk2 : k = i / 16
    · subst hk2
      obtain rfl : j' = j := by have : 64 * (f + j') + 7 = 64 * (f + j) + 7 := g3.symm.trans h3; omega
      by_cases hm2 : m = i % 16
      · subst hm2
        rw [wd_set (by rw [setW_len, hB]; omega) elt, show 16 * (i / 16) + i % 16 = i by omega]
        exact (gset_eq (by rw [h.lE]; exact hi) _).symm
      · rw [wd_other (by omega), wd_other (by omega), g4 m hm]
        exact (gset_ne (by omega) _).symm
    · have hj : j' ≠ j := fun ej => hk2 (h.inj k (i / 16) hk (by omega) h0 (by rw [g3, h3, ej]))
      rw [wd_other (by omega), wd_other (by omega), g4 m hm]
      exact (gset_ne (by omega) _).symm
  · have hk2 : k ≠ i / 16 := fun ek => hD (ek ▸ h0)
    rw [show (layS s i e).E.getD (16 * k + m) 0 = s.E.getD (16 * k + m) 0 from gset_ne (by omega) _]
    exact h.no k m hk hm h0
  · by_cases hx : x = i
    · subst hx; rw [show (layS s x e).E.getD x 0 = e from gset_eq (by rw [h.lE]; exact hi) _]; exact he
    · rw [show (layS s i e).E.getD x 0 = s.E.getD x 0 from gset_ne hx _]; exact h.ent x
  · rw [hB2, set_off _ _ _ _ (by omega), set_off _ _ _ _ (by omega)]; exact h.rest a a1 a2 a3
  · rw [hB2, wd_other (by omega)]
    show _ = dirW s k
    by_cases hk2 : k = i / 16
    · subst hk2
      rw [wd_set (by rw [hB]; omega) (by omega), dirW_of h (.inl hD), h3]
    · rw [wd_other (by omega)]; exact dv k hk hk2

/-- A new table. -/
def addS (s : SD) (k f : Nat) (L : List Bool) : SD := { s with D := s.D.set k (64 * (f + leastL L) + 7) }
theorem TInv.add {n d f : Nat} {Z : List Int} {s : SD} {B : List Int} {L : List Bool} (h : TInv n d f Z s B L) {k : Nat} (hk : k < 32) (h0 : s.D.getD k 0 = 0) (hl : leastL L < L.length) (hU : k < 16 ∨ s.U = []) :
    TInv n d f Z (addS s k f L) (zer B n (64 * (f + leastL L)) 64) (takeL L) := by
  have hat := leastL_at hl
  have hT : takeL L = L.set (leastL L) true := rfl
  have hlen : (takeL L).length = L.length := by rw [hT]; simp
  have hp := h.pl
  have hB := h.lB
  have hz : 64 * (f + leastL L) + 64 ≤ 64 * n := by omega
  have ho := h.off _ hl
  have tt : ∀ j, L.getD j false = true → (takeL L).getD j false = true ∧ j ≠ leastL L := fun j hj => by
    have : j ≠ leastL L := fun e => by rw [e, hat] at hj; cases hj
    exact ⟨by rw [hT]; simpa [List.getD, List.getElem?_set_ne (Ne.symm this)] using hj, this⟩
  have ne : ∀ k', k' < 32 → k' ≠ k → s.D.getD k' 0 ≠ 0 → s.D.getD k' 0 ≠ 64 * (f + leastL L) + 7 := fun k' hk' e h1 h2 => by
    obtain ⟨j, _, g2, g3, _⟩ := h.tab k' hk' h1
    have := (tt j g2).2
    omega
  have hkD : k < s.D.length := by rw [h.lD]; exact hk
  refine { h with lD := by simp [addS, h.lD], lB := by rw [zer_len]; exact hB, bB := zer_byts h.bB _ _ _, pl := by rw [hlen]; exact hp, off := by rw [hlen]; exact h.off, tab := fun k' hk' h1 => ?_, inj := fun k1 k2 g1 g2 g3 g4 => ?_, no := fun k' m hk' hm h1 => ?_, cnt := ?_, up := fun hu k' hk' => ?_, rest := fun a a1 a2 a3 => ?_ }
  · by_cases e : k' = k
    · subst e
      refine ⟨leastL L, by rw [hlen]; exact hl, by rw [hT]; simp [List.getD, hl], gset_eq hkD _, fun m hm => ?_⟩
      rw [zer_wd hB hz (by omega) (by omega)]
      exact (h.no k' m hk' hm h0).symm
    · rw [show (addS s k f L).D.getD k' 0 = s.D.getD k' 0 from gset_ne e _] at h1 ⊢
      obtain ⟨j, g1, g2, g3, g4⟩ := h.tab k' hk' h1
      have := tt j g2
      exact ⟨j, by rw [hlen]; exact g1, this.1, g3, fun m hm => (zer_other hB hz (by omega)).trans (g4 m hm)⟩
  · by_cases e1 : k1 = k
    · by_cases e2 : k2 = k
      · rw [e1, e2]
      · rw [show (addS s k f L).D.getD k2 0 = s.D.getD k2 0 from gset_ne e2 _] at g4
        have g5 : (addS s k f L).D.getD k1 0 = 64 * (f + leastL L) + 7 := by rw [e1]; exact gset_eq hkD _
        exact absurd (g4.symm.trans g5) (ne k2 g2 e2 (by rw [← g4, g5]; omega))
    · rw [show (addS s k f L).D.getD k1 0 = s.D.getD k1 0 from gset_ne e1 _] at g3 g4
      by_cases e2 : k2 = k
      · have g5 : (addS s k f L).D.getD k2 0 = 64 * (f + leastL L) + 7 := by rw [e2]; exact gset_eq hkD _
        exact absurd (g4.trans g5) (ne k1 g1 e1 g3)
      · rw [show (addS s k f L).D.getD k2 0 = s.D.getD k2 0 from gset_ne e2 _] at g4
        exact h.inj k1 k2 g1 g2 g3 g4
  · by_cases e : k' = k
    · subst e; exact h.no k' m hk' hm h0
    · rw [show (addS s k f L).D.getD k' 0 = s.D.getD k' 0 from gset_ne e _] at h1
      exact h.no k' m hk' hm h1
  · rw [hT, nTrue_ins hl hat, h.cnt]
    exact (nD_add hkD h0 (by omega)).symm
  · have e : k' ≠ k := fun e => by
      rcases hU with hU | hU
      · omega
      · exact hu hU
    rw [show (addS s k f L).D.getD k' 0 = s.D.getD k' 0 from gset_ne e _]
    exact h.up hu k' hk'
  · rw [hlen] at a3
    rw [zer_off hB hz (by omega)]; exact h.rest a a1 a2 a3
theorem add_dir {n d f : Nat} {Z : List Int} {s : SD} {B : List Int} {L : List Bool} (h : TInv n d f Z s B L) (hv : DInv d s B) {k : Nat} (hl : leastL L < L.length) :
    ∀ k', k' < 32 → k' ≠ k → wd (zer B n (64 * (f + leastL L)) 64) (64 * d + 4 * k') = dirW (addS s k f L) k' := by
  intro k' hk' e
  have ho := h.off _ hl
  have hp := h.pl
  rw [zer_other h.lB (by omega) (by omega), hv k' hk']
  unfold dirW
  rw [show (addS s k f L).D.getD k' 0 = s.D.getD k' 0 from gset_ne e _]
  rfl

/-- A table given back. -/
def zeroR (l : List Nat) (a b : Nat) : List Nat := l.take a ++ (List.replicate (b - a) 0 ++ l.drop b)
theorem zeroR_len {l : List Nat} {a b : Nat} (h : a ≤ b) (hb : b ≤ l.length) : (zeroR l a b).length = l.length := by simp [zeroR]; omega
theorem zeroR_get {l : List Nat} {a b : Nat} (h : a ≤ b) (hb : b ≤ l.length) (k : Nat) : (zeroR l a b).getD k 0 = if a ≤ k ∧ k < b then 0 else l.getD k 0 := by
  unfold zeroR
  simp only [List.getD_eq_getElem?_getD]
  by_cases h1 : k < a
  · rw [if_neg (by omega), List.getElem?_append_left (by simp; omega), List.getElem?_take_of_lt h1]
  · rw [List.getElem?_append_right (by simp; omega), List.length_take, Nat.min_eq_left (by omega)]
    by_cases h2 : k < b
    · rw [if_pos (by omega), List.getElem?_append_left (by simp; omega)]
      simp [List.getElem?_replicate]; split <;> rfl
    · rw [if_neg (by omega), List.getElem?_append_right (by simp; omega), List.length_replicate, List.getElem?_drop]
      congr 2; omega
theorem zeroR_same (l : List Nat) (a : Nat) : zeroR l a a = l := by simp [zeroR]
theorem getD_ext {l m : List Nat} (h : l.length = m.length) (hg : ∀ k, l.getD k 0 = m.getD k 0) : l = m := by
  refine List.ext_getElem h fun k h1 h2 => ?_
  have := hg k
  simpa [List.getD, h1, h2] using this
theorem zeroR_more {l : List Nat} {a b c : Nat} (h : a ≤ b) (h2 : b ≤ c) (hc : c ≤ l.length) : zeroR (zeroR l a b) b c = zeroR l a c := by
  have e1 := zeroR_len h (Nat.le_trans h2 hc)
  refine getD_ext ?_ fun k => ?_
  · rw [zeroR_len h2 (by rw [e1]; exact hc), e1, zeroR_len (by omega) hc]
  · rw [zeroR_get h2 (by rw [e1]; exact hc), zeroR_get h (by omega), zeroR_get (by omega) hc]
    by_cases g : a ≤ k ∧ k < c
    · rw [if_pos g]; split
      · rfl
      · rw [if_pos (by omega)]
    · rw [if_neg g, if_neg (by omega), if_neg (by omega)]
theorem zeroR_one {l : List Nat} {k : Nat} (hk : k < l.length) : l.set k 0 = zeroR l k (k + 1) := by
  refine getD_ext (by rw [zeroR_len (by omega) (by omega)]; simp) fun j => ?_
  rw [zeroR_get (by omega) (by omega)]
  by_cases e : j = k
  · subst e; rw [if_pos (by omega), gset_eq hk]
  · rw [if_neg (by omega), gset_ne e]
theorem zeroR_all {l : List Nat} {n : Nat} (h : l.length = n) : zeroR l 0 n = List.replicate n 0 := by
  subst h; simp [zeroR]
def backS (s : SD) (a b : Nat) : SD := { s with D := zeroR s.D a b, E := zeroR s.E (16 * a) (16 * b) }
theorem backS_same (s : SD) (a : Nat) : backS s a a = s := by simp [backS, zeroR_same]
theorem TInv.back1 {n d f : Nat} {Z : List Int} {s : SD} {B : List Int} {L : List Bool} (h : TInv n d f Z s B L) {k : Nat} (hk : k < 32) :
    TInv n d f Z (backS s k (k + 1)) B (if s.D.getD k 0 = 0 then L else giveL f L ((s.D.getD k 0 / 64 : Nat) : Int)) := by
  have hkD : k < s.D.length := by rw [h.lD]; exact hk
  have eD : (backS s k (k + 1)).D = s.D.set k 0 := (zeroR_one hkD).symm
  have gD : ∀ k', k' ≠ k → (backS s k (k + 1)).D.getD k' 0 = s.D.getD k' 0 := fun k' e => by rw [eD, gset_ne e]
  have gD0 : (backS s k (k + 1)).D.getD k 0 = 0 := by rw [eD, gset_eq hkD]
  have gE : ∀ i, (backS s k (k + 1)).E.getD i 0 = if 16 * k ≤ i ∧ i < 16 * (k + 1) then 0 else s.E.getD i 0 := fun i => zeroR_get (by omega) (by rw [h.lE]; omega) i
  -- what L becomes
  obtain ⟨L', hL', hlen, hsub, hcnt⟩ : ∃ L' : List Bool, L' = (if s.D.getD k 0 = 0 then L else giveL f L ((s.D.getD k 0 / 64 : Nat) : Int)) ∧ L'.length = L.length ∧ (∀ j, L.getD j false = true → s.D.getD k 0 ≠ 64 * (f + j) + 7 → L'.getD j false = true) ∧ nTrue L' = nD (s.D.set k 0) := by
    by_cases h0 : s.D.getD k 0 = 0
    · refine ⟨L, by rw [if_pos h0], rfl, fun j hj _ => hj, ?_⟩
      have : s.D.set k 0 = s.D := by
        refine getD_ext (by simp) fun j => ?_
        by_cases e : j = k
        · subst e; rw [gset_eq hkD, h0]
        · rw [gset_ne e]
      rw [this, h.cnt]
    · obtain ⟨j, g1, g2, g3, _⟩ := h.tab k hk h0
      have e1 : ((s.D.getD k 0 / 64 : Nat) : Int) = (f : Int) + j := by rw [g3]; omega
      refine ⟨_, rfl, by rw [if_neg h0, giveL_len], fun j' hj' hne => ?_, ?_⟩
      · rw [if_neg h0, e1]
        unfold giveL
        rw [if_pos (by omega), show ((f : Int) + j - f).toNat = j by omega]
        have : j' ≠ j := fun e => hne (by rw [e]; exact g3)
        simpa [List.getD, List.getElem?_set_ne (Ne.symm this)] using hj'
      · rw [if_neg h0, e1]
        unfold giveL
        rw [if_pos (by omega), show ((f : Int) + j - f).toNat = j by omega, nTrue_del g1 g2, h.cnt, nD_del hkD h0]
  rw [← hL']
  refine { h with lD := by rw [eD]; simp [h.lD], lE := by rw [show (backS s k (k + 1)).E = zeroR s.E (16 * k) (16 * (k + 1)) from rfl, zeroR_len (by omega) (by rw [h.lE]; omega)]; exact h.lE, pl := by rw [hlen]; exact h.pl, off := by rw [hlen]; exact h.off, tab := fun k' hk' h1 => ?_, inj := fun k1 k2 g1 g2 g3 g4 => ?_, no := fun k' m hk' hm h1 => ?_, ent := fun i => ?_, cnt := by rw [eD]; exact hcnt, up := fun hu k' hk' => ?_, rest := by rw [hlen]; exact h.rest }
  · have e : k' ≠ k := fun e => h1 (by rw [e]; exact gD0)
    rw [gD k' e] at h1 ⊢
    obtain ⟨j, g1, g2, g3, g4⟩ := h.tab k' hk' h1
    refine ⟨j, by rw [hlen]; exact g1, hsub j g2 (fun h2 => e (h.inj k' k hk' hk h1 (g3.trans h2.symm))), g3, fun m hm => ?_⟩
    rw [gE, if_neg (by omega)]; exact g4 m hm
  · have e1 : k1 ≠ k := fun e => g3 (by rw [e]; exact gD0)
    rw [gD k1 e1] at g3 g4
    have e2 : k2 ≠ k := fun e => g3 (by rw [g4, e]; exact gD0)
    rw [gD k2 e2] at g4
    exact h.inj k1 k2 g1 g2 g3 g4
  · rw [gE]
    by_cases e : k' = k
    · subst e; rw [if_pos (by omega)]
    · rw [gD k' e] at h1
      rw [if_neg (by omega)]; exact h.no k' m hk' hm h1
  · rw [gE]; split
    · exact .inl rfl
    · exact h.ent i
  · by_cases e : k' = k
    · subst e; exact gD0
    · rw [gD k' e]; exact h.up hu k' hk'
/-- The directory laid anew. -/
theorem wipe_only {n d f : Nat} {Z : List Int} {s : SD} {B : List Int} {L : List Bool} (h : TInv n d f Z s B L) : DirOnly d B (zer B n (64 * d) 128) :=
  ⟨zer_len _ _ _ _, zer_byts h.bB _ _ _, fun a h1 h2 => zer_off h.lB (by have := h.dn; omega) (by omega)⟩
/-- The upper words, the first k of them. -/
def upB (d : Nat) (U : List Nat) : Nat → List Int → List Int
  | 0, B => B
  | k + 1, B => setW (upB d U k B) (64 * d + 64 + 4 * k) (U.getD k 0 : Nat)
theorem upB_only {d n : Nat} {B : List Int} (U : List Nat) (hB : Byts B) (hl : B.length = 64 * n) (hd : d + 1 < n) : ∀ k, k ≤ 16 → DirOnly d B (upB d U k B)
  | 0, _ => ⟨rfl, hB, fun _ _ _ => rfl⟩
  | k + 1, hk => by
    have ih := upB_only U hB hl hd k (by omega)
    refine ⟨by rw [upB, setW_len]; exact ih.len, ih.byts.setW _ _, fun a h1 h2 => ?_⟩
    rw [upB, set_off _ _ _ _ (by omega)]; exact ih.same a h1 h2
theorem upB_at {d n : Nat} {B : List Int} {U : List Nat} (hB : Byts B) (hl : B.length = 64 * n) (hd : d + 1 < n) (hu : ∀ u ∈ U, u < 4294967296) : ∀ k, k ≤ 16 → ∀ j, wd (upB d U k B) (64 * d + 4 * j) = if 16 ≤ j ∧ j < 16 + k then U.getD (j - 16) 0 else wd B (64 * d + 4 * j)
  | 0, _, j => by rw [if_neg (by omega)]; rfl
  | k + 1, hk, j => by
    have ih := upB_at hB hl hd hu k (by omega) j
    have ho := upB_only U hB hl hd k (by omega)
    rw [upB]
    by_cases e : j = 16 + k
    · subst e
      rw [if_pos (by omega), show 16 + k - 16 = k by omega, show 64 * d + 4 * (16 + k) = 64 * d + 64 + 4 * k by omega]
      refine wd_set (by rw [ho.len, hl]; omega) ?_
      by_cases g : k < U.length
      · have : U.getD k 0 = U[k] := by simp [List.getD, g]
        rw [this]; exact hu _ (List.getElem_mem g)
      · rw [show U.getD k 0 = 0 by simp [List.getD, List.getElem?_eq_none (Nat.le_of_not_lt g)]]; omega
    · rw [wd_other (by omega), ih]
      by_cases g : 16 ≤ j ∧ j < 16 + k
      · rw [if_pos g, if_pos (by omega)]
      · rw [if_neg g, if_neg (by omega)]
/-- Behind giveBack, Clear's or Upper's words. -/
theorem TInv.upped {n d f : Nat} {Z : List Int} {s : SD} {B : List Int} {L : List Bool} (h : TInv n d f Z s B L) (h0 : ∀ k, 16 ≤ k → s.D.getD k 0 = 0) (hv : ∀ k, k < 16 → wd B (64 * d + 4 * k) = s.D.getD k 0) :
    TInv n d f Z s (upB d s.U 16 B) L ∧ DInv d s (upB d s.U 16 B) := by
  refine ⟨h.dir (upB_only _ h.bB h.lB h.dn 16 (Nat.le_refl _)), fun k hk => ?_⟩
  rw [upB_at h.bB h.lB h.dn h.uw 16 (Nat.le_refl _)]
  unfold dirW
  by_cases g : 16 ≤ k
  · rw [if_pos (by omega), if_pos g, h0 k g, Nat.zero_add]
  · rw [if_neg (by omega), if_neg g, Nat.add_zero]; exact hv k (by omega)
theorem TInv.withU {n d f : Nat} {Z : List Int} {s : SD} {B : List Int} {L : List Bool} (h : TInv n d f Z s B L) (h0 : ∀ k, 16 ≤ k → s.D.getD k 0 = 0) (U : List Nat) (hl : U.length ≤ 16) (hw : ∀ u ∈ U, u < 4294967296) : TInv n d f Z { s with U := U } B L :=
  { h with lU := hl, up := fun _ => h0, uw := hw }
theorem new_inv {n d f : Nat} {B : List Int} {c : Nat} (lB : B.length = 64 * n) (bB : Byts B) (nn : n ≤ 512) (dn : d + 1 < n) (pl : f + c ≤ n) (off : ∀ j, j < c → f + j ≠ d ∧ f + j ≠ d + 1) :
    TInv n d f B sd0 (zer B n (64 * d) 128) (List.replicate c false) ∧ DInv d sd0 (zer B n (64 * d) 128) := by
  have hD : ∀ k, sd0.D.getD k 0 = 0 := fun k => grep _ _
  have hE : ∀ k, sd0.E.getD k 0 = 0 := fun k => grep _ _
  refine ⟨⟨List.length_replicate, List.length_replicate, Nat.zero_le _, by rw [zer_len]; exact lB, zer_byts bB _ _ _, nn, dn, by simpa using pl, by simpa using off, fun k _ h => absurd (hD k) h, fun k _ _ _ h => absurd (hD k) h, fun _ _ _ _ _ => hE _, fun i => .inl (hE i), by rw [nTrue_none]; exact (nD_zero 32).symm, fun h => absurd rfl h, fun u hu => absurd hu (by show u ∉ ([] : List Nat); simp), fun a h1 h2 _ => zer_off lB (by omega) (by omega)⟩, fun k hk => ?_⟩
  rw [zer_wd lB (by omega) (by omega) (by omega)]
  unfold dirW
  rw [hD, Nat.zero_add]
  split
  · show (0 : Nat) = ([] : List Nat).getD _ 0
    simp
  · rfl
/-- Where a walk leads. -/
theorem look_sd_none {n d f : Nat} {Z : List Int} {s : SD} {B : List Int} {L : List Bool} (h : TInv n d f Z s B L) (hv : DInv d s B) {va : Nat} (hva : va < 4294967296) (hU : va < 16384 ∨ s.U = []) (he : 32768 ≤ va ∨ s.E.getD (va / 64) 0 = 0) :
    lookF (wdF B (List.range n)) (64 * n) (64 * d) 32 va = none := by
  have hdn := h.dn
  have hnn := h.nn
  have hpl := h.pl
  unfold lookF
  by_cases hb : ((va / 1024 : Nat) : Int) < 32
  · rw [if_pos hb]
    have hk : va / 1024 < 32 := by omega
    have e1 : dirAt (64 * d) va = 64 * d + 4 * (va / 1024) := by unfold dirAt; omega
    have e2 : wdF B (List.range n) (dirAt (64 * d) va) = some (s.D.getD (va / 1024) 0) := by
      rw [e1]; unfold wdF
      rw [List.length_range, if_pos (by omega), pos_range (by omega)]
      exact congrArg some ((hv _ hk).trans (dirW_of h (by rcases hU with g | g; exact .inr (.inl (by omega)); exact .inr (.inr g))))
    rw [e2]
    unfold look1
    simp only
    by_cases h0 : s.D.getD (va / 1024) 0 = 0
    · rw [if_pos (by rw [h0])]
    · obtain ⟨j, g1, g2, g3, g4⟩ := h.tab _ hk h0
      rw [if_neg (by rw [g3]; omega)]
      have e3 : tabAt (s.D.getD (va / 1024) 0) va = 64 * (f + j) + 4 * (va / 64 % 16) := by unfold tabAt; rw [g3]; omega
      have e4 : wdF B (List.range n) (64 * (f + j) + 4 * (va / 64 % 16)) = some (s.E.getD (va / 64) 0) := by
        unfold wdF
        rw [List.length_range, if_pos (by omega), pos_range (by omega)]
        refine congrArg some ((g4 _ (by omega)).trans ?_)
        congr 1; omega
      rw [e3, e4]
      unfold look2
      simp only
      rw [if_pos]
      rcases he with he | he
      · omega
      · rw [he]
  · rw [if_neg hb]
theorem look_sd_some {n d f : Nat} {Z : List Int} {s : SD} {B : List Int} {L : List Bool} (h : TInv n d f Z s B L) (hv : DInv d s B) {va : Nat} (hva : va < 32768) (hU : va < 16384 ∨ s.U = []) (he : s.E.getD (va / 64) 0 ≠ 0) :
    ∃ y, lookF (wdF B (List.range n)) (64 * n) (64 * d) 32 va = some y ∧ y.page = s.E.getD (va / 64) 0 / 64 ∧ y.bits = s.E.getD (va / 64) 0 % 64 ∧ y.at_ = 64 * (s.E.getD (va / 64) 0 / 64) + va % 64 := by
  have hdn := h.dn
  have hnn := h.nn
  have hpl := h.pl
  have hk : va / 1024 < 32 := by omega
  have e1 : dirAt (64 * d) va = 64 * d + 4 * (va / 1024) := by unfold dirAt; omega
  have e2 : wdF B (List.range n) (dirAt (64 * d) va) = some (s.D.getD (va / 1024) 0) := by
    rw [e1]; unfold wdF
    rw [List.length_range, if_pos (by omega), pos_range (by omega)]
    exact congrArg some ((hv _ hk).trans (dirW_of h (by rcases hU with g | g; exact .inr (.inl (by omega)); exact .inr (.inr g))))
  have h0 : s.D.getD (va / 1024) 0 ≠ 0 := fun h0 => he (by have := h.no (va / 1024) (va / 64 % 16) hk (by omega) h0; rwa [show 16 * (va / 1024) + va / 64 % 16 = va / 64 by omega] at this)
  obtain ⟨j, g1, g2, g3, g4⟩ := h.tab _ hk h0
  have e3 : tabAt (s.D.getD (va / 1024) 0) va = 64 * (f + j) + 4 * (va / 64 % 16) := by unfold tabAt; rw [g3]; omega
  have e4 : wdF B (List.range n) (tabAt (s.D.getD (va / 1024) 0) va) = some (s.E.getD (va / 64) 0) := by
    rw [e3]; unfold wdF
    rw [List.length_range, if_pos (by omega), pos_range (by omega)]
    refine congrArg some ((g4 _ (by omega)).trans ?_)
    congr 1; omega
  rcases h.ent (va / 64) with g | ⟨o1, o2, o3⟩
  · exact absurd g he
  · refine ⟨_, lookF_of (by omega) e2 (by rw [g3]; omega) e4 (by omega) (by unfold pageAt; omega), ?_, ?_, ?_⟩
    · show pageAt _ va / 64 = _
      unfold pageAt; omega
    · show joinN _ _ = _
      rw [g3]
      unfold joinN
      rw [show (64 * (f + j) + 7) % 2 = 1 by omega, show (64 * (f + j) + 7) / 2 % 2 = 1 by omega, show (64 * (f + j) + 7) / 4 % 2 = 1 by omega, show (64 * (f + j) + 7) / 8 % 2 = 0 by omega]
      generalize s.E.getD (va / 64) 0 = e at o1 o2
      split <;> omega
    · show pageAt _ va = _
      unfold pageAt; omega
end Go.Proofs.Ythgkkjcemjadoaa
