/- A shadow where it lies: its box, the memory and the pool that it goes by. -/
import Derived.Test.YthgkkjcemjadoaaSdpure
import Derived.Test.YthgkkjcemjadoaaVsli
namespace Go.Proofs.Ythgkkjcemjadoaa
open Go.RowKit
set_option linter.unusedVariables false
set_option linter.unusedSimpArgs false

def u32s (L : List Nat) : List Value := L.map fun x : Nat => Value.int .u32 x
theorem u32s_len (L : List Nat) : (u32s L).length = L.length := by simp [u32s]
theorem u32s_at {L : List Nat} {k : Nat} (h : k < L.length) : (u32s L)[k]? = some (.int .u32 (L.getD k 0 : Nat)) := by simp [u32s, h, List.getD]
theorem u32s_set (L : List Nat) (k x : Nat) : (u32s L).set k (.int .u32 x) = u32s (L.set k x) := by simp [u32s, List.map_set]
theorem u32s_ones (L : List Nat) : ∀ u ∈ u32s L, u.oneCell' = true := by
  intro u hu
  simp only [u32s, List.mem_map] at hu
  obtain ⟨x, _, rfl⟩ := hu; rfl
theorem u32s_app (l : List Nat) (a : Nat) : u32s l ++ [.int .u32 a] = u32s (l ++ [a]) := by simp [u32s]
/-- A shadow's cells. -/
def sdV (v : Value) (q r : Nat) (s : SD) (uv : Value) : List Value := v :: .pointer (some ⟨q, 0, none⟩) :: .int .u32 r :: (u32s s.D ++ (u32s s.E ++ [uv]))
theorem sdV_len {v : Value} {q r : Nat} {s : SD} {uv : Value} (hD : s.D.length = 32) (hE : s.E.length = 512) : (sdV v q r s uv).length = 548 := by simp [sdV, u32s, hD, hE]
theorem sdV_D {v : Value} {q r : Nat} {s : SD} {uv : Value} (hD : s.D.length = 32) {k : Nat} (hk : k < 32) : (sdV v q r s uv)[3 + k]? = some (.int .u32 (s.D.getD k 0 : Nat)) := by
  rw [Nat.add_comm]
  show (u32s s.D ++ (u32s s.E ++ [uv]))[k]? = _
  rw [List.getElem?_append_left (by rw [u32s_len, hD]; exact hk), u32s_at (by rw [hD]; exact hk)]
theorem sdV_E {v : Value} {q r : Nat} {s : SD} {uv : Value} (hD : s.D.length = 32) (hE : s.E.length = 512) {k : Nat} (hk : k < 512) : (sdV v q r s uv)[35 + k]? = some (.int .u32 (s.E.getD k 0 : Nat)) := by
  rw [show 35 + k = 32 + k + 3 by omega]
  show (u32s s.D ++ (u32s s.E ++ [uv]))[32 + k]? = _
  rw [List.getElem?_append_right (by rw [u32s_len, hD]; omega), u32s_len, hD, show 32 + k - 32 = k by omega, List.getElem?_append_left (by rw [u32s_len, hE]; exact hk), u32s_at (by rw [hE]; exact hk)]
theorem sdV_U {v : Value} {q r : Nat} {s : SD} {uv : Value} (hD : s.D.length = 32) (hE : s.E.length = 512) : (sdV v q r s uv)[547]? = some uv := by
  show (u32s s.D ++ (u32s s.E ++ [uv]))[544]? = _
  rw [List.getElem?_append_right (by rw [u32s_len, hD]; omega), u32s_len, hD, List.getElem?_append_right (by rw [u32s_len, hE]; omega), u32s_len, hE]
  rfl
theorem sdV_setD {v : Value} {q r : Nat} {s : SD} {uv : Value} (hD : s.D.length = 32) {k : Nat} (hk : k < 32) (x : Nat) : (sdV v q r s uv).set (3 + k) (.int .u32 x) = sdV v q r { s with D := s.D.set k x } uv := by
  rw [Nat.add_comm]
  show v :: _ :: _ :: (u32s s.D ++ (u32s s.E ++ [uv])).set k _ = _
  rw [List.set_append_left _ _ (by rw [u32s_len, hD]; exact hk), u32s_set]
  rfl
theorem sdV_setE {v : Value} {q r : Nat} {s : SD} {uv : Value} (hD : s.D.length = 32) (hE : s.E.length = 512) {k : Nat} (hk : k < 512) (x : Nat) : (sdV v q r s uv).set (35 + k) (.int .u32 x) = sdV v q r { s with E := s.E.set k x } uv := by
  rw [show 35 + k = 32 + k + 3 by omega]
  show v :: _ :: _ :: (u32s s.D ++ (u32s s.E ++ [uv])).set (32 + k) _ = _
  rw [List.set_append_right _ _ (by rw [u32s_len, hD]; omega), u32s_len, hD, show 32 + k - 32 = k by omega, List.set_append_left _ _ (by rw [u32s_len, hE]; exact hk), u32s_set]
  rfl
theorem sdV_setU {v : Value} {q r : Nat} {s : SD} {uv : Value} (hD : s.D.length = 32) (hE : s.E.length = 512) (x : Value) : (sdV v q r s uv).set 547 x = sdV v q r s x := by
  show v :: _ :: _ :: (u32s s.D ++ (u32s s.E ++ [uv])).set 544 _ = _
  rw [List.set_append_right _ _ (by rw [u32s_len, hD]; omega), u32s_len, hD, List.set_append_right _ _ (by rw [u32s_len, hE]; omega), u32s_len, hE]
  rfl
theorem sdV_zero {v : Value} {q r : Nat} {s : SD} {uv : Value} (hD : s.D.length = 32) (hE : s.E.length = 512) {k : Nat} (hk : k < 32) :
    (sdV v q r s uv).take (35 + 16 * k) ++ List.replicate 16 (.int .u32 0) ++ (sdV v q r s uv).drop (35 + 16 * k + 16) = sdV v q r { s with E := zeroR s.E (16 * k) (16 * (k + 1)) } uv := by
  have h1 : (sdV v q r s uv).take (35 + 16 * k) = v :: .pointer (some ⟨q, 0, none⟩) :: .int .u32 r :: (u32s s.D ++ (u32s s.E).take (16 * k)) := by
    rw [show 35 + 16 * k = 32 + 16 * k + 3 by omega]
    show v :: _ :: _ :: (u32s s.D ++ (u32s s.E ++ [uv])).take (32 + 16 * k) = _
    rw [List.take_append, u32s_len, hD, List.take_of_length_le (by rw [u32s_len, hD]; omega), show 32 + 16 * k - 32 = 16 * k by omega, List.take_append_of_le_length (by rw [u32s_len, hE]; omega)]
  have h2 : (sdV v q r s uv).drop (35 + 16 * k + 16) = (u32s s.E).drop (16 * (k + 1)) ++ [uv] := by
    rw [show 35 + 16 * k + 16 = 32 + 16 * (k + 1) + 3 by omega]
    show (u32s s.D ++ (u32s s.E ++ [uv])).drop (32 + 16 * (k + 1)) = _
    rw [List.drop_append, u32s_len, hD, List.drop_of_length_le (by rw [u32s_len, hD]; omega), show 32 + 16 * (k + 1) - 32 = 16 * (k + 1) by omega, List.drop_append_of_le_length (by rw [u32s_len, hE]; omega), List.nil_append]
  have h3 : u32s (zeroR s.E (16 * k) (16 * (k + 1))) = (u32s s.E).take (16 * k) ++ (List.replicate 16 (.int .u32 0) ++ (u32s s.E).drop (16 * (k + 1))) := by
    unfold zeroR u32s
    rw [show 16 * (k + 1) - 16 * k = 16 by omega]
    simp [List.map_append, List.map_take, List.map_drop]
  rw [h1, h2]
  unfold sdV
  simp only
  rw [h3]
  simp

/-- At p lies a shadow of a memory v, a pool at q, with its directory in frame d; the blocks F are its own besides. -/
structure ShAt (w : World) (p : Nat) (v : Value) (q d : Nat) (s : SD) (F : List Nat) : Prop where
  box : ∃ uv, w.heap[p]? = some (.cells (sdV v q (64 * d) s uv).toArray 90 (0, 0)) ∧ Sli w 34 1 uv s.U.length (u32s s.U) F
  lD : s.D.length = 32
  lE : s.E.length = 512
theorem Sli.tag {w : World} {e : TypeId} {z : Nat} {v : Value} {n : Nat} {xs : List Value} {F : List Nat} (h : Sli w e z v n xs F) {g : Nat} (hg : g ∈ F) : ∃ cur : List Value, w.heap[g]? = some (.cells cur.toArray e (0, 0)) := by
  rcases h with ⟨_, ⟨_, _, rfl⟩ | ⟨g', _, _, cur, _, rfl, hh, _⟩⟩
  · simp at hg
  · obtain rfl : g = g' := by simpa using hg
    exact ⟨cur, hh⟩
theorem ShAt.put {w w' : World} {p : Nat} {v : Value} {q d : Nat} {s : SD} {F l : List Nat} (h : ShAt w p v q d s F) (k : Put l w w') (h1 : p ∉ l) (h2 : ∀ g ∈ F, g ∉ l) : ShAt w' p v q d s F := by
  obtain ⟨⟨uv, hb, hs⟩, a, b⟩ := h
  exact ⟨⟨uv, k.keeps hb h1, hs.put k h2⟩, a, b⟩
theorem ShAt.kep {w w' : World} {p : Nat} {v : Value} {q d : Nat} {s : SD} {F : List Nat} (h : ShAt w p v q d s F) (k : Kep w w') : ShAt w' p v q d s F := h.put (l := []) (Put.of_kep k) (by simp) (by simp)
theorem ShAt.blk {w : World} {p : Nat} {v : Value} {q d : Nat} {s : SD} {F : List Nat} (h : ShAt w p v q d s F) : ∃ cs, w.heap[p]? = some (.cells cs 90 (0, 0)) := by
  obtain ⟨⟨uv, hb, hs⟩, a, b⟩ := h; exact ⟨_, hb⟩
theorem ShAt.nf {w : World} {p : Nat} {v : Value} {q d : Nat} {s : SD} {F : List Nat} (h : ShAt w p v q d s F) : p ∉ F := by
  obtain ⟨⟨uv, hb, hs⟩, a, b⟩ := h
  intro hp
  obtain ⟨cur, hc⟩ := hs.tag hp
  rw [hb] at hc; simp at hc
theorem ShAt.c0 {w : World} {p : Nat} {v : Value} {q d : Nat} {s : SD} {F : List Nat} (h : ShAt w p v q d s F) : w.cell? ⟨p, 0, none⟩ = some v := by
  obtain ⟨⟨uv, hb, hs⟩, a, b⟩ := h; rw [cell_of_block hb]; rfl
theorem ShAt.c1 {w : World} {p : Nat} {v : Value} {q d : Nat} {s : SD} {F : List Nat} (h : ShAt w p v q d s F) : w.cell? ⟨p, 1, none⟩ = some (.pointer (some ⟨q, 0, none⟩)) := by
  obtain ⟨⟨uv, hb, hs⟩, a, b⟩ := h; rw [cell_of_block hb]; rfl
theorem ShAt.c2 {w : World} {p : Nat} {v : Value} {q d : Nat} {s : SD} {F : List Nat} (h : ShAt w p v q d s F) : w.cell? ⟨p, 2, none⟩ = some (.int .u32 (64 * d : Nat)) := by
  obtain ⟨⟨uv, hb, hs⟩, a, b⟩ := h; rw [cell_of_block hb]; rfl
theorem ShAt.cD {w : World} {p : Nat} {v : Value} {q d : Nat} {s : SD} {F : List Nat} (h : ShAt w p v q d s F) {k : Nat} (hk : k < 32) : w.cell? ⟨p, 3 + k, none⟩ = some (.int .u32 (s.D.getD k 0 : Nat)) := by
  obtain ⟨⟨uv, hb, hs⟩, a, b⟩ := h; rw [cell_of_block hb, List.getElem?_toArray]; exact sdV_D a hk
theorem ShAt.cE {w : World} {p : Nat} {v : Value} {q d : Nat} {s : SD} {F : List Nat} (h : ShAt w p v q d s F) {k : Nat} (hk : k < 512) : w.cell? ⟨p, 35 + k, none⟩ = some (.int .u32 (s.E.getD k 0 : Nat)) := by
  obtain ⟨⟨uv, hb, hs⟩, a, b⟩ := h; rw [cell_of_block hb, List.getElem?_toArray]; exact sdV_E a b hk
theorem ShAt.cU {w : World} {p : Nat} {v : Value} {q d : Nat} {s : SD} {F : List Nat} (h : ShAt w p v q d s F) : ∃ (x : Option Addr) (c : Nat), w.cell? ⟨p, 547, none⟩ = some (.slice x s.U.length c) ∧ Sli w 34 1 (.slice x s.U.length c) s.U.length (u32s s.U) F := by
  obtain ⟨⟨uv, hb, hs⟩, a, b⟩ := h
  rcases hs.form with ⟨rfl, h0, _⟩ | ⟨g, off, cap, rfl, _⟩
  · refine ⟨none, 0, ?_, ?_⟩
    · rw [cell_of_block hb, List.getElem?_toArray, sdV_U a b, h0]
    · rw [h0] at hs ⊢; exact hs
  · exact ⟨_, cap, by rw [cell_of_block hb, List.getElem?_toArray, sdV_U a b], hs⟩
theorem ShAt.fz {w : World} {p : Nat} {v : Value} {q d : Nat} {s : SD} {F : List Nat} (h : ShAt w p v q d s F) (k : Nat) : w.frozen? ⟨p, k, none⟩ = false := by
  obtain ⟨⟨uv, hb, hs⟩, a, b⟩ := h; simp [World.frozen?, hb]
theorem ShAt.setD {w : World} {p : Nat} {v : Value} {q d : Nat} {s : SD} {F : List Nat} (h : ShAt w p v q d s F) {k : Nat} (hk : k < 32) (x : Nat) : ShAt (w.setCell ⟨p, 3 + k, none⟩ (.int .u32 x)) p v q d { s with D := s.D.set k x } F := by
  have nf := h.nf
  obtain ⟨⟨uv, hb, hs⟩, a, b⟩ := h
  refine ⟨⟨uv, (heap_setCell_row hb _).trans ?_, hs.put ((Put.refl (l := [p]) _).setCell (by simp) _) (fun g hg => by simp; rintro rfl; exact nf hg)⟩, by simpa using a, b⟩
  rw [← sdV_setD a hk, List.setIfInBounds_toArray]
theorem ShAt.setE {w : World} {p : Nat} {v : Value} {q d : Nat} {s : SD} {F : List Nat} (h : ShAt w p v q d s F) {k : Nat} (hk : k < 512) (x : Nat) : ShAt (w.setCell ⟨p, 35 + k, none⟩ (.int .u32 x)) p v q d { s with E := s.E.set k x } F := by
  have nf := h.nf
  obtain ⟨⟨uv, hb, hs⟩, a, b⟩ := h
  refine ⟨⟨uv, (heap_setCell_row hb _).trans ?_, hs.put ((Put.refl (l := [p]) _).setCell (by simp) _) (fun g hg => by simp; rintro rfl; exact nf hg)⟩, a, by simpa using b⟩
  rw [← sdV_setE a b hk, List.setIfInBounds_toArray]
theorem ShAt.zeroE {w : World} {p : Nat} {v : Value} {q d : Nat} {s : SD} {F : List Nat} (h : ShAt w p v q d s F) {k : Nat} (hk : k < 32) : ShAt (w.setCells p (35 + 16 * k) (List.replicate 16 (.int .u32 0))) p v q d { s with E := zeroR s.E (16 * k) (16 * (k + 1)) } F := by
  have nf := h.nf
  obtain ⟨⟨uv, hb, hs⟩, a, b⟩ := h
  have hl := sdV_len (v := v) (q := q) (r := 64 * d) (s := s) (uv := uv) a b
  refine ⟨⟨uv, (heap_setCells_row _ _ _ _ hb (by rw [hl]; simp; omega)).trans ?_, hs.put (Put.setCells (l := [p]) (by simp) _ _ _ (Put.refl _)) (fun g hg => by simp; rintro rfl; exact nf hg)⟩, a, by rw [zeroR_len (by omega) (by rw [b]; omega)]; exact b⟩
  rw [← sdV_zero a b hk]
  rw [List.length_replicate]
theorem ShAt.setU {w w' : World} {p : Nat} {v : Value} {q d : Nat} {s : SD} {F F' : List Nat} {x : Value} {U : List Nat} (h : ShAt w p v q d s F) (hs : Sli w 34 1 x U.length (u32s U) F') : ShAt (w.setCell ⟨p, 547, none⟩ x) p v q d { s with U := U } F' := by
  obtain ⟨⟨uv, hb, _⟩, a, b⟩ := h
  refine ⟨⟨x, (heap_setCell_row hb _).trans ?_, hs.put ((Put.refl (l := [p]) _).setCell (by simp) _) (fun g hg => ?_)⟩, a, b⟩
  · rw [List.setIfInBounds_toArray, sdV_setU a b]; rfl
  · simp; rintro rfl
    obtain ⟨cur, hc⟩ := hs.tag hg
    rw [hb] at hc; simp at hc

/-- Blocks of a shadow's, told by what they hold. -/
def Tagd (w : World) (R : Nat) (l : List Nat) : Prop := ∀ g ∈ l, g = R ∨ ∀ cs t fr, w.heap[g]? = some (.cells cs t fr) → t ≠ 99 ∧ t ≠ 52
theorem ram_tags {w w' : World} {v : Value} {R : Nat} {ix l : List Nat} (h : Ram w v R ix) (k : Put l w w') (ht : Tagd w R l) : Ram w' v R ix := by
  rcases h with h | ⟨h, p, e, hp, n⟩ | ⟨p, F, e, hp, hF, n1, n2, hn⟩
  · exact .inl h
  · exact .inr (.inl ⟨h, p, e, k.keeps hp (fun hm => (ht p hm).elim (fun e => n e) fun e => (e _ _ _ hp).1 rfl), n⟩)
  · exact .inr (.inr ⟨p, F, e, k.keeps hp (fun hm => (ht p hm).elim (fun e => n1 e) fun e => (e _ _ _ hp).1 rfl), k.keeps hF (fun hm => (ht F hm).elim (fun e => n2 e) fun e => (e _ _ _ hF).2 rfl), n1, n2, hn⟩)
/-- A shadow at p with its memory (bytes B in the row R) and its pool at q. -/
structure ShW (w : World) (p pv R n d f q M : Nat) (Z : List Int) (s : SD) (B : List Int) (L : List Bool) (g m : Int) (F : List Nat) : Prop where
  sh : ShAt w p (.pointer (some ⟨pv, 0, none⟩)) q d s F
  ram : Ram w (.pointer (some ⟨pv, 0, none⟩)) R (List.range n)
  row : RowB w R B
  pool : PoolAt w q M f L g m
  inv : TInv n d f Z s B L
/-- The shadow's blocks. -/
def shB (p R q M : Nat) (F : List Nat) : List Nat := p :: R :: q :: M :: F
theorem ShW.bnil {w : World} {p pv R n d f q M : Nat} {Z : List Int} {s : SD} {B : List Int} {L : List Bool} {g m : Int} {F : List Nat} (h : ShW w p pv R n d f q M Z s B L g m F) : B ≠ [] := by
  intro e
  have := h.inv.lB
  have := h.inv.dn
  rw [e] at *
  simp at *
  omega
theorem ShW.tags {w : World} {p pv R n d f q M : Nat} {Z : List Int} {s : SD} {B : List Int} {L : List Bool} {g m : Int} {F : List Nat} (h : ShW w p pv R n d f q M Z s B L g m F) : Tagd w R (shB p R q M F) := by
  obtain ⟨cs0, hb⟩ := h.sh.blk
  obtain ⟨⟨uv, _, hs⟩, _, _⟩ := h.sh
  have hq := h.pool.box
  obtain ⟨_, ⟨es, c, hM, _⟩, _⟩ := h.pool.set
  intro x hx
  simp only [shB, List.mem_cons] at hx
  rcases hx with rfl | rfl | rfl | rfl | hx
  · exact .inr fun cs t fr hc => by rw [hb] at hc; simp at hc; obtain ⟨_, rfl, _⟩ := hc; exact ⟨by decide, by decide⟩
  · exact .inl rfl
  · exact .inr fun cs t fr hc => by rw [hq] at hc; simp at hc; obtain ⟨_, rfl, _⟩ := hc; exact ⟨by decide, by decide⟩
  · exact .inr fun cs t fr hc => by rw [hM] at hc; simp at hc
  · obtain ⟨cur, hg⟩ := hs.tag hx
    exact .inr fun cs t fr hc => by rw [hg] at hc; simp at hc; obtain ⟨_, rfl, _⟩ := hc; exact ⟨by decide, by decide⟩
/-- That the blocks differ. -/
theorem ShW.ne {w : World} {p pv R n d f q M : Nat} {Z : List Int} {s : SD} {B : List Int} {L : List Bool} {g m : Int} {F : List Nat} (h : ShW w p pv R n d f q M Z s B L g m F) : p ≠ R ∧ p ≠ q ∧ p ≠ M ∧ R ≠ q ∧ R ≠ M ∧ q ≠ M ∧ (∀ x ∈ F, x ≠ p ∧ x ≠ R ∧ x ≠ q ∧ x ≠ M) := by
  obtain ⟨cs0, hb⟩ := h.sh.blk
  obtain ⟨⟨uv, _, hs⟩, _, _⟩ := h.sh
  have hq := h.pool.box
  obtain ⟨_, ⟨es, c, hM, _⟩, _⟩ := h.pool.set
  have hR := h.row h.bnil
  refine ⟨?_, ?_, ?_, ?_, ?_, ?_, fun x hx => ?_⟩
  · rintro rfl; rw [hb] at hR; simp at hR
  · rintro rfl; rw [hb] at hq; simp at hq
  · rintro rfl; rw [hb] at hM; simp at hM
  · rintro rfl; rw [hR] at hq; simp at hq
  · rintro rfl; rw [hR] at hM; simp at hM
  · rintro rfl; rw [hq] at hM; simp at hM
  · obtain ⟨cur, hg⟩ := hs.tag hx
    refine ⟨?_, ?_, ?_, ?_⟩
    · rintro rfl; rw [hg] at hb; simp at hb
    · rintro rfl; rw [hg] at hR; simp at hR
    · rintro rfl; rw [hg] at hq; simp at hq
    · rintro rfl; rw [hg] at hM; simp at hM
/-- What else turns leaves it be. -/
def Apt (w : World) (p pv R q M : Nat) (F l : List Nat) : Prop := (∀ g ∈ shB p R q M F, g ∉ l) ∧ Off w (.pointer (some ⟨pv, 0, none⟩)) l
theorem ShW.put {w w' : World} {p pv R n d f q M : Nat} {Z : List Int} {s : SD} {B : List Int} {L : List Bool} {g m : Int} {F l : List Nat} (h : ShW w p pv R n d f q M Z s B L g m F) (k : Put l w w') (ha : Apt w p pv R q M F l) : ShW w' p pv R n d f q M Z s B L g m F := by
  obtain ⟨h1, h2⟩ := ha
  simp only [shB, List.mem_cons, forall_eq_or_imp] at h1
  exact ⟨h.sh.put k h1.1 h1.2.2.2.2, h.ram.off k h2, h.row.put k h1.2.1, h.pool.put k h1.2.2.1 h1.2.2.2.1, h.inv⟩
theorem ShW.kep {w w' : World} {p pv R n d f q M : Nat} {Z : List Int} {s : SD} {B : List Int} {L : List Bool} {g m : Int} {F : List Nat} (h : ShW w p pv R n d f q M Z s B L g m F) (k : Kep w w') : ShW w' p pv R n d f q M Z s B L g m F :=
  ⟨h.sh.kep k, h.ram.kep k, h.row.kep k, h.pool.kep k, h.inv⟩
/-- The memory's row turns. -/
theorem ShW.mem {w w' : World} {p pv R n d f q M : Nat} {Z : List Int} {s : SD} {B C : List Int} {L : List Bool} {g m : Int} {F : List Nat} (h : ShW w p pv R n d f q M Z s B L g m F) (k : Put [R] w w') (hC : RowB w' R C) (hi : TInv n d f Z s C L) : ShW w' p pv R n d f q M Z s C L g m F := by
  have hn := h.ne
  exact ⟨h.sh.put k (by simp; exact hn.1) (fun x hx => by simp; exact (hn.2.2.2.2.2.2 x hx).2.1), h.ram.put k, hC, h.pool.put k (by simp; exact fun e => hn.2.2.2.1 e.symm) (by simp; exact fun e => hn.2.2.2.2.1 e.symm), hi⟩
/-- Its box turns. -/
theorem ShW.boxd {w w' : World} {p pv R n d f q M : Nat} {Z : List Int} {s s' : SD} {B : List Int} {L : List Bool} {g m : Int} {F F' : List Nat} (h : ShW w p pv R n d f q M Z s B L g m F) (k : Put [p] w w') (hs : ShAt w' p (.pointer (some ⟨pv, 0, none⟩)) q d s' F') (hi : TInv n d f Z s' B L) : ShW w' p pv R n d f q M Z s' B L g m F' := by
  have hn := h.ne
  refine ⟨hs, ram_tags h.ram k fun x hx => h.tags x (by simp at hx; simp [shB, hx]), h.row.put k (by simp; exact fun e => hn.1 e.symm), h.pool.put k (by simp; exact fun e => hn.2.1 e.symm) (by simp; exact fun e => hn.2.2.1 e.symm), hi⟩
/-- Its pool turns. -/
theorem ShW.pooled {w w' : World} {p pv R n d f q M : Nat} {Z : List Int} {s : SD} {B : List Int} {L L' : List Bool} {g m g' m' : Int} {F : List Nat} (h : ShW w p pv R n d f q M Z s B L g m F) (k : Put [q, M] w w') (hp : PoolAt w' q M f L' g' m') (hi : TInv n d f Z s B L') : ShW w' p pv R n d f q M Z s B L' g' m' F := by
  have hn := h.ne
  refine ⟨h.sh.put k (by simp; exact ⟨hn.2.1, hn.2.2.1⟩) (fun x hx => by simp; exact ⟨(hn.2.2.2.2.2.2 x hx).2.2.1, (hn.2.2.2.2.2.2 x hx).2.2.2⟩), ram_tags h.ram k fun x hx => h.tags x (by simp at hx; rcases hx with rfl | rfl <;> simp [shB]), h.row.put k (by simp; exact ⟨hn.2.2.2.1, hn.2.2.2.2.1⟩), hp, hi⟩
/-- A shadow that is not there, or that no call made. -/
def shZ : List Value := .pointer none :: .pointer none :: .int .u32 0 :: (u32s (List.replicate 32 0) ++ (u32s (List.replicate 512 0) ++ [.slice none 0 0]))
def NoSh (w : World) (v : Value) : Prop := v = .pointer none ∨ ∃ p : Nat, v = .pointer (some ⟨p, 0, none⟩) ∧ w.heap[p]? = some (.cells shZ.toArray 90 (0, 0))
end Go.Proofs.Ythgkkjcemjadoaa
