/- A block that came in by value. -/
import Derived.Test.YtpalbpjmjbcelaaDoorBlkc
import Derived.Test.YtpalbpjmjbcelaaDoorInl
import Derived.OpenShut
namespace Go.Proofs.YtpalbpjmjbcelaaDoor
open Go.RowKit Go.WideShapes Go.ChangeShapes Go.ChangeAt
set_option linter.unusedVariables false

theorem ints_one {H : Type} {enc : TypeId × Value → H} {P : Program} {w : World} {base : Nat} {sp : Nat → Bool} {held : Bool} {fuel : Nat} {t e : TypeId} {k : IntKind} {v : Value} {y : DataW H × List MemPlace} (ht : P.underlying t = some (.slice e)) (he : P.underlying e = some (.int k)) (hc : P.cellsOf e = 1)
    (h : DataW.trod enc P w base sp held fuel t [v] = some y) : ∃ x l c, ∃ zs : List Int, v = .slice x l c ∧ zs.length = l ∧ l ≤ c ∧ (c : Int) ≤ 9223372036854775807 ∧ Lies w x (num k zs) ∧ ∀ n ∈ zs, (Lit.int k n).wf = true := by
  rcases open_ints ht he hc h with ⟨hcs, _⟩ | ⟨a, l', c', zs, hcs, _, hl, hm, hz, _, hcell, hwz⟩
  · obtain rfl : v = .slice none 0 0 := by simpa using hcs
    exact ⟨none, 0, 0, [], rfl, rfl, Nat.le_refl _, by omega, .inl rfl, fun b hb => by simp at hb⟩
  · obtain rfl : v = .slice (some a) l' c' := by simpa using hcs
    have hzl : l' ≤ zs.length := by rw [hz]; split <;> omega
    refine ⟨some a, l', c', zs.take l', rfl, by simp; omega, hl, by unfold maxLen at hm; omega, ?_, fun b hb => hwz b (List.take_subset _ _ hb)⟩
    rcases Nat.eq_zero_or_pos l' with rfl | hpos
    · exact .inl (by simp [num])
    right
    obtain ⟨b, off, s⟩ := a
    have h0 := hcell 0 (by omega)
    have hs : s = none := no_spot h0
    subst hs
    refine ⟨b, off, rfl, World.block_lt_of_cell? w _ h0, fun j u hj => ?_⟩
    have hj1 := (List.getElem?_eq_some_iff.1 hj).1
    rw [num_len, List.length_take] at hj1
    have := hcell j (by omega)
    rw [Addr.add_lit] at this
    rw [this, ← hj]
    unfold num
    rw [List.getElem?_map, List.getElem?_take_of_lt (by omega)]
    simp [List.getD, show j < zs.length by omega]
/-- What a block that came in holds: its instructions and places. -/
structure BlkIn (w : World) (xi : Option Addr) (li ci : Nat) (I : List In4) (xa : Option Addr) (la ca : Nat) (A : List Int) (n t e : Int) : Prop where
  il : I.length = li
  ic : li ≤ ci
  im : (ci : Int) ≤ 9223372036854775807
  ii : Lies w xi (inss I)
  io : ∀ i ∈ I, In4.Ok i
  al : A.length = la
  ac : la ≤ ca
  am : (ca : Int) ≤ 9223372036854775807
  ai : Lies w xa (num .u32 A)
  ao : ∀ a ∈ A, 0 ≤ a ∧ a < 4294967296
  hn : 0 ≤ n ∧ n < 4294967296
  ht : 0 ≤ t ∧ t < 4294967296
  he : -9223372036854775808 ≤ e ∧ e ≤ 9223372036854775807
theorem BlkIn.kep {w w' : World} {xi : Option Addr} {li ci : Nat} {I : List In4} {xa : Option Addr} {la ca : Nat} {A : List Int} {n t e : Int} (h : BlkIn w xi li ci I xa la ca A n t e) (k : Kep w w') : BlkIn w' xi li ci I xa la ca A n t e :=
  ⟨h.il, h.ic, h.im, h.ii.kep k, h.io, h.al, h.ac, h.am, h.ai.kep k, h.ao, h.hn, h.ht, h.he⟩
theorem list7 {α : Type} (l : List α) (h : l.length = 7) : ∃ a b c d e f g, l = [a, b, c, d, e, f, g] := by
  match l, h with
  | [a, b, c, d, e, f, g], _ => exact ⟨a, b, c, d, e, f, g, rfl⟩
set_option maxRecDepth 100000 in
set_option maxHeartbeats 2000000 in
theorem open_blk {H : Type} {enc : TypeId × Value → H} {w : World} {r : Reach} {b0 base : Nat} {sp : Nat → Bool} {held : Bool} {v : Value} {d : DataW H} {p : List MemPlace} (hv : Value.okWide Tryd.prog w r b0 27 v) (h : DataW.Trod enc Tryd.prog w base sp held 27 v d p) :
    ∃ (xi : Option Addr) (li ci : Nat) (I : List In4) (xa : Option Addr) (la ca : Nat) (A : List Int) (n t e : Int) (xf : Option Addr) (lf cf : Nat) (xt : Option Addr) (lt ct : Nat),
      v = .agg (blkC (.slice xi li ci) (.slice xa la ca) n t e (.slice xf lf cf) (.slice xt lt ct)) ∧ BlkIn w xi li ci I xa la ca A n t e := by
  have ht := Tryd.underlying27
  have c1 : Tryd.prog.cellsOf 22 = 1 := by kernel_rfl
  have c2 : Tryd.prog.cellsOf 23 = 1 := by kernel_rfl
  have c3 : Tryd.prog.cellsOf 24 = 1 := by kernel_rfl
  have c4 : Tryd.prog.cellsOf 3 = 1 := by kernel_rfl
  have c5 : Tryd.prog.cellsOf 25 = 1 := by kernel_rfl
  have hn : Tryd.prog.cellsOf 27 = 7 := by kernel_rfl
  obtain ⟨cs, rfl, hsz⟩ := okWide_struct ht hv
  rw [hn] at hsz
  obtain ⟨fuel, hf⟩ := h
  obtain ⟨xs, nn, _, _, hl, hxl, hx⟩ := DataW.trod_struct ht hf
  have hxs : xs.length = 7 := hxl
  obtain ⟨L⟩ := cs
  obtain ⟨v0, v1, v2, v3, v4, v5, v6, rfl⟩ := list7 L hsz
  have g0 : DataW.trod enc Tryd.prog w base sp held nn 22 ((([v0, v1, v2, v3, v4, v5, v6]).drop 0).take (Tryd.prog.cellsOf 22)) = xs[0]? := hx 0 _ rfl
  have g1 : DataW.trod enc Tryd.prog w base sp held nn 23 ((([v0, v1, v2, v3, v4, v5, v6]).drop 1).take (Tryd.prog.cellsOf 23)) = xs[1]? := hx 1 _ rfl
  have g2 : DataW.trod enc Tryd.prog w base sp held nn 24 ((([v0, v1, v2, v3, v4, v5, v6]).drop 2).take (Tryd.prog.cellsOf 24)) = xs[2]? := hx 2 _ rfl
  have g3 : DataW.trod enc Tryd.prog w base sp held nn 24 ((([v0, v1, v2, v3, v4, v5, v6]).drop 3).take (Tryd.prog.cellsOf 24)) = xs[3]? := hx 3 _ rfl
  have g4 : DataW.trod enc Tryd.prog w base sp held nn 3 ((([v0, v1, v2, v3, v4, v5, v6]).drop 4).take (Tryd.prog.cellsOf 3)) = xs[4]? := hx 4 _ rfl
  have g5 : DataW.trod enc Tryd.prog w base sp held nn 25 ((([v0, v1, v2, v3, v4, v5, v6]).drop 5).take (Tryd.prog.cellsOf 25)) = xs[5]? := hx 5 _ rfl
  have g6 : DataW.trod enc Tryd.prog w base sp held nn 25 ((([v0, v1, v2, v3, v4, v5, v6]).drop 6).take (Tryd.prog.cellsOf 25)) = xs[6]? := hx 6 _ rfl
  rw [c1, List.getElem?_eq_getElem (by omega)] at g0
  rw [c2, List.getElem?_eq_getElem (by omega)] at g1
  rw [c3, List.getElem?_eq_getElem (by omega)] at g2 g3
  rw [c4, List.getElem?_eq_getElem (by omega)] at g4
  rw [c5, List.getElem?_eq_getElem (by omega)] at g5 g6
  obtain ⟨xi, li, ci, I, rfl, h1, h2, h3, h4, h5⟩ := gins_one (v := v0) g0
  obtain ⟨xa, la, ca, A, rfl, k1, k2, k3, k4, k5⟩ := ints_one Tryd.underlying23 Tryd.underlying24 c3 (v := v1) g1
  obtain ⟨n, e2, _, q2⟩ := DataW.trod_int Tryd.underlying24 g2
  obtain ⟨t, e3, _, q3⟩ := DataW.trod_int Tryd.underlying24 g3
  obtain ⟨e, e4, _, q4⟩ := DataW.trod_int Tryd.underlying3 g4
  obtain ⟨xf, lf, cf, _, rfl, _⟩ := ints_one Tryd.underlying25 Tryd.underlying3 c4 (v := v5) g5
  obtain ⟨xt, lt, ct, _, rfl, _⟩ := ints_one Tryd.underlying25 Tryd.underlying3 c4 (v := v6) g6
  obtain rfl : v2 = .int .u32 n := by simpa using e2
  obtain rfl : v3 = .int .u32 t := by simpa using e3
  obtain rfl : v4 = .int .i64 e := by simpa using e4
  exact ⟨xi, li, ci, I, xa, la, ca, A, n, t, e, xf, lf, cf, xt, lt, ct, rfl, h1, h2, h3, h4, h5, k1, k2, k3, k4, fun a ha => u32_of (k5 a ha), u32_of q2, u32_of q3, i64_of q4⟩
end Go.Proofs.YtpalbpjmjbcelaaDoor
