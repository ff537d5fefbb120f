/- What comes in: two rows of steps; what was saved. -/
import Derived.Test.YtpieeefeicdfgabVsd
import Derived.SizedLaws
import Derived.Deep.CutRange
namespace Go.Proofs.Ytpieeefeicdfgab
open Go.RowKit Go.WideShapes Go.ChangeShapes Go.ChangeAt
set_option linter.unusedVariables false

theorem stps_one {H : Type} {enc : TypeId × Value → H} {w : World} {base : Nat} {sp : Nat → Bool} {held : Bool} {fuel : Nat} {v : Value} {y : DataW H × List MemPlace}
    (h : DataW.trod enc Try.prog w base sp held fuel 38 [v] = some y) : ∃ x l c E, v = .slice x l c ∧ StpRow w x l c E := by
  rcases Go.Deep.open_slice Try.underlying38 h with ⟨hcs, _⟩ | ⟨a, l, c, m, n, D, Pl, hcs, _⟩
  · obtain rfl : v = .slice none 0 0 := by simpa using hcs
    obtain ⟨E, hE⟩ := stps_of (x := none) (len := 0) (cap := 0) h
    exact ⟨_, _, _, E, rfl, hE⟩
  · obtain rfl : v = .slice (some a) l c := by simpa using hcs
    obtain ⟨E, hE⟩ := stps_of (x := some a) (len := l) (cap := c) h
    exact ⟨_, _, _, E, rfl, hE⟩
theorem evs_one {H : Type} {enc : TypeId × Value → H} {w : World} {base : Nat} {sp : Nat → Bool} {held : Bool} {fuel : Nat} {v : Value} {y : DataW H × List MemPlace}
    (h : DataW.trod enc Try.prog w base sp held fuel 22 [v] = some y) : ∃ x l c E, v = .slice x l c ∧ EvRow w x l c E := by
  rcases Go.Deep.open_slice Try.underlying22 h with ⟨hcs, _⟩ | ⟨a, l, c, m, n, D, Pl, hcs, _⟩
  · obtain rfl : v = .slice none 0 0 := by simpa using hcs
    obtain ⟨E, hE⟩ := evs_of (x := none) (len := 0) (cap := 0) h
    exact ⟨_, _, _, E, rfl, hE⟩
  · obtain rfl : v = .slice (some a) l c := by simpa using hcs
    obtain ⟨E, hE⟩ := evs_of (x := some a) (len := l) (cap := c) h
    exact ⟨_, _, _, E, rfl, hE⟩
set_option maxRecDepth 100000 in
/-- Two rows of steps by value. -/
theorem open_stp2 {H : Type} {enc : TypeId × Value → H} {w : World} {r : Reach} {b0 base : Nat} {sp : Nat → Bool} {held : Bool} {v : Value} {d : DataW H} {p : List MemPlace} (hv : Value.okWide Try.prog w r b0 39 v) (h : DataW.Trod enc Try.prog w base sp held 39 v d p) :
    ∃ (x : Option Addr) (l c : Nat) (E : List Stp) (x' : Option Addr) (l' c' : Nat) (E' : List Stp), v = .agg #[.slice x l c, .slice x' l' c'] ∧ StpRow w x l c E ∧ StpRow w x' l' c' E' := by
  have ht := Try.underlying39
  have hc : Try.prog.cellsOf 38 = 1 := by kernel_rfl
  have hn : Try.prog.cellsOf 39 = 2 := by kernel_rfl
  obtain ⟨cs, rfl, hsz⟩ : ∃ cs, v = .agg cs ∧ cs.size = Try.prog.cellsOf 39 := by
    simp only [Value.okWide, ht] at hv
    obtain ⟨cs, h1, h2, _⟩ := hv
    exact ⟨cs, h1, h2⟩
  rw [hn] at hsz
  obtain ⟨fuel, hf⟩ := h
  obtain ⟨xs, m, _, _, hl, hxl, hx⟩ := DataW.trod_array ht hf
  obtain ⟨l⟩ := cs
  obtain ⟨v0, v1, rfl⟩ := list2 l hsz
  have h0 := hx 0 (by omega)
  have h1 := hx 1 (by omega)
  rw [hc, List.getElem?_eq_getElem (by omega)] at h0 h1
  obtain ⟨x, l, c, E, rfl, hE⟩ := stps_one (v := v0) h0
  obtain ⟨x', l', c', E', rfl, hE'⟩ := stps_one (v := v1) h1
  exact ⟨x, l, c, E, x', l', c', E', rfl, hE, hE'⟩

theorem list12 {α : Type} (l : List α) (h : l.length = 12) : ∃ a b c d e f g h i j k m, l = [a, b, c, d, e, f, g, h, i, j, k, m] := by
  match l, h with
  | [a, b, c, d, e, f, g, h, i, j, k, m], _ => exact ⟨a, b, c, d, e, f, g, h, i, j, k, m, rfl⟩
theorem bytesOf_u8 : Try.prog.bytesOf 5 = 1 := by kernel_rfl
/-- A slice of bytes, with its reach. -/
theorem bsl_sized {H : Type} {enc : TypeId × Value → H} {w : World} {base : Nat} {sp : Nat → Bool} {held : Bool} {fuel : Nat} {v : Value} {y : DataW H × List MemPlace}
    (h : DataW.trod enc Try.prog w base sp held fuel 37 [v] = some y) (hz : ∀ n ∈ y.1.weights Try.prog 37, n ≤ reachBytes) : ∃ (x : Option Addr) (l c : Nat) (zs : List Int), v = .slice x l c ∧ BSl w x l c zs ∧ (zs.length : Int) ≤ 140737488355328 := by
  obtain ⟨x, l, c, zs, rfl, hb⟩ := bsl_of h
  refine ⟨x, l, c, zs, rfl, hb, ?_⟩
  have hl := hb.1
  rcases open_ints Try.underlying37 Try.underlying5 (by kernel_rfl) h with ⟨hcs, _⟩ | ⟨a, l', c', zs', hcs, _, hl', hm, hz', hy, _⟩
  · simp at hcs; omega
  · simp at hcs
    obtain ⟨_, rfl, _⟩ := hcs
    have h1 := hz (zs'.length * 1) (by
      rw [hy]
      simp only [DataW.weights, Try.underlying37, List.mem_cons]
      left
      rw [bytesOf_u8, lits, lits, List.length_map, List.length_map, List.length_take, List.length_drop]
      have : l ≤ zs'.length := by rw [hz']; split <;> omega
      omega)
    have h2 := reachBytes_lt
    have e3 : (2 : Nat) ^ 47 = 140737488355328 := by decide
    have : l ≤ zs'.length := by rw [hz']; split <;> omega
    omega
/-- What was saved, as it came in. -/
structure SavP (w : World) (E : List Ev) (Z Q O : List Int) (xo : Option Addr) (xd : Option Addr) (cd : Nat) (xq : Option Addr) (xs : Option Addr) (cs : Nat) (b m n a st k f t : Int) : Prop where
  sav : SavIn w E Z Q O xo xd cd xq xs cs st k f t
  eb : ∀ e ∈ E, 0 ≤ e.2.2 ∧ e.2.2 < 256
  qb : Byts Q
  db : Byts Z
  b : 0 ≤ b ∧ b < 4294967296
  m : 0 ≤ m ∧ m < 4294967296
  n : 0 ≤ n ∧ n < 4294967296
  a : 0 ≤ a ∧ a < 4294967296
theorem u32_one {H : Type} {enc : TypeId × Value → H} {w : World} {base : Nat} {sp : Nat → Bool} {held : Bool} {fuel : Nat} {v : Value} {y : DataW H × List MemPlace}
    (h : DataW.trod enc Try.prog w base sp held fuel 23 [v] = some y) : ∃ a : Int, v = .int .u32 a ∧ 0 ≤ a ∧ a < 4294967296 := by
  obtain ⟨a, e, _, q⟩ := DataW.trod_int Try.underlying23 h
  exact ⟨a, by simpa using e, u32_of q⟩

set_option maxRecDepth 100000 in
set_option maxHeartbeats 4000000 in
theorem open_sav {H : Type} {enc : TypeId × Value → H} {w : World} {r : Reach} {b0 base : Nat} {sp : Nat → Bool} {held : Bool} {v : Value} {d : DataW H} {p : List MemPlace} (hv : Value.okWide Try.prog w r b0 55 v) (h : DataW.Trod enc Try.prog w base sp held 55 v d p) (hz : ∀ n ∈ d.weights Try.prog 55, n ≤ reachBytes) :
    ∃ (T : List Value) (E : List Ev) (Z Q O : List Int) (xo : Option Addr) (co : Nat) (xd : Option Addr) (cd : Nat) (xq : Option Addr) (cq : Nat) (xs : Option Addr) (cs : Nat) (b m n a st k f t : Int), v = .agg (savL T (.slice xo O.length co) (.slice xd Z.length cd) (.slice xq Q.length cq) (.slice xs E.length cs) b m n a st k f t).toArray ∧ T.length = 23 ∧ SavP w E Z Q O xo xd cd xq xs cs b m n a st k f t := by
  have ht := Try.underlying55
  have c1 : Try.prog.cellsOf 37 = 1 := by kernel_rfl
  have c2 : Try.prog.cellsOf 22 = 1 := by kernel_rfl
  have c3 : Try.prog.cellsOf 23 = 1 := by kernel_rfl
  have hn : Try.prog.cellsOf 55 = 35 := by kernel_rfl
  obtain ⟨cs, rfl, hsz⟩ := okWide_struct ht hv
  rw [hn] at hsz
  obtain ⟨fuel, hf⟩ := h
  obtain ⟨xs, nn, _, hd, hl, hxl, hx⟩ := DataW.trod_struct ht hf
  obtain ⟨rfl, rfl⟩ : d = .agg (xs.map (·.1)) ∧ p = xs.flatMap (·.2) := by simpa using hd
  have hxs : xs.length = 17 := hxl
  obtain ⟨L⟩ := cs
  have hL : L.length = 35 := hsz
  obtain ⟨T, hT, R, hR, rfl⟩ : ∃ T, T.length = 23 ∧ ∃ R, R.length = 12 ∧ L = T ++ R := ⟨L.take 23, by simp; omega, L.drop 23, by simp; omega, (List.take_append_drop 23 L).symm⟩
  obtain ⟨v0, v1, v2, v3, v4, v5, v6, v7, v8, v9, v10, v11, rfl⟩ := list12 R hR
  have hdr : ∀ j, ((T ++ [v0, v1, v2, v3, v4, v5, v6, v7, v8, v9, v10, v11]).drop (23 + j)) = [v0, v1, v2, v3, v4, v5, v6, v7, v8, v9, v10, v11].drop j := fun j => by
    rw [List.drop_append, List.drop_eq_nil_of_le (by omega), List.nil_append, hT, Nat.add_sub_cancel_left]
  have hw : ∀ (j : Nat) (t : TypeId) (y : DataW H × List MemPlace), ((Try.prog.fieldsOf 55).toList.map (·.type))[j]? = some t → xs[j]? = some y → ∀ n ∈ y.1.weights Try.prog t, n ≤ reachBytes := fun j t y hj hy n hnn => by
    refine hz n ?_
    simp only [DataW.weights, ht]
    exact DataW.weights_mem_each (j := j) (t := t) (d := y.1) hj (by rw [List.getElem?_map, hy]; rfl) n hnn
  have g5 : DataW.trod enc Try.prog w base sp held nn 37 (((T ++ [v0, v1, v2, v3, v4, v5, v6, v7, v8, v9, v10, v11]).drop (23 + 0)).take (Try.prog.cellsOf 37)) = xs[5]? := hx 5 _ rfl
  rw [c1, hdr 0, List.getElem?_eq_getElem (by omega)] at g5
  have g6 : DataW.trod enc Try.prog w base sp held nn 37 (((T ++ [v0, v1, v2, v3, v4, v5, v6, v7, v8, v9, v10, v11]).drop (23 + 1)).take (Try.prog.cellsOf 37)) = xs[6]? := hx 6 _ rfl
  rw [c1, hdr 1, List.getElem?_eq_getElem (by omega)] at g6
  have g7 : DataW.trod enc Try.prog w base sp held nn 37 (((T ++ [v0, v1, v2, v3, v4, v5, v6, v7, v8, v9, v10, v11]).drop (23 + 2)).take (Try.prog.cellsOf 37)) = xs[7]? := hx 7 _ rfl
  rw [c1, hdr 2, List.getElem?_eq_getElem (by omega)] at g7
  have g8 : DataW.trod enc Try.prog w base sp held nn 22 (((T ++ [v0, v1, v2, v3, v4, v5, v6, v7, v8, v9, v10, v11]).drop (23 + 3)).take (Try.prog.cellsOf 22)) = xs[8]? := hx 8 _ rfl
  rw [c2, hdr 3, List.getElem?_eq_getElem (by omega)] at g8
  have g9 : DataW.trod enc Try.prog w base sp held nn 23 (((T ++ [v0, v1, v2, v3, v4, v5, v6, v7, v8, v9, v10, v11]).drop (23 + 4)).take (Try.prog.cellsOf 23)) = xs[9]? := hx 9 _ rfl
  rw [c3, hdr 4, List.getElem?_eq_getElem (by omega)] at g9
  have g10 : DataW.trod enc Try.prog w base sp held nn 23 (((T ++ [v0, v1, v2, v3, v4, v5, v6, v7, v8, v9, v10, v11]).drop (23 + 5)).take (Try.prog.cellsOf 23)) = xs[10]? := hx 10 _ rfl
  rw [c3, hdr 5, List.getElem?_eq_getElem (by omega)] at g10
  have g11 : DataW.trod enc Try.prog w base sp held nn 23 (((T ++ [v0, v1, v2, v3, v4, v5, v6, v7, v8, v9, v10, v11]).drop (23 + 6)).take (Try.prog.cellsOf 23)) = xs[11]? := hx 11 _ rfl
  rw [c3, hdr 6, List.getElem?_eq_getElem (by omega)] at g11
  have g12 : DataW.trod enc Try.prog w base sp held nn 23 (((T ++ [v0, v1, v2, v3, v4, v5, v6, v7, v8, v9, v10, v11]).drop (23 + 7)).take (Try.prog.cellsOf 23)) = xs[12]? := hx 12 _ rfl
  rw [c3, hdr 7, List.getElem?_eq_getElem (by omega)] at g12
  have g13 : DataW.trod enc Try.prog w base sp held nn 23 (((T ++ [v0, v1, v2, v3, v4, v5, v6, v7, v8, v9, v10, v11]).drop (23 + 8)).take (Try.prog.cellsOf 23)) = xs[13]? := hx 13 _ rfl
  rw [c3, hdr 8, List.getElem?_eq_getElem (by omega)] at g13
  have g14 : DataW.trod enc Try.prog w base sp held nn 23 (((T ++ [v0, v1, v2, v3, v4, v5, v6, v7, v8, v9, v10, v11]).drop (23 + 9)).take (Try.prog.cellsOf 23)) = xs[14]? := hx 14 _ rfl
  rw [c3, hdr 9, List.getElem?_eq_getElem (by omega)] at g14
  have g15 : DataW.trod enc Try.prog w base sp held nn 23 (((T ++ [v0, v1, v2, v3, v4, v5, v6, v7, v8, v9, v10, v11]).drop (23 + 10)).take (Try.prog.cellsOf 23)) = xs[15]? := hx 15 _ rfl
  rw [c3, hdr 10, List.getElem?_eq_getElem (by omega)] at g15
  have g16 : DataW.trod enc Try.prog w base sp held nn 23 (((T ++ [v0, v1, v2, v3, v4, v5, v6, v7, v8, v9, v10, v11]).drop (23 + 11)).take (Try.prog.cellsOf 23)) = xs[16]? := hx 16 _ rfl
  rw [c3, hdr 11, List.getElem?_eq_getElem (by omega)] at g16
  obtain ⟨xo, lo, co, O, rfl, b5, s5⟩ := bsl_sized (v := v0) g5 (hw 5 _ xs[5] rfl (List.getElem?_eq_getElem (by omega)))
  obtain ⟨xd, ld, cd, Z, rfl, b6, _⟩ := bsl_sized (v := v1) g6 (hw 6 _ xs[6] rfl (List.getElem?_eq_getElem (by omega)))
  obtain ⟨xq, lq, cq, Q, rfl, b7, _⟩ := bsl_sized (v := v2) g7 (hw 7 _ xs[7] rfl (List.getElem?_eq_getElem (by omega)))
  obtain ⟨xe, le, ce, E, rfl, b8⟩ := evs_one (v := v3) g8
  obtain ⟨b, rfl, rb⟩ := u32_one (v := v4) g9
  obtain ⟨m, rfl, rm⟩ := u32_one (v := v5) g10
  obtain ⟨n, rfl, rn⟩ := u32_one (v := v6) g11
  obtain ⟨a, rfl, ra⟩ := u32_one (v := v7) g12
  obtain ⟨st, rfl, rst⟩ := u32_one (v := v8) g13
  obtain ⟨k, rfl, rk⟩ := u32_one (v := v9) g14
  obtain ⟨f, rfl, rf⟩ := u32_one (v := v10) g15
  obtain ⟨t, rfl, rt⟩ := u32_one (v := v11) g16
  obtain rfl : O.length = lo := b5.1
  obtain rfl : Z.length = ld := b6.1
  obtain rfl : Q.length = lq := b7.1
  obtain rfl : E.length = le := b8.hl
  have hq1 := b7.2.1
  have hq2 := b7.2.2.1
  exact ⟨T, E, Z, Q, O, xo, co, xd, cd, xq, cq, xe, ce, b, m, n, a, st, k, f, t, rfl, hT, ⟨⟨b5.lies, b6.lies, b7.lies, b8.lies, s5, by omega, b6.2.1, b6.2.2.1, b8.hle, b8.hmax, rst, rk, rf, rt⟩, b8.byte, b7.2.2.2.2, b6.2.2.2.2, rb, rm, rn, ra⟩⟩
end Go.Proofs.Ytpieeefeicdfgab
