/- Part of a proof. -/
import Derived.LoopTactic
import Derived.ArgAppend
import Derived.Maps.AppendAt
import Derived.OwnWalk
import Derived.OwnWalkIn
import Derived.BigRegion
import Derived.Test.YtamffningddgbaaGreatDoorJ04
namespace Go.Proofs.YtamffningddgbaaGreatDoor
open Go.RowKit
set_option linter.unusedVariables false
set_option linter.unusedSimpArgs false
abbrev In4 := Int × Int × Int × Int
def inV (i : In4) : List Value := [.int .u8 i.1, .int .u8 i.2.1, .int .u8 i.2.2.1, .int .i32 i.2.2.2]
def inss (C : List In4) : List Value := C.flatMap inV
def In4.Ok (i : In4) : Prop := (0 ≤ i.1 ∧ i.1 < 256) ∧ (0 ≤ i.2.1 ∧ i.2.1 < 256) ∧ (0 ≤ i.2.2.1 ∧ i.2.2.1 < 256) ∧ (-2147483648 ≤ i.2.2.2 ∧ i.2.2.2 ≤ 2147483647)
theorem inss_at (C : List In4) (k : Nat) (i : In4) (h : C[k]? = some i) (j : Nat) (hj : j < 4) : (inss C)[k * 4 + j]? = (inV i)[j]? := by
  induction C generalizing k with
  | nil => simp at h
  | cons a r ih =>
    have hc : inss (a :: r) = inV a ++ inss r := by simp [inss]
    have hl : (inV a).length = 4 := rfl
    rw [hc]
    cases k with
    | zero =>
      obtain rfl : a = i := by simpa using h
      rw [List.getElem?_append_left (by omega)]
      congr 1; omega
    | succ k =>
      rw [List.getElem?_append_right (by omega), hl, ← ih k (by simpa using h)]
      congr 1; omega
def nFr (fr : Int) : Nat := 1 + (fr % 18446744073709551616 % 24).toNat
theorem nFr_range (fr : Int) : 1 ≤ nFr fr ∧ nFr fr ≤ 24 := by unfold nFr; omega
def cpyL (n : Nat) (Z : List Int) (k : Nat) : List Int := (Z.take k).take n ++ List.replicate (n - min k Z.length) 0
def layE (B : List Int) (at_ : Nat) : List Int → List Int
  | [] => B
  | z :: r => layE (if at_ < B.length then B.set at_ z else B) (at_ + 1) r
theorem layE_len : ∀ (zs B : List Int) (a : Nat), (layE B a zs).length = B.length
  | [], B, a => rfl
  | z :: r, B, a => by unfold layE; rw [layE_len r]; split <;> simp
theorem layE_byts : ∀ (zs B : List Int) (a : Nat), Byts B → Byts zs → Byts (layE B a zs)
  | [], B, a, hB, hz => hB
  | z :: r, B, a, hB, hz => by
    unfold layE
    refine layE_byts r _ _ ?_ (fun b hb => hz b (by simp [hb]))
    split
    · intro b hb
      rcases List.mem_or_eq_of_mem_set hb with h | h
      · exact hB b h
      · subst h; exact hz b (by simp)
    · exact hB
theorem layE_snoc : ∀ (zs : List Int) (B : List Int) (a : Nat) (z : Int), layE B a (zs ++ [z]) = if a + zs.length < B.length then (layE B a zs).set (a + zs.length) z else layE B a zs
  | [], B, a, z => by simp [layE]
  | y :: r, B, a, z => by
    show layE _ (a + 1) (r ++ [z]) = _
    rw [layE_snoc r]
    have e : (if a < B.length then B.set a y else B).length = B.length := by split <;> simp
    rw [e]
    have e2 : a + 1 + r.length = a + (y :: r).length := by simp; omega
    rw [e2]
    rfl
def encI (i : In4) : List Int := encL (rowOf i.1 false) i.1 i.2.1 i.2.2.1 i.2.2.2
def codS (x : List Int × Nat) (i : In4) : List Int × Nat := if mayB (rowOf i.1 false) i.2.1 i.2.2.1 i.2.2.2 = true then (layE x.1 x.2 (encI i), x.2 + (encI i).length) else x
def codL (C : List In4) (x : List Int × Nat) : List Int × Nat := C.foldl codS x
def gstL (fr : Int) (Z : List Int) (C : List In4) (en : Int) : List Int := (codL (C.take 200) (cpyL (64 * nFr fr) Z Z.length, en.toNat)).1
theorem codS_len (x : List Int × Nat) (i : In4) : (codS x i).1.length = x.1.length := by
  unfold codS; split
  · exact layE_len _ _ _
  · rfl
theorem codL_len : ∀ (C : List In4) (x : List Int × Nat), (codL C x).1.length = x.1.length
  | [], x => rfl
  | i :: r, x => by show (codL r (codS x i)).1.length = _; rw [codL_len r, codS_len]
theorem cpyL_len (n : Nat) (Z : List Int) (k : Nat) : (cpyL n Z k).length = n := by
  unfold cpyL
  simp only [List.length_append, List.length_take, List.length_replicate]
  omega
theorem gstL_len (fr : Int) (Z : List Int) (C : List In4) (en : Int) : (gstL fr Z C en).length = 64 * nFr fr := by unfold gstL; rw [codL_len, cpyL_len]
theorem cpyL_succ (n : Nat) (Z : List Int) (k : Nat) (hk : k < Z.length) (hn : k < n) : cpyL n Z (k + 1) = (cpyL n Z k).set k (Z.getD k 0) := by
  apply List.ext_getElem?
  intro j
  unfold cpyL
  have e1 : (Z.take (k + 1)).take n = Z.take (k + 1) := List.take_of_length_le (by simp; omega)
  have e2 : (Z.take k).take n = Z.take k := List.take_of_length_le (by simp; omega)
  rw [e1, e2]
  have lk : (Z.take k).length = k := by simp; omega
  have lk1 : (Z.take (k + 1)).length = k + 1 := by simp; omega
  have hz : Z.getD k 0 = Z[k] := by simp [List.getD, hk]
  rw [List.getElem?_set]
  rcases (by omega : j < k ∨ j = k ∨ k < j) with h | h | h
  · rw [List.getElem?_append_left (by omega), if_neg (by omega), List.getElem?_append_left (by omega), List.getElem?_take_of_lt (by omega), List.getElem?_take_of_lt (by omega)]
  · subst h
    rw [List.getElem?_append_left (by omega), if_pos rfl, List.getElem?_take_of_lt (by omega), if_pos (by simp; omega), hz, List.getElem?_eq_getElem hk]
  · rw [List.getElem?_append_right (by omega), if_neg (by omega), List.getElem?_append_right (by omega), lk, lk1, List.getElem?_replicate, List.getElem?_replicate]
    have : (j - (k + 1) < n - min (k + 1) Z.length) ↔ (j - k < n - min k Z.length) := by omega
    simp only [this]
def Sli (w : World) (e : TypeId) (z : Nat) (v : Value) (n : Nat) (xs : List Value) (F : List Nat) : Prop :=
  xs.length = n * z ∧ ((v = .slice none 0 0 ∧ n = 0 ∧ F = []) ∨ ∃ (g off cap : Nat) (cur : List Value), v = .slice (some ⟨g, off, none⟩) n cap ∧ F = [g] ∧ w.heap[g]? = some (.cells cur.toArray e (0, 0)) ∧ n ≤ cap ∧ cap ≤ maxLen ∧ off + cap * z ≤ cur.length ∧ (cur.drop off).take (n * z) = xs)
theorem Sli.nil (w : World) (e : TypeId) (z : Nat) : Sli w e z (.slice none 0 0) 0 [] [] := ⟨by simp, .inl ⟨rfl, rfl, rfl⟩⟩
theorem Sli.put {w w' : World} {e : TypeId} {z : Nat} {v : Value} {n : Nat} {xs : List Value} {F l : List Nat} (h : Sli w e z v n xs F) (k : Put l w w') (hl : ∀ g ∈ F, g ∉ l) : Sli w' e z v n xs F := by
  rcases h with ⟨h0, h | ⟨g, off, cap, cur, rfl, rfl, hg, r⟩⟩
  · exact ⟨h0, .inl h⟩
  · exact ⟨h0, .inr ⟨g, off, cap, cur, rfl, rfl, k.keeps hg (hl g (by simp)), r⟩⟩
theorem Sli.kep {w w' : World} {e : TypeId} {z : Nat} {v : Value} {n : Nat} {xs : List Value} {F : List Nat} (h : Sli w e z v n xs F) (k : Kep w w') : Sli w' e z v n xs F := h.put (l := []) (Put.of_kep k) (by simp)
theorem Sli.lt {w : World} {e : TypeId} {z : Nat} {v : Value} {n : Nat} {xs : List Value} {F : List Nat} (h : Sli w e z v n xs F) : ∀ g ∈ F, g < w.heap.size := by
  rcases h with ⟨h0, ⟨_, _, rfl⟩ | ⟨g, off, cap, cur, rfl, rfl, hg, r⟩⟩
  · simp
  · intro b hb; obtain rfl : b = g := by simpa using hb
    exact block_lt hg
theorem Sli.form {w : World} {e : TypeId} {z : Nat} {v : Value} {n : Nat} {xs : List Value} {F : List Nat} (h : Sli w e z v n xs F) :
    (v = .slice none 0 0 ∧ n = 0 ∧ xs = [] ∧ F = []) ∨ ∃ g off cap, v = .slice (some ⟨g, off, none⟩) n cap ∧ F = [g] ∧ n ≤ cap ∧ cap ≤ maxLen ∧ g < w.heap.size ∧ (∀ j u, xs[j]? = some u → w.cell? ⟨g, off + j, none⟩ = some u) ∧
      ∀ j, j < cap * z → (w.cell? ⟨g, off + j, none⟩).isSome = true ∧ w.frozen? ⟨g, off + j, none⟩ = false := by
  rcases h with ⟨h0, ⟨hv, rfl, rfl⟩ | ⟨g, off, cap, cur, rfl, rfl, hg, h1, h2, h3, h4⟩⟩
  · exact .inl ⟨hv, rfl, List.eq_nil_of_length_eq_zero (by simpa using h0), rfl⟩
  · refine .inr ⟨g, off, cap, rfl, rfl, h1, h2, block_lt hg, fun j u hj => ?_, fun j hj => ⟨?_, by simp [World.frozen?, hg]⟩⟩
    · rw [cell_of_block hg, List.getElem?_toArray]
      have hlt : j < n * z := by have := (List.getElem?_eq_some_iff.1 hj).1; omega
      rw [← h4, List.getElem?_take_of_lt hlt, List.getElem?_drop] at hj
      exact hj
    · rw [cell_of_block hg, List.getElem?_toArray, List.getElem?_eq_getElem (by omega)]; rfl
theorem Sli.of_owns {w : World} {base : Nat} {e : TypeId} {z : Nat} {v : Value} {n : Nat} {xs : List Value} (h : w.ownsRow base e z v n xs) : ∃ F, Sli w e z v n xs F ∧ ∀ g ∈ F, base ≤ g := by
  rcases h with ⟨h0, ⟨hv, hn⟩ | ⟨g, cap, cur, hv, hb, hg, h1, h2, h3, h4⟩⟩
  · exact ⟨[], ⟨h0, .inl ⟨hv, hn, rfl⟩⟩, by simp⟩
  · exact ⟨[g], ⟨h0, .inr ⟨g, 0, cap, cur.toList, hv, rfl, by simpa using hg, h1, h2, by simp [h3], by simpa using h4⟩⟩, fun b hb' => by simp at hb'; omega⟩
theorem Put.of_grown {w w' : World} {row : Option Nat} {l : List Nat} (h : w.grownBy w' row) (hl : ∀ k, row = some k → k ∈ l) : Put l w w' :=
  ⟨h.os, h.tape, h.output, h.size, fun k hk hn => h.block k hk fun e => hn (hl k e.symm)⟩
theorem drop_put {α : Type} (cur news : List α) (off m : Nat) (h : off + m + news.length ≤ cur.length) : ((cur.take (off + m) ++ news ++ cur.drop (off + m + news.length)).drop off).take (m + news.length) = (cur.drop off).take m ++ news := by
  have hl : (cur.take (off + m)).length = off + m := by simp; omega
  rw [List.append_assoc, List.drop_append_of_le_length (by omega)]
  have e : (cur.take (off + m)).drop off = (cur.drop off).take m := by rw [List.drop_take, Nat.add_sub_cancel_left]
  have hm : ((cur.drop off).take m).length = m := by simp; omega
  rw [e, ← List.append_assoc, List.take_append_of_le_length (by simp; omega), List.take_of_length_le (by simp; omega)]
theorem run_append_sli {P : Program} {w : World} (t ty e : TypeId) (i : TypeInfo) (zv : Value) (z bytes : Nat) (ht : P.underlying t = some (.slice e)) (hi : P.info? e = some i) (hz : i.zero = some zv)
    (hsize : i.size = z) (hby : i.bytes = bytes) (hzs : zv.cells.size = z) (hsz : 0 < z)
    {v : Value} {n : Nat} {xs : List Value} {F : List Nat} (h : Sli w e z v n xs F)
    (a : Addr) (c : Nat) (news : List Value) (hl : news.length = z) (hnews : ∀ j u, news[j]? = some u → w.cell? (a.add j) = some u) (h1 : ∀ u ∈ news, u.oneCell' = true)
    (h63 : n + 1 ≤ maxLen) (hbytes : (n + 1) * bytes ≤ 140737488355328) :
    ∃ v' w' F', (Builtin.append_ #[t, t] ty #[v, .slice (some a) 1 c]).run P w = .ok v' w' ∧ Sli w' e z v' (n + 1) (xs ++ news) F' ∧ Put F w w' ∧ (∀ g ∈ F', g ∈ F ∨ w.heap.size ≤ g) := by
  rcases h with ⟨h0, ⟨rfl, rfl, rfl⟩ | ⟨g, off, cap, cur, rfl, rfl, hg, h2, h3, h4, h5⟩⟩
  · obtain rfl : xs = [] := List.eq_nil_of_length_eq_zero (by simpa using h0)
    obtain ⟨v', w', hr, ho, hgr, _⟩ := run_append_own (P := P) w w.heap.size t ty e i zv z bytes ht hi hz hsize hby hzs hsz (.slice none 0 0) 0 [] (World.ownsRow_nil _ _ _ _) a 1 c news (by omega) hnews h1 h63 hbytes (Nat.le_refl _)
    obtain ⟨F', s, hF⟩ := Sli.of_owns ho
    exact ⟨v', w', F', hr, s, Put.of_grown hgr (fun k hk => by simp [Value.ownBlock] at hk), fun g hg => .inr (hF g hg)⟩
  · have F0 : Sli w e z (.slice (some ⟨g, off, none⟩) n cap) n xs [g] := ⟨h0, .inr ⟨g, off, cap, cur, rfl, rfl, hg, h2, h3, h4, h5⟩⟩
    rcases F0.form with ⟨hv, _⟩ | ⟨g', off', cap', hv, _, _, _, _, hc, hsp⟩
    · cases hv
    simp only [Value.slice.injEq, Option.some.injEq, Addr.mk.injEq, and_true, true_and] at hv
    obtain ⟨⟨rfl, rfl⟩, rfl⟩ := hv
    by_cases hroom : n + 1 ≤ cap
    · have hnz : n * z + z ≤ cap * z := by have := Nat.mul_le_mul_right z hroom; rw [Nat.add_mul, Nat.one_mul] at this; exact this
      have hr := run_append_room_cells (P := P) w t ty e i ht hi g off n cap a 1 c news (by omega) hnews h1 hroom (fun j hj => by rw [hsize, Nat.add_assoc]; exact (hsp (n * z + j) (by omega)).1) (fun j hj => by rw [hsize, Nat.add_assoc]; exact (hsp (n * z + j) (by omega)).2)
      rw [hsize] at hr
      have hrow := heap_setCells_row news (off + n * z) w cur hg (by omega)
      refine ⟨_, _, [g], hr, ⟨by simp [h0, hl, Nat.add_mul], .inr ⟨g, off, cap, _, rfl, rfl, hrow, hroom, h3, ?_, ?_⟩⟩, Put.setCells (by simp) _ _ _ (Put.refl _), fun b hb => .inl hb⟩
      · simp only [List.length_append, List.length_take, List.length_drop]; omega
      · have := drop_put cur news off (n * z) (by omega)
        rw [h5, hl] at this
        rw [Nat.add_mul, Nat.one_mul, hl]; exact this
    · obtain ⟨v', w', hr, ho, hgr⟩ := run_append_arg_grows (P := P) w t ty e i zv z bytes ht hi hz hsize hby hzs hsz ⟨g, off, none⟩ n cap xs h0 (fun j u hj => by rw [Addr.add_lit]; exact hc j u hj) a 1 c news (by omega) hnews (by omega) h63 hbytes
      obtain ⟨F', s, hF⟩ := Sli.of_owns ho
      exact ⟨v', w', F', hr, s, Put.of_grown hgr (fun k hk => by cases hk), fun g hg => .inr (hF g hg)⟩
theorem wp_append_sli {P : Program} {w : World} {o : Oper} {a : Act} {K : Act → World → Prop} {Q : Exit → Act → World → Prop} (s x : Operand) (t : TypeId)
    (ho : o.op = .call { callee := .builtin .append, args := #[s, x], argTypes := #[t, t] })
    (e : TypeId) (i : TypeInfo) (zv : Value) (z bytes : Nat) (ht : P.underlying t = some (.slice e)) (hi : P.info? e = some i) (hz : i.zero = some zv)
    (hsize : i.size = z) (hby : i.bytes = bytes) (hzs : zv.cells.size = z) (hsz : 0 < z)
    (v : Value) (n : Nat) (xs : List Value) (F : List Nat) (hs : a.eval s = v) (h : Sli w e z v n xs F)
    (ad : Addr) (c : Nat) (news : List Value) (hx : a.eval x = .slice (some ad) 1 c) (hl : news.length = z) (hnews : ∀ j u, news[j]? = some u → w.cell? (ad.add j) = some u) (h1 : ∀ u ∈ news, u.oneCell' = true)
    (h63 : n + 1 ≤ maxLen) (hbytes : (n + 1) * bytes ≤ 140737488355328)
    (hK : ∀ v' w' F', Hid (Sli w' e z v' (n + 1) (xs ++ news) F') → Hid (Put F w w') → Hid (∀ g ∈ F', g ∈ F ∨ w.heap.size ≤ g) → K (a.put o.dst v') w') : o.wp P a w K Q := by
  obtain ⟨v', w', F', hr, h2, h3, h4⟩ := run_append_sli (P := P) t o.type e i zv z bytes ht hi hz hsize hby hzs hsz h ad c news hl hnews h1 h63 hbytes
  unfold Oper.wp execOp
  simp only [ho, resolve, invoke, builtin, Sem.run_bind, Sem.run_pure, Result.andThen_ok, List.map_toArray, List.map_cons, List.map_nil, hs, hx, hr]
  exact hK v' w' F' h2 h3 h4
theorem wpList_append_sli {P : Program} {w : World} {ops : Array Oper} {rest : List Oper} {o : Oper} {a : Act} {Q : Exit → Act → World → Prop} (hgd : o.guard = none) (s x : Operand) (t : TypeId)
    (ho : o.op = .call { callee := .builtin .append, args := #[s, x], argTypes := #[t, t] })
    (e : TypeId) (i : TypeInfo) (zv : Value) (z bytes : Nat) (ht : P.underlying t = some (.slice e)) (hi : P.info? e = some i) (hz : i.zero = some zv)
    (hsize : i.size = z) (hby : i.bytes = bytes) (hzs : zv.cells.size = z) (hsz : 0 < z)
    (v : Value) (n : Nat) (xs : List Value) (F : List Nat) (hs : a.eval s = v) (h : Sli w e z v n xs F)
    (ad : Addr) (c : Nat) (news : List Value) (hx : a.eval x = .slice (some ad) 1 c) (hl : news.length = z) (hnews : ∀ j u, news[j]? = some u → w.cell? (ad.add j) = some u) (h1 : ∀ u ∈ news, u.oneCell' = true)
    (h63 : n + 1 ≤ maxLen) (hbytes : (n + 1) * bytes ≤ 140737488355328)
    (hK : ∀ v' w' F', Hid (Sli w' e z v' (n + 1) (xs ++ news) F') → Hid (Put F w w') → Hid (∀ g ∈ F', g ∈ F ∨ w.heap.size ≤ g) → wpList P ops Q rest (a.put o.dst v') w') : wpList P ops Q (o :: rest) a w :=
  wpList_plain hgd fun _ hK' => wp_append_sli s x t ho e i zv z bytes ht hi hz hsize hby hzs hsz v n xs F hs h ad c news hx hl hnews h1 h63 hbytes fun v' w' F' h2 h3 h4 => hK' _ _ (hK v' w' F' h2 h3 h4)
def Lies (w : World) (x : Option Addr) (zs : List Value) : Prop := zs = [] ∨ ∃ b off : Nat, x = some ⟨b, off, none⟩ ∧ b < w.heap.size ∧ ∀ j u, zs[j]? = some u → w.cell? ⟨b, off + j, none⟩ = some u
theorem Lies.put {w w' : World} {x : Option Addr} {zs : List Value} {l : List Nat} (h : Lies w x zs) (k : Put l w w') (hl : ∀ b off, x = some ⟨b, off, none⟩ → b < w.heap.size → b ∉ l) : Lies w' x zs := by
  rcases h with h | ⟨b, off, e, hb, hc⟩
  · exact .inl h
  · exact .inr ⟨b, off, e, Nat.lt_of_lt_of_le hb k.size, fun j u hj => (k.cell hb (hl b off e hb)).trans (hc j u hj)⟩
theorem Lies.kep {w w' : World} {x : Option Addr} {zs : List Value} (h : Lies w x zs) (k : Kep w w') : Lies w' x zs := h.put (l := []) (Put.of_kep k) (by simp)
theorem Sli.lies {w : World} {e : TypeId} {z : Nat} {v : Value} {n : Nat} {xs : List Value} {F : List Nat} (h : Sli w e z v n xs F) : ∃ x cap, v = .slice x n cap ∧ Lies w x xs ∧ n ≤ cap ∧ cap ≤ maxLen ∧ (x = none → n = 0 ∧ cap = 0) := by
  rcases h.form with ⟨rfl, rfl, rfl, _⟩ | ⟨g, off, cap, rfl, _, h1, h2, hg, hc, _⟩
  · exact ⟨none, 0, rfl, .inl rfl, Nat.le_refl _, by simp [maxLen], fun _ => ⟨rfl, rfl⟩⟩
  · exact ⟨_, cap, rfl, .inr ⟨g, off, rfl, hg, hc⟩, h1, h2, fun e => by cases e⟩
abbrev Ev := Int × Int × Int
def evV (e : Ev) : List Value := [.int .i64 e.1, .int .i64 e.2.1, .int .u8 e.2.2]
def evs (E : List Ev) : List Value := E.flatMap evV
structure ScrD (w : World) (x : Option Addr) (n cap : Nat) (E : List Ev) (y : Option Addr) (m c : Nat) (Z : List Int) : Prop where
  el : E.length = n
  ec : n ≤ cap
  em : (cap : Int) ≤ 9223372036854775807
  ei : Lies w x (evs E)
  zl : Z.length = m
  zc : m ≤ c
  zm : (c : Int) ≤ 9223372036854775807
  zi : Lies w y (byt Z)
theorem ScrD.kep {w w' : World} {x : Option Addr} {n cap : Nat} {E : List Ev} {y : Option Addr} {m c : Nat} {Z : List Int} (h : ScrD w x n cap E y m c Z) (k : Kep w w') : ScrD w' x n cap E y m c Z := ⟨h.el, h.ec, h.em, h.ei.kep k, h.zl, h.zc, h.zm, h.zi.kep k⟩
structure Sta where
  r : Nat → Int
  pc : Int
  ps : Int
  c : Nat → Int
  h : Bool
def Sta.v (s : Sta) : Array Value := #[.int .u32 (s.r 0), .int .u32 (s.r 1), .int .u32 (s.r 2), .int .u32 (s.r 3), .int .u32 (s.r 4), .int .u32 (s.r 5), .int .u32 (s.r 6), .int .u32 (s.r 7), .int .u32 s.pc, .int .u32 s.ps,
  .int .u32 (s.c 0), .int .u32 (s.c 1), .int .u32 (s.c 2), .int .u32 (s.c 3), .int .u32 (s.c 4), .int .u32 (s.c 5), .int .u32 (s.c 6), .int .u32 (s.c 7), .bool s.h]
def up (r : Nat → Int) (a : Nat) (x : Int) : Nat → Int := fun n => if n = a then x else r n
def Sta.go (s : Sta) (x : Int) : Sta := { s with pc := x }
structure Sta.Ok (s : Sta) : Prop where
  r : ∀ n, 0 ≤ s.r n ∧ s.r n < 4294967296
  pc : 0 ≤ s.pc ∧ s.pc < 4294967296
  ps : 0 ≤ s.ps ∧ s.ps < 4294967296
  c : ∀ n, 0 ≤ s.c n ∧ s.c n < 4294967296
theorem v_ps (s : Sta) : s.v[9]? = some (.int .u32 s.ps) := rfl
def At (w : World) (p : Nat) (s : Sta) : Prop := w.heap[p]? = some (.cells s.v 28 (0, 0))
theorem At.ps {w : World} {p : Nat} {s : Sta} (h : At w p s) : w.cell? ⟨p, 9, none⟩ = some (.int .u32 s.ps) := (cell_of_block h).trans (v_ps s)
theorem At.kep {w w' : World} {p : Nat} {s : Sta} (h : At w p s) (k : Kep w w') : At w' p s := k.block h
theorem At.put {w w' : World} {p : Nat} {s : Sta} {l : List Nat} (h : At w p s) (k : Put l w w') (hp : p ∉ l) : At w' p s := k.keeps h hp
theorem Put.setCellNew {l : List Nat} {a b : World} (h : Put l a b) {p : Addr} (hp : a.heap.size ≤ p.block) (v : Value) : Put l a (b.setCell p v) := by
  refine ⟨h.os, h.tape, h.output, by simpa using h.size, fun k hk h1 => ?_⟩
  rw [heap_setCell_other _ _ _ _ (by omega)]
  exact h.block k hk h1
theorem row_frozen {w : World} {b : Nat} {cs : Array Value} {t : TypeId} (h : w.heap[b]? = some (.cells cs t (0, 0))) (j : Nat) : w.frozen? ⟨b, j, none⟩ = false := by simp [World.frozen?, h]
theorem drew_heap (w : World) (k : Nat) : w.drew.heap[k]? = w.heap[k]? := rfl
theorem drewN_heap (w : World) (n k : Nat) : (w.drewN n).heap[k]? = w.heap[k]? := rfl
theorem size_sta : (Tryz.prog.info? 28).map (·.size) = some 19 := by kernel_rfl
theorem size_flt : (Tryz.prog.info? 42).map (·.size) = some 2 := by kernel_rfl
theorem blkA {P : Prop} (h : P := by (repeat (first | (with_reducible assumption) | (with_reducible exact Hid.out (by assumption)) | (with_reducible refine (hsk _ _ _ (by (first | omega | (simp only [World.size_alloc, World.size_setCell, size_setRow, World.size_drew]; done) | (simp only [World.size_alloc, World.size_setCell, size_setRow, World.size_drew]; omega)))).trans ?_) | (with_reducible refine (hat _ _ _ (by (first | omega | (simp only [World.size_alloc, World.size_setCell, size_setRow, World.size_drew]; done) | (simp only [World.size_alloc, World.size_setCell, size_setRow, World.size_drew]; omega))))) | (with_reducible refine Kep.block (Kep.alloc (Kep.refl _) _) ?_) | (with_reducible refine (heap_setCell_other _ _ _ _ (by (first | omega | (simp only []; omega) | (show _ ≠ _; omega)))).trans ?_) | (with_reducible refine (setRow_other _ _ _ _ (by (first | omega | (simp only []; omega) | (show _ ≠ _; omega)))).trans ?_) | (with_reducible refine (drew_heap _ _).trans ?_) | (with_reducible refine (drewN_heap _ _ _).trans ?_) | (with_reducible refine Kep.block (by assumption) ?_) | (with_reducible exact setRow_heap _ _ _ _ _ _ (by (repeat (first | (with_reducible assumption) | (with_reducible exact Hid.out (by assumption)) | (with_reducible refine (hsk _ _ _ (by (first | omega | (simp only [World.size_alloc, World.size_setCell, size_setRow, World.size_drew]; done) | (simp only [World.size_alloc, World.size_setCell, size_setRow, World.size_drew]; omega)))).trans ?_) | (with_reducible refine (hat _ _ _ (by (first | omega | (simp only [World.size_alloc, World.size_setCell, size_setRow, World.size_drew]; done) | (simp only [World.size_alloc, World.size_setCell, size_setRow, World.size_drew]; omega))))) | (with_reducible refine Kep.block (Kep.alloc (Kep.refl _) _) ?_) | (with_reducible refine (heap_setCell_other _ _ _ _ (by (first | omega | (simp only []; omega) | (show _ ≠ _; omega)))).trans ?_) | (with_reducible refine (setRow_other _ _ _ _ (by (first | omega | (simp only []; omega) | (show _ ≠ _; omega)))).trans ?_) | (with_reducible refine (drew_heap _ _).trans ?_) | (with_reducible refine (drewN_heap _ _ _).trans ?_)))))))) : P := h
theorem hidd {p : Prop} (h : p) : Hid p := h
theorem made_rep (x : Value) (n : Nat) : madeCells #[x] n = (List.replicate n x).toArray := by
  apply Array.ext
  · simp [madeCells]
  · intro i h1 h2
    simp [madeCells, Nat.mod_one]
theorem info_u8 : (Tryz.prog.info? 5).map (fun i => (i.zero, i.size, i.bytes)) = some (some (.int .u8 0), 1, 1) := by kernel_rfl
theorem info_sl : (Tryz.prog.info? 22).map (fun i => (i.zero, i.size, i.bytes)) = some (some (.slice none 0 0), 1, 24) := by kernel_rfl
theorem byt_zero (n : Nat) : byt (List.replicate n 0) = List.replicate n (.int .u8 0) := by simp [byt]
theorem make_row (s : Nat) (hs : s ≤ 140737488355328) (w : World) : Sem.run Tryz.prog (Instr.makeSlice 22 (.int .i64 s) (.int .i64 s)) w = .ok (.slice (some ⟨w.heap.size, 0, none⟩) s s) (w.alloc (.cells (byt (List.replicate s 0)).toArray 5)) := by
  obtain ⟨i, hi, hz0, hz1, hz2⟩ := info_parts info_u8
  have := run_make (P := Tryz.prog) w 22 5 i (.int .u8 0) Tryz.underlying22 hi hz0 .i64 .i64 s s (by omega) (by omega) (by rw [hz2]; omega) (by omega)
  rw [hz1] at this
  rw [byt_zero]
  simpa [Value.cells, made_rep] using this
theorem make_frames (s : Nat) (hs : s ≤ 1000000) (w : World) : Sem.run Tryz.prog (Instr.makeSlice 152 (.int .i64 s) (.int .i64 s)) w = .ok (.slice (some ⟨w.heap.size, 0, none⟩) s s) (w.alloc (.cells (List.replicate s (Value.slice none 0 0)).toArray 22)) := by
  obtain ⟨i, hi, hz0, hz1, hz2⟩ := info_parts info_sl
  have := run_make (P := Tryz.prog) w 152 22 i (.slice none 0 0) Tryz.underlying152 hi hz0 .i64 .i64 s s (by omega) (by omega) (by rw [hz2]; omega) (by omega)
  rw [hz1] at this
  simpa [Value.cells, made_rep] using this
def cutF (R n k : Nat) : List Value := frs R (List.range k) ++ List.replicate (n - k) (.slice none 0 0)
theorem cutF_zero (R n : Nat) : cutF R n 0 = List.replicate n (.slice none 0 0) := by simp [cutF, frs]
theorem cutF_all (R n : Nat) : cutF R n n = frs R (List.range n) := by simp [cutF]
theorem cutF_at (R n k : Nat) (h : k < n) : (cutF R n k)[k]? = some (.slice none 0 0) := by
  have hl : (frs R (List.range k)).length = k := by simp [frs]
  rw [cutF, List.getElem?_append_right (by omega), hl, Nat.sub_self]
  simp [List.getElem?_replicate]; omega
theorem cutF_set (R n k : Nat) (h : k < n) : (cutF R n k).set k (.slice (some ⟨R, 64 * k, none⟩) 64 64) = cutF R n (k + 1) := by
  have hl : (frs R (List.range k)).length = k := by simp [frs]
  have e1 : frs R (List.range (k + 1)) = frs R (List.range k) ++ [.slice (some ⟨R, 64 * k, none⟩) 64 64] := by simp [frs, List.range_succ]
  have e2 : n - k = (n - (k + 1)) + 1 := by omega
  rw [cutF, cutF, List.set_append_right _ _ (by omega), hl, Nat.sub_self, e1, e2, List.replicate_succ]
  simp
structure Cut (w wr : World) (Z : Array Value) (n k : Nat) : Prop where
  kep : Kep w wr
  row : wr.heap[w.heap.size]? = some (.cells Z 5 (0, 0))
  fr : wr.heap[w.heap.size + 1]? = some (.cells (cutF w.heap.size n k).toArray 22 (0, 0))
  box : wr.heap[w.heap.size + 2]? = some (.cells #[.slice (some ⟨w.heap.size + 1, 0, none⟩) n n] 154 (0, 0))
theorem Cut.step {w wr : World} {Z : Array Value} {n k : Nat} (h : Cut w wr Z n k) (hk : k < n) : Cut w ((wr.setCell ⟨w.heap.size + 1, k, none⟩ (.slice (some ⟨w.heap.size, 64 * k, none⟩) 64 64)).drew) Z n (k + 1) := by
  refine ⟨(h.kep.setCell (by simp) _).drew, ?_, ?_, ?_⟩
  · rw [heap_drew, heap_setCell_other _ _ _ _ (by simp)]; exact h.row
  · rw [heap_drew, heap_setCell_row h.fr, ← cutF_set _ _ _ hk]; simp
  · rw [heap_drew, heap_setCell_other _ _ _ _ (by simp)]; exact h.box
set_option maxRecDepth 100000 in
theorem cut_any (w : World) (n : Nat) (h1 : (1 : Int) ≤ n) (h2 : (n : Int) ≤ 512) :
    Calls Tryz.prog 44 #[.int .i64 n] w fun e w' => e = .returned (.pointer (some ⟨w.heap.size + 2, 0, none⟩)) ∧ Kep w w' ∧ w'.heap[w.heap.size]? = some (.cells (byt (List.replicate (64 * n) 0)).toArray 5 (0, 0)) ∧
      w'.heap[w.heap.size + 1]? = some (.cells (frs w.heap.size (List.range n)).toArray 22 (0, 0)) ∧ w'.heap[w.heap.size + 2]? = some (.cells #[.slice (some ⟨w.heap.size + 1, 0, none⟩) n n] 154 (0, 0)) := by
  have m1 := make_row (n * 64) (by omega)
  have m2 := make_frames n (by omega)
  have e1 : ((n * 64 : Nat) : Int) = (n : Int) * 64 := by omega
  rw [e1] at m1
  have e2 : 64 * n = n * 64 := by omega
  rw [e2]
  clear e1 e2
  generalize (byt (List.replicate (n * 64) 0)).toArray = Z at m1
  rw [← cutF_zero w.heap.size n] at m2
  go_enter Tryz.func44, Tryz.ntmps44
  go_wp2
  go_loopw [16] (fun i wr => ∃ k : Nat, (k : Int) ≤ n ∧ i = .int .i64 k ∧ Hid (Cut w wr Z n k)) (fun i _ => n - (intOf i).toNat)
  case atStart =>
    refine ⟨0, by omega, rfl, ⟨(((Kep.refl _).alloc _).alloc _).alloc _, ?_, ?_, ?_⟩⟩
    · exact (hsk _ _ _ (by simp; omega)).trans ((hsk _ _ _ (by simp)).trans (hat _ _ _ rfl))
    · exact (hsk _ _ _ (by simp)).trans (hat _ _ _ (by simp))
    · exact hat _ _ _ (by simp)
  case round =>
    obtain ⟨k, hk, rfl, C⟩ := hrel
    clear m1 m2
    have c1 : wr.cell? ⟨w.heap.size + 2, 0, none⟩ = some (.slice (some ⟨w.heap.size + 1, 0, none⟩) n n) := by rw [cell_of_block C.out.box]; rfl
    by_cases hlt : k < n
    · have c2 : wr.cell? ⟨w.heap.size + 1, k, none⟩ = some (.slice none 0 0) := by rw [cell_of_block C.out.fr]; simpa using cutF_at _ n k hlt
      have f2 : wr.frozen? ⟨w.heap.size + 1, k, none⟩ = false := by simp [World.frozen?, C.out.fr]
      have hlt' : (k : Int) < n := by omega
      go_wp2
      go_region
      all_goals
        go_wp2
        go_roundw
        case rel =>
          have e1 : (k + 1) * 64 - k * 64 = 64 := by omega
          have e2 : k * 64 = 64 * k := by omega
          rw [e1, e2]
          exact ⟨k + 1, by omega, by go_num, C.out.step hlt⟩
        case measure => simp [intOf]; omega
    · obtain rfl : k = n := by omega
      go_wp2
      go_ret
      rw [← cutF_all]
      exact ⟨rfl, C.out.kep, C.out.row, C.out.fr, C.out.box⟩
structure Own (w w' : World) (v : Value) (R n : Nat) (B : List Int) : Prop where
  kep : Kep w w'
  ram : Ram w' v R (List.range n)
  row : RowB w' R B
  len : B.length = 64 * n
  byts : Byts B
  ge : w.heap.size ≤ R
  pos : 1 ≤ n
  le : n ≤ 512
  sz : w.heap.size + 3 ≤ w'.heap.size
theorem byts_zero (n : Nat) : Byts (List.replicate n 0) := by
  intro b hb
  have := (List.mem_replicate.1 hb).2
  subst this; decide
theorem fits_range {B : List Int} {n : Nat} (h : B.length = 64 * n) : Fits B (List.range n) := by
  intro i hi
  have := List.mem_range.1 hi
  omega
theorem pos_range {n a : Nat} (h : a < 64 * n) : pos (List.range n) a = a := by
  have h1 : a / 64 < n := by omega
  have : (List.range n).getD (a / 64) 0 = a / 64 := by simp [List.getD, h1]
  unfold pos
  rw [this]; omega
theorem cut_own (w : World) (n : Nat) (h1 : 1 ≤ n) (h2 : n ≤ 512) :
    Calls Tryz.prog 44 #[.int .i64 n] w fun e w' => ∃ v : Value, e = .returned v ∧ Own w w' v w.heap.size n (List.replicate (64 * n) 0) := by
  refine (cut_any w n (by omega) (by omega)).mono ?_
  rintro e w' ⟨rfl, k, r, f, b⟩
  refine ⟨_, rfl, k, .inr (.inr ⟨_, _, rfl, ?_, f, by omega, by omega, ?_⟩), fun _ => r, by simp, byts_zero _, Nat.le_refl _, h1, h2, block_lt b⟩
  · simpa using b
  · intro e
    have := congrArg List.length e
    simp at this; omega
theorem new_any (w : World) (n : Nat) (h1 : 1 ≤ n) (h2 : n ≤ 512) :
    Calls Tryz.prog 18 #[.int .i64 n] w fun e w' => ∃ p : Nat, e = .returned (.tuple #[.pointer (some ⟨p, 0, none⟩), .int .i64 0]) ∧ Own w w' (.pointer (some ⟨p, 0, none⟩)) w.heap.size n (List.replicate (64 * n) 0) := by
  have hc : Hid (Calls Tryz.prog 44 #[.int .i64 n] w fun e w' => ∃ v : Value, e = .returned v ∧ Own w w' v w.heap.size n (List.replicate (64 * n) 0)) := cut_own w n h1 h2
  have g1 : (1 : Int) ≤ n := by omega
  have g2 : (n : Int) ≤ 512 := by omega
  have g3 : decide ((n : Int) < 1) = false := decide_eq_false (by omega)
  go_enter Tryz.func18, Tryz.ntmps18
  go_wp2_with (go_at_call 44; refine hc.out.mono ?_; rintro e w1 ⟨v, rfl, O⟩)
  go_ret2
  rcases O.ram with ⟨h, _⟩ | ⟨h, _⟩ | ⟨p, F, rfl, _⟩
  · have := congrArg List.length h
    simp at this; omega
  · have := congrArg List.length h
    simp at this; omega
  · exact ⟨p, rfl, O⟩
structure Mem (w : World) (v : Value) (R : Nat) (ix : List Nat) (B : List Int) : Prop where
  ram : Ram w v R ix
  row : RowB w R B
  fits : Fits B ix
  byts : Byts B
  max : (ix.length : Int) ≤ 512
theorem Mem.kep {w w' : World} {v : Value} {R : Nat} {ix : List Nat} {B : List Int} (h : Mem w v R ix B) (k : Kep w w') : Mem w' v R ix B := ⟨h.ram.kep k, h.row.kep k, h.fits, h.byts, h.max⟩
theorem Off.stay {w w' : World} {v : Value} {R : Nat} {ix l m : List Nat} (h : Ram w v R ix) (ho : Off w v l) (k : Put m w w') (hm : Off w v m) : Off w' v l := by
  intro p e
  obtain ⟨h1, h2⟩ := ho p e
  obtain ⟨h3, h4⟩ := hm p e
  refine ⟨h1, fun F n c hc => h2 F n c ?_⟩
  rcases h with ⟨_, e'⟩ | ⟨_, p', e', hp, _⟩ | ⟨p', F', e', hp, _⟩
  · rw [e'] at e; cases e
  · rw [e'] at e; cases e
    rw [k.cell (block_lt hp) h3] at hc; exact hc
  · rw [e'] at e; cases e
    rw [k.cell (block_lt hp) h3] at hc; exact hc
theorem Mem.put {w w' : World} {v : Value} {R : Nat} {ix l : List Nat} {B : List Int} (h : Mem w v R ix B) (k : Put l w w') (ho : Off w v l) (hR : R ∉ l) : Mem w' v R ix B := ⟨h.ram.off k ho, h.row.put k hR, h.fits, h.byts, h.max⟩
theorem Put.onto {l m : List Nat} {a b c : World} (h : Put l a b) (k : Put m b c) (hm : ∀ x ∈ m, x < a.heap.size → x ∈ l) : Put l a c :=
  ⟨k.os.trans h.os, k.tape.trans h.tape, k.output.trans h.output, Nat.le_trans h.size k.size, fun i hi h1 => (k.block i (Nat.lt_of_lt_of_le hi h.size) fun h2 => h1 (hm i h2 hi)).trans (h.block i hi h1)⟩
end Go.Proofs.YtamffningddgbaaGreatDoor
