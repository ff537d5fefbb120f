/- Part of a proof. -/
import Derived.ArgAppend
import Derived.Maps.AppendAt
import Derived.OwnWalk
import Derived.OwnWalkIn
import Derived.Laws.CopyOwn
import Derived.Test.YtnignfloedcmlaaGreatDoorJ01
namespace Go.Proofs.YtnignfloedcmlaaGreatDoor
open Go.RowKit
set_option linter.unusedVariables false
set_option linter.unusedSimpArgs false
def Sli (w : World) (e : TypeId) (z : Nat) (v : Value) (n : Nat) (xs : List Value) (F : List Nat) : Prop :=
  xs.length = n * z ∧ ((v = .slice none 0 0 ∧ n = 0 ∧ F = []) ∨ ∃ (g off cap : Nat) (cur : List Value), v = .slice (some ⟨g, off, none⟩) n cap ∧ F = [g] ∧ w.heap[g]? = some (.cells cur.toArray e (0, 0)) ∧ n ≤ cap ∧ cap ≤ maxLen ∧ off + cap * z ≤ cur.length ∧ (cur.drop off).take (n * z) = xs)
theorem Sli.nil (w : World) (e : TypeId) (z : Nat) : Sli w e z (.slice none 0 0) 0 [] [] := ⟨by simp, .inl ⟨rfl, rfl, rfl⟩⟩
theorem Sli.put {w w' : World} {e : TypeId} {z : Nat} {v : Value} {n : Nat} {xs : List Value} {F l : List Nat} (h : Sli w e z v n xs F) (k : Put l w w') (hl : ∀ g ∈ F, g ∉ l) : Sli w' e z v n xs F := by
  rcases h with ⟨h0, h | ⟨g, off, cap, cur, rfl, rfl, hg, r⟩⟩
  · exact ⟨h0, .inl h⟩
  · exact ⟨h0, .inr ⟨g, off, cap, cur, rfl, rfl, k.keeps hg (hl g (by simp)), r⟩⟩
theorem Sli.kep {w w' : World} {e : TypeId} {z : Nat} {v : Value} {n : Nat} {xs : List Value} {F : List Nat} (h : Sli w e z v n xs F) (k : Kep w w') : Sli w' e z v n xs F := h.put (l := []) (Put.of_kep k) (by simp)
theorem Sli.lt {w : World} {e : TypeId} {z : Nat} {v : Value} {n : Nat} {xs : List Value} {F : List Nat} (h : Sli w e z v n xs F) : ∀ g ∈ F, g < w.heap.size := by
  rcases h with ⟨h0, ⟨_, _, rfl⟩ | ⟨g, off, cap, cur, rfl, rfl, hg, r⟩⟩
  · simp
  · intro b hb; obtain rfl : b = g := by simpa using hb
    exact block_lt hg
theorem Sli.form {w : World} {e : TypeId} {z : Nat} {v : Value} {n : Nat} {xs : List Value} {F : List Nat} (h : Sli w e z v n xs F) :
    (v = .slice none 0 0 ∧ n = 0 ∧ xs = [] ∧ F = []) ∨ ∃ g off cap, v = .slice (some ⟨g, off, none⟩) n cap ∧ F = [g] ∧ n ≤ cap ∧ cap ≤ maxLen ∧ g < w.heap.size ∧ (∀ j u, xs[j]? = some u → w.cell? ⟨g, off + j, none⟩ = some u) ∧
      ∀ j, j < cap * z → (w.cell? ⟨g, off + j, none⟩).isSome = true ∧ w.frozen? ⟨g, off + j, none⟩ = false := by
  rcases h with ⟨h0, ⟨hv, rfl, rfl⟩ | ⟨g, off, cap, cur, rfl, rfl, hg, h1, h2, h3, h4⟩⟩
  · exact .inl ⟨hv, rfl, List.eq_nil_of_length_eq_zero (by simpa using h0), rfl⟩
  · refine .inr ⟨g, off, cap, rfl, rfl, h1, h2, block_lt hg, fun j u hj => ?_, fun j hj => ⟨?_, by simp [World.frozen?, hg]⟩⟩
    · rw [cell_of_block hg, List.getElem?_toArray]
      have hlt : j < n * z := by have := (List.getElem?_eq_some_iff.1 hj).1; omega
      rw [← h4, List.getElem?_take_of_lt hlt, List.getElem?_drop] at hj
      exact hj
    · rw [cell_of_block hg, List.getElem?_toArray, List.getElem?_eq_getElem (by omega)]; rfl
theorem Sli.of_owns {w : World} {base : Nat} {e : TypeId} {z : Nat} {v : Value} {n : Nat} {xs : List Value} (h : w.ownsRow base e z v n xs) : ∃ F, Sli w e z v n xs F ∧ ∀ g ∈ F, base ≤ g := by
  rcases h with ⟨h0, ⟨hv, hn⟩ | ⟨g, cap, cur, hv, hb, hg, h1, h2, h3, h4⟩⟩
  · exact ⟨[], ⟨h0, .inl ⟨hv, hn, rfl⟩⟩, by simp⟩
  · exact ⟨[g], ⟨h0, .inr ⟨g, 0, cap, cur.toList, hv, rfl, by simpa using hg, h1, h2, by simp [h3], by simpa using h4⟩⟩, fun b hb' => by simp at hb'; omega⟩
theorem Put.of_grown {w w' : World} {row : Option Nat} {l : List Nat} (h : w.grownBy w' row) (hl : ∀ k, row = some k → k ∈ l) : Put l w w' :=
  ⟨h.os, h.tape, h.output, h.size, fun k hk hn => h.block k hk fun e => hn (hl k e.symm)⟩
theorem drop_put {α : Type} (cur news : List α) (off m : Nat) (h : off + m + news.length ≤ cur.length) : ((cur.take (off + m) ++ news ++ cur.drop (off + m + news.length)).drop off).take (m + news.length) = (cur.drop off).take m ++ news := by
  have hl : (cur.take (off + m)).length = off + m := by simp; omega
  rw [List.append_assoc, List.drop_append_of_le_length (by omega)]
  have e : (cur.take (off + m)).drop off = (cur.drop off).take m := by rw [List.drop_take, Nat.add_sub_cancel_left]
  have hm : ((cur.drop off).take m).length = m := by simp; omega
  rw [e, ← List.append_assoc, List.take_append_of_le_length (by simp; omega), List.take_of_length_le (by simp; omega)]
theorem run_append_sli {P : Program} {w : World} (t ty e : TypeId) (i : TypeInfo) (zv : Value) (z bytes : Nat) (ht : P.underlying t = some (.slice e)) (hi : P.info? e = some i) (hz : i.zero = some zv)
    (hsize : i.size = z) (hby : i.bytes = bytes) (hzs : zv.cells.size = z) (hsz : 0 < z)
    {v : Value} {n : Nat} {xs : List Value} {F : List Nat} (h : Sli w e z v n xs F)
    (a : Addr) (c : Nat) (news : List Value) (hl : news.length = z) (hnews : ∀ j u, news[j]? = some u → w.cell? (a.add j) = some u) (h1 : ∀ u ∈ news, u.oneCell' = true)
    (h63 : n + 1 ≤ maxLen) (hbytes : (n + 1) * bytes ≤ 140737488355328) :
    ∃ v' w' F', (Builtin.append_ #[t, t] ty #[v, .slice (some a) 1 c]).run P w = .ok v' w' ∧ Sli w' e z v' (n + 1) (xs ++ news) F' ∧ Put F w w' ∧ (∀ g ∈ F', g ∈ F ∨ w.heap.size ≤ g) := by
  rcases h with ⟨h0, ⟨rfl, rfl, rfl⟩ | ⟨g, off, cap, cur, rfl, rfl, hg, h2, h3, h4, h5⟩⟩
  · obtain rfl : xs = [] := List.eq_nil_of_length_eq_zero (by simpa using h0)
    obtain ⟨v', w', hr, ho, hgr, _⟩ := run_append_own (P := P) w w.heap.size t ty e i zv z bytes ht hi hz hsize hby hzs hsz (.slice none 0 0) 0 [] (World.ownsRow_nil _ _ _ _) a 1 c news (by omega) hnews h1 h63 hbytes (Nat.le_refl _)
    obtain ⟨F', s, hF⟩ := Sli.of_owns ho
    exact ⟨v', w', F', hr, s, Put.of_grown hgr (fun k hk => by simp [Value.ownBlock] at hk), fun g hg => .inr (hF g hg)⟩
  · have F0 : Sli w e z (.slice (some ⟨g, off, none⟩) n cap) n xs [g] := ⟨h0, .inr ⟨g, off, cap, cur, rfl, rfl, hg, h2, h3, h4, h5⟩⟩
    rcases F0.form with ⟨hv, _⟩ | ⟨g', off', cap', hv, _, _, _, _, hc, hsp⟩
    · cases hv
    simp only [Value.slice.injEq, Option.some.injEq, Addr.mk.injEq, and_true, true_and] at hv
    obtain ⟨⟨rfl, rfl⟩, rfl⟩ := hv
    by_cases hroom : n + 1 ≤ cap
    · have hnz : n * z + z ≤ cap * z := by have := Nat.mul_le_mul_right z hroom; rw [Nat.add_mul, Nat.one_mul] at this; exact this
      have hr := run_append_room_cells (P := P) w t ty e i ht hi g off n cap a 1 c news (by omega) hnews h1 hroom (fun j hj => by rw [hsize, Nat.add_assoc]; exact (hsp (n * z + j) (by omega)).1) (fun j hj => by rw [hsize, Nat.add_assoc]; exact (hsp (n * z + j) (by omega)).2)
      rw [hsize] at hr
      have hrow := heap_setCells_row news (off + n * z) w cur hg (by omega)
      refine ⟨_, _, [g], hr, ⟨by simp [h0, hl, Nat.add_mul], .inr ⟨g, off, cap, _, rfl, rfl, hrow, hroom, h3, ?_, ?_⟩⟩, Put.setCells (by simp) _ _ _ (Put.refl _), fun b hb => .inl hb⟩
      · simp only [List.length_append, List.length_take, List.length_drop]; omega
      · have := drop_put cur news off (n * z) (by omega)
        rw [h5, hl] at this
        rw [Nat.add_mul, Nat.one_mul, hl]; exact this
    · obtain ⟨v', w', hr, ho, hgr⟩ := run_append_arg_grows (P := P) w t ty e i zv z bytes ht hi hz hsize hby hzs hsz ⟨g, off, none⟩ n cap xs h0 (fun j u hj => by rw [Addr.add_lit]; exact hc j u hj) a 1 c news (by omega) hnews (by omega) h63 hbytes
      obtain ⟨F', s, hF⟩ := Sli.of_owns ho
      exact ⟨v', w', F', hr, s, Put.of_grown hgr (fun k hk => by cases hk), fun g hg => .inr (hF g hg)⟩
theorem wp_append_sli {P : Program} {w : World} {o : Oper} {a : Act} {K : Act → World → Prop} {Q : Exit → Act → World → Prop} (s x : Operand) (t : TypeId)
    (ho : o.op = .call { callee := .builtin .append, args := #[s, x], argTypes := #[t, t] })
    (e : TypeId) (i : TypeInfo) (zv : Value) (z bytes : Nat) (ht : P.underlying t = some (.slice e)) (hi : P.info? e = some i) (hz : i.zero = some zv)
    (hsize : i.size = z) (hby : i.bytes = bytes) (hzs : zv.cells.size = z) (hsz : 0 < z)
    (v : Value) (n : Nat) (xs : List Value) (F : List Nat) (hs : a.eval s = v) (h : Sli w e z v n xs F)
    (ad : Addr) (c : Nat) (news : List Value) (hx : a.eval x = .slice (some ad) 1 c) (hl : news.length = z) (hnews : ∀ j u, news[j]? = some u → w.cell? (ad.add j) = some u) (h1 : ∀ u ∈ news, u.oneCell' = true)
    (h63 : n + 1 ≤ maxLen) (hbytes : (n + 1) * bytes ≤ 140737488355328)
    (hK : ∀ v' w' F', Hid (Sli w' e z v' (n + 1) (xs ++ news) F') → Hid (Put F w w') → Hid (∀ g ∈ F', g ∈ F ∨ w.heap.size ≤ g) → K (a.put o.dst v') w') : o.wp P a w K Q := by
  obtain ⟨v', w', F', hr, h2, h3, h4⟩ := run_append_sli (P := P) t o.type e i zv z bytes ht hi hz hsize hby hzs hsz h ad c news hl hnews h1 h63 hbytes
  unfold Oper.wp execOp
  simp only [ho, resolve, invoke, builtin, Sem.run_bind, Sem.run_pure, Result.andThen_ok, List.map_toArray, List.map_cons, List.map_nil, hs, hx, hr]
  exact hK v' w' F' h2 h3 h4
theorem wpList_append_sli {P : Program} {w : World} {ops : Array Oper} {rest : List Oper} {o : Oper} {a : Act} {Q : Exit → Act → World → Prop} (hgd : o.guard = none) (s x : Operand) (t : TypeId)
    (ho : o.op = .call { callee := .builtin .append, args := #[s, x], argTypes := #[t, t] })
    (e : TypeId) (i : TypeInfo) (zv : Value) (z bytes : Nat) (ht : P.underlying t = some (.slice e)) (hi : P.info? e = some i) (hz : i.zero = some zv)
    (hsize : i.size = z) (hby : i.bytes = bytes) (hzs : zv.cells.size = z) (hsz : 0 < z)
    (v : Value) (n : Nat) (xs : List Value) (F : List Nat) (hs : a.eval s = v) (h : Sli w e z v n xs F)
    (ad : Addr) (c : Nat) (news : List Value) (hx : a.eval x = .slice (some ad) 1 c) (hl : news.length = z) (hnews : ∀ j u, news[j]? = some u → w.cell? (ad.add j) = some u) (h1 : ∀ u ∈ news, u.oneCell' = true)
    (h63 : n + 1 ≤ maxLen) (hbytes : (n + 1) * bytes ≤ 140737488355328)
    (hK : ∀ v' w' F', Hid (Sli w' e z v' (n + 1) (xs ++ news) F') → Hid (Put F w w') → Hid (∀ g ∈ F', g ∈ F ∨ w.heap.size ≤ g) → wpList P ops Q rest (a.put o.dst v') w') : wpList P ops Q (o :: rest) a w :=
  wpList_plain hgd fun _ hK' => wp_append_sli s x t ho e i zv z bytes ht hi hz hsize hby hzs hsz v n xs F hs h ad c news hx hl hnews h1 h63 hbytes fun v' w' F' h2 h3 h4 => hK' _ _ (hK v' w' F' h2 h3 h4)
theorem wpListIn_append_sli {Fc : Fence} {k : Nat} {P : Program} {w : World} {ops : Array Oper} {rest : List Oper} {o : Oper} {a : Act} {Q : Exit → Act → World → Prop} (hgd : o.guard = none) (s x : Operand) (t : TypeId)
    (ho : o.op = .call { callee := .builtin .append, args := #[s, x], argTypes := #[t, t] })
    (e : TypeId) (i : TypeInfo) (zv : Value) (z bytes : Nat) (ht : P.underlying t = some (.slice e)) (hi : P.info? e = some i) (hz : i.zero = some zv)
    (hsize : i.size = z) (hby : i.bytes = bytes) (hzs : zv.cells.size = z) (hsz : 0 < z)
    (v : Value) (n : Nat) (xs : List Value) (F : List Nat) (hs : a.eval s = v) (h : Sli w e z v n xs F)
    (ad : Addr) (c : Nat) (news : List Value) (hx : a.eval x = .slice (some ad) 1 c) (hl : news.length = z) (hnews : ∀ j u, news[j]? = some u → w.cell? (ad.add j) = some u) (h1 : ∀ u ∈ news, u.oneCell' = true)
    (h63 : n + 1 ≤ maxLen) (hbytes : (n + 1) * bytes ≤ 140737488355328)
    (hK : ∀ v' w' F', Hid (Sli w' e z v' (n + 1) (xs ++ news) F') → Hid (Put F w w') → Hid (∀ g ∈ F', g ∈ F ∨ w.heap.size ≤ g) → wpListIn Fc k P ops Q rest (a.put o.dst v') w') : wpListIn Fc k P ops Q (o :: rest) a w := by
  refine wpListIn_plain hgd fun K hK' => ?_
  obtain ⟨v', w', F', hrun, h2, h3, h4⟩ := run_append_sli (P := P) t o.type e i zv z bytes ht hi hz hsize hby hzs hsz h ad c news hl hnews h1 h63 hbytes
  unfold Oper.wpIn
  refine ⟨?_, ?_⟩
  · simp [Oper.about, ho, resolve, Target.leads, Sem.run_pure]
  · rw [Oper.semAt_plain Fc _ _ (by rw [ho]; intro c hc'; cases hc')]
    simp [execOp, ho, resolve, invoke, builtin, hs, hx, hrun, Result.andThen]
    exact hK' _ _ (hK v' w' F' h2 h3 h4)
theorem Sli.tail {P : Program} {w : World} {e : TypeId} {z : Nat} {v : Value} {n : Nat} {xs : List Value} {F : List Nat} (t : TypeId) (h : Sli w e z v n xs F) (hn : 1 ≤ n) (ht : P.underlying t = some (.slice (P.elem t))) (hs : ∀ w, (sizeOf (P.elem t)).run P w = .ok z w) :
    ∃ v', Sli w e z v' (n - 1) (xs.drop z) F ∧ ∀ w, (Instr.slice t v (some (.int .i64 1)) none none).run P w = .ok v' w := by
  rcases h with ⟨h0, ⟨_, hn0, _⟩ | ⟨g, off, cap, cur, rfl, rfl, hg, h2, h3, h4, h5⟩⟩
  · omega
  have hnz : n * z = z + (n - 1) * z := by obtain ⟨m, rfl⟩ : ∃ m, n = m + 1 := ⟨n - 1, by omega⟩; rw [Nat.add_mul, Nat.add_sub_cancel]; omega
  have hrun : ∀ w, (Instr.slice t (.slice (some ⟨g, off, none⟩) n cap) (some (.int .i64 1)) none none).run P w = .ok (.slice (if cap = 1 then some ⟨g, off, none⟩ else some ⟨g, off + z, none⟩) (n - 1) (cap - 1)) w := by
    intro w
    rw [run_slice_l (P := P) w t _ n cap ht .i64 1 (by omega) (by omega), hs]
    simp [sliced, Result.andThen, Addr.add_lit]
  refine ⟨_, ⟨by rw [List.length_drop, h0]; omega, .inr ?_⟩, hrun⟩
  by_cases hc : cap = 1
  · rw [if_pos hc]
    obtain rfl : n = 1 := by omega
    refine ⟨g, off, cap - 1, cur, rfl, rfl, hg, by omega, by omega, by rw [hc]; omega, ?_⟩
    have hx : xs.drop z = [] := List.drop_eq_nil_of_le (by rw [h0, Nat.one_mul]; exact Nat.le_refl _)
    rw [hx]; simp
  · rw [if_neg hc]
    obtain ⟨k, rfl⟩ : ∃ k, cap = k + 1 := ⟨cap - 1, by omega⟩
    refine ⟨g, off + z, k + 1 - 1, cur, rfl, rfl, hg, by omega, by omega, ?_, ?_⟩
    · rw [Nat.add_sub_cancel]; rw [Nat.add_mul, Nat.one_mul] at h4; omega
    · rw [← h5, ← List.drop_drop, List.drop_take, hnz]; congr 1; omega
def byt (B : List Int) : List Value := B.map (Value.int .u8)
theorem byt_len (B : List Int) : (byt B).length = B.length := by simp [byt]
theorem byt_at (B : List Int) (k : Nat) : (byt B)[k]? = B[k]?.map (Value.int .u8) := by simp [byt]
theorem byt_set (B : List Int) (k : Nat) (b : Int) : (byt B).set k (.int .u8 b) = byt (B.set k b) := by simp [byt, List.map_set]
def RowB (w : World) (R : Nat) (B : List Int) : Prop := B ≠ [] → w.heap[R]? = some (.cells (byt B).toArray 5 (0, 0))
theorem RowB.nil (w : World) (R : Nat) : RowB w R [] := fun h => absurd rfl h
theorem RowB.put {l : List Nat} {w w' : World} {R : Nat} {B : List Int} (h : RowB w R B) (k : Put l w w') (hl : R ∉ l) : RowB w' R B := fun hn => k.keeps (h hn) hl
theorem RowB.kep {w w' : World} {R : Nat} {B : List Int} (h : RowB w R B) (k : Kep w w') : RowB w' R B := fun hn => k.block (h hn)
theorem RowB.cell {w : World} {R : Nat} {B : List Int} (h : RowB w R B) {k : Nat} (hk : k < B.length) : w.cell? ⟨R, k, none⟩ = some (.int .u8 (B.getD k 0)) := by
  rw [cell_of_block (h (by intro e; subst e; simp at hk))]
  simp [byt, hk]
theorem RowB.lt {w : World} {R : Nat} {B : List Int} (h : RowB w R B) (hB : B ≠ []) : R < w.heap.size := block_lt (h hB)
theorem RowB.set {w : World} {R : Nat} {B : List Int} (h : RowB w R B) (k : Nat) (b : Int) : RowB (w.setCell ⟨R, k, none⟩ (.int .u8 b)) R (B.set k b) := by
  intro hn
  have hB : B ≠ [] := by intro e; subst e; simp at hn
  rw [heap_setCell_row (h hB), ← byt_set]
  simp
def frs (R : Nat) (ix : List Nat) : List Value := ix.map fun i => .slice (some ⟨R, 64 * i, none⟩) 64 64
theorem frs_at {R : Nat} {ix : List Nat} {k : Nat} (hk : k < ix.length) : (frs R ix)[k]? = some (.slice (some ⟨R, 64 * ix.getD k 0, none⟩) 64 64) := by simp [frs, hk]
def Ram (w : World) (v : Value) (R : Nat) (ix : List Nat) : Prop :=
  (ix = [] ∧ v = .pointer none) ∨ (ix = [] ∧ ∃ p : Nat, v = .pointer (some ⟨p, 0, none⟩) ∧ w.heap[p]? = some (.cells #[.slice none 0 0] 80 (0, 0)) ∧ p ≠ R) ∨
  ∃ p F : Nat, v = .pointer (some ⟨p, 0, none⟩) ∧ w.heap[p]? = some (.cells #[.slice (some ⟨F, 0, none⟩) ix.length ix.length] 80 (0, 0)) ∧ w.heap[F]? = some (.cells (frs R ix).toArray 22 (0, 0)) ∧ p ≠ R ∧ F ≠ R ∧ ix ≠ []
theorem Ram.put {w w' : World} {v : Value} {R : Nat} {ix : List Nat} (h : Ram w v R ix) (k : Put [R] w w') : Ram w' v R ix := by
  rcases h with h | ⟨h, p, e, hp, n⟩ | ⟨p, F, e, hp, hF, n1, n2, hn⟩
  · exact .inl h
  · exact .inr (.inl ⟨h, p, e, k.keeps hp (by simpa using n), n⟩)
  · exact .inr (.inr ⟨p, F, e, k.keeps hp (by simpa using n1), k.keeps hF (by simpa using n2), n1, n2, hn⟩)
theorem Ram.kep {w w' : World} {v : Value} {R : Nat} {ix : List Nat} (h : Ram w v R ix) (k : Kep w w') : Ram w' v R ix := h.put (Put.of_kep k)
def Off (w : World) (v : Value) (l : List Nat) : Prop := ∀ p : Nat, v = .pointer (some ⟨p, 0, none⟩) → p ∉ l ∧ ∀ F n c, w.cell? ⟨p, 0, none⟩ = some (.slice (some ⟨F, 0, none⟩) n c) → F ∉ l
theorem Ram.off {w w' : World} {v : Value} {R : Nat} {ix l : List Nat} (h : Ram w v R ix) (k : Put l w w') (ho : Off w v l) : Ram w' v R ix := by
  rcases h with h | ⟨h, p, e, hp, n⟩ | ⟨p, F, e, hp, hF, n1, n2, hn⟩
  · exact .inl h
  · exact .inr (.inl ⟨h, p, e, k.keeps hp (ho p e).1, n⟩)
  · exact .inr (.inr ⟨p, F, e, k.keeps hp (ho p e).1, k.keeps hF ((ho p e).2 F _ _ (by rw [cell_of_block hp]; rfl)), n1, n2, hn⟩)
def pos (ix : List Nat) (a : Nat) : Nat := 64 * ix.getD (a / 64) 0 + a % 64
theorem count_any (w : World) (v : Value) (R : Nat) (ix : List Nat) (h : Ram w v R ix) :
    Calls Tryz.prog 36 #[v] w fun e w' => e = .returned (.int .i64 ix.length) ∧ w' = w := by
  rcases h with ⟨rfl, rfl⟩ | ⟨rfl, p, rfl, hp, n⟩ | ⟨p, F, rfl, hp, hF, n1, n2, hn⟩
  · go_enter Tryz.func36, Tryz.ntmps36
    go_wp2
    go_ret
    exact ⟨rfl, rfl⟩
  · have c := cell_of_block (i := 0) hp
    simp at c
    clear hp n
    go_enter Tryz.func36, Tryz.ntmps36
    go_wp2
    go_ret
    exact ⟨rfl, rfl⟩
  · have c := cell_of_block (i := 0) hp
    simp at c
    clear hp hF n1 n2 hn
    go_enter Tryz.func36, Tryz.ntmps36
    go_wp2
    go_ret
    exact ⟨rfl, rfl⟩
theorem msize_any (w : World) (v : Value) (R : Nat) (ix : List Nat) (h : Ram w v R ix) (hix : (ix.length : Int) ≤ 512) :
    Calls Tryz.prog 22 #[v] w fun e w' => e = .returned (.int .u32 (64 * ix.length)) ∧ w' = w := by
  have hc : Hid (∀ w, Ram w v R ix → Calls Tryz.prog 36 #[v] w fun e w' => e = .returned (.int .i64 ix.length) ∧ w' = w) := fun w h => count_any w v R ix h
  have h' : Hid (Ram w v R ix) := h
  clear h
  go_enter Tryz.func22, Tryz.ntmps22
  go_wp2_with (go_at_call 36; refine (hc.out _ h'.out).mono ?_; rintro e w1 ⟨rfl, rfl⟩)
  go_ret
  exact ⟨ret_int (by omega), rfl⟩
def Lies (w : World) (x : Option Addr) (zs : List Value) : Prop := zs = [] ∨ ∃ b off : Nat, x = some ⟨b, off, none⟩ ∧ b < w.heap.size ∧ ∀ j u, zs[j]? = some u → w.cell? ⟨b, off + j, none⟩ = some u
theorem Lies.put {w w' : World} {x : Option Addr} {zs : List Value} {l : List Nat} (h : Lies w x zs) (k : Put l w w') (hl : ∀ b off, x = some ⟨b, off, none⟩ → b < w.heap.size → b ∉ l) : Lies w' x zs := by
  rcases h with h | ⟨b, off, e, hb, hc⟩
  · exact .inl h
  · exact .inr ⟨b, off, e, Nat.lt_of_lt_of_le hb k.size, fun j u hj => (k.cell hb (hl b off e hb)).trans (hc j u hj)⟩
theorem Lies.kep {w w' : World} {x : Option Addr} {zs : List Value} (h : Lies w x zs) (k : Kep w w') : Lies w' x zs := h.put (l := []) (Put.of_kep k) (by simp)
theorem Sli.lies {w : World} {e : TypeId} {z : Nat} {v : Value} {n : Nat} {xs : List Value} {F : List Nat} (h : Sli w e z v n xs F) : ∃ x cap, v = .slice x n cap ∧ Lies w x xs ∧ n ≤ cap ∧ cap ≤ maxLen ∧ (x = none → n = 0 ∧ cap = 0) := by
  rcases h.form with ⟨rfl, rfl, rfl, _⟩ | ⟨g, off, cap, rfl, _, h1, h2, hg, hc, _⟩
  · exact ⟨none, 0, rfl, .inl rfl, Nat.le_refl _, by simp [maxLen], fun _ => ⟨rfl, rfl⟩⟩
  · exact ⟨_, cap, rfl, .inr ⟨g, off, rfl, hg, hc⟩, h1, h2, fun e => by cases e⟩
theorem byt_ones (B : List Int) : ∀ u ∈ byt B, u.oneCell' = true := by
  intro u hu
  simp only [byt, List.mem_map] at hu
  obtain ⟨b, _, rfl⟩ := hu
  rfl
abbrev Ev := Int × Int × Int
def evV (e : Ev) : List Value := [.int .i64 e.1, .int .i64 e.2.1, .int .u8 e.2.2]
def evs (E : List Ev) : List Value := E.flatMap evV
theorem evs_cons (e : Ev) (E : List Ev) : evs (e :: E) = evV e ++ evs E := rfl
theorem evs_append (E D : List Ev) : evs (E ++ D) = evs E ++ evs D := by simp [evs]
theorem evs_len : ∀ E : List Ev, (evs E).length = E.length * 3
  | [] => rfl
  | e :: E => by rw [evs_cons, List.length_append, evs_len E, List.length_cons]; simp [evV]; omega
theorem evs_ones (E : List Ev) : ∀ u ∈ evs E, u.oneCell' = true := by
  intro u hu
  obtain ⟨e, _, he⟩ := List.mem_flatMap.1 hu
  simp only [evV, List.mem_cons, List.not_mem_nil, or_false] at he
  rcases he with rfl | rfl | rfl <;> rfl
theorem evs_at : ∀ (E : List Ev) (k : Nat) (e : Ev), E[k]? = some e → ∀ j, j < 3 → (evs E)[k * 3 + j]? = (evV e)[j]?
  | [], k, e, h, j, hj => by simp at h
  | x :: E, 0, e, h, j, hj => by
    simp at h; subst h
    rw [evs_cons, List.getElem?_append_left (by simp [evV]; omega)]
    simp
  | x :: E, k + 1, e, h, j, hj => by
    rw [evs_cons, List.getElem?_append_right (by simp [evV]; omega), ← evs_at E k e (by simpa using h) j hj]
    congr 1; simp [evV]; omega
theorem info_ev : (Tryz.prog.info? 74).map (fun i => (i.zero, i.size, i.bytes)) = some (some (.agg #[.int .i64 0, .int .i64 0, .int .u8 0]), 3, 24) := by kernel_rfl
theorem vinfo_u8 : (Tryz.prog.info? 5).map (fun i => (i.zero, i.size, i.bytes)) = some (some (.int .u8 0), 1, 1) := by kernel_rfl
def zb64 : Array Value := (List.replicate 64 (Value.int .u8 0)).toArray
theorem info_blk : (Tryz.prog.info? 108).map (fun i => (i.zero, i.size, i.bytes)) = some (some (.agg zb64), 64, 64) := by kernel_rfl
theorem eqnil0 {P : Program} (w : World) (d : Nat) (t e : TypeId) (a : Option Addr) (l c : Nat) (h : P.underlying t = some (.slice e)) : (Op.equalIn (d + 1) t (.slice a l c) (.slice none 0 0)).run P w = .ok a.isNone w := by
  cases a <;> simp [Op.equalIn, run_underlying h]
theorem eqnil1 {P : Program} (w : World) (t e : TypeId) (a : Option Addr) (l c : Nat) (h : P.underlying t = some (.slice e)) : (Op.equal t (.slice a l c) (.slice none 0 0)).run P w = .ok a.isNone w := eqnil0 w 9999 t e a l c h
theorem eqnil (P : Program) (t e : TypeId) (a : Option Addr) (l c : Nat) (h : P.underlying t = some (.slice e)) (w : World) : (binOp .eql t (.slice a l c) (.slice none 0 0)).run P w = .ok (.bool a.isNone) w := by
  simp [binOp, eqnil1 w t e a l c h]
set_option maxHeartbeats 1000000 in
theorem clone_ev (w : World) (x : Option Addr) (n cap : Nat) (xs : List Value) (hl : xs.length = n * 3) (h : Lies w x xs) (h1 : ∀ u ∈ xs, u.oneCell' = true) (hn : (n : Int) * 24 ≤ 140737488355328) :
    Calls Tryz.prog 40 #[.slice x n cap] w fun e w' => ∃ v, e = .returned v ∧ w'.ownsRow w.heap.size 74 3 v n xs ∧ Kep w w' := by
  obtain ⟨i0, hi, hz0, hz1, hz2⟩ := info_parts info_ev
  cases x with
  | none =>
    have hq : ∀ w, (binOp .eql 37 (.slice none n cap) (.slice none 0 0)).run Tryz.prog w = .ok (.bool true) w := eqnil _ _ _ none n cap Tryz.underlying37
    have hx : xs = [] := by rcases h with h | ⟨_, _, e, _⟩; exact h; cases e
    subst hx
    have hn0 : n = 0 := by simp at hl; omega
    subst hn0
    clear hl h1 h hn
    go_enter Tryz.func40, Tryz.ntmps40
    go_wp2
    go_ret
    exact ⟨_, rfl, World.ownsRow_nil _ _ _ _, Kep.refl _⟩
  | some ad =>
    have hq : ∀ w, (binOp .eql 37 (.slice (some ad) n cap) (.slice none 0 0)).run Tryz.prog w = .ok (.bool false) w := eqnil _ _ _ (some ad) n cap Tryz.underlying37
    have hs : Hid (∀ j u, xs[j]? = some u → (w.alloc (.cells #[] 74)).cell? (ad.add j) = some u) := fun j u hj => by
      rcases (h.kep ((Kep.refl w).alloc (.cells #[] 74))) with rfl | ⟨b, off, e, _, hc⟩
      · simp at hj
      · cases e; rw [Addr.add_lit]; exact hc j u hj
    have hl' : Hid (xs.length = n * 3) := hl
    have h1' : Hid (∀ u ∈ xs, u.oneCell' = true) := h1
    clear h hl h1
    go_enter Tryz.func40, Tryz.ntmps40
    go_wp2_with (at_builtin; refine wpList_append_own _ rfl _ _ 37 rfl w.heap.size 74 i0 _ 3 24 Tryz.underlying37 hi hz0 hz1 hz2 rfl (by decide) (.slice (some ⟨w.heap.size, 0, none⟩) 0 0) 0 [] rfl (World.ownsRow_made w #[] 0 (Nat.le_refl _) (by simp) (by simp)) ad n cap xs rfl hl'.out hs.out h1'.out (by unfold maxLen; omega) (by omega) (by simp) ?_; intro v' w1 hown hgrow _)
    go_ret
    refine ⟨_, rfl, by simpa using hown, ((Kep.refl w).alloc _).by hgrow ?_⟩
    intro k hk
    simp [Value.ownBlock] at hk; omega
set_option maxHeartbeats 1000000 in
theorem clone_u8 (w : World) (x : Option Addr) (n cap : Nat) (xs : List Value) (hl : xs.length = n * 1) (h : Lies w x xs) (h1 : ∀ u ∈ xs, u.oneCell' = true) (hn : (n : Int) * 1 ≤ 140737488355328) :
    Calls Tryz.prog 47 #[.slice x n cap] w fun e w' => ∃ v, e = .returned v ∧ w'.ownsRow w.heap.size 5 1 v n xs ∧ Kep w w' := by
  obtain ⟨i0, hi, hz0, hz1, hz2⟩ := info_parts vinfo_u8
  cases x with
  | none =>
    have hq : ∀ w, (binOp .eql 22 (.slice none n cap) (.slice none 0 0)).run Tryz.prog w = .ok (.bool true) w := eqnil _ _ _ none n cap Tryz.underlying22
    have hx : xs = [] := by rcases h with h | ⟨_, _, e, _⟩; exact h; cases e
    subst hx
    have hn0 : n = 0 := by simp at hl; omega
    subst hn0
    clear hl h1 h hn
    go_enter Tryz.func47, Tryz.ntmps47
    go_wp2
    go_ret
    exact ⟨_, rfl, World.ownsRow_nil _ _ _ _, Kep.refl _⟩
  | some ad =>
    have hq : ∀ w, (binOp .eql 22 (.slice (some ad) n cap) (.slice none 0 0)).run Tryz.prog w = .ok (.bool false) w := eqnil _ _ _ (some ad) n cap Tryz.underlying22
    have hs : Hid (∀ j u, xs[j]? = some u → (w.alloc (.cells #[] 5)).cell? (ad.add j) = some u) := fun j u hj => by
      rcases (h.kep ((Kep.refl w).alloc (.cells #[] 5))) with rfl | ⟨b, off, e, _, hc⟩
      · simp at hj
      · cases e; rw [Addr.add_lit]; exact hc j u hj
    have hl' : Hid (xs.length = n * 1) := hl
    have h1' : Hid (∀ u ∈ xs, u.oneCell' = true) := h1
    clear h hl h1
    go_enter Tryz.func47, Tryz.ntmps47
    go_wp2_with (at_builtin; refine wpList_append_own _ rfl _ _ 22 rfl w.heap.size 5 i0 _ 1 1 Tryz.underlying22 hi hz0 hz1 hz2 rfl (by decide) (.slice (some ⟨w.heap.size, 0, none⟩) 0 0) 0 [] rfl (World.ownsRow_made w #[] 0 (Nat.le_refl _) (by simp) (by simp)) ad n cap xs rfl hl'.out hs.out h1'.out (by unfold maxLen; omega) (by omega) (by simp) ?_; intro v' w1 hown hgrow _)
    go_ret
    refine ⟨_, rfl, by simpa using hown, ((Kep.refl w).alloc _).by hgrow ?_⟩
    intro k hk
    simp [Value.ownBlock] at hk; omega
end Go.Proofs.YtnignfloedcmlaaGreatDoor
