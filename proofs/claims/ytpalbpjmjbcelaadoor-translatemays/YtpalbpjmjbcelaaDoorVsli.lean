/- A slice that belongs to one object: its row and the row's spare cells; one element more; the first one taken off. -/
import Derived.Test.YtpalbpjmjbcelaaDoorPutl
import Derived.ArgAppend
import Derived.Maps.AppendAt
import Derived.OwnWalk
import Derived.OwnWalkIn
namespace Go.Proofs.YtpalbpjmjbcelaaDoor
open Go.RowKit
set_option linter.unusedVariables false

/-- v is a slice of n elements of z cells each, together the cells xs; the blocks F are its own. -/
def Sli (w : World) (e : TypeId) (z : Nat) (v : Value) (n : Nat) (xs : List Value) (F : List Nat) : Prop :=
  xs.length = n * z ∧ ((v = .slice none 0 0 ∧ n = 0 ∧ F = []) ∨ ∃ (g off cap : Nat) (cur : List Value), v = .slice (some ⟨g, off, none⟩) n cap ∧ F = [g] ∧ w.heap[g]? = some (.cells cur.toArray e (0, 0)) ∧ n ≤ cap ∧ cap ≤ maxLen ∧ off + cap * z ≤ cur.length ∧ (cur.drop off).take (n * z) = xs)
theorem Sli.nil (w : World) (e : TypeId) (z : Nat) : Sli w e z (.slice none 0 0) 0 [] [] := ⟨by simp, .inl ⟨rfl, rfl, rfl⟩⟩
theorem Sli.put {w w' : World} {e : TypeId} {z : Nat} {v : Value} {n : Nat} {xs : List Value} {F l : List Nat} (h : Sli w e z v n xs F) (k : Put l w w') (hl : ∀ g ∈ F, g ∉ l) : Sli w' e z v n xs F := by
  rcases h with ⟨h0, h | ⟨g, off, cap, cur, rfl, rfl, hg, r⟩⟩
  · exact ⟨h0, .inl h⟩
  · exact ⟨h0, .inr ⟨g, off, cap, cur, rfl, rfl, k.keeps hg (hl g (by simp)), r⟩⟩
theorem Sli.kep {w w' : World} {e : TypeId} {z : Nat} {v : Value} {n : Nat} {xs : List Value} {F : List Nat} (h : Sli w e z v n xs F) (k : Kep w w') : Sli w' e z v n xs F := h.put (l := []) (Put.of_kep k) (by simp)
theorem Sli.lt {w : World} {e : TypeId} {z : Nat} {v : Value} {n : Nat} {xs : List Value} {F : List Nat} (h : Sli w e z v n xs F) : ∀ g ∈ F, g < w.heap.size := by
  rcases h with ⟨h0, ⟨_, _, rfl⟩ | ⟨g, off, cap, cur, rfl, rfl, hg, r⟩⟩
  · simp
  · intro b hb; obtain rfl : b = g := by simpa using hb
    exact block_lt hg
theorem Sli.form {w : World} {e : TypeId} {z : Nat} {v : Value} {n : Nat} {xs : List Value} {F : List Nat} (h : Sli w e z v n xs F) :
    (v = .slice none 0 0 ∧ n = 0 ∧ xs = [] ∧ F = []) ∨ ∃ g off cap, v = .slice (some ⟨g, off, none⟩) n cap ∧ F = [g] ∧ n ≤ cap ∧ cap ≤ maxLen ∧ g < w.heap.size ∧ (∀ j u, xs[j]? = some u → w.cell? ⟨g, off + j, none⟩ = some u) ∧
      ∀ j, j < cap * z → (w.cell? ⟨g, off + j, none⟩).isSome = true ∧ w.frozen? ⟨g, off + j, none⟩ = false := by
  rcases h with ⟨h0, ⟨hv, rfl, rfl⟩ | ⟨g, off, cap, cur, rfl, rfl, hg, h1, h2, h3, h4⟩⟩
  · exact .inl ⟨hv, rfl, List.eq_nil_of_length_eq_zero (by simpa using h0), rfl⟩
  · refine .inr ⟨g, off, cap, rfl, rfl, h1, h2, block_lt hg, fun j u hj => ?_, fun j hj => ⟨?_, by simp [World.frozen?, hg]⟩⟩
    · rw [cell_of_block hg, List.getElem?_toArray]
      have hlt : j < n * z := by have := (List.getElem?_eq_some_iff.1 hj).1; omega
      rw [← h4, List.getElem?_take_of_lt hlt, List.getElem?_drop] at hj
      exact hj
    · rw [cell_of_block hg, List.getElem?_toArray, List.getElem?_eq_getElem (by omega)]; rfl
theorem Sli.of_owns {w : World} {base : Nat} {e : TypeId} {z : Nat} {v : Value} {n : Nat} {xs : List Value} (h : w.ownsRow base e z v n xs) : ∃ F, Sli w e z v n xs F ∧ ∀ g ∈ F, base ≤ g := by
  rcases h with ⟨h0, ⟨hv, hn⟩ | ⟨g, cap, cur, hv, hb, hg, h1, h2, h3, h4⟩⟩
  · exact ⟨[], ⟨h0, .inl ⟨hv, hn, rfl⟩⟩, by simp⟩
  · exact ⟨[g], ⟨h0, .inr ⟨g, 0, cap, cur.toList, hv, rfl, by simpa using hg, h1, h2, by simp [h3], by simpa using h4⟩⟩, fun b hb' => by simp at hb'; omega⟩
theorem Put.of_grown {w w' : World} {row : Option Nat} {l : List Nat} (h : w.grownBy w' row) (hl : ∀ k, row = some k → k ∈ l) : Put l w w' :=
  ⟨h.os, h.tape, h.output, h.size, fun k hk hn => h.block k hk fun e => hn (hl k e.symm)⟩
theorem drop_put {α : Type} (cur news : List α) (off m : Nat) (h : off + m + news.length ≤ cur.length) : ((cur.take (off + m) ++ news ++ cur.drop (off + m + news.length)).drop off).take (m + news.length) = (cur.drop off).take m ++ news := by
  have hl : (cur.take (off + m)).length = off + m := by simp; omega
  rw [List.append_assoc, List.drop_append_of_le_length (by omega)]
  have e : (cur.take (off + m)).drop off = (cur.drop off).take m := by rw [List.drop_take, Nat.add_sub_cancel_left]
  have hm : ((cur.drop off).take m).length = m := by simp; omega
  rw [e, ← List.append_assoc, List.take_append_of_le_length (by simp; omega), List.take_of_length_le (by simp; omega)]

/-- One element more. -/
theorem run_append_sli {P : Program} {w : World} (t ty e : TypeId) (i : TypeInfo) (zv : Value) (z bytes : Nat) (ht : P.underlying t = some (.slice e)) (hi : P.info? e = some i) (hz : i.zero = some zv)
    (hsize : i.size = z) (hby : i.bytes = bytes) (hzs : zv.cells.size = z) (hsz : 0 < z)
    {v : Value} {n : Nat} {xs : List Value} {F : List Nat} (h : Sli w e z v n xs F)
    (a : Addr) (c : Nat) (news : List Value) (hl : news.length = z) (hnews : ∀ j u, news[j]? = some u → w.cell? (a.add j) = some u) (h1 : ∀ u ∈ news, u.oneCell' = true)
    (h63 : n + 1 ≤ maxLen) (hbytes : (n + 1) * bytes ≤ 140737488355328) :
    ∃ v' w' F', (Builtin.append_ #[t, t] ty #[v, .slice (some a) 1 c]).run P w = .ok v' w' ∧ Sli w' e z v' (n + 1) (xs ++ news) F' ∧ Put F w w' ∧ (∀ g ∈ F', g ∈ F ∨ w.heap.size ≤ g) := by
  rcases h with ⟨h0, ⟨rfl, rfl, rfl⟩ | ⟨g, off, cap, cur, rfl, rfl, hg, h2, h3, h4, h5⟩⟩
  · obtain rfl : xs = [] := List.eq_nil_of_length_eq_zero (by simpa using h0)
    obtain ⟨v', w', hr, ho, hgr, _⟩ := run_append_own (P := P) w w.heap.size t ty e i zv z bytes ht hi hz hsize hby hzs hsz (.slice none 0 0) 0 [] (World.ownsRow_nil _ _ _ _) a 1 c news (by omega) hnews h1 h63 hbytes (Nat.le_refl _)
    obtain ⟨F', s, hF⟩ := Sli.of_owns ho
    exact ⟨v', w', F', hr, s, Put.of_grown hgr (fun k hk => by simp [Value.ownBlock] at hk), fun g hg => .inr (hF g hg)⟩
  · have F0 : Sli w e z (.slice (some ⟨g, off, none⟩) n cap) n xs [g] := ⟨h0, .inr ⟨g, off, cap, cur, rfl, rfl, hg, h2, h3, h4, h5⟩⟩
    rcases F0.form with ⟨hv, _⟩ | ⟨g', off', cap', hv, _, _, _, _, hc, hsp⟩
    · cases hv
    simp only [Value.slice.injEq, Option.some.injEq, Addr.mk.injEq, and_true, true_and] at hv
    obtain ⟨⟨rfl, rfl⟩, rfl⟩ := hv
    by_cases hroom : n + 1 ≤ cap
    · have hnz : n * z + z ≤ cap * z := by have := Nat.mul_le_mul_right z hroom; rw [Nat.add_mul, Nat.one_mul] at this; exact this
      have hr := run_append_room_cells (P := P) w t ty e i ht hi g off n cap a 1 c news (by omega) hnews h1 hroom (fun j hj => by rw [hsize, Nat.add_assoc]; exact (hsp (n * z + j) (by omega)).1) (fun j hj => by rw [hsize, Nat.add_assoc]; exact (hsp (n * z + j) (by omega)).2)
      rw [hsize] at hr
      have hrow := heap_setCells_row news (off + n * z) w cur hg (by omega)
      refine ⟨_, _, [g], hr, ⟨by simp [h0, hl, Nat.add_mul], .inr ⟨g, off, cap, _, rfl, rfl, hrow, hroom, h3, ?_, ?_⟩⟩, Put.setCells (by simp) _ _ _ (Put.refl _), fun b hb => .inl hb⟩
      · simp only [List.length_append, List.length_take, List.length_drop]; omega
      · have := drop_put cur news off (n * z) (by omega)
        rw [h5, hl] at this
        rw [Nat.add_mul, Nat.one_mul, hl]; exact this
    · obtain ⟨v', w', hr, ho, hgr⟩ := run_append_arg_grows (P := P) w t ty e i zv z bytes ht hi hz hsize hby hzs hsz ⟨g, off, none⟩ n cap xs h0 (fun j u hj => by rw [Addr.add_lit]; exact hc j u hj) a 1 c news (by omega) hnews (by omega) h63 hbytes
      obtain ⟨F', s, hF⟩ := Sli.of_owns ho
      exact ⟨v', w', F', hr, s, Put.of_grown hgr (fun k hk => by cases hk), fun g hg => .inr (hF g hg)⟩

theorem wp_append_sli {P : Program} {w : World} {o : Oper} {a : Act} {K : Act → World → Prop} {Q : Exit → Act → World → Prop} (s x : Operand) (t : TypeId)
    (ho : o.op = .call { callee := .builtin .append, args := #[s, x], argTypes := #[t, t] })
    (e : TypeId) (i : TypeInfo) (zv : Value) (z bytes : Nat) (ht : P.underlying t = some (.slice e)) (hi : P.info? e = some i) (hz : i.zero = some zv)
    (hsize : i.size = z) (hby : i.bytes = bytes) (hzs : zv.cells.size = z) (hsz : 0 < z)
    (v : Value) (n : Nat) (xs : List Value) (F : List Nat) (hs : a.eval s = v) (h : Sli w e z v n xs F)
    (ad : Addr) (c : Nat) (news : List Value) (hx : a.eval x = .slice (some ad) 1 c) (hl : news.length = z) (hnews : ∀ j u, news[j]? = some u → w.cell? (ad.add j) = some u) (h1 : ∀ u ∈ news, u.oneCell' = true)
    (h63 : n + 1 ≤ maxLen) (hbytes : (n + 1) * bytes ≤ 140737488355328)
    (hK : ∀ v' w' F', Hid (Sli w' e z v' (n + 1) (xs ++ news) F') → Hid (Put F w w') → Hid (∀ g ∈ F', g ∈ F ∨ w.heap.size ≤ g) → K (a.put o.dst v') w') : o.wp P a w K Q := by
  obtain ⟨v', w', F', hr, h2, h3, h4⟩ := run_append_sli (P := P) t o.type e i zv z bytes ht hi hz hsize hby hzs hsz h ad c news hl hnews h1 h63 hbytes
  unfold Oper.wp execOp
  simp only [ho, resolve, invoke, builtin, Sem.run_bind, Sem.run_pure, Result.andThen_ok, List.map_toArray, List.map_cons, List.map_nil, hs, hx, hr]
  exact hK v' w' F' h2 h3 h4
theorem wpList_append_sli {P : Program} {w : World} {ops : Array Oper} {rest : List Oper} {o : Oper} {a : Act} {Q : Exit → Act → World → Prop} (hgd : o.guard = none) (s x : Operand) (t : TypeId)
    (ho : o.op = .call { callee := .builtin .append, args := #[s, x], argTypes := #[t, t] })
    (e : TypeId) (i : TypeInfo) (zv : Value) (z bytes : Nat) (ht : P.underlying t = some (.slice e)) (hi : P.info? e = some i) (hz : i.zero = some zv)
    (hsize : i.size = z) (hby : i.bytes = bytes) (hzs : zv.cells.size = z) (hsz : 0 < z)
    (v : Value) (n : Nat) (xs : List Value) (F : List Nat) (hs : a.eval s = v) (h : Sli w e z v n xs F)
    (ad : Addr) (c : Nat) (news : List Value) (hx : a.eval x = .slice (some ad) 1 c) (hl : news.length = z) (hnews : ∀ j u, news[j]? = some u → w.cell? (ad.add j) = some u) (h1 : ∀ u ∈ news, u.oneCell' = true)
    (h63 : n + 1 ≤ maxLen) (hbytes : (n + 1) * bytes ≤ 140737488355328)
    (hK : ∀ v' w' F', Hid (Sli w' e z v' (n + 1) (xs ++ news) F') → Hid (Put F w w') → Hid (∀ g ∈ F', g ∈ F ∨ w.heap.size ≤ g) → wpList P ops Q rest (a.put o.dst v') w') : wpList P ops Q (o :: rest) a w :=
  wpList_plain hgd fun _ hK' => wp_append_sli s x t ho e i zv z bytes ht hi hz hsize hby hzs hsz v n xs F hs h ad c news hx hl hnews h1 h63 hbytes fun v' w' F' h2 h3 h4 => hK' _ _ (hK v' w' F' h2 h3 h4)
theorem wpListIn_append_sli {Fc : Fence} {k : Nat} {P : Program} {w : World} {ops : Array Oper} {rest : List Oper} {o : Oper} {a : Act} {Q : Exit → Act → World → Prop} (hgd : o.guard = none) (s x : Operand) (t : TypeId)
    (ho : o.op = .call { callee := .builtin .append, args := #[s, x], argTypes := #[t, t] })
    (e : TypeId) (i : TypeInfo) (zv : Value) (z bytes : Nat) (ht : P.underlying t = some (.slice e)) (hi : P.info? e = some i) (hz : i.zero = some zv)
    (hsize : i.size = z) (hby : i.bytes = bytes) (hzs : zv.cells.size = z) (hsz : 0 < z)
    (v : Value) (n : Nat) (xs : List Value) (F : List Nat) (hs : a.eval s = v) (h : Sli w e z v n xs F)
    (ad : Addr) (c : Nat) (news : List Value) (hx : a.eval x = .slice (some ad) 1 c) (hl : news.length = z) (hnews : ∀ j u, news[j]? = some u → w.cell? (ad.add j) = some u) (h1 : ∀ u ∈ news, u.oneCell' = true)
    (h63 : n + 1 ≤ maxLen) (hbytes : (n + 1) * bytes ≤ 140737488355328)
    (hK : ∀ v' w' F', Hid (Sli w' e z v' (n + 1) (xs ++ news) F') → Hid (Put F w w') → Hid (∀ g ∈ F', g ∈ F ∨ w.heap.size ≤ g) → wpListIn Fc k P ops Q rest (a.put o.dst v') w') : wpListIn Fc k P ops Q (o :: rest) a w := by
  refine wpListIn_plain hgd fun K hK' => ?_
  obtain ⟨v', w', F', hrun, h2, h3, h4⟩ := run_append_sli (P := P) t o.type e i zv z bytes ht hi hz hsize hby hzs hsz h ad c news hl hnews h1 h63 hbytes
  unfold Oper.wpIn
  refine ⟨?_, ?_⟩
  · simp [Oper.about, ho, resolve, Target.leads, Sem.run_pure]
  · rw [Oper.semAt_plain Fc _ _ (by rw [ho]; intro c hc'; cases hc')]
    simp [execOp, ho, resolve, invoke, builtin, hs, hx, hrun, Result.andThen]
    exact hK' _ _ (hK v' w' F' h2 h3 h4)

/-- The first element taken off. -/
theorem Sli.tail {P : Program} {w : World} {e : TypeId} {z : Nat} {v : Value} {n : Nat} {xs : List Value} {F : List Nat} (t : TypeId) (h : Sli w e z v n xs F) (hn : 1 ≤ n) (ht : P.underlying t = some (.slice (P.elem t))) (hs : ∀ w, (sizeOf (P.elem t)).run P w = .ok z w) :
    ∃ v', Sli w e z v' (n - 1) (xs.drop z) F ∧ ∀ w, (Instr.slice t v (some (.int .i64 1)) none none).run P w = .ok v' w := by
  rcases h with ⟨h0, ⟨_, hn0, _⟩ | ⟨g, off, cap, cur, rfl, rfl, hg, h2, h3, h4, h5⟩⟩
  · omega
  have hnz : n * z = z + (n - 1) * z := by obtain ⟨m, rfl⟩ : ∃ m, n = m + 1 := ⟨n - 1, by omega⟩; rw [Nat.add_mul, Nat.add_sub_cancel]; omega
  have hrun : ∀ w, (Instr.slice t (.slice (some ⟨g, off, none⟩) n cap) (some (.int .i64 1)) none none).run P w = .ok (.slice (if cap = 1 then some ⟨g, off, none⟩ else some ⟨g, off + z, none⟩) (n - 1) (cap - 1)) w := by
    intro w
    rw [run_slice_l (P := P) w t _ n cap ht .i64 1 (by omega) (by omega), hs]
    simp [sliced, Result.andThen, Addr.add_lit]
  refine ⟨_, ⟨by rw [List.length_drop, h0]; omega, .inr ?_⟩, hrun⟩
  by_cases hc : cap = 1
  · rw [if_pos hc]
    obtain rfl : n = 1 := by omega
    refine ⟨g, off, cap - 1, cur, rfl, rfl, hg, by omega, by omega, by rw [hc]; omega, ?_⟩
    have hx : xs.drop z = [] := List.drop_eq_nil_of_le (by rw [h0, Nat.one_mul]; exact Nat.le_refl _)
    rw [hx]; simp
  · rw [if_neg hc]
    obtain ⟨k, rfl⟩ : ∃ k, cap = k + 1 := ⟨cap - 1, by omega⟩
    refine ⟨g, off + z, k + 1 - 1, cur, rfl, rfl, hg, by omega, by omega, ?_, ?_⟩
    · rw [Nat.add_sub_cancel]; rw [Nat.add_mul, Nat.one_mul] at h4; omega
    · rw [← h5, ← List.drop_drop, List.drop_take, hnz]; congr 1; omega
end Go.Proofs.YtpalbpjmjbcelaaDoor
