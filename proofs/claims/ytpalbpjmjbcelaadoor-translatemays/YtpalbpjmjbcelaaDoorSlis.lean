/- A slice that belongs to one object: several elements more. -/
import Derived.Test.YtpalbpjmjbcelaaDoorSlin
import Derived.Test.YtpalbpjmjbcelaaDoorVcl
namespace Go.Proofs.YtpalbpjmjbcelaaDoor
open Go.RowKit
set_option linter.unusedVariables false

theorem run_append_slis {P : Program} {w : World} (t ty e : TypeId) (i : TypeInfo) (zv : Value) (z bytes : Nat) (ht : P.underlying t = some (.slice e)) (hi : P.info? e = some i) (hz : i.zero = some zv)
    (hsize : i.size = z) (hby : i.bytes = bytes) (hzs : zv.cells.size = z) (hsz : 0 < z)
    {v : Value} {n : Nat} {xs : List Value} {F : List Nat} (h : Sli w e z v n xs F)
    (a : Addr) (m c : Nat) (news : List Value) (hl : news.length = m * z) (hnews : ∀ j u, news[j]? = some u → w.cell? (a.add j) = some u) (h1 : ∀ u ∈ news, u.oneCell' = true)
    (h63 : n + m ≤ maxLen) (hbytes : (n + m) * bytes ≤ 140737488355328) :
    ∃ v' w' F', (Builtin.append_ #[t, t] ty #[v, .slice (some a) m c]).run P w = .ok v' w' ∧ Sli w' e z v' (n + m) (xs ++ news) F' ∧ Put F w w' ∧ (∀ g ∈ F', g ∈ F ∨ w.heap.size ≤ g) := by
  rcases h with ⟨h0, ⟨rfl, rfl, rfl⟩ | ⟨g, off, cap, cur, rfl, rfl, hg, h2, h3, h4, h5⟩⟩
  · obtain rfl : xs = [] := List.eq_nil_of_length_eq_zero (by simpa using h0)
    obtain ⟨v', w', hr, ho, hgr, _⟩ := run_append_own (P := P) w w.heap.size t ty e i zv z bytes ht hi hz hsize hby hzs hsz (.slice none 0 0) 0 [] (World.ownsRow_nil _ _ _ _) a m c news hl hnews h1 h63 hbytes (Nat.le_refl _)
    obtain ⟨F', s, hF⟩ := Sli.of_owns ho
    exact ⟨v', w', F', hr, s, Put.of_grown hgr (fun k hk => by simp [Value.ownBlock] at hk), fun g hg => .inr (hF g hg)⟩
  · have F0 : Sli w e z (.slice (some ⟨g, off, none⟩) n cap) n xs [g] := ⟨h0, .inr ⟨g, off, cap, cur, rfl, rfl, hg, h2, h3, h4, h5⟩⟩
    rcases F0.form with ⟨hv, _⟩ | ⟨g', off', cap', hv, _, _, _, _, hc, hsp⟩
    · cases hv
    simp only [Value.slice.injEq, Option.some.injEq, Addr.mk.injEq, and_true, true_and] at hv
    obtain ⟨⟨rfl, rfl⟩, rfl⟩ := hv
    by_cases hroom : n + m ≤ cap
    · have hnz : n * z + m * z ≤ cap * z := by have := Nat.mul_le_mul_right z hroom; rw [Nat.add_mul] at this; exact this
      have hr := run_append_room_cells (P := P) w t ty e i ht hi g off n cap a m c news (by rw [hsize]; exact hl) hnews h1 hroom (fun j hj => by rw [hsize, Nat.add_assoc]; exact (hsp (n * z + j) (by omega)).1) (fun j hj => by rw [hsize, Nat.add_assoc]; exact (hsp (n * z + j) (by omega)).2)
      rw [hsize] at hr
      have hrow := heap_setCells_row news (off + n * z) w cur hg (by omega)
      refine ⟨_, _, [g], hr, ⟨by simp [h0, hl, Nat.add_mul], .inr ⟨g, off, cap, _, rfl, rfl, hrow, hroom, h3, ?_, ?_⟩⟩, Put.setCells (by simp) _ _ _ (Put.refl _), fun b hb => .inl hb⟩
      · simp only [List.length_append, List.length_take, List.length_drop]; omega
      · have := drop_put cur news off (n * z) (by omega)
        rw [h5, hl] at this
        rw [Nat.add_mul, hl]; exact this
    · obtain ⟨v', w', hr, ho, hgr⟩ := run_append_arg_grows (P := P) w t ty e i zv z bytes ht hi hz hsize hby hzs hsz ⟨g, off, none⟩ n cap xs h0 (fun j u hj => by rw [Addr.add_lit]; exact hc j u hj) a m c news hl hnews (by omega) h63 hbytes
      obtain ⟨F', s, hF⟩ := Sli.of_owns ho
      exact ⟨v', w', F', hr, s, Put.of_grown hgr (fun k hk => by cases hk), fun g hg => .inr (hF g hg)⟩
theorem wp_append_slis {P : Program} {w : World} {o : Oper} {a : Act} {K : Act → World → Prop} {Q : Exit → Act → World → Prop} (s x : Operand) (t : TypeId)
    (ho : o.op = .call { callee := .builtin .append, args := #[s, x], argTypes := #[t, t] })
    (e : TypeId) (i : TypeInfo) (zv : Value) (z bytes : Nat) (ht : P.underlying t = some (.slice e)) (hi : P.info? e = some i) (hz : i.zero = some zv)
    (hsize : i.size = z) (hby : i.bytes = bytes) (hzs : zv.cells.size = z) (hsz : 0 < z)
    (v : Value) (n : Nat) (xs : List Value) (F : List Nat) (hs : a.eval s = v) (h : Sli w e z v n xs F)
    (ad : Addr) (m c : Nat) (news : List Value) (hx : a.eval x = .slice (some ad) m c) (hl : news.length = m * z) (hnews : ∀ j u, news[j]? = some u → w.cell? (ad.add j) = some u) (h1 : ∀ u ∈ news, u.oneCell' = true)
    (h63 : n + m ≤ maxLen) (hbytes : (n + m) * bytes ≤ 140737488355328)
    (hK : ∀ v' w' F', Hid (Sli w' e z v' (n + m) (xs ++ news) F') → Hid (Put F w w') → Hid (∀ g ∈ F', g ∈ F ∨ w.heap.size ≤ g) → K (a.put o.dst v') w') : o.wp P a w K Q := by
  obtain ⟨v', w', F', hr, h2, h3, h4⟩ := run_append_slis (P := P) t o.type e i zv z bytes ht hi hz hsize hby hzs hsz h ad m c news hl hnews h1 h63 hbytes
  unfold Oper.wp execOp
  simp only [ho, resolve, invoke, builtin, Sem.run_bind, Sem.run_pure, Result.andThen_ok, List.map_toArray, List.map_cons, List.map_nil, hs, hx, hr]
  exact hK v' w' F' h2 h3 h4
theorem wpList_append_slis {P : Program} {w : World} {ops : Array Oper} {rest : List Oper} {o : Oper} {a : Act} {Q : Exit → Act → World → Prop} (hgd : o.guard = none) (s x : Operand) (t : TypeId)
    (ho : o.op = .call { callee := .builtin .append, args := #[s, x], argTypes := #[t, t] })
    (e : TypeId) (i : TypeInfo) (zv : Value) (z bytes : Nat) (ht : P.underlying t = some (.slice e)) (hi : P.info? e = some i) (hz : i.zero = some zv)
    (hsize : i.size = z) (hby : i.bytes = bytes) (hzs : zv.cells.size = z) (hsz : 0 < z)
    (v : Value) (n : Nat) (xs : List Value) (F : List Nat) (hs : a.eval s = v) (h : Sli w e z v n xs F)
    (ad : Addr) (m c : Nat) (news : List Value) (hx : a.eval x = .slice (some ad) m c) (hl : news.length = m * z) (hnews : ∀ j u, news[j]? = some u → w.cell? (ad.add j) = some u) (h1 : ∀ u ∈ news, u.oneCell' = true)
    (h63 : n + m ≤ maxLen) (hbytes : (n + m) * bytes ≤ 140737488355328)
    (hK : ∀ v' w' F', Hid (Sli w' e z v' (n + m) (xs ++ news) F') → Hid (Put F w w') → Hid (∀ g ∈ F', g ∈ F ∨ w.heap.size ≤ g) → wpList P ops Q rest (a.put o.dst v') w') : wpList P ops Q (o :: rest) a w :=
  wpList_plain hgd fun _ hK' => wp_append_slis s x t ho e i zv z bytes ht hi hz hsize hby hzs hsz v n xs F hs h ad m c news hx hl hnews h1 h63 hbytes fun v' w' F' h2 h3 h4 => hK' _ _ (hK v' w' F' h2 h3 h4)
end Go.Proofs.YtpalbpjmjbcelaaDoor
