/- Part of a proof. -/
import Derived.Laws.AppendOwn
import Derived.Handy
import Derived.Test.YtpalbpjmjbcelaaDoorJ05
namespace Go.Proofs.YtpalbpjmjbcelaaDoor
open Go.RowKit
set_option linter.unusedVariables false
set_option linter.unusedSimpArgs false
theorem run_append_slis {P : Program} {w : World} (t ty e : TypeId) (i : TypeInfo) (zv : Value) (z bytes : Nat) (ht : P.underlying t = some (.slice e)) (hi : P.info? e = some i) (hz : i.zero = some zv)
    (hsize : i.size = z) (hby : i.bytes = bytes) (hzs : zv.cells.size = z) (hsz : 0 < z)
    {v : Value} {n : Nat} {xs : List Value} {F : List Nat} (h : Sli w e z v n xs F)
    (a : Addr) (m c : Nat) (news : List Value) (hl : news.length = m * z) (hnews : ∀ j u, news[j]? = some u → w.cell? (a.add j) = some u) (h1 : ∀ u ∈ news, u.oneCell' = true)
    (h63 : n + m ≤ maxLen) (hbytes : (n + m) * bytes ≤ 140737488355328) :
    ∃ v' w' F', (Builtin.append_ #[t, t] ty #[v, .slice (some a) m c]).run P w = .ok v' w' ∧ Sli w' e z v' (n + m) (xs ++ news) F' ∧ Put F w w' ∧ (∀ g ∈ F', g ∈ F ∨ w.heap.size ≤ g) := by
  rcases h with ⟨h0, ⟨rfl, rfl, rfl⟩ | ⟨g, off, cap, cur, rfl, rfl, hg, h2, h3, h4, h5⟩⟩
  · obtain rfl : xs = [] := List.eq_nil_of_length_eq_zero (by simpa using h0)
    obtain ⟨v', w', hr, ho, hgr, _⟩ := run_append_own (P := P) w w.heap.size t ty e i zv z bytes ht hi hz hsize hby hzs hsz (.slice none 0 0) 0 [] (World.ownsRow_nil _ _ _ _) a m c news hl hnews h1 h63 hbytes (Nat.le_refl _)
    obtain ⟨F', s, hF⟩ := Sli.of_owns ho
    exact ⟨v', w', F', hr, s, Put.of_grown hgr (fun k hk => by simp [Value.ownBlock] at hk), fun g hg => .inr (hF g hg)⟩
  · have F0 : Sli w e z (.slice (some ⟨g, off, none⟩) n cap) n xs [g] := ⟨h0, .inr ⟨g, off, cap, cur, rfl, rfl, hg, h2, h3, h4, h5⟩⟩
    rcases F0.form with ⟨hv, _⟩ | ⟨g', off', cap', hv, _, _, _, _, hc, hsp⟩
    · cases hv
    simp only [Value.slice.injEq, Option.some.injEq, Addr.mk.injEq, and_true, true_and] at hv
    obtain ⟨⟨rfl, rfl⟩, rfl⟩ := hv
    by_cases hroom : n + m ≤ cap
    · have hnz : n * z + m * z ≤ cap * z := by have := Nat.mul_le_mul_right z hroom; rw [Nat.add_mul] at this; exact this
      have hr := run_append_room_cells (P := P) w t ty e i ht hi g off n cap a m c news (by rw [hsize]; exact hl) hnews h1 hroom (fun j hj => by rw [hsize, Nat.add_assoc]; exact (hsp (n * z + j) (by omega)).1) (fun j hj => by rw [hsize, Nat.add_assoc]; exact (hsp (n * z + j) (by omega)).2)
      rw [hsize] at hr
      have hrow := heap_setCells_row news (off + n * z) w cur hg (by omega)
      refine ⟨_, _, [g], hr, ⟨by simp [h0, hl, Nat.add_mul], .inr ⟨g, off, cap, _, rfl, rfl, hrow, hroom, h3, ?_, ?_⟩⟩, Put.setCells (by simp) _ _ _ (Put.refl _), fun b hb => .inl hb⟩
      · simp only [List.length_append, List.length_take, List.length_drop]; omega
      · have := drop_put cur news off (n * z) (by omega)
        rw [h5, hl] at this
        rw [Nat.add_mul, hl]; exact this
    · obtain ⟨v', w', hr, ho, hgr⟩ := run_append_arg_grows (P := P) w t ty e i zv z bytes ht hi hz hsize hby hzs hsz ⟨g, off, none⟩ n cap xs h0 (fun j u hj => by rw [Addr.add_lit]; exact hc j u hj) a m c news hl hnews (by omega) h63 hbytes
      obtain ⟨F', s, hF⟩ := Sli.of_owns ho
      exact ⟨v', w', F', hr, s, Put.of_grown hgr (fun k hk => by cases hk), fun g hg => .inr (hF g hg)⟩
theorem wp_append_slis {P : Program} {w : World} {o : Oper} {a : Act} {K : Act → World → Prop} {Q : Exit → Act → World → Prop} (s x : Operand) (t : TypeId)
    (ho : o.op = .call { callee := .builtin .append, args := #[s, x], argTypes := #[t, t] })
    (e : TypeId) (i : TypeInfo) (zv : Value) (z bytes : Nat) (ht : P.underlying t = some (.slice e)) (hi : P.info? e = some i) (hz : i.zero = some zv)
    (hsize : i.size = z) (hby : i.bytes = bytes) (hzs : zv.cells.size = z) (hsz : 0 < z)
    (v : Value) (n : Nat) (xs : List Value) (F : List Nat) (hs : a.eval s = v) (h : Sli w e z v n xs F)
    (ad : Addr) (m c : Nat) (news : List Value) (hx : a.eval x = .slice (some ad) m c) (hl : news.length = m * z) (hnews : ∀ j u, news[j]? = some u → w.cell? (ad.add j) = some u) (h1 : ∀ u ∈ news, u.oneCell' = true)
    (h63 : n + m ≤ maxLen) (hbytes : (n + m) * bytes ≤ 140737488355328)
    (hK : ∀ v' w' F', Hid (Sli w' e z v' (n + m) (xs ++ news) F') → Hid (Put F w w') → Hid (∀ g ∈ F', g ∈ F ∨ w.heap.size ≤ g) → K (a.put o.dst v') w') : o.wp P a w K Q := by
  obtain ⟨v', w', F', hr, h2, h3, h4⟩ := run_append_slis (P := P) t o.type e i zv z bytes ht hi hz hsize hby hzs hsz h ad m c news hl hnews h1 h63 hbytes
  unfold Oper.wp execOp
  simp only [ho, resolve, invoke, builtin, Sem.run_bind, Sem.run_pure, Result.andThen_ok, List.map_toArray, List.map_cons, List.map_nil, hs, hx, hr]
  exact hK v' w' F' h2 h3 h4
theorem wpList_append_slis {P : Program} {w : World} {ops : Array Oper} {rest : List Oper} {o : Oper} {a : Act} {Q : Exit → Act → World → Prop} (hgd : o.guard = none) (s x : Operand) (t : TypeId)
    (ho : o.op = .call { callee := .builtin .append, args := #[s, x], argTypes := #[t, t] })
    (e : TypeId) (i : TypeInfo) (zv : Value) (z bytes : Nat) (ht : P.underlying t = some (.slice e)) (hi : P.info? e = some i) (hz : i.zero = some zv)
    (hsize : i.size = z) (hby : i.bytes = bytes) (hzs : zv.cells.size = z) (hsz : 0 < z)
    (v : Value) (n : Nat) (xs : List Value) (F : List Nat) (hs : a.eval s = v) (h : Sli w e z v n xs F)
    (ad : Addr) (m c : Nat) (news : List Value) (hx : a.eval x = .slice (some ad) m c) (hl : news.length = m * z) (hnews : ∀ j u, news[j]? = some u → w.cell? (ad.add j) = some u) (h1 : ∀ u ∈ news, u.oneCell' = true)
    (h63 : n + m ≤ maxLen) (hbytes : (n + m) * bytes ≤ 140737488355328)
    (hK : ∀ v' w' F', Hid (Sli w' e z v' (n + m) (xs ++ news) F') → Hid (Put F w w') → Hid (∀ g ∈ F', g ∈ F ∨ w.heap.size ≤ g) → wpList P ops Q rest (a.put o.dst v') w') : wpList P ops Q (o :: rest) a w :=
  wpList_plain hgd fun _ hK' => wp_append_slis s x t ho e i zv z bytes ht hi hz hsize hby hzs hsz v n xs F hs h ad m c news hx hl hnews h1 h63 hbytes fun v' w' F' h2 h3 h4 => hK' _ _ (hK v' w' F' h2 h3 h4)
theorem stwithin (n m : Int) (w : World) :
    Calls Tryd.prog 54 #[.int .i64 n, .int .i64 m] w fun e w' => e = .returned (.bool (decide (0 ≤ n ∧ n ≤ m))) ∧ w' = w := by
  by_cases h0 : 0 ≤ n
  · by_cases h1 : n ≤ m
    · rw [show decide (0 ≤ n ∧ n ≤ m) = true from by simp [h0, h1]]
      go_enter Tryd.func54, Tryd.ntmps54
      go_wp2
      go_ret
      exact ⟨rfl, rfl⟩
    · rw [show decide (0 ≤ n ∧ n ≤ m) = false from by simp [h0, h1]]
      go_enter Tryd.func54, Tryd.ntmps54
      go_wp2
      go_ret
      exact ⟨rfl, rfl⟩
  · rw [show decide (0 ≤ n ∧ n ≤ m) = false from by simp [h0]]
    go_enter Tryd.func54, Tryd.ntmps54
    go_wp2
    go_ret
    exact ⟨rfl, rfl⟩
theorem stenc (op imm : Int) (l : List Int) (k : Nat) (h : (op = 112 ∧ 0 ≤ imm ∧ imm ≤ 255 ∧ l = [112, imm] ∧ k = 2) ∨ (op = 113 ∧ 0 ≤ imm ∧ imm ≤ 65535 ∧ l = [113, imm % 256, imm / 256] ∧ k = 3) ∨ (op = 64 ∧ -32768 ≤ imm ∧ imm ≤ 32767 ∧ l = [64, imm % 256, imm / 256 % 256] ∧ k = 3)) (w : World) (hT : Tabs w) :
    Calls Tryd.prog 42 #[.agg (insA op 0 0 imm), .bool true] w fun e w' => ∃ B : Nat, e = .returned (.tuple #[.slice (some ⟨B, 0, none⟩) k k, .int .i64 0]) ∧
      w'.ownsRow w.heap.size 5 1 (.slice (some ⟨B, 0, none⟩) k k) k (bs l) ∧ Kep w w' := by
  rcases h with ⟨rfl, h0, h1, rfl, rfl⟩ | ⟨rfl, h0, h1, rfl, rfl⟩ | ⟨rfl, h0, h1, rfl, rfl⟩
  · have e : encL 4 112 0 0 imm = [112, imm] := by
      show [112, imm / 2 ^ (8 * 0) % 256] = _
      rw [show imm / 2 ^ (8 * 0) % 256 = imm from by omega]
    have := encode_ok 4 (by decide) (by decide) 112 0 0 imm true (by decide) (by simp [mayB, f1, f2, lo, hi]; omega) w (by decide) (by decide) (by omega) (by omega) (by decide) (by decide) (by decide) (by decide) hT
    rw [e] at this
    exact this
  · have e : encL 8 113 0 0 imm = [113, imm % 256, imm / 256] := by
      show [113, imm / 2 ^ (8 * 0) % 256, imm / 2 ^ (8 * 1) % 256] = _
      rw [show imm / 2 ^ (8 * 0) % 256 = imm % 256 from by omega, show imm / 2 ^ (8 * 1) % 256 = imm / 256 from by omega]
    have := encode_ok 8 (by decide) (by decide) 113 0 0 imm true (by decide) (by simp [mayB, f1, f2, lo, hi]; omega) w (by decide) (by decide) (by omega) (by omega) (by decide) (by decide) (by decide) (by decide) hT
    rw [e] at this
    exact this
  · have e : encL 7 64 0 0 imm = [64, imm % 256, imm / 256 % 256] := by
      show [64, imm / 2 ^ (8 * 0) % 256, imm / 2 ^ (8 * 1) % 256] = _
      rw [show imm / 2 ^ (8 * 0) % 256 = imm % 256 from by omega, show imm / 2 ^ (8 * 1) % 256 = imm / 256 % 256 from by omega]
    have := encode_ok 7 (by decide) (by decide) 64 0 0 imm true (by decide) (by simp [mayB, f1, f2, lo, hi]; omega) w (by decide) (by decide) (by omega) (by omega) (by decide) (by decide) (by decide) (by decide) hT
    rw [e] at this
    exact this
theorem st_own {w : World} {base n : Nat} {v : Value} {xs : List Value} (h : w.ownsRow base 5 1 v n xs) (hn : 0 < n) : ∃ C c, v = .slice (some ⟨C, 0, none⟩) n c ∧ base ≤ C := by
  rcases h.2 with ⟨_, h1⟩ | ⟨g, cap, cur, h1, h2, _⟩
  · omega
  · exact ⟨g, cap, h1, h2⟩
theorem stlay1 (imm : Int) (h0 : -32768 ≤ imm) (h1 : imm ≤ 32767) (B : Nat) (w : World) (hb : B < w.heap.size) (c0 : w.cell? ⟨B, 0, none⟩ = some (.int .u8 64)) (c1 : w.cell? ⟨B, 1, none⟩ = some (.int .u8 0)) (c2 : w.cell? ⟨B, 2, none⟩ = some (.int .u8 0)) (c3 : w.cell? ⟨B, 3, none⟩ = some (.int .i32 imm)) (hT : Tabs w) :
    Calls Tryd.prog 55 #[.slice (some ⟨B, 0, none⟩) 1 1] w fun e w' => ∃ C c : Nat, e = .returned (.tuple #[.slice (some ⟨C, 0, none⟩) 3 c, .int .i64 0]) ∧
      w'.ownsRow w.heap.size 5 1 (.slice (some ⟨C, 0, none⟩) 3 c) 3 (bs [64, imm % 256, imm / 256 % 256]) ∧ Kep w w' := by
  obtain ⟨i5, hi5, hz0, hz1, hz2⟩ := info_parts info5
  have hT' : Hid (Tabs w) := hT
  have hl1 : Hid (-32768 ≤ imm ∧ imm ≤ 32767) := ⟨h0, h1⟩
  clear hT h0 h1
  go_enter Tryd.func55, Tryd.ntmps55
  go_wp2_with fail
  refine wp_loop_rounds 2 ?_
  rw [rounds_succ]
  go_wp2_with fail
  refine (stenc 64 imm _ 3 (.inr (.inr ⟨rfl, hl1.out.1, hl1.out.2, rfl, rfl⟩)) _ (hT'.grown ((Kep.refl _).alloc _))).mono ?_
  rintro e w1 ⟨C, rfl, hown, g1⟩
  have G1 : Hid (Kep w w1) := kep_trans ((Kep.refl _).alloc _) g1
  have hcl := World.ownsRow.cells hown rfl
  clear g1 hown
  go_wp2_with (at_builtin; (refine wpList_append_own _ rfl _ _ 30 rfl w.heap.size 5 i5 (.int .u8 0) 1 1 Tryd.underlying30 hi5 hz0 hz1 hz2 rfl (by decide) (.slice none 0 0) 0 [] rfl (World.ownsRow_nil _ _ _ _) ⟨C, 0, none⟩ 3 3 (bs [64, imm % 256, imm / 256 % 256]) rfl rfl hcl (by simp [Value.oneCell']) (by unfold maxLen; omega) (by omega) (by have := G1.out.size; omega) ?_); (intro v5 w5 hown5 hgrow5 hnil5; obtain ⟨C5, c5, hv5, hC5⟩ := st_own hown5 (by omega); subst hv5; have hg5 : Hid (Kep w w5) := G1.out.by hgrow5 (by intro j hj; cases hj); have hown6 : Hid (w5.ownsRow w.heap.size 5 1 (.slice (some ⟨C5, 0, none⟩) 3 c5) 3 (bs [64, imm % 256, imm / 256 % 256])) := hown5; clear hgrow5 hown5 hnil5))
  rw [rounds_succ]
  go_wp2_with fail
  go_ret2
  exact ⟨C5, c5, rfl, hown6, hg5⟩
theorem stlay2 (n x : Int) (hn : 0 ≤ n ∧ n ≤ 255) (hx : 0 ≤ x ∧ x ≤ 65535) (B : Nat) (w : World) (hb : B < w.heap.size) (c0 : w.cell? ⟨B, 0, none⟩ = some (.int .u8 112)) (c1 : w.cell? ⟨B, 1, none⟩ = some (.int .u8 0)) (c2 : w.cell? ⟨B, 2, none⟩ = some (.int .u8 0)) (c3 : w.cell? ⟨B, 3, none⟩ = some (.int .i32 n))
    (c4 : w.cell? ⟨B, 4, none⟩ = some (.int .u8 113)) (c5 : w.cell? ⟨B, 5, none⟩ = some (.int .u8 0)) (c6 : w.cell? ⟨B, 6, none⟩ = some (.int .u8 0)) (c7 : w.cell? ⟨B, 7, none⟩ = some (.int .i32 x)) (hT : Tabs w) :
    Calls Tryd.prog 55 #[.slice (some ⟨B, 0, none⟩) 2 2] w fun e w' => ∃ C c : Nat, e = .returned (.tuple #[.slice (some ⟨C, 0, none⟩) 5 c, .int .i64 0]) ∧
      w'.ownsRow w.heap.size 5 1 (.slice (some ⟨C, 0, none⟩) 5 c) 5 (bs [112, n, 113, x % 256, x / 256]) ∧ Kep w w' := by
  obtain ⟨i5, hi5, hz0, hz1, hz2⟩ := info_parts info5
  have hT' : Hid (Tabs w) := hT
  have hn' : Hid (0 ≤ n ∧ n ≤ 255) := hn
  have hx' : Hid (0 ≤ x ∧ x ≤ 65535) := hx
  clear hT hn hx
  go_enter Tryd.func55, Tryd.ntmps55
  go_wp2_with fail
  refine wp_loop_rounds 3 ?_
  rw [rounds_succ]
  go_wp2_with fail
  refine (stenc 112 n _ 2 (.inl ⟨rfl, hn'.out.1, hn'.out.2, rfl, rfl⟩) _ (hT'.grown ((Kep.refl _).alloc _))).mono ?_
  rintro e w1 ⟨C, rfl, hown, g1⟩
  have G1 : Hid (Kep w w1) := kep_trans ((Kep.refl _).alloc _) g1
  have hcl := World.ownsRow.cells hown rfl
  clear g1 hown
  go_wp2_with (at_builtin; (refine wpList_append_own _ rfl _ _ 30 rfl w.heap.size 5 i5 (.int .u8 0) 1 1 Tryd.underlying30 hi5 hz0 hz1 hz2 rfl (by decide) (.slice none 0 0) 0 [] rfl (World.ownsRow_nil _ _ _ _) ⟨C, 0, none⟩ 2 2 (bs [112, n]) rfl rfl hcl (by simp [Value.oneCell']) (by unfold maxLen; omega) (by omega) (by have := G1.out.size; omega) ?_); (intro v5 w5 hown5 hgrow5 hnil5; obtain ⟨C5, k5, hv5, hC5⟩ := st_own hown5 (by omega); subst hv5; have hg5 : Hid (Kep w w5) := G1.out.by hgrow5 (by intro j hj; cases hj); have hown6 : Hid (w5.ownsRow w.heap.size 5 1 (.slice (some ⟨C5, 0, none⟩) 2 k5) 2 (bs [112, n])) := hown5; clear hgrow5 hown5 hnil5 hcl G1))
  have d4 := (hg5.cell (o := 4) hb).trans c4
  have d5 := (hg5.cell (o := 5) hb).trans c5
  have d6 := (hg5.cell (o := 6) hb).trans c6
  have d7 := (hg5.cell (o := 7) hb).trans c7
  clear c0 c1 c2 c3 c4 c5 c6 c7
  rw [rounds_succ]
  go_wp2_with fail
  refine (stenc 113 x _ 3 (.inr (.inl ⟨rfl, hx'.out.1, hx'.out.2, rfl, rfl⟩)) _ (hT'.grown (hg5.alloc _))).mono ?_
  rintro e w6 ⟨D, rfl, hown, g6⟩
  have G6 : Hid (Kep w w6) := kep_trans (hg5.alloc _) g6
  have hcl := World.ownsRow.cells hown rfl
  have hown7 : Hid (w6.ownsRow w.heap.size 5 1 (.slice (some ⟨C5, 0, none⟩) 2 k5) 2 (bs [112, n])) := by
    obtain ⟨h1, h2⟩ := hown6.out
    refine ⟨h1, ?_⟩
    rcases h2 with h2 | ⟨g, cp, cur, e1, e2, e3, e4⟩
    · exact .inl h2
    · exact .inr ⟨g, cp, cur, e1, e2, g6.block (((Kep.refl _).alloc _).block e3), e4⟩
  clear g6 hown hown6 hg5 d4 d5 d6 d7
  go_wp2_with (at_builtin; (refine wpList_append_own _ rfl _ _ 30 rfl w.heap.size 5 i5 (.int .u8 0) 1 1 Tryd.underlying30 hi5 hz0 hz1 hz2 rfl (by decide) (.slice (some ⟨C5, 0, none⟩) 2 k5) 2 (bs [112, n]) rfl hown7.out ⟨D, 0, none⟩ 3 3 (bs [113, x % 256, x / 256]) rfl rfl hcl (by simp [Value.oneCell']) (by unfold maxLen; omega) (by omega) (by have := G6.out.size; omega) ?_); (intro v8 w8 hown8 hgrow8 hnil8; obtain ⟨C8, k8, hv8, hC8⟩ := st_own hown8 (by omega); subst hv8; have hg8 : Hid (Kep w w8) := G6.out.by hgrow8 (by intro j hj; simp [Value.ownBlock] at hj; omega); have hown9 : Hid (w8.ownsRow w.heap.size 5 1 (.slice (some ⟨C8, 0, none⟩) 5 k8) 5 (bs [112, n, 113, x % 256, x / 256])) := hown8; clear hgrow8 hown8 hnil8))
  rw [rounds_succ]
  go_wp2_with fail
  go_ret2
  exact ⟨C8, k8, rfl, hown9, hg8⟩
theorem ststub_ok (n x : Int) (h0 : 0 ≤ n) (h1 : n ≤ 255) (h2 : 0 ≤ x) (h3 : x ≤ 65535) (w : World) (hT : Tabs w) :
    Calls Tryd.prog 44 #[.int .i64 n, .int .i64 x] w fun e w' => ∃ C c : Nat, e = .returned (.tuple #[.slice (some ⟨C, 0, none⟩) 5 c, .int .i64 0]) ∧
      w'.ownsRow w.heap.size 5 1 (.slice (some ⟨C, 0, none⟩) 5 c) 5 (bs [112, n, 113, x % 256, x / 256]) ∧ Kep w w' := by
  have hn' : decide (0 ≤ n ∧ n ≤ 255) = true := by simp [h0, h1]
  have hx' : decide (0 ≤ x ∧ x ≤ 65535) = true := by simp [h2, h3]
  have hT' : Hid (Tabs w) := hT
  clear hT
  go_enter Tryd.func44, Tryd.ntmps44
  go_wp2_with fail
  refine (stwithin n 255 w).mono ?_
  rw [hn']
  rintro e w1 ⟨rfl, hq⟩
  rw [hq]; clear hq w1
  go_wp2_with fail
  refine (stwithin x 65535 w).mono ?_
  rw [hx']
  rintro e w1 ⟨rfl, hq⟩
  rw [hq]; clear hq w1 hn' hx'
  go_wp2_with fail
  refine (stlay2 n x ⟨h0, h1⟩ ⟨h2, h3⟩ w.heap.size _ (by simp) (by simp) (by simp) (by simp) (by simp) (by simp) (by simp) (by simp) (by simp) (hT'.grown ((Kep.refl _).alloc _))).mono ?_
  rintro e w1 ⟨C, c, rfl, hown, g1⟩
  have G1 : Hid (Kep w w1) := kep_trans ((Kep.refl _).alloc _) g1
  have hown1 : Hid (w1.ownsRow w.heap.size 5 1 (.slice (some ⟨C, 0, none⟩) 5 c) 5 (bs [112, n, 113, x % 256, x / 256])) := owns_mono hown (by simp)
  clear g1 hown
  go_wp2_with fail
  go_ret2
  exact ⟨C, c, rfl, hown1, G1⟩
end Go.Proofs.YtpalbpjmjbcelaaDoor
