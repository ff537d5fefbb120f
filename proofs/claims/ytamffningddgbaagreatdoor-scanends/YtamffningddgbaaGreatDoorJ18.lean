/- Part of a proof. -/
import Derived.OrdersHeld
import Derived.Test.YtamffningddgbaaGreatDoorJ15
import Derived.Test.YtamffningddgbaaGreatDoorJ17
namespace Go.Proofs.YtamffningddgbaaGreatDoor
open Go.RowKit
set_option linter.unusedVariables false
set_option linter.unusedSimpArgs false
theorem run_append_many {P : Program} {w : World} (t ty e : TypeId) (i : TypeInfo) (zv : Value) (z bytes : Nat) (ht : P.underlying t = some (.slice e)) (hi : P.info? e = some i) (hz : i.zero = some zv)
    (hsize : i.size = z) (hby : i.bytes = bytes) (hzs : zv.cells.size = z) (hsz : 0 < z)
    {v : Value} {n : Nat} {xs : List Value} {F : List Nat} (h : Sli w e z v n xs F)
    (a : Addr) (m c : Nat) (news : List Value) (hl : news.length = m * z) (hnews : ∀ j u, news[j]? = some u → w.cell? (a.add j) = some u) (h1 : ∀ u ∈ news, u.oneCell' = true)
    (h63 : n + m ≤ maxLen) (hbytes : (n + m) * bytes ≤ 140737488355328) :
    ∃ v' w' F', (Builtin.append_ #[t, t] ty #[v, .slice (some a) m c]).run P w = .ok v' w' ∧ Sli w' e z v' (n + m) (xs ++ news) F' ∧ Put F w w' ∧ (∀ g ∈ F', g ∈ F ∨ w.heap.size ≤ g) ∧ Sli w' e z v n xs F := by
  rcases h with ⟨h0, ⟨rfl, rfl, rfl⟩ | ⟨g, off, cap, cur, rfl, rfl, hg, h2, h3, h4, h5⟩⟩
  · obtain rfl : xs = [] := List.eq_nil_of_length_eq_zero (by simpa using h0)
    obtain ⟨v', w', hr, ho, hgr, _⟩ := run_append_own (P := P) w w.heap.size t ty e i zv z bytes ht hi hz hsize hby hzs hsz (.slice none 0 0) 0 [] (World.ownsRow_nil _ _ _ _) a m c news (by omega) hnews h1 h63 hbytes (Nat.le_refl _)
    obtain ⟨F', s, hF⟩ := Sli.of_owns ho
    exact ⟨v', w', F', hr, s, Put.of_grown hgr (fun k hk => by simp [Value.ownBlock] at hk), fun g hg => .inr (hF g hg), Sli.nil _ _ _⟩
  · have F0 : Sli w e z (.slice (some ⟨g, off, none⟩) n cap) n xs [g] := ⟨h0, .inr ⟨g, off, cap, cur, rfl, rfl, hg, h2, h3, h4, h5⟩⟩
    rcases F0.form with ⟨hv, _⟩ | ⟨g', off', cap', hv, _, _, _, _, hc, hsp⟩
    · cases hv
    simp only [Value.slice.injEq, Option.some.injEq, Addr.mk.injEq, and_true, true_and] at hv
    obtain ⟨⟨rfl, rfl⟩, rfl⟩ := hv
    by_cases hroom : n + m ≤ cap
    · have hnz : n * z + m * z ≤ cap * z := by have := Nat.mul_le_mul_right z hroom; rw [Nat.add_mul] at this; exact this
      have hr := run_append_room_cells (P := P) w t ty e i ht hi g off n cap a m c news (by rw [hsize]; exact hl) hnews h1 hroom (fun j hj => by rw [hsize, Nat.add_assoc]; exact (hsp (n * z + j) (by omega)).1) (fun j hj => by rw [hsize, Nat.add_assoc]; exact (hsp (n * z + j) (by omega)).2)
      rw [hsize] at hr
      have hrow := heap_setCells_row news (off + n * z) w cur hg (by omega)
      have ha := drop_put cur news off (n * z) (by omega)
      rw [h5] at ha
      refine ⟨_, _, [g], hr, ⟨by simp [h0, hl, Nat.add_mul], .inr ⟨g, off, cap, _, rfl, rfl, hrow, hroom, h3, ?_, ?_⟩⟩, Put.setCells (by simp) _ _ _ (Put.refl _), fun b hb => .inl hb, ⟨h0, .inr ⟨g, off, cap, _, rfl, rfl, hrow, h2, h3, ?_, ?_⟩⟩⟩
      · simp only [List.length_append, List.length_take, List.length_drop]; omega
      · rw [Nat.add_mul, ← hl]; exact ha
      · simp only [List.length_append, List.length_take, List.length_drop]; omega
      · have h6 := congrArg (List.take (n * z)) ha
        rw [List.take_take, Nat.min_eq_left (by omega), List.take_left' h0] at h6
        exact h6
    · obtain ⟨v', w', hr, ho, hgr⟩ := run_append_arg_grows (P := P) w t ty e i zv z bytes ht hi hz hsize hby hzs hsz ⟨g, off, none⟩ n cap xs h0 (fun j u hj => by rw [Addr.add_lit]; exact hc j u hj) a m c news hl hnews (by omega) h63 hbytes
      obtain ⟨F', s, hF⟩ := Sli.of_owns ho
      have P0 : Put [] w w' := Put.of_grown hgr (fun k hk => by cases hk)
      exact ⟨v', w', F', hr, s, P0.mono (by simp), fun g hg => .inr (hF g hg), F0.put P0 (by simp)⟩
theorem wpList_append_many {P : Program} {w : World} {ops : Array Oper} {rest : List Oper} {o : Oper} {a : Act} {Q : Exit → Act → World → Prop} (hgd : o.guard = none) (s x : Operand) (t : TypeId)
    (ho : o.op = .call { callee := .builtin .append, args := #[s, x], argTypes := #[t, t] })
    (e : TypeId) (i : TypeInfo) (zv : Value) (z bytes : Nat) (ht : P.underlying t = some (.slice e)) (hi : P.info? e = some i) (hz : i.zero = some zv)
    (hsize : i.size = z) (hby : i.bytes = bytes) (hzs : zv.cells.size = z) (hsz : 0 < z)
    (v : Value) (n : Nat) (xs : List Value) (F : List Nat) (hs : a.eval s = v) (h : Sli w e z v n xs F)
    (ad : Addr) (m c : Nat) (news : List Value) (hx : a.eval x = .slice (some ad) m c) (hl : news.length = m * z) (hnews : ∀ j u, news[j]? = some u → w.cell? (ad.add j) = some u) (h1 : ∀ u ∈ news, u.oneCell' = true)
    (h63 : n + m ≤ maxLen) (hbytes : (n + m) * bytes ≤ 140737488355328)
    (hK : ∀ v' w' F', Hid (Sli w' e z v' (n + m) (xs ++ news) F') → Hid (Put F w w') → Hid (∀ g ∈ F', g ∈ F ∨ w.heap.size ≤ g) → Hid (Sli w' e z v n xs F) → wpList P ops Q rest (a.put o.dst v') w') : wpList P ops Q (o :: rest) a w := by
  refine wpList_plain hgd fun K hK' => ?_
  obtain ⟨v', w', F', hr, h2, h3, h4, h5⟩ := run_append_many (P := P) t o.type e i zv z bytes ht hi hz hsize hby hzs hsz h ad m c news hl hnews h1 h63 hbytes
  unfold Oper.wp execOp
  simp only [ho, resolve, invoke, builtin, Sem.run_bind, Sem.run_pure, Result.andThen_ok, List.map_toArray, List.map_cons, List.map_nil, hs, hx, hr]
  exact hK' _ _ (hK v' w' F' h2 h3 h4 h5)
theorem Sli.cells {w : World} {e : TypeId} {z : Nat} {x : Option Addr} {n c : Nat} {xs : List Value} {F : List Nat} (h : Sli w e z (.slice x n c) n xs F) (hn : 1 ≤ n) : ∃ b off : Nat, x = some ⟨b, off, none⟩ ∧ b < w.heap.size ∧ F = [b] ∧ ∀ j u, xs[j]? = some u → w.cell? ((⟨b, off, none⟩ : Addr).add j) = some u := by
  rcases h.form with ⟨_, h0, _⟩ | ⟨g, off, cap, hv, hF, h1, h2, hg, hc, _⟩
  · omega
  · cases hv
    exact ⟨g, off, rfl, hg, hF, fun j u hj => by rw [Addr.add_lit]; exact hc j u hj⟩
set_option maxHeartbeats 1000000 in
theorem endOf_any (op : Int) (h0 : 0 ≤ op) (h1 : op < 256) (W w : World) (p o kb : Nat) (h : Tb W w p o kb) :
    Calls Tryz.prog 24 #[.int .u8 op, .pointer (some ⟨p, 0, none⟩)] w fun e w' => e = .returned (.int .i64 (endI op)) ∧ Tb W w' p o kb ∧ Stp o kb w w' := by
  have HE := hidd (ends_any op h0 h1 W w p o kb h)
  unfold endI
  generalize gE (tabF op) = g at HE ⊢
  clear h
  cases g with
  | false =>
    go_enter Tryz.func24, Tryz.ntmps24
    go_wp2_with fail
    refine HE.out.mono ?_
    rintro e w1 ⟨rfl, T1, S1⟩
    have T1' := hidd T1
    have S1' := hidd S1
    clear T1 S1
    go_wp2_with fail
    go_ret
    exact ⟨rfl, T1'.out, S1'.out⟩
  | true =>
    rw [if_neg (by decide)]
    have en : ∀ k : Int, (op == k) = decide (op = k) := fun k => by by_cases h : op = k <;> simp [h]
    by_cases e1 : op = 64
    · subst e1
      go_enter Tryz.func24, Tryz.ntmps24
      go_wp2_with fail
      refine HE.out.mono ?_
      rintro e w1 ⟨rfl, T1, S1⟩
      have T1' := hidd T1
      have S1' := hidd S1
      clear T1 S1
      go_wp2_with fail
      go_ret
      exact ⟨rfl, T1'.out, S1'.out⟩
    by_cases e2 : op = 72
    · subst e2
      go_enter Tryz.func24, Tryz.ntmps24
      go_wp2_with fail
      refine HE.out.mono ?_
      rintro e w1 ⟨rfl, T1, S1⟩
      have T1' := hidd T1
      have S1' := hidd S1
      clear T1 S1
      go_wp2_with fail
      go_ret
      exact ⟨rfl, T1'.out, S1'.out⟩
    have b1 : (op == 64) = false := by simpa using e1
    have b2 : (op == 72) = false := by simpa using e2
    rw [if_neg (by rintro (h | h) <;> contradiction)]
    by_cases e3 : 65 ≤ op ∧ op ≤ 71
    · rw [if_pos e3]
      obtain ⟨e3, e4⟩ := e3
      clear e1 e2
      go_enter Tryz.func24, Tryz.ntmps24
      go_wp2_with fail
      refine HE.out.mono ?_
      rintro e w1 ⟨rfl, T1, S1⟩
      have T1' := hidd T1
      have S1' := hidd S1
      clear T1 S1
      go_wp2_with fail
      go_ret
      exact ⟨rfl, T1'.out, S1'.out⟩
    · have e34 : (if 65 ≤ op ∧ op ≤ 71 then (3 : Int) else 4) = 4 := if_neg e3
      rw [e34]
      clear e34
      by_cases e5 : 65 ≤ op
      · have e6 : ¬ op ≤ 71 := fun h => e3 ⟨e5, h⟩
        clear e3
        go_enter Tryz.func24, Tryz.ntmps24
        go_wp2_with fail
        refine HE.out.mono ?_
        rintro e w1 ⟨rfl, T1, S1⟩
        have T1' := hidd T1
        have S1' := hidd S1
        clear T1 S1
        go_wp2_with fail
        go_ret
        exact ⟨rfl, T1'.out, S1'.out⟩
      · clear e3
        go_enter Tryz.func24, Tryz.ntmps24
        go_wp2_with fail
        refine HE.out.mono ?_
        rintro e w1 ⟨rfl, T1, S1⟩
        have T1' := hidd T1
        have S1' := hidd S1
        clear T1 S1
        go_wp2_with fail
        go_ret
        exact ⟨rfl, T1'.out, S1'.out⟩
theorem run_append_zero {P : Program} (w : World) (t ty e : TypeId) (i : TypeInfo) (ht : P.underlying t = some (.slice e)) (hi : P.info? e = some i) (b x : Option Addr) (n cap c : Nat) (h : n ≤ cap) :
    (Builtin.append_ #[t, t] ty #[.slice b n cap, .slice x 0 c]).run P w = .ok (.slice b n cap) w := by
  have hf : (Builtin.firstCells i.size 0 (.slice x 0 c)).run P w = .ok #[] w := by
    cases x with
    | none => simp [Builtin.firstCells]
    | some a => exact run_firstCells_some (P := P) w i.size 0 a 0 c [] (by simp) (by simp)
  cases b <;> simp [Builtin.append_, run_underlying ht, sizeOf, typeInfo, hi, Builtin.lenOf, h, hf, storeCells, Sem.run_pure, Result.andThen_ok]
theorem wpList_append_zero {P : Program} {w : World} {ops : Array Oper} {rest : List Oper} {o : Oper} {a : Act} {Q : Exit → Act → World → Prop} (hgd : o.guard = none) (s x : Operand) (t : TypeId)
    (ho : o.op = .call { callee := .builtin .append, args := #[s, x], argTypes := #[t, t] }) (e : TypeId) (i : TypeInfo) (ht : P.underlying t = some (.slice e)) (hi : P.info? e = some i)
    (b y : Option Addr) (n cap c : Nat) (hs : a.eval s = .slice b n cap) (hx : a.eval x = .slice y 0 c) (h : n ≤ cap)
    (hK : wpList P ops Q rest (a.put o.dst (.slice b n cap)) w) : wpList P ops Q (o :: rest) a w := by
  refine wpList_plain hgd fun K hK' => ?_
  have hr := run_append_zero (P := P) w t o.type e i ht hi b y n cap c h
  unfold Oper.wp execOp
  simp only [ho, resolve, invoke, builtin, Sem.run_bind, Sem.run_pure, Result.andThen_ok, List.map_toArray, List.map_cons, List.map_nil, hs, hx, hr]
  exact hK' _ _ hK
theorem Put.of_stp {o kb : Nat} {w w' : World} (h : Stp o kb w w') : Put [o, kb] w w' := ⟨h.os, h.tape, h.output, h.size, fun k hk hn => h.block k hk (fun e => hn (by simp [e])) (fun e => hn (by simp [e]))⟩
abbrev blkC (vI vA : Value) (n t e : Int) (vF vT : Value) : Array Value := #[vI, vA, .int .u32 n, .int .u32 t, .int .i64 e, vF, vT]
abbrev nilS : Value := .slice none 0 0
theorem size_blk : (Tryz.prog.info? 40).map (·.size) = some 7 := by kernel_rfl
theorem Tb.put {W w w' : World} {p o kb : Nat} {l : List Nat} (h : Tb W w p o kb) (k : Put l w w') (hl : ∀ g ∈ l, g ≠ p ∧ g ≠ o ∧ g ≠ kb ∧ W.heap.size ≤ g ∧ ∃ cs t, w.heap[g]? = some (.cells cs t (0, 0))) : Tb W w' p o kb := by
  have np : p ∉ l := fun hm => (hl p hm).1 rfl
  have no : o ∉ l := fun hm => (hl o hm).2.1 rfl
  have nk : kb ∉ l := fun hm => (hl kb hm).2.2.1 rfl
  refine ⟨k.keeps h.tab np, ⟨h.asked.1, ?_⟩, h.po, h.pk, h.kep.put k (fun g hg => (hl g hg).2.2.2.1), h.go, h.gk⟩
  rcases h.asked.2 with ⟨h1, h2⟩ | ⟨h1, b, n, h2, h3⟩
  · exact .inl ⟨k.keeps h1 no, k.keeps h2 nk⟩
  · refine .inr ⟨k.keeps h1 no, b, n, k.keeps h2 nk, h3.block ?_⟩
    obtain ⟨D, ⟨es, c, hb, _⟩, _⟩ := h3
    have nb : b ∉ l := fun hm => by
      obtain ⟨_, _, _, _, cs, t, hc⟩ := hl b hm
      rw [hc] at hb; cases hb
    rw [k.keeps hb nb, hb]
theorem Sli.is_cells {w : World} {e : TypeId} {z : Nat} {v : Value} {n : Nat} {xs : List Value} {F : List Nat} (h : Sli w e z v n xs F) : ∀ g ∈ F, ∃ cs t, w.heap[g]? = some (.cells cs t (0, 0)) := by
  rcases h with ⟨_, ⟨_, _, rfl⟩ | ⟨g, off, cap, cur, _, rfl, hg, _⟩⟩
  · simp
  · intro b hb; obtain rfl : b = g := by simpa using hb
    exact ⟨_, _, hg⟩
structure Fix (w : World) (st rb rf bb p o kb L : Nat) : Prop where
  lo : w.heap.size ≤ st ∧ w.heap.size ≤ rb ∧ w.heap.size ≤ rf ∧ w.heap.size ≤ bb ∧ w.heap.size ≤ p ∧ w.heap.size ≤ o ∧ w.heap.size ≤ kb
  hi : st < L ∧ rb < L ∧ rf < L ∧ bb < L ∧ p < L ∧ o < L ∧ kb < L
  b1 : bb ≠ st ∧ bb ≠ rb ∧ bb ≠ rf ∧ bb ≠ p ∧ bb ≠ o ∧ bb ≠ kb
  o1 : o ≠ st ∧ o ≠ rb ∧ o ≠ rf
  k1 : kb ≠ st ∧ kb ≠ rb ∧ kb ≠ rf
  r1 : rb ≠ rf
structure ScW (w W : World) (s : Sta) (st rb rf bb p o kb L : Nat) (I : List In4) (A : List Int) (R : List Sr) (n t e : Int) (vI vA vR : Value) (FI FA FR : List Nat) : Prop where
  fx : Fix w st rb rf bb p o kb L
  cs : W.heap[st]? = some (.cells s.v 28 (0, 0))
  cb : W.heap[rb]? = some (.cells (blkC nilS nilS 0 0 0 nilS nilS) 40 (0, 0))
  cf : W.heap[rf]? = some (.cells #[.int .i64 0, .int .u32 0] 42 (0, 0))
  ct : W.heap[bb]? = some (.cells (blkC vI vA n t e nilS nilS) 40 (0, 0))
  tb : Tb w W p o kb
  si : Sli W 53 4 vI I.length (inss I) FI
  sa : Sli W 25 1 vA A.length (num .u32 A) FA
  sr : Sli W 74 7 vR R.length (srs R) FR
  gi : ∀ b ∈ FI, L ≤ b
  ga : ∀ b ∈ FA, L ≤ b
  gr : ∀ b ∈ FR, L ≤ b
  ia : ∀ b ∈ FI, b ∉ FA
  ir : ∀ b ∈ FI, b ∉ FR
  ar : ∀ b ∈ FA, b ∉ FR
  lL : L ≤ W.heap.size
section
variable {w W W' : World} {s : Sta} {st rb rf bb p o kb L : Nat} {I : List In4} {A : List Int} {R : List Sr} {n t e : Int} {vI vA vR : Value} {FI FA FR : List Nat}
theorem ScW.kp (H : ScW w W s st rb rf bb p o kb L I A R n t e vI vA vR FI FA FR) : Kep w W := H.tb.kep
theorem ScW.kep (H : ScW w W s st rb rf bb p o kb L I A R n t e vI vA vR FI FA FR) (k : Kep W W') : ScW w W' s st rb rf bb p o kb L I A R n t e vI vA vR FI FA FR :=
  ⟨H.fx, k.block H.cs, k.block H.cb, k.block H.cf, k.block H.ct, H.tb.kp k, H.si.kep k, H.sa.kep k, H.sr.kep k, H.gi, H.ga, H.gr, H.ia, H.ir, H.ar, Nat.le_trans H.lL k.size⟩
theorem Fix.up (F : Fix w st rb rf bb p o kb L) {b : Nat} (h : L ≤ b) : b ≠ st ∧ b ≠ rb ∧ b ≠ rf ∧ b ≠ bb ∧ b ≠ p ∧ b ≠ o ∧ b ≠ kb ∧ w.heap.size ≤ b := by
  have := F.lo; have := F.hi; omega
theorem ScW.turn (H : ScW w W s st rb rf bb p o kb L I A R n t e vI vA vR FI FA FR) {l : List Nat} (k : Put l W W') (hl : ∀ b ∈ l, L ≤ b) (hc : ∀ g ∈ l, ∃ cs t, W.heap[g]? = some (.cells cs t (0, 0))) :
    W'.heap[st]? = some (.cells s.v 28 (0, 0)) ∧ W'.heap[rb]? = some (.cells (blkC nilS nilS 0 0 0 nilS nilS) 40 (0, 0)) ∧ W'.heap[rf]? = some (.cells #[.int .i64 0, .int .u32 0] 42 (0, 0)) ∧ W'.heap[bb]? = some (.cells (blkC vI vA n t e nilS nilS) 40 (0, 0)) ∧ Tb w W' p o kb ∧ L ≤ W'.heap.size := by
  refine ⟨k.keeps H.cs (fun h => (H.fx.up (hl _ h)).1 rfl), k.keeps H.cb (fun h => (H.fx.up (hl _ h)).2.1 rfl), k.keeps H.cf (fun h => (H.fx.up (hl _ h)).2.2.1 rfl), k.keeps H.ct (fun h => (H.fx.up (hl _ h)).2.2.2.1 rfl), H.tb.put k (fun g hg => ?_), Nat.le_trans H.lL k.size⟩
  have := H.fx.up (hl g hg)
  exact ⟨this.2.2.2.2.1, this.2.2.2.2.2.1, this.2.2.2.2.2.2.1, this.2.2.2.2.2.2.2, hc g hg⟩
theorem apart {F G G' : List Nat} {m : Nat} (h : ∀ b ∈ F, b ∉ G) (hF : ∀ b ∈ F, b < m) (hG : ∀ b ∈ G', b ∈ G ∨ m ≤ b) : ∀ b ∈ F, b ∉ G' := fun b hb hm => by
  rcases hG b hm with h1 | h1
  · exact h b hb h1
  · have := hF b hb; omega
theorem apart' {F G F' : List Nat} {m : Nat} (h : ∀ b ∈ F, b ∉ G) (hG : ∀ b ∈ G, b < m) (hF : ∀ b ∈ F', b ∈ F ∨ m ≤ b) : ∀ b ∈ F', b ∉ G := fun b hb hm => by
  rcases hF b hb with h1 | h1
  · exact h b h1 hm
  · have := hG b hm; omega
theorem above {F F' : List Nat} {m L : Nat} (h : ∀ b ∈ F, L ≤ b) (hm : L ≤ m) (hF : ∀ b ∈ F', b ∈ F ∨ m ≤ b) : ∀ b ∈ F', L ≤ b := fun b hb => by
  rcases hF b hb with h1 | h1
  · exact h b h1
  · omega
theorem ScW.behind (H : ScW w W s st rb rf bb p o kb L I A R n t e vI vA vR FI FA FR) (k : Put FR W W') (S : Sli W' 74 7 vR R.length (srs R) FR) : ScW w W' s st rb rf bb p o kb L I A R n t e vI vA vR FI FA FR := by
  obtain ⟨h1, h2, h3, h4, h5, h6⟩ := H.turn k H.gr H.sr.is_cells
  exact ⟨H.fx, h1, h2, h3, h4, h5, H.si.put k H.ir, H.sa.put k H.ar, S, H.gi, H.ga, H.gr, H.ia, H.ir, H.ar, h6⟩
theorem ScW.read (H : ScW w W s st rb rf bb p o kb L I A R n t e vI vA vR FI FA FR) {vR' : Value} {R' : List Sr} {FR' : List Nat} {m : Nat} (S : Sli W 74 7 vR' R'.length (srs R') FR') (hF : ∀ g ∈ FR', g ∈ FR ∨ m ≤ g) (hm : L ≤ m) (hi : ∀ b ∈ FI, b < m) (ha : ∀ b ∈ FA, b < m) : ScW w W s st rb rf bb p o kb L I A R' n t e vI vA vR' FI FA FR' :=
  ⟨H.fx, H.cs, H.cb, H.cf, H.ct, H.tb, H.si, H.sa, S, H.gi, H.ga, above H.gr hm hF, H.ia, apart H.ir hi hF, apart H.ar ha hF, H.lL⟩
theorem ScW.box (H : ScW w W s st rb rf bb p o kb L I A R n t e vI vA vR FI FA FR) (k : Put [bb] W W') {n' t' e' : Int} (hc : W'.heap[bb]? = some (.cells (blkC vI vA n' t' e' nilS nilS) 40 (0, 0))) : ScW w W' s st rb rf bb p o kb L I A R n' t' e' vI vA vR FI FA FR := by
  have b1 := H.fx.b1; have lo := H.fx.lo; have hi := H.fx.hi
  have no : ∀ F : List Nat, (∀ b ∈ F, L ≤ b) → ∀ b ∈ F, b ∉ [bb] := fun F h b hb hm => by
    have := h b hb; simp at hm; omega
  refine ⟨H.fx, k.keeps H.cs (by simp; omega), k.keeps H.cb (by simp; omega), k.keeps H.cf (by simp; omega), hc, H.tb.put k (fun g hg => ?_), H.si.put k (no _ H.gi), H.sa.put k (no _ H.ga), H.sr.put k (no _ H.gr), H.gi, H.ga, H.gr, H.ia, H.ir, H.ar, Nat.le_trans H.lL k.size⟩
  obtain rfl : g = bb := by simpa using hg
  exact ⟨by omega, by omega, by omega, by omega, _, _, H.ct⟩
theorem ScW.ask (H : ScW w W s st rb rf bb p o kb L I A R n t e vI vA vR FI FA FR) (k : Stp o kb W W') (T : Tb w W' p o kb) : ScW w W' s st rb rf bb p o kb L I A R n t e vI vA vR FI FA FR := by
  have P := Put.of_stp k
  have b1 := H.fx.b1; have o1 := H.fx.o1; have k1 := H.fx.k1; have hi := H.fx.hi
  have no : ∀ F : List Nat, (∀ b ∈ F, L ≤ b) → ∀ b ∈ F, b ∉ [o, kb] := fun F h b hb hm => by
    have := h b hb; simp at hm; omega
  exact ⟨H.fx, P.keeps H.cs (by simp; omega), P.keeps H.cb (by simp; omega), P.keeps H.cf (by simp; omega), P.keeps H.ct (by simp; omega), T, H.si.put P (no _ H.gi), H.sa.put P (no _ H.ga), H.sr.put P (no _ H.gr), H.gi, H.ga, H.gr, H.ia, H.ir, H.ar, Nat.le_trans H.lL P.size⟩
structure Two2 (w W : World) (s : Sta) (st rb rf bb p o kb L : Nat) (oI oA : Value) (n t e : Int) (I : List Value) (nI : Nat) (A : List Value) (nA : Nat) (R : List Sr) (vI vA vR : Value) (FI FA FR : List Nat) : Prop where
  fx : Fix w st rb rf bb p o kb L
  cs : W.heap[st]? = some (.cells s.v 28 (0, 0))
  cb : W.heap[rb]? = some (.cells (blkC nilS nilS 0 0 0 nilS nilS) 40 (0, 0))
  cf : W.heap[rf]? = some (.cells #[.int .i64 0, .int .u32 0] 42 (0, 0))
  ct : W.heap[bb]? = some (.cells (blkC oI oA n t e nilS nilS) 40 (0, 0))
  tb : Tb w W p o kb
  si : Sli W 53 4 vI nI I FI
  sa : Sli W 25 1 vA nA A FA
  sr : Sli W 74 7 vR R.length (srs R) FR
  gi : ∀ b ∈ FI, L ≤ b
  ga : ∀ b ∈ FA, L ≤ b
  gr : ∀ b ∈ FR, L ≤ b
  ia : ∀ b ∈ FI, b ∉ FA
  ir : ∀ b ∈ FI, b ∉ FR
  ar : ∀ b ∈ FA, b ∉ FR
  lL : L ≤ W.heap.size
theorem ScW.two (H : ScW w W s st rb rf bb p o kb L I A R n t e vI vA vR FI FA FR) : Two2 w W s st rb rf bb p o kb L vI vA n t e (inss I) I.length (num .u32 A) A.length R vI vA vR FI FA FR :=
  ⟨H.fx, H.cs, H.cb, H.cf, H.ct, H.tb, H.si, H.sa, H.sr, H.gi, H.ga, H.gr, H.ia, H.ir, H.ar, H.lL⟩
variable {oI oA : Value} {ci ca : List Value} {nI nA : Nat}
theorem Two2.kep (H : Two2 w W s st rb rf bb p o kb L oI oA n t e ci nI ca nA R vI vA vR FI FA FR) (k : Kep W W') : Two2 w W' s st rb rf bb p o kb L oI oA n t e ci nI ca nA R vI vA vR FI FA FR :=
  ⟨H.fx, k.block H.cs, k.block H.cb, k.block H.cf, k.block H.ct, H.tb.kp k, H.si.kep k, H.sa.kep k, H.sr.kep k, H.gi, H.ga, H.gr, H.ia, H.ir, H.ar, Nat.le_trans H.lL k.size⟩
theorem Two2.turn (H : Two2 w W s st rb rf bb p o kb L oI oA n t e ci nI ca nA R vI vA vR FI FA FR) {l : List Nat} (k : Put l W W') (hl : ∀ b ∈ l, L ≤ b) (hc : ∀ g ∈ l, ∃ cs t, W.heap[g]? = some (.cells cs t (0, 0))) :
    W'.heap[st]? = some (.cells s.v 28 (0, 0)) ∧ W'.heap[rb]? = some (.cells (blkC nilS nilS 0 0 0 nilS nilS) 40 (0, 0)) ∧ W'.heap[rf]? = some (.cells #[.int .i64 0, .int .u32 0] 42 (0, 0)) ∧ W'.heap[bb]? = some (.cells (blkC oI oA n t e nilS nilS) 40 (0, 0)) ∧ Tb w W' p o kb ∧ L ≤ W'.heap.size := by
  refine ⟨k.keeps H.cs (fun h => (H.fx.up (hl _ h)).1 rfl), k.keeps H.cb (fun h => (H.fx.up (hl _ h)).2.1 rfl), k.keeps H.cf (fun h => (H.fx.up (hl _ h)).2.2.1 rfl), k.keeps H.ct (fun h => (H.fx.up (hl _ h)).2.2.2.1 rfl), H.tb.put k (fun g hg => ?_), Nat.le_trans H.lL k.size⟩
  have := H.fx.up (hl g hg)
  exact ⟨this.2.2.2.2.1, this.2.2.2.2.2.1, this.2.2.2.2.2.2.1, this.2.2.2.2.2.2.2, hc g hg⟩
theorem Two2.insA (H : Two2 w W s st rb rf bb p o kb L oI oA n t e ci nI ca nA R vI vA vR FI FA FR) {vI' : Value} {ci' : List Value} {nI' : Nat} {FI' : List Nat} (S : Sli W' 53 4 vI' nI' ci' FI') (k : Put FI W W') (hF : ∀ g ∈ FI', g ∈ FI ∨ W.heap.size ≤ g) : Two2 w W' s st rb rf bb p o kb L oI oA n t e ci' nI' ca nA R vI' vA vR FI' FA FR := by
  obtain ⟨h1, h2, h3, h4, h5, h6⟩ := H.turn k H.gi H.si.is_cells
  exact ⟨H.fx, h1, h2, h3, h4, h5, S, H.sa.put k (fun b hb hm => H.ia b hm hb), H.sr.put k (fun b hb hm => H.ir b hm hb), above H.gi H.lL hF, H.ga, H.gr, apart' H.ia H.sa.lt hF, apart' H.ir H.sr.lt hF, H.ar, h6⟩
theorem Two2.atA (H : Two2 w W s st rb rf bb p o kb L oI oA n t e ci nI ca nA R vI vA vR FI FA FR) {vA' : Value} {ca' : List Value} {nA' : Nat} {FA' : List Nat} (S : Sli W' 25 1 vA' nA' ca' FA') (k : Put FA W W') (hF : ∀ g ∈ FA', g ∈ FA ∨ W.heap.size ≤ g) : Two2 w W' s st rb rf bb p o kb L oI oA n t e ci nI ca' nA' R vI vA' vR FI FA' FR := by
  obtain ⟨h1, h2, h3, h4, h5, h6⟩ := H.turn k H.ga H.sa.is_cells
  exact ⟨H.fx, h1, h2, h3, h4, h5, H.si.put k H.ia, S, H.sr.put k (fun b hb hm => H.ar b hm hb), H.gi, above H.ga H.lL hF, H.gr, apart H.ia H.si.lt hF, H.ir, apart' H.ar H.sr.lt hF, h6⟩
theorem Two2.done (H : Two2 w W s st rb rf bb p o kb L oI oA n t e ci nI ca nA R vI vA vR FI FA FR) {I' : List In4} {A' : List Int} (k : Put [bb] W W') (hc : W'.heap[bb]? = some (.cells (blkC vI vA n t e nilS nilS) 40 (0, 0)))
    (e1 : ci = inss I') (e2 : nI = I'.length) (e3 : ca = num .u32 A') (e4 : nA = A'.length) : ScW w W' s st rb rf bb p o kb L I' A' R n t e vI vA vR FI FA FR := by
  subst e1 e2 e3 e4
  have b1 := H.fx.b1; have lo := H.fx.lo; have hi := H.fx.hi
  have no : ∀ F : List Nat, (∀ b ∈ F, L ≤ b) → ∀ b ∈ F, b ∉ [bb] := fun F h b hb hm => by
    have := h b hb; simp at hm; omega
  refine ⟨H.fx, k.keeps H.cs (by simp; omega), k.keeps H.cb (by simp; omega), k.keeps H.cf (by simp; omega), hc, H.tb.put k (fun g hg => ?_), H.si.put k (no _ H.gi), H.sa.put k (no _ H.ga), H.sr.put k (no _ H.gr), H.gi, H.ga, H.gr, H.ia, H.ir, H.ar, Nat.le_trans H.lL k.size⟩
  obtain rfl : g = bb := by simpa using hg
  exact ⟨by omega, by omega, by omega, by omega, _, _, H.ct⟩
end
def Rowv (w : World) (v : Value) (n : Nat) (cs : List Value) : Prop := ∃ x c, v = .slice x n c ∧ n ≤ c ∧ c ≤ maxLen ∧ Lies w x cs
theorem Sli.rowv {w : World} {e : TypeId} {z : Nat} {v : Value} {n : Nat} {xs : List Value} {F : List Nat} (h : Sli w e z v n xs F) : Rowv w v n xs := by
  obtain ⟨x, c, rfl, h1, h2, h3, _⟩ := h.lies
  exact ⟨x, c, rfl, h2, h3, h1⟩
def ScnR (w : World) (B : List Int) (ix : List Nat) (s : Sta) (m : Int) (e : Ending) (w' : World) : Prop :=
  Kep w w' ∧ (((fetF B ix s).1 ≠ 0 ∧ e = .returned (.tuple #[.agg (blkC nilS nilS 0 0 0 nilS nilS), .agg #[.int .i64 (fetF B ix s).1, .int .u32 (fetF B ix s).2]])) ∨
    ((fetF B ix s).1 = 0 ∧ ∃ vI vA vF vT, e = .returned (.tuple #[.agg (blkC vI vA (scnB B ix s m).n (scnB B ix s m).t (scnB B ix s m).e vF vT), .agg #[.int .i64 0, .int .u32 0]]) ∧
      Rowv w' vI (scnB B ix s m).I.length (inss (scnB B ix s m).I) ∧ Rowv w' vA (scnB B ix s m).A.length (num .u32 (scnB B ix s m).A) ∧
      Rowv w' vF (fmL (scnB B ix s m).R).length (num .i64 (fmL (scnB B ix s m).R)) ∧ Rowv w' vT (scnT s (scnB B ix s m)).length (num .i64 (scnT s (scnB B ix s m)))))
theorem Ram.low {w : World} {v : Value} {R : Nat} {ix l : List Nat} (h : Ram w v R ix) (hl : ∀ g ∈ l, w.heap.size ≤ g) : Off w v l := by
  intro p e
  rcases h with ⟨_, e'⟩ | ⟨_, p', e', hp, hn⟩ | ⟨p', F', e', hp, hF, n1, n2, _⟩
  · rw [e'] at e; cases e
  · rw [e'] at e; cases e
    refine ⟨fun hm => by have := hl _ hm; have := block_lt hp; omega, fun F n c hc => ?_⟩
    rw [cell_of_block hp] at hc; cases hc
  · rw [e'] at e; cases e
    refine ⟨fun hm => by have := hl _ hm; have := block_lt hp; omega, fun F n c hc hm => ?_⟩
    rw [cell_of_block hp] at hc; cases hc
    have := hl _ hm; have := block_lt hF; omega
theorem ne_of {w : World} {i j : Nat} {cs cs' : Array Value} {t t' : TypeId} {fr fr' : Nat × Nat} (h1 : w.heap[i]? = some (.cells cs t fr)) (h2 : w.heap[j]? = some (.cells cs' t' fr')) (ht : t ≠ t') : i ≠ j := by
  intro e; subst e
  rw [h1] at h2
  cases h2; exact ht rfl
theorem Sli.ne {w : World} {e : TypeId} {z : Nat} {v : Value} {n : Nat} {xs : List Value} {F : List Nat} (h : Sli w e z v n xs F) {i : Nat} {cs : Array Value} {t : TypeId} {fr : Nat × Nat} (hi : w.heap[i]? = some (.cells cs t fr)) (ht : t ≠ e) : ∀ b ∈ F, b ≠ i := by
  rcases h with ⟨_, ⟨_, _, rfl⟩ | ⟨g, off, cap, cur, _, rfl, hg, _⟩⟩
  · simp
  · intro b hb
    obtain rfl : b = g := by simpa using hb
    exact ne_of hg hi (Ne.symm ht)
structure HG (W W1 : World) (pm g r st : Nat) (s : Sta) (a : Int) : Prop where
  bg : W1.heap[g]? = some (.cells #[.int .u32 a] 25 (0, 0))
  br : W1.heap[r]? = some (.cells #[.pointer (some ⟨pm, 0, none⟩)] 32 (0, 0))
  bs : At W1 st s
  kep : Kep W W1
  lg : W.heap.size ≤ g
theorem bhg_any (W : World) (pm : Nat) (s : Sta) (a : Int) : Calls Tryz.prog 21 #[.pointer (some ⟨pm, 0, none⟩), .agg s.v, .int .u32 a] W fun e W1 => ∃ g r st, e = .returned (.func (.func 47) #[] #[.pointer (some ⟨g, 0, none⟩), .pointer (some ⟨r, 0, none⟩), .pointer (some ⟨st, 0, none⟩)]) ∧ HG W W1 pm g r st s a :=
  (bhandOut_any W (some ⟨pm, 0, none⟩) s a).mono fun e W1 h => ⟨_, _, _, h.1, h.2.1, h.2.2.1, h.2.2.2.1, h.2.2.2.2, by omega⟩
theorem bhf_any {w W W1 W2 : World} {pm R : Nat} {ix : List Nat} {B : List Int} (M : Mem w (mpt pm) R ix B) (hB : B ≠ []) {s : Sta} (ok : s.Ok) (hT : Tabs w) {g r st : Nat} {a : Int} (ha : 0 ≤ a ∧ a < 4294967296) (k : Kep w W) (H : HG W W1 pm g r st s a) (k2 : Kep W1 W2) :
    Calls Tryz.prog 20 #[.func (.func 47) #[] #[.pointer (some ⟨g, 0, none⟩), .pointer (some ⟨r, 0, none⟩), .pointer (some ⟨st, 0, none⟩)], .int .u32 a] W2 fun e w' => ∃ y c F, e = .returned (.tuple #[.agg (fetV B ix (s.go a)), .slice y (srE B ix (s.go a)).length c, .agg #[.int .i64 (fetF B ix (s.go a)).1, .int .u32 (fetF B ix (s.go a)).2]]) ∧ Put [g] W2 w' ∧
      Sli w' 74 7 (.slice y (srE B ix (s.go a)).length c) (srE B ix (s.go a)).length (srs (srE B ix (s.go a))) F ∧ ∀ b ∈ F, W2.heap.size ≤ b := by
  have k' : Kep w W2 := kep_trans (kep_trans k H.kep) k2
  have hR := M.row.lt hB
  have hw := k.size
  have h2 := (tabs_size hT).2
  have lg := H.lg
  have hlow : Off w (mpt pm) [g] := M.ram.low (by intro b hb; obtain rfl : b = g := by simpa using hb
                                                  omega)
  refine (bfetch_any (M.kep k') ok (hT.grown k') g r st a ha (k2.block H.bg) (k2.block H.br) (H.bs.kep k2) (by omega) (Off.stay (m := []) M.ram hlow (Put.of_kep k') (fun p e => ⟨by simp, by simp⟩)) (by have := k.size; omega)).mono ?_
  rintro e w' ⟨v, F, rfl, h1, h2, h3⟩
  obtain ⟨y, c, rfl, _⟩ := h2.lies
  exact ⟨y, c, F, rfl, h1, h2, h3⟩
structure GotC (W X : World) (i j : Nat) (V : Array Value) (fk fa : Int) (v : Value) (n : Nat) (cs : List Value) (F : List Nat) : Prop where
  kep : Kep W X
  bi : X.heap[i]? = some (.cells V 53 (0, 0))
  bj : X.heap[j]? = some (.cells #[.int .i64 fk, .int .u32 fa] 42 (0, 0))
  sl : Sli X 74 7 v n cs F
  lo : ∀ b ∈ F, W.heap.size ≤ b
  li : W.heap.size ≤ i
theorem got_stores {W X : World} {i j : Nat} {V : Array Value} {fk fa : Int} {v : Value} {n : Nat} {cs : List Value} {F : List Nat} (k : Kep W X) (hi : X.heap[i]? = some (.cells zeroI 53 (0, 0))) (hj : X.heap[j]? = some (.cells #[.int .i64 0, .int .u32 0] 42 (0, 0))) (li : W.heap.size ≤ i) (lj : W.heap.size ≤ j) (S : Sli X 74 7 v n cs F) (lo : ∀ b ∈ F, W.heap.size ≤ b) :
    GotC W ((X.setRow i V).setRow j #[.int .i64 fk, .int .u32 fa]) i j V fk fa v n cs F := by
  have nij : i ≠ j := ne_of hi hj (by decide)
  have P : Put [i, j] X ((X.setRow i V).setRow j #[.int .i64 fk, .int .u32 fa]) := ((Put.refl X).setRow (by simp) _).setRow (by simp) _
  refine ⟨k.put P (by intro b hb; simp at hb; rcases hb with rfl | rfl <;> assumption), (setRow_other _ _ _ _ nij).trans (setRow_heap _ _ _ _ _ _ hi), setRow_heap _ _ _ _ _ _ ((setRow_other _ _ _ _ (Ne.symm nij)).trans hj), S.put P (fun b hb hm => ?_), lo, li⟩
  simp at hm
  rcases hm with rfl | rfl
  · exact S.ne hi (by decide) _ hb rfl
  · exact S.ne hj (by decide) _ hb rfl
theorem info_ins8 : (Tryz.prog.info? 53).map (fun i => (i.zero, i.size, i.bytes)) = some (some (.agg zeroI), 4, 8) := by kernel_rfl
theorem fetV_size (B : List Int) (ix : List Nat) (s : Sta) : (fetV B ix s).size = 4 := by unfold fetV; split <;> rfl
theorem fetV_one (B : List Int) (ix : List Nat) (s : Sta) : (fetV B ix s).all (·.oneCell') = true := by unfold fetV; split <;> simp [Value.oneCell']
end Go.Proofs.YtamffningddgbaaGreatDoor
