/- Two of what was saved are the same: told so; what Load refuses. -/
import Derived.Test.YtpieeefeicdfgabVld
namespace Go.Proofs.Ytpieeefeicdfgab
open Go.RowKit
set_option linter.unusedVariables false
set_option linter.unusedSimpArgs false

set_option maxHeartbeats 8000000 in
set_option maxRecDepth 100000 in
theorem saved_any {w : World} {H H' : List Value} (hH : H.length = 23) (hH' : H'.length = 23) {E : List Ev} {Z Q O : List Int} {xo xd xq xs yo yd yq ys : Option Addr} {co cd cq cs eo ed eq es : Nat} {b m n a st k f t : Int}
    (hE : E.length ≤ 64) (hc : E.length ≤ cs) (hc' : E.length ≤ es) (h1 : Lies w xo (byt O)) (h2 : Lies w xd (byt Z)) (h3 : Lies w xq (byt Q)) (h4 : Lies w xs (evs E)) (g1 : Lies w yo (byt O)) (g2 : Lies w yd (byt Z)) (g3 : Lies w yq (byt Q)) (g4 : Lies w ys (evs E)) :
    Calls Try.prog 18 #[.agg (savL H (.slice xo O.length co) (.slice xd Z.length cd) (.slice xq Q.length cq) (.slice xs E.length cs) b m n a st k f t).toArray, .agg (savL H' (.slice yo O.length eo) (.slice yd Z.length ed) (.slice yq Q.length eq) (.slice ys E.length es) b m n a st k f t).toArray] w fun e w' => e = .returned (.bool true) ∧ Kep w w' := by
  obtain ⟨X, hX⟩ : ∃ X, Hid (X = (savL H (.slice xo O.length co) (.slice xd Z.length cd) (.slice xq Q.length cq) (.slice xs E.length cs) b m n a st k f t).toArray) := ⟨_, rfl⟩
  obtain ⟨Y, hY⟩ : ∃ Y, Hid (Y = (savL H' (.slice yo O.length eo) (.slice yd Z.length ed) (.slice yq Q.length eq) (.slice ys E.length es) b m n a st k f t).toArray) := ⟨_, rfl⟩
  rw [← hX.out, ← hY.out]
  obtain ⟨r, hr⟩ : ∃ r, Hid (r = w.heap.size) := ⟨_, rfl⟩
  obtain ⟨u, hu⟩ : ∃ u, Hid (u = w.heap.size + 1) := ⟨_, rfl⟩
  have KA : Hid (Kep w ((w.alloc (.cells X 55)).alloc (.cells Y 55))) := ((Kep.refl w).alloc _).alloc _
  have B1 : Hid (((w.alloc (.cells X 55)).alloc (.cells Y 55)).heap[r]? = some (.cells X 55 (0, 0))) := by rw [hr.out]; exact (hsk _ _ _ (by simp)).trans (hat _ _ _ rfl)
  have B2 : Hid (((w.alloc (.cells X 55)).alloc (.cells Y 55)).heap[u]? = some (.cells Y 55 (0, 0))) := by rw [hu.out]; exact hat _ _ _ (by simp)
  have CX : Hid (∀ w' : World, w'.heap[r]? = some (.cells X 55 (0, 0)) → w'.cell? ⟨r, 23, none⟩ = some (.slice xo O.length co) ∧ w'.cell? ⟨r, 24, none⟩ = some (.slice xd Z.length cd) ∧ w'.cell? ⟨r, 25, none⟩ = some (.slice xq Q.length cq) ∧ w'.cell? ⟨r, 26, none⟩ = some (.slice xs E.length cs) ∧ w'.cell? ⟨r, 27, none⟩ = some (.int .u32 b) ∧ w'.cell? ⟨r, 28, none⟩ = some (.int .u32 m) ∧ w'.cell? ⟨r, 29, none⟩ = some (.int .u32 n) ∧ w'.cell? ⟨r, 30, none⟩ = some (.int .u32 a) ∧ w'.cell? ⟨r, 31, none⟩ = some (.int .u32 st) ∧ w'.cell? ⟨r, 32, none⟩ = some (.int .u32 k) ∧ w'.cell? ⟨r, 33, none⟩ = some (.int .u32 f) ∧ w'.cell? ⟨r, 34, none⟩ = some (.int .u32 t)) := fun w' h => by
    rw [hX.out] at h; exact sav_box hH _ _ _ _ _ _ _ _ _ _ _ _ h
  have CY : Hid (∀ w' : World, w'.heap[u]? = some (.cells Y 55 (0, 0)) → w'.cell? ⟨u, 23, none⟩ = some (.slice yo O.length eo) ∧ w'.cell? ⟨u, 24, none⟩ = some (.slice yd Z.length ed) ∧ w'.cell? ⟨u, 25, none⟩ = some (.slice yq Q.length eq) ∧ w'.cell? ⟨u, 26, none⟩ = some (.slice ys E.length es) ∧ w'.cell? ⟨u, 27, none⟩ = some (.int .u32 b) ∧ w'.cell? ⟨u, 28, none⟩ = some (.int .u32 m) ∧ w'.cell? ⟨u, 29, none⟩ = some (.int .u32 n) ∧ w'.cell? ⟨u, 30, none⟩ = some (.int .u32 a) ∧ w'.cell? ⟨u, 31, none⟩ = some (.int .u32 st) ∧ w'.cell? ⟨u, 32, none⟩ = some (.int .u32 k) ∧ w'.cell? ⟨u, 33, none⟩ = some (.int .u32 f) ∧ w'.cell? ⟨u, 34, none⟩ = some (.int .u32 t)) := fun w' h => by
    rw [hY.out] at h; exact sav_box hH' _ _ _ _ _ _ _ _ _ _ _ _ h
  have SO : Hid (Str w (.slice xo O.length co) (strL O) ∧ Str w (.slice yo O.length eo) (strL O)) := ⟨h1.strAny, g1.strAny⟩
  have SZ : Hid (Str w (.slice xd Z.length cd) (strL Z) ∧ Str w (.slice yd Z.length ed) (strL Z)) := ⟨h2.strAny, g2.strAny⟩
  have SQ : Hid (Str w (.slice xq Q.length cq) (strL Q) ∧ Str w (.slice yq Q.length eq) (strL Q)) := ⟨h3.strAny, g3.strAny⟩
  have Ha : Hid (Lies w xs (evs E)) := h4
  have Hb : Hid (Lies w ys (evs E)) := g4
  obtain ⟨len, hn⟩ : ∃ n, Hid (n = E.length) := ⟨_, rfl⟩
  have hlen : (len : Int) ≤ 64 := by have := hn.out; omega
  have hlc : (len : Int) ≤ cs := by have := hn.out; omega
  have hle : (len : Int) ≤ es := by have := hn.out; omega
  rw [← hn.out] at CX CY
  generalize strL O = sO at SO
  generalize strL Z = sZ at SZ
  generalize strL Q = sQ at SQ
  clear h1 h2 h3 h4 g1 g2 g3 g4 hX hY hH hH' hE hc hc'
  go_enter Try.func18, Try.ntmps18
  go_upto_region 1 with fail
  generalize (w.alloc (.cells X 55)).alloc (.cells Y 55) = V at KA B1 B2 ⊢
  rw [← hu.out, ← hr.out]
  obtain ⟨_, _, _, c26, _⟩ := CX.out V B1.out
  obtain ⟨_, _, _, e26, _⟩ := CY.out V B2.out
  go_wp2_with fail
  clear c26 e26
  go_loopw [5] (fun i wr => ∃ k : Nat, (k : Int) ≤ len ∧ i = .int .i64 k ∧ Hid (Kep V wr)) (fun i _ => len - (intOf i).toNat)
  case atStart => exact ⟨0, by omega, rfl, Kep.refl _⟩
  case round =>
    obtain ⟨i, hk, rfl, K⟩ := hrel
    have KW : Hid (Kep w wr) := kep_trans KA.out K.out
    obtain ⟨c23, c24, c25, c26, c27, c28, c29, c30, c31, c32, c33, c34⟩ := CX.out wr (K.out.block B1.out)
    obtain ⟨e23, e24, e25, e26, e27, e28, e29, e30, e31, e32, e33, e34⟩ := CY.out wr (K.out.block B2.out)
    by_cases hlt : i < len
    · have hlt' : (i : Int) < len := by omega
      have hln := hn.out
      obtain ⟨e, he⟩ : ∃ e, E[i]? = some e := ⟨_, List.getElem?_eq_getElem (by omega)⟩
      obtain ⟨e0, e1, e2⟩ := e
      rcases (Ha.out.kep KW.out) with h0 | ⟨b1, off, rfl, _, hca⟩
      · have := evs_len E; rw [h0] at this; simp at this; omega
      rcases (Hb.out.kep KW.out) with h0 | ⟨b', off', rfl, _, hcb⟩
      · have := evs_len E; rw [h0] at this; simp at this; omega
      have v0 : (evs E)[i * 3 + 0]? = some (.int .i64 e0) := by have := evs_at E i _ he 0 (by omega); simpa [evV] using this
      have v1 : (evs E)[i * 3 + 1]? = some (.int .i64 e1) := by have := evs_at E i _ he 1 (by omega); simpa [evV] using this
      have v2 : (evs E)[i * 3 + 2]? = some (.int .u8 e2) := by have := evs_at E i _ he 2 (by omega); simpa [evV] using this
      have p0 : wr.cell? ⟨b1, off + i * 3, none⟩ = some (.int .i64 e0) := hca _ _ v0
      have p1 : wr.cell? ⟨b1, off + i * 3 + 1, none⟩ = some (.int .i64 e1) := by rw [Nat.add_assoc]; exact hca _ _ v1
      have p2 : wr.cell? ⟨b1, off + i * 3 + 2, none⟩ = some (.int .u8 e2) := by rw [Nat.add_assoc]; exact hca _ _ v2
      have r0 : wr.cell? ⟨b', off' + i * 3, none⟩ = some (.int .i64 e0) := hcb _ _ v0
      have r1 : wr.cell? ⟨b', off' + i * 3 + 1, none⟩ = some (.int .i64 e1) := by rw [Nat.add_assoc]; exact hcb _ _ v1
      have r2 : wr.cell? ⟨b', off' + i * 3 + 2, none⟩ = some (.int .u8 e2) := by rw [Nat.add_assoc]; exact hcb _ _ v2
      have hsm := ev_same e0 e1 e2
      clear hca hcb he hln v0 v1 v2 hlt hk
      clear c23 c24 c25 c27 c28 c29 c30 c31 c32 c33 c34 e23 e24 e25 e27 e28 e29 e30 e31 e32 e33 e34
      go_wp2_with fail
      go_quiet (fail)
      go_wp2_with fail
      go_roundw
      case rel => exact ⟨i + 1, by omega, by go_num, K.out.drewN _⟩
      case measure => simp [intOf]; omega
    · have z1 := SO.out.1 wr KW.out
      have z2 := SO.out.2 wr KW.out
      have z3 := SZ.out.1 wr KW.out
      have z4 := SZ.out.2 wr KW.out
      have z5 := SQ.out.1 wr KW.out
      have z6 := SQ.out.2 wr KW.out
      have t1 : decide ((i : Int) < len) = false := decide_eq_false (by omega)
      have t2 : decide (i < len) = false := decide_eq_false hlt
      clear hlt hk
      go_wp2_with fail
      go_ret
      exact ⟨rfl, KW.out⟩

/-- Load's error. -/
def loadI (E : List Ev) (Z Q : List Int) (b m st k f t : Int) : Int := if errI E Z = 0 then (if 32 < Q.length then 3 else if 7 < b ∨ 7 < m ∨ fitsB st k f t = false then 2 else 0) else errI E Z

set_option maxHeartbeats 8000000 in
set_option maxRecDepth 100000 in
theorem load_no {w : World} {H : List Value} (hH : H.length = 23) {E : List Ev} {Z Q O : List Int} {xo : Option Addr} {co : Nat} {xd : Option Addr} {cd : Nat} {xq : Option Addr} {cq : Nat} {xs : Option Addr} {cs : Nat} {b m n a st k f t : Int} (I : SavIn w E Z Q O xo xd cd xq xs cs st k f t)
    (he : loadI E Z Q b m st k f t ≠ 0) :
    Calls Try.prog 17 #[.agg (savL H (.slice xo O.length co) (.slice xd Z.length cd) (.slice xq Q.length cq) (.slice xs E.length cs) b m n a st k f t).toArray] w fun e w' => e = .returned (.tuple #[.pointer none, .int .i64 (loadI E Z Q b m st k f t)]) ∧ Kep w w' := by
  obtain ⟨X, hX⟩ : ∃ X, Hid (X = (savL H (.slice xo O.length co) (.slice xd Z.length cd) (.slice xq Q.length cq) (.slice xs E.length cs) b m n a st k f t).toArray) := ⟨_, rfl⟩
  rw [← hX.out]
  have CX0 : Hid (∀ (w' : World) (r : Nat), w'.heap[r]? = some (.cells X 55 (0, 0)) → w'.cell? ⟨r, 23, none⟩ = some (.slice xo O.length co) ∧ w'.cell? ⟨r, 24, none⟩ = some (.slice xd Z.length cd) ∧ w'.cell? ⟨r, 25, none⟩ = some (.slice xq Q.length cq) ∧ w'.cell? ⟨r, 26, none⟩ = some (.slice xs E.length cs) ∧ w'.cell? ⟨r, 27, none⟩ = some (.int .u32 b) ∧ w'.cell? ⟨r, 28, none⟩ = some (.int .u32 m) ∧ w'.cell? ⟨r, 29, none⟩ = some (.int .u32 n) ∧ w'.cell? ⟨r, 30, none⟩ = some (.int .u32 a) ∧ w'.cell? ⟨r, 31, none⟩ = some (.int .u32 st) ∧ w'.cell? ⟨r, 32, none⟩ = some (.int .u32 k) ∧ w'.cell? ⟨r, 33, none⟩ = some (.int .u32 f) ∧ w'.cell? ⟨r, 34, none⟩ = some (.int .u32 t)) := fun w' r h => by
    rw [hX.out] at h; exact sav_box hH _ _ _ _ _ _ _ _ _ _ _ _ h
  have KA : Hid (Kep w (w.alloc (.cells X 55))) := (Kep.refl w).alloc _
  have BA : Hid ((w.alloc (.cells X 55)).heap[w.heap.size]? = some (.cells X 55 (0, 0))) := hat _ _ _ rfl
  by_cases h0 : errI E Z = 0
  · have HN : Hid (∀ V, Kep w V → Calls Try.prog 6 #[.slice xs E.length cs, .slice xd Z.length cd] V fun e w' => ∃ p F, e = .returned (.tuple #[.pointer (some ⟨p, 0, none⟩), .int .i64 0]) ∧ Dev w' p (ds0 E Z) F ∧ Kep V w' ∧ ∀ g ∈ F, V.heap.size ≤ g) := fun V K => vnew_ok V xs E.length cs E rfl I.ec (I.e.kep K) xd Z.length cd Z rfl I.dc I.dm (I.d.kep K) h0
    have HF : Hid (∀ w, Calls Try.prog 52 #[.int .u32 st, .agg #[.int .u32 k, .int .u32 f, .int .u32 t]] w fun e w' => e = .returned (.bool (fitsB st k f t)) ∧ Kep w w') := fun w => fits_any w st k f t I.k I.f I.t
    have hq2 : (Q.length : Int) ≤ 9223372036854775807 := I.ql
    by_cases hQ : 32 < Q.length
    · have ev : loadI E Z Q b m st k f t = 3 := by unfold loadI; rw [if_pos h0, if_pos hQ]
      rw [ev]
      have tq : decide ((32 : Int) < (Q.length : Int)) = true := decide_eq_true (by omega)
      have tq' : decide (32 < Q.length) = true := decide_eq_true (by omega)
      clear hX I he hQ h0 hH ev HF
      go_enter Try.func17, Try.ntmps17
      go_upto_region 1 with fail
      generalize w.alloc (.cells X 55) = V at KA BA ⊢
      generalize w.heap.size = r at BA ⊢
      obtain ⟨_, c24, _, c26, _⟩ := CX0.out V r BA.out
      go_wp2_with fail
      refine (HN.out V KA.out).mono ?_
      rintro e w1 ⟨p, F, rfl, d1, k1, f1⟩
      have K1 : Hid (Kep V w1) := k1
      obtain ⟨_, _, c25, _⟩ := CX0.out w1 r (k1.block BA.out)
      clear d1 k1 f1 c24 c26
      go_wp2_with fail
      go_ret2
      exact ⟨rfl, kep_trans KA.out K1.out⟩
    · have ev : loadI E Z Q b m st k f t = 2 := by
        unfold loadI at he ⊢
        rw [if_pos h0, if_neg hQ] at he ⊢
        split at he
        · rename_i h; rw [if_pos h]
        · exact absurd rfl he
      have hcase : 7 < b ∨ (¬ 7 < b ∧ 7 < m) ∨ (¬ 7 < b ∧ ¬ 7 < m ∧ fitsB st k f t = false) := by
        unfold loadI at ev
        rw [if_pos h0, if_neg hQ] at ev
        split at ev
        · rename_i h
          by_cases h1 : 7 < b
          · exact .inl h1
          · by_cases h2 : 7 < m
            · exact .inr (.inl ⟨h1, h2⟩)
            · rcases h with h | h | h
              · exact absurd h h1
              · exact absurd h h2
              · exact .inr (.inr ⟨h1, h2, h⟩)
        · cases ev
      rw [ev]
      have tq : decide ((32 : Int) < (Q.length : Int)) = false := decide_eq_false (by omega)
      have tq' : decide (32 < Q.length) = false := decide_eq_false (by omega)
      have hT : (decide ((7 : Int) < b) = true) ∨ (decide ((7 : Int) < b) = false ∧ decide ((7 : Int) < m) = true) ∨ (decide ((7 : Int) < b) = false ∧ decide ((7 : Int) < m) = false ∧ fitsB st k f t = false) := by
        rcases hcase with h | ⟨h1, h2⟩ | ⟨h1, h2, h3⟩
        · exact .inl (decide_eq_true h)
        · exact .inr (.inl ⟨decide_eq_false h1, decide_eq_true h2⟩)
        · exact .inr (.inr ⟨decide_eq_false h1, decide_eq_false h2, h3⟩)
      clear hX I he hQ h0 hH ev hcase
      go_enter Try.func17, Try.ntmps17
      go_upto_region 1 with fail
      generalize w.alloc (.cells X 55) = V at KA BA ⊢
      generalize w.heap.size = r at BA ⊢
      obtain ⟨_, c24, _, c26, _⟩ := CX0.out V r BA.out
      go_wp2_with fail
      refine (HN.out V KA.out).mono ?_
      rintro e w1 ⟨p, F, rfl, d1, k1, f1⟩
      have K1 : Hid (Kep w w1) := kep_trans KA.out k1
      have lr := block_lt (k1.block BA.out)
      obtain ⟨_, _, c25, _, c27, c28, _, _, c31, c32, c33, c34⟩ := CX0.out w1 r (k1.block BA.out)
      have K2 : Hid (∀ w2, Kep (w1.alloc (.cells #[.int .u32 k, .int .u32 f, .int .u32 t] 74)) w2 → Kep w w2) := fun w2 h => kep_trans K1.out (kep_trans ((Kep.refl w1).alloc _) h)
      clear d1 k1 f1 c24 c26 HN CX0 KA BA
      rcases hT with h1 | ⟨h1, h2⟩ | ⟨h1, h2, h3⟩
      · clear HF
        go_wp2_with fail
        go_ret2
        exact ⟨rfl, K2.out _ (Kep.refl _)⟩
      · clear HF
        go_wp2_with fail
        go_ret2
        exact ⟨rfl, K2.out _ (Kep.refl _)⟩
      · rw [h3] at HF
        clear h3
        go_wp2_with (go_at_call 52; refine (HF.out _).mono ?_; rintro e w2 ⟨rfl, k2⟩; have K3 : Hid (Kep (w1.alloc (.cells #[.int .u32 k, .int .u32 f, .int .u32 t] 74)) w2) := k2; clear k2)
        go_ret2
        exact ⟨rfl, K2.out _ K3.out⟩
  · have ev : loadI E Z Q b m st k f t = errI E Z := by unfold loadI; rw [if_neg h0]
    rw [ev]
    have HN : Hid (∀ V, Kep w V → Calls Try.prog 6 #[.slice xs E.length cs, .slice xd Z.length cd] V fun e w' => e = .returned (.tuple #[.pointer none, .int .i64 (errI E Z)]) ∧ Kep V w') := fun V K => vnew_no V xs E.length cs E rfl I.ec I.em (I.e.kep K) xd Z.length cd Z rfl I.dc I.dm h0
    have h23 : errI E Z = 2 ∨ errI E Z = 3 := (errI_cases E Z).resolve_left h0
    clear hX I he h0 hH ev
    rcases h23 with h | h
    all_goals
      rw [h] at HN ⊢
      clear h
      go_enter Try.func17, Try.ntmps17
      go_upto_region 1 with fail
      generalize w.alloc (.cells X 55) = V at KA BA ⊢
      generalize w.heap.size = r at BA ⊢
      obtain ⟨_, c24, _, c26, _⟩ := CX0.out V r BA.out
      go_wp2_with fail
      refine (HN.out V KA.out).mono ?_
      rintro e w1 ⟨rfl, k1⟩
      have K1 : Hid (Kep V w1) := k1
      clear k1 c24 c26
      go_wp2_with fail
      go_ret2
      exact ⟨rfl, kep_trans KA.out K1.out⟩
end Go.Proofs.Ytpieeefeicdfgab
