/- Part of a proof. -/
import Derived.Test.YtpalbpjmjbcelaaDoorJ06
import Derived.Test.YtpalbpjmjbcelaaDoorJ08
namespace Go.Proofs.YtpalbpjmjbcelaaDoor
open Go.RowKit
set_option linter.unusedVariables false
set_option linter.unusedSimpArgs false
theorem ltmay_any {w : World} {xi : Option Addr} {li ci : Nat} {I : List In4} {xa : Option Addr} {la ca : Nat} {A : List Int} {n t e : Int} {xf : Option Addr} {lf cf : Nat} {xt : Option Addr} {lt ct : Nat} (H : BlkIn w xi li ci I xa la ca A n t e) (hT : Tabs w) :
    Calls Tryd.prog 8 #[.agg (blkX xi li ci xa la ca n t e xf lf cf xt lt ct)] w fun r w' => r = .returned (.bool (mayL I la e)) ∧ Kep w w' := by
  cases h : fitL li la
  · rw [mayL_unfit (by rw [H.il]; exact h)]
    exact ltmay_no H h
  · exact ltmay_fit H h hT
theorem may_fit {I : List In4} {la : Nat} {e : Int} (h : mayL I la e = true) : 1 ≤ I.length ∧ I.length ≤ 32 ∧ la = I.length := by
  unfold mayL at h
  rw [Bool.and_eq_true] at h
  exact of_decide_eq_true (show decide (1 ≤ I.length ∧ I.length ≤ 32 ∧ la = I.length) = true from h.1)
theorem may_last {I : List In4} {la : Nat} {e : Int} (h : mayL I la e = true) : bok (lastI I) = true ∧ e = bEnd (lastI I).1 := by
  unfold mayL at h
  simp only [Bool.and_eq_true, decide_eq_true_eq] at h
  exact h.2.2
theorem may_mid {I : List In4} {la : Nat} {e : Int} (h : mayL I la e = true) : mid (I.take (I.length - 1)) = true := by
  unfold mayL at h
  simp only [Bool.and_eq_true, decide_eq_true_eq] at h
  exact h.2.1
def dnI (I : List In4) (e : Int) : Nat := if e = 4 then I.length - 1 else I.length
theorem may_ins {I : List In4} {la : Nat} {e : Int} (h : mayL I la e = true) {k : Nat} {i : In4} (hi : I[k]? = some i) (hk : k < dnI I e) : bok i = true ∧ (bnd i.1 = false ∨ (64 ≤ i.1 ∧ i.1 ≤ 72)) := by
  obtain ⟨f1, f2, f3⟩ := may_fit h
  by_cases hl : k < I.length - 1
  · obtain ⟨a, b⟩ := mid_at hi hl (may_mid h)
    exact ⟨a, .inl b⟩
  · unfold dnI at hk
    by_cases he : e = 4
    · rw [if_pos he] at hk; omega
    · rw [if_neg he] at hk
      obtain rfl : k = I.length - 1 := by omega
      rw [last_at f1] at hi
      obtain rfl : lastI I = i := by simpa using hi
      obtain ⟨a, b⟩ := may_last h
      refine ⟨a, ?_⟩
      unfold bEnd at b
      by_cases c1 : bnd (lastI I).1 = false
      · exact .inl c1
      · rw [if_neg c1] at b
        right
        split at b
        · omega
        · split at b
          · omega
          · omega
theorem runI_good {n : Int} (hn : 0 ≤ n ∧ n < 4294967296) {I : List In4} {A : List Int} {la : Nat} {e : Int} (h : mayL I la e = true) (io : ∀ i ∈ I, In4.Ok i) {k : Nat} (hk : k ≤ dnI I e) : ∀ x ∈ runI n I A k, GdI x.1 := by
  intro x hx
  have hd : dnI I e ≤ I.length := by unfold dnI; split <;> omega
  obtain ⟨j, i, h', hj, hi, hl, rfl⟩ := runI_mem (by omega) hx
  obtain ⟨a, b⟩ := may_ins h hi (by omega)
  exact (lay4_good hn (io _ (List.mem_of_getElem? hi)) a b hl).1
theorem itB_le {L : List It} (h : ∀ x ∈ L, GdI x.1) : (itB L).length ≤ 6 * L.length := by
  induction L with
  | nil => simp [itB]
  | cons x r ih =>
    have e : (itB (x :: r)).length = (encH x.1).length + (itB r).length := by simp [itB]
    have := ih (fun y hy => h y (by simp [hy]))
    have := (h x (by simp)).len
    rw [e, List.length_cons]; omega
def outsI (P : List Int) (dn first : Int) : Nat → List It
  | 0 => []
  | j + 1 => outsI P dn first j ++ outI (P.getD j 0) dn (first + j)
theorem outsI_len (P : List Int) (dn first : Int) : ∀ j, (outsI P dn first j).length = 2 * j
  | 0 => rfl
  | j + 1 => by unfold outsI; rw [List.length_append, outsI_len P dn first j]; simp [outI]; omega
theorem outsI_B (L : List It) (P : List Int) {dn first : Int} (hd : 0 ≤ dn ∧ dn ≤ 255) (hf : 0 ≤ first ∧ first ≤ 65534) : ∀ j, j ≤ 2 → (itB (L ++ outsI P dn first j)).length = (itB L).length + 5 * j
  | 0, _ => by simp [outsI]
  | j + 1, hj => by
    unfold outsI
    rw [← List.append_assoc, outI_B _ _ hd (by omega), List.length_append, outsI_B L P hd hf j (by omega)]
    show _ + 5 = _
    omega
theorem blk_cells {w : World} {b : Nat} {xi : Option Addr} {li ci : Nat} {xa : Option Addr} {la ca : Nat} {n t e : Int} {xf : Option Addr} {lf cf : Nat} {xt : Option Addr} {lt ct : Nat} (h : w.heap[b]? = some (.cells (blkX xi li ci xa la ca n t e xf lf cf xt lt ct) 27 (0, 0))) :
    w.cell? ⟨b, 0, none⟩ = some (.slice xi li ci) ∧ w.cell? ⟨b, 1, none⟩ = some (.slice xa la ca) ∧ w.cell? ⟨b, 2, none⟩ = some (.int .u32 n) ∧ w.cell? ⟨b, 3, none⟩ = some (.int .u32 t) ∧ w.cell? ⟨b, 4, none⟩ = some (.int .i64 e) ∧ w.cell? ⟨b, 5, none⟩ = some (.slice xf lf cf) ∧ w.cell? ⟨b, 6, none⟩ = some (.slice xt lt ct) :=
  ⟨cell_of_block h, cell_of_block h, cell_of_block h, cell_of_block h, cell_of_block h, cell_of_block h, cell_of_block h⟩
theorem Sli.rowoff {w : World} {e : TypeId} {z : Nat} {v : Value} {n : Nat} {xs : List Value} {F : List Nat} (h : Sli w e z v n xs F) {r : Nat} {cs : Array Value} {t : TypeId} {fr : Nat × Nat} (hr : w.heap[r]? = some (.cells cs t fr)) (ht : t ≠ e) (new : Array Value) : Sli (w.setRow r new) e z v n xs F :=
  h.put (l := [r]) ((Put.refl _).setRow (by simp) _) (fun g hg hm => by
    obtain rfl : g = r := by simpa using hm
    exact h.ne hr ht g hg rfl)
theorem size_code : (Tryd.prog.info? 33).map (·.size) = some 2 := by kernel_rfl
set_option maxHeartbeats 2000000 in
set_option maxRecDepth 100000 in
theorem lttr_no {w : World} {xi : Option Addr} {li ci : Nat} {I : List In4} {xa : Option Addr} {la ca : Nat} {A : List Int} {n t e : Int} {xf : Option Addr} {lf cf : Nat} {xt : Option Addr} {lt ct : Nat} (H : BlkIn w xi li ci I xa la ca A n t e) (first : Int) (hr : mayL I la e = false ∨ first < 0 ∨ 65534 < first) (hT : Tabs w) :
    Calls Tryd.prog 11 #[.agg (blkX xi li ci xa la ca n t e xf lf cf xt lt ct), .int .i64 first] w fun r w' => r = .returned (.tuple #[.agg #[nilS, nilS], .int .i64 2]) ∧ Kep w w' := by
  have hr' : mayL I la e = false ∨ (mayL I la e = true ∧ first < 0) ∨ (mayL I la e = true ∧ ¬ first < 0 ∧ 65534 < first) := by
    cases hm : mayL I la e
    · exact .inl rfl
    · rcases hr with h | h | h
      · rw [hm] at h; cases h
      · exact .inr (.inl ⟨rfl, h⟩)
      · by_cases h0 : first < 0
        · exact .inr (.inl ⟨rfl, h0⟩)
        · exact .inr (.inr ⟨rfl, h0, h⟩)
  clear hr
  have MY : Hid (∀ w', Kep w w' → Calls Tryd.prog 8 #[.agg (blkX xi li ci xa la ca n t e xf lf cf xt lt ct)] w' fun r w'' => r = .returned (.bool (mayL I la e)) ∧ Kep w' w'') := fun w' k => ltmay_any (H.kep k) (hT.grown k)
  clear H hT
  rcases hr' with hm | ⟨hm, h1⟩ | ⟨hm, h1, h2⟩
  all_goals
    rw [hm] at MY
    clear hm
    go_enter Tryd.func11, Tryd.ntmps11
    go_upto_region 1 with fail
    obtain ⟨bb, qb⟩ : ∃ i, Hid (i = w.heap.size) := ⟨_, rfl⟩
    obtain ⟨rc, qr⟩ : ∃ i, Hid (i = w.heap.size + 1) := ⟨_, rfl⟩
    rw [← qr.out, ← qb.out]
    obtain ⟨W, hW⟩ : ∃ V, Hid ((w.alloc (.cells (blkX xi li ci xa la ca n t e xf lf cf xt lt ct) 27)).alloc (.cells #[nilS, nilS] 33) = V) := ⟨_, rfl⟩
    rw [hW.out]
    have K1 : Hid (Kep w W) := by rw [Hid, ← hW.out]; exact ((Kep.refl _).alloc _).alloc _
    have Bb : Hid (W.heap[bb]? = some (.cells (blkX xi li ci xa la ca n t e xf lf cf xt lt ct) 27 (0, 0))) := by rw [Hid, ← hW.out, qb.out]; exact ((Kep.refl _).alloc _).block (hat _ _ _ rfl)
    have Br : Hid (W.heap[rc]? = some (.cells #[nilS, nilS] 33 (0, 0))) := by rw [Hid, ← hW.out, qr.out]; exact hat _ _ _ (by simp)
    have lr : Hid (w.heap.size ≤ rc) := by rw [Hid, qr.out]; omega
    clear hW qb qr
    obtain ⟨c0, c1, c2, c3, c4, c5, c6⟩ := blk_cells Bb.out
    go_wp2_with fail
    refine (MY.out W K1.out).mono ?_
    rintro r w1 ⟨rfl, k1⟩
    have R1 := hidd (k1.block Br.out)
    have k1 := hidd k1
    clear c0 c1 c2 c3 c4 c5 c6
    go_wp2_with (refine wpList_store_row (by rfl) 33 _ _ (by rfl) rc #[nilS, nilS] (by rfl) (by rfl) 33 #[nilS, nilS] R1.out (by exact size_code) (by rfl) (by simp [Value.oneCell']) ?_)
    refine bodyPost_ret (resultsC1 rfl _ _ rc 33 #[nilS, nilS] (0, 0) _ rfl ?_ Tryd.underlying33 rfl size_code) rfl ⟨rfl, ?_⟩
    · exact setRow_heap _ _ _ _ _ _ R1.out
    · exact (kep_trans K1.out k1.out).setRow _ _ lr.out
set_option maxHeartbeats 8000000 in
set_option maxRecDepth 100000 in
theorem lttr_led {w : World} {xi : Option Addr} {li ci : Nat} {I : List In4} {xa : Option Addr} {la ca : Nat} {A : List Int} {n t e : Int} {xf : Option Addr} {lf cf : Nat} {xt : Option Addr} {lt ct : Nat} (H : BlkIn w xi li ci I xa la ca A n t e) (first : Int) (hm : mayL I la e = true) (hf : 0 ≤ first ∧ first ≤ 65534) (P : List Int) (hP : LedOf e n t P) (hT : Tabs w) :
    Calls Tryd.prog 11 #[.agg (blkX xi li ci xa la ca n t e xf lf cf xt lt ct), .int .i64 first] w fun r w' => ∃ v1 v2 F G, r = .returned (.tuple #[.agg #[v1, v2], .int .i64 0]) ∧
      Sli w' 5 1 v1 (itB (runI n I A la ++ outsI P la first P.length)).length (bs (itB (runI n I A la ++ outsI P la first P.length))) F ∧ Sli w' 41 4 v2 (runI n I A la ++ outsI P la first P.length).length (rws (itR (runI n I A la ++ outsI P la first P.length))) G ∧ Kep w w' := by
  obtain ⟨m1, m2, m3⟩ := may_fit hm
  have m4 := H.il
  obtain rfl : li = la := by omega
  have MY : Hid (∀ w', Kep w w' → Calls Tryd.prog 8 #[.agg (blkX xi li ci xa li ca n t e xf lf cf xt lt ct)] w' fun r w'' => r = .returned (.bool true) ∧ Kep w' w'') := fun w' k => by have m := ltmay_any (xf := xf) (lf := lf) (cf := cf) (xt := xt) (lt := lt) (ct := ct) (H.kep k) (hT.grown k); rw [hm] at m; exact m
  have EO : Hid (∀ w', Calls Tryd.prog 22 #[.agg (blkX xi li ci xa li ca n t e xf lf cf xt lt ct)] w' fun r w'' => ∃ b, r = .returned (ledV b P.length) ∧ Plc w'' b P ∧ Kep w' w'') := fun w' => ltendof_led hP
  have e4 : Hid (e ≠ 4) := by rcases hP with h | h | h <;> rw [Hid] <;> omega
  have pl : P.length ≤ 2 ∧ 1 ≤ P.length := by rcases hP with ⟨_, rfl⟩ | ⟨_, rfl⟩ | ⟨_, _, _, rfl⟩ <;> simp
  have dn : Hid (dnI I e = li) := by rw [Hid]; unfold dnI; rw [if_neg e4.out]; exact m4
  have hdl : Hid (li = li) := rfl
  have GD : Hid (∀ k, k ≤ li → ∀ x ∈ runI n I A k, GdI x.1) := fun k hk => runI_good H.hn hm H.io (by rw [dn.out]; exact hk)
  have MI : Hid (∀ k i, I[k]? = some i → k < li → bok i = true ∧ (bnd i.1 = false ∨ (64 ≤ i.1 ∧ i.1 ≤ 72))) := fun k i hi hk => may_ins hm hi (by rw [dn.out]; exact hk)
  have H' := hidd H
  have hT' := hidd hT
  have f0 : ¬ first < 0 := by omega
  have f1 : ¬ 65534 < first := by omega
  have f0' : 0 ≤ first := hf.1
  have f1' : first ≤ 65534 := hf.2
  have g1 : (li : Int) ≤ 32 := by omega
  have g2 : (1 : Int) ≤ li := by omega
  have g3 : (li : Int) ≤ ci := by have := H.ic; omega
  have g4 : (ci : Int) ≤ 9223372036854775807 := H.im
  have g5 : (li : Int) ≤ ca := by have := H.ac; omega
  have g6 : (ca : Int) ≤ 9223372036854775807 := H.am
  have IL : Hid (I.length = li) := m4
  have hn := hidd H.hn
  clear H hT hm hf m1 m2 m3 m4 hP
  go_enter Tryd.func11, Tryd.ntmps11
  go_upto_region 1 with fail
  obtain ⟨bb, qb⟩ : ∃ i, Hid (i = w.heap.size) := ⟨_, rfl⟩
  obtain ⟨rc, qr⟩ : ∃ i, Hid (i = w.heap.size + 1) := ⟨_, rfl⟩
  rw [← qr.out, ← qb.out]
  obtain ⟨W, hW⟩ : ∃ V, Hid ((w.alloc (.cells (blkX xi li ci xa li ca n t e xf lf cf xt lt ct) 27)).alloc (.cells #[nilS, nilS] 33) = V) := ⟨_, rfl⟩
  rw [hW.out]
  have K1 : Hid (Kep w W) := by rw [Hid, ← hW.out]; exact ((Kep.refl _).alloc _).alloc _
  have Bb : Hid (W.heap[bb]? = some (.cells (blkX xi li ci xa li ca n t e xf lf cf xt lt ct) 27 (0, 0))) := by rw [Hid, ← hW.out, qb.out]; exact ((Kep.refl _).alloc _).block (hat _ _ _ rfl)
  have Br : Hid (W.heap[rc]? = some (.cells #[nilS, nilS] 33 (0, 0))) := by rw [Hid, ← hW.out, qr.out]; exact hat _ _ _ (by simp)
  have lr : Hid (w.heap.size ≤ rc) := by rw [Hid, qr.out]; omega
  clear hW qb qr
  obtain ⟨c0, c1, c2, c3, c4, c5, c6⟩ := blk_cells Bb.out
  go_wp2_with fail
  refine (MY.out W K1.out).mono ?_
  rintro r w2 ⟨rfl, k2⟩
  have K2 := hidd k2
  clear k2 c0 c1 c2 c3 c4 c5 c6 MY
  obtain ⟨c0, c1, c2, c3, c4, c5, c6⟩ := blk_cells (K2.out.block Bb.out)
  go_wp2_with fail
  refine (EO.out w2).mono ?_
  rintro r w3 ⟨b, rfl, pl3, k3⟩
  have PL3 := hidd pl3
  clear pl3
  have mt := lt_methled b P.length
  have ta := lt_isled b P.length
  have K3 := hidd (kep_trans K2.out k3)
  clear k3 c0 c1 c2 c3 c4 c5 c6 EO
  obtain ⟨c0, c1, c2, c3, c4, c5, c6⟩ := blk_cells (K3.out.block Bb.out)
  go_wp2_with fail
  refine (ltby_led _ _ _).mono ?_
  rintro r w4 ⟨rfl, k4⟩
  have K4 := hidd (kep_trans K3.out k4)
  have KW4 := hidd (kep_trans K1.out K4.out)
  have T4 := hidd (hT'.out.grown KW4.out)
  have B4 := hidd (K4.out.block Bb.out)
  have R4 := hidd (K4.out.block Br.out)
  have PL4 := hidd (PL3.out.kep k4)
  clear k4 c0 c1 c2 c3 c4 c5 c6 mt
  go_upto_region 6 with fail
  obtain ⟨c, qc⟩ : ∃ i, Hid (i = w4.heap.size) := ⟨_, rfl⟩
  rw [← qc.out]
  obtain ⟨W5, hW5⟩ : ∃ V, Hid (w4.alloc (.cells #[nilS, nilS] 63) = V) := ⟨_, rfl⟩
  rw [hW5.out]
  have C5 : Hid (CdW w4 W5 c nilS nilS [] [] []) := by
    rw [Hid, ← hW5.out]
    exact ⟨hat _ _ _ qc.out, Sli.nil _ _ _, Sli.nil _ _ _, ⟨by rw [qc.out]; omega, by simp, by simp⟩, (Kep.refl _).alloc _⟩
  have c0 : W5.cell? ⟨bb, 0, none⟩ = some (.slice xi li ci) := cell_of_block (C5.out.kp.block B4.out)
  clear hW5 qc
  skip
  go_wp2_with fail
  clear c0
  go_loopw [41] (fun i wr => ∃ k : Nat, (k : Int) ≤ li ∧ i = .int .i64 k ∧ ∃ v1 v2 F G, Hid (CdW w4 wr c v1 v2 (runI n I A k) F G)) (fun i _ => li - (intOf i).toNat)
  case atStart => exact ⟨0, by omega, rfl, _, _, _, _, C5⟩
  case round =>
    obtain ⟨k, hk, rfl, v1, v2, F, G, CD⟩ := hrel
    by_cases hlt : k < li
    · obtain ⟨i, hi⟩ : ∃ z, I[k]? = some z := ⟨_, List.getElem?_eq_getElem (by have := IL.out; omega)⟩
      have hi' := hidd hi
      obtain ⟨bi, off, hxi, RA⟩ := lies_in19 ((H'.out.ii.kep KW4.out).kep CD.out.kp) hi
      subst hxi
      have io := hidd (H'.out.io _ (List.mem_of_getElem? hi))
      have hg : Hid (I.getD k In4.z = i) := by rw [Hid, List.getD_eq_getElem?_getD, hi]; rfl
      have mi := hidd (MI.out k i hi hlt)
      have kla : Hid (k < li) := by rw [Hid]; omega
      have e0 : wr.cell? ⟨bi, off + k * 4, none⟩ = some (.int .u8 i.1) := RA 0 _ rfl
      have e1 : wr.cell? ⟨bi, off + k * 4 + 1, none⟩ = some (.int .u8 i.2.1) := RA 1 _ rfl
      have e2 : wr.cell? ⟨bi, off + k * 4 + 2, none⟩ = some (.int .u8 i.2.2.1) := RA 2 _ rfl
      have e3 : wr.cell? ⟨bi, off + k * 4 + 3, none⟩ = some (.int .i32 i.2.2.2) := RA 3 _ rfl
      clear RA hi
      go_upto_region 9 with fail
      obtain ⟨bl, ql⟩ : ∃ i, Hid (i = wr.heap.size) := ⟨_, rfl⟩
      rw [← ql.out]
      obtain ⟨W6, hW6⟩ : ∃ V, Hid (wr.alloc (.cells (insA i.1 i.2.1 i.2.2.1 i.2.2.2) 43) = V) := ⟨_, rfl⟩
      rw [hW6.out]
      have C6 : Hid (CdW w4 W6 c v1 v2 (runI n I A k) F G) := by rw [Hid, ← hW6.out]; exact CD.out.kep ((Kep.refl _).alloc _)
      have Bl : Hid (W6.heap[bl]? = some (.cells (insA i.1 i.2.1 i.2.2.1 i.2.2.2) 43 (0, 0))) := by rw [Hid, ← hW6.out]; exact hat _ _ _ ql.out
      clear hW6 ql e0 e1 e2 e3
      have e0 : W6.cell? ⟨bl, 0, none⟩ = some (.int .u8 i.1) := cell_of_block Bl.out
      have e1 : W6.cell? ⟨bl, 1, none⟩ = some (.int .u8 i.2.1) := cell_of_block Bl.out
      have e2 : W6.cell? ⟨bl, 2, none⟩ = some (.int .u8 i.2.2.1) := cell_of_block Bl.out
      have e3 : W6.cell? ⟨bl, 3, none⟩ = some (.int .i32 i.2.2.2) := cell_of_block Bl.out
      have c2 : W6.cell? ⟨bb, 2, none⟩ = some (.int .u32 n) := cell_of_block (C6.out.kp.block B4.out)
      have PC := hidd (ltplace_any i n hn.out.1 hn.out.2)
      cases hl : lay4 n i with
      | none =>
        have hp : lpV n i = .tuple #[.agg (insA 0 0 0 0), .bool false] := by unfold lpV; rw [hl]
        have hr : Hid (runI n I A (k + 1) = runI n I A k) := by rw [Hid]; show runI n I A k ++ layI n A k (I.getD k In4.z) = _; rw [hg.out]; unfold layI; rw [hl]; simp
        rw [hp] at PC
        clear hp hl
        go_wp2_with fail
        refine (PC.out W6).mono ?_
        rintro r w7 ⟨rfl, k7⟩
        have C7 := hidd (C6.out.kep k7)
        clear k7 e0 e1 e2 e3 c2
        go_wp2_with fail
        go_roundw
        case rel => exact ⟨k + 1, by omega, by go_num, v1, v2, F, G, by rw [hr.out]; exact hidd (C7.out.kep ((Kep.refl _).alloc _))⟩
        case measure => simp [intOf]; omega
      | some p =>
        have hp : lpV n i = .tuple #[.agg (insA p.1 p.2.1 p.2.2.1 p.2.2.2), .bool true] := by unfold lpV; rw [hl]
        have hr : Hid (runI n I A (k + 1) = runI n I A k ++ [(p, A.getD k 0, (k : Int), -1)]) := by rw [Hid]; show runI n I A k ++ layI n A k (I.getD k In4.z) = _; rw [hg.out]; unfold layI; rw [hl]
        have PO : Hid (In4.Ok p ∧ bok p = true) := by have g := lay4_good hn.out io.out mi.out.1 mi.out.2 hl; exact ⟨g.1.1, g.2.1⟩
        rw [hp] at PC
        clear hp hl
        go_wp2_with fail
        refine (PC.out W6).mono ?_
        rintro r w7 ⟨rfl, k7⟩
        have C7 := hidd (C6.out.kep k7)
        clear k7 e0 e1 e2 e3 c2 PC
        go_upto_region 11 with fail
        obtain ⟨bx, qx⟩ : ∃ i, Hid (i = w7.heap.size) := ⟨_, rfl⟩
        rw [← qx.out]
        obtain ⟨W8, hW8⟩ : ∃ V, Hid (w7.alloc (.cells (insA p.1 p.2.1 p.2.2.1 p.2.2.2) 43) = V) := ⟨_, rfl⟩
        rw [hW8.out]
        have CX : Hid (CdW w4 W8 c v1 v2 (runI n I A k) F G) := by rw [Hid, ← hW8.out]; exact C7.out.kep ((Kep.refl _).alloc _)
        have Bx : Hid (W8.heap[bx]? = some (.cells (insA p.1 p.2.1 p.2.2.1 p.2.2.2) 43 (0, 0))) := by rw [Hid, ← hW8.out]; exact hat _ _ _ qx.out
        have gx : Hid (bx ∉ c :: F ∧ bx ∉ G) := by
          obtain ⟨l1, l2, l3⟩ := C7.out.lt
          have lx := qx.out
          refine ⟨fun h => ?_, fun h => ?_⟩
          · rcases List.mem_cons.1 h with h | h
            · omega
            · have := l2 bx h; omega
          · have := l3 bx h; omega
        clear hW8 qx C7 C6 CD
        have hA : A[k]? = some (A.getD k 0) := by rw [List.getD_eq_getElem?_getD, List.getElem?_eq_getElem (by have := H'.out.al; have := kla.out; omega)]; rfl
        obtain ⟨ba, oa, hx, PC⟩ := lies_nu19 (H'.out.ai.kep KW4.out) hA
        subst hx
        have PC := hidd PC
        have BL : Hid ((itB (runI n I A k)).length ≤ 1000) := by have h1 := itB_le (GD.out k (by omega)); have h2 := runI_len n I A k; rw [Hid]; omega
        have LL : Hid ((runI n I A k).length ≤ 1000) := by have h2 := runI_len n I A k; rw [Hid]; omega
        generalize A.getD k 0 = pc at PC hr
        clear hA
        have q1 : (k : Int) < li := by omega
        refine wp_region_held_drew (S := fun w' => w'.heap[bx]? = some (.cells (insA p.1 p.2.1 p.2.2.1 p.2.2.2) 43 (0, 0)) ∧ Kep w4 w') (by kernel_rfl) (⟨Bx.out, (CX.out.kep (Kep.refl _).drew).kp⟩) (fun hH => ?_)
        refine wpAnyH_take (i := 0) (v := .agg (insA p.1 p.2.1 p.2.2.1 p.2.2.2)) rfl (by kernel_rfl) (by kernel_rfl) (by kernel_rfl) (fun _ _ _ h => h) (yields_row rfl 43 (.tmp 11) (by rfl) bx (by rfl) 43 (insA p.1 p.2.1 p.2.2.1 p.2.2.2) (0, 0) _ (fun w h => h.1) Tryd.underlying43 rfl sizeIns) hH ?_
        (try simp only [jA, jB, jC, Act.put, jD, jE, jF])
        refine wpAnyH_take (i := 1) (v := .pointer (some ⟨bb, 1, none⟩)) rfl (by kernel_rfl) (by kernel_rfl) (by kernel_rfl) (fun _ _ _ h => h) (.inl ⟨by rfl, by intro w hS; go_simp⟩) hH ?_
        (try simp only [jA, jB, jC, Act.put, jD, jE, jF])
        refine wpAnyH_take (i := 2) (v := .slice (some ⟨ba, oa, none⟩) li ca) rfl (by kernel_rfl) (by kernel_rfl) (by kernel_rfl) (fun _ _ _ h => h) (.inl ⟨by rfl, by intro w hS; have c : w.cell? ⟨bb, 1, none⟩ = some (.slice (some ⟨ba, oa, none⟩) li ca) := cell_of_block (hS.2.block B4.out); clear hS; go_simp⟩) hH ?_
        (try simp only [jA, jB, jC, Act.put, jD, jE, jF])
        refine wpAnyH_take (i := 3) (v := .int .i64 k) rfl (by kernel_rfl) (by kernel_rfl) (by kernel_rfl) (fun _ _ _ h => h) (.inl ⟨by rfl, by intro w hS; go_simp⟩) hH ?_
        (try simp only [jA, jB, jC, Act.put, jD, jE, jF])
        refine wpAnyH_take (i := 4) (v := .pointer (some ⟨ba, oa + k, none⟩)) rfl (by kernel_rfl) (by kernel_rfl) (by kernel_rfl) (fun _ _ _ h => h) (.inl ⟨by rfl, by intro w hS; have hk1 := kla.out; clear hS; go_simp⟩) hH ?_
        (try simp only [jA, jB, jC, Act.put, jD, jE, jF])
        refine wpAnyH_take (i := 5) (v := .int .u32 pc) rfl (by kernel_rfl) (by kernel_rfl) (by kernel_rfl) (fun _ _ _ h => h) (.inl ⟨by rfl, by intro w hS; have c : w.cell? ⟨ba, oa + k, none⟩ = some (.int .u32 pc) := (hS.2.cell (World.block_lt_of_cell? w4 _ PC.out)).trans PC.out; clear hS; go_simp⟩) hH ?_
        (try simp only [jA, jB, jC, Act.put, jD, jE, jF])
        refine wpAnyH_take (i := 6) (v := .int .i64 k) rfl (by kernel_rfl) (by kernel_rfl) (by kernel_rfl) (fun _ _ _ h => h) (.inl ⟨by rfl, by intro w hS; go_simp⟩) hH ?_
        (try simp only [jA, jB, jC, Act.put, jD, jE, jF])
        refine wpAnyH_take (i := 7) (v := .agg #[.int .i64 0, .int .u32 pc, .int .i64 k, .int .i64 (-1)]) rfl (by kernel_rfl) (by kernel_rfl) (by kernel_rfl) (fun _ _ _ h => h) (.inl ⟨by rfl, by intro w hS; go_simp⟩) hH ?_
        (try simp only [jA, jB, jC, Act.put, jD, jE, jF])
        refine wpAnyH_ready (rs := [8]) (by kernel_rfl) (by simp) ?_
        refine AllReadyH.cons rfl (fun K hK => ?_) AllReadyH.nil
        rw [if_pos (by rfl)]
        go_simp
        have CD := CX.out.kep (Kep.refl _).drew
        refine (ltlay_any CD p PO.out.1 PO.out.2 0 pc k (-1) BL.out LL.out (T4.out.grown CD.kp) bx _ 43 hH.1 gx.out).mono ?_
        rintro x w6 ⟨rfl, v1', v2', F', G', cd, bx6⟩
        have cd' := hidd cd
        refine hK.out _ _ ⟨bx6, cd.kp⟩ (fun hH => ?_)
        clear hK K
        (try simp only [jA, jB, jC, Act.put, jD, jE, jF])
        refine wpAnyH_done (by kernel_rfl) ?_ _
        go_wp2_with fail
        go_roundw
        case rel => exact ⟨k + 1, by omega, by go_num, v1', v2', F', G', by rw [hr.out]; exact cd'⟩
        case measure => simp [intOf]; omega
    · obtain rfl : k = li := by omega
      have BL : Hid ((itB (runI n I A k)).length ≤ 192) := by have h1 := itB_le (GD.out k (by omega)); have h2 := runI_len n I A k; rw [Hid]; omega
      have LL : Hid ((runI n I A k).length ≤ 32) := by have h2 := runI_len n I A k; rw [Hid]; omega
      have c0 : wr.cell? ⟨c, 0, none⟩ = some v1 := cell_of_block CD.out.box
      have c1 : wr.cell? ⟨c, 1, none⟩ = some v2 := cell_of_block CD.out.box
      clear c0 c1
      go_upto_region 16 with fail
      obtain ⟨bl, ql⟩ : ∃ i, Hid (i = wr.heap.size) := ⟨_, rfl⟩
      rw [← ql.out]
      obtain ⟨W6, hW6⟩ : ∃ V, Hid (wr.alloc (.cells #[.slice (some ⟨b, 0, none⟩) P.length P.length] 68) = V) := ⟨_, rfl⟩
      rw [hW6.out]
      have C6 : Hid (CdW w4 W6 c v1 v2 (runI n I A k) F G) := by rw [Hid, ← hW6.out]; exact CD.out.kep ((Kep.refl _).alloc _)
      have d0 : W6.cell? ⟨bl, 0, none⟩ = some (.slice (some ⟨b, 0, none⟩) P.length P.length) := by rw [← hW6.out]; exact cell_of_block (hat _ _ _ ql.out)
      clear hW6 ql CD
      have pl1 : (P.length : Int) ≤ 2 := by omega
      go_wp2_with fail
      clear d0
      go_loopw [71] (fun i wr => ∃ j : Nat, (j : Int) ≤ P.length ∧ i = .int .i64 j ∧ ∃ v1 v2 F G, Hid (CdW w4 wr c v1 v2 (runI n I A k ++ outsI P k first j) F G)) (fun i _ => P.length - (intOf i).toNat)
      case atStart => exact ⟨0, by omega, rfl, _, _, _, _, by simpa [outsI] using C6⟩
      case round =>
        obtain ⟨j, hj, rfl, v1, v2, F, G, CD⟩ := hrel
        by_cases hlt : j < P.length
        · obtain ⟨pc, hpc⟩ : ∃ z, P[j]? = some z := ⟨_, List.getElem?_eq_getElem hlt⟩
          have e0 := (PL4.out.kep CD.out.kp) j pc hpc
          have hg : Hid (P.getD j 0 = pc) := by rw [Hid, List.getD_eq_getElem?_getD, hpc]; rfl
          have q1 : (j : Int) ≤ 1 := by omega
          clear hpc
          have OB := outsI_B (runI n I A k) P (dn := k) (first := first) ⟨by omega, by omega⟩ ⟨f0', f1'⟩ j (by omega)
          have OL := outsI_len P k first j
          have LE : Hid (Calls Tryd.prog 25 #[.pointer (some ⟨c, 0, none⟩), .int .u32 pc, .int .i64 k, .int .i64 (first + j)] wr fun e W' => e = .returned (.tuple #[]) ∧ ∃ v1' v2' F' G', CdW w4 W' c v1' v2' ((runI n I A k ++ outsI P k first j) ++ outI pc k (first + j)) F' G') :=
            ltleave_any CD.out pc k (first + j) ⟨by omega, by omega⟩ ⟨by omega, by omega⟩ (by rw [OB]; have := BL.out; omega) (by rw [List.length_append, OL]; have := LL.out; omega) T4.out
          clear OB OL
          go_wp2_with fail
          refine LE.out.mono ?_
          rintro r w7 ⟨rfl, v1', v2', F', G', cd⟩
          have cd := hidd cd
          clear e0 LE
          go_wp2_with fail
          go_roundw
          case rel => exact ⟨j + 1, by omega, by go_num, v1', v2', F', G', by show Hid (CdW w4 _ c v1' v2' (runI n I A k ++ (outsI P k first j ++ outI (P.getD j 0) k (first + j))) F' G'); rw [hg.out, ← List.append_assoc]; exact cd⟩
          case measure => simp [intOf]; omega
        · obtain rfl : j = P.length := by omega
          obtain ⟨Q, hQ⟩ : ∃ Q, Hid (runI n I A k ++ outsI P k first P.length = Q) := ⟨_, rfl⟩
          rw [hQ.out] at CD
          obtain ⟨x1, y1, hv1, _⟩ := CD.out.sb.lies
          obtain ⟨x2, y2, hv2, _⟩ := CD.out.sr.lies
          subst hv1 hv2
          have c0 : wr.cell? ⟨c, 0, none⟩ = some _ := cell_of_block CD.out.box
          have c1 : wr.cell? ⟨c, 1, none⟩ = some _ := cell_of_block CD.out.box
          have r0 := hidd (CD.out.kp.block R4.out)
          go_wp2_with (refine wpList_store_row (by rfl) 33 _ _ (by rfl) rc #[.slice x1 (itB Q).length y1, .slice x2 Q.length y2] (by rfl) (by rfl) 33 #[nilS, nilS] r0.out (by exact size_code) (by rfl) (by simp [Value.oneCell']) ?_)
          refine bodyPost_ret (resultsC1 rfl _ _ rc 33 #[.slice x1 (itB Q).length y1, .slice x2 Q.length y2] (0, 0) _ rfl ?_ Tryd.underlying33 rfl size_code) rfl ⟨_, _, F, G, rfl, ?_, ?_, ?_⟩
          · exact setRow_heap _ _ _ _ _ _ r0.out
          · rw [hQ.out]; exact CD.out.sb.rowoff r0.out (by decide) _
          · rw [hQ.out]; exact CD.out.sr.rowoff r0.out (by decide) _
          · exact (kep_trans KW4.out CD.out.kp).setRow _ _ lr.out
set_option maxHeartbeats 8000000 in
set_option maxRecDepth 100000 in
theorem lttr_asked {w : World} {xi : Option Addr} {li ci : Nat} {I : List In4} {xa : Option Addr} {la ca : Nat} {A : List Int} {n t : Int} {xf : Option Addr} {lf cf : Nat} {xt : Option Addr} {lt ct : Nat} (H : BlkIn w xi li ci I xa la ca A n t 4) (first : Int) (hm : mayL I la 4 = true) (hf : 0 ≤ first ∧ first ≤ 65534)  (hT : Tabs w) :
    Calls Tryd.prog 11 #[.agg (blkX xi li ci xa la ca n t 4 xf lf cf xt lt ct), .int .i64 first] w fun r w' => ∃ v1 v2 F G, r = .returned (.tuple #[.agg #[v1, v2], .int .i64 0]) ∧
      Sli w' 5 1 v1 (itB (runI n I A (la - 1) ++ outI (A.getD (la - 1) 0) ((la : Int) - 1) first)).length (bs (itB (runI n I A (la - 1) ++ outI (A.getD (la - 1) 0) ((la : Int) - 1) first))) F ∧ Sli w' 41 4 v2 (runI n I A (la - 1) ++ outI (A.getD (la - 1) 0) ((la : Int) - 1) first).length (rws (itR (runI n I A (la - 1) ++ outI (A.getD (la - 1) 0) ((la : Int) - 1) first))) G ∧ Kep w w' := by
  obtain ⟨m1, m2, m3⟩ := may_fit hm
  have m4 := H.il
  obtain rfl : li = la := by omega
  have MY : Hid (∀ w', Kep w w' → Calls Tryd.prog 8 #[.agg (blkX xi li ci xa li ca n t 4 xf lf cf xt lt ct)] w' fun r w'' => r = .returned (.bool true) ∧ Kep w' w'') := fun w' k => by have m := ltmay_any (xf := xf) (lf := lf) (cf := cf) (xt := xt) (lt := lt) (ct := ct) (H.kep k) (hT.grown k); rw [hm] at m; exact m
  have EO : Hid (∀ w', Kep w w' → Calls Tryd.prog 22 #[.agg (blkX xi li ci xa li ca n t 4 xf lf cf xt lt ct)] w' fun r w'' => r = .returned (askedV (A.getD (li - 1) 0)) ∧ Kep w' w'') := fun w' k => ltendof_asked (H.kep k) (by omega)
  generalize A.getD (li - 1) 0 = ap at EO ⊢
  obtain ⟨d, hd⟩ : ∃ d, Hid (li - 1 = d) := ⟨_, rfl⟩
  rw [hd.out]
  have hd1 : Hid ((li : Int) - 1 = (d : Int)) := by have := hd.out; rw [Hid]; omega
  rw [hd1.out]
  have hd2 : (d : Int) + 1 = li := by have := hd.out; omega
  have dn : Hid (dnI I 4 = d) := by rw [Hid]; unfold dnI; rw [if_pos rfl, m4]; exact hd.out
  have GD : Hid (∀ k, k ≤ d → ∀ x ∈ runI n I A k, GdI x.1) := fun k hk => runI_good H.hn hm H.io (by rw [dn.out]; exact hk)
  have MI : Hid (∀ k i, I[k]? = some i → k < d → bok i = true ∧ (bnd i.1 = false ∨ (64 ≤ i.1 ∧ i.1 ≤ 72))) := fun k i hi hk => may_ins hm hi (by rw [dn.out]; exact hk)
  have H' := hidd H
  have hT' := hidd hT
  have f0 : ¬ first < 0 := by omega
  have f1 : ¬ 65534 < first := by omega
  have f0' : 0 ≤ first := hf.1
  have f1' : first ≤ 65534 := hf.2
  have g1 : (li : Int) ≤ 32 := by omega
  have g2 : (1 : Int) ≤ li := by omega
  have g3 : (li : Int) ≤ ci := by have := H.ic; omega
  have g4 : (ci : Int) ≤ 9223372036854775807 := H.im
  have g5 : (li : Int) ≤ ca := by have := H.ac; omega
  have g6 : (ca : Int) ≤ 9223372036854775807 := H.am
  have IL : Hid (I.length = li) := m4
  have hn := hidd H.hn
  clear H hT hm hf m1 m2 m3 m4
  go_enter Tryd.func11, Tryd.ntmps11
  go_upto_region 1 with fail
  obtain ⟨bb, qb⟩ : ∃ i, Hid (i = w.heap.size) := ⟨_, rfl⟩
  obtain ⟨rc, qr⟩ : ∃ i, Hid (i = w.heap.size + 1) := ⟨_, rfl⟩
  rw [← qr.out, ← qb.out]
  obtain ⟨W, hW⟩ : ∃ V, Hid ((w.alloc (.cells (blkX xi li ci xa li ca n t 4 xf lf cf xt lt ct) 27)).alloc (.cells #[nilS, nilS] 33) = V) := ⟨_, rfl⟩
  rw [hW.out]
  have K1 : Hid (Kep w W) := by rw [Hid, ← hW.out]; exact ((Kep.refl _).alloc _).alloc _
  have Bb : Hid (W.heap[bb]? = some (.cells (blkX xi li ci xa li ca n t 4 xf lf cf xt lt ct) 27 (0, 0))) := by rw [Hid, ← hW.out, qb.out]; exact ((Kep.refl _).alloc _).block (hat _ _ _ rfl)
  have Br : Hid (W.heap[rc]? = some (.cells #[nilS, nilS] 33 (0, 0))) := by rw [Hid, ← hW.out, qr.out]; exact hat _ _ _ (by simp)
  have lr : Hid (w.heap.size ≤ rc) := by rw [Hid, qr.out]; omega
  clear hW qb qr
  obtain ⟨c0, c1, c2, c3, c4, c5, c6⟩ := blk_cells Bb.out
  go_wp2_with fail
  refine (MY.out W K1.out).mono ?_
  rintro r w2 ⟨rfl, k2⟩
  have K2 := hidd k2
  clear k2 c0 c1 c2 c3 c4 c5 c6 MY
  obtain ⟨c0, c1, c2, c3, c4, c5, c6⟩ := blk_cells (K2.out.block Bb.out)
  go_wp2_with fail
  refine (EO.out w2 (kep_trans K1.out K2.out)).mono ?_
  rintro r w3 ⟨rfl, k3⟩
  have mt := lt_methasked ap
  have ta := lt_isntled ap
  have tb := lt_isasked ap
  have K3 := hidd (kep_trans K2.out k3)
  clear k3 c0 c1 c2 c3 c4 c5 c6 EO
  obtain ⟨c0, c1, c2, c3, c4, c5, c6⟩ := blk_cells (K3.out.block Bb.out)
  go_wp2_with fail
  refine (ltby_asked _ _ (by omega) (by omega) _).mono ?_
  rintro r w4 ⟨rfl, k4⟩
  have K4 := hidd (kep_trans K3.out k4)
  have KW4 := hidd (kep_trans K1.out K4.out)
  have T4 := hidd (hT'.out.grown KW4.out)
  have B4 := hidd (K4.out.block Bb.out)
  have R4 := hidd (K4.out.block Br.out)
  clear k4 c0 c1 c2 c3 c4 c5 c6 mt
  go_upto_region 6 with fail
  obtain ⟨c, qc⟩ : ∃ i, Hid (i = w4.heap.size) := ⟨_, rfl⟩
  rw [← qc.out]
  obtain ⟨W5, hW5⟩ : ∃ V, Hid (w4.alloc (.cells #[nilS, nilS] 63) = V) := ⟨_, rfl⟩
  rw [hW5.out]
  have C5 : Hid (CdW w4 W5 c nilS nilS [] [] []) := by
    rw [Hid, ← hW5.out]
    exact ⟨hat _ _ _ qc.out, Sli.nil _ _ _, Sli.nil _ _ _, ⟨by rw [qc.out]; omega, by simp, by simp⟩, (Kep.refl _).alloc _⟩
  have c0 : W5.cell? ⟨bb, 0, none⟩ = some (.slice xi li ci) := cell_of_block (C5.out.kp.block B4.out)
  clear hW5 qc
  rw [hd1.out]
  go_wp2_with fail
  clear c0
  go_loopw [41] (fun i wr => ∃ k : Nat, (k : Int) ≤ d ∧ i = .int .i64 k ∧ ∃ v1 v2 F G, Hid (CdW w4 wr c v1 v2 (runI n I A k) F G)) (fun i _ => d - (intOf i).toNat)
  case atStart => exact ⟨0, by omega, rfl, _, _, _, _, C5⟩
  case round =>
    obtain ⟨k, hk, rfl, v1, v2, F, G, CD⟩ := hrel
    by_cases hlt : k < d
    · obtain ⟨i, hi⟩ : ∃ z, I[k]? = some z := ⟨_, List.getElem?_eq_getElem (by have := IL.out; omega)⟩
      have hi' := hidd hi
      obtain ⟨bi, off, hxi, RA⟩ := lies_in19 ((H'.out.ii.kep KW4.out).kep CD.out.kp) hi
      subst hxi
      have io := hidd (H'.out.io _ (List.mem_of_getElem? hi))
      have hg : Hid (I.getD k In4.z = i) := by rw [Hid, List.getD_eq_getElem?_getD, hi]; rfl
      have mi := hidd (MI.out k i hi hlt)
      have kla : Hid (k < li) := by rw [Hid]; omega
      have e0 : wr.cell? ⟨bi, off + k * 4, none⟩ = some (.int .u8 i.1) := RA 0 _ rfl
      have e1 : wr.cell? ⟨bi, off + k * 4 + 1, none⟩ = some (.int .u8 i.2.1) := RA 1 _ rfl
      have e2 : wr.cell? ⟨bi, off + k * 4 + 2, none⟩ = some (.int .u8 i.2.2.1) := RA 2 _ rfl
      have e3 : wr.cell? ⟨bi, off + k * 4 + 3, none⟩ = some (.int .i32 i.2.2.2) := RA 3 _ rfl
      clear RA hi
      go_upto_region 9 with fail
      obtain ⟨bl, ql⟩ : ∃ i, Hid (i = wr.heap.size) := ⟨_, rfl⟩
      rw [← ql.out]
      obtain ⟨W6, hW6⟩ : ∃ V, Hid (wr.alloc (.cells (insA i.1 i.2.1 i.2.2.1 i.2.2.2) 43) = V) := ⟨_, rfl⟩
      rw [hW6.out]
      have C6 : Hid (CdW w4 W6 c v1 v2 (runI n I A k) F G) := by rw [Hid, ← hW6.out]; exact CD.out.kep ((Kep.refl _).alloc _)
      have Bl : Hid (W6.heap[bl]? = some (.cells (insA i.1 i.2.1 i.2.2.1 i.2.2.2) 43 (0, 0))) := by rw [Hid, ← hW6.out]; exact hat _ _ _ ql.out
      clear hW6 ql e0 e1 e2 e3
      have e0 : W6.cell? ⟨bl, 0, none⟩ = some (.int .u8 i.1) := cell_of_block Bl.out
      have e1 : W6.cell? ⟨bl, 1, none⟩ = some (.int .u8 i.2.1) := cell_of_block Bl.out
      have e2 : W6.cell? ⟨bl, 2, none⟩ = some (.int .u8 i.2.2.1) := cell_of_block Bl.out
      have e3 : W6.cell? ⟨bl, 3, none⟩ = some (.int .i32 i.2.2.2) := cell_of_block Bl.out
      have c2 : W6.cell? ⟨bb, 2, none⟩ = some (.int .u32 n) := cell_of_block (C6.out.kp.block B4.out)
      have PC := hidd (ltplace_any i n hn.out.1 hn.out.2)
      cases hl : lay4 n i with
      | none =>
        have hp : lpV n i = .tuple #[.agg (insA 0 0 0 0), .bool false] := by unfold lpV; rw [hl]
        have hr : Hid (runI n I A (k + 1) = runI n I A k) := by rw [Hid]; show runI n I A k ++ layI n A k (I.getD k In4.z) = _; rw [hg.out]; unfold layI; rw [hl]; simp
        rw [hp] at PC
        clear hp hl
        go_wp2_with fail
        refine (PC.out W6).mono ?_
        rintro r w7 ⟨rfl, k7⟩
        have C7 := hidd (C6.out.kep k7)
        clear k7 e0 e1 e2 e3 c2
        go_wp2_with fail
        go_roundw
        case rel => exact ⟨k + 1, by omega, by go_num, v1, v2, F, G, by rw [hr.out]; exact hidd (C7.out.kep ((Kep.refl _).alloc _))⟩
        case measure => simp [intOf]; omega
      | some p =>
        have hp : lpV n i = .tuple #[.agg (insA p.1 p.2.1 p.2.2.1 p.2.2.2), .bool true] := by unfold lpV; rw [hl]
        have hr : Hid (runI n I A (k + 1) = runI n I A k ++ [(p, A.getD k 0, (k : Int), -1)]) := by rw [Hid]; show runI n I A k ++ layI n A k (I.getD k In4.z) = _; rw [hg.out]; unfold layI; rw [hl]
        have PO : Hid (In4.Ok p ∧ bok p = true) := by have g := lay4_good hn.out io.out mi.out.1 mi.out.2 hl; exact ⟨g.1.1, g.2.1⟩
        rw [hp] at PC
        clear hp hl
        go_wp2_with fail
        refine (PC.out W6).mono ?_
        rintro r w7 ⟨rfl, k7⟩
        have C7 := hidd (C6.out.kep k7)
        clear k7 e0 e1 e2 e3 c2 PC
        go_upto_region 11 with fail
        obtain ⟨bx, qx⟩ : ∃ i, Hid (i = w7.heap.size) := ⟨_, rfl⟩
        rw [← qx.out]
        obtain ⟨W8, hW8⟩ : ∃ V, Hid (w7.alloc (.cells (insA p.1 p.2.1 p.2.2.1 p.2.2.2) 43) = V) := ⟨_, rfl⟩
        rw [hW8.out]
        have CX : Hid (CdW w4 W8 c v1 v2 (runI n I A k) F G) := by rw [Hid, ← hW8.out]; exact C7.out.kep ((Kep.refl _).alloc _)
        have Bx : Hid (W8.heap[bx]? = some (.cells (insA p.1 p.2.1 p.2.2.1 p.2.2.2) 43 (0, 0))) := by rw [Hid, ← hW8.out]; exact hat _ _ _ qx.out
        have gx : Hid (bx ∉ c :: F ∧ bx ∉ G) := by
          obtain ⟨l1, l2, l3⟩ := C7.out.lt
          have lx := qx.out
          refine ⟨fun h => ?_, fun h => ?_⟩
          · rcases List.mem_cons.1 h with h | h
            · omega
            · have := l2 bx h; omega
          · have := l3 bx h; omega
        clear hW8 qx C7 C6 CD
        have hA : A[k]? = some (A.getD k 0) := by rw [List.getD_eq_getElem?_getD, List.getElem?_eq_getElem (by have := H'.out.al; have := kla.out; omega)]; rfl
        obtain ⟨ba, oa, hx, PC⟩ := lies_nu19 (H'.out.ai.kep KW4.out) hA
        subst hx
        have PC := hidd PC
        have BL : Hid ((itB (runI n I A k)).length ≤ 1000) := by have h1 := itB_le (GD.out k (by omega)); have h2 := runI_len n I A k; rw [Hid]; omega
        have LL : Hid ((runI n I A k).length ≤ 1000) := by have h2 := runI_len n I A k; rw [Hid]; omega
        generalize A.getD k 0 = pc at PC hr
        clear hA
        have q1 : (k : Int) < li := by omega
        refine wp_region_held_drew (S := fun w' => w'.heap[bx]? = some (.cells (insA p.1 p.2.1 p.2.2.1 p.2.2.2) 43 (0, 0)) ∧ Kep w4 w') (by kernel_rfl) (⟨Bx.out, (CX.out.kep (Kep.refl _).drew).kp⟩) (fun hH => ?_)
        refine wpAnyH_take (i := 0) (v := .agg (insA p.1 p.2.1 p.2.2.1 p.2.2.2)) rfl (by kernel_rfl) (by kernel_rfl) (by kernel_rfl) (fun _ _ _ h => h) (yields_row rfl 43 (.tmp 11) (by rfl) bx (by rfl) 43 (insA p.1 p.2.1 p.2.2.1 p.2.2.2) (0, 0) _ (fun w h => h.1) Tryd.underlying43 rfl sizeIns) hH ?_
        (try simp only [jA, jB, jC, Act.put, jD, jE, jF])
        refine wpAnyH_take (i := 1) (v := .pointer (some ⟨bb, 1, none⟩)) rfl (by kernel_rfl) (by kernel_rfl) (by kernel_rfl) (fun _ _ _ h => h) (.inl ⟨by rfl, by intro w hS; go_simp⟩) hH ?_
        (try simp only [jA, jB, jC, Act.put, jD, jE, jF])
        refine wpAnyH_take (i := 2) (v := .slice (some ⟨ba, oa, none⟩) li ca) rfl (by kernel_rfl) (by kernel_rfl) (by kernel_rfl) (fun _ _ _ h => h) (.inl ⟨by rfl, by intro w hS; have c : w.cell? ⟨bb, 1, none⟩ = some (.slice (some ⟨ba, oa, none⟩) li ca) := cell_of_block (hS.2.block B4.out); clear hS; go_simp⟩) hH ?_
        (try simp only [jA, jB, jC, Act.put, jD, jE, jF])
        refine wpAnyH_take (i := 3) (v := .int .i64 k) rfl (by kernel_rfl) (by kernel_rfl) (by kernel_rfl) (fun _ _ _ h => h) (.inl ⟨by rfl, by intro w hS; go_simp⟩) hH ?_
        (try simp only [jA, jB, jC, Act.put, jD, jE, jF])
        refine wpAnyH_take (i := 4) (v := .pointer (some ⟨ba, oa + k, none⟩)) rfl (by kernel_rfl) (by kernel_rfl) (by kernel_rfl) (fun _ _ _ h => h) (.inl ⟨by rfl, by intro w hS; have hk1 := kla.out; clear hS; go_simp⟩) hH ?_
        (try simp only [jA, jB, jC, Act.put, jD, jE, jF])
        refine wpAnyH_take (i := 5) (v := .int .u32 pc) rfl (by kernel_rfl) (by kernel_rfl) (by kernel_rfl) (fun _ _ _ h => h) (.inl ⟨by rfl, by intro w hS; have c : w.cell? ⟨ba, oa + k, none⟩ = some (.int .u32 pc) := (hS.2.cell (World.block_lt_of_cell? w4 _ PC.out)).trans PC.out; clear hS; go_simp⟩) hH ?_
        (try simp only [jA, jB, jC, Act.put, jD, jE, jF])
        refine wpAnyH_take (i := 6) (v := .int .i64 k) rfl (by kernel_rfl) (by kernel_rfl) (by kernel_rfl) (fun _ _ _ h => h) (.inl ⟨by rfl, by intro w hS; go_simp⟩) hH ?_
        (try simp only [jA, jB, jC, Act.put, jD, jE, jF])
        refine wpAnyH_take (i := 7) (v := .agg #[.int .i64 0, .int .u32 pc, .int .i64 k, .int .i64 (-1)]) rfl (by kernel_rfl) (by kernel_rfl) (by kernel_rfl) (fun _ _ _ h => h) (.inl ⟨by rfl, by intro w hS; go_simp⟩) hH ?_
        (try simp only [jA, jB, jC, Act.put, jD, jE, jF])
        refine wpAnyH_ready (rs := [8]) (by kernel_rfl) (by simp) ?_
        refine AllReadyH.cons rfl (fun K hK => ?_) AllReadyH.nil
        rw [if_pos (by rfl)]
        go_simp
        have CD := CX.out.kep (Kep.refl _).drew
        refine (ltlay_any CD p PO.out.1 PO.out.2 0 pc k (-1) BL.out LL.out (T4.out.grown CD.kp) bx _ 43 hH.1 gx.out).mono ?_
        rintro x w6 ⟨rfl, v1', v2', F', G', cd, bx6⟩
        have cd' := hidd cd
        refine hK.out _ _ ⟨bx6, cd.kp⟩ (fun hH => ?_)
        clear hK K
        (try simp only [jA, jB, jC, Act.put, jD, jE, jF])
        refine wpAnyH_done (by kernel_rfl) ?_ _
        go_wp2_with fail
        go_roundw
        case rel => exact ⟨k + 1, by omega, by go_num, v1', v2', F', G', by rw [hr.out]; exact cd'⟩
        case measure => simp [intOf]; omega
    · obtain rfl : k = d := by omega
      have BL : Hid ((itB (runI n I A k)).length ≤ 192) := by have h1 := itB_le (GD.out k (by omega)); have h2 := runI_len n I A k; rw [Hid]; omega
      have LL : Hid ((runI n I A k).length ≤ 32) := by have h2 := runI_len n I A k; rw [Hid]; omega
      have c0 : wr.cell? ⟨c, 0, none⟩ = some v1 := cell_of_block CD.out.box
      have c1 : wr.cell? ⟨c, 1, none⟩ = some v2 := cell_of_block CD.out.box
      clear c0 c1
      have LE : Hid (∀ w', Kep wr w' → Calls Tryd.prog 25 #[.pointer (some ⟨c, 0, none⟩), .int .u32 ap, .int .i64 k, .int .i64 first] w' fun e W' => e = .returned (.tuple #[]) ∧ ∃ v1' v2' F' G', CdW w4 W' c v1' v2' (runI n I A k ++ outI ap k first) F' G') := fun w' kk =>
        ltleave_any (CD.out.kep kk) ap k first ⟨by omega, by omega⟩ ⟨by omega, by omega⟩ (by have := BL.out; omega) (by have := LL.out; omega) T4.out
      go_wp2_with fail
      refine (LE.out _ kepA).mono ?_
      rintro r w7 ⟨rfl, v1', v2', F', G', cd⟩
      have cd := hidd cd
      clear LE
      obtain ⟨Q, hQ⟩ : ∃ Q, Hid (runI n I A k ++ outI ap k first = Q) := ⟨_, rfl⟩
      rw [hQ.out] at cd
      obtain ⟨x1, y1, hv1, _⟩ := cd.out.sb.lies
      obtain ⟨x2, y2, hv2, _⟩ := cd.out.sr.lies
      subst hv1 hv2
      have c0 : w7.cell? ⟨c, 0, none⟩ = some _ := cell_of_block cd.out.box
      have c1 : w7.cell? ⟨c, 1, none⟩ = some _ := cell_of_block cd.out.box
      have r0 := hidd (cd.out.kp.block R4.out)
      go_wp2_with (refine wpList_store_row (by rfl) 33 _ _ (by rfl) rc #[.slice x1 (itB Q).length y1, .slice x2 Q.length y2] (by rfl) (by rfl) 33 #[nilS, nilS] r0.out (by exact size_code) (by rfl) (by simp [Value.oneCell']) ?_)
      refine bodyPost_ret (resultsC1 rfl _ _ rc 33 #[.slice x1 (itB Q).length y1, .slice x2 Q.length y2] (0, 0) _ rfl ?_ Tryd.underlying33 rfl size_code) rfl ⟨_, _, F', G', rfl, ?_, ?_, ?_⟩
      · exact setRow_heap _ _ _ _ _ _ r0.out
      · rw [hQ.out]; exact cd.out.sb.rowoff r0.out (by decide) _
      · rw [hQ.out]; exact cd.out.sr.rowoff r0.out (by decide) _
      · exact (kep_trans KW4.out cd.out.kp).setRow _ _ lr.out
end Go.Proofs.YtpalbpjmjbcelaaDoor
