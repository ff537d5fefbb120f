/- Part of a proof. -/
import Derived.LoopTactic
import Derived.Deep.Slices
import Derived.Lib.SmallJoins
import Derived.OpenShut
import Derived.ChangeKeysEq
import Derived.Test.YtnignfloedcmlaaGreatDoorJ46
namespace Go.Proofs.YtnignfloedcmlaaGreatDoor
open Go.RowKit
set_option linter.unusedVariables false
set_option linter.unusedSimpArgs false
theorem z7 : (0 : Int) ≤ 0 ∧ (0 : Int) ≤ 7 := by decide
end Go.Proofs.YtnignfloedcmlaaGreatDoor
namespace Go.Proofs.YtnignfloedcmlaaGreatDoor
open Go.RowKit Go.WideShapes Go.ChangeShapes Go.ChangeAt
set_option linter.unusedVariables false
end Go.Proofs.YtnignfloedcmlaaGreatDoor
namespace Go.Proofs.YtnignfloedcmlaaGreatDoor
open Go.RowKit Go.WideShapes Go.ChangeShapes Go.ChangeAt
set_option linter.unusedVariables false
structure EvRow (w : World) (x : Option Addr) (len cap : Nat) (E : List Ev) : Prop where
  hl : E.length = len
  hle : len ≤ cap
  hmax : (cap : Int) ≤ 9223372036854775807
  lies : Lies w x (evs E)
  byte : ∀ e ∈ E, 0 ≤ e.2.2 ∧ e.2.2 < 256
end Go.Proofs.YtnignfloedcmlaaGreatDoor
namespace Go.Proofs.YtnignfloedcmlaaGreatDoor
open Go.RowKit
set_option linter.unusedVariables false
set_option linter.unusedSimpArgs false
theorem any_take {α : Type} (f : α → Bool) (E : List α) (k : Nat) (h : (E.take k).any f = true) : E.any f = true := by
  rw [List.any_eq_true] at h ⊢
  obtain ⟨y, hy, h2⟩ := h
  exact ⟨y, List.mem_of_mem_take hy, h2⟩
set_option maxHeartbeats 2000000 in
theorem error_any (w : World) (x : Option Addr) (n cap : Nat) (E : List Ev) (hE : EvRow w x n cap E) (y : Option Addr) (m c : Nat) (Z : List Int) (hz : Z.length = m) (hmc : m ≤ c) (hmax : (c : Int) ≤ 9223372036854775807) :
    Calls Tryz.prog 13 #[.slice x n cap, .slice y m c] w fun e w' => e = .returned (.int .i64 (errI E Z)) ∧ Kep w w' := by
  have hl := hE.hl
  have hnc := hE.hle
  have hcm := hE.hmax
  by_cases h1 : 64 < n
  · have t1 : decide ((64 : Int) < n) = true := decide_eq_true (by omega)
    have ev : Hid (errI E Z = 3) := by unfold Hid errI; rw [if_pos (by omega)]
    rw [ev.out]
    clear hE
    go_enter Tryz.func13, Tryz.ntmps13
    go_wp2_with fail
    go_ret
    exact ⟨rfl, Kep.refl _⟩
  have t1 : decide ((64 : Int) < n) = false := decide_eq_false (by omega)
  by_cases h2 : 2048 < m
  · have t2 : decide ((2048 : Int) < m) = true := decide_eq_true (by omega)
    have ev : Hid (errI E Z = 3) := by unfold Hid errI; rw [if_pos (by omega)]
    rw [ev.out]
    clear hE
    go_enter Tryz.func13, Tryz.ntmps13
    go_wp2_with fail
    go_ret
    exact ⟨rfl, Kep.refl _⟩
  have t2 : decide ((2048 : Int) < m) = false := decide_eq_false (by omega)
  have ev : Hid (errI E Z = if E.any wrongB = true ∨ m % 64 ≠ 0 then 2 else 0) := by unfold Hid errI; rw [if_neg (by omega), hz]
  rw [ev.out]
  obtain ⟨r, hr⟩ : ∃ r : Int, Hid (r = if E.any wrongB = true ∨ m % 64 ≠ 0 then 2 else 0) := ⟨_, rfl⟩
  rw [← hr.out]
  have h' : Hid (EvRow w x n cap E) := hE
  have hl' : Hid (E.length = n) := hl
  have hn64 : (n : Int) ≤ 64 := by omega
  have hn2 : (n : Int) ≤ cap := by omega
  have hm2 : (m : Int) ≤ 2048 := by omega
  clear hE hl hz h1 h2 ev
  go_enter Tryz.func13, Tryz.ntmps13
  go_wp2_with fail
  go_loopw [5, 6] (fun i _ wr => ∃ k : Nat, (k : Int) ≤ n ∧ i = .int .i64 k ∧ Hid (Kep w wr) ∧ Hid ((E.take k).any wrongB = false)) (fun i _ _ => n - (intOf i).toNat)
  case atStart => exact ⟨0, by omega, rfl, Kep.refl _, by simp [Hid]⟩
  case round =>
    obtain ⟨k, hk, rfl, K, hw⟩ := hrel
    by_cases hlt : k < n
    · have hlt' : (k : Int) < n := by omega
      have hln := hl'.out
      obtain ⟨e, he⟩ : ∃ e, E[k]? = some e := ⟨_, List.getElem?_eq_getElem (by omega)⟩
      rcases (h'.out.lies.kep K.out) with h0 | ⟨b, off, rfl, hb, hcell⟩
      · have := evs_len E; rw [h0] at this; simp at this; omega
      obtain ⟨ea, eb, ec⟩ := e
      have c0 : wr.cell? ⟨b, off + k * 3, none⟩ = some (.int .i64 ea) := hcell _ _ (by have := evs_at E k _ he 0 (by omega); simpa [evV] using this)
      have c1 : wr.cell? ⟨b, off + k * 3 + 1, none⟩ = some (.int .i64 eb) := by rw [Nat.add_assoc]; exact hcell _ _ (by have := evs_at E k _ he 1 (by omega); simpa [evV] using this)
      have c2 : wr.cell? ⟨b, off + k * 3 + 2, none⟩ = some (.int .u8 ec) := by rw [Nat.add_assoc]; exact hcell _ _ (by have := evs_at E k _ he 2 (by omega); simpa [evV] using this)
      have hstep : Hid ((E.take (k + 1)).any wrongB = ((E.take k).any wrongB || wrongB (ea, eb, ec))) := by
        rw [Hid, List.take_add_one, he]; simp
      have KA : Hid (Kep w (wr.alloc (.cells #[.int .i64 ea, .int .i64 eb, .int .u8 ec] 74))) := K.out.alloc _
      clear hcell he hln
      rcases (by omega : eb < 0 ∨ (0 ≤ eb ∧ 2 < eb) ∨ (0 ≤ eb ∧ eb ≤ 2 ∧ ea < 0) ∨ (0 ≤ eb ∧ eb ≤ 2 ∧ 0 ≤ ea ∧ 1073741824 < ea) ∨ (0 ≤ eb ∧ eb ≤ 2 ∧ 0 ≤ ea ∧ ea ≤ 1073741824 ∧ eb ≠ 1 ∧ ec ≠ 0) ∨ (0 ≤ eb ∧ eb ≤ 2 ∧ 0 ≤ ea ∧ ea ≤ 1073741824 ∧ eb ≠ 1 ∧ ec = 0) ∨ (0 ≤ eb ∧ eb ≤ 2 ∧ 0 ≤ ea ∧ ea ≤ 1073741824 ∧ eb = 1)) with g1 | ⟨g1, g2⟩ | ⟨g1, g2, g3⟩ | ⟨g1, g2, g3, g4⟩ | ⟨g1, g2, g3, g4, g5, g6⟩ | ⟨g1, g2, g3, g4, g5, g6⟩ | ⟨g1, g2, g3, g4, g5⟩
      · have hwr : Hid (wrongB (ea, eb, ec) = true) := by unfold Hid wrongB; simp; omega
        go_wp2_with fail
        go_ret
        refine ⟨ret_int ?_, KA.out⟩
        rw [hr.out, if_pos (.inl (any_take wrongB E (k + 1) (by rw [hstep.out, hwr.out]; simp)))]
      · have hwr : Hid (wrongB (ea, eb, ec) = true) := by unfold Hid wrongB; simp; omega
        go_wp2_with fail
        go_ret
        refine ⟨ret_int ?_, KA.out⟩
        rw [hr.out, if_pos (.inl (any_take wrongB E (k + 1) (by rw [hstep.out, hwr.out]; simp)))]
      · have hwr : Hid (wrongB (ea, eb, ec) = true) := by unfold Hid wrongB; simp; omega
        go_wp2_with fail
        go_ret
        refine ⟨ret_int ?_, KA.out⟩
        rw [hr.out, if_pos (.inl (any_take wrongB E (k + 1) (by rw [hstep.out, hwr.out]; simp)))]
      · have hwr : Hid (wrongB (ea, eb, ec) = true) := by unfold Hid wrongB; simp; omega
        go_wp2_with fail
        go_ret
        refine ⟨ret_int ?_, KA.out⟩
        rw [hr.out, if_pos (.inl (any_take wrongB E (k + 1) (by rw [hstep.out, hwr.out]; simp)))]
      · have hwr : Hid (wrongB (ea, eb, ec) = true) := by unfold Hid wrongB; simp; omega
        have t5 : (eb != 1) = true := by simp; omega
        have t6 : (ec != 0) = true := by simp; omega
        clear g5 g6
        go_wp2_with fail
        go_ret
        refine ⟨ret_int ?_, KA.out⟩
        rw [hr.out, if_pos (.inl (any_take wrongB E (k + 1) (by rw [hstep.out, hwr.out]; simp)))]
      · have hwr : Hid (wrongB (ea, eb, ec) = false) := by unfold Hid wrongB; simp; omega
        have t5 : (eb != 1) = true := by simp; omega
        have t6 : (ec != 0) = false := by simp; omega
        clear g5 g6
        go_wp2_with fail
        go_roundw
        case rel => exact ⟨k + 1, by omega, by go_num, KA, by rw [Hid, hstep.out, hw.out, hwr.out]; rfl⟩
        case measure => simp [intOf]; omega
      · have hwr : Hid (wrongB (ea, eb, ec) = false) := by unfold Hid wrongB; simp; omega
        have t5 : (eb != 1) = false := by simp; omega
        clear g5
        go_wp2_with fail
        go_roundw
        case rel => exact ⟨k + 1, by omega, by go_num, KA, by rw [Hid, hstep.out, hw.out, hwr.out]; rfl⟩
        case measure => simp [intOf]; omega
    · have hall : Hid (E.any wrongB = false) := by
        have := hw.out
        rw [List.take_of_length_le (by have := hl'.out; omega)] at this
        exact this
      by_cases h6 : m % 64 = 0
      · have t3 : ((m : Int) % 64 != 0) = false := by simp; omega
        go_wp2_with fail
        go_ret
        exact ⟨ret_int (by rw [hr.out, if_neg (by rw [hall.out]; simp [h6])]), K.out⟩
      · have t3 : ((m : Int) % 64 != 0) = true := by simp; omega
        go_wp2_with fail
        go_ret
        exact ⟨ret_int (by rw [hr.out, if_pos (.inr h6)]), K.out⟩
theorem evrow_of {w : World} {x : Option Addr} {n cap : Nat} {E : List Ev} {y : Option Addr} {m c : Nat} {D : List Int} (h : ScrD w x n cap E y m c D) (hev : ∀ e ∈ E, 0 ≤ e.2.2 ∧ e.2.2 < 256) : EvRow w x n cap E := ⟨h.el, h.ec, h.em, h.ei, hev⟩
theorem psB_is (ps : Int) (h : 0 ≤ ps ∧ ps < 4294967296) : ((ps.tdiv 8).tmod 2 == 1 || decide (256 ≤ ps)) = !psB ps := by
  rw [Int.tdiv_eq_ediv_of_nonneg h.1, Int.tmod_eq_emod_of_nonneg (by omega)]
  unfold psB
  rw [Bool.eq_iff_iff]
  simp only [Bool.or_eq_true, beq_iff_eq, decide_eq_true_eq, Bool.not_eq_true', decide_eq_false_iff_not]
  omega
set_option maxHeartbeats 2000000 in
theorem rerr_any {w : World} (n : Int) {xi : Option Addr} {li ci : Nat} (hlc : li ≤ ci) (hmax : (ci : Int) ≤ 9223372036854775807) (s : Sta) (ok : s.Ok) {x : Option Addr} {ne cap : Nat} {E : List Ev} {y : Option Addr} {m c : Nat} {D : List Int} (I : ScrD w x ne cap E y m c D) (hev : ∀ e ∈ E, 0 ≤ e.2.2 ∧ e.2.2 < 256) :
    Calls Tryz.prog 5 #[.int .i64 n, .slice xi li ci, .agg s.v, .slice x ne cap, .slice y m c] w fun e w' => e = .returned (.int .i64 (errM n li s.ps E D)) ∧ Kep w w' := by
  have HE : Hid (∀ w', Kep w w' → Calls Tryz.prog 13 #[.slice x ne cap, .slice y m c] w' fun e w'' => e = .returned (.int .i64 (errI E D)) ∧ Kep w' w'') := fun w' k => by
    have J := I.kep k
    exact error_any w' x ne cap E (evrow_of J hev) y m c D J.zl J.zc J.zm
  have hp := ok.ps
  have A := hidd (show At (w.alloc (.cells s.v 26)) w.heap.size s from hat _ _ _ rfl)
  have K := hidd ((Kep.refl w).alloc (.cells s.v 26))
  have cp := A.out.ps
  have pb := psB_is s.ps hp
  have em : Hid (errM n li s.ps E D = if n < 1 ∨ 64 < n then 2 else if n * 64 < li then 3 else if psB s.ps = false then 2 else errI E D) := rfl
  rw [em.out]
  obtain ⟨V, hV⟩ : ∃ V, Hid (s.v = V) := ⟨_, rfl⟩
  rw [hV.out] at cp K ⊢
  obtain ⟨b, hb⟩ : ∃ b, Hid (psB s.ps = b) := ⟨_, rfl⟩
  rw [hb.out] at pb ⊢
  clear hb em
  generalize s.ps = ps at cp pb hp
  clear A I hV ok
  by_cases h1 : n < 1 ∨ 64 < n
  · rw [if_pos h1]
    have t1 : (decide (n < 1) || decide (64 < n)) = true := by rcases h1 with h | h <;> simp [h]
    clear cp pb
    go_enter Tryz.func5, Tryz.ntmps5
    rcases h1 with h | h
    · have t1 : decide (n < 1) = true := decide_eq_true h
      go_wp2_with fail
      go_ret
      exact ⟨rfl, K.out⟩
    · have t1 : decide (n < 1) = false := decide_eq_false (by omega)
      have t2 : decide (64 < n) = true := decide_eq_true h
      go_wp2_with fail
      go_ret
      exact ⟨rfl, K.out⟩
  rw [if_neg h1]
  have h11 : 1 ≤ n := by omega
  have h12 : n ≤ 64 := by omega
  have t1 : decide (n < 1) = false := decide_eq_false (by omega)
  have t2 : decide (64 < n) = false := decide_eq_false (by omega)
  clear h1
  by_cases h3 : n * 64 < li
  · rw [if_pos h3]
    clear cp pb
    go_enter Tryz.func5, Tryz.ntmps5
    go_wp2_with fail
    go_ret
    exact ⟨rfl, K.out⟩
  rw [if_neg h3]
  cases b with
  | false =>
    rw [if_pos rfl]
    have pb' : ps / 8 % 2 = 1 ∨ 256 ≤ ps := by
      rw [Int.tdiv_eq_ediv_of_nonneg hp.1, Int.tmod_eq_emod_of_nonneg (by omega)] at pb
      simpa using pb
    clear pb
    by_cases h5 : ps / 8 % 2 = 1
    · go_enter Tryz.func5, Tryz.ntmps5
      go_wp2_with fail
      go_ret
      exact ⟨rfl, K.out⟩
    · have h6 : 256 ≤ ps := by omega
      have h7 : ps / 8 % 2 = 0 := by omega
      clear h5 pb'
      go_enter Tryz.func5, Tryz.ntmps5
      go_wp2_with fail
      go_ret
      exact ⟨rfl, K.out⟩
  | true =>
    have h6 : ps < 256 := by simp at pb; omega
    have h7 : ps / 8 % 2 = 0 := by
      rw [Int.tdiv_eq_ediv_of_nonneg hp.1, Int.tmod_eq_emod_of_nonneg (by omega)] at pb
      simp at pb; omega
    clear pb
    have K' := K.out
    rw [if_neg (by simp)]
    go_enter Tryz.func5, Tryz.ntmps5
    go_wp2_with (go_at_call 13; refine (HE.out _ (by assumption)).mono ?_; rintro e w1 ⟨rfl, k1⟩; have K1 := hidd k1; clear k1)
    go_ret
    exact ⟨rfl, kep_trans K.out K1.out⟩
theorem size_rr : (Tryz.prog.info? 50).map (·.size) = some 1 := by kernel_rfl
set_option maxHeartbeats 8000000 in
set_option maxRecDepth 100000 in
theorem rnew12_any {w : World} (n : Nat) (h1 : 1 ≤ n) (h2 : n ≤ 64) {xi : Option Addr} {Z : List Int} {li ci : Nat} (hl : Z.length = li) (hlc : li ≤ ci) (hmax : (ci : Int) ≤ 9223372036854775807) (hli : li ≤ 64 * n) (hi : Lies w xi (byt Z)) (s : Sta) {x : Option Addr} {ne cap : Nat} {E : List Ev} {y : Option Addr} {m c : Nat} {D : List Int} (I : ScrD w x ne cap E y m c D) (hm : m ≤ 2048) (hw : 2 ≤ w.heap.size) :
    Calls Tryz.prog 8 #[.int .i64 n, .slice xi li ci, .agg s.v, .slice x ne cap, .slice y m c] w fun e w' => ∃ q Rb G, e = .returned (mpt q) ∧ RMach w' q Rb (ms0 E D (imgL n Z) s) (.slice x ne cap) E G ∧ Kep w w' ∧ ∀ g ∈ Rb :: G, w.heap.size ≤ g := by
  have h1' : (1 : Int) ≤ n := by omega
  have h2' : (n : Int) ≤ 64 := by omega
  have HR : Hid (∀ w', Calls Tryz.prog 24 #[.int .i64 n] w' fun e w'' => e = .returned (refV (some ⟨w'.heap.size + 1, 0, none⟩) (64 * n)) ∧ Kep w' w'' ∧ w''.heap[w'.heap.size + 1]? = some (.cells (byt (List.replicate (64 * n) 0)).toArray 5 (0, 0))) := fun w' => refNew_any w' n h1' (by omega)
  have HF : Hid (∀ w' Rb, Kep w w' → w.heap.size ≤ Rb → w'.heap[Rb]? = some (.cells (byt (List.replicate (64 * n) 0)).toArray 5 (0, 0)) → Calls Tryz.prog 25 #[refV (some ⟨Rb, 0, none⟩) (64 * n), .int .u32 0, .slice xi li ci] w' fun e w'' => (∃ b, e = .returned (.bool b)) ∧ Put [Rb] w' w'' ∧ RowB w'' Rb (imgL n Z)) := fun w' Rb k hR h => by
    have h0 : (List.replicate (64 * n) (0 : Int)).length = 64 * n := by simp
    have R0 : Refd w' (some ⟨Rb, 0, none⟩) Rb (List.replicate (64 * n) 0) := ⟨fun _ => h, fun _ => rfl, by rw [h0]; omega⟩
    have := refFill_any w' _ Rb _ R0 0 (by omega) xi Z li ci hl hlc hmax (src_of hi k hR)
    rw [h0, if_pos (by omega), ← layL_range Z _ 0 h0 (by omega)] at this
    refine this.mono ?_
    rintro e w'' ⟨rfl, p, r⟩
    exact ⟨⟨_, rfl⟩, p, r⟩
  have HN : Hid (∀ w', Kep w w' → Calls Tryz.prog 26 #[.slice x ne cap, .slice y m c] w' fun e w'' => ∃ p F, e = .returned (mpt p) ∧ RDv w'' p (ds0 E D) (.slice x ne cap) E F ∧ Kep w' w'' ∧ ∀ g ∈ F, w'.heap.size ≤ g) := fun w' k => by
    have J := I.kep k
    have := rnew11_any w' x cap E y c D (by have := J.zl; omega) (by have := J.zl; have := J.zc; omega) J.zi
    rw [J.el, J.zl] at this
    exact this
  have wh := hidd hw
  have n1 := hidd h1
  have n2 := hidd h2
  clear hl hlc hmax hli hi I hm hw h1' h2' h1 h2
  obtain ⟨sb, qs⟩ : ∃ sb, Hid (sb = w.heap.size) := ⟨_, rfl⟩
  obtain ⟨W, hW⟩ : ∃ W, Hid (w.alloc (.cells s.v 26) = W) := ⟨_, rfl⟩
  have KW : Hid (Kep w W) := by rw [Hid, ← hW.out]; exact (Kep.refl w).alloc _
  have SW : Hid (W.heap[sb]? = some (.cells s.v 26 (0, 0))) := by rw [Hid, ← hW.out, qs.out]; exact hat _ _ _ rfl
  go_enter Tryz.func8, Tryz.ntmps8
  go_upto_region 1 with fail
  rw [hW.out, ← qs.out]
  go_upto_region 2 with (go_at_call 24; refine (HR.out _).mono ?_; rintro e w1 ⟨rfl, k1, r1⟩)
  have K1 := hidd (kep_trans KW.out k1)
  have S1 := hidd (k1.block SW.out)
  obtain ⟨rb, qr⟩ : ∃ rb, Hid (rb = W.heap.size + 1) := ⟨_, rfl⟩
  rw [← qr.out] at r1 ⊢
  have R1 := hidd r1
  have zr : Hid (w.heap.size ≤ rb ∧ sb < rb) := by have := KW.out.size; have := qr.out; have := block_lt SW.out; show _ ∧ _; omega
  clear k1 r1
  have K2 := hidd (K1.out.alloc (.cells #[rsl rb (64 * n)] 50))
  obtain ⟨hb, qh⟩ : ∃ hb, Hid (hb = w1.heap.size) := ⟨_, rfl⟩
  have H2 := hidd (show (w1.alloc (.cells #[rsl rb (64 * n)] 50)).heap[hb]? = some (.cells #[rsl rb (64 * n)] 50 (0, 0)) by rw [qh.out]; exact hat _ _ _ rfl)
  have S2 := hidd (((Kep.refl w1).alloc (.cells #[rsl rb (64 * n)] 50)).block S1.out)
  have R2 := hidd (((Kep.refl w1).alloc (.cells #[rsl rb (64 * n)] 50)).block R1.out)
  have zh : Hid (rb < hb) := by have := block_lt R1.out; have := qh.out; show _ < _; omega
  rw [← qh.out]
  generalize w1.alloc (.cells #[rsl rb (64 * n)] 50) = w2 at K2 H2 S2 R2 ⊢
  have c2 : w2.cell? ⟨hb, 0, none⟩ = some (rsl rb (64 * n)) := cell_of_block H2.out
  go_upto_region 3 with (go_at_call 25; refine (HF.out w2 rb K2.out zr.out.1 R2.out).mono ?_; rintro e V ⟨⟨b, rfl⟩, p3, r3⟩)
  have KV := hidd (K2.out.put p3 (by have := zr.out.1; simpa using this))
  have SV := hidd (p3.keeps S2.out (by have := zr.out.2; simp; omega))
  have HV := hidd (p3.keeps H2.out (by have := zh.out; simp; omega))
  have RV := hidd r3
  clear p3 r3 c2 H2 S2 R2
  refine wp_region_held_drew (S := fun w' => Kep V w') (by kernel_rfl) ((Kep.refl V).drew) (fun hH => ?_)
  refine wpAnyH_take (i := 0) (v := .slice x ne cap) rfl (by kernel_rfl) (by kernel_rfl) (by kernel_rfl) (fun _ _ _ h => h) (.inl ⟨by rfl, by intro w hS; go_simp⟩) hH ?_
  (try simp only [jA, jB, jC, Act.put, jD, jE, jF])
  refine wpAnyH_take (i := 1) (v := .slice y m c) rfl (by kernel_rfl) (by kernel_rfl) (by kernel_rfl) (fun _ _ _ h => h) (.inl ⟨by rfl, by intro w hS; go_simp⟩) hH ?_
  (try simp only [jA, jB, jC, Act.put, jD, jE, jF])
  refine wpAnyH_take (i := 3) (v := .agg #[rsl rb (64 * n)]) rfl (by kernel_rfl) (by kernel_rfl) (by kernel_rfl) (fun _ _ _ h => h) ((yields_row rfl 50 _ rfl hb rfl 50 _ (0, 0) _ (fun w hS => hS.block HV.out) Tryz.underlying50 rfl size_rr)) hH ?_
  (try simp only [jA, jB, jC, Act.put, jD, jE, jF])
  refine wpAnyH_take (i := 4) (v := .agg s.v) rfl (by kernel_rfl) (by kernel_rfl) (by kernel_rfl) (fun _ _ _ h => h) ((yields_row rfl 26 _ rfl sb rfl 26 _ (0, 0) _ (fun w hS => hS.block SV.out) Tryz.underlying26 rfl size_sta)) hH ?_
  (try simp only [jA, jB, jC, Act.put, jD, jE, jF])
  refine wpAnyH_ready (rs := [2]) (by kernel_rfl) (by simp) ?_
  refine AllReadyH.cons rfl (fun K hK => ?_) AllReadyH.nil
  rw [if_pos (by rfl)]
  go_simp
  refine (HN.out _ (kep_trans KV.out hH)).mono ?_
  rintro e w4 ⟨d, F, rfl, d4, k4, f4⟩
  refine hK.out _ _ (kep_trans hH k4) (fun hH2 => ?_)
  clear hK K
  (try simp only [jA, jB, jC, Act.put, jD, jE, jF])
  have D4 := hidd d4
  have F4 : Hid (∀ g ∈ F, V.heap.size ≤ g) := fun g hg => by have := f4 g hg; have := hH.size; omega
  clear d4 f4 k4
  have hH4 := hidd hH2
  have hH := hH2
  clear hH2
  refine wpAnyH_take (i := 5) (v := .agg (mchV (mpt d) (rsl rb (64 * n)) s 0 (.slice none 0 0))) rfl (by kernel_rfl) (by kernel_rfl) (by kernel_rfl) (fun _ _ _ h => h) (.inl ⟨by rfl, by intro w hS; kernel_rfl⟩) hH ?_
  (try simp only [jA, jB, jC, Act.put, jD, jE, jF])
  obtain ⟨VM, hVM⟩ : ∃ VM, Hid (mchV (mpt d) (rsl rb (64 * n)) s 0 (.slice none 0 0) = VM) := ⟨_, rfl⟩
  rw [hVM.out]
  refine wpAnyH_ready (rs := [6]) (by kernel_rfl) (by simp) ?_
  refine AllReadyH.cons rfl (fun K hK => ?_) AllReadyH.nil
  rw [if_pos (by rfl)]
  go_simp
  refine hK.out _ _ (hH.alloc _) (fun hH => ?_)
  clear hK K
  (try simp only [jA, jB, jC, Act.put, jD, jE, jF])
  refine wpAnyH_take (i := 7) (v := mpt w4.heap.size) rfl (by kernel_rfl) (by kernel_rfl) (by kernel_rfl) (fun _ _ _ h => h) (.inl ⟨by rfl, by intro w hS; go_simp⟩) hH ?_
  (try simp only [jA, jB, jC, Act.put, jD, jE, jF])
  refine wpAnyH_done (by kernel_rfl) ?_ _
  have B5 := hidd (hat w4 (.cells VM 53) w4.heap.size rfl)
  have k5 := hidd ((Kep.refl w4).alloc (.cells VM 53))
  rw [← hVM.out] at B5 k5 hH ⊢
  have z4 : Hid (V.heap.size ≤ w4.heap.size) := hH4.out.size
  generalize w4.alloc (.cells (mchV (mpt d) (rsl rb (64 * n)) s 0 (.slice none 0 0)) 53) = w5 at B5 k5 hH ⊢
  go_wp2_with fail
  go_ret
  have zV := KV.out.size
  have zb := block_lt (show V.heap[rb]? = some _ from RV.out (fun e => by have := imgL_len n Z; rw [e] at this; simp at this; have := n1.out; omega))
  have eB : (imgL n Z).length = 64 * n := imgL_len n Z
  have low : ∀ g ∈ w4.heap.size :: (F ++ []), V.heap.size ≤ g := fun g hg => by
    simp only [List.append_nil, List.mem_cons] at hg
    rcases hg with rfl | hg
    · exact z4.out
    · exact F4.out g hg
  refine ⟨w4.heap.size, rb, w4.heap.size :: (F ++ []), rfl, ⟨d, .slice none 0 0, F, [], ⟨?_, D4.out.kep k5.out, Sli.nil _ _ _, RV.out.kep hH, ?_, fun hm => ?_, fun hm => ?_, by simp, by simp, fun g hg => ?_⟩, rfl⟩, kep_trans KV.out hH, fun g hg => ?_⟩
  · show RBx w5 _ _ (rsl rb (imgL n Z).length) _ _ _
    rw [eB]; exact B5.out
  · show ((imgL n Z).length : Int) ≤ 32768
    have := n2.out; omega
  · have := low rb hm; omega
  · have := D4.out.lt _ hm; omega
  · have := wh.out
    rcases List.mem_cons.1 hg with rfl | hg
    · have := zr.out.1; omega
    · have := low g hg; omega
  · rcases List.mem_cons.1 hg with rfl | hg
    · exact zr.out.1
    · have := low g hg; omega
set_option maxHeartbeats 8000000 in
set_option maxRecDepth 100000 in
theorem mnew_bad (w : World) (n : Int) {xi : Option Addr} {li ci : Nat} (s : Sta) (vx vy : Value) (h : (n < 1 ∨ 64 < n) ∨ (1 ≤ n ∧ n ≤ 64 ∧ n * 64 < li)) :
    Calls Tryz.prog 4 #[.int .i64 n, .slice xi li ci, .agg s.v, vx, vy] w fun e w' => e = .returned (.tuple #[.pointer none, .int .i64 (if n < 1 ∨ 64 < n then 2 else 3)]) ∧ Kep w w' := by
  have HM : Hid (∀ w', Calls Tryz.prog 9 #[.int .i64 n] w' fun e w'' => e = .returned (.bool (decide ((1 : Int) ≤ n) && decide ((n : Int) ≤ 64))) ∧ w'' = w') := fun w' => mayHave_any n w'
  obtain ⟨W, hW⟩ : ∃ W, Hid (w.alloc (.cells s.v 26) = W) := ⟨_, rfl⟩
  have KW : Hid (Kep w W) := by rw [Hid, ← hW.out]; exact (Kep.refl w).alloc _
  rcases h with h | ⟨h1, h2, h3⟩
  · rw [if_pos h]
    rw [show (decide ((1 : Int) ≤ n) && decide ((n : Int) ≤ 64)) = false by simp; omega] at HM
    clear h
    go_enter Tryz.func4, Tryz.ntmps4
    go_upto_region 1 with fail
    rw [hW.out]
    go_wp2_with (go_at_call 9; refine (HM.out _).mono ?_; rintro e W ⟨rfl, rfl⟩)
    go_ret2
    exact ⟨rfl, KW.out⟩
  · rw [if_neg (by omega)]
    rw [show (decide ((1 : Int) ≤ n) && decide ((n : Int) ≤ 64)) = true by simp; omega] at HM
    have t1 : decide ((n : Int) * 64 < (li : Int)) = true := decide_eq_true h3
    go_enter Tryz.func4, Tryz.ntmps4
    go_upto_region 1 with fail
    rw [hW.out]
    go_wp2_with (go_at_call 9; refine (HM.out _).mono ?_; rintro e W ⟨rfl, rfl⟩)
    go_ret2
    exact ⟨rfl, KW.out⟩
theorem IsRow.lies {w : World} {x : Option Addr} {len cap : Nat} {zs : List Int} (h : IsRow .u8 w x len cap zs) : Lies w x (byt (zs.take len)) ∧ (zs.take len).length = len ∧ Byts (zs.take len) ∧ len ≤ cap ∧ (cap : Int) ≤ 9223372036854775807 := by
  have hat := fun i hi => IsRow.at h (i := i) hi
  rcases h with ⟨rfl, rfl, rfl, rfl⟩ | ⟨x0, rfl, h1, h2, h3, h4, h5⟩
  · exact ⟨.inl rfl, rfl, (fun b hb => by simp at hb), Nat.le_refl _, by omega⟩
  · have hl : (zs.take len).length = len := by simp; omega
    have hb : Byts (zs.take len) := fun b hb => by
      have := h5 b (List.mem_of_mem_take hb)
      simp [Lit.wf, IntKind.min, IntKind.max, IntKind.signed, IntKind.bits] at this
      omega
    refine ⟨?_, hl, hb, h1, by unfold maxLen at h2; omega⟩
    rcases Nat.eq_zero_or_pos len with h0 | h0
    · subst h0; exact .inl (by simp [byt])
    · obtain ⟨b, off, z, e, _, hlt, _, _⟩ := hat 0 h0
      cases e
      refine .inr ⟨b, off, rfl, hlt, fun j u hj => ?_⟩
      have hjl : j < len := by have := (List.getElem?_eq_some_iff.1 hj).1; rwa [byt_len, hl] at this
      have hc := h4 j (by omega)
      rw [byt_at, List.getElem?_take_of_lt hjl, List.getElem?_eq_getElem (by omega)] at hj
      simp at hj
      subst hj
      have e2 : ((⟨b, off, none⟩ : Addr).add j) = ⟨b, off + j, none⟩ := by simp [Addr.add]
      rw [e2] at hc
      rw [hc]
      simp [List.getD, show j < zs.length by omega]
theorem at_range {w : World} {b : Nat} {s : Sta} (h : At w b s) : w.rangeAt b 0 s.v.toList := fun j v hv => by
  rw [Nat.zero_add]
  exact (cell_of_block h).trans (by simpa using hv)
theorem load_sta_g {ops : Array Oper} {rest : List Oper} {op : Oper} {a : Act} {w : World} {Q : Exit → Act → World → Prop} (hw : Region.wanted op (yielded ops a.tmps) = true) (x : Operand) (ho : op.op = .load 26 x)
    (b o : Nat) (hx : a.eval x = .pointer (some ⟨b, o, none⟩)) (s : Sta) (hc : w.rangeAt b o s.v.toList)
    (h : wpList Tryz.prog ops Q rest (a.put op.dst (.agg s.v)) w) : wpList Tryz.prog ops Q (op :: rest) a w :=
  wpList_step fun K hK => by rw [if_pos hw]; exact wp_load_mid 26 x ho b o hx s.v.toList _ hc Tryz.underlying26 rfl size_sta (hK _ _ h)
end Go.Proofs.YtnignfloedcmlaaGreatDoor
