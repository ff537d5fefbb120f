/- What was saved is loaded, or refused. -/
import Derived.Test.YtpieeefeicdfgabVsv
namespace Go.Proofs.Ytpieeefeicdfgab
open Go.RowKit
set_option linter.unusedVariables false
set_option linter.unusedSimpArgs false

theorem sav_at {H : List Value} (hH : H.length = 23) (vo vd vq vs : Value) (b m n a s k f t : Int) (j : Nat) : (savL H vo vd vq vs b m n a s k f t).toArray[23 + j]? = ([vo, vd, vq, vs, .int .u32 b, .int .u32 m, .int .u32 n, .int .u32 a, .int .u32 s, .int .u32 k, .int .u32 f, .int .u32 t] : List Value)[j]? := by
  rw [List.getElem?_toArray, savL, List.getElem?_append_right (by omega)]
  congr 1; omega
/-- A box that has what is saved: its cells. -/
theorem sav_box {H : List Value} (hH : H.length = 23) (vo vd vq vs : Value) (b m n a s k f t : Int) {w : World} {r : Nat} (h : w.heap[r]? = some (.cells (savL H vo vd vq vs b m n a s k f t).toArray 55 (0, 0))) :
    w.cell? ⟨r, 23, none⟩ = some vo ∧ w.cell? ⟨r, 24, none⟩ = some vd ∧ w.cell? ⟨r, 25, none⟩ = some vq ∧ w.cell? ⟨r, 26, none⟩ = some vs ∧ w.cell? ⟨r, 27, none⟩ = some (.int .u32 b) ∧ w.cell? ⟨r, 28, none⟩ = some (.int .u32 m) ∧ w.cell? ⟨r, 29, none⟩ = some (.int .u32 n) ∧ w.cell? ⟨r, 30, none⟩ = some (.int .u32 a) ∧ w.cell? ⟨r, 31, none⟩ = some (.int .u32 s) ∧ w.cell? ⟨r, 32, none⟩ = some (.int .u32 k) ∧ w.cell? ⟨r, 33, none⟩ = some (.int .u32 f) ∧ w.cell? ⟨r, 34, none⟩ = some (.int .u32 t) := by
  have c := sav_at hH vo vd vq vs b m n a s k f t
  exact ⟨(cell_of_block h).trans (c 0), (cell_of_block h).trans (c 1), (cell_of_block h).trans (c 2), (cell_of_block h).trans (c 3), (cell_of_block h).trans (c 4), (cell_of_block h).trans (c 5), (cell_of_block h).trans (c 6), (cell_of_block h).trans (c 7), (cell_of_block h).trans (c 8), (cell_of_block h).trans (c 9), (cell_of_block h).trans (c 10), (cell_of_block h).trans (c 11)⟩
/-- What is handed in: four slices that are only read, numbers that are ones. -/
structure SavIn (w : World) (E : List Ev) (Z Q O : List Int) (xo : Option Addr) (xd : Option Addr) (cd : Nat) (xq : Option Addr) (xs : Option Addr) (cs : Nat) (st k f t : Int) : Prop where
  o : Lies w xo (byt O)
  d : Lies w xd (byt Z)
  q : Lies w xq (byt Q)
  e : Lies w xs (evs E)
  ol : (O.length : Int) ≤ 140737488355328
  ql : (Q.length : Int) ≤ 9223372036854775807
  dc : Z.length ≤ cd
  dm : (cd : Int) ≤ 9223372036854775807
  ec : E.length ≤ cs
  em : (cs : Int) ≤ 9223372036854775807
  st : 0 ≤ st ∧ st < 4294967296
  k : 0 ≤ k ∧ k < 4294967296
  f : 0 ≤ f ∧ f < 4294967296
  t : 0 ≤ t ∧ t < 4294967296
theorem SavIn.kep {w w' : World} {E : List Ev} {Z Q O : List Int} {xo : Option Addr} {xd : Option Addr} {cd : Nat} {xq : Option Addr} {xs : Option Addr} {cs : Nat} {st k f t : Int} (h : SavIn w E Z Q O xo xd cd xq xs cs st k f t) (K : Kep w w') : SavIn w' E Z Q O xo xd cd xq xs cs st k f t :=
  ⟨h.o.kep K, h.d.kep K, h.q.kep K, h.e.kep K, h.ol, h.ql, h.dc, h.dm, h.ec, h.em, h.st, h.k, h.f, h.t⟩

set_option maxHeartbeats 16000000 in
set_option maxRecDepth 100000 in
theorem load_ok {w : World} {H : List Value} (hH : H.length = 23) {E : List Ev} {Z Q O : List Int} {xo : Option Addr} {co : Nat} {xd : Option Addr} {cd : Nat} {xq : Option Addr} {cq : Nat} {xs : Option Addr} {cs : Nat} {b m n a st k f t : Int} (I : SavIn w E Z Q O xo xd cd xq xs cs st k f t)
    (he : errI E Z = 0) (hQ : Q.length ≤ 32) (hb : b ≤ 7) (hm : m ≤ 7) (hfit : fitsB st k f t = true) :
    Calls Try.prog 17 #[.agg (savL H (.slice xo O.length co) (.slice xd Z.length cd) (.slice xq Q.length cq) (.slice xs E.length cs) b m n a st k f t).toArray] w fun e w' => ∃ p F, e = .returned (.tuple #[.pointer (some ⟨p, 0, none⟩), .int .i64 0]) ∧ Dev w' p ⟨E, b, m, Q, O, Z, n, a, st, k, f, t⟩ F ∧ Kep w w' ∧ ∀ g ∈ F, w.heap.size ≤ g := by
  obtain ⟨X, hX⟩ : ∃ X, Hid (X = (savL H (.slice xo O.length co) (.slice xd Z.length cd) (.slice xq Q.length cq) (.slice xs E.length cs) b m n a st k f t).toArray) := ⟨_, rfl⟩
  rw [← hX.out]
  have CX0 : Hid (∀ (w' : World) (r : Nat), w'.heap[r]? = some (.cells X 55 (0, 0)) → w'.cell? ⟨r, 23, none⟩ = some (.slice xo O.length co) ∧ w'.cell? ⟨r, 24, none⟩ = some (.slice xd Z.length cd) ∧ w'.cell? ⟨r, 25, none⟩ = some (.slice xq Q.length cq) ∧ w'.cell? ⟨r, 26, none⟩ = some (.slice xs E.length cs) ∧ w'.cell? ⟨r, 27, none⟩ = some (.int .u32 b) ∧ w'.cell? ⟨r, 28, none⟩ = some (.int .u32 m) ∧ w'.cell? ⟨r, 29, none⟩ = some (.int .u32 n) ∧ w'.cell? ⟨r, 30, none⟩ = some (.int .u32 a) ∧ w'.cell? ⟨r, 31, none⟩ = some (.int .u32 st) ∧ w'.cell? ⟨r, 32, none⟩ = some (.int .u32 k) ∧ w'.cell? ⟨r, 33, none⟩ = some (.int .u32 f) ∧ w'.cell? ⟨r, 34, none⟩ = some (.int .u32 t)) := fun w' r h => by
    rw [hX.out] at h; exact sav_box hH _ _ _ _ _ _ _ _ _ _ _ _ h
  have KA : Hid (Kep w (w.alloc (.cells X 55))) := (Kep.refl w).alloc _
  have BA : Hid ((w.alloc (.cells X 55)).heap[w.heap.size]? = some (.cells X 55 (0, 0))) := hat _ _ _ rfl
  have HN : Hid (∀ V, Kep w V → Calls Try.prog 6 #[.slice xs E.length cs, .slice xd Z.length cd] V fun e w' => ∃ p F, e = .returned (.tuple #[.pointer (some ⟨p, 0, none⟩), .int .i64 0]) ∧ Dev w' p (ds0 E Z) F ∧ Kep V w' ∧ ∀ g ∈ F, V.heap.size ≤ g) := fun V K => vnew_ok V xs E.length cs E rfl I.ec (I.e.kep K) xd Z.length cd Z rfl I.dc I.dm (I.d.kep K) he
  have HQ : Hid (∀ w', Kep w w' → Calls Try.prog 51 #[.slice xq Q.length cq] w' fun e w'' => ∃ x c, e = .returned (.slice x Q.length c) ∧ OwnN w' w'' 5 1 (.slice x Q.length c) Q.length (byt Q) ∧ Kep w' w'') := fun w' K => by
    refine (clone_u8 w' xq Q.length cq (byt Q) (by rw [byt_len]; omega) (I.q.kep K) (byt_ones _) (by omega)).mono ?_
    rintro e w'' ⟨v, rfl, ho, k2⟩
    obtain ⟨x, c, rfl⟩ := owns_form ho
    obtain ⟨G, s1, s2⟩ := Sli.of_owns ho
    exact ⟨x, c, rfl, ⟨G, s1, s2⟩, k2⟩
  have HO : Hid (∀ w', Kep w w' → Calls Try.prog 51 #[.slice xo O.length co] w' fun e w'' => ∃ x c, e = .returned (.slice x O.length c) ∧ OwnN w' w'' 5 1 (.slice x O.length c) O.length (byt O) ∧ Kep w' w'') := fun w' K => by
    refine (clone_u8 w' xo O.length co (byt O) (by rw [byt_len]; omega) (I.o.kep K) (byt_ones _) (by have := I.ol; omega)).mono ?_
    rintro e w'' ⟨v, rfl, ho, k2⟩
    obtain ⟨x, c, rfl⟩ := owns_form ho
    obtain ⟨G, s1, s2⟩ := Sli.of_owns ho
    exact ⟨x, c, rfl, ⟨G, s1, s2⟩, k2⟩
  have HF : Hid (∀ w, Calls Try.prog 52 #[.int .u32 st, .agg #[.int .u32 k, .int .u32 f, .int .u32 t]] w fun e w' => e = .returned (.bool true) ∧ Kep w w') := fun w => by
    have := fits_any w st k f t I.k I.f I.t
    rw [hfit] at this; exact this
  have tq : decide ((32 : Int) < (Q.length : Int)) = false := decide_eq_false (by omega)
  have tq' : decide (32 < Q.length) = false := decide_eq_false (by omega)
  have tb : decide ((7 : Int) < b) = false := decide_eq_false (by omega)
  have tm : decide ((7 : Int) < m) = false := decide_eq_false (by omega)
  clear hX I he hQ hb hm hfit hH
  go_enter Try.func17, Try.ntmps17
  go_upto_region 1 with fail
  generalize w.alloc (.cells X 55) = V at KA BA ⊢
  obtain ⟨r, hr⟩ : ∃ r, Hid (r = w.heap.size) := ⟨_, rfl⟩
  rw [← hr.out] at BA ⊢
  have CX : Hid (∀ w' : World, w'.heap[r]? = some (.cells X 55 (0, 0)) → w'.cell? ⟨r, 23, none⟩ = some (.slice xo O.length co) ∧ w'.cell? ⟨r, 24, none⟩ = some (.slice xd Z.length cd) ∧ w'.cell? ⟨r, 25, none⟩ = some (.slice xq Q.length cq) ∧ w'.cell? ⟨r, 26, none⟩ = some (.slice xs E.length cs) ∧ w'.cell? ⟨r, 27, none⟩ = some (.int .u32 b) ∧ w'.cell? ⟨r, 28, none⟩ = some (.int .u32 m) ∧ w'.cell? ⟨r, 29, none⟩ = some (.int .u32 n) ∧ w'.cell? ⟨r, 30, none⟩ = some (.int .u32 a) ∧ w'.cell? ⟨r, 31, none⟩ = some (.int .u32 st) ∧ w'.cell? ⟨r, 32, none⟩ = some (.int .u32 k) ∧ w'.cell? ⟨r, 33, none⟩ = some (.int .u32 f) ∧ w'.cell? ⟨r, 34, none⟩ = some (.int .u32 t)) := fun w' h => CX0.out w' r h
  obtain ⟨_, c24, _, c26, _⟩ := CX.out V BA.out
  clear CX0
  go_wp2_with fail
  refine (HN.out V KA.out).mono ?_
  rintro e w1 ⟨p, F, rfl, d1, k1, f1⟩
  obtain ⟨vs, vq0, vo0, vb, Fs, Fq0, Fo0, Fb, D, hF⟩ := d1
  have D1 : Hid (DevAt w1 p (ds0 E Z) vs vq0 vo0 vb Fs Fq0 Fo0 Fb) := D
  have lF : Hid (∀ g ∈ F, V.heap.size ≤ g) := f1
  have hF' : Hid (F = p :: (Fs ++ (Fq0 ++ (Fo0 ++ Fb)))) := hF
  have K1 : Hid (Kep V w1) := k1
  have XR1 : Hid (w1.heap[r]? = some (.cells X 55 (0, 0))) := k1.block BA.out
  obtain ⟨_, _, c25, _, c27, c28, _, _, c31, c32, c33, c34⟩ := CX.out w1 XR1.out
  have lr := block_lt XR1.out
  have ltp : Hid (p < w1.heap.size ∧ V.heap.size ≤ p ∧ r < V.heap.size) := ⟨block_lt D.box, f1 p (by rw [hF]; simp), block_lt BA.out⟩
  have ltF : Hid ((∀ g ∈ Fs, g < w1.heap.size ∧ V.heap.size ≤ g) ∧ (∀ g ∈ Fb, g < w1.heap.size ∧ V.heap.size ≤ g)) := ⟨fun g hg => ⟨D.sc.lt g hg, f1 g (by rw [hF]; simp [hg])⟩, fun g hg => ⟨D.d.lt g hg, f1 g (by rw [hF]; simp [hg])⟩⟩
  clear D f1 hF k1 HN c24 c26
  go_upto_region 9 with (go_at_call 52; refine (HF.out _).mono ?_; rintro e w2 ⟨rfl, k2⟩; have K2' : Hid (Kep (w1.alloc (.cells #[.int .u32 k, .int .u32 f, .int .u32 t] 74)) w2) := k2; clear k2)
  obtain ⟨u, hu⟩ : ∃ u, Hid (u = w1.heap.size) := ⟨_, rfl⟩
  have UR2 : Hid (w2.heap[u]? = some (.cells #[.int .u32 k, .int .u32 f, .int .u32 t] 74 (0, 0))) := by rw [hu.out]; exact K2'.out.block (hat _ _ _ rfl)
  have K2 : Hid (Kep w1 w2) := kep_trans ((Kep.refl w1).alloc _) K2'.out
  rw [← hu.out]
  have XR2 : Hid (w2.heap[r]? = some (.cells X 55 (0, 0))) := K2.out.block XR1.out
  have B2 : Hid (w2.heap[p]? = some (.cells (devC (ds0 E Z) vs vq0 vo0 vb) 82 (0, 0))) := K2.out.block D1.out.box
  have nrp : Hid (r ∉ [p]) := by have := ltp.out; show r ∉ [p]; simp; omega
  have nup : Hid (u ∉ [p]) := by have := ltp.out; have := hu.out; show u ∉ [p]; simp; omega
  have CU : Hid (∀ w' : World, w'.heap[u]? = some (.cells #[.int .u32 k, .int .u32 f, .int .u32 t] 74 (0, 0)) → w'.cell? ⟨u, 0, none⟩ = some (.int .u32 k) ∧ w'.cell? ⟨u, 1, none⟩ = some (.int .u32 f) ∧ w'.cell? ⟨u, 2, none⟩ = some (.int .u32 t)) := fun w' h => ⟨(cell_of_block h).trans rfl, (cell_of_block h).trans rfl, (cell_of_block h).trans rfl⟩
  clear c25 c27 c28 c31 c32 c33 c34 lr
  obtain ⟨_, _, _, _, c27, c28, _⟩ := CX.out w2 XR2.out
  have d2 : w2.cell? ⟨p, 2, none⟩ = some (.int .u32 0) := (cell_of_block B2.out).trans rfl
  have d3 : w2.cell? ⟨p, 3, none⟩ = some (.int .u32 0) := (cell_of_block B2.out).trans rfl
  have f2 : w2.frozen? ⟨p, 2, none⟩ = false := by simp [World.frozen?, B2.out]
  have f3 : w2.frozen? ⟨p, 3, none⟩ = false := by simp [World.frozen?, B2.out]
  have P3 : Hid (Put [p] w2 ((w2.setCell ⟨p, 2, none⟩ (.int .u32 b)).setCell ⟨p, 3, none⟩ (.int .u32 m))) := ((Put.refl _).setCell (by simp) _).setCell (by simp) _
  have B3a : Hid ((w2.setCell ⟨p, 2, none⟩ (.int .u32 b)).heap[p]? = some (.cells (devC ⟨E, b, 0, [], [], Z, 0, 0, 0, 0, 0, 0⟩ vs vq0 vo0 vb) 82 (0, 0))) := box_set B2.out _
  have B3 : Hid (((w2.setCell ⟨p, 2, none⟩ (.int .u32 b)).setCell ⟨p, 3, none⟩ (.int .u32 m)).heap[p]? = some (.cells (devC ⟨E, b, m, [], [], Z, 0, 0, 0, 0, 0, 0⟩ vs vq0 vo0 vb) 82 (0, 0))) := box_set B3a.out _
  go_upto_region 10 with fail
  generalize (w2.setCell ⟨p, 2, none⟩ (.int .u32 b)).setCell ⟨p, 3, none⟩ (.int .u32 m) = W3 at P3 B3 ⊢
  clear c27 c28 d2 d3 f2 f3 B3a
  have XR3 : Hid (W3.heap[r]? = some (.cells X 55 (0, 0))) := P3.out.keeps XR2.out nrp.out
  have UR3 : Hid (W3.heap[u]? = some (.cells #[.int .u32 k, .int .u32 f, .int .u32 t] 74 (0, 0))) := P3.out.keeps UR2.out nup.out
  have hpw : Hid (∀ g ∈ [p], w.heap.size ≤ g) := fun g hg => by
    obtain rfl : g = p := by simpa using hg
    have := ltp.out; have := KA.out.size; omega
  have KW2 : Hid (Kep w w2) := kep_trans KA.out (kep_trans K1.out K2.out)
  have KW3 : Hid (Kep w W3) := KW2.out.put P3.out hpw.out
  refine wp_region_held_drew (S := fun w' => w'.heap[r]? = some (.cells X 55 (0, 0)) ∧ w'.heap[u]? = some (.cells #[.int .u32 k, .int .u32 f, .int .u32 t] 74 (0, 0))) (by kernel_rfl) ⟨XR3.out, UR3.out⟩ (fun hH => ?_)
  refine wpAnyH_take (i := 0) (v := .pointer (some ⟨p, 0, none⟩)) rfl (by kernel_rfl) (by kernel_rfl) (by kernel_rfl) (fun _ _ _ h => h) (.inl ⟨by rfl, by intro w hS; obtain ⟨c23, c24, c25, c26, c27, c28, c29, c30, c31, c32, c33, c34⟩ := CX.out w hS.1; obtain ⟨u0, u1, u2⟩ := CU.out w hS.2; go_simp⟩) hH ?_
  (try dsimp only [Act.put]); (try simp only [List.getElem_toArray, List.getElem_cons_zero, List.getElem_cons_succ, Act.put, List.setIfInBounds_toArray, List.set_cons_zero, List.set_cons_succ])
  refine wpAnyH_take (i := 1) (v := .pointer (some ⟨r, 25, none⟩)) rfl (by kernel_rfl) (by kernel_rfl) (by kernel_rfl) (fun _ _ _ h => h) (.inl ⟨by rfl, by intro w hS; obtain ⟨c23, c24, c25, c26, c27, c28, c29, c30, c31, c32, c33, c34⟩ := CX.out w hS.1; obtain ⟨u0, u1, u2⟩ := CU.out w hS.2; go_simp⟩) hH ?_
  (try dsimp only [Act.put]); (try simp only [List.getElem_toArray, List.getElem_cons_zero, List.getElem_cons_succ, Act.put, List.setIfInBounds_toArray, List.set_cons_zero, List.set_cons_succ])
  refine wpAnyH_take (i := 2) (v := .slice xq Q.length cq) rfl (by kernel_rfl) (by kernel_rfl) (by kernel_rfl) (fun _ _ _ h => h) (.inl ⟨by rfl, by intro w hS; obtain ⟨c23, c24, c25, c26, c27, c28, c29, c30, c31, c32, c33, c34⟩ := CX.out w hS.1; obtain ⟨u0, u1, u2⟩ := CU.out w hS.2; go_simp⟩) hH ?_
  (try dsimp only [Act.put]); (try simp only [List.getElem_toArray, List.getElem_cons_zero, List.getElem_cons_succ, Act.put, List.setIfInBounds_toArray, List.set_cons_zero, List.set_cons_succ])
  refine wpAnyH_take (i := 4) (v := .pointer (some ⟨r, 23, none⟩)) rfl (by kernel_rfl) (by kernel_rfl) (by kernel_rfl) (fun _ _ _ h => h) (.inl ⟨by rfl, by intro w hS; obtain ⟨c23, c24, c25, c26, c27, c28, c29, c30, c31, c32, c33, c34⟩ := CX.out w hS.1; obtain ⟨u0, u1, u2⟩ := CU.out w hS.2; go_simp⟩) hH ?_
  (try dsimp only [Act.put]); (try simp only [List.getElem_toArray, List.getElem_cons_zero, List.getElem_cons_succ, Act.put, List.setIfInBounds_toArray, List.set_cons_zero, List.set_cons_succ])
  refine wpAnyH_take (i := 5) (v := .slice xo O.length co) rfl (by kernel_rfl) (by kernel_rfl) (by kernel_rfl) (fun _ _ _ h => h) (.inl ⟨by rfl, by intro w hS; obtain ⟨c23, c24, c25, c26, c27, c28, c29, c30, c31, c32, c33, c34⟩ := CX.out w hS.1; obtain ⟨u0, u1, u2⟩ := CU.out w hS.2; go_simp⟩) hH ?_
  (try dsimp only [Act.put]); (try simp only [List.getElem_toArray, List.getElem_cons_zero, List.getElem_cons_succ, Act.put, List.setIfInBounds_toArray, List.set_cons_zero, List.set_cons_succ])
  have K3d : Hid (Kep W3 W3.drew) := (Kep.refl W3).drew
  refine wpAnyH_ready (rs := [3]) (by kernel_rfl) (by simp) ?_
  refine AllReadyH.cons rfl (fun K hK => ?_) AllReadyH.nil
  rw [if_pos (by rfl)]
  go_simp
  refine (HQ.out _ (kep_trans KW3.out K3d.out)).mono ?_
  rintro e w4 ⟨yq, dq, rfl, o4, k4⟩
  refine hK.out _ _ ⟨k4.block hH.1, k4.block hH.2⟩ (fun hH => ?_)
  clear hK K
  (try dsimp only [Act.put]); (try simp only [List.getElem_toArray, List.getElem_cons_zero, List.getElem_cons_succ, Act.put, List.setIfInBounds_toArray, List.set_cons_zero, List.set_cons_succ])
  have KA4 : Hid (Kep W3 w4) := kep_trans K3d.out k4
  have O4 : Hid (OwnN W3 w4 5 1 (.slice yq Q.length dq) Q.length (byt Q)) := o4.elder K3d.out
  clear o4 k4
  refine wpAnyH_ready (rs := [6]) (by kernel_rfl) (by simp) ?_
  refine AllReadyH.cons rfl (fun K hK => ?_) AllReadyH.nil
  rw [if_pos (by rfl)]
  go_simp
  refine (HO.out _ (kep_trans KW3.out KA4.out)).mono ?_
  rintro e w5 ⟨yo, d0, rfl, o5, k5⟩
  refine hK.out _ _ ⟨k5.block hH.1, k5.block hH.2⟩ (fun hH => ?_)
  clear hK K
  (try dsimp only [Act.put]); (try simp only [List.getElem_toArray, List.getElem_cons_zero, List.getElem_cons_succ, Act.put, List.setIfInBounds_toArray, List.set_cons_zero, List.set_cons_succ])
  have KA5 : Hid (Kep w4 w5) := k5
  have O5 : Hid (OwnN w4 w5 5 1 (.slice yo O.length d0) O.length (byt O)) := o5
  clear o5 k5
  refine wpAnyH_take (i := 7) (v := .agg #[.slice yq Q.length dq, .slice yo O.length d0]) rfl (by kernel_rfl) (by kernel_rfl) (by kernel_rfl) (fun _ _ _ h => h) (.inl ⟨by rfl, by intro w hS; obtain ⟨c23, c24, c25, c26, c27, c28, c29, c30, c31, c32, c33, c34⟩ := CX.out w hS.1; obtain ⟨u0, u1, u2⟩ := CU.out w hS.2; go_simp⟩) hH ?_
  (try dsimp only [Act.put]); (try simp only [List.getElem_toArray, List.getElem_cons_zero, List.getElem_cons_succ, Act.put, List.setIfInBounds_toArray, List.set_cons_zero, List.set_cons_succ])
  refine wpAnyH_take (i := 8) (v := .pointer (some ⟨p, 0, none⟩)) rfl (by kernel_rfl) (by kernel_rfl) (by kernel_rfl) (fun _ _ _ h => h) (.inl ⟨by rfl, by intro w hS; obtain ⟨c23, c24, c25, c26, c27, c28, c29, c30, c31, c32, c33, c34⟩ := CX.out w hS.1; obtain ⟨u0, u1, u2⟩ := CU.out w hS.2; go_simp⟩) hH ?_
  (try dsimp only [Act.put]); (try simp only [List.getElem_toArray, List.getElem_cons_zero, List.getElem_cons_succ, Act.put, List.setIfInBounds_toArray, List.set_cons_zero, List.set_cons_succ])
  refine wpAnyH_take (i := 9) (v := .pointer (some ⟨p, 4, none⟩)) rfl (by kernel_rfl) (by kernel_rfl) (by kernel_rfl) (fun _ _ _ h => h) (.inl ⟨by rfl, by intro w hS; obtain ⟨c23, c24, c25, c26, c27, c28, c29, c30, c31, c32, c33, c34⟩ := CX.out w hS.1; obtain ⟨u0, u1, u2⟩ := CU.out w hS.2; go_simp⟩) hH ?_
  (try dsimp only [Act.put]); (try simp only [List.getElem_toArray, List.getElem_cons_zero, List.getElem_cons_succ, Act.put, List.setIfInBounds_toArray, List.set_cons_zero, List.set_cons_succ])
  have B5 : Hid (w5.heap[p]? = some (.cells (devC ⟨E, b, m, [], [], Z, 0, 0, 0, 0, 0, 0⟩ vs vq0 vo0 vb) 82 (0, 0))) := KA5.out.block (KA4.out.block B3.out)
  have B5' : Hid ((w5.setCell ⟨p, 4, none⟩ (.slice yq Q.length dq)).heap[p]? = some (.cells (devC ⟨E, b, m, [], [], Z, 0, 0, 0, 0, 0, 0⟩ vs (.slice yq Q.length dq) vo0 vb) 82 (0, 0))) := box_set B5.out _
  have d4 : w5.cell? ⟨p, 4, none⟩ = some vq0 := (cell_of_block B5.out).trans rfl
  have d5 : w5.cell? ⟨p, 5, none⟩ = some vo0 := (cell_of_block B5.out).trans rfl
  have f4 : w5.frozen? ⟨p, 4, none⟩ = false := by simp [World.frozen?, B5.out]
  have f5 : w5.frozen? ⟨p, 5, none⟩ = false := by simp [World.frozen?, B5.out]
  have P6 : Hid (Put [p] w5 ((w5.setCell ⟨p, 4, none⟩ (.slice yq Q.length dq)).setCell ⟨p, 5, none⟩ (.slice yo O.length d0))) := ((Put.refl _).setCell (by simp) _).setCell (by simp) _
  have B6 : Hid (((w5.setCell ⟨p, 4, none⟩ (.slice yq Q.length dq)).setCell ⟨p, 5, none⟩ (.slice yo O.length d0)).heap[p]? = some (.cells (devC ⟨E, b, m, [], [], Z, 0, 0, 0, 0, 0, 0⟩ vs (.slice yq Q.length dq) (.slice yo O.length d0) vb) 82 (0, 0))) := box_set B5'.out _
  refine wpAnyH_ready (rs := [10]) (by kernel_rfl) (by simp) ?_
  refine AllReadyH.cons rfl (fun K hK => ?_) AllReadyH.nil
  rw [if_pos (by rfl)]
  go_simp
  refine hK.out _ _ ⟨P6.out.keeps hH.1 nrp.out, P6.out.keeps hH.2 nup.out⟩ (fun hH => ?_)
  clear hK K
  (try dsimp only [Act.put]); (try simp only [List.getElem_toArray, List.getElem_cons_zero, List.getElem_cons_succ, Act.put, List.setIfInBounds_toArray, List.set_cons_zero, List.set_cons_succ])
  refine wpAnyH_done (by kernel_rfl) ?_ _
  generalize (w5.setCell ⟨p, 4, none⟩ (.slice yq Q.length dq)).setCell ⟨p, 5, none⟩ (.slice yo O.length d0) = W6 at P6 B6 hH ⊢
  have XR6 : Hid (W6.heap[r]? = some (.cells X 55 (0, 0))) := hH.1
  have UR6 : Hid (W6.heap[u]? = some (.cells #[.int .u32 k, .int .u32 f, .int .u32 t] 74 (0, 0))) := hH.2
  clear d4 d5 f4 f5 B5 B5' hH
  go_upto_region 11 with fail
  refine wp_region_held_drew (S := fun w' => w'.heap[r]? = some (.cells X 55 (0, 0)) ∧ w'.heap[u]? = some (.cells #[.int .u32 k, .int .u32 f, .int .u32 t] 74 (0, 0))) (by kernel_rfl) ⟨XR6.out, UR6.out⟩ (fun hH => ?_)
  have B7 : Hid (W6.drew.heap[p]? = some (.cells (devC ⟨E, b, m, [], [], Z, 0, 0, 0, 0, 0, 0⟩ vs (.slice yq Q.length dq) (.slice yo O.length d0) vb) 82 (0, 0))) := B6.out
  have P7 : Hid (Put [p] W6 W6.drew) := Put.mono (Put.of_kep (l := []) ((Kep.refl W6).drew)) (by simp)
  generalize W6.drew = V7 at hH B7 P7 ⊢
  refine wpAnyH_take (i := 0) (v := .pointer (some ⟨p, 0, none⟩)) rfl (by kernel_rfl) (by kernel_rfl) (by kernel_rfl) (fun _ _ _ h => h) (.inl ⟨by rfl, by intro w hS; obtain ⟨c23, c24, c25, c26, c27, c28, c29, c30, c31, c32, c33, c34⟩ := CX.out w hS.1; obtain ⟨u0, u1, u2⟩ := CU.out w hS.2; go_simp⟩) hH ?_
  (try dsimp only [Act.put]); (try simp only [List.getElem_toArray, List.getElem_cons_zero, List.getElem_cons_succ, Act.put, List.setIfInBounds_toArray, List.set_cons_zero, List.set_cons_succ])
  refine wpAnyH_take (i := 1) (v := .pointer (some ⟨p, 0, none⟩)) rfl (by kernel_rfl) (by kernel_rfl) (by kernel_rfl) (fun _ _ _ h => h) (.inl ⟨by rfl, by intro w hS; obtain ⟨c23, c24, c25, c26, c27, c28, c29, c30, c31, c32, c33, c34⟩ := CX.out w hS.1; obtain ⟨u0, u1, u2⟩ := CU.out w hS.2; go_simp⟩) hH ?_
  (try dsimp only [Act.put]); (try simp only [List.getElem_toArray, List.getElem_cons_zero, List.getElem_cons_succ, Act.put, List.setIfInBounds_toArray, List.set_cons_zero, List.set_cons_succ])
  refine wpAnyH_take (i := 2) (v := .pointer (some ⟨p, 0, none⟩)) rfl (by kernel_rfl) (by kernel_rfl) (by kernel_rfl) (fun _ _ _ h => h) (.inl ⟨by rfl, by intro w hS; obtain ⟨c23, c24, c25, c26, c27, c28, c29, c30, c31, c32, c33, c34⟩ := CX.out w hS.1; obtain ⟨u0, u1, u2⟩ := CU.out w hS.2; go_simp⟩) hH ?_
  (try dsimp only [Act.put]); (try simp only [List.getElem_toArray, List.getElem_cons_zero, List.getElem_cons_succ, Act.put, List.setIfInBounds_toArray, List.set_cons_zero, List.set_cons_succ])
  refine wpAnyH_take (i := 3) (v := .pointer (some ⟨p, 0, none⟩)) rfl (by kernel_rfl) (by kernel_rfl) (by kernel_rfl) (fun _ _ _ h => h) (.inl ⟨by rfl, by intro w hS; obtain ⟨c23, c24, c25, c26, c27, c28, c29, c30, c31, c32, c33, c34⟩ := CX.out w hS.1; obtain ⟨u0, u1, u2⟩ := CU.out w hS.2; go_simp⟩) hH ?_
  (try dsimp only [Act.put]); (try simp only [List.getElem_toArray, List.getElem_cons_zero, List.getElem_cons_succ, Act.put, List.setIfInBounds_toArray, List.set_cons_zero, List.set_cons_succ])
  refine wpAnyH_take (i := 4) (v := .pointer (some ⟨r, 29, none⟩)) rfl (by kernel_rfl) (by kernel_rfl) (by kernel_rfl) (fun _ _ _ h => h) (.inl ⟨by rfl, by intro w hS; obtain ⟨c23, c24, c25, c26, c27, c28, c29, c30, c31, c32, c33, c34⟩ := CX.out w hS.1; obtain ⟨u0, u1, u2⟩ := CU.out w hS.2; go_simp⟩) hH ?_
  (try dsimp only [Act.put]); (try simp only [List.getElem_toArray, List.getElem_cons_zero, List.getElem_cons_succ, Act.put, List.setIfInBounds_toArray, List.set_cons_zero, List.set_cons_succ])
  refine wpAnyH_take (i := 5) (v := .int .u32 n) rfl (by kernel_rfl) (by kernel_rfl) (by kernel_rfl) (fun _ _ _ h => h) (.inl ⟨by rfl, by intro w hS; obtain ⟨c23, c24, c25, c26, c27, c28, c29, c30, c31, c32, c33, c34⟩ := CX.out w hS.1; obtain ⟨u0, u1, u2⟩ := CU.out w hS.2; go_simp⟩) hH ?_
  (try dsimp only [Act.put]); (try simp only [List.getElem_toArray, List.getElem_cons_zero, List.getElem_cons_succ, Act.put, List.setIfInBounds_toArray, List.set_cons_zero, List.set_cons_succ])
  refine wpAnyH_take (i := 6) (v := .pointer (some ⟨r, 30, none⟩)) rfl (by kernel_rfl) (by kernel_rfl) (by kernel_rfl) (fun _ _ _ h => h) (.inl ⟨by rfl, by intro w hS; obtain ⟨c23, c24, c25, c26, c27, c28, c29, c30, c31, c32, c33, c34⟩ := CX.out w hS.1; obtain ⟨u0, u1, u2⟩ := CU.out w hS.2; go_simp⟩) hH ?_
  (try dsimp only [Act.put]); (try simp only [List.getElem_toArray, List.getElem_cons_zero, List.getElem_cons_succ, Act.put, List.setIfInBounds_toArray, List.set_cons_zero, List.set_cons_succ])
  refine wpAnyH_take (i := 7) (v := .int .u32 a) rfl (by kernel_rfl) (by kernel_rfl) (by kernel_rfl) (fun _ _ _ h => h) (.inl ⟨by rfl, by intro w hS; obtain ⟨c23, c24, c25, c26, c27, c28, c29, c30, c31, c32, c33, c34⟩ := CX.out w hS.1; obtain ⟨u0, u1, u2⟩ := CU.out w hS.2; go_simp⟩) hH ?_
  (try dsimp only [Act.put]); (try simp only [List.getElem_toArray, List.getElem_cons_zero, List.getElem_cons_succ, Act.put, List.setIfInBounds_toArray, List.set_cons_zero, List.set_cons_succ])
  refine wpAnyH_take (i := 8) (v := .pointer (some ⟨r, 31, none⟩)) rfl (by kernel_rfl) (by kernel_rfl) (by kernel_rfl) (fun _ _ _ h => h) (.inl ⟨by rfl, by intro w hS; obtain ⟨c23, c24, c25, c26, c27, c28, c29, c30, c31, c32, c33, c34⟩ := CX.out w hS.1; obtain ⟨u0, u1, u2⟩ := CU.out w hS.2; go_simp⟩) hH ?_
  (try dsimp only [Act.put]); (try simp only [List.getElem_toArray, List.getElem_cons_zero, List.getElem_cons_succ, Act.put, List.setIfInBounds_toArray, List.set_cons_zero, List.set_cons_succ])
  refine wpAnyH_take (i := 9) (v := .int .u32 st) rfl (by kernel_rfl) (by kernel_rfl) (by kernel_rfl) (fun _ _ _ h => h) (.inl ⟨by rfl, by intro w hS; obtain ⟨c23, c24, c25, c26, c27, c28, c29, c30, c31, c32, c33, c34⟩ := CX.out w hS.1; obtain ⟨u0, u1, u2⟩ := CU.out w hS.2; go_simp⟩) hH ?_
  (try dsimp only [Act.put]); (try simp only [List.getElem_toArray, List.getElem_cons_zero, List.getElem_cons_succ, Act.put, List.setIfInBounds_toArray, List.set_cons_zero, List.set_cons_succ])
  refine wpAnyH_take (i := 10) (v := .agg #[.int .u32 k, .int .u32 f, .int .u32 t]) rfl (by kernel_rfl) (by kernel_rfl) (by kernel_rfl) (fun _ _ _ h => h) (.inl ⟨by rfl, by intro w hS; obtain ⟨c23, c24, c25, c26, c27, c28, c29, c30, c31, c32, c33, c34⟩ := CX.out w hS.1; obtain ⟨u0, u1, u2⟩ := CU.out w hS.2; go_simp⟩) hH ?_
  (try dsimp only [Act.put]); (try simp only [List.getElem_toArray, List.getElem_cons_zero, List.getElem_cons_succ, Act.put, List.setIfInBounds_toArray, List.set_cons_zero, List.set_cons_succ])
  refine wpAnyH_take (i := 11) (v := .pointer (some ⟨p, 0, none⟩)) rfl (by kernel_rfl) (by kernel_rfl) (by kernel_rfl) (fun _ _ _ h => h) (.inl ⟨by rfl, by intro w hS; obtain ⟨c23, c24, c25, c26, c27, c28, c29, c30, c31, c32, c33, c34⟩ := CX.out w hS.1; obtain ⟨u0, u1, u2⟩ := CU.out w hS.2; go_simp⟩) hH ?_
  (try dsimp only [Act.put]); (try simp only [List.getElem_toArray, List.getElem_cons_zero, List.getElem_cons_succ, Act.put, List.setIfInBounds_toArray, List.set_cons_zero, List.set_cons_succ])
  refine wpAnyH_take (i := 12) (v := .pointer (some ⟨p, 6, none⟩)) rfl (by kernel_rfl) (by kernel_rfl) (by kernel_rfl) (fun _ _ _ h => h) (.inl ⟨by rfl, by intro w hS; obtain ⟨c23, c24, c25, c26, c27, c28, c29, c30, c31, c32, c33, c34⟩ := CX.out w hS.1; obtain ⟨u0, u1, u2⟩ := CU.out w hS.2; go_simp⟩) hH ?_
  (try dsimp only [Act.put]); (try simp only [List.getElem_toArray, List.getElem_cons_zero, List.getElem_cons_succ, Act.put, List.setIfInBounds_toArray, List.set_cons_zero, List.set_cons_succ])
  refine wpAnyH_take (i := 13) (v := .pointer (some ⟨p, 7, none⟩)) rfl (by kernel_rfl) (by kernel_rfl) (by kernel_rfl) (fun _ _ _ h => h) (.inl ⟨by rfl, by intro w hS; obtain ⟨c23, c24, c25, c26, c27, c28, c29, c30, c31, c32, c33, c34⟩ := CX.out w hS.1; obtain ⟨u0, u1, u2⟩ := CU.out w hS.2; go_simp⟩) hH ?_
  (try dsimp only [Act.put]); (try simp only [List.getElem_toArray, List.getElem_cons_zero, List.getElem_cons_succ, Act.put, List.setIfInBounds_toArray, List.set_cons_zero, List.set_cons_succ])
  have e7 : (V7).cell? ⟨p, 7, none⟩ = some (.int .u32 0) := (cell_of_block B7.out).trans rfl
  have g7 : (V7).frozen? ⟨p, 7, none⟩ = false := by simp [World.frozen?, B7.out]
  refine wpAnyH_ready (rs := [14]) (by kernel_rfl) (by simp) ?_
  refine AllReadyH.cons rfl (fun K hK => ?_) AllReadyH.nil
  rw [if_pos (by rfl)]
  go_simp
  have BA0 : Hid ((V7.setCell ⟨p, 7, none⟩ (.int .u32 n)).heap[p]? = some (.cells (devC ⟨E, b, m, [], [], Z, n, 0, 0, 0, 0, 0⟩ vs (.slice yq Q.length dq) (.slice yo O.length d0) vb) 82 (0, 0))) := box_set B7.out _
  have PA : Hid (Put [p] W6 (V7.setCell ⟨p, 7, none⟩ (.int .u32 n))) := (P7.out.setCell (by simp) _)
  refine hK.out _ _ ⟨PA.out.keeps XR6.out nrp.out, PA.out.keeps UR6.out nup.out⟩ (fun hH => ?_)
  clear hK K
  (try dsimp only [Act.put]); (try simp only [List.getElem_toArray, List.getElem_cons_zero, List.getElem_cons_succ, Act.put, List.setIfInBounds_toArray, List.set_cons_zero, List.set_cons_succ])
  generalize (V7.setCell ⟨p, 7, none⟩ (.int .u32 n)) = VA at BA0 PA hH ⊢
  clear e7 g7 
  refine wpAnyH_take (i := 15) (v := .pointer (some ⟨p, 0, none⟩)) rfl (by kernel_rfl) (by kernel_rfl) (by kernel_rfl) (fun _ _ _ h => h) (.inl ⟨by rfl, by intro w hS; obtain ⟨c23, c24, c25, c26, c27, c28, c29, c30, c31, c32, c33, c34⟩ := CX.out w hS.1; obtain ⟨u0, u1, u2⟩ := CU.out w hS.2; go_simp⟩) hH ?_
  (try dsimp only [Act.put]); (try simp only [List.getElem_toArray, List.getElem_cons_zero, List.getElem_cons_succ, Act.put, List.setIfInBounds_toArray, List.set_cons_zero, List.set_cons_succ])
  refine wpAnyH_take (i := 16) (v := .pointer (some ⟨p, 6, none⟩)) rfl (by kernel_rfl) (by kernel_rfl) (by kernel_rfl) (fun _ _ _ h => h) (.inl ⟨by rfl, by intro w hS; obtain ⟨c23, c24, c25, c26, c27, c28, c29, c30, c31, c32, c33, c34⟩ := CX.out w hS.1; obtain ⟨u0, u1, u2⟩ := CU.out w hS.2; go_simp⟩) hH ?_
  (try dsimp only [Act.put]); (try simp only [List.getElem_toArray, List.getElem_cons_zero, List.getElem_cons_succ, Act.put, List.setIfInBounds_toArray, List.set_cons_zero, List.set_cons_succ])
  refine wpAnyH_take (i := 17) (v := .pointer (some ⟨p, 8, none⟩)) rfl (by kernel_rfl) (by kernel_rfl) (by kernel_rfl) (fun _ _ _ h => h) (.inl ⟨by rfl, by intro w hS; obtain ⟨c23, c24, c25, c26, c27, c28, c29, c30, c31, c32, c33, c34⟩ := CX.out w hS.1; obtain ⟨u0, u1, u2⟩ := CU.out w hS.2; go_simp⟩) hH ?_
  (try dsimp only [Act.put]); (try simp only [List.getElem_toArray, List.getElem_cons_zero, List.getElem_cons_succ, Act.put, List.setIfInBounds_toArray, List.set_cons_zero, List.set_cons_succ])
  have e8 : (VA).cell? ⟨p, 8, none⟩ = some (.int .u32 0) := (cell_of_block BA0.out).trans rfl
  have g8 : (VA).frozen? ⟨p, 8, none⟩ = false := by simp [World.frozen?, BA0.out]
  refine wpAnyH_ready (rs := [18]) (by kernel_rfl) (by simp) ?_
  refine AllReadyH.cons rfl (fun K hK => ?_) AllReadyH.nil
  rw [if_pos (by rfl)]
  go_simp
  have BB0 : Hid ((VA.setCell ⟨p, 8, none⟩ (.int .u32 a)).heap[p]? = some (.cells (devC ⟨E, b, m, [], [], Z, n, a, 0, 0, 0, 0⟩ vs (.slice yq Q.length dq) (.slice yo O.length d0) vb) 82 (0, 0))) := box_set BA0.out _
  have PB : Hid (Put [p] W6 (VA.setCell ⟨p, 8, none⟩ (.int .u32 a))) := (PA.out.setCell (by simp) _)
  refine hK.out _ _ ⟨PB.out.keeps XR6.out nrp.out, PB.out.keeps UR6.out nup.out⟩ (fun hH => ?_)
  clear hK K
  (try dsimp only [Act.put]); (try simp only [List.getElem_toArray, List.getElem_cons_zero, List.getElem_cons_succ, Act.put, List.setIfInBounds_toArray, List.set_cons_zero, List.set_cons_succ])
  generalize (VA.setCell ⟨p, 8, none⟩ (.int .u32 a)) = VB at BB0 PB hH ⊢
  clear e8 g8 
  refine wpAnyH_take (i := 19) (v := .pointer (some ⟨p, 0, none⟩)) rfl (by kernel_rfl) (by kernel_rfl) (by kernel_rfl) (fun _ _ _ h => h) (.inl ⟨by rfl, by intro w hS; obtain ⟨c23, c24, c25, c26, c27, c28, c29, c30, c31, c32, c33, c34⟩ := CX.out w hS.1; obtain ⟨u0, u1, u2⟩ := CU.out w hS.2; go_simp⟩) hH ?_
  (try dsimp only [Act.put]); (try simp only [List.getElem_toArray, List.getElem_cons_zero, List.getElem_cons_succ, Act.put, List.setIfInBounds_toArray, List.set_cons_zero, List.set_cons_succ])
  refine wpAnyH_take (i := 20) (v := .pointer (some ⟨p, 6, none⟩)) rfl (by kernel_rfl) (by kernel_rfl) (by kernel_rfl) (fun _ _ _ h => h) (.inl ⟨by rfl, by intro w hS; obtain ⟨c23, c24, c25, c26, c27, c28, c29, c30, c31, c32, c33, c34⟩ := CX.out w hS.1; obtain ⟨u0, u1, u2⟩ := CU.out w hS.2; go_simp⟩) hH ?_
  (try dsimp only [Act.put]); (try simp only [List.getElem_toArray, List.getElem_cons_zero, List.getElem_cons_succ, Act.put, List.setIfInBounds_toArray, List.set_cons_zero, List.set_cons_succ])
  refine wpAnyH_take (i := 21) (v := .pointer (some ⟨p, 9, none⟩)) rfl (by kernel_rfl) (by kernel_rfl) (by kernel_rfl) (fun _ _ _ h => h) (.inl ⟨by rfl, by intro w hS; obtain ⟨c23, c24, c25, c26, c27, c28, c29, c30, c31, c32, c33, c34⟩ := CX.out w hS.1; obtain ⟨u0, u1, u2⟩ := CU.out w hS.2; go_simp⟩) hH ?_
  (try dsimp only [Act.put]); (try simp only [List.getElem_toArray, List.getElem_cons_zero, List.getElem_cons_succ, Act.put, List.setIfInBounds_toArray, List.set_cons_zero, List.set_cons_succ])
  have e9 : (VB).cell? ⟨p, 9, none⟩ = some (.int .u32 0) := (cell_of_block BB0.out).trans rfl
  have g9 : (VB).frozen? ⟨p, 9, none⟩ = false := by simp [World.frozen?, BB0.out]
  refine wpAnyH_ready (rs := [22]) (by kernel_rfl) (by simp) ?_
  refine AllReadyH.cons rfl (fun K hK => ?_) AllReadyH.nil
  rw [if_pos (by rfl)]
  go_simp
  have BC0 : Hid ((VB.setCell ⟨p, 9, none⟩ (.int .u32 st)).heap[p]? = some (.cells (devC ⟨E, b, m, [], [], Z, n, a, st, 0, 0, 0⟩ vs (.slice yq Q.length dq) (.slice yo O.length d0) vb) 82 (0, 0))) := box_set BB0.out _
  have PC : Hid (Put [p] W6 (VB.setCell ⟨p, 9, none⟩ (.int .u32 st))) := (PB.out.setCell (by simp) _)
  refine hK.out _ _ ⟨PC.out.keeps XR6.out nrp.out, PC.out.keeps UR6.out nup.out⟩ (fun hH => ?_)
  clear hK K
  (try dsimp only [Act.put]); (try simp only [List.getElem_toArray, List.getElem_cons_zero, List.getElem_cons_succ, Act.put, List.setIfInBounds_toArray, List.set_cons_zero, List.set_cons_succ])
  generalize (VB.setCell ⟨p, 9, none⟩ (.int .u32 st)) = VC at BC0 PC hH ⊢
  clear e9 g9 
  refine wpAnyH_take (i := 23) (v := .pointer (some ⟨p, 0, none⟩)) rfl (by kernel_rfl) (by kernel_rfl) (by kernel_rfl) (fun _ _ _ h => h) (.inl ⟨by rfl, by intro w hS; obtain ⟨c23, c24, c25, c26, c27, c28, c29, c30, c31, c32, c33, c34⟩ := CX.out w hS.1; obtain ⟨u0, u1, u2⟩ := CU.out w hS.2; go_simp⟩) hH ?_
  (try dsimp only [Act.put]); (try simp only [List.getElem_toArray, List.getElem_cons_zero, List.getElem_cons_succ, Act.put, List.setIfInBounds_toArray, List.set_cons_zero, List.set_cons_succ])
  refine wpAnyH_take (i := 24) (v := .pointer (some ⟨p, 6, none⟩)) rfl (by kernel_rfl) (by kernel_rfl) (by kernel_rfl) (fun _ _ _ h => h) (.inl ⟨by rfl, by intro w hS; obtain ⟨c23, c24, c25, c26, c27, c28, c29, c30, c31, c32, c33, c34⟩ := CX.out w hS.1; obtain ⟨u0, u1, u2⟩ := CU.out w hS.2; go_simp⟩) hH ?_
  (try dsimp only [Act.put]); (try simp only [List.getElem_toArray, List.getElem_cons_zero, List.getElem_cons_succ, Act.put, List.setIfInBounds_toArray, List.set_cons_zero, List.set_cons_succ])
  refine wpAnyH_take (i := 25) (v := .pointer (some ⟨p, 10, none⟩)) rfl (by kernel_rfl) (by kernel_rfl) (by kernel_rfl) (fun _ _ _ h => h) (.inl ⟨by rfl, by intro w hS; obtain ⟨c23, c24, c25, c26, c27, c28, c29, c30, c31, c32, c33, c34⟩ := CX.out w hS.1; obtain ⟨u0, u1, u2⟩ := CU.out w hS.2; go_simp⟩) hH ?_
  (try dsimp only [Act.put]); (try simp only [List.getElem_toArray, List.getElem_cons_zero, List.getElem_cons_succ, Act.put, List.setIfInBounds_toArray, List.set_cons_zero, List.set_cons_succ])
  have e10 : (VC).cell? ⟨p, 10, none⟩ = some (.int .u32 0) := (cell_of_block BC0.out).trans rfl
  have g10 : (VC).frozen? ⟨p, 10, none⟩ = false := by simp [World.frozen?, BC0.out]
  have e11 : (VC).cell? ⟨p, 11, none⟩ = some (.int .u32 0) := (cell_of_block BC0.out).trans rfl
  have g11 : (VC).frozen? ⟨p, 11, none⟩ = false := by simp [World.frozen?, BC0.out]
  have e12 : (VC).cell? ⟨p, 12, none⟩ = some (.int .u32 0) := (cell_of_block BC0.out).trans rfl
  have g12 : (VC).frozen? ⟨p, 12, none⟩ = false := by simp [World.frozen?, BC0.out]
  refine wpAnyH_ready (rs := [26]) (by kernel_rfl) (by simp) ?_
  refine AllReadyH.cons rfl (fun K hK => ?_) AllReadyH.nil
  rw [if_pos (by rfl)]
  go_simp
  have BD0 : Hid ((VC.setCell ⟨p, 10, none⟩ (.int .u32 k)).heap[p]? = some (.cells (devC ⟨E, b, m, [], [], Z, n, a, st, k, 0, 0⟩ vs (.slice yq Q.length dq) (.slice yo O.length d0) vb) 82 (0, 0))) := box_set BC0.out _
  have BD1 : Hid (((VC.setCell ⟨p, 10, none⟩ (.int .u32 k)).setCell ⟨p, 11, none⟩ (.int .u32 f)).heap[p]? = some (.cells (devC ⟨E, b, m, [], [], Z, n, a, st, k, f, 0⟩ vs (.slice yq Q.length dq) (.slice yo O.length d0) vb) 82 (0, 0))) := box_set BD0.out _
  have BD2 : Hid ((((VC.setCell ⟨p, 10, none⟩ (.int .u32 k)).setCell ⟨p, 11, none⟩ (.int .u32 f)).setCell ⟨p, 12, none⟩ (.int .u32 t)).heap[p]? = some (.cells (devC ⟨E, b, m, [], [], Z, n, a, st, k, f, t⟩ vs (.slice yq Q.length dq) (.slice yo O.length d0) vb) 82 (0, 0))) := box_set BD1.out _
  have PD : Hid (Put [p] W6 (((VC.setCell ⟨p, 10, none⟩ (.int .u32 k)).setCell ⟨p, 11, none⟩ (.int .u32 f)).setCell ⟨p, 12, none⟩ (.int .u32 t))) := (((PC.out.setCell (by simp) _).setCell (by simp) _).setCell (by simp) _)
  refine hK.out _ _ ⟨PD.out.keeps XR6.out nrp.out, PD.out.keeps UR6.out nup.out⟩ (fun hH => ?_)
  clear hK K
  (try dsimp only [Act.put]); (try simp only [List.getElem_toArray, List.getElem_cons_zero, List.getElem_cons_succ, Act.put, List.setIfInBounds_toArray, List.set_cons_zero, List.set_cons_succ])
  generalize (((VC.setCell ⟨p, 10, none⟩ (.int .u32 k)).setCell ⟨p, 11, none⟩ (.int .u32 f)).setCell ⟨p, 12, none⟩ (.int .u32 t)) = VD at BD2 PD hH ⊢
  clear e10 g10 e11 g11 e12 g12 BD0 BD1
  refine wpAnyH_done (by kernel_rfl) ?_ _
  go_wp2_with fail
  go_ret2
  obtain ⟨Gq, sq, gq⟩ := O4.out
  obtain ⟨Go, so, go⟩ := O5.out
  have hV : V.heap.size ≤ w1.heap.size := K1.out.size
  have h13 : w1.heap.size ≤ W3.heap.size := Nat.le_trans K2.out.size P3.out.size
  have h34 : W3.heap.size ≤ w4.heap.size := KA4.out.size
  have hwV := KA.out.size
  obtain ⟨hp1, hp2, hp3⟩ := ltp.out
  obtain ⟨hFs, hFb⟩ := ltF.out
  have lq : ∀ g ∈ Gq, g < w4.heap.size := sq.lt
  have nq : p ∉ Gq := fun h => by have := gq p h; omega
  have no : p ∉ Go := fun h => by have := go p h; omega
  have np : ∀ {G : List Nat}, p ∉ G → ∀ g ∈ G, g ∉ [p] := fun hG g hg h => by simp at h; subst h; exact hG hg
  have D := D1.out
  have s1 : Sli VD 68 3 vs E.length (evs E) Fs := (((((D.sc.kep K2.out).put P3.out (np D.ps)).kep KA4.out).kep KA5.out).put P6.out (np D.ps)).put PD.out (np D.ps)
  have s4 : Sli VD 106 64 vb (Z.length / 64) (byt Z) Fb := (((((D.d.kep K2.out).put P3.out (np D.pb)).kep KA4.out).kep KA5.out).put P6.out (np D.pb)).put PD.out (np D.pb)
  have s2 := ((sq.kep KA5.out).put P6.out (np nq)).put PD.out (np nq)
  have s3 := (so.put P6.out (np no)).put PD.out (np no)
  refine ⟨p, p :: (Fs ++ (Gq ++ (Go ++ Fb))), rfl, ⟨vs, _, _, vb, Fs, Gq, Go, Fb, ⟨BD2.out, s1, s2, s3, s4, D.ps, nq, no, D.pb, fun g x y => ?_, fun g x y => ?_, D.sb, fun g x y => ?_, fun g x y => ?_, fun g x y => ?_⟩, rfl⟩, ?_, fun g hg => ?_⟩
  · have := (hFs g x).1; have := gq g y; omega
  · have := (hFs g x).1; have := go g y; omega
  · have := lq g x; have := go g y; omega
  · have := gq g x; have := (hFb g y).1; omega
  · have := go g x; have := (hFb g y).1; omega
  · exact (((kep_trans KW3.out (kep_trans KA4.out KA5.out)).put P6.out hpw.out)).put PD.out hpw.out
  · simp only [List.mem_cons, List.mem_append] at hg
    rcases hg with rfl | h | h | h | h
    · omega
    · have := (hFs g h).2; omega
    · have := gq g h; omega
    · have := go g h; omega
    · have := (hFb g h).2; omega
end Go.Proofs.Ytpieeefeicdfgab
