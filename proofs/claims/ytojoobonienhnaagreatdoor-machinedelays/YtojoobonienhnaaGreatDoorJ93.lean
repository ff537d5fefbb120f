/- Part of a proof. -/
import Derived.Test.YtojoobonienhnaaGreatDoorJ51
namespace Go.Proofs.YtojoobonienhnaaGreatDoor
open Go.RowKit
set_option linter.unusedVariables false
set_option linter.unusedSimpArgs false
theorem nm2 {a R Rb : Nat} (h1 : a ≠ R) (h2 : a ≠ Rb) : a ∉ [R, Rb] := by simp [h1, h2]
theorem off_of {w : World} {v : Value} {R Rb : Nat} {ix : List Nat} {C : List Int} (hr : Ram w v R ix) (hb : RowB w Rb C) (hC : C ≠ []) : Off w v [R, Rb] := by
  intro p e
  subst e
  rcases hr with ⟨_, h⟩ | ⟨_, q, e, hp, n⟩ | ⟨q, F, e, hp, hF, n1, n2, hn⟩
  · simp at h
  · simp at e; subst e
    refine ⟨nm2 n fun e => ?_, fun F a b hc => ?_⟩
    · subst e; exact not_row hb hC hp none 0 0 rfl
    · rw [cell_of_block hp] at hc; simp at hc
  · simp at e; subst e
    refine ⟨nm2 n1 fun e => ?_, fun F' a b hc => ?_⟩
    · subst e; exact not_row hb hC hp _ _ _ rfl
    · rw [cell_of_block hp] at hc
      have e2 : F = F' := by have := hc; simp at this; exact this.1
      subst e2
      refine nm2 n2 fun e => ?_
      subst e
      refine not_row hb hC hF (some ⟨R, 64 * ix.getD 0 0, none⟩) 64 64 ?_
      rcases ix with _ | ⟨i, ix⟩
      · exact absurd rfl hn
      · simp [frs]
theorem off_tag {w : World} {v : Value} {R b : Nat} {ix : List Nat} (hr : Ram w v R ix) {cs : Array Value} {t : TypeId} {fr : Nat × Nat} (hb : w.heap[b]? = some (.cells cs t fr)) (h1 : t ≠ 107) (h2 : t ≠ 22) : Off w v [b] := by
  intro p e
  subst e
  rcases hr with ⟨_, h⟩ | ⟨_, q, e, hp, n⟩ | ⟨q, F, e, hp, hF, n1, n2, hn⟩
  · simp at h
  · simp at e; subst e
    refine ⟨fun e => ?_, fun F a b hc => ?_⟩
    · simp at e; subst e; rw [hp] at hb; simp at hb; exact h1 hb.2.1.symm
    · rw [cell_of_block hp] at hc; simp at hc
  · simp at e; subst e
    refine ⟨fun e => ?_, fun F' a b hc => ?_⟩
    · simp at e; subst e; rw [hp] at hb; simp at hb; exact h1 hb.2.1.symm
    · rw [cell_of_block hp] at hc
      have e2 : F = F' := by have := hc; simp at this; exact this.1
      subst e2
      intro e
      simp at e; subst e; rw [hF] at hb; simp at hb; exact h2 hb.2.1.symm
theorem nts_at (N : List Nt) (k : Nat) (e : Nt) (h : N[k]? = some e) (j : Nat) (hj : j < 4) : (nts N)[k * 4 + j]? = (ntV e)[j]? := by
  induction N generalizing k with
  | nil => simp at h
  | cons a r ih =>
    have hc : nts (a :: r) = ntV a ++ nts r := by simp [nts]
    rw [hc]
    cases k with
    | zero =>
      obtain rfl : a = e := by simpa using h
      rw [List.getElem?_append_left (by rw [ntV_len]; omega)]
      congr 1; omega
    | succ k =>
      rw [List.getElem?_append_right (by rw [ntV_len]; omega), ntV_len, ← ih k (by simpa using h)]
      congr 1; omega
theorem end_n (x : MS) (ix : List Nat) (f : Fin) : (endX x ix f).n = x.n + 1 := by cases f <;> rfl
theorem stp_n {x : MS} {ix : List Nat} (h : x.s.h = false) : (stpX x ix).n = x.n + 1 := by
  have hc : (comX x ix).s.h = false := h
  have e : (comX x ix).n = x.n := rfl
  unfold stpX
  rw [h, if_neg (by simp)]
  split
  · unfold oneX
    rw [hc, if_neg (by simp), end_n, e]
  · rename_i ht
    unfold takX
    rw [hc, if_neg (by simp), if_neg ht]
    rfl
structure Twin (w : World) (p pm R : Nat) (ix : List Nat) (x : MS) (q qm S : Nat) (iy : List Nat) (y : MS) (G H : List Nat) (w' : World) : Prop where
  a : Mach w' p pm R ix x G
  b : Mach w' q qm S iy y H
  far : ∀ g ∈ R :: G, g ∉ S :: H
  offa : Off w' (mpt pm) (S :: H)
  offb : Off w' (mpt qm) (R :: G)
  kep : Kep w w'
  na : ∀ g ∈ R :: G, w.heap.size ≤ g
  nb : ∀ g ∈ S :: H, w.heap.size ≤ g
theorem Twin.swap {w : World} {p pm R : Nat} {ix : List Nat} {x : MS} {q qm S : Nat} {iy : List Nat} {y : MS} {G H : List Nat} {w' : World} (h : Twin w p pm R ix x q qm S iy y G H w') : Twin w q qm S iy y p pm R ix x H G w' :=
  ⟨h.b, h.a, fun g hg hm => h.far g hm hg, h.offb, h.offa, h.kep, h.nb, h.na⟩
theorem sliOff {w : World} {e : TypeId} {z : Nat} {u : Value} {n : Nat} {xs : List Value} {F : List Nat} (h : Sli w e z u n xs F) {v : Value} {R : Nat} {ix : List Nat} (hr : Ram w v R ix) (h1 : e ≠ 107) (h2 : e ≠ 22) : Off w v F := by
  rcases h with ⟨_, ⟨_, _, rfl⟩ | ⟨g, off, cap, cur, _, rfl, hg, _⟩⟩
  · exact fun p e => ⟨by simp, by simp⟩
  · exact off_tag hr hg h1 h2
theorem devOff {w : World} {p : Nat} {s : DS} {F : List Nat} (h : Dev w p s F) {v : Value} {R : Nat} {ix : List Nat} (hr : Ram w v R ix) : Off w v F := by
  obtain ⟨vs, vq, vo, vb, Fs, Fq, Fo, Fb, D, rfl⟩ := h
  have h0 : Off w v [p] := off_tag hr D.box (by decide) (by decide)
  exact (h0.app ((sliOff D.sc hr (by decide) (by decide)).app ((sliOff D.q hr (by decide) (by decide)).app ((sliOff D.o hr (by decide) (by decide)).app (sliOff D.d hr (by decide) (by decide)))))).sub (by simp)
theorem Mach.offx {w : World} {p pm R : Nat} {ix : List Nat} {x : MS} {G : List Nat} (h : Mach w p pm R ix x G) (hB : x.B ≠ []) {v : Value} {R' : Nat} {iy : List Nat} (hr : Ram w v R' iy) : Off w v (R :: G) := by
  obtain ⟨q, vn, Fd, Fn, h, rfl⟩ := h
  have h0 : Off w v [p] := off_tag hr h.box (by decide) (by decide)
  exact ((off_of hr h.mem.row hB).sub (by simp)).cons ((h0.app ((devOff h.dev hr).app (sliOff h.nts hr (by decide) (by decide)))).sub (by simp))
theorem Twin.kept {w : World} {p pm R : Nat} {ix : List Nat} {x : MS} {q qm S : Nat} {iy : List Nat} {y : MS} {G H : List Nat} {w' w'' : World} (h : Twin w p pm R ix x q qm S iy y G H w') (k : Kep w' w'') : Twin w p pm R ix x q qm S iy y G H w'' :=
  ⟨h.a.kep k, h.b.kep k, h.far, Off.stay (m := []) h.a.ram h.offa (Put.of_kep k) (fun p e => ⟨by simp, by simp⟩), Off.stay (m := []) h.b.ram h.offb (Put.of_kep k) (fun p e => ⟨by simp, by simp⟩), kep_trans h.kep k, h.na, h.nb⟩
theorem Twin.goes {w : World} {p pm R : Nat} {ix : List Nat} {x z : MS} {q qm S : Nat} {iy : List Nat} {y : MS} {G H : List Nat} {w1 w2 : World} (h : Twin w p pm R ix x q qm S iy y G H w1) (hz : z.B ≠ []) (hy : y.B ≠ []) (g : Goes w1 p pm R ix G z w2) : ∃ G', Twin w p pm R ix z q qm S iy y G' H w2 := by
  obtain ⟨G', m, pt, hG⟩ := g
  have hlt := h.b.lt hy
  have b2 : Mach w2 q qm S iy y H := h.b.put pt (fun g hg hm => h.far g hm hg) h.offb
  refine ⟨G', m, b2, fun g hg hm => ?_, b2.offx hy m.ram, m.offx hz b2.ram, h.kep.put pt h.na, fun g hg => ?_, h.nb⟩
  · rcases List.mem_cons.1 hg with rfl | hg
    · exact h.far _ (by simp) hm
    · rcases hG g hg with h3 | h3
      · exact h.far g (by simp [h3]) hm
      · have := hlt g hm; omega
  · rcases List.mem_cons.1 hg with rfl | hg
    · exact h.na _ (by simp)
    · rcases hG g hg with h3 | h3
      · exact h.na g (by simp [h3])
      · have := h.kep.size; omega
theorem Twin.of {w w1 w2 : World} {p pm R : Nat} {ix : List Nat} {x : MS} {q qm S : Nat} {iy : List Nat} {y : MS} {G H : List Nat} (a : Mach w1 p pm R ix x G) (hx : x.B ≠ []) (ka : Kep w w1) (na : ∀ g ∈ R :: G, w.heap.size ≤ g) (b : Mach w2 q qm S iy y H) (hy : y.B ≠ []) (kb : Kep w1 w2) (nb : ∀ g ∈ S :: H, w1.heap.size ≤ g) : Twin w p pm R ix x q qm S iy y G H w2 := by
  have hlt := a.lt hx
  exact ⟨a.kep kb, b, fun g hg hm => by have := hlt g hg; have := nb g hm; omega, b.offx hy (a.kep kb).ram, (a.kep kb).offx hx b.ram, kep_trans ka kb, na, fun g hg => by have := nb g hg; have := ka.size; omega⟩
theorem Twin.run {w : World} {p pm R : Nat} {ix : List Nat} {x : MS} {q qm S : Nat} {iy : List Nat} {y : MS} {G H : List Nat} {w1 : World} (h : Twin w p pm R ix x q qm S iy y G H w1) (ok : x.Ok) (hy : y.B ≠ []) (hT : Tabs w) (n : Nat) (hn : n ≤ 4096) (rm : Room n x) :
    Calls Tryz.prog 15 #[.pointer (some ⟨p, 0, none⟩), .int .i64 n] w1 fun e w' => e = .returned (.int .i64 (runN ix n x)) ∧ ∃ G', Twin w p pm R ix (runX ix n x) q qm S iy y G' H w' := by
  refine (mrun_any h.a ok (hT.grown h.kep) n hn rm).mono ?_
  rintro e w' ⟨rfl, g⟩
  have hb : (runX ix n x).B ≠ [] := by
    obtain ⟨_, _, _, _, m, _⟩ := h.a
    exact (run_ok (m := 0) n ok m.mem.byts m.mem.fits (by rw [Nat.zero_add]; exact rm)).1.B
  exact ⟨rfl, h.goes hb hy g⟩
theorem nt_same (a b c d : Int) (w : World) : (Op.equalIn 10000 94 (.agg #[.int .i64 a, .int .i64 b, .int .u32 c, .int .u32 d]) (.agg #[.int .i64 a, .int .i64 b, .int .u32 c, .int .u32 d])).run Tryz.prog w = .ok true w := by
  rw [run_equalIn_agg (P := Tryz.prog) w 9999 94 _ _ (by kernel_rfl) (by kernel_rfl)]
  refine fields_same w 9999 _ _ (fun f hf => ?_)
  have hall : ((Tryz.prog.fieldsOf 94).toList.all fun f => (f.type == 3 && f.offset == 0) || (f.type == 3 && f.offset == 1) || (f.type == 23 && f.offset == 2) || (f.type == 23 && f.offset == 3)) = true := by kernel_rfl
  have h := List.all_eq_true.1 hall f hf
  simp only [Bool.or_eq_true, Bool.and_eq_true, beq_iff_eq] at h
  rcases h with ((⟨h1, h2⟩ | ⟨h1, h2⟩) | ⟨h1, h2⟩) | ⟨h1, h2⟩
  all_goals rw [h1, h2]
  · exact ⟨.int .i64 a, by kernel_rfl, by rw [run_equalIn_int w 9998 _ _ _ _ _ Tryz.underlying3]; simp⟩
  · exact ⟨.int .i64 b, by kernel_rfl, by rw [run_equalIn_int w 9998 _ _ _ _ _ Tryz.underlying3]; simp⟩
  · exact ⟨.int .u32 c, by kernel_rfl, by rw [run_equalIn_int w 9998 _ _ _ _ _ Tryz.underlying23]; simp⟩
  · exact ⟨.int .u32 d, by kernel_rfl, by rw [run_equalIn_int w 9998 _ _ _ _ _ Tryz.underlying23]; simp⟩
set_option maxHeartbeats 2000000 in
theorem notes12_same (w : World) (x y : Option Addr) (c d : Nat) (N : List Nt) (hN : (N.length : Int) ≤ 900000) (hx : Lies w x (nts N)) (hy : Lies w y (nts N)) :
    Calls Tryz.prog 19 #[.slice x N.length c, .slice y N.length d] w fun e w' => e = .returned (.bool true) ∧ Kep w w' := by
  have hx' : Hid (Lies w x (nts N)) := hx
  have hy' : Hid (Lies w y (nts N)) := hy
  have hs := @nt_same
  obtain ⟨n, hn⟩ : ∃ n, Hid (N.length = n) := ⟨_, rfl⟩
  rw [hn.out] at hN
  rw [hn.out]
  clear hx hy
  go_enter Tryz.func19, Tryz.ntmps19
  go_wp2_with fail
  go_loopw [5] (fun i wr => ∃ k : Nat, (k : Int) ≤ n ∧ i = .int .i64 k ∧ Hid (Kep w wr)) (fun i _ => n - (intOf i).toNat)
  case atStart => exact ⟨0, by omega, rfl, Kep.refl _⟩
  case round =>
    obtain ⟨k, hk, rfl, K⟩ := hrel
    by_cases hlt : k < n
    · have hkN : k < N.length := by rw [hn.out]; exact hlt
      obtain ⟨e, he⟩ : ∃ e, N[k]? = some e := ⟨_, List.getElem?_eq_getElem hkN⟩
      have hne : nts N ≠ [] := fun e => by have := congrArg List.length e; rw [nts_len] at this; simp at this; omega
      obtain ⟨R, o, rfl, _, hc⟩ := (hx'.out.kep K.out).resolve_left hne
      obtain ⟨S, u, rfl, _, hd⟩ := (hy'.out.kep K.out).resolve_left hne
      have at_ : ∀ j, j < 4 → (nts N)[k * 4 + j]? = (ntV e)[j]? := fun j hj => nts_at N k e he j hj
      have c0 : wr.cell? ⟨R, o + k * 4, none⟩ = some (.int .i64 e.1) := hc _ _ (at_ 0 (by omega))
      have c1 : wr.cell? ⟨R, o + k * 4 + 1, none⟩ = some (.int .i64 e.2.1) := hc _ _ (at_ 1 (by omega))
      have c2 : wr.cell? ⟨R, o + k * 4 + 2, none⟩ = some (.int .u32 e.2.2.1) := hc _ _ (at_ 2 (by omega))
      have c3 : wr.cell? ⟨R, o + k * 4 + 3, none⟩ = some (.int .u32 e.2.2.2) := hc _ _ (at_ 3 (by omega))
      have d0 : wr.cell? ⟨S, u + k * 4, none⟩ = some (.int .i64 e.1) := hd _ _ (at_ 0 (by omega))
      have d1 : wr.cell? ⟨S, u + k * 4 + 1, none⟩ = some (.int .i64 e.2.1) := hd _ _ (at_ 1 (by omega))
      have d2 : wr.cell? ⟨S, u + k * 4 + 2, none⟩ = some (.int .u32 e.2.2.1) := hd _ _ (at_ 2 (by omega))
      have d3 : wr.cell? ⟨S, u + k * 4 + 3, none⟩ = some (.int .u32 e.2.2.2) := hd _ _ (at_ 3 (by omega))
      clear hc hd hx' hy' at_ he hne
      generalize e.1 = e0 at *
      generalize e.2.1 = e1 at *
      generalize e.2.2.1 = e2 at *
      generalize e.2.2.2 = e3 at *
      have hlt' : (k : Int) < n := by omega
      have hq := hs e0 e1 e2 e3
      clear hs
      go_wp2_with fail
      go_region
      all_goals
        go_wp2_with fail
        go_roundw
        case rel => exact ⟨k + 1, by omega, by go_num, K.out.drew⟩
        case measure => simp [intOf]; omega
    · obtain rfl : k = n := by omega
      clear hs
      go_wp2_with fail
      go_ret
      exact ⟨rfl, K.out⟩
def scX (x : MS) (E : List Ev) : MS := ⟨{ x.d with E := E }, x.B, x.s, x.n, x.N⟩
theorem scX_self {x : MS} {E : List Ev} (h : x.d.E = E) : scX x E = x := by subst h; rfl
theorem giveS_sc (s : DS) (E : List Ev) (v : Int) : giveS { s with E := E } v = { giveS s v with E := E } := by unfold giveS; split <;> rfl
theorem writeS_sc (s : DS) (E : List Ev) (p v : Int) : writeS { s with E := E } p v = { writeS s p v with E := E } := by
  unfold writeS
  repeat' split
  all_goals first | rfl | exact giveS_sc s E v
theorem readS_sc (s : DS) (E : List Ev) (p : Int) : readS { s with E := E } p = { readS s p with E := E } := by unfold readS; split <;> rfl
theorem finD_sc (s : DS) (E : List Ev) (rd wr : Bool) (p v : Int) : finD { s with E := E } rd wr p v = { finD s rd wr p v with E := E } := by
  cases rd <;> cases wr <;> unfold finD <;> simp only [writeS_sc, readS_sc]
theorem takenS_sc (s : DS) (E : List Ev) (c : Int) : takenS { s with E := E } c = { takenS s c with E := E } := by
  unfold takenS
  repeat' split
  all_goals rfl
theorem oneF_sc (x : MS) (E : List Ev) (ix : List Nat) : oneF (scX x E) ix = oneF x ix := rfl
theorem endX_sc (x : MS) (E : List Ev) (ix : List Nat) (f : Fin) : endX (scX x E) ix f = scX (endX x ix f) E := by
  cases f with
  | fail k a => rfl
  | ok t q at_ rd wr port value =>
    show MS.mk (finD { x.d with E := E } rd wr port value) _ _ _ _ = _
    rw [finD_sc]; rfl
theorem oneX_sc (x : MS) (E : List Ev) (ix : List Nat) : oneX (scX x E) ix = scX (oneX x ix) E := by
  unfold oneX
  rw [oneF_sc]
  show (if x.s.h then _ else _) = _
  split
  · rfl
  · exact endX_sc x E ix _
theorem takX_sc (x : MS) (E : List Ev) : takX (scX x E) = scX (takX x) E := by
  unfold takX
  show (if x.s.h then _ else if tkI x = 0 then _ else dlvX ⟨takenS { x.d with E := E } (tkI x), _, _, _, _⟩ _ _ _) = _
  split
  · rfl
  · split
    · rfl
    · rw [takenS_sc]; rfl
theorem stp_sc {x : MS} {E : List Ev} {ix : List Nat} (h1 : comX x ix = x) (h2 : comX (scX x E) ix = scX x E) : stpX (scX x E) ix = scX (stpX x ix) E := by
  unfold stpX
  rw [h1, h2]
  show (if x.s.h then _ else if tkI x = 0 then _ else _) = _
  split
  · rfl
  · split
    · exact oneX_sc x E ix
    · exact takX_sc x E
theorem com_nil {x : MS} (ix : List Nat) (h : x.d.E = []) : comX x ix = x := by
  unfold comX comeC
  rw [show (CS.mk x.d x.B [] []).s.E.length = 0 by show x.d.E.length = 0; rw [h]; rfl]
  rfl
theorem com_wait {x : MS} (ix : List Nat) {e : Ev} (h : x.d.E = [e]) (hn : x.n < e.1) : comX x ix = x := by
  unfold comX comeC
  rw [show (CS.mk x.d x.B [] []).s.E.length = 1 by show x.d.E.length = 1; rw [h]; rfl]
  have hd : dueB x.n x.d = false := by unfold dueB; rw [h]; simp; omega
  unfold comeN
  rw [show dueB x.n (CS.mk x.d x.B [] []).s = false from hd]
  rfl
theorem run_delay (ix : List Nat) (e : Ev) : ∀ (k : Nat) (x : MS), x.d.E = [] → x.n + k ≤ e.1 → runX ix k (scX x [e]) = scX (runX ix k x) [e] ∧ runN ix k (scX x [e]) = runN ix k x
  | 0, x, _, _ => ⟨rfl, rfl⟩
  | k + 1, x, h, hk => by
    have c1 := com_nil ix h
    have c2 : comX (scX x [e]) ix = scX x [e] := com_wait ix rfl (by show x.n < e.1; omega)
    have hs := stp_sc c1 c2
    have hE : (stpX x ix).d.E = [] := by
      have c3 : comX (scX x []) ix = scX x [] := com_nil ix rfl
      have := stp_sc c1 c3
      rw [scX_self h] at this
      rw [this]; rfl
    have hn : (stpX x ix).n + k ≤ e.1 := by
      cases hh : x.s.h with
      | true =>
        have : stpX x ix = x := by unfold stpX; rw [hh]; rfl
        rw [this]; omega
      | false => rw [stp_n hh]; omega
    obtain ⟨i1, i2⟩ := run_delay ix e k (stpX x ix) hE hn
    refine ⟨?_, ?_⟩
    · show runX ix k (stpX (scX x [e]) ix) = scX (runX ix k (stpX x ix)) [e]
      rw [hs]; exact i1
    · show (if x.s.h then 0 else runN ix k (stpX (scX x [e]) ix) + 1) = (if x.s.h then 0 else runN ix k (stpX x ix) + 1)
      rw [hs, i2]
theorem err_one (at_ : Nat) (h : at_ < 256) (D : List Int) : errI [((at_ : Int), 0, 0)] D = errI [] D := by
  have hw : wrongB ((at_ : Int), 0, 0) = false := by unfold wrongB; simp; omega
  unfold errI
  simp [hw]
theorem ok_sc {s : DS} (h : s.Ok) (E : List Ev) (hE : ∀ e ∈ E, wrongB e = false ∧ 0 ≤ e.2.2 ∧ e.2.2 < 256) : DS.Ok { s with E := E } :=
  ⟨h.b, h.m, h.q, h.qb, h.d, h.d6, h.db, h.n, h.a, h.f, h.t, h.cmd, hE⟩
theorem wrong_at (at_ : Nat) (h : at_ < 256) : wrongB ((at_ : Int), 0, 0) = false := by unfold wrongB; simp; omega
end Go.Proofs.YtojoobonienhnaaGreatDoor
