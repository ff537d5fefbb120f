/- The disk's command is done, by the document: a frame to the disk. -/
import Derived.Test.YtpieeefeicdfgabVrdk
namespace Go.Proofs.Ytpieeefeicdfgab
open Go.RowKit
set_option linter.unusedVariables false
set_option linter.unusedSimpArgs false

set_option maxHeartbeats 4000000 in
set_option maxRecDepth 100000 in
theorem rmove_out {w : World} {p : Nat} {s : DS} {vS : Value} {E0 : List Ev} {F : List Nat} (h : RDv w p s vS E0 F) (ok : s.Ok) (hs : s.s = 1) (hk : s.k = 2) (n Rb : Nat) (B : List Int) (hn : (n : Int) ≤ 512) (hB : RowB w Rb B) (hl : B.length = 64 * n) (hR : Rb ∉ F) (hc : canB s.D n s.f s.t = true) :
    Calls Try.prog 70 #[.pointer (some ⟨p, 0, none⟩), refV (some ⟨Rb, 0, none⟩) (64 * n)] w fun e w' => e = .returned (.int .i64 (-1)) ∧ RDv w' p { s.clear with s := 0, D := splice s.D (64 * s.f.toNat) (frameL B (s.t / 64).toNat) } vS E0 F ∧ RowB w' Rb B ∧ Put (Rb :: F) w w' := by
  obtain ⟨c, k, f, t, vq, vo, vd, Fq, Fo, Fd, D, hF⟩ := h
  obtain ⟨rfl, rfl, rfl⟩ := D.cmd hs
  obtain ⟨hc1, hc2, hc3⟩ := can_parts hc
  have hf := ok.f
  have ht := ok.t
  have hd := ok.d
  obtain ⟨a, ha⟩ : ∃ a : Nat, a = 64 * s.f.toNat := ⟨_, rfl⟩
  obtain ⟨o, ho⟩ : ∃ o : Nat, o = s.t.toNat := ⟨_, rfl⟩
  have haD : a + 64 ≤ s.D.length := by omega
  have hoB : o + 64 ≤ B.length := by omega
  have hBn : B ≠ [] := by intro e; rw [e] at hoB; simp at hoB
  have lR := hB.lt hBn
  rcases D.d.form with ⟨_, h0, _⟩ | ⟨g, off, cap, hvd, hFd, hd1, hd2, hg, _, _⟩
  · omega
  obtain ⟨W, hW⟩ : ∃ W, Hid (W = w.alloc (.cells #[.slice (some ⟨Rb, 0, none⟩) (64 * n) (64 * n)] 42)) := ⟨_, rfl⟩
  have KW : Kep w W := by rw [hW.out]; exact (Kep.refl _).alloc _
  have DW := D.kep KW
  have d6 : W.cell? ⟨p, 6, none⟩ = some vd := DW.c' 6
  have c6 : w.cell? ⟨p, 6, none⟩ = some vd := D.c' 6
  have d9 : W.cell? ⟨p, 9, none⟩ = some (.int .u32 s.s) := DW.c' 9
  have d11 : W.cell? ⟨p, 11, none⟩ = some (.int .u32 s.f) := DW.c' 11
  have d12 : W.cell? ⟨p, 12, none⟩ = some (.int .u32 s.t) := DW.c' 12
  have hbx : W.heap[w.heap.size]? = some (.cells #[.slice (some ⟨Rb, 0, none⟩) (64 * n) (64 * n)] 42 (0, 0)) := by rw [hW.out]; exact hat _ _ _ rfl
  have db : W.cell? ⟨w.heap.size, 0, none⟩ = some (.slice (some ⟨Rb, 0, none⟩) (64 * n) (64 * n)) := by rw [cell_of_block hbx]; rfl
  have f9 := DW.fz 9
  have lp := block_lt D.box
  have I0 : Hid (∀ m, MovI w p { s.clear with s := 0 } s.k s.f s.t vS E0 c vq vo vd Fq Fo Fd (some ⟨Rb, 0, none⟩) n Rb B F ((W.drewN m).setCell ⟨p, 9, none⟩ (.int .u32 0))) := fun m => by
    have D1 := DW.kep ((Kep.refl W).drewN m)
    have P : Put [p] (W.drewN m) ((W.drewN m).setCell ⟨p, 9, none⟩ (.int .u32 0)) := (Put.refl _).setCell (by simp) _
    have hRp : Rb ∉ [p] := by simp; rintro rfl; exact hR (by rw [hF]; simp)
    exact ⟨D1.turn (s' := { s.clear with s := 0 }) P (box_set D1.box _) D.E D.lc rfl rfl rfl (by simp [DS.clear]), (hB.kep (KW.drewN m)).put P hRp, P.keeps (x := .cells #[.slice (some ⟨Rb, 0, none⟩) (64 * n) (64 * n)] 42 (0, 0)) hbx (by simp; omega), (Put.of_kep (KW.drewN m)).trans (P.mono (by rw [hF]; simp))⟩
  have ho4 : o = 64 * (s.t / 64).toNat := by omega
  have hfin : Hid (cpy s.D B a o 64 = splice s.D (64 * s.f.toNat) (frameL B (s.t / 64).toNat)) := by rw [Hid, ha, ho4]; exact cpy_all _ _ _ _
  clear ho4
  have hF' : Hid (F = p :: (Fq ++ (Fo ++ Fd))) := hF
  have hR' : Hid (Rb ∉ F) := hR
  have hRw : Hid (Rb ≠ w.heap.size) := by unfold Hid; omega
  have hcl : Hid (∀ k, k < 64 → ∃ x, B[o + k]? = some x) := fun k hk => ⟨_, List.getElem?_eq_getElem (by omega)⟩
  have hlB : Hid (B.length = 64 * n) := hl
  have hFd' : Hid (Fd = [g]) := hFd
  have hgw : Hid (g < w.heap.size) := hg
  have hDs : Hid (a + 64 ≤ s.D.length) := haD
  have hoB' : Hid (o + 64 ≤ B.length) := hoB
  obtain ⟨m, hm⟩ : ∃ m : Int, m = ((s.D.length / 64 : Nat) : Int) := ⟨_, rfl⟩
  have hm32 : m ≤ 32 := by omega
  have hm0 : 0 ≤ m := by omega
  have t1 : decide (m ≤ s.f) = false := decide_eq_false (by omega)
  have t2 : (s.t % 64 != 0) = false := by simp [hc2]
  have t3 : decide (64 * (n : Int) ≤ s.t) = false := decide_eq_false (by omega)
  have ea : s.f * 64 = (a : Int) := by omega
  have eo : s.t = (o : Int) := by omega
  have ht0 : 0 ≤ s.t := ht.1
  have ht1 : s.t < 32768 := by omega
  have hf0 : 0 ≤ s.f := hf.1
  have hf1 : s.f < 32 := by omega
  have ha64 : Hid ((a : Int) + 64 ≤ s.D.length) := by unfold Hid; omega
  have ho64 : Hid ((o : Int) + 64 ≤ 64 * n) := by unfold Hid; omega
  have eo' : Hid (s.t = (o : Int)) := eo
  have ea' : Hid (s.f * 64 = (a : Int)) := ea
  have hvd' : Hid (vd = .slice (some ⟨g, off, none⟩) s.D.length cap) := hvd
  have hnd : Hid ((s.D.length : Int) ≤ 2048 ∧ s.D.length ≤ cap ∧ cap ≤ maxLen) := ⟨by omega, hd1, hd2⟩
  have em : (s.D.length : Int) / 64 = m := by omega
  have ea5 : (a : Int) ≤ 4294967296 := by omega
  have g0 : wrap64 ((s.D.length : Int) / 64) = m := wrap64_low em hm0 (Int.le_trans hm32 (by decide))
  have g2 : IntKind.i64.wrap s.t = s.t := i64_same ht.1 ht.2
  have g3 : IntKind.i64.wrap s.f = s.f := i64_same hf.1 hf.2
  have g4 : wrap64 (s.f * 64) = a := wrap64_low ea (Int.natCast_nonneg a) ea5
  clear em ea5
  rw [hk] at I0
  subst hvd
  generalize s.f = sf at *
  generalize s.t = st at *
  clear D DW KW hbx hB hl hR hF hc1 hc2 hc3 hf ht hd haD hoB hBn lR hm ea eo hs ok hc ha ho hFd hd1 hd2 hg
  go_enter Try.func70, Try.ntmps70
  go_wp2_with fail
  rw [← hW.out]
  go_quiet (fail)
  go_wp2_with fail
  clear g0 t1 t2 t3 d6 c6 d9 d11 d12 db f9
  go_loopw [6] (fun i wr => ∃ j : Nat, (j : Int) ≤ 64 ∧ i = .int .i64 j ∧ Hid (MovI w p { s.clear with s := 0, D := cpy s.D B a o j } 2 sf st vS E0 c vq vo (.slice (some ⟨g, off, none⟩) s.D.length cap) Fq Fo Fd (some ⟨Rb, 0, none⟩) n Rb B F wr)) (fun i _ => 64 - (intOf i).toNat)
  case atStart => exact ⟨0, by decide, rfl, by rw [cpy_zero]; exact I0.out _⟩
  case round =>
    obtain ⟨j, hj, rfl, I⟩ := hrel
    have e6 : wr.cell? ⟨p, 6, none⟩ = some (.slice (some ⟨g, off, none⟩) s.D.length cap) := I.out.dev.c' 6
    have e10 : wr.cell? ⟨p, 10, none⟩ = some (.int .u32 2) := I.out.dev.c' 10
    have e11 : wr.cell? ⟨p, 11, none⟩ = some (.int .u32 sf) := I.out.dev.c' 11
    have e12 : wr.cell? ⟨p, 12, none⟩ = some (.int .u32 st) := I.out.dev.c' 12
    have eb : wr.cell? ⟨w.heap.size, 0, none⟩ = some (.slice (some ⟨Rb, 0, none⟩) (64 * n) (64 * n)) := (cell_of_block I.out.box).trans rfl
    by_cases hlt : j < 64
    · have hlt' : (j : Int) < 64 := by clear g2 g3 g4; omega
      obtain ⟨xb, hxb⟩ := hcl.out j hlt
      obtain ⟨A, hA⟩ : ∃ A : Nat, Hid (A = a + j) := ⟨_, rfl⟩
      obtain ⟨T, hT⟩ : ∃ T : Nat, Hid (T = o + j) := ⟨_, rfl⟩
      have hAn : A < s.D.length := by clear g2 g3 g4; have := hA.out; have := ha64.out; omega
      have hAn' : (A : Int) < s.D.length := by clear g2 g3 g4; omega
      have hTn : (T : Int) < 64 * n := by clear g2 g3 g4; have := hT.out; have := ho64.out; omega
      have hTn' : T < 64 * n := by clear g2 g3 g4; omega
      have hlc : (cpy s.D B a o j).length = s.D.length := cpy_len (by have := hDs.out; clear g2 g3 g4; omega) (by have := hoB'.out; clear g2 g3 g4; omega)
      have x1 : ∃ old, wr.cell? ⟨g, off + A, none⟩ = some (.int .u8 old) := by
        rcases I.out.dev.d.form with ⟨h0, _⟩ | ⟨g', off', cap', hv, _, _, _, _, hcell, _⟩
        · cases h0
        · simp only [Value.slice.injEq, Option.some.injEq, Addr.mk.injEq, and_true] at hv
          obtain ⟨⟨rfl, rfl⟩, _, rfl⟩ := hv
          have hAl : A < (cpy s.D B a o j).length := by rw [hlc]; exact hAn
          exact ⟨_, hcell A _ (by rw [byt_at]; show (cpy s.D B a o j)[A]?.map _ = _; rw [List.getElem?_eq_getElem hAl]; rfl)⟩
      obtain ⟨old, x1⟩ := x1
      have x3 : wr.frozen? ⟨g, off + A, none⟩ = false := by
        have hAc : A < cap * 1 := by have := hnd.out.2.1; clear g2 g3 g4; omega
        rcases I.out.dev.d.form with ⟨h0, _⟩ | ⟨g', off', cap', hv, _, _, _, _, _, hfz⟩
        · cases h0
        · simp only [Value.slice.injEq, Option.some.injEq, Addr.mk.injEq, and_true] at hv
          obtain ⟨⟨rfl, rfl⟩, _, rfl⟩ := hv
          exact (hfz A hAc).2
      have hTl : T < B.length := by rw [hlB.out]; exact hTn'
      have x2 : wr.cell? ⟨Rb, T, none⟩ = some (.int .u8 xb) := by
        rw [I.out.row.cell hTl]
        have : B.getD T 0 = xb := by rw [List.getD, hT.out, hxb]; rfl
        rw [this]
      have g5 : sf * 64 + (j : Int) = A := by clear g2 g3 g4; have := hA.out; have := ea'.out; omega
      have g6 : st + (j : Int) = T := by clear g2 g3 g4; have := hT.out; have := eo'.out; omega
      have hN : Hid (∀ m, MovI w p { s.clear with s := 0, D := cpy s.D B a o (j + 1) } 2 sf st vS E0 c vq vo (.slice (some ⟨g, off, none⟩) s.D.length cap) Fq Fo Fd (some ⟨Rb, 0, none⟩) n Rb B F (((wr.drewN m).drew).setCell ⟨g, off + A, none⟩ (.int .u8 xb))) := fun m => by
        have := (I.out.kep (((Kep.refl wr).drewN m).drew)).disk hF'.out hFd'.out hR'.out hgw.out hlc A hAn xb
        rw [hA.out] at this ⊢
        rw [cpy_next (x := xb) (by have := hDs.out; clear g2 g3 g4 g5 g6; omega) (by have := hoB'.out; clear g2 g3 g4 g5 g6; omega) hxb]
        exact this
      have hmx : (s.D.length : Int) ≤ 9223372036854775807 := by clear g2 g3 g4 g5 g6; have := hnd.out.1; omega
      have hmx2 : (s.D.length : Int) ≤ cap := by clear g2 g3 g4 g5 g6; have := hnd.out.2.1; omega
      clear hTl hlc hxb hlt hj
      go_wp2_with fail
      go_quiet (fail)
      go_wp2_with fail
      refine region_still 11 (by kernel_rfl) (by kernel_rfl) ?_
      simp only [List.take_succ_cons, List.take_zero, List.drop_succ_cons, List.drop_zero]
      repeat still_step
      refine wpStill_nil ?_
      go_wp2_with fail
      go_roundw
      case rel => exact ⟨j + 1, by clear g2 g3 g4 g5 g6; omega, by clear g2 g3 g4 g5 g6; go_num, hN.out _⟩
      case measure => clear g2 g3 g4 g5 g6; simp [intOf]; omega
    · have hj64 : j = 64 := by clear g2 g3 g4; omega
      subst hj64
      go_wp2_with fail
      go_ret
      have dv := I.out.dev
      rw [hfin.out] at dv
      exact ⟨rfl, ⟨_, _, _, _, _, _, _, _, _, _, dv, hF'.out⟩, I.out.row, I.out.put⟩

/-- A command's end, by the document: as devices have it. -/
theorem rmove_any {w : World} {p : Nat} {s : DS} {vS : Value} {E0 : List Ev} {F : List Nat} (h : RDv w p s vS E0 F) (ok : s.Ok) (hs : s.s = 1) (n Rb : Nat) (B : List Int) (hn : (n : Int) ≤ 512) (hB : RowB w Rb B) (hl : B.length = 64 * n) (hR : Rb ∉ F) :
    Calls Try.prog 70 #[.pointer (some ⟨p, 0, none⟩), refV (some ⟨Rb, 0, none⟩) (64 * n)] w fun e w' => ∃ r : Int, e = .returned (.int .i64 r) ∧ ((finF s n = [] ∧ r = -1) ∨ (finF s n = [r] ∧ 0 ≤ r ∧ r < n)) ∧ RDv w' p (finS s (List.range n) B) vS E0 F ∧ RowB w' Rb (finM s (List.range n) B) ∧ Put (Rb :: F) w w' := by
  have hk : s.k = 1 ∨ s.k = 2 := by rcases ok.cmd with h | h; exact h.2; omega
  have ht := ok.t
  cases hc : canB s.D n s.f s.t with
  | false =>
    refine (rmove_fail h ok hs _ n hn hc).mono ?_
    rintro e w' ⟨rfl, d, k⟩
    have hc' : ¬ canB s.D (List.range n).length s.f s.t = true := by rw [List.length_range, hc]; simp
    refine ⟨-1, rfl, .inl ⟨by unfold finF; rw [if_neg (by rw [hc]; simp)], rfl⟩, ?_, ?_, k.mono (by simp +contextual)⟩
    · unfold finS; rw [if_neg hc']; exact d
    · unfold finM; rw [if_neg (fun h => hc' h.1)]; exact hB.put k hR
  | true =>
    obtain ⟨hc1, hc2, hc3⟩ := can_parts hc
    have hc' : canB s.D (List.range n).length s.f s.t = true := by rw [List.length_range]; exact hc
    rcases hk with hk | hk
    · refine (rmove_in h ok hs hk n Rb B hn hB hl hR hc).mono ?_
      rintro e w' ⟨rfl, d, r, k⟩
      refine ⟨_, rfl, .inr ⟨by unfold finF; rw [if_pos ⟨hc, by omega⟩], by omega, by omega⟩, ?_, ?_, k⟩
      · unfold finS; rw [if_pos hc', if_neg (by omega)]; exact d
      · unfold finM
        rw [if_pos ⟨hc', by omega⟩]
        have hf : (frameL s.D s.f.toNat).length = 64 := frameL_len (by have := ok.f; omega)
        rw [layL_chunk _ _ _ _ (by rw [hf]; omega) (by rw [pos_range (by omega), hf]; omega), pos_range (by omega)]
        exact r
    · refine (rmove_out h ok hs hk n Rb B hn hB hl hR hc).mono ?_
      rintro e w' ⟨rfl, d, r, k⟩
      refine ⟨-1, rfl, .inl ⟨by unfold finF; rw [if_neg (by omega)], rfl⟩, ?_, ?_, k⟩
      · unfold finS; rw [if_pos hc', if_pos hk]
        have e : (List.range n).getD (s.t / 64).toNat 0 = (s.t / 64).toNat := by
          have : (s.t / 64).toNat < n := by omega
          simp [List.getD, this]
        rw [e]; exact d
      · unfold finM; rw [if_neg (fun h => h.2 hk)]; exact r
end Go.Proofs.Ytpieeefeicdfgab
