/- A port of the document's devices is written. -/
import Derived.Test.YtpieeefeicdfgabVrd
import Derived.Deep.RegionHeld3
namespace Go.Proofs.Ytpieeefeicdfgab
open Go.RowKit
set_option linter.unusedVariables false
set_option linter.unusedSimpArgs false

theorem rset_at {w : World} {p : Nat} {s s' : DS} {vS : Value} {E0 : List Ev} {c : Nat} {k f t k' f' t' : Int} {vq vo vd : Value} {Fq Fo Fd F : List Nat} (h : RDAt w p s vS E0 c k f t vq vo vd Fq Fo Fd) (hF : F = p :: (Fq ++ (Fo ++ Fd))) (j : Nat) (u : Value) (hb : (rdC s vS c k f t vq vo vd).setIfInBounds j u = rdC s' vS c k' f' t' vq vo vd)
    (e1 : s'.E = s.E) (e2 : s'.Q = s.Q) (e3 : s'.O = s.O) (e4 : s'.D = s.D) (e5 : s'.s = 1 → k' = s'.k ∧ f' = s'.f ∧ t' = s'.t) : RDv (w.setCell ⟨p, j, none⟩ u) p s' vS E0 F ∧ Put F w (w.setCell ⟨p, j, none⟩ u) := by
  have P : Put [p] w (w.setCell ⟨p, j, none⟩ u) := (Put.refl w).setCell (by simp) _
  have b1 := box_set (j := j) h.box u
  rw [hb] at b1
  exact ⟨⟨_, _, _, _, _, _, _, _, _, _, h.turn P b1 (e1.trans h.E) h.lc e2 e3 e4 e5, hF⟩, P.mono (by rw [hF]; simp)⟩

/-- What is left of the bits behind some of v's. -/
theorem clr_three {b v : Int} (hb : 0 ≤ b ∧ b ≤ 7) (hv : 0 ≤ v ∧ v < 4294967296) : (bif hasB v 4 then clrI (bif hasB v 2 then clrI (bif hasB v 1 then clrI b 1 else b) 2 else (bif hasB v 1 then clrI b 1 else b)) 4 else (bif hasB v 2 then clrI (bif hasB v 1 then clrI b 1 else b) 2 else (bif hasB v 1 then clrI b 1 else b))) = clrI b v := by
  have h1 := Int.emod_two_eq v
  have h2 := Int.emod_two_eq (v / 2)
  have h3 := Int.emod_two_eq (v / 4)
  have e : v / 1 = v := by omega
  unfold hasB clrI
  rw [e]
  rcases low8 hb with rfl | rfl | rfl | rfl | rfl | rfl | rfl | rfl <;> rcases h1 with h1 | h1 <;> rcases h2 with h2 | h2 <;> rcases h3 with h3 | h3 <;> rw [h1, h2, h3] <;> decide
def cl1 (b v : Int) : Int := bif hasB v 1 then clrI b 1 else b
def cl2 (b v : Int) : Int := bif hasB v 2 then clrI (cl1 b v) 2 else cl1 b v
def cl4 (b v : Int) : Int := bif hasB v 4 then clrI (cl2 b v) 4 else cl2 b v
theorem cl4_is {b v : Int} (hb : 0 ≤ b ∧ b ≤ 7) (hv : 0 ≤ v ∧ v < 4294967296) : cl4 b v = clrI b v := clr_three hb hv
theorem cl1_low {b v : Int} (hb : 0 ≤ b ∧ b ≤ 7) : 0 ≤ cl1 b v ∧ cl1 b v ≤ 7 := by unfold cl1; cases hasB v 1; exact hb; exact clr_low hb
theorem cl2_low {b v : Int} (hb : 0 ≤ b ∧ b ≤ 7) : 0 ≤ cl2 b v ∧ cl2 b v ≤ 7 := by unfold cl2; cases hasB v 2; exact cl1_low hb; exact clr_low (cl1_low hb)
/-- Between two bits of a write. -/
def WrR (w : World) (p : Nat) (s : DS) (vS : Value) (E0 : List Ev) (F : List Nat) (v : Int) (i : Value) (wr : World) : Prop := ∃ b, RDv wr p { s with b := b } vS E0 F ∧ Put F w wr ∧ ((i = .int .u32 1 ∧ b = s.b) ∨ (i = .int .u32 2 ∧ b = cl1 s.b v) ∨ (i = .int .u32 4 ∧ b = cl2 s.b v) ∨ (i = .int .u32 8 ∧ b = cl4 s.b v))
theorem RDv.bit {w : World} {p : Nat} {s : DS} {vS : Value} {E0 : List Ev} {F : List Nat} (h : RDv w p s vS E0 F) : w.cell? ⟨p, 2, none⟩ = some (.int .u32 s.b) ∧ w.frozen? ⟨p, 2, none⟩ = false := by
  obtain ⟨c, k, f, t, vq, vo, vd, Fq, Fo, Fd, D, hF⟩ := h
  exact ⟨D.c' 2, D.fz 2⟩
theorem RDv.setb {w : World} {p : Nat} {s : DS} {vS : Value} {E0 : List Ev} {F : List Nat} (h : RDv w p s vS E0 F) (x : Int) : RDv (w.setCell ⟨p, 2, none⟩ (.int .u32 x)) p { s with b := x } vS E0 F ∧ Put F w (w.setCell ⟨p, 2, none⟩ (.int .u32 x)) := by
  obtain ⟨c, k, f, t, vq, vo, vd, Fq, Fo, Fd, D, hF⟩ := h
  exact rset_at (s' := { s with b := x }) D hF 2 _ rfl rfl rfl rfl rfl D.cmd
theorem cl1_t {b v : Int} (h : hasB v 1 = true) : cl1 b v = clrI b 1 := by unfold cl1; rw [h]; rfl
theorem cl1_f {b v : Int} (h : hasB v 1 = false) : cl1 b v = b := by unfold cl1; rw [h]; rfl
theorem cl2_t {b v : Int} (h : hasB v 2 = true) : cl2 b v = clrI (cl1 b v) 2 := by unfold cl2; rw [h]; rfl
theorem cl2_f {b v : Int} (h : hasB v 2 = false) : cl2 b v = cl1 b v := by unfold cl2; rw [h]; rfl
theorem cl4_t {b v : Int} (h : hasB v 4 = true) : cl4 b v = clrI (cl2 b v) 4 := by unfold cl4; rw [h]; rfl
theorem cl4_f {b v : Int} (h : hasB v 4 = false) : cl4 b v = cl2 b v := by unfold cl4; rw [h]; rfl

set_option maxHeartbeats 4000000 in
set_option maxRecDepth 100000 in
theorem rwrite_any {w : World} {p : Nat} {s : DS} {vS : Value} {E0 : List Ev} {F : List Nat} (h : RDv w p s vS E0 F) (ok : s.Ok) (hO : (s.O.length : Int) < 1000000) (port v : Int) (hv : 0 ≤ v ∧ v < 4294967296) :
    Calls Try.prog 50 #[.pointer (some ⟨p, 0, none⟩), .int .i64 port, .int .u32 v] w fun e w' => e = .returned (.tuple #[]) ∧ ∃ F', RDv w' p (writeS s port v) vS E0 F' ∧ Put F w w' ∧ ∀ g ∈ F', g ∈ F ∨ w.heap.size ≤ g := by
  have h' : Hid (RDv w p s vS E0 F) := h
  obtain ⟨c, k, f, t, vq, vo, vd, Fq, Fo, Fd, D, hF⟩ := h
  have D' : Hid (RDAt w p s vS E0 c k f t vq vo vd Fq Fo Fd) := D
  have hp : Hid (p ∈ F) := by rw [Hid, hF]; simp
  have hF' : Hid (F = p :: (Fq ++ (Fo ++ Fd))) := hF
  have c3 : w.cell? ⟨p, 3, none⟩ = some (.int .u32 s.m) := D.c' 3
  have c5 : w.cell? ⟨p, 5, none⟩ = some vo := D.c' 5
  have c7 : w.cell? ⟨p, 7, none⟩ = some (.int .u32 s.n) := D.c' 7
  have c8 : w.cell? ⟨p, 8, none⟩ = some (.int .u32 s.a) := D.c' 8
  have c9 : w.cell? ⟨p, 9, none⟩ = some (.int .u32 s.s) := D.c' 9
  have c10 : w.cell? ⟨p, 10, none⟩ = some (.int .u32 k) := D.c' 10
  have c11 : w.cell? ⟨p, 11, none⟩ = some (.int .u32 f) := D.c' 11
  have c12 : w.cell? ⟨p, 12, none⟩ = some (.int .u32 t) := D.c' 12
  have fz := D.fz
  have hv0 := hv.1
  have hv1 := hv.2
  clear hF
  by_cases h0 : port = 0
  · subst h0
    obtain ⟨i0, hi, hz0, hz1, hz2⟩ := info_parts vinfo_u8
    obtain ⟨xo, co, hvo, _⟩ := D.o.lies
    obtain ⟨x, hx⟩ : ∃ x, x = v % 256 := ⟨_, rfl⟩
    have q1 : v % 256 = x := by omega
    have q2 : x % 256 = x := by omega
    have hA : Hid (RDAt (w.alloc (.cells #[.int .u8 x] 5)) p s vS E0 c k f t vq vo vd Fq Fo Fd) := D.kep ((Kep.refl _).alloc _)
    have hsl := hA.out.o
    have fz' : Hid (∀ (w' : World) F0, Put F0 (w.alloc (.cells #[.int .u8 x] 5)) w' → p ∉ F0 → w'.cell? ⟨p, 5, none⟩ = some vo ∧ w'.frozen? ⟨p, 5, none⟩ = false) := fun w' F0 kk hp => by
      have hb := kk.keeps hA.out.box hp
      exact ⟨(cell_of_block hb).trans rfl, by simp [World.frozen?, hb]⟩
    subst hvo
    have hpo : Hid (p ∉ Fo) := D.po
    have ew : Hid (writeS s 0 v = { s with O := s.O ++ [x] }) := by unfold Hid writeS; rw [hx]; rfl
    rw [ew.out]
    clear D ok hv hx
    go_enter Try.func50, Try.ntmps50
    go_wp2_with (at_builtin; refine wpList_append_sli rfl (.tmp 13) (.tmp 17) 37 rfl 5 i0 _ 1 1 Try.underlying37 hi hz0 hz1 hz2 rfl (by decide) _ s.O.length (byt s.O) Fo rfl hsl ⟨w.heap.size, 0, none⟩ 1 [.int .u8 x] rfl rfl cell_news (by simp [Value.oneCell']) (by unfold maxLen; omega) (by omega) ?_; intro v' w1 F1 S1 P1 H1; obtain ⟨d0, d1⟩ := fz'.out w1 Fo P1.out hpo.out; obtain ⟨x1, c1, rfl, _⟩ := S1.out.lies)
    go_end0
    obtain ⟨r1, r2, r3⟩ := hA.out.newo (O' := s.O ++ [x]) P1.out (by simpa [byt] using S1.out) H1.out
    refine ⟨rfl, _, ⟨_, _, _, _, _, _, _, _, _, _, r1, rfl⟩, ?_, fun g hg => ?_⟩
    · rw [hF'.out]; exact (Put.of_kep ((Kep.refl w).alloc _)).trans r2
    · rw [hF'.out]; exact (r3 g hg).imp id fun h => by simp at h; omega
  by_cases h2 : port = 2
  · subst h2
    clear D ok hv h0
    go_enter Try.func50, Try.ntmps50
    go_wp2_with fail
    go_end0
    obtain ⟨r1, r2⟩ := rset_at (s' := { s with n := v }) D'.out hF'.out 7 (.int .u32 v) rfl rfl rfl rfl rfl D'.out.cmd
    exact ⟨rfl, F, r1, r2, fun g hg => .inl hg⟩
  by_cases h3 : port = 3
  · subst h3
    clear D ok hv h0 h2
    go_enter Try.func50, Try.ntmps50
    go_wp2_with fail
    go_end0
    obtain ⟨r1, r2⟩ := rset_at (s' := { s with a := v }) D'.out hF'.out 8 (.int .u32 v) rfl rfl rfl rfl rfl D'.out.cmd
    exact ⟨rfl, F, r1, r2, fun g hg => .inl hg⟩
  by_cases h4 : port = 4
  · subst h4
    by_cases hs : s.s ≠ 1 ∧ (v = 1 ∨ v = 2)
    · have e : writeS s 4 v = { s with k := v, f := s.n, t := s.a, s := 1 } := by simp [writeS, giveS, hs]
      rw [e]
      have t1 : (s.s != 1) = true := by simp [hs.1]
      have PP : Hid (∀ w1, w1 = (((w.setCell ⟨p, 9, none⟩ (.int .u32 1)).setCell ⟨p, 10, none⟩ (.int .u32 v)).setCell ⟨p, 11, none⟩ (.int .u32 s.n)).setCell ⟨p, 12, none⟩ (.int .u32 s.a) → RDv w1 p { s with k := v, f := s.n, t := s.a, s := 1 } vS E0 F ∧ Put F w w1) := fun w1 ew => by
        subst ew
        have P : Put [p] w ((((w.setCell ⟨p, 9, none⟩ (.int .u32 1)).setCell ⟨p, 10, none⟩ (.int .u32 v)).setCell ⟨p, 11, none⟩ (.int .u32 s.n)).setCell ⟨p, 12, none⟩ (.int .u32 s.a)) := ((((Put.refl w).setCell (by simp) _).setCell (by simp) _).setCell (by simp) _).setCell (by simp) _
        have b1 := box_set (j := 9) D'.out.box (.int .u32 1)
        have b2 := box_set (j := 10) b1 (.int .u32 v)
        have b3 := box_set (j := 11) b2 (.int .u32 s.n)
        have b4 := box_set (j := 12) b3 (.int .u32 s.a)
        exact ⟨⟨_, _, _, _, _, _, _, _, _, _, D'.out.turn (s' := { s with k := v, f := s.n, t := s.a, s := 1 }) P b4 D'.out.E D'.out.lc rfl rfl rfl (fun _ => ⟨rfl, rfl, rfl⟩), hF'.out⟩, P.mono (by rw [hF'.out]; simp)⟩
      rcases hs.2 with hv12 | hv12
      · subst hv12
        clear D ok hv h0 h2 h3 e hs
        go_enter Try.func50, Try.ntmps50
        go_wp2_with fail
        go_end0
        obtain ⟨r1, r2⟩ := PP.out _ rfl
        exact ⟨rfl, F, r1, r2, fun g hg => .inl hg⟩
      · subst hv12
        clear D ok hv h0 h2 h3 e hs
        go_enter Try.func50, Try.ntmps50
        go_wp2_with fail
        go_end0
        obtain ⟨r1, r2⟩ := PP.out _ rfl
        exact ⟨rfl, F, r1, r2, fun g hg => .inl hg⟩
    · have e : writeS s 4 v = s := by simp only [writeS, giveS, if_neg hs]; rfl
      rw [e]
      by_cases h1 : s.s = 1
      · have t1 : (s.s != 1) = false := by simp [h1]
        clear D ok hv h0 h2 h3 e hs h1
        go_enter Try.func50, Try.ntmps50
        go_wp2_with fail
        go_end0
        exact ⟨rfl, F, h'.out, Put.refl _, fun g hg => .inl hg⟩
      · have t1 : (s.s != 1) = true := by simp [h1]
        have t2 : (v == 1) = false := by simp; intro hh; exact hs ⟨h1, .inl hh⟩
        have t3 : (v == 2) = false := by simp; intro hh; exact hs ⟨h1, .inr hh⟩
        clear D ok hv h0 h2 h3 e hs h1
        go_enter Try.func50, Try.ntmps50
        go_wp2_with fail
        go_end0
        exact ⟨rfl, F, h'.out, Put.refl _, fun g hg => .inl hg⟩
  by_cases h5 : port = 5
  · subst h5
    clear D ok hv h0 h2 h3 h4
    go_enter Try.func50, Try.ntmps50
    go_wp2_with fail
    go_end0
    obtain ⟨r1, r2⟩ := rset_at (s' := { s with m := v % 8 }) D'.out hF'.out 3 (.int .u32 (v % 8)) rfl rfl rfl rfl rfl D'.out.cmd
    exact ⟨rfl, F, r1, r2, fun g hg => .inl hg⟩
  by_cases h6 : port = 6
  · subst h6
    have e : writeS s 6 v = { s with b := clrI s.b v } := rfl
    rw [e]
    have hb := ok.b
    have HH : Hid (∀ w q, (q = 1 ∨ q = 2 ∨ q = 4) → Calls Try.prog 74 #[.int .u32 v, .int .u32 q] w fun e w' => e = .returned (.bool (hasB v q)) ∧ w' = w) := fun w q hq => rhas_bit w v q hv hq
    have HW : Hid (∀ w b q, (0 ≤ b ∧ b ≤ 7) → (q = 1 ∨ q = 2 ∨ q = 4) → Calls Try.prog 73 #[.int .u32 b, .int .u32 q] w fun e w' => e = .returned (.int .u32 (clrI b q)) ∧ w' = w) := fun w b q hb hq => rwithout_any w b q hb hq
    have hb' : Hid (0 ≤ s.b ∧ s.b ≤ 7) := hb
    have h4e : Hid (cl4 s.b v = clrI s.b v) := cl4_is hb hv
    clear D ok hv hv0 hv1 h0 h2 h3 h4 h5 c3 c5 c7 c8 c9 c10 c11 c12 fz e hb
    go_enter Try.func50, Try.ntmps50
    go_wp2_with fail
    go_loopw [6] (fun i wr => WrR w p s vS E0 F v i wr) (fun i _ => 10 - (intOf i).toNat)
    case atStart => exact ⟨s.b, h'.out, Put.refl _, .inl ⟨rfl, rfl⟩⟩
    case round =>
      obtain ⟨b, R, PR, hi⟩ := hrel
      have R' : Hid (RDv wr p { s with b := b } vS E0 F) := R
      have PR' : Hid (Put F w wr) := PR
      obtain ⟨cb, fb⟩ := R.bit
      have cb' : wr.cell? ⟨p, 2, none⟩ = some (.int .u32 b) := cb
      clear R PR cb
      rcases hi with ⟨rfl, hbb⟩ | ⟨rfl, hbb⟩ | ⟨rfl, hbb⟩ | ⟨rfl, hbb⟩
      case inl =>
        have hlow : Hid (0 ≤ b ∧ b ≤ 7) := by rw [Hid, hbb]; exact hb'.out
        have hb2 : Hid (b = s.b) := hbb
        have HH1 := HH.out wr 1 (by simp)
        have HW1 : Hid (Calls Try.prog 73 #[.int .u32 b, .int .u32 1] wr fun e w' => e = .returned (.int .u32 (clrI b 1)) ∧ w' = wr) := HW.out wr b 1 hlow.out (by simp)
        have T : Hid (∀ x, RDv (wr.setCell ⟨p, 2, none⟩ (.int .u32 x)) p { s with b := x } vS E0 F ∧ Put F w (wr.setCell ⟨p, 2, none⟩ (.int .u32 x))) := fun x => ⟨(R'.out.setb x).1, PR'.out.trans (R'.out.setb x).2⟩
        have e1 : hasB v 1 = true → clrI b 1 = cl1 s.b v := fun h => by rw [cl1_t h, hb2.out]
        have e2 : hasB v 1 = false → b = cl1 s.b v := fun h => by rw [cl1_f h, hb2.out]
        clear hb2 hbb HH HW
        generalize hasB v 1 = hv1 at HH1 e1 e2
        have HH1' : Hid (Calls Try.prog 74 #[.int .u32 v, .int .u32 1] wr fun e w' => e = .returned (.bool hv1) ∧ w' = wr) := HH1
        clear HH1
        cases hv1 with
        | true =>
          have e1' : Hid (clrI b 1 = cl1 s.b v) := e1 rfl
          clear e1 e2
          go_wp2_with (first | (go_at_call 74; refine HH1'.out.mono ?_; rintro e w1 ⟨rfl, rfl⟩) | (go_at_call 73; refine HW1.out.mono ?_; rintro e w1 ⟨rfl, rfl⟩))
          go_roundw
          case rel => exact ⟨_, (T.out _).1, (T.out _).2, .inr (.inl ⟨rfl, e1'.out⟩)⟩
          case measure => simp [intOf]
        | false =>
          have e2' : Hid (b = cl1 s.b v) := e2 rfl
          clear e1 e2
          go_wp2_with (go_at_call 74; refine HH1'.out.mono ?_; rintro e w1 ⟨rfl, rfl⟩)
          go_roundw
          case rel => exact ⟨_, R'.out, PR'.out, .inr (.inl ⟨rfl, e2'.out⟩)⟩
          case measure => simp [intOf]
      case inr.inl =>
        have hlow : Hid (0 ≤ b ∧ b ≤ 7) := by rw [Hid, hbb]; exact cl1_low hb'.out
        have hb2 : Hid (b = cl1 s.b v) := hbb
        have HH1 := HH.out wr 2 (by simp)
        have HW1 : Hid (Calls Try.prog 73 #[.int .u32 b, .int .u32 2] wr fun e w' => e = .returned (.int .u32 (clrI b 2)) ∧ w' = wr) := HW.out wr b 2 hlow.out (by simp)
        have T : Hid (∀ x, RDv (wr.setCell ⟨p, 2, none⟩ (.int .u32 x)) p { s with b := x } vS E0 F ∧ Put F w (wr.setCell ⟨p, 2, none⟩ (.int .u32 x))) := fun x => ⟨(R'.out.setb x).1, PR'.out.trans (R'.out.setb x).2⟩
        have e1 : hasB v 2 = true → clrI b 2 = cl2 s.b v := fun h => by rw [cl2_t h, hb2.out]
        have e2 : hasB v 2 = false → b = cl2 s.b v := fun h => by rw [cl2_f h, hb2.out]
        clear hb2 hbb HH HW
        generalize hasB v 2 = hv1 at HH1 e1 e2
        have HH1' : Hid (Calls Try.prog 74 #[.int .u32 v, .int .u32 2] wr fun e w' => e = .returned (.bool hv1) ∧ w' = wr) := HH1
        clear HH1
        cases hv1 with
        | true =>
          have e1' : Hid (clrI b 2 = cl2 s.b v) := e1 rfl
          clear e1 e2
          go_wp2_with (first | (go_at_call 74; refine HH1'.out.mono ?_; rintro e w1 ⟨rfl, rfl⟩) | (go_at_call 73; refine HW1.out.mono ?_; rintro e w1 ⟨rfl, rfl⟩))
          go_roundw
          case rel => exact ⟨_, (T.out _).1, (T.out _).2, .inr (.inr (.inl ⟨rfl, e1'.out⟩))⟩
          case measure => simp [intOf]
        | false =>
          have e2' : Hid (b = cl2 s.b v) := e2 rfl
          clear e1 e2
          go_wp2_with (go_at_call 74; refine HH1'.out.mono ?_; rintro e w1 ⟨rfl, rfl⟩)
          go_roundw
          case rel => exact ⟨_, R'.out, PR'.out, .inr (.inr (.inl ⟨rfl, e2'.out⟩))⟩
          case measure => simp [intOf]
      case inr.inr.inl =>
        have hlow : Hid (0 ≤ b ∧ b ≤ 7) := by rw [Hid, hbb]; exact cl2_low hb'.out
        have hb2 : Hid (b = cl2 s.b v) := hbb
        have HH1 := HH.out wr 4 (by simp)
        have HW1 : Hid (Calls Try.prog 73 #[.int .u32 b, .int .u32 4] wr fun e w' => e = .returned (.int .u32 (clrI b 4)) ∧ w' = wr) := HW.out wr b 4 hlow.out (by simp)
        have T : Hid (∀ x, RDv (wr.setCell ⟨p, 2, none⟩ (.int .u32 x)) p { s with b := x } vS E0 F ∧ Put F w (wr.setCell ⟨p, 2, none⟩ (.int .u32 x))) := fun x => ⟨(R'.out.setb x).1, PR'.out.trans (R'.out.setb x).2⟩
        have e1 : hasB v 4 = true → clrI b 4 = cl4 s.b v := fun h => by rw [cl4_t h, hb2.out]
        have e2 : hasB v 4 = false → b = cl4 s.b v := fun h => by rw [cl4_f h, hb2.out]
        clear hb2 hbb HH HW
        generalize hasB v 4 = hv1 at HH1 e1 e2
        have HH1' : Hid (Calls Try.prog 74 #[.int .u32 v, .int .u32 4] wr fun e w' => e = .returned (.bool hv1) ∧ w' = wr) := HH1
        clear HH1
        cases hv1 with
        | true =>
          have e1' : Hid (clrI b 4 = cl4 s.b v) := e1 rfl
          clear e1 e2
          go_wp2_with (first | (go_at_call 74; refine HH1'.out.mono ?_; rintro e w1 ⟨rfl, rfl⟩) | (go_at_call 73; refine HW1.out.mono ?_; rintro e w1 ⟨rfl, rfl⟩))
          go_roundw
          case rel => exact ⟨_, (T.out _).1, (T.out _).2, .inr (.inr (.inr ⟨rfl, e1'.out⟩))⟩
          case measure => simp [intOf]
        | false =>
          have e2' : Hid (b = cl4 s.b v) := e2 rfl
          clear e1 e2
          go_wp2_with (go_at_call 74; refine HH1'.out.mono ?_; rintro e w1 ⟨rfl, rfl⟩)
          go_roundw
          case rel => exact ⟨_, R'.out, PR'.out, .inr (.inr (.inr ⟨rfl, e2'.out⟩))⟩
          case measure => simp [intOf]
      case inr.inr.inr =>
        have hb2 : Hid (b = cl4 s.b v) := hbb
        clear hbb
        go_wp2_with fail
        go_end0
        refine ⟨rfl, F, ?_, PR'.out, fun g hg => .inl hg⟩
        have := R'.out
        rw [hb2.out, h4e.out] at this; exact this
  have e : writeS s port v = s := by unfold writeS; rw [if_neg h0, if_neg h2, if_neg h3, if_neg h4, if_neg h5, if_neg h6]
  rw [e]
  have t0 : (port == 0) = false := by simp [h0]
  have t2 : (port == 2) = false := by simp [h2]
  have t3 : (port == 3) = false := by simp [h3]
  have t4 : (port == 4) = false := by simp [h4]
  have t5 : (port == 5) = false := by simp [h5]
  have t6 : (port == 6) = false := by simp [h6]
  clear D ok hv e h0 h2 h3 h4 h5 h6
  go_enter Try.func50, Try.ntmps50
  go_wp2_with fail
  go_end0
  exact ⟨rfl, F, h'.out, Put.refl _, fun g hg => .inl hg⟩
end Go.Proofs.Ytpieeefeicdfgab
