/- What comes, by the document. -/
import Derived.Test.YtpieeefeicdfgabVrdc
import Derived.Deep.RegionHeld3
import Derived.Deep.Cut
namespace Go.Proofs.Ytpieeefeicdfgab
open Go.RowKit
set_option linter.unusedVariables false
set_option linter.unusedSimpArgs false

theorem vinfo_bool : (Try.prog.info? 4).map (fun i => (i.zero, i.size, i.bytes)) = some (some (.bool false), 1, 1) := by kernel_rfl
theorem vinfo_int : (Try.prog.info? 3).map (fun i => (i.zero, i.size, i.bytes)) = some (some (.int .i64 0), 1, 8) := by kernel_rfl
theorem news_ev {w : World} {a b c : Int} : ∀ j u, (evV (a, b, c))[j]? = some u → (w.alloc (.cells #[.int .i64 a, .int .i64 b, .int .u8 c] 68)).cell? ((⟨w.heap.size, 0, none⟩ : Addr).add j) = some u := fun j u hj => by
  rw [Addr.add_lit, Nat.zero_add, cell_of_block (heap_alloc_new w _)]; simpa [evV] using hj
theorem ev_ones (a b c : Int) : ∀ u ∈ evV (a, b, c), u.oneCell' = true := by simp [evV, Value.oneCell']
/-- The frames below k that were written. -/
def fbel (f : List Int) (k : Nat) : List Int := f.filter fun t => decide (t < k)
theorem fbel_zero {n : Nat} {f : List Int} (h : f = [] ∨ ∃ t : Nat, t < n ∧ f = [(t : Int)]) : fbel f 0 = [] := by
  rcases h with rfl | ⟨t, _, rfl⟩
  · rfl
  · simp [fbel]
theorem fbel_all {n : Nat} {f : List Int} (h : f = [] ∨ ∃ t : Nat, t < n ∧ f = [(t : Int)]) : fbel f n = f := by
  rcases h with rfl | ⟨t, ht, rfl⟩
  · rfl
  · simp [fbel]; omega
theorem fbel_yes {n k : Nat} {f : List Int} (h : f = [] ∨ ∃ t : Nat, t < n ∧ f = [(t : Int)]) (hk : (k : Int) ∈ f) : fbel f (k + 1) = fbel f k ++ [(k : Int)] := by
  rcases h with rfl | ⟨t, ht, rfl⟩
  · simp at hk
  · simp at hk
    obtain rfl : k = t := by omega
    simp [fbel]; omega
theorem fbel_no {n k : Nat} {f : List Int} (h : f = [] ∨ ∃ t : Nat, t < n ∧ f = [(t : Int)]) (hk : ¬ (k : Int) ∈ f) : fbel f (k + 1) = fbel f k := by
  rcases h with rfl | ⟨t, ht, rfl⟩
  · rfl
  · simp at hk
    have : ((t : Int) < k + 1) = ((t : Int) < k) := propext (by omega)
    unfold fbel
    rw [List.filter_cons, List.filter_cons]
    simp [this]

set_option maxHeartbeats 8000000 in
set_option maxRecDepth 100000 in
theorem rcome_any {W0 w : World} {p : Nat} {s : DS} {xS : Option Addr} {cS : Nat} {E0 : List Ev} {F0 : List Nat} (h : RDv w p s (.slice xS E0.length cS) E0 F0) (ok : s.Ok) (hE : E0.length ≤ 64) (K0 : Kep W0 w) (hS : Lies W0 xS (evs E0)) (hF0 : ∀ g ∈ F0, W0.heap.size ≤ g)
    (n Rb : Nat) (B : List Int) (hn1 : 1 ≤ n) (hn : (n : Int) ≤ 512) (hB : RowB w Rb B) (hl : B.length = 64 * n) (hBy : Byts B) (hR : Rb ∉ F0) (hRb : W0.heap.size ≤ Rb) (step : Int) :
    Calls Try.prog 44 #[.pointer (some ⟨p, 0, none⟩), .int .i64 step, refV (some ⟨Rb, 0, none⟩) (64 * n)] w fun e w' => ∃ (x : CS) (vl vf : Value) (F Gl Gf : List Nat), x = comeC step (List.range n) ⟨s, B, [], []⟩ ∧ e = .returned (.tuple #[vl, vf]) ∧ RDv w' p x.s (.slice xS E0.length cS) E0 F ∧ RowB w' Rb x.B ∧ Sli w' 68 3 vl x.c.length (evs x.c) Gl ∧ Sli w' 3 1 vf x.f.length (x.f.map (Value.int .i64)) Gf ∧ Put (Rb :: F0) w w' ∧ (∀ g ∈ F, g ∈ F0 ∨ w.heap.size ≤ g) ∧ x.Ok (List.range n) ∧ x.B.length = 64 * n ∧ x.c.length ≤ 64 := by
  have hBn : B ≠ [] := by intro e; rw [e] at hl; simp at hl; omega
  have lR := hB.lt hBn
  have hF0w := h.lt
  obtain ⟨i4, hi4, hz40, hz41, hz42⟩ := info_parts vinfo_bool
  obtain ⟨i3, hi3, hz30, hz31, hz32⟩ := info_parts vinfo_int
  obtain ⟨i1, hi1, hz10, hz11, hz12⟩ := info_parts info_ev
  obtain ⟨i0, hi0, hz00, hz01, hz02⟩ := info_parts vinfo_u8
  have hE3 : s.E.length ≤ 64 := by
    obtain ⟨c, k, f, t, vq, vo, vd, Fq, Fo, Fd, D, _⟩ := h
    rw [D.E, List.length_drop]; omega
  have hstart : Hid (∀ W' vw Gw, Kep (w.alloc (.cells #[.slice (some ⟨Rb, 0, none⟩) (64 * n) (64 * n)] 42)) W' → Sli W' 4 1 vw n (wrow n []) Gw → (∀ g ∈ Gw, w.heap.size < g) → RCA w p (.slice xS E0.length cS) E0 F0 Rb n ⟨s, B, [], []⟩ W' F0 (.slice none 0 0) [] vw Gw) := fun W' vw Gw K S hG => by
    have K' : Kep w W' := kep_trans ((Kep.refl w).alloc _) K
    have hb : W'.heap[w.heap.size]? = some (.cells #[.slice (some ⟨Rb, 0, none⟩) (64 * n) (64 * n)] 42 (0, 0)) := K.block (hat _ _ _ rfl)
    exact ⟨h.kep K', hB.kep K', hb, Sli.nil _ _ _, S, Put.of_kep K', fun g hg => .inl hg, by simp, fun g hg => ⟨hG g hg, fun hm => by have := hF0w g hm; have := hG g hg; omega, by simp⟩, hF0w, lR, hR, ⟨ok, hBy, fits_range hl⟩, hl, by simpa using hE3, .inl rfl, .inl rfl, block_lt hb⟩
  have hScr : Hid (∀ wr, Put (Rb :: F0) w wr → Lies wr xS (evs E0)) := fun wr P => hS.kep (K0.put P (fun g hg => by rcases List.mem_cons.1 hg with rfl | hg; exact hRb; exact hF0 g hg))
  have HW : Hid (∀ w b q, (0 ≤ b ∧ b ≤ 7) → (q = 1 ∨ q = 2 ∨ q = 4) → Calls Try.prog 69 #[.int .u32 b, .int .u32 q] w fun e w' => e = .returned (.int .u32 (orI b q)) ∧ w' = w) := fun w b q hb hq => rwith_any w b q hb hq
  have hn' : Hid ((n : Int) ≤ 512) := hn
  have hn1' : Hid (1 ≤ n) := hn1
  have hE' : Hid (E0.length ≤ 64) := hE
  obtain ⟨nS, hnS⟩ : ∃ nS, Hid (nS = E0.length) := ⟨_, rfl⟩
  rw [← hnS.out] at hstart ⊢
  clear h ok hE K0 hS hF0 hB hBy hR hRb hBn lR hF0w hE3 hl
  go_enter Try.func44, Try.ntmps44
  go_wp2_with fail
  go_loopw [9, 10] (fun a i wr => ∃ k : Nat, (k : Int) ≤ n ∧ i = .int .i64 k ∧ Hid (Kep (w.alloc (.cells #[.slice (some ⟨Rb, 0, none⟩) (64 * n) (64 * n)] 42)) wr) ∧ Hid (wr.ownsRow (w.heap.size + 1) 4 1 a k (List.replicate k (.bool false)))) (fun _ i _ => n - (intOf i).toNat)
  case atStart => exact ⟨0, by omega, rfl, Kep.refl _, World.ownsRow_nil _ _ _ _⟩
  case round =>
    obtain ⟨k, hk, rfl, K, O⟩ := hrel
    have bx : wr.cell? ⟨w.heap.size, 0, none⟩ = some (.slice (some ⟨Rb, 0, none⟩) (64 * n) (64 * n)) := (cell_of_block (K.out.block (hat _ _ _ rfl))).trans rfl
    obtain ⟨xa, ca, rfl⟩ := owns_form O.out
    by_cases hlt : k < n
    · have hlt' : (k : Int) < n := by omega
      have oB : Hid ((wr.alloc (.cells #[.bool false] 4)).ownsRow (w.heap.size + 1) 4 1 (.slice xa k ca) k (List.replicate k (.bool false))) := (Soft.of_kep (B := 0) ((Kep.refl wr).alloc _)).owns O.out
      have sB : Hid (w.heap.size + 1 ≤ (wr.alloc (.cells #[.bool false] 4)).heap.size) := by have := K.out.size; rw [Hid, World.size_alloc]; rw [World.size_alloc] at this; omega
      have kb : (k : Int) + 1 ≤ 140737488355328 := by omega
      clear hlt hk
      go_wp2_with (at_builtin; refine wpList_append_own _ rfl (.tmp 23) (.tmp 24) 119 rfl (w.heap.size + 1) 4 i4 _ 1 1 Try.underlying119 hi4 hz40 hz41 hz42 rfl (by decide) _ k (List.replicate k (.bool false)) rfl oB.out ⟨wr.heap.size, 0, none⟩ 1 1 [.bool false] rfl rfl cell_news (by simp [Value.oneCell']) (by unfold maxLen; omega) (by omega) sB.out ?_; intro v' w1 hown hgrow _; have hown' : Hid _ := hown; have hgrow' : Hid _ := hgrow; clear hown hgrow)
      go_roundw
      case rel =>
        refine ⟨k + 1, by omega, by go_num, (kep_trans K.out ((Kep.refl wr).alloc _)).by hgrow'.out (fun b e => by have := (World.ownsRow.lt oB.out b e).1; simpa using this), ?_⟩
        rw [Hid, List.replicate_succ']; exact hown'.out
      case measure => simp [intOf]; omega
    · obtain rfl : n = k := by omega
      obtain ⟨Gw, Sw, hGw⟩ := Sli.of_owns O.out
      rw [← wrow_nil] at Sw
      have A0 : Hid (RCA w p (.slice xS nS cS) E0 F0 Rb n ⟨s, B, [], []⟩ wr F0 (.slice none 0 0) [] (.slice xa n ca) Gw) := hstart.out wr _ Gw K.out Sw (fun g hg => by have := hGw g hg; omega)
      clear Sw hGw O K hstart hk hlt
      go_wp2_with fail
      clear bx
      go_loopw [8] (fun a wz => ∃ x F Gl, Hid (RCA w p (.slice xS nS cS) E0 F0 Rb n x wz F a Gl (.slice xa n ca) Gw) ∧ Hid (comeC step (List.range n) ⟨s, B, [], []⟩ = comeC step (List.range n) x)) (fun a _ => 64 - lenV a)
      case atStart => exact ⟨_, _, _, A0, rfl⟩
      case round =>
        obtain ⟨x, F, Gl, A, hx0⟩ := hrel
        clear A0
        obtain ⟨c, ck, cf, ct, vq, vo, vd, Fq, Fo, Fd, D, hF⟩ := A.out.dev
        have c0 : wr.cell? ⟨p, 0, none⟩ = some (.slice xS nS cS) := D.c' 0
        have c1 : wr.cell? ⟨p, 1, none⟩ = some (.int .i64 c) := D.c' 1
        obtain ⟨xl, cl, hvl, _⟩ := A.out.l.lies
        subst hvl
        by_cases hdue : dueB step x.s = true
        case pos =>
          cases hx : x.s.E with
          | nil => unfold dueB at hdue; rw [hx] at hdue; cases hdue
          | cons e r =>
          obtain ⟨ea, eb, ec⟩ := e
          have hD := D.E
          rw [hx] at hD
          obtain ⟨hc1, hc2, hc3⟩ := drop_cons hD.symm
          have hd : ea ≤ step := by unfold dueB at hdue; rw [hx] at hdue; simpa using hdue
          have hev := A.out.ok.s.ev (ea, eb, ec) (by rw [hx]; simp)
          have hkind : eb = 0 ∨ eb = 1 ∨ eb = 2 := wrong_kind hev.1
          have hec : Hid (0 ≤ ec ∧ ec < 256) := hev.2
          have hnext : Hid (comeC step (List.range n) ⟨s, B, [], []⟩ = comeC step (List.range n) (nxt step (List.range n) x)) := by rw [Hid, hx0.out]; exact comeC_due hdue
          have hc2' : c < nS := by rw [hnS.out]; exact hc2
          have t1 : decide (c < nS) = true := decide_eq_true hc2'
          have t2 : decide (ea ≤ step) = true := decide_eq_true hd
          have c64 : (nS : Int) ≤ 64 := by rw [hnS.out]; have := hE'.out; omega
          have hlt' : (c : Int) < nS := by omega
          rcases hScr.out wr A.out.put with h0 | ⟨b, off, hxs, hb, hcell⟩
          · have := evs_len E0; rw [h0] at this; simp at this; omega
          subst hxs
          have s0 : wr.cell? ⟨b, off + c * 3, none⟩ = some (.int .i64 ea) := hcell _ _ (by have := evs_at E0 c _ hc1 0 (by omega); simpa [evV] using this)
          have s1 : wr.cell? ⟨b, off + c * 3 + 1, none⟩ = some (.int .i64 eb) := by rw [Nat.add_assoc]; exact hcell _ _ (by have := evs_at E0 c _ hc1 1 (by omega); simpa [evV] using this)
          have s2 : wr.cell? ⟨b, off + c * 3 + 2, none⟩ = some (.int .u8 ec) := by rw [Nat.add_assoc]; exact hcell _ _ (by have := evs_at E0 c _ hc1 2 (by omega); simpa [evV] using this)
          have C8 : Hid (∀ W', Kep wr W' → W'.cell? ⟨p, 0, none⟩ = some (.slice (some ⟨b, off, none⟩) nS cS) ∧ W'.cell? ⟨p, 1, none⟩ = some (.int .i64 c) ∧ W'.cell? ⟨b, off + c * 3, none⟩ = some (.int .i64 ea) ∧ W'.cell? ⟨b, off + c * 3 + 1, none⟩ = some (.int .i64 eb) ∧ W'.cell? ⟨b, off + c * 3 + 2, none⟩ = some (.int .u8 ec)) := fun W' K => ⟨(D.kep K).c' 0, (D.kep K).c' 1, (K.cell hb).trans s0, (K.cell hb).trans s1, (K.cell hb).trans s2⟩
          have hx' : Hid (x.s.E = (ea, eb, ec) :: r) := hx
          have hc3' : Hid (E0.drop (c + 1) = r) := hc3
          have D' : Hid (RDAt wr p x.s (.slice (some ⟨b, off, none⟩) nS cS) E0 c ck cf ct vq vo vd Fq Fo Fd) := D
          have hF' : Hid (F = p :: (Fq ++ (Fo ++ Fd))) := hF
          have hlc : Hid (c + 1 ≤ E0.length) := hc2
          clear D hF hx hD hc1 hc2 hc3 hcell hd hdue hev hx0
          go_wp2_with fail
          go_quiet (fail)
          clear s0 s1 s2 c0 c1
          go_wp2_with fail
          have K2 : Hid (Kep wr (wr.drewN nq)) := (Kep.refl _).drewN _
          generalize wr.drewN nq = W2 at K2 ⊢
          obtain ⟨c0, c1, s0, s1, s2⟩ := C8.out W2 K2.out
          have lp := block_lt (D'.out.kep K2.out).box
          have lb : b < W2.heap.size := Nat.lt_of_lt_of_le hb K2.out.size
          go_region_held3 (fun w' => w'.cell? ⟨p, 0, none⟩ = some (.slice (some ⟨b, off, none⟩) nS cS) ∧ w'.cell? ⟨p, 1, none⟩ = some (.int .i64 c) ∧ w'.cell? ⟨b, off + c * 3, none⟩ = some (.int .i64 ea) ∧ w'.cell? ⟨b, off + c * 3 + 1, none⟩ = some (.int .i64 eb) ∧ w'.cell? ⟨b, off + c * 3 + 2, none⟩ = some (.int .u8 ec)) (refine ⟨?_, ?_, ?_, ?_, ?_⟩ <;> (repeat (first | assumption | (with_reducible refine ck_alloc ?_) | (with_reducible refine ck_drew ?_) | (with_reducible refine ck_set (by omega) ?_)))) (fail)
          have K3 : Hid (Kep wr ((W2.alloc (.cells #[.int .i64 ea, .int .i64 eb, .int .u8 ec] 68)).drew)) := ((K2.out).alloc _).drew
          have hbe : Hid (((W2.alloc (.cells #[.int .i64 ea, .int .i64 eb, .int .u8 ec] 68)).drew).heap[W2.heap.size]? = some (.cells #[.int .i64 ea, .int .i64 eb, .int .u8 ec] 68 (0, 0))) := hat _ _ _ rfl
          have hbl : Hid (wr.heap.size ≤ W2.heap.size) := K2.out.size
          generalize (W2.alloc (.cells #[.int .i64 ea, .int .i64 eb, .int .u8 ec] 68)).drew = V at K3 hbe ⊢
          generalize W2.heap.size = be at hbe hbl ⊢
          clear c0 c1 s0 s1 s2 lb lp K2 C8
          have D1 := D'.out.kep K3.out
          have A1 := A.out.kep K3.out
          have hRF := A.out.rb
          have hbF : Hid (∀ g ∈ Rb :: F, g ≠ be) := fun g hg => by
            have := hbl.out
            rcases List.mem_cons.1 hg with rfl | hg
            · have := A.out.r0; have := A.out.big; omega
            · have := A.out.dev.lt g hg; omega
          have hpF : p ∈ F := by rw [hF'.out]; simp
          have d1 : V.cell? ⟨p, 1, none⟩ = some (.int .i64 c) := D1.c' 1
          have f1 := D1.fz 1
          have P2 : Put [p] V (V.setCell ⟨p, 1, none⟩ (.int .i64 ((c : Int) + 1))) := (Put.refl V).setCell (by simp) _
          have D2 : Hid (RDAt (V.setCell ⟨p, 1, none⟩ (.int .i64 ((c : Int) + 1))) p { x.s with E := r } (.slice (some ⟨b, off, none⟩) nS cS) E0 (c + 1) ck cf ct vq vo vd Fq Fo Fd) := D1.turn (s' := { x.s with E := r }) (c' := c + 1) P2 (box_set D1.box _) hc3'.out.symm hlc.out rfl rfl rfl D1.cmd
          have A2 : Hid (RCA w p (.slice (some ⟨b, off, none⟩) nS cS) E0 F0 Rb n ⟨{ x.s with E := r }, x.B, x.c, x.f⟩ (V.setCell ⟨p, 1, none⟩ (.int .i64 ((c : Int) + 1))) F (.slice xl x.c.length cl) Gl (.slice xa n ca) Gw) := A1.turn (P2.mono (by simp; exact .inr hpF)) ⟨_, _, _, _, _, _, _, _, _, _, D2.out, hF'.out⟩ (A1.row.put P2 (by simp; rintro rfl; exact hRF hpF)) (fun g hg => .inl hg) rfl ⟨⟨A1.ok.s.b, A1.ok.s.m, A1.ok.s.q, A1.ok.s.qb, A1.ok.s.d, A1.ok.s.d6, A1.ok.s.db, A1.ok.s.n, A1.ok.s.a, A1.ok.s.f, A1.ok.s.t, A1.ok.s.cmd, fun y hy => A1.ok.s.ev y (by rw [hx'.out]; simp [hy])⟩, A1.ok.B, A1.ok.fits⟩ (by rw [hx'.out]; simp) A1.one
          have he2 : Hid ((V.setCell ⟨p, 1, none⟩ (.int .i64 ((c : Int) + 1))).heap[be]? = some (.cells #[.int .i64 ea, .int .i64 eb, .int .u8 ec] 68 (0, 0))) := P2.keeps hbe.out (by simp; intro e; exact hbF.out p (by simp [hpF]) e.symm)
          have hcnt : Hid (∀ E : List Ev, E.length = r.length → x.c.length + 1 + E.length ≤ 64) := fun E hE => by have := A.out.cnt; rw [hx'.out] at this; simp only [List.length_cons] at this; omega
          have hcl := hcnt.out r rfl
          have hm1 : Hid (x.c.length + 1 ≤ maxLen) := by unfold Hid maxLen; omega
          have hm2 : Hid ((x.c.length + 1) * 24 ≤ 140737488355328) := by unfold Hid; omega
          have hm3 : Hid (x.c.length + 1 ≤ 64) := by unfold Hid; omega
          clear hbe P2 D1 A1 hRF hcl A K3 D'
          go_upto_region 10 with fail
          generalize V.setCell ⟨p, 1, none⟩ (.int .i64 ((c : Int) + 1)) = V2 at D2 A2 he2 ⊢
          clear d1 f1
          have d2 : V2.cell? ⟨p, 2, none⟩ = some (.int .u32 x.s.b) := D2.out.c' 2
          have f2 := D2.out.fz 2
          have d4 : V2.cell? ⟨p, 4, none⟩ = some vq := D2.out.c' 4
          have d9 : V2.cell? ⟨p, 9, none⟩ = some (.int .u32 x.s.s) := D2.out.c' 9
          have hb7 : Hid (0 ≤ x.s.b ∧ x.s.b ≤ 7) := A2.out.ok.s.b
          rcases hkind with rfl | rfl | rfl
          case inl =>
            have e1 : V2.cell? ⟨be, 1, none⟩ = some (.int .i64 0) := (cell_of_block he2.out).trans rfl
            have Ab := RDv.setb (s := { x.s with E := r }) A2.out.dev (orI x.s.b 1)
            have A3 : Hid (RCA w p (.slice (some ⟨b, off, none⟩) nS cS) E0 F0 Rb n ⟨{ { x.s with E := r } with b := orI x.s.b 1 }, x.B, x.c, x.f⟩ (V2.setCell ⟨p, 2, none⟩ (.int .u32 (orI x.s.b 1))) F (.slice xl x.c.length cl) Gl (.slice xa n ca) Gw) := A2.out.turn (Ab.2.mono (by simp +contextual)) Ab.1 (A2.out.row.put Ab.2 A2.out.rb) (fun g hg => .inl hg) rfl ⟨Ok.bits A2.out.ok.s (or_low hb7.out (by simp)), A2.out.ok.B, A2.out.ok.fits⟩ (Nat.le_refl _) A2.out.one
            have he3 : Hid ((V2.setCell ⟨p, 2, none⟩ (.int .u32 (orI x.s.b 1))).heap[be]? = some (.cells #[.int .i64 ea, .int .i64 0, .int .u8 ec] 68 (0, 0))) := Ab.2.keeps he2.out (fun hm => hbF.out be (by simp [hm]) rfl)
            have hy : Hid (nxt step (List.range n) x = ⟨{ { x.s with E := r } with b := orI x.s.b 1 }, x.B, x.c ++ [(step, 0, ec)], x.f⟩) := by unfold Hid nxt; rw [hx'.out]; simp [evS, evM, evF]
            clear Ab d4 d9
            go_upto_region 21 with (go_at_call 69; refine (HW.out _ _ _ hb7.out (by simp)).mono ?_; rintro e wq ⟨rfl, hq⟩; rw [hq]; clear hq)
            generalize V2.setCell ⟨p, 2, none⟩ (.int .u32 (orI x.s.b 1)) = V3 at A3 he3 ⊢
            clear e1
            have LS : Hid (Sli (V3.alloc (.cells #[.int .i64 step, .int .i64 0, .int .u8 ec] 68)) 68 3 (.slice xl x.c.length cl) x.c.length (evs x.c) Gl) := A3.out.l.kep ((Kep.refl _).alloc _)
            have e1 : V3.cell? ⟨be, 1, none⟩ = some (.int .i64 0) := (cell_of_block he3.out).trans rfl
            have e2 : V3.cell? ⟨be, 2, none⟩ = some (.int .u8 ec) := (cell_of_block he3.out).trans rfl
            go_wp2_with (at_builtin; refine wpList_append_sli rfl (.tmp 134) (.tmp 141) 22 rfl 68 i1 _ 3 24 Try.underlying22 hi1 hz10 hz11 hz12 rfl (by decide) _ x.c.length (evs x.c) Gl rfl LS.out ⟨V3.heap.size, 0, none⟩ 1 (evV (step, 0, ec)) rfl rfl news_ev (ev_ones _ _ _) hm1.out hm2.out ?_; intro v' w1 F1 S1 P1 H1; obtain ⟨x1, c1, rfl, _⟩ := S1.out.lies)
            go_roundw
            case rel =>
              refine ⟨_, F, F1, RCA.more (A3.out.kep ((Kep.refl _).alloc _)) (step, 0, ec) P1.out S1.out H1.out ?_, ?_⟩
              · exact hcnt.out _ (by first | rfl | simp [finS_E, queueS_E])
              · rw [Hid, hnext.out, hy.out]
            case measure => simp [lenV]; have := hm3.out; omega
          case inr.inl =>
            obtain ⟨xq, cq, hvq, _⟩ := D2.out.q.lies
            have e1 : V2.cell? ⟨be, 1, none⟩ = some (.int .i64 1) := (cell_of_block he2.out).trans rfl
            by_cases hq : x.s.Q.length < 32
            · have t1 : decide ((x.s.Q.length : Int) < 32) = true := decide_eq_true (by omega)
              have t1' : (x.s.Q.length < 32) = True := eq_true hq
              have Ab := RDv.setb (s := { x.s with E := r }) A2.out.dev (orI x.s.b 2)
              have A3 : Hid (RCA w p (.slice (some ⟨b, off, none⟩) nS cS) E0 F0 Rb n ⟨{ { x.s with E := r } with b := orI x.s.b 2 }, x.B, x.c, x.f⟩ (V2.setCell ⟨p, 2, none⟩ (.int .u32 (orI x.s.b 2))) F (.slice xl x.c.length cl) Gl (.slice xa n ca) Gw) := A2.out.turn (Ab.2.mono (by simp +contextual)) Ab.1 (A2.out.row.put Ab.2 A2.out.rb) (fun g hg => .inl hg) rfl ⟨Ok.bits A2.out.ok.s (or_low hb7.out (by simp)), A2.out.ok.B, A2.out.ok.fits⟩ (Nat.le_refl _) A2.out.one
              have he3 : Hid ((V2.setCell ⟨p, 2, none⟩ (.int .u32 (orI x.s.b 2))).heap[be]? = some (.cells #[.int .i64 ea, .int .i64 1, .int .u8 ec] 68 (0, 0))) := Ab.2.keeps he2.out (fun hm => hbF.out be (by simp [hm]) rfl)
              have P3 : Put [p] V2 (V2.setCell ⟨p, 2, none⟩ (.int .u32 (orI x.s.b 2))) := (Put.refl V2).setCell (by simp) _
              have D3 : Hid (RDAt (V2.setCell ⟨p, 2, none⟩ (.int .u32 (orI x.s.b 2))) p { x.s with E := r, b := orI x.s.b 2 } (.slice (some ⟨b, off, none⟩) nS cS) E0 (c + 1) ck cf ct vq vo vd Fq Fo Fd) := RDAt.turn (s' := { x.s with E := r, b := orI x.s.b 2 }) D2.out P3 (box_set D2.out.box _) D2.out.E D2.out.lc rfl rfl rfl D2.out.cmd
              subst hvq
              clear Ab d9 A2 P3
              go_wp2_with (go_at_call 69; refine (HW.out _ _ _ hb7.out (by simp)).mono ?_; rintro e wq ⟨rfl, hq⟩; rw [hq]; clear hq)
              generalize V2.setCell ⟨p, 2, none⟩ (.int .u32 (orI x.s.b 2)) = V3 at A3 he3 D3 ⊢
              clear e1 d2 f2 d4 he2 D2
              have hQl : Hid (x.s.Q.length < 32) := hq
              obtain ⟨nq1, hnq1⟩ : ∃ nq1, Hid (nq1 = x.s.Q.length) := ⟨_, rfl⟩
              rw [← hnq1.out] at D3 ⊢
              have g4 : V3.drew.cell? ⟨p, 4, none⟩ = some (.slice xq nq1 cq) := D3.out.c' 4
              have g2 : V3.drew.cell? ⟨be, 2, none⟩ = some (.int .u8 ec) := (cell_of_block (w := V3.drew) he3.out).trans rfl
              have QS : Hid (Sli (V3.drew.alloc (.cells #[.int .u8 ec] 5)) 5 1 (.slice xq nq1 cq) nq1 (byt x.s.Q) Fq) := by
                have := (D3.out.kep (((Kep.refl V3).drew).alloc (.cells #[.int .u8 ec] 5))).q
                have e : ({ x.s with E := r, b := orI x.s.b 2 } : DS).Q.length = nq1 := hnq1.out.symm
                rw [e] at this; exact this
              have hm4 : Hid (nq1 + 1 ≤ maxLen) := by have := hnq1.out; unfold Hid maxLen; omega
              have hm5 : Hid ((nq1 + 1) * 1 ≤ 140737488355328) := by have := hnq1.out; unfold Hid; omega
              have fz' : Hid (∀ w', Put Fq (V3.drew.alloc (.cells #[.int .u8 ec] 5)) w' → w'.cell? ⟨p, 4, none⟩ = some (.slice xq nq1 cq) ∧ w'.frozen? ⟨p, 4, none⟩ = false) := fun w' P => by
                have hb := P.keeps (D3.out.kep (((Kep.refl V3).drew).alloc (.cells #[.int .u8 ec] 5))).box D3.out.pq
                exact ⟨(cell_of_block hb).trans rfl, by simp [World.frozen?, hb]⟩
              have hbe2 : Hid (be < (V3.drew.alloc (.cells #[.int .u8 ec] 5)).heap.size) := by have := block_lt he3.out; rw [Hid, World.size_alloc]; exact Nat.lt_succ_of_lt this
              have hbq : Hid (be ∉ Fq) := fun hm => hbF.out be (by rw [hF'.out]; simp [hm]) rfl
              have g1 : V3.drew.cell? ⟨be, 1, none⟩ = some (.int .i64 1) := (cell_of_block (w := V3.drew) he3.out).trans rfl
              have g4' : (V3.drew.alloc (.cells #[.int .u8 ec] 5)).cell? ⟨p, 4, none⟩ = some (.slice xq nq1 cq) := ck_alloc g4
              have g5' : (V3.alloc (.cells #[.int .u8 ec] 5)).drew.cell? ⟨p, 4, none⟩ = some (.slice xq nq1 cq) := ck_alloc (w := V3) g4
              have g6' : (V3.alloc (.cells #[.int .u8 ec] 5)).cell? ⟨p, 4, none⟩ = some (.slice xq nq1 cq) := ck_alloc (w := V3) g4
              have lp := block_lt D3.out.box
              have g7' : V3.cell? ⟨p, 4, none⟩ = some (.slice xq nq1 cq) := g4
              have lbe := block_lt he3.out
              refine wp_region_held_drew (S := fun w' => w'.cell? ⟨be, 2, none⟩ = some (.int .u8 ec)) (by kernel_rfl) g2 (fun hH => ?_)
              refine wpAnyH_take (i := 0) (v := .pointer (some ⟨p, 0, none⟩)) rfl (by kernel_rfl) (by kernel_rfl) (by kernel_rfl) (fun _ _ _ h => h) (.inl ⟨by rfl, by intro w hS; have g2 := hS; go_simp⟩) hH ?_
              (try dsimp only [Act.put]); (try simp only [Act.put, List.setIfInBounds_toArray, List.set_cons_zero, List.set_cons_succ])
              refine wpAnyH_take (i := 1) (v := .pointer (some ⟨p, 0, none⟩)) rfl (by kernel_rfl) (by kernel_rfl) (by kernel_rfl) (fun _ _ _ h => h) (.inl ⟨by rfl, by intro w hS; have g2 := hS; go_simp⟩) hH ?_
              (try dsimp only [Act.put]); (try simp only [Act.put, List.setIfInBounds_toArray, List.set_cons_zero, List.set_cons_succ])
              refine wpAnyH_take (i := 2) (v := .pointer (some ⟨p, 0, none⟩)) rfl (by kernel_rfl) (by kernel_rfl) (by kernel_rfl) (fun _ _ _ h => h) (.inl ⟨by rfl, by intro w hS; have g2 := hS; go_simp⟩) hH ?_
              (try dsimp only [Act.put]); (try simp only [Act.put, List.setIfInBounds_toArray, List.set_cons_zero, List.set_cons_succ])
              refine wpAnyH_take (i := 3) (v := .pointer (some ⟨p, 4, none⟩)) rfl (by kernel_rfl) (by kernel_rfl) (by kernel_rfl) (fun _ _ _ h => h) (.inl ⟨by rfl, by intro w hS; have g2 := hS; go_simp⟩) hH ?_
              (try dsimp only [Act.put]); (try simp only [Act.put, List.setIfInBounds_toArray, List.set_cons_zero, List.set_cons_succ])
              refine wpAnyH_take (i := 5) (v := .pointer (some ⟨be, 2, none⟩)) rfl (by kernel_rfl) (by kernel_rfl) (by kernel_rfl) (fun _ _ _ h => h) (.inl ⟨by rfl, by intro w hS; have g2 := hS; go_simp⟩) hH ?_
              (try dsimp only [Act.put]); (try simp only [Act.put, List.setIfInBounds_toArray, List.set_cons_zero, List.set_cons_succ])
              refine wpAnyH_take (i := 6) (v := .int .u8 ec) rfl (by kernel_rfl) (by kernel_rfl) (by kernel_rfl) (fun _ _ _ h => h) (.inl ⟨by rfl, by intro w hS; have g2 := hS; go_simp⟩) hH ?_
              (try dsimp only [Act.put]); (try simp only [Act.put, List.setIfInBounds_toArray, List.set_cons_zero, List.set_cons_succ])
              refine wpAnyH_ready (rs := [4, 7]) (by kernel_rfl) (by simp) ?_
              refine AllReadyH.cons rfl (fun K hK => ?_) ?_
              · skip
                rw [if_pos (by rfl)]
                go_simp
                refine hK.out _ _ hH (fun hH => ?_)
                clear hK K
                (try dsimp only [Act.put]); (try simp only [Act.put, List.setIfInBounds_toArray, List.set_cons_zero, List.set_cons_succ])
                refine wpAnyH_ready (rs := [7]) (by kernel_rfl) (by simp) ?_
                refine AllReadyH.cons rfl (fun K hK => ?_) AllReadyH.nil
                rw [if_pos (by rfl)]
                go_simp
                refine hK.out _ _ (ck_alloc hH) (fun hH => ?_)
                clear hK K
                (try dsimp only [Act.put]); (try simp only [Act.put, List.setIfInBounds_toArray, List.set_cons_zero, List.set_cons_succ])
                refine wpAnyH_ready (rs := [8]) (by kernel_rfl) (by simp) ?_
                refine AllReadyH.cons rfl (fun K hK => ?_) AllReadyH.nil
                rw [if_pos (by rfl)]
                refine wp_append_sli (.tmp 101) (.tmp 104) 37 rfl 5 i0 _ 1 1 Try.underlying37 hi0 hz00 hz01 hz02 rfl (by decide) _ nq1 (byt x.s.Q) Fq rfl QS.out ⟨V3.heap.size, 0, none⟩ 1 [.int .u8 ec] rfl rfl cell_news (by simp [Value.oneCell']) hm4.out hm5.out ?_
                intro v' w1 Fz S1 P1 H1
                obtain ⟨xz, cz, rfl, _⟩ := S1.out.lies
                obtain ⟨d0, d1⟩ := fz'.out w1 P1.out
                have dz1 : w1.cell? ⟨be, 1, none⟩ = some (.int .i64 1) := (P1.out.cell hbe2.out hbq.out).trans (ck_alloc g1)
                refine hK.out _ _ ((P1.out.cell hbe2.out hbq.out).trans hH) (fun hH => ?_)
                clear hK K
                (try dsimp only [Act.put]); (try simp only [Act.put, List.setIfInBounds_toArray, List.set_cons_zero, List.set_cons_succ])
                refine wpAnyH_ready (rs := [9]) (by kernel_rfl) (by simp) ?_
                refine AllReadyH.cons rfl (fun K hK => ?_) AllReadyH.nil
                rw [if_pos (by rfl)]
                go_simp
                refine hK.out _ _ hH (fun hH => ?_)
                clear hK K
                (try dsimp only [Act.put]); (try simp only [Act.put, List.setIfInBounds_toArray, List.set_cons_zero, List.set_cons_succ])
                refine wpAnyH_ready (rs := [10]) (by kernel_rfl) (by simp) ?_
                refine AllReadyH.cons rfl (fun K hK => ?_) AllReadyH.nil
                rw [if_pos (by rfl)]
                go_simp
                refine hK.out _ _ hH (fun hH => ?_)
                clear hK K
                (try dsimp only [Act.put]); (try simp only [Act.put, List.setIfInBounds_toArray, List.set_cons_zero, List.set_cons_succ])
                refine wpAnyH_ready (rs := [11]) (by kernel_rfl) (by simp) ?_
                refine AllReadyH.cons rfl (fun K hK => ?_) AllReadyH.nil
                rw [if_pos (by rfl)]
                go_simp
                refine hK.out _ _ (ck_set (fun e => hbF.out p (by simp [hF'.out]) e.symm) hH) (fun hH => ?_)
                clear hK K
                (try dsimp only [Act.put]); (try simp only [Act.put, List.setIfInBounds_toArray, List.set_cons_zero, List.set_cons_succ])
                refine wpAnyH_done (by kernel_rfl) ?_ _
                go_upto_region 21 with fail
                have kA : Kep V3 (V3.drew.alloc (.cells #[.int .u8 ec] 5)) := ((Kep.refl V3).drew).alloc _
                obtain ⟨r1, r2, r3⟩ := (D3.out.kep kA).newq (Q' := x.s.Q ++ [ec]) P1.out (by have := S1.out; rw [List.length_append, ← hnq1.out]; simpa [byt] using this) H1.out
                have A4 : Hid (RCA w p (.slice (some ⟨b, off, none⟩) nS cS) E0 F0 Rb n ⟨{ x.s with E := r, b := orI x.s.b 2, Q := x.s.Q ++ [ec] }, x.B, x.c, x.f⟩ (w1.setCell ⟨p, 4, none⟩ (.slice xz (nq1 + 1) cz)) (p :: (Fz ++ (Fo ++ Fd))) (.slice xl x.c.length cl) Gl (.slice xa n ca) Gw) := by
                  have A3' := A3.out.kep kA
                  have hFr : Rb ∉ p :: (Fq ++ (Fo ++ Fd)) := by rw [← hF'.out]; exact A3'.rb
                  exact A3'.turn (by rw [hF'.out]; exact r2.mono (by simp +contextual)) ⟨_, _, _, _, _, _, _, _, _, _, r1, rfl⟩ (A3'.row.put r2 hFr) (by rw [hF'.out]; exact r3) rfl ⟨⟨A3'.ok.s.b, A3'.ok.s.m, by have := hQl.out; show (x.s.Q ++ [ec]).length ≤ 32; simp; omega, A3'.ok.s.qb.append (fun b hb => by simp at hb; subst hb; exact hec.out), A3'.ok.s.d, A3'.ok.s.d6, A3'.ok.s.db, A3'.ok.s.n, A3'.ok.s.a, A3'.ok.s.f, A3'.ok.s.t, A3'.ok.s.cmd, A3'.ok.s.ev⟩, A3'.ok.B, A3'.ok.fits⟩ (Nat.le_refl _) A3'.one
                have he4 : Hid ((w1.setCell ⟨p, 4, none⟩ (.slice xz (nq1 + 1) cz)).heap[be]? = some (.cells #[.int .i64 ea, .int .i64 1, .int .u8 ec] 68 (0, 0))) := r2.keeps (kA.block he3.out) (fun hm => hbF.out be (by rw [hF'.out]; simp only [List.mem_cons] at hm ⊢; exact .inr hm) rfl)
                have hy : Hid (nxt step (List.range n) x = ⟨{ x.s with E := r, b := orI x.s.b 2, Q := x.s.Q ++ [ec] }, x.B, x.c ++ [(step, 1, ec)], x.f⟩) := by unfold Hid nxt; rw [hx'.out]; simp [evS, evM, evF, queueS, hQl.out]
                clear A3 he3 D3 r1 r2 r3 d0 d1 dz1 g1 g2 g4 g4' g5' g6' g7' lp QS fz'
                have A3 := A4
                have he3 := he4
                clear A4 he4 S1 P1 H1 kA lbe hbe2
                generalize w1.setCell ⟨p, 4, none⟩ (.slice xz (nq1 + 1) cz) = V4 at A3 he3 ⊢
                have LS : Hid (Sli (V4.alloc (.cells #[.int .i64 step, .int .i64 1, .int .u8 ec] 68)) 68 3 (.slice xl x.c.length cl) x.c.length (evs x.c) Gl) := A3.out.l.kep ((Kep.refl _).alloc _)
                have e1 : V4.cell? ⟨be, 1, none⟩ = some (.int .i64 1) := (cell_of_block he3.out).trans rfl
                have e2 : V4.cell? ⟨be, 2, none⟩ = some (.int .u8 ec) := (cell_of_block he3.out).trans rfl
                go_wp2_with (at_builtin; refine wpList_append_sli rfl (.tmp 134) (.tmp 141) 22 rfl 68 i1 _ 3 24 Try.underlying22 hi1 hz10 hz11 hz12 rfl (by decide) _ x.c.length (evs x.c) Gl rfl LS.out ⟨V4.heap.size, 0, none⟩ 1 (evV (step, 1, ec)) rfl rfl news_ev (ev_ones _ _ _) hm1.out hm2.out ?_; intro v' w1 F1 S1 P1 H1; obtain ⟨x1, c1, rfl, _⟩ := S1.out.lies)
                go_roundw
                case rel =>
                  refine ⟨_, (p :: (Fz ++ (Fo ++ Fd))), F1, RCA.more (A3.out.kep ((Kep.refl _).alloc _)) (step, 1, ec) P1.out S1.out H1.out ?_, ?_⟩
                  · exact hcnt.out _ (by first | rfl | simp [finS_E, queueS_E])
                  · rw [Hid, hnext.out, hy.out]
                case measure => simp [lenV]; have := hm3.out; omega
              refine AllReadyH.cons rfl (fun K hK => ?_) AllReadyH.nil
              rw [if_pos (by rfl)]
              go_simp
              refine hK.out _ _ (ck_alloc hH) (fun hH => ?_)
              clear hK K
              (try dsimp only [Act.put]); (try simp only [Act.put, List.setIfInBounds_toArray, List.set_cons_zero, List.set_cons_succ])
              refine wpAnyH_ready (rs := [4]) (by kernel_rfl) (by simp) ?_
              refine AllReadyH.cons rfl (fun K hK => ?_) AllReadyH.nil
              rw [if_pos (by rfl)]
              go_simp
              refine hK.out _ _ hH (fun hH => ?_)
              clear hK K
              (try dsimp only [Act.put]); (try simp only [Act.put, List.setIfInBounds_toArray, List.set_cons_zero, List.set_cons_succ])
              refine wpAnyH_ready (rs := [8]) (by kernel_rfl) (by simp) ?_
              refine AllReadyH.cons rfl (fun K hK => ?_) AllReadyH.nil
              rw [if_pos (by rfl)]
              refine wp_append_sli (.tmp 101) (.tmp 104) 37 rfl 5 i0 _ 1 1 Try.underlying37 hi0 hz00 hz01 hz02 rfl (by decide) _ nq1 (byt x.s.Q) Fq rfl QS.out ⟨V3.heap.size, 0, none⟩ 1 [.int .u8 ec] rfl rfl cell_news (by simp [Value.oneCell']) hm4.out hm5.out ?_
              intro v' w1 Fz S1 P1 H1
              obtain ⟨xz, cz, rfl, _⟩ := S1.out.lies
              obtain ⟨d0, d1⟩ := fz'.out w1 P1.out
              have dz1 : w1.cell? ⟨be, 1, none⟩ = some (.int .i64 1) := (P1.out.cell hbe2.out hbq.out).trans (ck_alloc g1)
              refine hK.out _ _ ((P1.out.cell hbe2.out hbq.out).trans hH) (fun hH => ?_)
              clear hK K
              (try dsimp only [Act.put]); (try simp only [Act.put, List.setIfInBounds_toArray, List.set_cons_zero, List.set_cons_succ])
              refine wpAnyH_ready (rs := [9]) (by kernel_rfl) (by simp) ?_
              refine AllReadyH.cons rfl (fun K hK => ?_) AllReadyH.nil
              rw [if_pos (by rfl)]
              go_simp
              refine hK.out _ _ hH (fun hH => ?_)
              clear hK K
              (try dsimp only [Act.put]); (try simp only [Act.put, List.setIfInBounds_toArray, List.set_cons_zero, List.set_cons_succ])
              refine wpAnyH_ready (rs := [10]) (by kernel_rfl) (by simp) ?_
              refine AllReadyH.cons rfl (fun K hK => ?_) AllReadyH.nil
              rw [if_pos (by rfl)]
              go_simp
              refine hK.out _ _ hH (fun hH => ?_)
              clear hK K
              (try dsimp only [Act.put]); (try simp only [Act.put, List.setIfInBounds_toArray, List.set_cons_zero, List.set_cons_succ])
              refine wpAnyH_ready (rs := [11]) (by kernel_rfl) (by simp) ?_
              refine AllReadyH.cons rfl (fun K hK => ?_) AllReadyH.nil
              rw [if_pos (by rfl)]
              go_simp
              refine hK.out _ _ (ck_set (fun e => hbF.out p (by simp [hF'.out]) e.symm) hH) (fun hH => ?_)
              clear hK K
              (try dsimp only [Act.put]); (try simp only [Act.put, List.setIfInBounds_toArray, List.set_cons_zero, List.set_cons_succ])
              refine wpAnyH_done (by kernel_rfl) ?_ _
              go_upto_region 21 with fail
              have kA : Kep V3 (V3.drew.alloc (.cells #[.int .u8 ec] 5)) := ((Kep.refl V3).drew).alloc _
              obtain ⟨r1, r2, r3⟩ := (D3.out.kep kA).newq (Q' := x.s.Q ++ [ec]) P1.out (by have := S1.out; rw [List.length_append, ← hnq1.out]; simpa [byt] using this) H1.out
              have A4 : Hid (RCA w p (.slice (some ⟨b, off, none⟩) nS cS) E0 F0 Rb n ⟨{ x.s with E := r, b := orI x.s.b 2, Q := x.s.Q ++ [ec] }, x.B, x.c, x.f⟩ (w1.setCell ⟨p, 4, none⟩ (.slice xz (nq1 + 1) cz)) (p :: (Fz ++ (Fo ++ Fd))) (.slice xl x.c.length cl) Gl (.slice xa n ca) Gw) := by
                have A3' := A3.out.kep kA
                have hFr : Rb ∉ p :: (Fq ++ (Fo ++ Fd)) := by rw [← hF'.out]; exact A3'.rb
                exact A3'.turn (by rw [hF'.out]; exact r2.mono (by simp +contextual)) ⟨_, _, _, _, _, _, _, _, _, _, r1, rfl⟩ (A3'.row.put r2 hFr) (by rw [hF'.out]; exact r3) rfl ⟨⟨A3'.ok.s.b, A3'.ok.s.m, by have := hQl.out; show (x.s.Q ++ [ec]).length ≤ 32; simp; omega, A3'.ok.s.qb.append (fun b hb => by simp at hb; subst hb; exact hec.out), A3'.ok.s.d, A3'.ok.s.d6, A3'.ok.s.db, A3'.ok.s.n, A3'.ok.s.a, A3'.ok.s.f, A3'.ok.s.t, A3'.ok.s.cmd, A3'.ok.s.ev⟩, A3'.ok.B, A3'.ok.fits⟩ (Nat.le_refl _) A3'.one
              have he4 : Hid ((w1.setCell ⟨p, 4, none⟩ (.slice xz (nq1 + 1) cz)).heap[be]? = some (.cells #[.int .i64 ea, .int .i64 1, .int .u8 ec] 68 (0, 0))) := r2.keeps (kA.block he3.out) (fun hm => hbF.out be (by rw [hF'.out]; simp only [List.mem_cons] at hm ⊢; exact .inr hm) rfl)
              have hy : Hid (nxt step (List.range n) x = ⟨{ x.s with E := r, b := orI x.s.b 2, Q := x.s.Q ++ [ec] }, x.B, x.c ++ [(step, 1, ec)], x.f⟩) := by unfold Hid nxt; rw [hx'.out]; simp [evS, evM, evF, queueS, hQl.out]
              clear A3 he3 D3 r1 r2 r3 d0 d1 dz1 g1 g2 g4 g4' g5' g6' g7' lp QS fz'
              have A3 := A4
              have he3 := he4
              clear A4 he4 S1 P1 H1 kA lbe hbe2
              generalize w1.setCell ⟨p, 4, none⟩ (.slice xz (nq1 + 1) cz) = V4 at A3 he3 ⊢
              have LS : Hid (Sli (V4.alloc (.cells #[.int .i64 step, .int .i64 1, .int .u8 ec] 68)) 68 3 (.slice xl x.c.length cl) x.c.length (evs x.c) Gl) := A3.out.l.kep ((Kep.refl _).alloc _)
              have e1 : V4.cell? ⟨be, 1, none⟩ = some (.int .i64 1) := (cell_of_block he3.out).trans rfl
              have e2 : V4.cell? ⟨be, 2, none⟩ = some (.int .u8 ec) := (cell_of_block he3.out).trans rfl
              go_wp2_with (at_builtin; refine wpList_append_sli rfl (.tmp 134) (.tmp 141) 22 rfl 68 i1 _ 3 24 Try.underlying22 hi1 hz10 hz11 hz12 rfl (by decide) _ x.c.length (evs x.c) Gl rfl LS.out ⟨V4.heap.size, 0, none⟩ 1 (evV (step, 1, ec)) rfl rfl news_ev (ev_ones _ _ _) hm1.out hm2.out ?_; intro v' w1 F1 S1 P1 H1; obtain ⟨x1, c1, rfl, _⟩ := S1.out.lies)
              go_roundw
              case rel =>
                refine ⟨_, (p :: (Fz ++ (Fo ++ Fd))), F1, RCA.more (A3.out.kep ((Kep.refl _).alloc _)) (step, 1, ec) P1.out S1.out H1.out ?_, ?_⟩
                · exact hcnt.out _ (by first | rfl | simp [finS_E, queueS_E])
                · rw [Hid, hnext.out, hy.out]
              case measure => simp [lenV]; have := hm3.out; omega
            · have t1 : decide ((x.s.Q.length : Int) < 32) = false := decide_eq_false (by omega)
              have t1' : (x.s.Q.length < 32) = False := eq_false hq
              have Ab := RDv.setb (s := { x.s with E := r }) A2.out.dev (orI x.s.b 2)
              have A3 : Hid (RCA w p (.slice (some ⟨b, off, none⟩) nS cS) E0 F0 Rb n ⟨{ { x.s with E := r } with b := orI x.s.b 2 }, x.B, x.c, x.f⟩ (V2.setCell ⟨p, 2, none⟩ (.int .u32 (orI x.s.b 2))) F (.slice xl x.c.length cl) Gl (.slice xa n ca) Gw) := A2.out.turn (Ab.2.mono (by simp +contextual)) Ab.1 (A2.out.row.put Ab.2 A2.out.rb) (fun g hg => .inl hg) rfl ⟨Ok.bits A2.out.ok.s (or_low hb7.out (by simp)), A2.out.ok.B, A2.out.ok.fits⟩ (Nat.le_refl _) A2.out.one
              have he3 : Hid ((V2.setCell ⟨p, 2, none⟩ (.int .u32 (orI x.s.b 2))).heap[be]? = some (.cells #[.int .i64 ea, .int .i64 1, .int .u8 ec] 68 (0, 0))) := Ab.2.keeps he2.out (fun hm => hbF.out be (by simp [hm]) rfl)
              have hy : Hid (nxt step (List.range n) x = ⟨{ { x.s with E := r } with b := orI x.s.b 2 }, x.B, x.c ++ [(step, 1, ec)], x.f⟩) := by unfold Hid nxt; rw [hx'.out]; simp [evS, evM, evF, queueS, hq]
              subst hvq
              clear Ab d9 D2 A2
              go_upto_region 21 with (go_at_call 69; refine (HW.out _ _ _ hb7.out (by simp)).mono ?_; rintro e wq ⟨rfl, hq⟩; rw [hq]; clear hq)
              generalize V2.setCell ⟨p, 2, none⟩ (.int .u32 (orI x.s.b 2)) = V3 at A3 he3 ⊢
              clear e1 d2 f2 d4 he2
              have LS : Hid (Sli (V3.alloc (.cells #[.int .i64 step, .int .i64 1, .int .u8 ec] 68)) 68 3 (.slice xl x.c.length cl) x.c.length (evs x.c) Gl) := A3.out.l.kep ((Kep.refl _).alloc _)
              have e1 : V3.cell? ⟨be, 1, none⟩ = some (.int .i64 1) := (cell_of_block he3.out).trans rfl
              have e2 : V3.cell? ⟨be, 2, none⟩ = some (.int .u8 ec) := (cell_of_block he3.out).trans rfl
              go_wp2_with (at_builtin; refine wpList_append_sli rfl (.tmp 134) (.tmp 141) 22 rfl 68 i1 _ 3 24 Try.underlying22 hi1 hz10 hz11 hz12 rfl (by decide) _ x.c.length (evs x.c) Gl rfl LS.out ⟨V3.heap.size, 0, none⟩ 1 (evV (step, 1, ec)) rfl rfl news_ev (ev_ones _ _ _) hm1.out hm2.out ?_; intro v' w1 F1 S1 P1 H1; obtain ⟨x1, c1, rfl, _⟩ := S1.out.lies)
              go_roundw
              case rel =>
                refine ⟨_, F, F1, RCA.more (A3.out.kep ((Kep.refl _).alloc _)) (step, 1, ec) P1.out S1.out H1.out ?_, ?_⟩
                · exact hcnt.out _ (by first | rfl | simp [finS_E, queueS_E])
                · rw [Hid, hnext.out, hy.out]
              case measure => simp [lenV]; have := hm3.out; omega
          case inr.inr =>
            have e1 : V2.cell? ⟨be, 1, none⟩ = some (.int .i64 2) := (cell_of_block he2.out).trans rfl
            by_cases hs : x.s.s = 1
            · have t1 : (x.s.s == 1) = true := by simp [hs]
              have hf0 : x.f = [] := A2.out.one.resolve_right (fun h => h hs)
              have bx : V2.cell? ⟨w.heap.size, 0, none⟩ = some (.slice (some ⟨Rb, 0, none⟩) (64 * n) (64 * n)) := (cell_of_block A2.out.bx).trans rfl
              have hw : ∃ gw woff : Nat, xa = some ⟨gw, woff, none⟩ := by
                rcases A2.out.wr.form with ⟨h0, hn0, _⟩ | ⟨gw, woff, cap, hv, _⟩
                · have := hn1'.out; omega
                · cases hv; exact ⟨gw, woff, rfl⟩
              obtain ⟨gw, woff, hxa⟩ := hw
              subst hxa
              have HM : Hid (Calls Try.prog 70 #[.pointer (some ⟨p, 0, none⟩), refV (some ⟨Rb, 0, none⟩) (64 * n)] V2 fun e w' => ∃ r1 : Int, e = .returned (.int .i64 r1) ∧ ((finF { x.s with E := r } n = [] ∧ r1 = -1) ∨ (finF { x.s with E := r } n = [r1] ∧ 0 ≤ r1 ∧ r1 < n)) ∧ RDv w' p (finS { x.s with E := r } (List.range n) x.B) (.slice (some ⟨b, off, none⟩) nS cS) E0 F ∧ RowB w' Rb (finM { x.s with E := r } (List.range n) x.B) ∧ Put (Rb :: F) V2 w') := rmove_any (s := { x.s with E := r }) A2.out.dev A2.out.ok.s hs n Rb x.B hn'.out A2.out.row A2.out.len A2.out.rb
              have hs0 : (finS { x.s with E := r } (List.range n) x.B).s ≠ 1 := by unfold finS; split; split; simp; simp; simp
              have hb0 : (finS { x.s with E := r } (List.range n) x.B).b = x.s.b := by unfold finS; split; split; rfl; rfl; rfl
              have hok : CS.Ok (List.range n) ⟨(finS { x.s with E := r } (List.range n) x.B), (finM { x.s with E := r } (List.range n) x.B), x.c, x.f⟩ := ⟨finS_ok A2.out.ok.s A2.out.ok.B A2.out.ok.fits hs, finM_byts A2.out.ok.s A2.out.ok.B, A2.out.ok.fits.len (finM_len _ _ _)⟩
              have TA : Hid (∀ V3, RDv V3 p (finS { x.s with E := r } (List.range n) x.B) (.slice (some ⟨b, off, none⟩) nS cS) E0 F → RowB V3 Rb (finM { x.s with E := r } (List.range n) x.B) → Put (Rb :: F) V2 V3 → RCA w p (.slice (some ⟨b, off, none⟩) nS cS) E0 F0 Rb n ⟨(finS { x.s with E := r } (List.range n) x.B), (finM { x.s with E := r } (List.range n) x.B), x.c, x.f⟩ V3 F (.slice xl x.c.length cl) Gl (.slice (some ⟨gw, woff, none⟩) n ca) Gw ∧ V3.heap[be]? = some (.cells #[.int .i64 ea, .int .i64 2, .int .u8 ec] 68 (0, 0))) := fun V3 d3 r3 P3 => ⟨A2.out.turn P3 d3 r3 (fun g hg => .inl hg) (finM_len _ _ _) hok (by rw [finS_E]; exact Nat.le_refl _) (.inr hs0), P3.keeps he2.out (fun hm => hbF.out be hm rfl)⟩
              have hs0' : Hid ((finS { x.s with E := r } (List.range n) x.B).s ≠ 1) := hs0
              have hb0' : Hid ((finS { x.s with E := r } (List.range n) x.B).b = x.s.b) := hb0
              have hf0' : Hid (x.f = []) := hf0
              have hyy : Hid (nxt step (List.range n) x = ⟨{ finS { x.s with E := r } (List.range n) x.B with b := orI x.s.b 4 }, (finM { x.s with E := r } (List.range n) x.B), x.c ++ [(step, 2, ec)], x.f ++ finF { x.s with E := r } n⟩) := by unfold Hid nxt; rw [hx'.out]; simp [evS, evM, evF, hs]
              clear hs0 hb0 hok hf0 d4 D2 hs d2 f2
              go_wp2_with fail
              refine HM.out.mono ?_
              rintro e V3 ⟨r1, rfl, hr1, d3, r3, P3⟩
              obtain ⟨A3, he3⟩ := TA.out V3 d3 r3 P3
              have A3 : Hid _ := A3
              have he3 : Hid (V3.heap[be]? = some (.cells #[.int .i64 ea, .int .i64 2, .int .u8 ec] 68 (0, 0))) := he3
              clear d3 r3 P3 TA HM A2 he2 bx e1 d9
              have e1 : V3.cell? ⟨be, 1, none⟩ = some (.int .i64 2) := (cell_of_block he3.out).trans rfl
              rcases hr1 with ⟨hfF, rfl⟩ | ⟨hfF, hr0, hrn⟩
              case inl =>
                have hy : Hid (nxt step (List.range n) x = ⟨{ finS { x.s with E := r } (List.range n) x.B with b := orI x.s.b 4 }, (finM { x.s with E := r } (List.range n) x.B), x.c ++ [(step, 2, ec)], x.f⟩) := by rw [Hid, hyy.out, hfF, List.append_nil]
                have bt := RDv.bit A3.out.dev
                have d2 : V3.cell? ⟨p, 2, none⟩ = some (.int .u32 x.s.b) := by rw [← hb0'.out]; exact bt.1
                have f2 := bt.2
                have Ab := RDv.setb (s := (finS { x.s with E := r } (List.range n) x.B)) A3.out.dev (orI x.s.b 4)
                have A4 : Hid (RCA w p (.slice (some ⟨b, off, none⟩) nS cS) E0 F0 Rb n ⟨{ finS { x.s with E := r } (List.range n) x.B with b := orI x.s.b 4 }, (finM { x.s with E := r } (List.range n) x.B), x.c, x.f⟩ (V3.setCell ⟨p, 2, none⟩ (.int .u32 (orI x.s.b 4))) F (.slice xl x.c.length cl) Gl (.slice (some ⟨gw, woff, none⟩) n ca) Gw) := RCA.turn A3.out (Ab.2.mono (by simp +contextual)) Ab.1 (A3.out.row.put Ab.2 A3.out.rb) (fun g hg => .inl hg) rfl ⟨Ok.bits A3.out.ok.s (or_low hb7.out (by simp)), A3.out.ok.B, A3.out.ok.fits⟩ (Nat.le_refl _) (.inr hs0'.out)
                have he4 : Hid ((V3.setCell ⟨p, 2, none⟩ (.int .u32 (orI x.s.b 4))).heap[be]? = some (.cells #[.int .i64 ea, .int .i64 2, .int .u8 ec] 68 (0, 0))) := Ab.2.keeps he3.out (fun hm => hbF.out be (by simp [hm]) rfl)
                clear Ab bt A3 he3 hfF
                go_upto_region 21 with (go_at_call 69; refine (HW.out _ _ _ hb7.out (by simp)).mono ?_; rintro e wq ⟨rfl, hq⟩; rw [hq]; clear hq)
                generalize V3.setCell ⟨p, 2, none⟩ (.int .u32 (orI x.s.b 4)) = V4 at A4 he4 ⊢
                clear e1 d2 f2
                have A3 := A4
                have he3 := he4
                clear A4 he4
                have LS : Hid (Sli (V4.alloc (.cells #[.int .i64 step, .int .i64 2, .int .u8 ec] 68)) 68 3 (.slice xl x.c.length cl) x.c.length (evs x.c) Gl) := A3.out.l.kep ((Kep.refl _).alloc _)
                have e1 : V4.cell? ⟨be, 1, none⟩ = some (.int .i64 2) := (cell_of_block he3.out).trans rfl
                have e2 : V4.cell? ⟨be, 2, none⟩ = some (.int .u8 ec) := (cell_of_block he3.out).trans rfl
                go_wp2_with (at_builtin; refine wpList_append_sli rfl (.tmp 134) (.tmp 141) 22 rfl 68 i1 _ 3 24 Try.underlying22 hi1 hz10 hz11 hz12 rfl (by decide) _ x.c.length (evs x.c) Gl rfl LS.out ⟨V4.heap.size, 0, none⟩ 1 (evV (step, 2, ec)) rfl rfl news_ev (ev_ones _ _ _) hm1.out hm2.out ?_; intro v' w1 F1 S1 P1 H1; obtain ⟨x1, c1, rfl, _⟩ := S1.out.lies)
                go_roundw
                case rel =>
                  refine ⟨_, F, F1, RCA.more (A3.out.kep ((Kep.refl _).alloc _)) (step, 2, ec) P1.out S1.out H1.out ?_, ?_⟩
                  · exact hcnt.out _ (by first | rfl | simp [finS_E, queueS_E])
                  · rw [Hid, hnext.out, hy.out]
                case measure => simp [lenV]; have := hm3.out; omega
              case inr =>
                obtain ⟨tn, htn⟩ : ∃ tn : Nat, r1 = tn := ⟨r1.toNat, by omega⟩
                subst htn
                have htn' : tn < n := by omega
                have hy : Hid (nxt step (List.range n) x = ⟨{ finS { x.s with E := r } (List.range n) x.B with b := orI x.s.b 4 }, (finM { x.s with E := r } (List.range n) x.B), x.c ++ [(step, 2, ec)], [(tn : Int)]⟩) := by rw [Hid, hyy.out, hfF, hf0'.out, List.nil_append]
                have B3 := RCA.wrote A3.out hf0'.out tn htn' hs0'.out
                have hcw : ∃ u, V3.cell? ⟨gw, woff + tn, none⟩ = some (.bool u) := by
                  rcases A3.out.wr.form with ⟨h0, _⟩ | ⟨g', o', c', hv, _, _, _, _, hcell, _⟩
                  · cases h0
                  · cases hv; exact ⟨_, hcell tn _ (wrow_at _ _ _ htn')⟩
                obtain ⟨u0, hcw⟩ := hcw
                have hGg := (A3.out.wr.there tn htn').2.1
                have hfw : V3.frozen? ⟨gw, woff + tn, none⟩ = false := by
                  rcases A3.out.wr.form with ⟨h0, _⟩ | ⟨g', o', c', hv, _, hle, _, _, _, hfz⟩
                  · cases h0
                  · cases hv; exact (hfz tn (by omega)).2
                have hgp : Hid (gw ≠ p ∧ gw ≠ be) := by
                  have h1 := A3.out.gw gw (by rw [hGg]; simp)
                  exact ⟨fun e => h1.2.1 (by rw [hF'.out, e]; simp), fun e => by
                    have h2 := A3.out.wr
                    rw [hGg, e] at h2
                    rcases h2 with ⟨_, ⟨h3, _⟩ | ⟨g', o', c', cur, hv, _, hg, _⟩⟩
                    · cases h3
                    · cases hv; rw [he3.out] at hg; simp at hg⟩
                have hgp1 := hgp.out.1
                have hgp2 := hgp.out.2
                have bt := RDv.bit B3.dev
                have d2 : (V3.setCell ⟨gw, woff + tn, none⟩ (.bool true)).cell? ⟨p, 2, none⟩ = some (.int .u32 x.s.b) := by rw [← hb0'.out]; exact bt.1
                have f2 := bt.2
                have Ab := RDv.setb (s := (finS { x.s with E := r } (List.range n) x.B)) B3.dev (orI x.s.b 4)
                have A4 : Hid (RCA w p (.slice (some ⟨b, off, none⟩) nS cS) E0 F0 Rb n ⟨{ finS { x.s with E := r } (List.range n) x.B with b := orI x.s.b 4 }, (finM { x.s with E := r } (List.range n) x.B), x.c, [(tn : Int)]⟩ ((V3.setCell ⟨gw, woff + tn, none⟩ (.bool true)).setCell ⟨p, 2, none⟩ (.int .u32 (orI x.s.b 4))) F (.slice xl x.c.length cl) Gl (.slice (some ⟨gw, woff, none⟩) n ca) Gw) := RCA.turn B3 (Ab.2.mono (by simp +contextual)) Ab.1 (B3.row.put Ab.2 B3.rb) (fun g hg => .inl hg) rfl ⟨Ok.bits B3.ok.s (or_low hb7.out (by simp)), B3.ok.B, B3.ok.fits⟩ (Nat.le_refl _) (.inr hs0'.out)
                have he4 : Hid (((V3.setCell ⟨gw, woff + tn, none⟩ (.bool true)).setCell ⟨p, 2, none⟩ (.int .u32 (orI x.s.b 4))).heap[be]? = some (.cells #[.int .i64 ea, .int .i64 2, .int .u8 ec] 68 (0, 0))) := Ab.2.keeps ((heap_setCell_other _ _ _ _ (by simpa using fun e => hgp2 e.symm)).trans he3.out) (fun hm => hbF.out be (by simp [hm]) rfl)
                have hrn' : (tn : Int) < n := by omega
                have hca : (n : Int) ≤ ca := by
                  rcases A3.out.wr.form with ⟨h0, _⟩ | ⟨g', o', c', hv, _, hle, _, _, _, hfz⟩
                  · cases h0
                  · cases hv; omega
                clear Ab bt A3 he3 hfF B3 hGg hgp
                go_upto_region 21 with (go_at_call 69; refine (HW.out _ _ _ hb7.out (by simp)).mono ?_; rintro e wq ⟨rfl, hq⟩; rw [hq]; clear hq)
                generalize (V3.setCell ⟨gw, woff + tn, none⟩ (.bool true)).setCell ⟨p, 2, none⟩ (.int .u32 (orI x.s.b 4)) = V4 at A4 he4 ⊢
                clear e1 d2 f2 hcw hfw
                have A3 := A4
                have he3 := he4
                clear A4 he4
                have LS : Hid (Sli (V4.alloc (.cells #[.int .i64 step, .int .i64 2, .int .u8 ec] 68)) 68 3 (.slice xl x.c.length cl) x.c.length (evs x.c) Gl) := A3.out.l.kep ((Kep.refl _).alloc _)
                have e1 : V4.cell? ⟨be, 1, none⟩ = some (.int .i64 2) := (cell_of_block he3.out).trans rfl
                have e2 : V4.cell? ⟨be, 2, none⟩ = some (.int .u8 ec) := (cell_of_block he3.out).trans rfl
                go_wp2_with (at_builtin; refine wpList_append_sli rfl (.tmp 134) (.tmp 141) 22 rfl 68 i1 _ 3 24 Try.underlying22 hi1 hz10 hz11 hz12 rfl (by decide) _ x.c.length (evs x.c) Gl rfl LS.out ⟨V4.heap.size, 0, none⟩ 1 (evV (step, 2, ec)) rfl rfl news_ev (ev_ones _ _ _) hm1.out hm2.out ?_; intro v' w1 F1 S1 P1 H1; obtain ⟨x1, c1, rfl, _⟩ := S1.out.lies)
                go_roundw
                case rel =>
                  refine ⟨_, F, F1, RCA.more (A3.out.kep ((Kep.refl _).alloc _)) (step, 2, ec) P1.out S1.out H1.out ?_, ?_⟩
                  · exact hcnt.out _ (by first | rfl | simp [finS_E, queueS_E])
                  · rw [Hid, hnext.out, hy.out]
                case measure => simp [lenV]; have := hm3.out; omega
            · have t1 : (x.s.s == 1) = false := by simp [hs]
              have hy : Hid (nxt step (List.range n) x = ⟨{ x.s with E := r }, x.B, x.c ++ [(step, 2, ec)], x.f⟩) := by unfold Hid nxt; rw [hx'.out]; simp [evS, evM, evF, hs]
              clear d4 D2 hs
              go_upto_region 21 with fail
              have A3 := A2
              have he3 := he2
              clear A2 he2 e1 d2 f2 d9
              have LS : Hid (Sli (V2.alloc (.cells #[.int .i64 step, .int .i64 2, .int .u8 ec] 68)) 68 3 (.slice xl x.c.length cl) x.c.length (evs x.c) Gl) := A3.out.l.kep ((Kep.refl _).alloc _)
              have e1 : V2.cell? ⟨be, 1, none⟩ = some (.int .i64 2) := (cell_of_block he3.out).trans rfl
              have e2 : V2.cell? ⟨be, 2, none⟩ = some (.int .u8 ec) := (cell_of_block he3.out).trans rfl
              go_wp2_with (at_builtin; refine wpList_append_sli rfl (.tmp 134) (.tmp 141) 22 rfl 68 i1 _ 3 24 Try.underlying22 hi1 hz10 hz11 hz12 rfl (by decide) _ x.c.length (evs x.c) Gl rfl LS.out ⟨V2.heap.size, 0, none⟩ 1 (evV (step, 2, ec)) rfl rfl news_ev (ev_ones _ _ _) hm1.out hm2.out ?_; intro v' w1 F1 S1 P1 H1; obtain ⟨x1, c1, rfl, _⟩ := S1.out.lies)
              go_roundw
              case rel =>
                refine ⟨_, F, F1, RCA.more (A3.out.kep ((Kep.refl _).alloc _)) (step, 2, ec) P1.out S1.out H1.out ?_, ?_⟩
                · exact hcnt.out _ (by first | rfl | simp [finS_E, queueS_E])
                · rw [Hid, hnext.out, hy.out]
              case measure => simp [lenV]; have := hm3.out; omega
        case neg =>
          have hcase : (decide (c < nS) = false) ∨ ∃ (b off : Nat) (ea : Int), decide (c < nS) = true ∧ xS = some ⟨b, off, none⟩ ∧ wr.cell? ⟨b, off + c * 3, none⟩ = some (.int .i64 ea) ∧ decide (ea ≤ step) = false ∧ c < nS := by
            cases hx : x.s.E with
            | nil =>
              have hD := D.E
              rw [hx] at hD
              have hc := drop_nil hD.symm D.lc
              exact .inl (decide_eq_false (by rw [hnS.out]; omega))
            | cons e r =>
              have hD := D.E
              rw [hx] at hD
              obtain ⟨hc1, hc2, _⟩ := drop_cons hD.symm
              have hd : ¬ e.1 ≤ step := by unfold dueB at hdue; rw [hx] at hdue; simpa using hdue
              rcases hScr.out wr A.out.put with h0 | ⟨b, off, hxs, hb, hcell⟩
              · have := evs_len E0; rw [h0] at this; simp at this; omega
              · exact .inr ⟨b, off, e.1, decide_eq_true (by rw [hnS.out]; omega), hxs, hcell _ _ (by have := evs_at E0 c _ hc1 0 (by omega); simpa [evV] using this), decide_eq_false hd, by rw [hnS.out]; exact hc2⟩
          have hfin : Hid (comeC step (List.range n) ⟨s, B, [], []⟩ = x) := by rw [Hid, hx0.out]; exact comeC_done (by simpa using hdue)
          have c64 : (nS : Int) ≤ 64 := by rw [hnS.out]; have := hE'.out; omega
          clear hdue D hx0 hF
          rcases hcase with t1 | ⟨b, off, ea, t1, rfl, s0, t2, hlt⟩
          case' inl =>
            go_wp2_with fail
            go_quiet (fail)
            go_wp2_with fail
          case' inr =>
            have hlt' : (c : Int) < nS := by omega
            go_wp2_with fail
            go_quiet (fail)
            go_wp2_with fail
          all_goals
            have A1 : Hid (RCA w p _ E0 F0 Rb n x (wr.drewN nq) F _ Gl (.slice xa n ca) Gw) := A.out.kep ((Kep.refl wr).drewN nq)
            clear A t1 c0 c1
            generalize wr.drewN nq = W2 at A1 ⊢
            go_loopw [13, 14] (fun a i wz => ∃ k : Nat, (k : Int) ≤ n ∧ i = .int .i64 k ∧ Hid (Kep W2 wz) ∧ Hid (wz.ownsRow W2.heap.size 3 1 a (fbel x.f k).length ((fbel x.f k).map (Value.int .i64)))) (fun _ i _ => n - (intOf i).toNat)
            case atStart => exact ⟨0, by omega, rfl, Kep.refl _, by rw [fbel_zero A1.out.fs]; exact World.ownsRow_nil _ _ _ _⟩
            case round =>
              rename World => wz
              obtain ⟨k, hk, rfl, K, O⟩ := hrel
              obtain ⟨ya, yc, rfl⟩ := owns_form O.out
              by_cases hlt : k < n
              · have hlt' : (k : Int) < n := by omega
                have hfl : (fbel x.f k).length ≤ 1 := by
                  rcases A1.out.fs with h | ⟨t, _, h⟩
                  · rw [h]; simp [fbel]
                  · rw [h]; exact List.length_filter_le _ _
                have hw : ∃ gw off : Nat, xa = some ⟨gw, off, none⟩ ∧ wz.cell? ⟨gw, off + k, none⟩ = some (.bool (decide ((k : Int) ∈ x.f))) := by
                  rcases (A1.out.wr.kep K.out).form with ⟨h0, hn0, _⟩ | ⟨gw, off, cap, hv, _, _, _, _, hcell, _⟩
                  · omega
                  · cases hv; exact ⟨gw, off, rfl, hcell k _ (wrow_at _ _ _ hlt)⟩
                obtain ⟨gw, woff, rfl, cw⟩ := hw
                by_cases hm : (k : Int) ∈ x.f
                · rw [decide_eq_true hm] at cw
                  have hnx : Hid (fbel x.f (k + 1) = fbel x.f k ++ [(k : Int)]) := fbel_yes A1.out.fs hm
                  have oB : Hid ((wz.alloc (.cells #[.int .i64 k] 3)).ownsRow W2.heap.size 3 1 (.slice ya (fbel x.f k).length yc) (fbel x.f k).length ((fbel x.f k).map (Value.int .i64))) := (Soft.of_kep (B := 0) ((Kep.refl wz).alloc _)).owns O.out
                  have sB : Hid (W2.heap.size ≤ (wz.alloc (.cells #[.int .i64 k] 3)).heap.size) := by have := K.out.size; rw [Hid, World.size_alloc]; omega
                  have hf1 : Hid ((fbel x.f k).length + 1 ≤ maxLen) := by unfold Hid maxLen; omega
                  have hf2 : Hid (((fbel x.f k).length + 1) * 8 ≤ 140737488355328) := by unfold Hid; omega
                  obtain ⟨nf, hnf⟩ : ∃ nf, Hid (nf = (fbel x.f k).length) := ⟨_, rfl⟩
                  rw [← hnf.out] at oB hf1 hf2 ⊢
                  clear hm hlt hk hfl O
                  go_wp2_with (at_builtin; refine wpList_append_own _ rfl (.tmp 153) (.tmp 155) 29 rfl W2.heap.size 3 i3 _ 1 8 Try.underlying29 hi3 hz30 hz31 hz32 rfl (by decide) _ nf ((fbel x.f k).map (Value.int .i64)) rfl oB.out ⟨wz.heap.size, 0, none⟩ 1 1 [.int .i64 k] rfl rfl cell_news (by simp [Value.oneCell']) hf1.out hf2.out sB.out ?_; intro v' w1 hown hgrow _; have hown' : Hid _ := hown; have hgrow' : Hid _ := hgrow; clear hown hgrow)
                  go_roundw
                  case rel =>
                    refine ⟨k + 1, by omega, by go_num, (kep_trans K.out ((Kep.refl wz).alloc _)).by hgrow'.out (fun b e => by have := (World.ownsRow.lt oB.out b e).1; exact this), ?_⟩
                    rw [Hid, hnx.out, List.map_append, List.length_append, ← hnf.out]
                    exact hown'.out
                  case measure => simp [intOf]; omega
                · rw [decide_eq_false hm] at cw
                  have hnx : Hid (fbel x.f (k + 1) = fbel x.f k) := fbel_no A1.out.fs hm
                  clear hm hlt hk hfl
                  go_wp2_with fail
                  go_roundw
                  case rel => exact ⟨k + 1, by omega, by go_num, K, by rw [hnx.out]; exact O⟩
                  case measure => simp [intOf]; omega
              · obtain rfl : n = k := by omega
                have A2 := A1.out.kep K.out
                have O2 := O.out
                rw [fbel_all A1.out.fs] at O2
                obtain ⟨Gf, Sf, _⟩ := Sli.of_owns O2
                have hfx : Hid (fbel x.f n = x.f) := fbel_all A1.out.fs
                rw [hfx.out]
                have S2 : Hid (Sli wz 3 1 (.slice ya x.f.length yc) x.f.length (x.f.map (Value.int .i64)) Gf) := Sf
                have A3 : Hid _ := A2
                clear A2 O2 Sf O hlt hk
                go_wp2_with fail
                go_ret2
                have A4 : RCA w p _ E0 F0 Rb n x wz F _ Gl _ Gw := A3.out
                exact ⟨x, _, _, F, Gl, Gf, hfin.out.symm, rfl, A4.dev, A4.row, A4.l, S2.out, A4.put, fun g hg => (A4.fF g hg).imp id Nat.le_of_lt, A4.ok, A4.len, by have := A4.cnt; omega⟩
end Go.Proofs.Ytpieeefeicdfgab
