/- Part of a proof. -/
import Derived.Test.YtnignfloedcmlaaGreatDoorJ11
namespace Go.Proofs.YtnignfloedcmlaaGreatDoor
open Go.RowKit Go.Shelf
set_option linter.unusedVariables false
set_option linter.unusedSimpArgs false
attribute [local go_sem] Oper.semAt_some
theorem cell_news3 {w : World} {o : Ev} : ∀ j u, (evV o)[j]? = some u → (w.alloc (.cells #[.int .i64 o.1, .int .i64 o.2.1, .int .u8 o.2.2] 74)).cell? ((⟨w.heap.size, 0, none⟩ : Addr).add j) = some u := fun j u hj => by
  rw [Addr.add_lit, Nat.zero_add, cell_of_block (heap_alloc_new w _)]; simpa [evV] using hj
theorem queueS_b (s : DS) (x : Int) : (queueS s x).b = s.b := by unfold queueS; split <;> rfl
theorem finF_len (s : DS) (n : Nat) : (finF s n).length ≤ 1 := by unfold finF; split <;> simp
theorem nxt_len (step : Int) (ix : List Nat) (x : CS) : (nxt step ix x).B.length = x.B.length := by
  unfold nxt; split
  · rfl
  · exact evM_len _ _ _ _
theorem comeN_len (step : Int) (ix : List Nat) : ∀ (n : Nat) (x : CS), (comeN step ix n x).B.length = x.B.length
  | 0, x => rfl
  | n + 1, x => by
    unfold comeN; split
    · rw [comeN_len step ix n, nxt_len]
    · rfl
theorem comeC_len (step : Int) (ix : List Nat) (x : CS) : (comeC step ix x).B.length = x.B.length := comeN_len _ _ _ _
theorem come_wrote {w : World} {p : Nat} {F0 : List Nat} {v : Value} {R : Nat} {ix : List Nat} {step : Int} {s5 : DS} {B5 : List Int} {c5 : List Ev} {f5 : List Int} {W w6 : World} {F : List Nat} {vc : Value} {Gc : List Nat} {vw vf : Value} {Gw G : List Nat}
    (A5 : ComeA w p F0 v R ix step ⟨s5, B5, c5, f5⟩ W F vc Gc vw Gw) (hs : s5.s = 1) (g1 : Sli w6 3 1 vf (finF s5 ix.length).length ((finF s5 ix.length).map (Value.int .i64)) G) (g3 : Dev w6 p (finS s5 ix B5) F) (g4 : Put (rwL R B5 ++ F) W w6) (g5 : MemS w6 v R ix (finM s5 ix B5) F) (hl : f5.length + 1 ≤ c5.length) :
    ∃ x7 n7 w7, (Builtin.append_ #[96, 96] 96 #[vw, vf]).run Tryz.prog w6 = .ok (.slice x7 (f5.length + (finF s5 ix.length).length) n7) w7 ∧ w6.cell? ⟨w.heap.size + 3, 0, none⟩ = some vw ∧ w7.cell? ⟨w.heap.size + 3, 0, none⟩ = some vw ∧ w7.frozen? ⟨w.heap.size + 3, 0, none⟩ = false ∧ w7.cell? ⟨w.heap.size, 0, none⟩ = some (.pointer (some ⟨p, 0, none⟩)) ∧
      Hid (∃ G7, ComeA w p F0 v R ix step ⟨finS s5 ix B5, finM s5 ix B5, c5, f5 ++ finF s5 ix.length⟩ (w7.setCell ⟨w.heap.size + 3, 0, none⟩ (.slice x7 (f5.length + (finF s5 ix.length).length) n7)) F vc Gc (.slice x7 (f5.length + (finF s5 ix.length).length) n7) G7) ∧ Hid (∀ b, KeepsFrom b W (w7.setCell ⟨w.heap.size + 3, 0, none⟩ (.slice x7 (f5.length + (finF s5 ix.length).length) n7))) := by
  have A6 := A5.turn g4 g3 g5 (fun g hg => .inl hg) (finM_len _ _ _) ⟨finS_ok A5.ok.s A5.ok.B A5.ok.fits hs, finM_byts A5.ok.s A5.ok.B, A5.ok.fits.len (finM_len _ _ _)⟩ (by rw [finS_E]; exact Nat.le_refl _)
  have hlen := A5.len
  have hfl := finF_len s5 ix.length
  obtain ⟨v7, w7, G7, hrun, r1, r2, r3⟩ := run_append_frames A6.sw g1 hfl (by simp only [] at hlen ⊢; omega)
  obtain ⟨x7, n7, hv7, _⟩ := r1.lies
  subst hv7
  have nb : ∀ g, g < w.heap.size + 6 → g ∉ Gw := fun g hg hm => by have := (A6.gw g hm).1; omega
  have bw7 := box_put A6.bw r2 (nb _ (by omega))
  refine ⟨x7, n7, w7, hrun, A6.bw.cell, bw7.cell, bw7.frozen, (box_put A6.bd r2 (nb _ (by omega))).cell, ⟨G7, A6.wrote (f' := f5 ++ finF s5 ix.length) r2 (by simpa using r1) r3 (by simp; omega)⟩, fun b => ?_⟩
  exact ((A5.keeps g4 b).trans (A6.sw.keeps r2 b)).trans ((keepsCell w7 (w.heap.size + 3) 0 _).from b)
theorem come_end {w : World} {p : Nat} {F0 : List Nat} {v : Value} {R : Nat} {ix : List Nat} {step : Int} {x : CS} {r : List Ev} {ea ec : Int} {W W' : World} {F : List Nat} {vc : Value} {Gc : List Nat} {vw : Value} {Gw : List Nat} {c : List Ev}
    (A : ComeA w p F0 v R ix step ⟨finS { x.s with E := r } ix x.B, finM { x.s with E := r } ix x.B, c, x.f ++ finF { x.s with E := r } ix.length⟩ W F vc Gc vw Gw) {vs vq vo vb : Value} {Fs Fq Fo Fb : List Nat} (D : DevAt W' p { finS { x.s with E := r } ix x.B with b := orI (finS { x.s with E := r } ix x.B).b 4 } vs vq vo vb Fs Fq Fo Fb) (hF : F = p :: (Fs ++ (Fq ++ (Fo ++ Fb)))) (K : Put [p] W W')
    (hn : nxt step ix x = ⟨evS { x.s with E := r } (ea, 2, ec) ix x.B, evM { x.s with E := r } (ea, 2, ec) ix x.B, c, x.f ++ evF { x.s with E := r } (ea, 2, ec) ix.length⟩) (hs : x.s.s = 1) : ComeI w p F0 v R ix step (nxt step ix x) W' := by
  have hpF : p ∈ F := by rw [hF]; simp
  have A7 := A.turn (Put.mono K (by simp; exact .inr hpF)) ⟨_, _, _, _, _, _, _, _, D, hF⟩ (A.mem.put (Put.mono K (by simpa using hpF)) (fun g hg => .inl hg)) (fun g hg => .inl hg) rfl ⟨Ok.bits A.ok.s (or_low A.ok.s.b (by simp)), A.ok.B, A.ok.fits⟩ (Nat.le_refl _)
  have hb : (finS { x.s with E := r } ix x.B).b = x.s.b := by unfold finS; split; split; rfl; rfl; rfl
  rw [hn]
  simp only [evS, evM, evF, hs]
  simp only [hb] at A7
  exact ⟨_, _, _, _, _, A7⟩
def ComeP (w : World) (p : Nat) (F : List Nat) (v : Value) (R : Nat) (ix : List Nat) (B : List Int) (x : CS) (e : Ending) (W : World) : Prop :=
  ∃ vc vw F' Gc Gw, e = .returned (.tuple #[vc, vw]) ∧ Dev W p x.s F' ∧ MemS W v R ix x.B F' ∧ Sli W 74 3 vc x.c.length (evs x.c) Gc ∧ Sli W 3 1 vw x.f.length (x.f.map (Value.int .i64)) Gw ∧ Put (rwL R B ++ F) w W ∧
    (∀ g ∈ F', g ∈ F ∨ w.heap.size ≤ g) ∧ (∀ g ∈ Gc, w.heap.size ≤ g ∧ g ∉ F') ∧ (∀ g ∈ Gw, w.heap.size ≤ g ∧ g ∉ F') ∧ x.Ok ix ∧ x.c.length ≤ 64 ∧ x.f.length ≤ 64 ∧ x.B.length = B.length
set_option maxRecDepth 100000 in
set_option maxHeartbeats 8000000 in
theorem come_in (w : World) (p : Nat) (s : DS) (F : List Nat) (h : Dev w p s F) (ok : s.Ok) (hE : s.E.length ≤ 64) (va : Option Addr) (R : Nat) (ix : List Nat) (B : List Int) (M : MemS w (.pointer va) R ix B F) (hB : Byts B) (hf : Fits B ix) (step : Int) :
    CallsIn Fence.wide 5 Tryz.prog 52 #[.pointer (some ⟨p, 0, none⟩), .int .i64 step, .pointer va] w (ComeP w p F (.pointer va) R ix B (comeC step ix ⟨s, B, [], []⟩)) := by
  have HW : Hid (∀ w', w'.cell? ⟨p, 0, none⟩ = some (.bool true) → CallsIn Fence.wide 4 Tryz.prog 46 #[.pointer (some ⟨p, 0, none⟩)] w' fun e w'' => e = .returned (.bool true) ∧ w'' = w') := fun w' hc => callsIn_wide.2 (vworks_yes w' p hc)
  have HD : Hid (∀ w', CallsIn Fence.wide 4 Tryz.prog 59 #[.pointer (some ⟨p, 0, none⟩), .int .i64 step] w' fun e w'' => e = .returned (.func (.func 72) #[] #[.pointer (some ⟨w'.heap.size, 0, none⟩), .pointer (some ⟨w'.heap.size + 1, 0, none⟩)]) ∧ w'' = (w'.alloc (.cells #[.pointer (some ⟨p, 0, none⟩)] 68)).alloc (.cells #[.int .i64 step] 3)) := fun w' => callsIn_wide.2 (due_any w' p step)
  have c0 : ∀ o o', ((w.alloc o).alloc o').cell? ⟨p, 0, none⟩ = some (.bool true) := fun o o' => by
    obtain ⟨_, _, _, _, _, _, _, _, D, _⟩ := h
    exact (D.kep (((Kep.refl w).alloc o).alloc o')).c 0
  have h' : Hid (Dev w p s F) := h
  have M' : Hid (MemS w (.pointer va) R ix B F) := M
  have ok' : Hid s.Ok := ok
  have hB' : Hid (Byts B) := hB
  have hf' : Hid (Fits B ix) := hf
  have hE' : Hid (s.E.length ≤ 64) := hE
  clear h M ok hB hf hE
  refine callsIn_of_wp_marks Tryz.func52 rfl trivial ?_ rfl
  simp only [Tryz.ntmps52, List.size_toArray, List.length_cons, List.length_nil, Nat.reduceAdd, Nat.reduceSub, Array.replicate_succ, Array.replicate_zero, List.push_toArray, List.append_toArray, List.nil_append, List.cons_append]
  gi_wp2_with (first
    | (refine ⟨trivial, ?_⟩; gi_at_call 46; refine (HW.out _ (c0 _ _)).mono ?_; rintro e w' ⟨rfl, rfl⟩)
    | (refine ⟨trivial, ?_⟩; gi_at_call 59; refine (HD.out _).mono ?_; rintro e w' ⟨rfl, rfl⟩))
  obtain ⟨W0, hW0⟩ : ∃ W0, Hid (W0 = (((((w.alloc (.cells #[.pointer (some ⟨p, 0, none⟩)] 68)).alloc (.cells #[.pointer va] 39)).alloc (.cells #[.slice none 0 0] 37)).alloc (.cells #[.slice none 0 0] 96)).alloc (.cells #[.pointer (some ⟨p, 0, none⟩)] 68)).alloc (.cells #[.int .i64 step] 3)) := ⟨_, rfl⟩
  have hz : W0.heap.size = w.heap.size + 6 := by rw [hW0.out]; simp
  have k0 : Kep w W0 := by rw [hW0.out]; exact (((((((Kep.refl w).alloc _).alloc _).alloc _).alloc _).alloc _).alloc _)
  have I0 : ComeI w p F (.pointer va) R ix step ⟨s, B, [], []⟩ W0 := by
    refine ⟨F, .slice none 0 0, [], .slice none 0 0, [], ⟨h'.out.kep k0, ?_, ?_, ?_, Sli.nil _ _ _, ?_, Sli.nil _ _ _, ?_, ?_, M'.out.kep k0, Put.of_kep k0, fun g hg => .inl hg, by simp, by simp, h'.out.lt, fun hb => ?_, ⟨ok'.out, hB'.out, hf'.out⟩, by simpa using hE'.out, by simp, by omega, ?_⟩⟩
    · rw [hW0.out]; exact (hsk _ _ _ (by simp <;> omega)).trans ((hsk _ _ _ (by simp <;> omega)).trans ((hsk _ _ _ (by simp <;> omega)).trans ((hsk _ _ _ (by simp <;> omega)).trans ((hsk _ _ _ (by simp)).trans (hat _ _ _ rfl)))))
    · rw [hW0.out]; exact (hsk _ _ _ (by simp <;> omega)).trans ((hsk _ _ _ (by simp <;> omega)).trans ((hsk _ _ _ (by simp <;> omega)).trans ((hsk _ _ _ (by simp)).trans (hat _ _ _ (by simp)))))
    · rw [hW0.out]; exact (hsk _ _ _ (by simp <;> omega)).trans ((hsk _ _ _ (by simp <;> omega)).trans ((hsk _ _ _ (by simp)).trans (hat _ _ _ (by simp))))
    · rw [hW0.out]; exact (hsk _ _ _ (by simp <;> omega)).trans ((hsk _ _ _ (by simp)).trans (hat _ _ _ (by simp)))
    · rw [hW0.out]; exact (hsk _ _ _ (by simp)).trans (hat _ _ _ (by simp))
    · rw [hW0.out]; exact hat _ _ _ (by simp)
    · rcases M'.out with ⟨_, _, e0⟩ | ⟨_, hm, _⟩
      · exact absurd e0 hb
      · exact hm.row.lt hb
    · exact M'.out.ram.lo.put M'.out.ram (Put.of_kep (l := []) k0) (fun q e => ⟨by simp, by simp⟩)
  rw [← hW0.out]
  clear hW0 c0
  refine range_all rfl (by decide) (gf := 72) (lb := #[.pointer (some ⟨w.heap.size + 4, 0, none⟩), .pointer (some ⟨w.heap.size + 5, 0, none⟩)]) rfl trivial (enters_of Tryz.func72 (by kernel_rfl) rfl)
    (fun y : Ev => #[.agg (evV y).toArray]) (fun _ => rfl) (fun x W => ComeI w p F (.pointer va) R ix step x W ∧ comeC step ix x = comeC step ix ⟨s, B, [], []⟩) (fun x y W => ComeM w p F (.pointer va) R ix step x y W ∧ comeC step ix x = comeC step ix ⟨s, B, [], []⟩) (fun x _ => nxt step ix x) (fun x => dueB step x.s = false)
    (fun x W W' h k => ⟨by obtain ⟨⟨F1, a, b, c, d, A⟩, _⟩ := h; exact ⟨F1, a, b, c, d, A.soft k (by omega)⟩, h.2⟩) ⟨s, B, [], []⟩ ⟨I0, rfl⟩ ?seq ?round ?done
  case seq =>
    intro l J Jm W hJ hJm hJJ hY h0
    exact due1_in 4 l W0.heap.size (by decide) w p F (.pointer va) R ix step ⟨s, B, [], []⟩ J Jm W (fun x W h => (hJ x W h).1) (fun x y W W' h k m => hJm x y W W' h k ⟨m, (hJ x W h).2⟩) (fun x W W' h k m => hJJ x W W' h k ⟨m, (hJ x W h).2⟩) hY h0
  case round =>
    rintro l x y W ⟨⟨⟨ea, eb, ec⟩, r, hxE, hdu, rfl, hev, hlen, F1, vc, Gc, vw, Gw, A⟩, htot⟩
    have hnx : Hid (comeC step ix (nxt step ix x) = comeC step ix ⟨s, B, [], []⟩) := by
      rw [Hid, ← htot, ← comeC_due (by unfold dueB; rw [hxE]; exact decide_eq_true hdu)]
    have hnxt : Hid (nxt step ix x = ⟨evS { x.s with E := r } (ea, eb, ec) ix x.B, evM { x.s with E := r } (ea, eb, ec) ix x.B, x.c ++ [(step, eb, ec)], x.f ++ evF { x.s with E := r } (ea, eb, ec) ix.length⟩) := by
      unfold Hid nxt; rw [hxE]
    have hlr : Hid (x.c.length + 1 + r.length ≤ 64) := by rw [Hid]; rw [hxE] at hlen; simp at hlen; omega
    have hlc : (x.c.length : Int) ≤ 63 := by rw [hxE] at hlen; simp at hlen; omega
    have hkd := wrong_kind hev.1
    have hec : Hid (0 ≤ ec ∧ ec < 256) := hev.2
    have hz0 : Hid (W0.heap.size = w.heap.size + 6) := hz
    simp only [] at hkd
    have hGc : Hid (∀ g ∈ Gc, g < W.heap.size) := A.sc.lt
    have hA : Hid (ComeA w p F (.pointer va) R ix step { x with s := { x.s with E := r } } W F1 vc Gc vw Gw) := A
    clear htot hxE hdu hev hlen A I0 k0 hz
    simp only [evV]
    gi_wp2
    refine ⟨kep_keeps ((Kep.refl W).alloc _) _, fun W2 hs2 => ?_⟩
    have A2 := (hA.out.kep ((Kep.refl W).alloc (.cells #[.int .i64 step, .int .i64 eb, .int .u8 ec] 74))).soft hs2 (by have := hz0.out; omega)
    have bq : W2.heap[W.heap.size]? = some (.cells #[.int .i64 step, .int .i64 eb, .int .u8 ec] 74 (0, 0)) := hs2.cells (hat _ _ _ rfl)
    obtain ⟨i0, hi, hy0, hy1, hy2⟩ := info_parts info_ev
    have hbg := hA.out.big
    have lq : Hid (∀ g ∈ Gc, g ≠ W.heap.size) := fun g hg => Nat.ne_of_lt (hGc.out g hg)
    have h8 := A2.bc.cell
    have h3 := A2.bd.cell
    have q0 : W2.cell? ⟨W.heap.size, 0, none⟩ = some (.int .i64 step) := cell_of_block bq
    have q1 : W2.cell? ⟨W.heap.size, 1, none⟩ = some (.int .i64 eb) := cell_of_block bq
    have q2 : W2.cell? ⟨W.heap.size, 2, none⟩ = some (.int .u8 ec) := cell_of_block bq
    have A2' : Hid (ComeA w p F (.pointer va) R ix step { x with s := { x.s with E := r } } (W2.alloc (.cells #[.int .i64 step, .int .i64 eb, .int .u8 ec] 74)) F1 vc Gc vw Gw) := A2.kep ((Kep.refl _).alloc _)
    have K2 : Hid (KeepsFrom W0.heap.size W2 (W2.alloc (.cells #[.int .i64 step, .int .i64 eb, .int .u8 ec] 74))) := kep_keeps ((Kep.refl _).alloc _) _
    have bq2 : Hid ((W2.alloc (.cells #[.int .i64 step, .int .i64 eb, .int .u8 ec] 74)).heap[W.heap.size]? = some (.cells #[.int .i64 step, .int .i64 eb, .int .u8 ec] 74 (0, 0))) := ((Kep.refl W2).alloc _).block bq
    have FZ : Hid (∀ w1, Put Gc (W2.alloc (.cells #[.int .i64 step, .int .i64 eb, .int .u8 ec] 74)) w1 → w1.cell? ⟨w.heap.size + 2, 0, none⟩ = some vc ∧ w1.frozen? ⟨w.heap.size + 2, 0, none⟩ = false ∧ w1.cell? ⟨w.heap.size, 0, none⟩ = some (.pointer (some ⟨p, 0, none⟩)) ∧ w1.cell? ⟨w.heap.size + 1, 0, none⟩ = some (.pointer va) ∧ w1.cell? ⟨w.heap.size + 3, 0, none⟩ = some vw ∧ w1.cell? ⟨W.heap.size, 1, none⟩ = some (.int .i64 eb) ∧ w1.cell? ⟨W.heap.size, 2, none⟩ = some (.int .u8 ec) ∧ w1.cell? ⟨p, 9, none⟩ = some (.int .u32 x.s.s)) := fun w1 P1 => by
      have nb : ∀ g, g < w.heap.size + 6 → g ∉ Gc := fun g hg hm => by have := (A2'.out.gc g hm).1; omega
      have bb := box_put A2'.out.bc P1 (nb _ (by omega))
      have bk := P1.keeps bq2.out (fun hm => lq.out _ hm rfl)
      obtain ⟨_, _, _, _, _, _, _, _, D9, _⟩ := A2'.out.dev.put P1 (fun g hg hm => (A2'.out.gc g hm).2 hg)
      exact ⟨bb.cell, bb.frozen, (box_put A2'.out.bd P1 (nb _ (by omega))).cell, (box_put A2'.out.br P1 (nb _ (by omega))).cell, (box_put A2'.out.bw P1 (nb _ (by omega))).cell, cell_of_block bk, cell_of_block bk, D9.c 9⟩
    have hsl := A2'.out.sc
    have hq6 : Hid (w.heap.size + 6 ≤ W.heap.size) := hbg
    have nq : w.heap.size + 2 ≠ W.heap.size := by omega
    have nq' : W.heap.size ≠ w.heap.size + 2 := by omega
    have hp6 : p < w.heap.size ∨ w.heap.size + 6 ≤ p := by
      obtain ⟨_, _, _, _, _, _, _, _, _, hF9⟩ := A2'.out.dev
      rcases A2'.out.fF p (by rw [hF9]; simp) with h | h
      · exact .inl (A2'.out.f0 p h)
      · exact .inr h
    have hp2 : p ≠ w.heap.size + 2 := by omega
    have hp3 : p ≠ w.heap.size + 3 := by omega
    clear hp6
    clear A2 bq hbg hs2
    rcases hkd with rfl | rfl | rfl
    · gi_wp2_with (first
        | (gi_at_builtin; refine wpListIn_append_sli rfl (.tmp 18) (.tmp 20) 37 rfl 74 i0 _ 3 24 Tryz.underlying37 hi hy0 hy1 hy2 rfl (by decide) _ x.c.length (evs x.c) Gc rfl hsl ⟨W2.heap.size, 0, none⟩ 1 (evV (step, 0, ec)) rfl rfl (cell_news3 (o := (step, 0, ec))) (by simp [evV, Value.oneCell']) (by unfold maxLen; omega) (by omega) ?_; intro v' w1 G1 S1 P1 H1; obtain ⟨d0, d1, d2, d3, d4, d5, d6, d9⟩ := FZ.out w1 P1.out; obtain ⟨x1, c1, hv', _⟩ := S1.out.lies; subst hv'; have A5 : Hid _ := A2'.out.came (c' := x.c ++ [(step, 0, ec)]) P1.out (by simpa [evs_append, evs] using S1.out) H1.out (by simpa using hlr.out) (by simp); have K5 : Hid _ := (K2.out.trans (hsl.keeps P1.out _)).trans ((keepsCell w1 (w.heap.size + 2) 0 (.slice x1 (x.c.length + 1) c1)).from _))
        | (refine ⟨trivial, ?_⟩; gi_at_call 60; obtain ⟨vs, vq, vo, vb, Fs, Fq, Fo, Fb, D5, hF5⟩ := A5.out.dev; refine (callsIn_wide.2 (wake_any D5 A5.out.ok.s.b 0 1 (by simp))).mono ?_; rintro e w6 ⟨rfl, d7, k7⟩; have D7 : Hid _ := d7; have K7 : Hid _ := k7; clear d7 k7))
      have hpF : p ∈ F1 := by rw [hF5]; simp
      have A6 := A5.out.turn (Put.mono K7.out (by simp; exact .inr hpF)) ⟨_, _, _, _, _, _, _, _, D7.out, hF5⟩ (A5.out.mem.put (Put.mono K7.out (by simpa using hpF)) (fun g hg => .inl hg)) (fun g hg => .inl hg) rfl ⟨Ok.bits A5.out.ok.s (or_low A5.out.ok.s.b (by simp)), A5.out.ok.B, A5.out.ok.fits⟩ (Nat.le_refl _)
      have e6 : nxt step ix x = ⟨{ x.s with E := r, b := orI x.s.b 1 }, x.B, x.c ++ [(step, 0, ec)], x.f⟩ := by rw [hnxt.out]; simp [evS, evM, evF]
      exact ⟨K5.out.trans (A5.out.keeps (Put.mono K7.out (by simp; exact .inr hpF)) _), by rw [e6]; exact ⟨_, _, _, _, _, A6⟩, hnx.out⟩
    · gi_wp2_with (gi_at_builtin; refine wpListIn_append_sli rfl (.tmp 18) (.tmp 20) 37 rfl 74 i0 _ 3 24 Tryz.underlying37 hi hy0 hy1 hy2 rfl (by decide) _ x.c.length (evs x.c) Gc rfl hsl ⟨W2.heap.size, 0, none⟩ 1 (evV (step, 1, ec)) rfl rfl (cell_news3 (o := (step, 1, ec))) (by simp [evV, Value.oneCell']) (by unfold maxLen; omega) (by omega) ?_; intro v' w1 G1 S1 P1 H1; obtain ⟨d0, d1, d2, d3, d4, d5, d6, d9⟩ := FZ.out w1 P1.out; obtain ⟨x1, c1, hv', _⟩ := S1.out.lies; subst hv'; have A5 : Hid _ := A2'.out.came (c' := x.c ++ [(step, 1, ec)]) P1.out (by simpa [evs_append, evs] using S1.out) H1.out (by simpa using hlr.out) (by simp); have K5 : Hid _ := (K2.out.trans (hsl.keeps P1.out _)).trans ((keepsCell w1 (w.heap.size + 2) 0 (.slice x1 (x.c.length + 1) c1)).from _))
      have A5d : Hid _ := A5.out.kep ((Kep.refl _).drew)
      gi_region_with ((refine ⟨trivial, ?_⟩; gi_at_call 61; refine (callsIn_wide.2 (queueUp_any A5d.out.dev ec)).mono ?_; rintro e w6 ⟨rfl, F6, d7, k7, f7⟩; have A6 : Hid _ := A5d.out.turn (Put.mono k7 (by simp +contextual)) d7 (A5d.out.mem.put k7 f7) f7 rfl ⟨queueS_ok A5.out.ok.s hec.out, A5.out.ok.B, A5.out.ok.fits⟩ (by rw [queueS_E]; exact Nat.le_refl _); have K6 : Hid _ := A5d.out.keeps (Put.mono k7 (by simp +contextual)) W0.heap.size; have d8 := A6.out.bd.cell; clear d7 k7 f7))
      all_goals
        gi_wp2_with (refine ⟨trivial, ?_⟩; gi_at_call 60; obtain ⟨vs, vq, vo, vb, Fs, Fq, Fo, Fb, D5, hF5⟩ := A6.out.dev; refine (callsIn_wide.2 (wake_any D5 A6.out.ok.s.b 1 2 (by simp))).mono ?_; rintro e w7 ⟨rfl, d7, k7⟩; have D7 : Hid _ := d7; have K7 : Hid _ := k7; clear d7 k7)
        have hpF : p ∈ F6 := by rw [hF5]; simp
        have A7 := A6.out.turn (Put.mono K7.out (by simp; exact .inr hpF)) ⟨_, _, _, _, _, _, _, _, D7.out, hF5⟩ (A6.out.mem.put (Put.mono K7.out (by simpa using hpF)) (fun g hg => .inl hg)) (fun g hg => .inl hg) rfl ⟨Ok.bits A6.out.ok.s (or_low A6.out.ok.s.b (by simp)), A6.out.ok.B, A6.out.ok.fits⟩ (Nat.le_refl _)
        have e6 : nxt step ix x = ⟨{ queueS { x.s with E := r } ec with b := orI (queueS { x.s with E := r } ec).b 2 }, x.B, x.c ++ [(step, 1, ec)], x.f⟩ := by rw [hnxt.out]; simp [evS, evM, evF, queueS_b]
        exact ⟨((K5.out.trans (kep_keeps ((Kep.refl _).drew) _)).trans K6.out).trans (A6.out.keeps (Put.mono K7.out (by simp; exact .inr hpF)) _), by rw [e6]; exact ⟨_, _, _, _, _, A7⟩, hnx.out⟩
    · by_cases hst : x.s.s = 1
      · have t9 : (x.s.s == 1) = true := by simp [hst]
        have hst' : Hid (x.s.s = 1) := hst
        clear hst
        gi_wp2_with (gi_at_builtin; refine wpListIn_append_sli rfl (.tmp 18) (.tmp 20) 37 rfl 74 i0 _ 3 24 Tryz.underlying37 hi hy0 hy1 hy2 rfl (by decide) _ x.c.length (evs x.c) Gc rfl hsl ⟨W2.heap.size, 0, none⟩ 1 (evV (step, 2, ec)) rfl rfl (cell_news3 (o := (step, 2, ec))) (by simp [evV, Value.oneCell']) (by unfold maxLen; omega) (by omega) ?_; intro v' w1 G1 S1 P1 H1; obtain ⟨d0, d1, d2, d3, d4, d5, d6, d9⟩ := FZ.out w1 P1.out; obtain ⟨x1, c1, hv', _⟩ := S1.out.lies; subst hv'; have A5 : Hid _ := A2'.out.came (c' := x.c ++ [(step, 2, ec)]) P1.out (by simpa [evs_append, evs] using S1.out) H1.out (by simpa using hlr.out) (by simp); have K5 : Hid _ := (K2.out.trans (hsl.keeps P1.out _)).trans ((keepsCell w1 (w.heap.size + 2) 0 (.slice x1 (x.c.length + 1) c1)).from _))
        have A5d : Hid _ := A5.out.kep ((Kep.refl _).drew)
        have hl7 : Hid (x.f.length + 1 ≤ (x.c ++ [(step, (2 : Int), ec)]).length) := by have := A2'.out.lenf; simp at this ⊢; exact this
        refine wpIn_region_any (by kernel_rfl) ?_
        try (change wpAnyIn _ _ _ _ _ _ _ _ _ (World.drew _))
        refine wpAnyIn_ready (rs := [0, 1, 4]) (by kernel_rfl) (by simp) ?_
        refine AllReadyIn.cons rfl (fun K hK => ?_) ?_
        · go_simp
          refine hK _ _ ?_
          refine wpAnyIn_ready (rs := [1, 4]) (by kernel_rfl) (by simp) ?_
          refine AllReadyIn.cons rfl (fun K hK => ?_) ?_
          · go_simp
            refine hK _ _ ?_
            refine wpAnyIn_ready (rs := [2, 4]) (by kernel_rfl) (by simp) ?_
            refine AllReadyIn.cons rfl (fun K hK => ?_) ?_
            · go_simp
              refine hK _ _ ?_
              refine wpAnyIn_ready (rs := [3, 4]) (by kernel_rfl) (by simp) ?_
              refine AllReadyIn.cons rfl (fun K hK => ?_) ?_
              · go_simp
                refine hK _ _ ?_
                refine wpAnyIn_ready (rs := [4]) (by kernel_rfl) (by simp) ?_
                refine AllReadyIn.cons rfl (fun K hK => ?_) ?_
                · go_simp
                  refine hK _ _ ?_
                  refine wpAnyIn_ready (rs := [5]) (by kernel_rfl) (by simp) ?_
                  refine AllReadyIn.cons rfl (fun K hK => ?_) ?_
                  · gi_wp2_with (refine ⟨trivial, ?_⟩; gi_at_call 62; refine (callsIn_wide.2 (finish_mem A5d.out.dev A5.out.ok.s hst'.out (.pointer va) R ix x.B A5d.out.mem)).mono ?_; rintro e w6 ⟨vf, G, rfl, g1, g2, g3, g4, g5, g6⟩; obtain ⟨x7, n7, w7, hrun, e9, f7, z7, bd7, A7, K7⟩ := come_wrote A5d.out hst'.out g1 g3 g4 g5 hl7.out; clear g1 g2 g3 g4 g5 g6)
                    refine wpAnyIn_ready (rs := [6]) (by kernel_rfl) (by simp) ?_
                    refine AllReadyIn.cons rfl (fun K hK => ?_) ?_
                    · refine stepIn_append rfl (.tmp 50) (.tmp 55) 96 rfl _ _ _ _ rfl rfl hrun ?_
                      refine hK _ _ ?_
                      (try simp only [jA, jB, jC, Act.put, jD, jE, jF])
                      refine wpAnyIn_ready (rs := [7]) (by kernel_rfl) (by simp) ?_
                      refine AllReadyIn.cons rfl (fun K hK => ?_) ?_
                      · go_simp
                        refine hK _ _ ?_
                        refine wpAnyIn_done (by kernel_rfl) ?_ _
                        gi_wp2_with (refine ⟨trivial, ?_⟩; gi_at_call 60; obtain ⟨G7, A8⟩ := A7.out; obtain ⟨vs, vq, vo, vb, Fs, Fq, Fo, Fb, D8, hF8⟩ := A8.dev; refine (callsIn_wide.2 (wake_any D8 A8.ok.s.b 2 4 (by simp))).mono ?_; rintro e w8 ⟨rfl, d8, k8⟩; have D9 : Hid _ := d8; have K9 : Hid _ := k8; have A9 : Hid _ := A8; clear d8 k8 A8)
                        exact ⟨((K5.out.trans (kep_keeps ((Kep.refl _).drew) _)).trans (K7.out _)).trans (ComeA.keeps A9.out (Put.mono K9.out (by simp; rw [hF8]; simp)) _), come_end A9.out D9.out hF8 K9.out hnxt.out hst'.out, hnx.out⟩
                      exact AllReadyIn.nil
                    exact AllReadyIn.nil
                  exact AllReadyIn.nil
                exact AllReadyIn.nil
              refine AllReadyIn.cons rfl (fun K hK => ?_) ?_
              · go_simp
                refine hK _ _ ?_
                refine wpAnyIn_ready (rs := [3]) (by kernel_rfl) (by simp) ?_
                refine AllReadyIn.cons rfl (fun K hK => ?_) ?_
                · go_simp
                  refine hK _ _ ?_
                  refine wpAnyIn_ready (rs := [5]) (by kernel_rfl) (by simp) ?_
                  refine AllReadyIn.cons rfl (fun K hK => ?_) ?_
                  · gi_wp2_with (refine ⟨trivial, ?_⟩; gi_at_call 62; refine (callsIn_wide.2 (finish_mem A5d.out.dev A5.out.ok.s hst'.out (.pointer va) R ix x.B A5d.out.mem)).mono ?_; rintro e w6 ⟨vf, G, rfl, g1, g2, g3, g4, g5, g6⟩; obtain ⟨x7, n7, w7, hrun, e9, f7, z7, bd7, A7, K7⟩ := come_wrote A5d.out hst'.out g1 g3 g4 g5 hl7.out; clear g1 g2 g3 g4 g5 g6)
                    refine wpAnyIn_ready (rs := [6]) (by kernel_rfl) (by simp) ?_
                    refine AllReadyIn.cons rfl (fun K hK => ?_) ?_
                    · refine stepIn_append rfl (.tmp 50) (.tmp 55) 96 rfl _ _ _ _ rfl rfl hrun ?_
                      refine hK _ _ ?_
                      (try simp only [jA, jB, jC, Act.put, jD, jE, jF])
                      refine wpAnyIn_ready (rs := [7]) (by kernel_rfl) (by simp) ?_
                      refine AllReadyIn.cons rfl (fun K hK => ?_) ?_
                      · go_simp
                        refine hK _ _ ?_
                        refine wpAnyIn_done (by kernel_rfl) ?_ _
                        gi_wp2_with (refine ⟨trivial, ?_⟩; gi_at_call 60; obtain ⟨G7, A8⟩ := A7.out; obtain ⟨vs, vq, vo, vb, Fs, Fq, Fo, Fb, D8, hF8⟩ := A8.dev; refine (callsIn_wide.2 (wake_any D8 A8.ok.s.b 2 4 (by simp))).mono ?_; rintro e w8 ⟨rfl, d8, k8⟩; have D9 : Hid _ := d8; have K9 : Hid _ := k8; have A9 : Hid _ := A8; clear d8 k8 A8)
                        exact ⟨((K5.out.trans (kep_keeps ((Kep.refl _).drew) _)).trans (K7.out _)).trans (ComeA.keeps A9.out (Put.mono K9.out (by simp; rw [hF8]; simp)) _), come_end A9.out D9.out hF8 K9.out hnxt.out hst'.out, hnx.out⟩
                      exact AllReadyIn.nil
                    exact AllReadyIn.nil
                  exact AllReadyIn.nil
                exact AllReadyIn.nil
              exact AllReadyIn.nil
            refine AllReadyIn.cons rfl (fun K hK => ?_) ?_
            · go_simp
              refine hK _ _ ?_
              refine wpAnyIn_ready (rs := [2]) (by kernel_rfl) (by simp) ?_
              refine AllReadyIn.cons rfl (fun K hK => ?_) ?_
              · go_simp
                refine hK _ _ ?_
                refine wpAnyIn_ready (rs := [3]) (by kernel_rfl) (by simp) ?_
                refine AllReadyIn.cons rfl (fun K hK => ?_) ?_
                · go_simp
                  refine hK _ _ ?_
                  refine wpAnyIn_ready (rs := [5]) (by kernel_rfl) (by simp) ?_
                  refine AllReadyIn.cons rfl (fun K hK => ?_) ?_
                  · gi_wp2_with (refine ⟨trivial, ?_⟩; gi_at_call 62; refine (callsIn_wide.2 (finish_mem A5d.out.dev A5.out.ok.s hst'.out (.pointer va) R ix x.B A5d.out.mem)).mono ?_; rintro e w6 ⟨vf, G, rfl, g1, g2, g3, g4, g5, g6⟩; obtain ⟨x7, n7, w7, hrun, e9, f7, z7, bd7, A7, K7⟩ := come_wrote A5d.out hst'.out g1 g3 g4 g5 hl7.out; clear g1 g2 g3 g4 g5 g6)
                    refine wpAnyIn_ready (rs := [6]) (by kernel_rfl) (by simp) ?_
                    refine AllReadyIn.cons rfl (fun K hK => ?_) ?_
                    · refine stepIn_append rfl (.tmp 50) (.tmp 55) 96 rfl _ _ _ _ rfl rfl hrun ?_
                      refine hK _ _ ?_
                      (try simp only [jA, jB, jC, Act.put, jD, jE, jF])
                      refine wpAnyIn_ready (rs := [7]) (by kernel_rfl) (by simp) ?_
                      refine AllReadyIn.cons rfl (fun K hK => ?_) ?_
                      · go_simp
                        refine hK _ _ ?_
                        refine wpAnyIn_done (by kernel_rfl) ?_ _
                        gi_wp2_with (refine ⟨trivial, ?_⟩; gi_at_call 60; obtain ⟨G7, A8⟩ := A7.out; obtain ⟨vs, vq, vo, vb, Fs, Fq, Fo, Fb, D8, hF8⟩ := A8.dev; refine (callsIn_wide.2 (wake_any D8 A8.ok.s.b 2 4 (by simp))).mono ?_; rintro e w8 ⟨rfl, d8, k8⟩; have D9 : Hid _ := d8; have K9 : Hid _ := k8; have A9 : Hid _ := A8; clear d8 k8 A8)
                        exact ⟨((K5.out.trans (kep_keeps ((Kep.refl _).drew) _)).trans (K7.out _)).trans (ComeA.keeps A9.out (Put.mono K9.out (by simp; rw [hF8]; simp)) _), come_end A9.out D9.out hF8 K9.out hnxt.out hst'.out, hnx.out⟩
                      exact AllReadyIn.nil
                    exact AllReadyIn.nil
                  exact AllReadyIn.nil
                exact AllReadyIn.nil
              exact AllReadyIn.nil
            exact AllReadyIn.nil
          refine AllReadyIn.cons rfl (fun K hK => ?_) ?_
          · go_simp
            refine hK _ _ ?_
            refine wpAnyIn_ready (rs := [1]) (by kernel_rfl) (by simp) ?_
            refine AllReadyIn.cons rfl (fun K hK => ?_) ?_
            · go_simp
              refine hK _ _ ?_
              refine wpAnyIn_ready (rs := [2]) (by kernel_rfl) (by simp) ?_
              refine AllReadyIn.cons rfl (fun K hK => ?_) ?_
              · go_simp
                refine hK _ _ ?_
                refine wpAnyIn_ready (rs := [3]) (by kernel_rfl) (by simp) ?_
                refine AllReadyIn.cons rfl (fun K hK => ?_) ?_
                · go_simp
                  refine hK _ _ ?_
                  refine wpAnyIn_ready (rs := [5]) (by kernel_rfl) (by simp) ?_
                  refine AllReadyIn.cons rfl (fun K hK => ?_) ?_
                  · gi_wp2_with (refine ⟨trivial, ?_⟩; gi_at_call 62; refine (callsIn_wide.2 (finish_mem A5d.out.dev A5.out.ok.s hst'.out (.pointer va) R ix x.B A5d.out.mem)).mono ?_; rintro e w6 ⟨vf, G, rfl, g1, g2, g3, g4, g5, g6⟩; obtain ⟨x7, n7, w7, hrun, e9, f7, z7, bd7, A7, K7⟩ := come_wrote A5d.out hst'.out g1 g3 g4 g5 hl7.out; clear g1 g2 g3 g4 g5 g6)
                    refine wpAnyIn_ready (rs := [6]) (by kernel_rfl) (by simp) ?_
                    refine AllReadyIn.cons rfl (fun K hK => ?_) ?_
                    · refine stepIn_append rfl (.tmp 50) (.tmp 55) 96 rfl _ _ _ _ rfl rfl hrun ?_
                      refine hK _ _ ?_
                      (try simp only [jA, jB, jC, Act.put, jD, jE, jF])
                      refine wpAnyIn_ready (rs := [7]) (by kernel_rfl) (by simp) ?_
                      refine AllReadyIn.cons rfl (fun K hK => ?_) ?_
                      · go_simp
                        refine hK _ _ ?_
                        refine wpAnyIn_done (by kernel_rfl) ?_ _
                        gi_wp2_with (refine ⟨trivial, ?_⟩; gi_at_call 60; obtain ⟨G7, A8⟩ := A7.out; obtain ⟨vs, vq, vo, vb, Fs, Fq, Fo, Fb, D8, hF8⟩ := A8.dev; refine (callsIn_wide.2 (wake_any D8 A8.ok.s.b 2 4 (by simp))).mono ?_; rintro e w8 ⟨rfl, d8, k8⟩; have D9 : Hid _ := d8; have K9 : Hid _ := k8; have A9 : Hid _ := A8; clear d8 k8 A8)
                        exact ⟨((K5.out.trans (kep_keeps ((Kep.refl _).drew) _)).trans (K7.out _)).trans (ComeA.keeps A9.out (Put.mono K9.out (by simp; rw [hF8]; simp)) _), come_end A9.out D9.out hF8 K9.out hnxt.out hst'.out, hnx.out⟩
                      exact AllReadyIn.nil
                    exact AllReadyIn.nil
                  exact AllReadyIn.nil
                exact AllReadyIn.nil
              exact AllReadyIn.nil
            exact AllReadyIn.nil
          exact AllReadyIn.nil
        refine AllReadyIn.cons rfl (fun K hK => ?_) ?_
        · go_simp
          refine hK _ _ ?_
          refine wpAnyIn_ready (rs := [0, 2, 4]) (by kernel_rfl) (by simp) ?_
          refine AllReadyIn.cons rfl (fun K hK => ?_) ?_
          · go_simp
            refine hK _ _ ?_
            refine wpAnyIn_ready (rs := [2, 4]) (by kernel_rfl) (by simp) ?_
            refine AllReadyIn.cons rfl (fun K hK => ?_) ?_
            · go_simp
              refine hK _ _ ?_
              refine wpAnyIn_ready (rs := [3, 4]) (by kernel_rfl) (by simp) ?_
              refine AllReadyIn.cons rfl (fun K hK => ?_) ?_
              · go_simp
                refine hK _ _ ?_
                refine wpAnyIn_ready (rs := [4]) (by kernel_rfl) (by simp) ?_
                refine AllReadyIn.cons rfl (fun K hK => ?_) ?_
                · go_simp
                  refine hK _ _ ?_
                  refine wpAnyIn_ready (rs := [5]) (by kernel_rfl) (by simp) ?_
                  refine AllReadyIn.cons rfl (fun K hK => ?_) ?_
                  · gi_wp2_with (refine ⟨trivial, ?_⟩; gi_at_call 62; refine (callsIn_wide.2 (finish_mem A5d.out.dev A5.out.ok.s hst'.out (.pointer va) R ix x.B A5d.out.mem)).mono ?_; rintro e w6 ⟨vf, G, rfl, g1, g2, g3, g4, g5, g6⟩; obtain ⟨x7, n7, w7, hrun, e9, f7, z7, bd7, A7, K7⟩ := come_wrote A5d.out hst'.out g1 g3 g4 g5 hl7.out; clear g1 g2 g3 g4 g5 g6)
                    refine wpAnyIn_ready (rs := [6]) (by kernel_rfl) (by simp) ?_
                    refine AllReadyIn.cons rfl (fun K hK => ?_) ?_
                    · refine stepIn_append rfl (.tmp 50) (.tmp 55) 96 rfl _ _ _ _ rfl rfl hrun ?_
                      refine hK _ _ ?_
                      (try simp only [jA, jB, jC, Act.put, jD, jE, jF])
                      refine wpAnyIn_ready (rs := [7]) (by kernel_rfl) (by simp) ?_
                      refine AllReadyIn.cons rfl (fun K hK => ?_) ?_
                      · go_simp
                        refine hK _ _ ?_
                        refine wpAnyIn_done (by kernel_rfl) ?_ _
                        gi_wp2_with (refine ⟨trivial, ?_⟩; gi_at_call 60; obtain ⟨G7, A8⟩ := A7.out; obtain ⟨vs, vq, vo, vb, Fs, Fq, Fo, Fb, D8, hF8⟩ := A8.dev; refine (callsIn_wide.2 (wake_any D8 A8.ok.s.b 2 4 (by simp))).mono ?_; rintro e w8 ⟨rfl, d8, k8⟩; have D9 : Hid _ := d8; have K9 : Hid _ := k8; have A9 : Hid _ := A8; clear d8 k8 A8)
                        exact ⟨((K5.out.trans (kep_keeps ((Kep.refl _).drew) _)).trans (K7.out _)).trans (ComeA.keeps A9.out (Put.mono K9.out (by simp; rw [hF8]; simp)) _), come_end A9.out D9.out hF8 K9.out hnxt.out hst'.out, hnx.out⟩
                      exact AllReadyIn.nil
                    exact AllReadyIn.nil
                  exact AllReadyIn.nil
                exact AllReadyIn.nil
              refine AllReadyIn.cons rfl (fun K hK => ?_) ?_
              · go_simp
                refine hK _ _ ?_
                refine wpAnyIn_ready (rs := [3]) (by kernel_rfl) (by simp) ?_
                refine AllReadyIn.cons rfl (fun K hK => ?_) ?_
                · go_simp
                  refine hK _ _ ?_
                  refine wpAnyIn_ready (rs := [5]) (by kernel_rfl) (by simp) ?_
                  refine AllReadyIn.cons rfl (fun K hK => ?_) ?_
                  · gi_wp2_with (refine ⟨trivial, ?_⟩; gi_at_call 62; refine (callsIn_wide.2 (finish_mem A5d.out.dev A5.out.ok.s hst'.out (.pointer va) R ix x.B A5d.out.mem)).mono ?_; rintro e w6 ⟨vf, G, rfl, g1, g2, g3, g4, g5, g6⟩; obtain ⟨x7, n7, w7, hrun, e9, f7, z7, bd7, A7, K7⟩ := come_wrote A5d.out hst'.out g1 g3 g4 g5 hl7.out; clear g1 g2 g3 g4 g5 g6)
                    refine wpAnyIn_ready (rs := [6]) (by kernel_rfl) (by simp) ?_
                    refine AllReadyIn.cons rfl (fun K hK => ?_) ?_
                    · refine stepIn_append rfl (.tmp 50) (.tmp 55) 96 rfl _ _ _ _ rfl rfl hrun ?_
                      refine hK _ _ ?_
                      (try simp only [jA, jB, jC, Act.put, jD, jE, jF])
                      refine wpAnyIn_ready (rs := [7]) (by kernel_rfl) (by simp) ?_
                      refine AllReadyIn.cons rfl (fun K hK => ?_) ?_
                      · go_simp
                        refine hK _ _ ?_
                        refine wpAnyIn_done (by kernel_rfl) ?_ _
                        gi_wp2_with (refine ⟨trivial, ?_⟩; gi_at_call 60; obtain ⟨G7, A8⟩ := A7.out; obtain ⟨vs, vq, vo, vb, Fs, Fq, Fo, Fb, D8, hF8⟩ := A8.dev; refine (callsIn_wide.2 (wake_any D8 A8.ok.s.b 2 4 (by simp))).mono ?_; rintro e w8 ⟨rfl, d8, k8⟩; have D9 : Hid _ := d8; have K9 : Hid _ := k8; have A9 : Hid _ := A8; clear d8 k8 A8)
                        exact ⟨((K5.out.trans (kep_keeps ((Kep.refl _).drew) _)).trans (K7.out _)).trans (ComeA.keeps A9.out (Put.mono K9.out (by simp; rw [hF8]; simp)) _), come_end A9.out D9.out hF8 K9.out hnxt.out hst'.out, hnx.out⟩
                      exact AllReadyIn.nil
                    exact AllReadyIn.nil
                  exact AllReadyIn.nil
                exact AllReadyIn.nil
              exact AllReadyIn.nil
            refine AllReadyIn.cons rfl (fun K hK => ?_) ?_
            · go_simp
              refine hK _ _ ?_
              refine wpAnyIn_ready (rs := [2]) (by kernel_rfl) (by simp) ?_
              refine AllReadyIn.cons rfl (fun K hK => ?_) ?_
              · go_simp
                refine hK _ _ ?_
                refine wpAnyIn_ready (rs := [3]) (by kernel_rfl) (by simp) ?_
                refine AllReadyIn.cons rfl (fun K hK => ?_) ?_
                · go_simp
                  refine hK _ _ ?_
                  refine wpAnyIn_ready (rs := [5]) (by kernel_rfl) (by simp) ?_
                  refine AllReadyIn.cons rfl (fun K hK => ?_) ?_
                  · gi_wp2_with (refine ⟨trivial, ?_⟩; gi_at_call 62; refine (callsIn_wide.2 (finish_mem A5d.out.dev A5.out.ok.s hst'.out (.pointer va) R ix x.B A5d.out.mem)).mono ?_; rintro e w6 ⟨vf, G, rfl, g1, g2, g3, g4, g5, g6⟩; obtain ⟨x7, n7, w7, hrun, e9, f7, z7, bd7, A7, K7⟩ := come_wrote A5d.out hst'.out g1 g3 g4 g5 hl7.out; clear g1 g2 g3 g4 g5 g6)
                    refine wpAnyIn_ready (rs := [6]) (by kernel_rfl) (by simp) ?_
                    refine AllReadyIn.cons rfl (fun K hK => ?_) ?_
                    · refine stepIn_append rfl (.tmp 50) (.tmp 55) 96 rfl _ _ _ _ rfl rfl hrun ?_
                      refine hK _ _ ?_
                      (try simp only [jA, jB, jC, Act.put, jD, jE, jF])
                      refine wpAnyIn_ready (rs := [7]) (by kernel_rfl) (by simp) ?_
                      refine AllReadyIn.cons rfl (fun K hK => ?_) ?_
                      · go_simp
                        refine hK _ _ ?_
                        refine wpAnyIn_done (by kernel_rfl) ?_ _
                        gi_wp2_with (refine ⟨trivial, ?_⟩; gi_at_call 60; obtain ⟨G7, A8⟩ := A7.out; obtain ⟨vs, vq, vo, vb, Fs, Fq, Fo, Fb, D8, hF8⟩ := A8.dev; refine (callsIn_wide.2 (wake_any D8 A8.ok.s.b 2 4 (by simp))).mono ?_; rintro e w8 ⟨rfl, d8, k8⟩; have D9 : Hid _ := d8; have K9 : Hid _ := k8; have A9 : Hid _ := A8; clear d8 k8 A8)
                        exact ⟨((K5.out.trans (kep_keeps ((Kep.refl _).drew) _)).trans (K7.out _)).trans (ComeA.keeps A9.out (Put.mono K9.out (by simp; rw [hF8]; simp)) _), come_end A9.out D9.out hF8 K9.out hnxt.out hst'.out, hnx.out⟩
                      exact AllReadyIn.nil
                    exact AllReadyIn.nil
                  exact AllReadyIn.nil
                exact AllReadyIn.nil
              exact AllReadyIn.nil
            exact AllReadyIn.nil
          refine AllReadyIn.cons rfl (fun K hK => ?_) ?_
          · go_simp
            refine hK _ _ ?_
            refine wpAnyIn_ready (rs := [0, 3, 4]) (by kernel_rfl) (by simp) ?_
            refine AllReadyIn.cons rfl (fun K hK => ?_) ?_
            · go_simp
              refine hK _ _ ?_
              refine wpAnyIn_ready (rs := [3, 4]) (by kernel_rfl) (by simp) ?_
              refine AllReadyIn.cons rfl (fun K hK => ?_) ?_
              · go_simp
                refine hK _ _ ?_
                refine wpAnyIn_ready (rs := [4]) (by kernel_rfl) (by simp) ?_
                refine AllReadyIn.cons rfl (fun K hK => ?_) ?_
                · go_simp
                  refine hK _ _ ?_
                  refine wpAnyIn_ready (rs := [5]) (by kernel_rfl) (by simp) ?_
                  refine AllReadyIn.cons rfl (fun K hK => ?_) ?_
                  · gi_wp2_with (refine ⟨trivial, ?_⟩; gi_at_call 62; refine (callsIn_wide.2 (finish_mem A5d.out.dev A5.out.ok.s hst'.out (.pointer va) R ix x.B A5d.out.mem)).mono ?_; rintro e w6 ⟨vf, G, rfl, g1, g2, g3, g4, g5, g6⟩; obtain ⟨x7, n7, w7, hrun, e9, f7, z7, bd7, A7, K7⟩ := come_wrote A5d.out hst'.out g1 g3 g4 g5 hl7.out; clear g1 g2 g3 g4 g5 g6)
                    refine wpAnyIn_ready (rs := [6]) (by kernel_rfl) (by simp) ?_
                    refine AllReadyIn.cons rfl (fun K hK => ?_) ?_
                    · refine stepIn_append rfl (.tmp 50) (.tmp 55) 96 rfl _ _ _ _ rfl rfl hrun ?_
                      refine hK _ _ ?_
                      (try simp only [jA, jB, jC, Act.put, jD, jE, jF])
                      refine wpAnyIn_ready (rs := [7]) (by kernel_rfl) (by simp) ?_
                      refine AllReadyIn.cons rfl (fun K hK => ?_) ?_
                      · go_simp
                        refine hK _ _ ?_
                        refine wpAnyIn_done (by kernel_rfl) ?_ _
                        gi_wp2_with (refine ⟨trivial, ?_⟩; gi_at_call 60; obtain ⟨G7, A8⟩ := A7.out; obtain ⟨vs, vq, vo, vb, Fs, Fq, Fo, Fb, D8, hF8⟩ := A8.dev; refine (callsIn_wide.2 (wake_any D8 A8.ok.s.b 2 4 (by simp))).mono ?_; rintro e w8 ⟨rfl, d8, k8⟩; have D9 : Hid _ := d8; have K9 : Hid _ := k8; have A9 : Hid _ := A8; clear d8 k8 A8)
                        exact ⟨((K5.out.trans (kep_keeps ((Kep.refl _).drew) _)).trans (K7.out _)).trans (ComeA.keeps A9.out (Put.mono K9.out (by simp; rw [hF8]; simp)) _), come_end A9.out D9.out hF8 K9.out hnxt.out hst'.out, hnx.out⟩
                      exact AllReadyIn.nil
                    exact AllReadyIn.nil
                  exact AllReadyIn.nil
                exact AllReadyIn.nil
              refine AllReadyIn.cons rfl (fun K hK => ?_) ?_
              · go_simp
                refine hK _ _ ?_
                refine wpAnyIn_ready (rs := [3]) (by kernel_rfl) (by simp) ?_
                refine AllReadyIn.cons rfl (fun K hK => ?_) ?_
                · go_simp
                  refine hK _ _ ?_
                  refine wpAnyIn_ready (rs := [5]) (by kernel_rfl) (by simp) ?_
                  refine AllReadyIn.cons rfl (fun K hK => ?_) ?_
                  · gi_wp2_with (refine ⟨trivial, ?_⟩; gi_at_call 62; refine (callsIn_wide.2 (finish_mem A5d.out.dev A5.out.ok.s hst'.out (.pointer va) R ix x.B A5d.out.mem)).mono ?_; rintro e w6 ⟨vf, G, rfl, g1, g2, g3, g4, g5, g6⟩; obtain ⟨x7, n7, w7, hrun, e9, f7, z7, bd7, A7, K7⟩ := come_wrote A5d.out hst'.out g1 g3 g4 g5 hl7.out; clear g1 g2 g3 g4 g5 g6)
                    refine wpAnyIn_ready (rs := [6]) (by kernel_rfl) (by simp) ?_
                    refine AllReadyIn.cons rfl (fun K hK => ?_) ?_
                    · refine stepIn_append rfl (.tmp 50) (.tmp 55) 96 rfl _ _ _ _ rfl rfl hrun ?_
                      refine hK _ _ ?_
                      (try simp only [jA, jB, jC, Act.put, jD, jE, jF])
                      refine wpAnyIn_ready (rs := [7]) (by kernel_rfl) (by simp) ?_
                      refine AllReadyIn.cons rfl (fun K hK => ?_) ?_
                      · go_simp
                        refine hK _ _ ?_
                        refine wpAnyIn_done (by kernel_rfl) ?_ _
                        gi_wp2_with (refine ⟨trivial, ?_⟩; gi_at_call 60; obtain ⟨G7, A8⟩ := A7.out; obtain ⟨vs, vq, vo, vb, Fs, Fq, Fo, Fb, D8, hF8⟩ := A8.dev; refine (callsIn_wide.2 (wake_any D8 A8.ok.s.b 2 4 (by simp))).mono ?_; rintro e w8 ⟨rfl, d8, k8⟩; have D9 : Hid _ := d8; have K9 : Hid _ := k8; have A9 : Hid _ := A8; clear d8 k8 A8)
                        exact ⟨((K5.out.trans (kep_keeps ((Kep.refl _).drew) _)).trans (K7.out _)).trans (ComeA.keeps A9.out (Put.mono K9.out (by simp; rw [hF8]; simp)) _), come_end A9.out D9.out hF8 K9.out hnxt.out hst'.out, hnx.out⟩
                      exact AllReadyIn.nil
                    exact AllReadyIn.nil
                  exact AllReadyIn.nil
                exact AllReadyIn.nil
              exact AllReadyIn.nil
            refine AllReadyIn.cons rfl (fun K hK => ?_) ?_
            · go_simp
              refine hK _ _ ?_
              refine wpAnyIn_ready (rs := [0, 4]) (by kernel_rfl) (by simp) ?_
              refine AllReadyIn.cons rfl (fun K hK => ?_) ?_
              · go_simp
                refine hK _ _ ?_
                refine wpAnyIn_ready (rs := [4]) (by kernel_rfl) (by simp) ?_
                refine AllReadyIn.cons rfl (fun K hK => ?_) ?_
                · go_simp
                  refine hK _ _ ?_
                  refine wpAnyIn_ready (rs := [5]) (by kernel_rfl) (by simp) ?_
                  refine AllReadyIn.cons rfl (fun K hK => ?_) ?_
                  · gi_wp2_with (refine ⟨trivial, ?_⟩; gi_at_call 62; refine (callsIn_wide.2 (finish_mem A5d.out.dev A5.out.ok.s hst'.out (.pointer va) R ix x.B A5d.out.mem)).mono ?_; rintro e w6 ⟨vf, G, rfl, g1, g2, g3, g4, g5, g6⟩; obtain ⟨x7, n7, w7, hrun, e9, f7, z7, bd7, A7, K7⟩ := come_wrote A5d.out hst'.out g1 g3 g4 g5 hl7.out; clear g1 g2 g3 g4 g5 g6)
                    refine wpAnyIn_ready (rs := [6]) (by kernel_rfl) (by simp) ?_
                    refine AllReadyIn.cons rfl (fun K hK => ?_) ?_
                    · refine stepIn_append rfl (.tmp 50) (.tmp 55) 96 rfl _ _ _ _ rfl rfl hrun ?_
                      refine hK _ _ ?_
                      (try simp only [jA, jB, jC, Act.put, jD, jE, jF])
                      refine wpAnyIn_ready (rs := [7]) (by kernel_rfl) (by simp) ?_
                      refine AllReadyIn.cons rfl (fun K hK => ?_) ?_
                      · go_simp
                        refine hK _ _ ?_
                        refine wpAnyIn_done (by kernel_rfl) ?_ _
                        gi_wp2_with (refine ⟨trivial, ?_⟩; gi_at_call 60; obtain ⟨G7, A8⟩ := A7.out; obtain ⟨vs, vq, vo, vb, Fs, Fq, Fo, Fb, D8, hF8⟩ := A8.dev; refine (callsIn_wide.2 (wake_any D8 A8.ok.s.b 2 4 (by simp))).mono ?_; rintro e w8 ⟨rfl, d8, k8⟩; have D9 : Hid _ := d8; have K9 : Hid _ := k8; have A9 : Hid _ := A8; clear d8 k8 A8)
                        exact ⟨((K5.out.trans (kep_keeps ((Kep.refl _).drew) _)).trans (K7.out _)).trans (ComeA.keeps A9.out (Put.mono K9.out (by simp; rw [hF8]; simp)) _), come_end A9.out D9.out hF8 K9.out hnxt.out hst'.out, hnx.out⟩
                      exact AllReadyIn.nil
                    exact AllReadyIn.nil
                  exact AllReadyIn.nil
                exact AllReadyIn.nil
              refine AllReadyIn.cons rfl (fun K hK => ?_) ?_
              · go_simp
                refine hK _ _ ?_
                refine wpAnyIn_ready (rs := [0, 5]) (by kernel_rfl) (by simp) ?_
                refine AllReadyIn.cons rfl (fun K hK => ?_) ?_
                · go_simp
                  refine hK _ _ ?_
                  refine wpAnyIn_ready (rs := [5]) (by kernel_rfl) (by simp) ?_
                  refine AllReadyIn.cons rfl (fun K hK => ?_) ?_
                  · gi_wp2_with (refine ⟨trivial, ?_⟩; gi_at_call 62; refine (callsIn_wide.2 (finish_mem A5d.out.dev A5.out.ok.s hst'.out (.pointer va) R ix x.B A5d.out.mem)).mono ?_; rintro e w6 ⟨vf, G, rfl, g1, g2, g3, g4, g5, g6⟩; obtain ⟨x7, n7, w7, hrun, e9, f7, z7, bd7, A7, K7⟩ := come_wrote A5d.out hst'.out g1 g3 g4 g5 hl7.out; clear g1 g2 g3 g4 g5 g6)
                    refine wpAnyIn_ready (rs := [6]) (by kernel_rfl) (by simp) ?_
                    refine AllReadyIn.cons rfl (fun K hK => ?_) ?_
                    · refine stepIn_append rfl (.tmp 50) (.tmp 55) 96 rfl _ _ _ _ rfl rfl hrun ?_
                      refine hK _ _ ?_
                      (try simp only [jA, jB, jC, Act.put, jD, jE, jF])
                      refine wpAnyIn_ready (rs := [7]) (by kernel_rfl) (by simp) ?_
                      refine AllReadyIn.cons rfl (fun K hK => ?_) ?_
                      · go_simp
                        refine hK _ _ ?_
                        refine wpAnyIn_done (by kernel_rfl) ?_ _
                        gi_wp2_with (refine ⟨trivial, ?_⟩; gi_at_call 60; obtain ⟨G7, A8⟩ := A7.out; obtain ⟨vs, vq, vo, vb, Fs, Fq, Fo, Fb, D8, hF8⟩ := A8.dev; refine (callsIn_wide.2 (wake_any D8 A8.ok.s.b 2 4 (by simp))).mono ?_; rintro e w8 ⟨rfl, d8, k8⟩; have D9 : Hid _ := d8; have K9 : Hid _ := k8; have A9 : Hid _ := A8; clear d8 k8 A8)
                        exact ⟨((K5.out.trans (kep_keeps ((Kep.refl _).drew) _)).trans (K7.out _)).trans (ComeA.keeps A9.out (Put.mono K9.out (by simp; rw [hF8]; simp)) _), come_end A9.out D9.out hF8 K9.out hnxt.out hst'.out, hnx.out⟩
                      exact AllReadyIn.nil
                    exact AllReadyIn.nil
                  exact AllReadyIn.nil
                refine AllReadyIn.cons rfl (fun K hK => ?_) ?_
                · gi_wp2_with (refine ⟨trivial, ?_⟩; gi_at_call 62; refine (callsIn_wide.2 (finish_mem A5d.out.dev A5.out.ok.s hst'.out (.pointer va) R ix x.B A5d.out.mem)).mono ?_; rintro e w6 ⟨vf, G, rfl, g1, g2, g3, g4, g5, g6⟩; obtain ⟨x7, n7, w7, hrun, e9, f7, z7, bd7, A7, K7⟩ := come_wrote A5d.out hst'.out g1 g3 g4 g5 hl7.out; clear g1 g2 g3 g4 g5 g6)
                  refine wpAnyIn_ready (rs := [0]) (by kernel_rfl) (by simp) ?_
                  refine AllReadyIn.cons rfl (fun K hK => ?_) ?_
                  · go_simp
                    refine hK _ _ ?_
                    refine wpAnyIn_ready (rs := [6]) (by kernel_rfl) (by simp) ?_
                    refine AllReadyIn.cons rfl (fun K hK => ?_) ?_
                    · refine stepIn_append rfl (.tmp 50) (.tmp 55) 96 rfl _ _ _ _ rfl rfl hrun ?_
                      refine hK _ _ ?_
                      (try simp only [jA, jB, jC, Act.put, jD, jE, jF])
                      refine wpAnyIn_ready (rs := [7]) (by kernel_rfl) (by simp) ?_
                      refine AllReadyIn.cons rfl (fun K hK => ?_) ?_
                      · go_simp
                        refine hK _ _ ?_
                        refine wpAnyIn_done (by kernel_rfl) ?_ _
                        gi_wp2_with (refine ⟨trivial, ?_⟩; gi_at_call 60; obtain ⟨G7, A8⟩ := A7.out; obtain ⟨vs, vq, vo, vb, Fs, Fq, Fo, Fb, D8, hF8⟩ := A8.dev; refine (callsIn_wide.2 (wake_any D8 A8.ok.s.b 2 4 (by simp))).mono ?_; rintro e w8 ⟨rfl, d8, k8⟩; have D9 : Hid _ := d8; have K9 : Hid _ := k8; have A9 : Hid _ := A8; clear d8 k8 A8)
                        exact ⟨((K5.out.trans (kep_keeps ((Kep.refl _).drew) _)).trans (K7.out _)).trans (ComeA.keeps A9.out (Put.mono K9.out (by simp; rw [hF8]; simp)) _), come_end A9.out D9.out hF8 K9.out hnxt.out hst'.out, hnx.out⟩
                      exact AllReadyIn.nil
                    exact AllReadyIn.nil
                  exact AllReadyIn.nil
                exact AllReadyIn.nil
              exact AllReadyIn.nil
            refine AllReadyIn.cons rfl (fun K hK => ?_) ?_
            · go_simp
              refine hK _ _ ?_
              refine wpAnyIn_ready (rs := [0, 3]) (by kernel_rfl) (by simp) ?_
              refine AllReadyIn.cons rfl (fun K hK => ?_) ?_
              · go_simp
                refine hK _ _ ?_
                refine wpAnyIn_ready (rs := [3]) (by kernel_rfl) (by simp) ?_
                refine AllReadyIn.cons rfl (fun K hK => ?_) ?_
                · go_simp
                  refine hK _ _ ?_
                  refine wpAnyIn_ready (rs := [5]) (by kernel_rfl) (by simp) ?_
                  refine AllReadyIn.cons rfl (fun K hK => ?_) ?_
                  · gi_wp2_with (refine ⟨trivial, ?_⟩; gi_at_call 62; refine (callsIn_wide.2 (finish_mem A5d.out.dev A5.out.ok.s hst'.out (.pointer va) R ix x.B A5d.out.mem)).mono ?_; rintro e w6 ⟨vf, G, rfl, g1, g2, g3, g4, g5, g6⟩; obtain ⟨x7, n7, w7, hrun, e9, f7, z7, bd7, A7, K7⟩ := come_wrote A5d.out hst'.out g1 g3 g4 g5 hl7.out; clear g1 g2 g3 g4 g5 g6)
                    refine wpAnyIn_ready (rs := [6]) (by kernel_rfl) (by simp) ?_
                    refine AllReadyIn.cons rfl (fun K hK => ?_) ?_
                    · refine stepIn_append rfl (.tmp 50) (.tmp 55) 96 rfl _ _ _ _ rfl rfl hrun ?_
                      refine hK _ _ ?_
                      (try simp only [jA, jB, jC, Act.put, jD, jE, jF])
                      refine wpAnyIn_ready (rs := [7]) (by kernel_rfl) (by simp) ?_
                      refine AllReadyIn.cons rfl (fun K hK => ?_) ?_
                      · go_simp
                        refine hK _ _ ?_
                        refine wpAnyIn_done (by kernel_rfl) ?_ _
                        gi_wp2_with (refine ⟨trivial, ?_⟩; gi_at_call 60; obtain ⟨G7, A8⟩ := A7.out; obtain ⟨vs, vq, vo, vb, Fs, Fq, Fo, Fb, D8, hF8⟩ := A8.dev; refine (callsIn_wide.2 (wake_any D8 A8.ok.s.b 2 4 (by simp))).mono ?_; rintro e w8 ⟨rfl, d8, k8⟩; have D9 : Hid _ := d8; have K9 : Hid _ := k8; have A9 : Hid _ := A8; clear d8 k8 A8)
                        exact ⟨((K5.out.trans (kep_keeps ((Kep.refl _).drew) _)).trans (K7.out _)).trans (ComeA.keeps A9.out (Put.mono K9.out (by simp; rw [hF8]; simp)) _), come_end A9.out D9.out hF8 K9.out hnxt.out hst'.out, hnx.out⟩
                      exact AllReadyIn.nil
                    exact AllReadyIn.nil
                  exact AllReadyIn.nil
                exact AllReadyIn.nil
              refine AllReadyIn.cons rfl (fun K hK => ?_) ?_
              · go_simp
                refine hK _ _ ?_
                refine wpAnyIn_ready (rs := [0, 5]) (by kernel_rfl) (by simp) ?_
                refine AllReadyIn.cons rfl (fun K hK => ?_) ?_
                · go_simp
                  refine hK _ _ ?_
                  refine wpAnyIn_ready (rs := [5]) (by kernel_rfl) (by simp) ?_
                  refine AllReadyIn.cons rfl (fun K hK => ?_) ?_
                  · gi_wp2_with (refine ⟨trivial, ?_⟩; gi_at_call 62; refine (callsIn_wide.2 (finish_mem A5d.out.dev A5.out.ok.s hst'.out (.pointer va) R ix x.B A5d.out.mem)).mono ?_; rintro e w6 ⟨vf, G, rfl, g1, g2, g3, g4, g5, g6⟩; obtain ⟨x7, n7, w7, hrun, e9, f7, z7, bd7, A7, K7⟩ := come_wrote A5d.out hst'.out g1 g3 g4 g5 hl7.out; clear g1 g2 g3 g4 g5 g6)
                    refine wpAnyIn_ready (rs := [6]) (by kernel_rfl) (by simp) ?_
                    refine AllReadyIn.cons rfl (fun K hK => ?_) ?_
                    · refine stepIn_append rfl (.tmp 50) (.tmp 55) 96 rfl _ _ _ _ rfl rfl hrun ?_
                      refine hK _ _ ?_
                      (try simp only [jA, jB, jC, Act.put, jD, jE, jF])
                      refine wpAnyIn_ready (rs := [7]) (by kernel_rfl) (by simp) ?_
                      refine AllReadyIn.cons rfl (fun K hK => ?_) ?_
                      · go_simp
                        refine hK _ _ ?_
                        refine wpAnyIn_done (by kernel_rfl) ?_ _
                        gi_wp2_with (refine ⟨trivial, ?_⟩; gi_at_call 60; obtain ⟨G7, A8⟩ := A7.out; obtain ⟨vs, vq, vo, vb, Fs, Fq, Fo, Fb, D8, hF8⟩ := A8.dev; refine (callsIn_wide.2 (wake_any D8 A8.ok.s.b 2 4 (by simp))).mono ?_; rintro e w8 ⟨rfl, d8, k8⟩; have D9 : Hid _ := d8; have K9 : Hid _ := k8; have A9 : Hid _ := A8; clear d8 k8 A8)
                        exact ⟨((K5.out.trans (kep_keeps ((Kep.refl _).drew) _)).trans (K7.out _)).trans (ComeA.keeps A9.out (Put.mono K9.out (by simp; rw [hF8]; simp)) _), come_end A9.out D9.out hF8 K9.out hnxt.out hst'.out, hnx.out⟩
                      exact AllReadyIn.nil
                    exact AllReadyIn.nil
                  exact AllReadyIn.nil
                refine AllReadyIn.cons rfl (fun K hK => ?_) ?_
                · gi_wp2_with (refine ⟨trivial, ?_⟩; gi_at_call 62; refine (callsIn_wide.2 (finish_mem A5d.out.dev A5.out.ok.s hst'.out (.pointer va) R ix x.B A5d.out.mem)).mono ?_; rintro e w6 ⟨vf, G, rfl, g1, g2, g3, g4, g5, g6⟩; obtain ⟨x7, n7, w7, hrun, e9, f7, z7, bd7, A7, K7⟩ := come_wrote A5d.out hst'.out g1 g3 g4 g5 hl7.out; clear g1 g2 g3 g4 g5 g6)
                  refine wpAnyIn_ready (rs := [0]) (by kernel_rfl) (by simp) ?_
                  refine AllReadyIn.cons rfl (fun K hK => ?_) ?_
                  · go_simp
                    refine hK _ _ ?_
                    refine wpAnyIn_ready (rs := [6]) (by kernel_rfl) (by simp) ?_
                    refine AllReadyIn.cons rfl (fun K hK => ?_) ?_
                    · refine stepIn_append rfl (.tmp 50) (.tmp 55) 96 rfl _ _ _ _ rfl rfl hrun ?_
                      refine hK _ _ ?_
                      (try simp only [jA, jB, jC, Act.put, jD, jE, jF])
                      refine wpAnyIn_ready (rs := [7]) (by kernel_rfl) (by simp) ?_
                      refine AllReadyIn.cons rfl (fun K hK => ?_) ?_
                      · go_simp
                        refine hK _ _ ?_
                        refine wpAnyIn_done (by kernel_rfl) ?_ _
                        gi_wp2_with (refine ⟨trivial, ?_⟩; gi_at_call 60; obtain ⟨G7, A8⟩ := A7.out; obtain ⟨vs, vq, vo, vb, Fs, Fq, Fo, Fb, D8, hF8⟩ := A8.dev; refine (callsIn_wide.2 (wake_any D8 A8.ok.s.b 2 4 (by simp))).mono ?_; rintro e w8 ⟨rfl, d8, k8⟩; have D9 : Hid _ := d8; have K9 : Hid _ := k8; have A9 : Hid _ := A8; clear d8 k8 A8)
                        exact ⟨((K5.out.trans (kep_keeps ((Kep.refl _).drew) _)).trans (K7.out _)).trans (ComeA.keeps A9.out (Put.mono K9.out (by simp; rw [hF8]; simp)) _), come_end A9.out D9.out hF8 K9.out hnxt.out hst'.out, hnx.out⟩
                      exact AllReadyIn.nil
                    exact AllReadyIn.nil
                  exact AllReadyIn.nil
                exact AllReadyIn.nil
              exact AllReadyIn.nil
            exact AllReadyIn.nil
          refine AllReadyIn.cons rfl (fun K hK => ?_) ?_
          · go_simp
            refine hK _ _ ?_
            refine wpAnyIn_ready (rs := [0, 2]) (by kernel_rfl) (by simp) ?_
            refine AllReadyIn.cons rfl (fun K hK => ?_) ?_
            · go_simp
              refine hK _ _ ?_
              refine wpAnyIn_ready (rs := [2]) (by kernel_rfl) (by simp) ?_
              refine AllReadyIn.cons rfl (fun K hK => ?_) ?_
              · go_simp
                refine hK _ _ ?_
                refine wpAnyIn_ready (rs := [3]) (by kernel_rfl) (by simp) ?_
                refine AllReadyIn.cons rfl (fun K hK => ?_) ?_
                · go_simp
                  refine hK _ _ ?_
                  refine wpAnyIn_ready (rs := [5]) (by kernel_rfl) (by simp) ?_
                  refine AllReadyIn.cons rfl (fun K hK => ?_) ?_
                  · gi_wp2_with (refine ⟨trivial, ?_⟩; gi_at_call 62; refine (callsIn_wide.2 (finish_mem A5d.out.dev A5.out.ok.s hst'.out (.pointer va) R ix x.B A5d.out.mem)).mono ?_; rintro e w6 ⟨vf, G, rfl, g1, g2, g3, g4, g5, g6⟩; obtain ⟨x7, n7, w7, hrun, e9, f7, z7, bd7, A7, K7⟩ := come_wrote A5d.out hst'.out g1 g3 g4 g5 hl7.out; clear g1 g2 g3 g4 g5 g6)
                    refine wpAnyIn_ready (rs := [6]) (by kernel_rfl) (by simp) ?_
                    refine AllReadyIn.cons rfl (fun K hK => ?_) ?_
                    · refine stepIn_append rfl (.tmp 50) (.tmp 55) 96 rfl _ _ _ _ rfl rfl hrun ?_
                      refine hK _ _ ?_
                      (try simp only [jA, jB, jC, Act.put, jD, jE, jF])
                      refine wpAnyIn_ready (rs := [7]) (by kernel_rfl) (by simp) ?_
                      refine AllReadyIn.cons rfl (fun K hK => ?_) ?_
                      · go_simp
                        refine hK _ _ ?_
                        refine wpAnyIn_done (by kernel_rfl) ?_ _
                        gi_wp2_with (refine ⟨trivial, ?_⟩; gi_at_call 60; obtain ⟨G7, A8⟩ := A7.out; obtain ⟨vs, vq, vo, vb, Fs, Fq, Fo, Fb, D8, hF8⟩ := A8.dev; refine (callsIn_wide.2 (wake_any D8 A8.ok.s.b 2 4 (by simp))).mono ?_; rintro e w8 ⟨rfl, d8, k8⟩; have D9 : Hid _ := d8; have K9 : Hid _ := k8; have A9 : Hid _ := A8; clear d8 k8 A8)
                        exact ⟨((K5.out.trans (kep_keeps ((Kep.refl _).drew) _)).trans (K7.out _)).trans (ComeA.keeps A9.out (Put.mono K9.out (by simp; rw [hF8]; simp)) _), come_end A9.out D9.out hF8 K9.out hnxt.out hst'.out, hnx.out⟩
                      exact AllReadyIn.nil
                    exact AllReadyIn.nil
                  exact AllReadyIn.nil
                exact AllReadyIn.nil
              exact AllReadyIn.nil
            refine AllReadyIn.cons rfl (fun K hK => ?_) ?_
            · go_simp
              refine hK _ _ ?_
              refine wpAnyIn_ready (rs := [0, 3]) (by kernel_rfl) (by simp) ?_
              refine AllReadyIn.cons rfl (fun K hK => ?_) ?_
              · go_simp
                refine hK _ _ ?_
                refine wpAnyIn_ready (rs := [3]) (by kernel_rfl) (by simp) ?_
                refine AllReadyIn.cons rfl (fun K hK => ?_) ?_
                · go_simp
                  refine hK _ _ ?_
                  refine wpAnyIn_ready (rs := [5]) (by kernel_rfl) (by simp) ?_
                  refine AllReadyIn.cons rfl (fun K hK => ?_) ?_
                  · gi_wp2_with (refine ⟨trivial, ?_⟩; gi_at_call 62; refine (callsIn_wide.2 (finish_mem A5d.out.dev A5.out.ok.s hst'.out (.pointer va) R ix x.B A5d.out.mem)).mono ?_; rintro e w6 ⟨vf, G, rfl, g1, g2, g3, g4, g5, g6⟩; obtain ⟨x7, n7, w7, hrun, e9, f7, z7, bd7, A7, K7⟩ := come_wrote A5d.out hst'.out g1 g3 g4 g5 hl7.out; clear g1 g2 g3 g4 g5 g6)
                    refine wpAnyIn_ready (rs := [6]) (by kernel_rfl) (by simp) ?_
                    refine AllReadyIn.cons rfl (fun K hK => ?_) ?_
                    · refine stepIn_append rfl (.tmp 50) (.tmp 55) 96 rfl _ _ _ _ rfl rfl hrun ?_
                      refine hK _ _ ?_
                      (try simp only [jA, jB, jC, Act.put, jD, jE, jF])
                      refine wpAnyIn_ready (rs := [7]) (by kernel_rfl) (by simp) ?_
                      refine AllReadyIn.cons rfl (fun K hK => ?_) ?_
                      · go_simp
                        refine hK _ _ ?_
                        refine wpAnyIn_done (by kernel_rfl) ?_ _
                        gi_wp2_with (refine ⟨trivial, ?_⟩; gi_at_call 60; obtain ⟨G7, A8⟩ := A7.out; obtain ⟨vs, vq, vo, vb, Fs, Fq, Fo, Fb, D8, hF8⟩ := A8.dev; refine (callsIn_wide.2 (wake_any D8 A8.ok.s.b 2 4 (by simp))).mono ?_; rintro e w8 ⟨rfl, d8, k8⟩; have D9 : Hid _ := d8; have K9 : Hid _ := k8; have A9 : Hid _ := A8; clear d8 k8 A8)
                        exact ⟨((K5.out.trans (kep_keeps ((Kep.refl _).drew) _)).trans (K7.out _)).trans (ComeA.keeps A9.out (Put.mono K9.out (by simp; rw [hF8]; simp)) _), come_end A9.out D9.out hF8 K9.out hnxt.out hst'.out, hnx.out⟩
                      exact AllReadyIn.nil
                    exact AllReadyIn.nil
                  exact AllReadyIn.nil
                exact AllReadyIn.nil
              refine AllReadyIn.cons rfl (fun K hK => ?_) ?_
              · go_simp
                refine hK _ _ ?_
                refine wpAnyIn_ready (rs := [0, 5]) (by kernel_rfl) (by simp) ?_
                refine AllReadyIn.cons rfl (fun K hK => ?_) ?_
                · go_simp
                  refine hK _ _ ?_
                  refine wpAnyIn_ready (rs := [5]) (by kernel_rfl) (by simp) ?_
                  refine AllReadyIn.cons rfl (fun K hK => ?_) ?_
                  · gi_wp2_with (refine ⟨trivial, ?_⟩; gi_at_call 62; refine (callsIn_wide.2 (finish_mem A5d.out.dev A5.out.ok.s hst'.out (.pointer va) R ix x.B A5d.out.mem)).mono ?_; rintro e w6 ⟨vf, G, rfl, g1, g2, g3, g4, g5, g6⟩; obtain ⟨x7, n7, w7, hrun, e9, f7, z7, bd7, A7, K7⟩ := come_wrote A5d.out hst'.out g1 g3 g4 g5 hl7.out; clear g1 g2 g3 g4 g5 g6)
                    refine wpAnyIn_ready (rs := [6]) (by kernel_rfl) (by simp) ?_
                    refine AllReadyIn.cons rfl (fun K hK => ?_) ?_
                    · refine stepIn_append rfl (.tmp 50) (.tmp 55) 96 rfl _ _ _ _ rfl rfl hrun ?_
                      refine hK _ _ ?_
                      (try simp only [jA, jB, jC, Act.put, jD, jE, jF])
                      refine wpAnyIn_ready (rs := [7]) (by kernel_rfl) (by simp) ?_
                      refine AllReadyIn.cons rfl (fun K hK => ?_) ?_
                      · go_simp
                        refine hK _ _ ?_
                        refine wpAnyIn_done (by kernel_rfl) ?_ _
                        gi_wp2_with (refine ⟨trivial, ?_⟩; gi_at_call 60; obtain ⟨G7, A8⟩ := A7.out; obtain ⟨vs, vq, vo, vb, Fs, Fq, Fo, Fb, D8, hF8⟩ := A8.dev; refine (callsIn_wide.2 (wake_any D8 A8.ok.s.b 2 4 (by simp))).mono ?_; rintro e w8 ⟨rfl, d8, k8⟩; have D9 : Hid _ := d8; have K9 : Hid _ := k8; have A9 : Hid _ := A8; clear d8 k8 A8)
                        exact ⟨((K5.out.trans (kep_keeps ((Kep.refl _).drew) _)).trans (K7.out _)).trans (ComeA.keeps A9.out (Put.mono K9.out (by simp; rw [hF8]; simp)) _), come_end A9.out D9.out hF8 K9.out hnxt.out hst'.out, hnx.out⟩
                      exact AllReadyIn.nil
                    exact AllReadyIn.nil
                  exact AllReadyIn.nil
                refine AllReadyIn.cons rfl (fun K hK => ?_) ?_
                · gi_wp2_with (refine ⟨trivial, ?_⟩; gi_at_call 62; refine (callsIn_wide.2 (finish_mem A5d.out.dev A5.out.ok.s hst'.out (.pointer va) R ix x.B A5d.out.mem)).mono ?_; rintro e w6 ⟨vf, G, rfl, g1, g2, g3, g4, g5, g6⟩; obtain ⟨x7, n7, w7, hrun, e9, f7, z7, bd7, A7, K7⟩ := come_wrote A5d.out hst'.out g1 g3 g4 g5 hl7.out; clear g1 g2 g3 g4 g5 g6)
                  refine wpAnyIn_ready (rs := [0]) (by kernel_rfl) (by simp) ?_
                  refine AllReadyIn.cons rfl (fun K hK => ?_) ?_
                  · go_simp
                    refine hK _ _ ?_
                    refine wpAnyIn_ready (rs := [6]) (by kernel_rfl) (by simp) ?_
                    refine AllReadyIn.cons rfl (fun K hK => ?_) ?_
                    · refine stepIn_append rfl (.tmp 50) (.tmp 55) 96 rfl _ _ _ _ rfl rfl hrun ?_
                      refine hK _ _ ?_
                      (try simp only [jA, jB, jC, Act.put, jD, jE, jF])
                      refine wpAnyIn_ready (rs := [7]) (by kernel_rfl) (by simp) ?_
                      refine AllReadyIn.cons rfl (fun K hK => ?_) ?_
                      · go_simp
                        refine hK _ _ ?_
                        refine wpAnyIn_done (by kernel_rfl) ?_ _
                        gi_wp2_with (refine ⟨trivial, ?_⟩; gi_at_call 60; obtain ⟨G7, A8⟩ := A7.out; obtain ⟨vs, vq, vo, vb, Fs, Fq, Fo, Fb, D8, hF8⟩ := A8.dev; refine (callsIn_wide.2 (wake_any D8 A8.ok.s.b 2 4 (by simp))).mono ?_; rintro e w8 ⟨rfl, d8, k8⟩; have D9 : Hid _ := d8; have K9 : Hid _ := k8; have A9 : Hid _ := A8; clear d8 k8 A8)
                        exact ⟨((K5.out.trans (kep_keeps ((Kep.refl _).drew) _)).trans (K7.out _)).trans (ComeA.keeps A9.out (Put.mono K9.out (by simp; rw [hF8]; simp)) _), come_end A9.out D9.out hF8 K9.out hnxt.out hst'.out, hnx.out⟩
                      exact AllReadyIn.nil
                    exact AllReadyIn.nil
                  exact AllReadyIn.nil
                exact AllReadyIn.nil
              exact AllReadyIn.nil
            exact AllReadyIn.nil
          exact AllReadyIn.nil
        refine AllReadyIn.cons rfl (fun K hK => ?_) ?_
        · go_simp
          refine hK _ _ ?_
          refine wpAnyIn_ready (rs := [0, 1]) (by kernel_rfl) (by simp) ?_
          refine AllReadyIn.cons rfl (fun K hK => ?_) ?_
          · go_simp
            refine hK _ _ ?_
            refine wpAnyIn_ready (rs := [1]) (by kernel_rfl) (by simp) ?_
            refine AllReadyIn.cons rfl (fun K hK => ?_) ?_
            · go_simp
              refine hK _ _ ?_
              refine wpAnyIn_ready (rs := [2]) (by kernel_rfl) (by simp) ?_
              refine AllReadyIn.cons rfl (fun K hK => ?_) ?_
              · go_simp
                refine hK _ _ ?_
                refine wpAnyIn_ready (rs := [3]) (by kernel_rfl) (by simp) ?_
                refine AllReadyIn.cons rfl (fun K hK => ?_) ?_
                · go_simp
                  refine hK _ _ ?_
                  refine wpAnyIn_ready (rs := [5]) (by kernel_rfl) (by simp) ?_
                  refine AllReadyIn.cons rfl (fun K hK => ?_) ?_
                  · gi_wp2_with (refine ⟨trivial, ?_⟩; gi_at_call 62; refine (callsIn_wide.2 (finish_mem A5d.out.dev A5.out.ok.s hst'.out (.pointer va) R ix x.B A5d.out.mem)).mono ?_; rintro e w6 ⟨vf, G, rfl, g1, g2, g3, g4, g5, g6⟩; obtain ⟨x7, n7, w7, hrun, e9, f7, z7, bd7, A7, K7⟩ := come_wrote A5d.out hst'.out g1 g3 g4 g5 hl7.out; clear g1 g2 g3 g4 g5 g6)
                    refine wpAnyIn_ready (rs := [6]) (by kernel_rfl) (by simp) ?_
                    refine AllReadyIn.cons rfl (fun K hK => ?_) ?_
                    · refine stepIn_append rfl (.tmp 50) (.tmp 55) 96 rfl _ _ _ _ rfl rfl hrun ?_
                      refine hK _ _ ?_
                      (try simp only [jA, jB, jC, Act.put, jD, jE, jF])
                      refine wpAnyIn_ready (rs := [7]) (by kernel_rfl) (by simp) ?_
                      refine AllReadyIn.cons rfl (fun K hK => ?_) ?_
                      · go_simp
                        refine hK _ _ ?_
                        refine wpAnyIn_done (by kernel_rfl) ?_ _
                        gi_wp2_with (refine ⟨trivial, ?_⟩; gi_at_call 60; obtain ⟨G7, A8⟩ := A7.out; obtain ⟨vs, vq, vo, vb, Fs, Fq, Fo, Fb, D8, hF8⟩ := A8.dev; refine (callsIn_wide.2 (wake_any D8 A8.ok.s.b 2 4 (by simp))).mono ?_; rintro e w8 ⟨rfl, d8, k8⟩; have D9 : Hid _ := d8; have K9 : Hid _ := k8; have A9 : Hid _ := A8; clear d8 k8 A8)
                        exact ⟨((K5.out.trans (kep_keeps ((Kep.refl _).drew) _)).trans (K7.out _)).trans (ComeA.keeps A9.out (Put.mono K9.out (by simp; rw [hF8]; simp)) _), come_end A9.out D9.out hF8 K9.out hnxt.out hst'.out, hnx.out⟩
                      exact AllReadyIn.nil
                    exact AllReadyIn.nil
                  exact AllReadyIn.nil
                exact AllReadyIn.nil
              exact AllReadyIn.nil
            exact AllReadyIn.nil
          refine AllReadyIn.cons rfl (fun K hK => ?_) ?_
          · go_simp
            refine hK _ _ ?_
            refine wpAnyIn_ready (rs := [0, 2]) (by kernel_rfl) (by simp) ?_
            refine AllReadyIn.cons rfl (fun K hK => ?_) ?_
            · go_simp
              refine hK _ _ ?_
              refine wpAnyIn_ready (rs := [2]) (by kernel_rfl) (by simp) ?_
              refine AllReadyIn.cons rfl (fun K hK => ?_) ?_
              · go_simp
                refine hK _ _ ?_
                refine wpAnyIn_ready (rs := [3]) (by kernel_rfl) (by simp) ?_
                refine AllReadyIn.cons rfl (fun K hK => ?_) ?_
                · go_simp
                  refine hK _ _ ?_
                  refine wpAnyIn_ready (rs := [5]) (by kernel_rfl) (by simp) ?_
                  refine AllReadyIn.cons rfl (fun K hK => ?_) ?_
                  · gi_wp2_with (refine ⟨trivial, ?_⟩; gi_at_call 62; refine (callsIn_wide.2 (finish_mem A5d.out.dev A5.out.ok.s hst'.out (.pointer va) R ix x.B A5d.out.mem)).mono ?_; rintro e w6 ⟨vf, G, rfl, g1, g2, g3, g4, g5, g6⟩; obtain ⟨x7, n7, w7, hrun, e9, f7, z7, bd7, A7, K7⟩ := come_wrote A5d.out hst'.out g1 g3 g4 g5 hl7.out; clear g1 g2 g3 g4 g5 g6)
                    refine wpAnyIn_ready (rs := [6]) (by kernel_rfl) (by simp) ?_
                    refine AllReadyIn.cons rfl (fun K hK => ?_) ?_
                    · refine stepIn_append rfl (.tmp 50) (.tmp 55) 96 rfl _ _ _ _ rfl rfl hrun ?_
                      refine hK _ _ ?_
                      (try simp only [jA, jB, jC, Act.put, jD, jE, jF])
                      refine wpAnyIn_ready (rs := [7]) (by kernel_rfl) (by simp) ?_
                      refine AllReadyIn.cons rfl (fun K hK => ?_) ?_
                      · go_simp
                        refine hK _ _ ?_
                        refine wpAnyIn_done (by kernel_rfl) ?_ _
                        gi_wp2_with (refine ⟨trivial, ?_⟩; gi_at_call 60; obtain ⟨G7, A8⟩ := A7.out; obtain ⟨vs, vq, vo, vb, Fs, Fq, Fo, Fb, D8, hF8⟩ := A8.dev; refine (callsIn_wide.2 (wake_any D8 A8.ok.s.b 2 4 (by simp))).mono ?_; rintro e w8 ⟨rfl, d8, k8⟩; have D9 : Hid _ := d8; have K9 : Hid _ := k8; have A9 : Hid _ := A8; clear d8 k8 A8)
                        exact ⟨((K5.out.trans (kep_keeps ((Kep.refl _).drew) _)).trans (K7.out _)).trans (ComeA.keeps A9.out (Put.mono K9.out (by simp; rw [hF8]; simp)) _), come_end A9.out D9.out hF8 K9.out hnxt.out hst'.out, hnx.out⟩
                      exact AllReadyIn.nil
                    exact AllReadyIn.nil
                  exact AllReadyIn.nil
                exact AllReadyIn.nil
              exact AllReadyIn.nil
            refine AllReadyIn.cons rfl (fun K hK => ?_) ?_
            · go_simp
              refine hK _ _ ?_
              refine wpAnyIn_ready (rs := [0, 3]) (by kernel_rfl) (by simp) ?_
              refine AllReadyIn.cons rfl (fun K hK => ?_) ?_
              · go_simp
                refine hK _ _ ?_
                refine wpAnyIn_ready (rs := [3]) (by kernel_rfl) (by simp) ?_
                refine AllReadyIn.cons rfl (fun K hK => ?_) ?_
                · go_simp
                  refine hK _ _ ?_
                  refine wpAnyIn_ready (rs := [5]) (by kernel_rfl) (by simp) ?_
                  refine AllReadyIn.cons rfl (fun K hK => ?_) ?_
                  · gi_wp2_with (refine ⟨trivial, ?_⟩; gi_at_call 62; refine (callsIn_wide.2 (finish_mem A5d.out.dev A5.out.ok.s hst'.out (.pointer va) R ix x.B A5d.out.mem)).mono ?_; rintro e w6 ⟨vf, G, rfl, g1, g2, g3, g4, g5, g6⟩; obtain ⟨x7, n7, w7, hrun, e9, f7, z7, bd7, A7, K7⟩ := come_wrote A5d.out hst'.out g1 g3 g4 g5 hl7.out; clear g1 g2 g3 g4 g5 g6)
                    refine wpAnyIn_ready (rs := [6]) (by kernel_rfl) (by simp) ?_
                    refine AllReadyIn.cons rfl (fun K hK => ?_) ?_
                    · refine stepIn_append rfl (.tmp 50) (.tmp 55) 96 rfl _ _ _ _ rfl rfl hrun ?_
                      refine hK _ _ ?_
                      (try simp only [jA, jB, jC, Act.put, jD, jE, jF])
                      refine wpAnyIn_ready (rs := [7]) (by kernel_rfl) (by simp) ?_
                      refine AllReadyIn.cons rfl (fun K hK => ?_) ?_
                      · go_simp
                        refine hK _ _ ?_
                        refine wpAnyIn_done (by kernel_rfl) ?_ _
                        gi_wp2_with (refine ⟨trivial, ?_⟩; gi_at_call 60; obtain ⟨G7, A8⟩ := A7.out; obtain ⟨vs, vq, vo, vb, Fs, Fq, Fo, Fb, D8, hF8⟩ := A8.dev; refine (callsIn_wide.2 (wake_any D8 A8.ok.s.b 2 4 (by simp))).mono ?_; rintro e w8 ⟨rfl, d8, k8⟩; have D9 : Hid _ := d8; have K9 : Hid _ := k8; have A9 : Hid _ := A8; clear d8 k8 A8)
                        exact ⟨((K5.out.trans (kep_keeps ((Kep.refl _).drew) _)).trans (K7.out _)).trans (ComeA.keeps A9.out (Put.mono K9.out (by simp; rw [hF8]; simp)) _), come_end A9.out D9.out hF8 K9.out hnxt.out hst'.out, hnx.out⟩
                      exact AllReadyIn.nil
                    exact AllReadyIn.nil
                  exact AllReadyIn.nil
                exact AllReadyIn.nil
              refine AllReadyIn.cons rfl (fun K hK => ?_) ?_
              · go_simp
                refine hK _ _ ?_
                refine wpAnyIn_ready (rs := [0, 5]) (by kernel_rfl) (by simp) ?_
                refine AllReadyIn.cons rfl (fun K hK => ?_) ?_
                · go_simp
                  refine hK _ _ ?_
                  refine wpAnyIn_ready (rs := [5]) (by kernel_rfl) (by simp) ?_
                  refine AllReadyIn.cons rfl (fun K hK => ?_) ?_
                  · gi_wp2_with (refine ⟨trivial, ?_⟩; gi_at_call 62; refine (callsIn_wide.2 (finish_mem A5d.out.dev A5.out.ok.s hst'.out (.pointer va) R ix x.B A5d.out.mem)).mono ?_; rintro e w6 ⟨vf, G, rfl, g1, g2, g3, g4, g5, g6⟩; obtain ⟨x7, n7, w7, hrun, e9, f7, z7, bd7, A7, K7⟩ := come_wrote A5d.out hst'.out g1 g3 g4 g5 hl7.out; clear g1 g2 g3 g4 g5 g6)
                    refine wpAnyIn_ready (rs := [6]) (by kernel_rfl) (by simp) ?_
                    refine AllReadyIn.cons rfl (fun K hK => ?_) ?_
                    · refine stepIn_append rfl (.tmp 50) (.tmp 55) 96 rfl _ _ _ _ rfl rfl hrun ?_
                      refine hK _ _ ?_
                      (try simp only [jA, jB, jC, Act.put, jD, jE, jF])
                      refine wpAnyIn_ready (rs := [7]) (by kernel_rfl) (by simp) ?_
                      refine AllReadyIn.cons rfl (fun K hK => ?_) ?_
                      · go_simp
                        refine hK _ _ ?_
                        refine wpAnyIn_done (by kernel_rfl) ?_ _
                        gi_wp2_with (refine ⟨trivial, ?_⟩; gi_at_call 60; obtain ⟨G7, A8⟩ := A7.out; obtain ⟨vs, vq, vo, vb, Fs, Fq, Fo, Fb, D8, hF8⟩ := A8.dev; refine (callsIn_wide.2 (wake_any D8 A8.ok.s.b 2 4 (by simp))).mono ?_; rintro e w8 ⟨rfl, d8, k8⟩; have D9 : Hid _ := d8; have K9 : Hid _ := k8; have A9 : Hid _ := A8; clear d8 k8 A8)
                        exact ⟨((K5.out.trans (kep_keeps ((Kep.refl _).drew) _)).trans (K7.out _)).trans (ComeA.keeps A9.out (Put.mono K9.out (by simp; rw [hF8]; simp)) _), come_end A9.out D9.out hF8 K9.out hnxt.out hst'.out, hnx.out⟩
                      exact AllReadyIn.nil
                    exact AllReadyIn.nil
                  exact AllReadyIn.nil
                refine AllReadyIn.cons rfl (fun K hK => ?_) ?_
                · gi_wp2_with (refine ⟨trivial, ?_⟩; gi_at_call 62; refine (callsIn_wide.2 (finish_mem A5d.out.dev A5.out.ok.s hst'.out (.pointer va) R ix x.B A5d.out.mem)).mono ?_; rintro e w6 ⟨vf, G, rfl, g1, g2, g3, g4, g5, g6⟩; obtain ⟨x7, n7, w7, hrun, e9, f7, z7, bd7, A7, K7⟩ := come_wrote A5d.out hst'.out g1 g3 g4 g5 hl7.out; clear g1 g2 g3 g4 g5 g6)
                  refine wpAnyIn_ready (rs := [0]) (by kernel_rfl) (by simp) ?_
                  refine AllReadyIn.cons rfl (fun K hK => ?_) ?_
                  · go_simp
                    refine hK _ _ ?_
                    refine wpAnyIn_ready (rs := [6]) (by kernel_rfl) (by simp) ?_
                    refine AllReadyIn.cons rfl (fun K hK => ?_) ?_
                    · refine stepIn_append rfl (.tmp 50) (.tmp 55) 96 rfl _ _ _ _ rfl rfl hrun ?_
                      refine hK _ _ ?_
                      (try simp only [jA, jB, jC, Act.put, jD, jE, jF])
                      refine wpAnyIn_ready (rs := [7]) (by kernel_rfl) (by simp) ?_
                      refine AllReadyIn.cons rfl (fun K hK => ?_) ?_
                      · go_simp
                        refine hK _ _ ?_
                        refine wpAnyIn_done (by kernel_rfl) ?_ _
                        gi_wp2_with (refine ⟨trivial, ?_⟩; gi_at_call 60; obtain ⟨G7, A8⟩ := A7.out; obtain ⟨vs, vq, vo, vb, Fs, Fq, Fo, Fb, D8, hF8⟩ := A8.dev; refine (callsIn_wide.2 (wake_any D8 A8.ok.s.b 2 4 (by simp))).mono ?_; rintro e w8 ⟨rfl, d8, k8⟩; have D9 : Hid _ := d8; have K9 : Hid _ := k8; have A9 : Hid _ := A8; clear d8 k8 A8)
                        exact ⟨((K5.out.trans (kep_keeps ((Kep.refl _).drew) _)).trans (K7.out _)).trans (ComeA.keeps A9.out (Put.mono K9.out (by simp; rw [hF8]; simp)) _), come_end A9.out D9.out hF8 K9.out hnxt.out hst'.out, hnx.out⟩
                      exact AllReadyIn.nil
                    exact AllReadyIn.nil
                  exact AllReadyIn.nil
                exact AllReadyIn.nil
              exact AllReadyIn.nil
            exact AllReadyIn.nil
          exact AllReadyIn.nil
        exact AllReadyIn.nil
      · have t9 : (x.s.s == 1) = false := by simp [hst]
        have hst' : Hid (x.s.s ≠ 1) := hst
        clear hst
        gi_wp2_with (gi_at_builtin; refine wpListIn_append_sli rfl (.tmp 18) (.tmp 20) 37 rfl 74 i0 _ 3 24 Tryz.underlying37 hi hy0 hy1 hy2 rfl (by decide) _ x.c.length (evs x.c) Gc rfl hsl ⟨W2.heap.size, 0, none⟩ 1 (evV (step, 2, ec)) rfl rfl (cell_news3 (o := (step, 2, ec))) (by simp [evV, Value.oneCell']) (by unfold maxLen; omega) (by omega) ?_; intro v' w1 G1 S1 P1 H1; obtain ⟨d0, d1, d2, d3, d4, d5, d6, d9⟩ := FZ.out w1 P1.out; obtain ⟨x1, c1, hv', _⟩ := S1.out.lies; subst hv'; have A5 : Hid _ := A2'.out.came (c' := x.c ++ [(step, 2, ec)]) P1.out (by simpa [evs_append, evs] using S1.out) H1.out (by simpa using hlr.out) (by simp); have K5 : Hid _ := (K2.out.trans (hsl.keeps P1.out _)).trans ((keepsCell w1 (w.heap.size + 2) 0 (.slice x1 (x.c.length + 1) c1)).from _))
        have e6 : nxt step ix x = ⟨{ x.s with E := r }, x.B, x.c ++ [(step, 2, ec)], x.f⟩ := by rw [hnxt.out]; simp [evS, evM, evF, hst'.out]
        exact ⟨K5.out, by rw [e6]; exact ⟨_, _, _, _, _, A5.out⟩, hnx.out⟩
  case done =>
    rintro D x W hD hfin ⟨⟨F1, vc, Gc, vw, Gw, A⟩, htot⟩ hK
    rw [comeC_done hfin] at htot
    have ht : Hid (x = comeC step ix ⟨s, B, [], []⟩) := htot
    clear htot
    have A' : Hid (ComeA w p F (.pointer va) R ix step x W F1 vc Gc vw Gw) := A
    have c8 := A.bc.cell
    have c9 := A.bw.cell
    obtain ⟨x1, n1, hv1, _⟩ := A.sc.lies
    obtain ⟨x2, n2, hv2, _⟩ := A.sw.lies
    clear A
    subst hv1 hv2
    gi_wp2
    gi_big_quiet_th (fail)
    gi_wp2
    refine ⟨by simp, .inl ⟨_, _, rfl, run_takeDeferred (w := W.drewN nq) hK, ?_⟩⟩
    have A3 := (A'.out.kep ((Kep.refl W).drewN nq)).soft (Soft.obj (B := w.heap.size) (.deferred none) (W := W.drewN nq) hK rfl (by omega)) (Nat.le_refl _)
    have hl : x.B.length = B.length := by rw [ht.out]; exact comeC_len _ _ _
    refine ⟨.tuple #[.slice x1 x.c.length n1, .slice x2 x.f.length n2], by simp [results, Tryz.f52, go_sem], ?_⟩
    rw [← ht.out]
    refine ⟨_, _, F1, Gc, Gw, rfl, A3.dev, A3.mem, A3.sc, A3.sw, ?_, fun g hg => ?_, fun g hg => ?_, fun g hg => ?_, A3.ok, ?_, ?_, hl⟩
    · have := A3.put; rwa [rwL_len hl] at this
    · rcases A3.fF g hg with h | h
      · exact .inl h
      · exact .inr (by omega)
    · exact ⟨by have := (A3.gc g hg).1; omega, (A3.gc g hg).2⟩
    · exact ⟨by have := (A3.gw g hg).1; omega, (A3.gw g hg).2.1⟩
    · have := A3.len; omega
    · have := A3.len; have := A3.lenf; omega
end Go.Proofs.YtnignfloedcmlaaGreatDoor
