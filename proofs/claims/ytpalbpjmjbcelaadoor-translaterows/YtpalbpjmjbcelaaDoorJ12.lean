/- Part of a proof. -/
import Derived.Test.YtpalbpjmjbcelaaDoorJ11
namespace Go.Proofs.YtpalbpjmjbcelaaDoor
open Go.RowKit
set_option linter.unusedVariables false
set_option linter.unusedSimpArgs false
structure CdV (w0 W : World) (v1 v2 : Value) (L : List It) (F G : List Nat) : Prop where
  sb : Sli W 5 1 v1 (itB L).length (bs (itB L)) F
  sr : Sli W 41 4 v2 L.length (rws (itR L)) G
  lo : (∀ g ∈ F, w0.heap.size ≤ g) ∧ ∀ g ∈ G, w0.heap.size ≤ g
  kp : Kep w0 W
theorem CdV.kep {w0 W W' : World} {v1 v2 : Value} {L : List It} {F G : List Nat} (h : CdV w0 W v1 v2 L F G) (k : Kep W W') : CdV w0 W' v1 v2 L F G := ⟨h.sb.kep k, h.sr.kep k, h.lo, kep_trans h.kp k⟩
structure CdM (w0 W : World) (c : Nat) (v1 v2 : Value) (B : List Int) (R : List Rw4) (F G : List Nat) : Prop where
  box : W.heap[c]? = some (.cells #[v1, v2] 33 (0, 0))
  sb : Sli W 5 1 v1 B.length (bs B) F
  sr : Sli W 41 4 v2 R.length (rws R) G
  lo : w0.heap.size ≤ c ∧ (∀ g ∈ F, w0.heap.size ≤ g) ∧ ∀ g ∈ G, w0.heap.size ≤ g
  kp : Kep w0 W
section
variable {w0 W V w5 : World} {c : Nat} {v1 v2 v3 : Value} {B P : List Int} {R X : List Rw4} {F G F1 G1 : List Nat}
theorem CdM.cF (h : CdM w0 W c v1 v2 B R F G) : c ∉ F := fun hm => h.sb.ne h.box (by decide) c hm rfl
theorem CdM.cG (h : CdM w0 W c v1 v2 B R F G) : c ∉ G := fun hm => h.sr.ne h.box (by decide) c hm rfl
theorem CdM.fg (h : CdM w0 W c v1 v2 B R F G) : ∀ g ∈ G, g ∉ F := fun g hg hf => by
  rcases h.sr.form with ⟨_, _, _, rfl⟩ | ⟨g', o, cp, _, rfl, _⟩
  · simp at hg
  · obtain rfl : g = g' := by simpa using hg
    rcases h.sr.2 with ⟨_, _, h2⟩ | ⟨b, _, _, cur, _, h2, hb, _⟩
    · simp at h2
    · obtain rfl : g = b := by simpa using h2
      exact h.sb.ne hb (by decide) g hf rfl
theorem CdM.setR (h : CdM w0 W c v1 v2 B R F G) (kV : Kep W V) (S1 : Sli w5 41 4 v3 (R ++ X).length (rws (R ++ X)) G1) (P1 : Put G V w5) (Q1 : ∀ g ∈ G1, g ∈ G ∨ V.heap.size ≤ g) : CdM w0 (w5.setCell ⟨c, 1, none⟩ v3) c v1 v3 B (R ++ X) F G1 := by
  have k5 : Put (c :: G) W (w5.setCell ⟨c, 1, none⟩ v3) := ((Put.of_kep kV).trans (P1.mono (fun g hg => List.mem_cons_of_mem _ hg))).setCell (by simp) _
  refine ⟨heap_setCell_row (P1.keeps (kV.block h.box) h.cG) (k := 1) _, h.sb.put k5 (fun g hg hm => ?_), S1.put (l := [c]) ((Put.refl _).setCell (by simp) _) (fun g hg hm => ?_), ⟨h.lo.1, h.lo.2.1, fun g hg => ?_⟩, h.kp.put k5 (fun g hg => ?_)⟩
  · rcases List.mem_cons.1 hm with e | e
    · subst e; exact h.cF hg
    · exact h.fg g e hg
  · obtain rfl : g = c := by simpa using hm
    rcases Q1 g hg with e | e
    · exact h.cG e
    · have := block_lt (kV.block h.box); omega
  · rcases Q1 g hg with e | e
    · exact h.lo.2.2 g e
    · have := h.kp.size; have := kV.size; omega
  · rcases List.mem_cons.1 hg with e | e
    · subst e; exact h.lo.1
    · exact h.lo.2.2 g e
theorem CdM.setB (h : CdM w0 W c v1 v2 B R F G) (kV : Kep W V) (S1 : Sli w5 5 1 v3 (B ++ P).length (bs (B ++ P)) F1) (P1 : Put F V w5) (Q1 : ∀ g ∈ F1, g ∈ F ∨ V.heap.size ≤ g) : CdM w0 (w5.setCell ⟨c, 0, none⟩ v3) c v3 v2 (B ++ P) R F1 G := by
  have k5 : Put (c :: F) W (w5.setCell ⟨c, 0, none⟩ v3) := ((Put.of_kep kV).trans (P1.mono (fun g hg => List.mem_cons_of_mem _ hg))).setCell (by simp) _
  refine ⟨heap_setCell_row (P1.keeps (kV.block h.box) h.cF) (k := 0) _, S1.put (l := [c]) ((Put.refl _).setCell (by simp) _) (fun g hg hm => ?_), h.sr.put k5 (fun g hg hm => ?_), ⟨h.lo.1, fun g hg => ?_, h.lo.2.2⟩, h.kp.put k5 (fun g hg => ?_)⟩
  · obtain rfl : g = c := by simpa using hm
    rcases Q1 g hg with e | e
    · exact h.cF e
    · have := block_lt (kV.block h.box); omega
  · rcases List.mem_cons.1 hm with e | e
    · subst e; exact h.cG hg
    · exact h.fg g hg e
  · rcases Q1 g hg with e | e
    · exact h.lo.2.1 g e
    · have := h.kp.size; have := kV.size; omega
  · rcases List.mem_cons.1 hg with e | e
    · subst e; exact h.lo.1
    · exact h.lo.2.1 g e
theorem CdM.far {l : List Nat} {x : Array Value} {ty : TypeId} (kV : Kep W V) (P1 : Put l V w5) {g0 k : Nat} (hg : W.heap[g0]? = some (.cells x ty (0, 0))) (h1 : g0 ∉ l) (h2 : g0 ≠ c) : (w5.setCell ⟨c, k, none⟩ v3).heap[g0]? = some (.cells x ty (0, 0)) :=
  (heap_setCell_other w5 ⟨c, k, none⟩ g0 v3 h2).trans (P1.keeps (kV.block hg) h1)
theorem CdM.out (h : CdM w0 W c v1 v2 B R F G) {L : List It} (hB : B = itB L) (hR : R = itR L) {r : Nat} {x : Array Value} (hr : W.heap[r]? = some (.cells x 33 (0, 0))) (lr : w0.heap.size ≤ r) (new : Array Value) : CdV w0 (W.setRow r new) v1 v2 L F G := by
  subst hB hR
  have e := itR_len L
  refine ⟨h.sb.rowoff hr (by decide) _, ?_, h.lo.2, h.kp.setRow _ _ lr⟩
  rw [← e]
  exact h.sr.rowoff hr (by decide) _
end
set_option maxHeartbeats 4000000 in
set_option maxRecDepth 100000 in
theorem rwith_any {w0 W : World} {v1 v2 : Value} {L : List It} {F G : List Nat} (H : CdV w0 W v1 v2 L F G) (h : In4) (o : In4.Ok h) (hb : bok h = true) (pc dn : Int) (hB : (itB L).length ≤ 1000) (hL : L.length ≤ 1000) :
    Calls Tryd.prog 26 #[.agg #[v1, v2], .agg (insA h.1 h.2.1 h.2.2.1 h.2.2.2), .int .u32 pc, .int .i64 dn] W fun e W' => ∃ v1' v2' F' G', e = .returned (.agg #[v1', v2']) ∧ CdV w0 W' v1' v2' (L ++ [(h, pc, dn, -1)]) F' G' ∧ (∀ g0 X ty, W.heap[g0]? = some (.cells X ty (0, 0)) → g0 ∉ F → g0 ∉ G → W'.heap[g0]? = some (.cells X ty (0, 0))) := by
  obtain ⟨x1, c1, hv1, _⟩ := H.sb.lies
  obtain ⟨x2, c2, hv2, _⟩ := H.sr.lies
  subst hv1 hv2
  obtain ⟨i5, hi5, hz0, hz1, hz2⟩ := info_parts lt_row
  obtain ⟨i0, hi, hy0, hy1, hy2⟩ := info_parts lt_u8
  have H' := hidd H
  have BLE := hidd hB
  have RLE := hidd hL
  have E : Hid (∀ w, Calls Tryd.prog 46 #[.agg (insA h.1 h.2.1 h.2.2.1 h.2.2.2), .bool false] w fun e w' => ∃ C c : Nat, e = .returned (.slice (some ⟨C, 0, none⟩) (encH h).length c) ∧
      w'.ownsRow w.heap.size 5 1 (.slice (some ⟨C, 0, none⟩) (encH h).length c) (encH h).length (bs (encH h)) ∧ Kep w w') := fun w => by
    have g := gd_of_bok o hb
    have hab := g.ab
    have hr : rowOf h.1 false ≠ 0 := (may_parts (show mayB (rowOf h.1 false) h.2.1 h.2.2.1 h.2.2.2 = true from hb)).1
    have := refEnc_any _ (rowOf_lt h.1 false) hr h.1 h.2.1 h.2.2.1 h.2.2.2 false rfl w o.1.1 o.1.2 o.2.2.2.1 o.2.2.2.2 o.2.1.1 hab.1 o.2.2.1.1 hab.2
    rw [enc_bok o hb] at this
    exact this
  have EL : Hid ((encH h).length ≤ 6) := (gd_of_bok o hb).len.2
  clear H hB hL o hb
  go_enter Tryd.func26, Tryd.ntmps26
  go_upto_region 1 with fail
  obtain ⟨b4, q4⟩ : ∃ i, Hid (i = W.heap.size) := ⟨_, rfl⟩
  obtain ⟨b5, q5⟩ : ∃ i, Hid (i = W.heap.size + 1) := ⟨_, rfl⟩
  obtain ⟨b8, q8⟩ : ∃ i, Hid (i = W.heap.size + 2) := ⟨_, rfl⟩
  rw [← q8.out, ← q5.out, ← q4.out]
  obtain ⟨W1, hW⟩ : ∃ V, Hid (((W.alloc (.cells #[.slice x1 (itB L).length c1, .slice x2 L.length c2] 33)).alloc (.cells (insA h.1 h.2.1 h.2.2.1 h.2.2.2) 43)).alloc (.cells #[nilS, nilS] 33) = V) := ⟨_, rfl⟩
  rw [hW.out]
  have K1 : Hid (Kep W W1) := by rw [Hid, ← hW.out]; exact (((Kep.refl _).alloc _).alloc _).alloc _
  have B4 : W1.heap[b4]? = some (.cells #[.slice x1 (itB L).length c1, .slice x2 L.length c2] 33 (0, 0)) := by rw [← hW.out, q4.out]; exact (((Kep.refl _).alloc _).alloc _).block (hat _ _ _ rfl)
  have B5 : Hid (W1.heap[b5]? = some (.cells (insA h.1 h.2.1 h.2.2.1 h.2.2.2) 43 (0, 0))) := by rw [Hid, ← hW.out, q5.out]; exact ((Kep.refl _).alloc _).block (hat _ _ _ (by simp))
  have B8 : Hid (W1.heap[b8]? = some (.cells #[nilS, nilS] 33 (0, 0))) := by rw [Hid, ← hW.out, q8.out]; exact hat _ _ _ (by simp)
  have M1 : Hid (CdM w0 W1 b4 (.slice x1 (itB L).length c1) (.slice x2 L.length c2) (itB L) (itR L) F G) :=
    ⟨B4, H'.out.sb.kep K1.out, by rw [itR_len]; exact H'.out.sr.kep K1.out, ⟨by rw [q4.out]; exact H'.out.kp.size, H'.out.lo⟩, kep_trans H'.out.kp K1.out⟩
  have FR1 : Hid (∀ g0 X ty, W.heap[g0]? = some (.cells X ty (0, 0)) → g0 ∉ F → g0 ∉ G → W1.heap[g0]? = some (.cells X ty (0, 0))) := fun g0 X ty hX _ _ => K1.out.block hX
  have gG : Hid (∀ g ∈ G, g ∈ G ∨ W.heap.size ≤ g) := fun g hg => .inl hg
  have lW : Hid (W.heap.size ≤ b4) := by rw [Hid, q4.out]; omega
  have lW1 : Hid (W.heap.size ≤ W1.heap.size) := K1.out.size
  have l8 : Hid (w0.heap.size ≤ b8) := by rw [Hid, q8.out]; have := H'.out.kp.size; omega
  have n48 : Hid (b8 ≠ b4) := by rw [Hid, q8.out, q4.out]; omega
  have lG : Hid (∀ g ∈ G, g < b4) := fun g hg => by rw [q4.out]; exact H'.out.sr.lt g hg
  have lF : Hid (∀ g ∈ F, g < b4) := fun g hg => by rw [q4.out]; exact H'.out.sb.lt g hg
  have l4 : Hid (b4 < b8) := by rw [Hid, q8.out, q4.out]; omega
  have l58 : Hid (b5 < b8) := by rw [Hid, q8.out, q5.out]; omega
  have l5 : Hid (b4 < b5) := by rw [Hid, q5.out, q4.out]; omega
  have d0 : W1.cell? ⟨b4, 0, none⟩ = some (.slice x1 (itB L).length c1) := cell_of_block B4
  have d1 : W1.cell? ⟨b4, 1, none⟩ = some (.slice x2 L.length c2) := cell_of_block B4
  have lG : Hid (∀ g ∈ G, g < b4 ∨ b8 < g) := fun g hg => .inl (lG.out g hg)
  clear B4 hW q4 q5 q8
  go_upto_region 2 with (at_builtin; refine wpList_append_slis rfl (.tmp 10) (.tmp 17) 31 rfl 41 i5 _ 4 32 Tryd.underlying31 hi5 hz0 hz1 hz2 rfl (by decide) _ _ _ G rfl (M1.out.sr.kep ((Kep.refl _).alloc _)) ⟨W1.heap.size, 0, none⟩ 1 1 (rwV (((itB L).length : Int), pc, dn, -1)) rfl rfl (World.news_of_block (hat _ _ _ rfl)) (rw_ones _) (by have := RLE.out; rw [itR_len]; unfold maxLen; omega) (by have := RLE.out; rw [itR_len]; omega) ?_; intro v' w5 G1 S1 P1 Q1; obtain ⟨x3, c3, hv', _⟩ := S1.out.lies; subst hv'; have hc5 := P1.out.keeps (((Kep.refl _).alloc _).block M1.out.box) M1.out.cG; have e1 : w5.cell? ⟨b4, 1, none⟩ = some (.slice x2 L.length c2) := cell_of_block hc5; have e2 : w5.frozen? ⟨b4, 1, none⟩ = false := by simp [World.frozen?, hc5])
  obtain ⟨W4, hW4⟩ : ∃ U, Hid (w5.setCell ⟨b4, 1, none⟩ (.slice x3 ((itR L).length + 1) c3) = U) := ⟨_, rfl⟩
  rw [hW4.out]
  have M2 : Hid (CdM w0 W4 b4 (.slice x1 (itB L).length c1) (.slice x3 ((itR L).length + 1) c3) (itB L) (itR L ++ [(((itB L).length : Int), pc, dn, -1)]) F G1) := by rw [Hid, ← hW4.out]; exact M1.out.setR ((Kep.refl _).alloc _) (by rw [rws_append, List.length_append]; simpa [rws] using S1.out) P1.out Q1.out
  have lG' : Hid (∀ g ∈ G1, g < b4 ∨ b8 < g) := fun g hg => by
    rcases Q1.out g hg with h | h
    · exact lG.out g h
    · rw [World.size_alloc] at h; have := block_lt B8.out; omega
  have C5 : Hid (W4.heap[b5]? = some (.cells (insA h.1 h.2.1 h.2.2.1 h.2.2.2) 43 (0, 0))) := by rw [Hid, ← hW4.out]; exact CdM.far ((Kep.refl _).alloc _) P1.out B5.out (fun hm => by have := lG.out _ hm; have := l4.out; have := l5.out; have := l58.out; omega) (by have := l4.out; have := l5.out; have := l58.out; omega)
  have C8 : Hid (W4.heap[b8]? = some (.cells #[nilS, nilS] 33 (0, 0))) := by rw [Hid, ← hW4.out]; exact CdM.far ((Kep.refl _).alloc _) P1.out B8.out (fun hm => by have := lG.out _ hm; have := l4.out; omega) (by have := l4.out; omega)
  have gG' : Hid (∀ g ∈ G1, g ∈ G ∨ W.heap.size ≤ g) := fun g hg => by
    rcases Q1.out g hg with h | h
    · exact gG.out g h
    · rw [World.size_alloc] at h; have := lW1.out; exact .inr (by omega)
  have FR2 : Hid (∀ g0 X ty, W.heap[g0]? = some (.cells X ty (0, 0)) → g0 ∉ F → g0 ∉ G → W4.heap[g0]? = some (.cells X ty (0, 0))) := by rw [Hid, ← hW4.out]; exact fun g0 X ty hX h1 h2 => CdM.far ((Kep.refl _).alloc _) P1.out (FR1.out g0 X ty hX h1 h2) (fun hm => by rcases gG.out _ hm with h | h; exact h2 h; have := block_lt hX; omega) (by have := block_lt hX; have := lW.out; omega)
  have lW2 : Hid (W.heap.size ≤ W4.heap.size) := by rw [Hid]; have := block_lt C8.out; have := lW.out; have := l4.out; omega
  clear hW4 S1 P1 Q1 hc5 e1 e2
  refine wp_region_held_drew (S := fun w' => w'.heap[b5]? = some (.cells (insA h.1 h.2.1 h.2.2.1 h.2.2.2) 43 (0, 0))) (by kernel_rfl) (C5.out) (fun hH => ?_)
  have kD := hidd ((Kep.refl W4).drew)
  generalize W4.drew = D at hH kD ⊢
  refine wpAnyH_take (i := 0) (v := .pointer (some ⟨b4, 0, none⟩)) rfl (by kernel_rfl) (by kernel_rfl) (by kernel_rfl) (fun _ _ _ h => h) (.inl ⟨by rfl, by intro w hS; go_simp⟩) hH ?_
  (try simp only [jA, jB, jC, Act.put, jD, jE, jF])
  refine wpAnyH_take (i := 2) (v := .agg (insA h.1 h.2.1 h.2.2.1 h.2.2.2)) rfl (by kernel_rfl) (by kernel_rfl) (by kernel_rfl) (fun _ _ _ h => h) (yields_row rfl 43 (.tmp 5) (by rfl) b5 (by rfl) 43 (insA h.1 h.2.1 h.2.2.1 h.2.2.2) (0, 0) _ (fun w h => h) Tryd.underlying43 rfl sizeIns) hH ?_
  (try simp only [jA, jB, jC, Act.put, jD, jE, jF])
  refine wpAnyH_ready (rs := [1, 3]) (by kernel_rfl) (by simp) ?_
  refine AllReadyH.cons rfl (fun K hK => ?_) ?_
  · skip
    rw [if_pos (by rfl)]
    have q4 : (D).cell? ⟨b4, 0, none⟩ = some (.slice x1 (itB L).length c1) := cell_of_block (kD.out.block M2.out.box)
    go_simp
    clear q4
    refine hK.out _ _ hH (fun hH => ?_)
    clear hK K
    (try simp only [jA, jB, jC, Act.put, jD, jE, jF])
    refine wpAnyH_ready (rs := [3]) (by kernel_rfl) (by simp) ?_
    refine AllReadyH.cons rfl (fun K hK => ?_) AllReadyH.nil
    rw [if_pos (by rfl)]
    go_simp
    refine (E.out _).mono ?_
    rintro x w6 ⟨C, cc, rfl, own, k6⟩
    have hH6 := k6.block hH
    have k6 := hidd (kep_trans kD.out k6)
    have own := hidd own
    refine hK.out _ _ hH6 (fun hH => ?_)
    clear hH6
    clear hK K
    (try simp only [jA, jB, jC, Act.put, jD, jE, jF])
    refine wpAnyH_ready (rs := [4]) (by kernel_rfl) (by simp) ?_
    refine AllReadyH.cons rfl (fun K hK => ?_) AllReadyH.nil
    rw [if_pos (by rfl)]
    refine wp_append_slis (.tmp 21) (.tmp 23) 30 (by rfl) 5 i0 _ 1 1 Tryd.underlying30 hi hy0 hy1 hy2 (by rfl) (by decide) _ (itB L).length (bs (itB L)) F (by rfl) (M2.out.sb.kep k6.out) ⟨C, 0, none⟩ (encH h).length cc (bs (encH h)) (by rfl) (by simp [bs]) (World.ownsRow.cells own.out rfl) (bs_ones _) (by have := BLE.out; have := EL.out; unfold maxLen; omega) (by have := BLE.out; have := EL.out; omega) ?_
    intro v' w7 F1 S1 P1 Q1
    obtain ⟨x7, c7, hv', _⟩ := S1.out.lies
    subst hv'
    refine hK.out _ _ (P1.out.keeps hH (fun hm => by have := lF.out _ hm; have := l5.out; omega)) (fun hH => ?_)
    clear hK K
    (try simp only [jA, jB, jC, Act.put, jD, jE, jF])
    refine wpAnyH_take (i := 5) (v := .pointer (some ⟨b4, 0, none⟩)) rfl (by kernel_rfl) (by kernel_rfl) (by kernel_rfl) (fun _ _ _ h => h) (.inl ⟨by rfl, by intro w hS; go_simp⟩) hH ?_
    (try simp only [jA, jB, jC, Act.put, jD, jE, jF])
    refine wpAnyH_ready (rs := [6]) (by kernel_rfl) (by simp) ?_
    refine AllReadyH.cons rfl (fun K hK => ?_) AllReadyH.nil
    rw [if_pos (by rfl)]
    have hc5 := P1.out.keeps (k6.out.block M2.out.box) M2.out.cF
    have d1 : w7.cell? ⟨b4, 0, none⟩ = some (.slice x1 (itB L).length c1) := cell_of_block hc5
    have d2 : w7.frozen? ⟨b4, 0, none⟩ = false := by simp [World.frozen?, hc5]
    go_simp
    refine hK.out _ _ ((heap_setCell_other _ ⟨b4, 0, none⟩ b5 _ (Nat.ne_of_gt l5.out)).trans hH) (fun hH => ?_)
    clear hK K
    (try simp only [jA, jB, jC, Act.put, jD, jE, jF])
    refine wpAnyH_done (by kernel_rfl) ?_ _
    obtain ⟨W9, hW9⟩ : ∃ U, Hid (w7.setCell ⟨b4, 0, none⟩ (.slice x7 ((itB L).length + (encH h).length) c7) = U) := ⟨_, rfl⟩
    rw [hW9.out]
    have M9 : Hid (CdM w0 W9 b4 (.slice x7 ((itB L).length + (encH h).length) c7) (.slice x3 ((itR L).length + 1) c3) (itB L ++ (encH h)) (itR L ++ [(((itB L).length : Int), pc, dn, -1)]) F1 G1) := by rw [Hid, ← hW9.out]; exact M2.out.setB k6.out (by rw [bs_app, List.length_append]; exact S1.out) P1.out Q1.out
    have R8 : Hid (W9.heap[b8]? = some (.cells #[nilS, nilS] 33 (0, 0))) := by rw [Hid, ← hW9.out]; exact CdM.far k6.out P1.out C8.out (fun hm => by have := lF.out _ hm; have := l4.out; omega) n48.out
    have FR9 : Hid (∀ g0 X ty, W.heap[g0]? = some (.cells X ty (0, 0)) → g0 ∉ F → g0 ∉ G → W9.heap[g0]? = some (.cells X ty (0, 0))) := by rw [Hid, ← hW9.out]; exact fun g0 X ty hX h1 h2 => CdM.far k6.out P1.out (FR2.out g0 X ty hX h1 h2) h1 (by have := block_lt hX; have := lW.out; omega)
    clear hW9 S1 P1 Q1 hc5 d1 d2 hH own k6 kD
    have d0 : W9.cell? ⟨b4, 0, none⟩ = some (.slice x7 ((itB L).length + (encH h).length) c7) := cell_of_block M9.out.box
    have d1 : W9.cell? ⟨b4, 1, none⟩ = some (.slice x3 ((itR L).length + 1) c3) := cell_of_block M9.out.box
    go_wp2_with (refine wpList_store_row (by rfl) 33 _ _ (by rfl) b8 #[(.slice x7 ((itB L).length + (encH h).length) c7), (.slice x3 ((itR L).length + 1) c3)] (by rfl) (by rfl) 33 #[nilS, nilS] R8.out (by exact size_code) (by rfl) (by simp [Value.oneCell']) ?_)
    refine bodyPost_ret (results1 rfl _ _ b8 33 #[(.slice x7 ((itB L).length + (encH h).length) c7), (.slice x3 ((itR L).length + 1) c3)] (0, 0) _ rfl (setRow_heap _ _ _ _ _ _ R8.out) Tryd.underlying33 rfl size_code) rfl ⟨_, _, _, _, rfl, M9.out.out (by rw [itB_append, itB_one]) (by rw [itR_more]) R8.out l8.out _, fun g0 X ty hX h1 h2 => (setRow_other _ _ _ _ (by have := block_lt hX; have := lW.out; have := l4.out; omega)).trans (FR9.out g0 X ty hX h1 h2)⟩
  refine AllReadyH.cons rfl (fun K hK => ?_) AllReadyH.nil
  rw [if_pos (by rfl)]
  go_simp
  refine (E.out _).mono ?_
  rintro x w6 ⟨C, cc, rfl, own, k6⟩
  have hH6 := k6.block hH
  have k6 := hidd (kep_trans kD.out k6)
  have own := hidd own
  refine hK.out _ _ hH6 (fun hH => ?_)
  clear hH6
  clear hK K
  (try simp only [jA, jB, jC, Act.put, jD, jE, jF])
  refine wpAnyH_ready (rs := [1]) (by kernel_rfl) (by simp) ?_
  refine AllReadyH.cons rfl (fun K hK => ?_) AllReadyH.nil
  rw [if_pos (by rfl)]
  have q4 : (w6).cell? ⟨b4, 0, none⟩ = some (.slice x1 (itB L).length c1) := cell_of_block (k6.out.block M2.out.box)
  go_simp
  clear q4
  refine hK.out _ _ hH (fun hH => ?_)
  clear hK K
  (try simp only [jA, jB, jC, Act.put, jD, jE, jF])
  refine wpAnyH_ready (rs := [4]) (by kernel_rfl) (by simp) ?_
  refine AllReadyH.cons rfl (fun K hK => ?_) AllReadyH.nil
  rw [if_pos (by rfl)]
  refine wp_append_slis (.tmp 21) (.tmp 23) 30 (by rfl) 5 i0 _ 1 1 Tryd.underlying30 hi hy0 hy1 hy2 (by rfl) (by decide) _ (itB L).length (bs (itB L)) F (by rfl) (M2.out.sb.kep k6.out) ⟨C, 0, none⟩ (encH h).length cc (bs (encH h)) (by rfl) (by simp [bs]) (World.ownsRow.cells own.out rfl) (bs_ones _) (by have := BLE.out; have := EL.out; unfold maxLen; omega) (by have := BLE.out; have := EL.out; omega) ?_
  intro v' w7 F1 S1 P1 Q1
  obtain ⟨x7, c7, hv', _⟩ := S1.out.lies
  subst hv'
  refine hK.out _ _ (P1.out.keeps hH (fun hm => by have := lF.out _ hm; have := l5.out; omega)) (fun hH => ?_)
  clear hK K
  (try simp only [jA, jB, jC, Act.put, jD, jE, jF])
  refine wpAnyH_take (i := 5) (v := .pointer (some ⟨b4, 0, none⟩)) rfl (by kernel_rfl) (by kernel_rfl) (by kernel_rfl) (fun _ _ _ h => h) (.inl ⟨by rfl, by intro w hS; go_simp⟩) hH ?_
  (try simp only [jA, jB, jC, Act.put, jD, jE, jF])
  refine wpAnyH_ready (rs := [6]) (by kernel_rfl) (by simp) ?_
  refine AllReadyH.cons rfl (fun K hK => ?_) AllReadyH.nil
  rw [if_pos (by rfl)]
  have hc5 := P1.out.keeps (k6.out.block M2.out.box) M2.out.cF
  have d1 : w7.cell? ⟨b4, 0, none⟩ = some (.slice x1 (itB L).length c1) := cell_of_block hc5
  have d2 : w7.frozen? ⟨b4, 0, none⟩ = false := by simp [World.frozen?, hc5]
  go_simp
  refine hK.out _ _ ((heap_setCell_other _ ⟨b4, 0, none⟩ b5 _ (Nat.ne_of_gt l5.out)).trans hH) (fun hH => ?_)
  clear hK K
  (try simp only [jA, jB, jC, Act.put, jD, jE, jF])
  refine wpAnyH_done (by kernel_rfl) ?_ _
  obtain ⟨W9, hW9⟩ : ∃ U, Hid (w7.setCell ⟨b4, 0, none⟩ (.slice x7 ((itB L).length + (encH h).length) c7) = U) := ⟨_, rfl⟩
  rw [hW9.out]
  have M9 : Hid (CdM w0 W9 b4 (.slice x7 ((itB L).length + (encH h).length) c7) (.slice x3 ((itR L).length + 1) c3) (itB L ++ (encH h)) (itR L ++ [(((itB L).length : Int), pc, dn, -1)]) F1 G1) := by rw [Hid, ← hW9.out]; exact M2.out.setB k6.out (by rw [bs_app, List.length_append]; exact S1.out) P1.out Q1.out
  have R8 : Hid (W9.heap[b8]? = some (.cells #[nilS, nilS] 33 (0, 0))) := by rw [Hid, ← hW9.out]; exact CdM.far k6.out P1.out C8.out (fun hm => by have := lF.out _ hm; have := l4.out; omega) n48.out
  have FR9 : Hid (∀ g0 X ty, W.heap[g0]? = some (.cells X ty (0, 0)) → g0 ∉ F → g0 ∉ G → W9.heap[g0]? = some (.cells X ty (0, 0))) := by rw [Hid, ← hW9.out]; exact fun g0 X ty hX h1 h2 => CdM.far k6.out P1.out (FR2.out g0 X ty hX h1 h2) h1 (by have := block_lt hX; have := lW.out; omega)
  clear hW9 S1 P1 Q1 hc5 d1 d2 hH own k6 kD
  have d0 : W9.cell? ⟨b4, 0, none⟩ = some (.slice x7 ((itB L).length + (encH h).length) c7) := cell_of_block M9.out.box
  have d1 : W9.cell? ⟨b4, 1, none⟩ = some (.slice x3 ((itR L).length + 1) c3) := cell_of_block M9.out.box
  go_wp2_with (refine wpList_store_row (by rfl) 33 _ _ (by rfl) b8 #[(.slice x7 ((itB L).length + (encH h).length) c7), (.slice x3 ((itR L).length + 1) c3)] (by rfl) (by rfl) 33 #[nilS, nilS] R8.out (by exact size_code) (by rfl) (by simp [Value.oneCell']) ?_)
  refine bodyPost_ret (results1 rfl _ _ b8 33 #[(.slice x7 ((itB L).length + (encH h).length) c7), (.slice x3 ((itR L).length + 1) c3)] (0, 0) _ rfl (setRow_heap _ _ _ _ _ _ R8.out) Tryd.underlying33 rfl size_code) rfl ⟨_, _, _, _, rfl, M9.out.out (by rw [itB_append, itB_one]) (by rw [itR_more]) R8.out l8.out _, fun g0 X ty hX h1 h2 => (setRow_other _ _ _ _ (by have := block_lt hX; have := lW.out; have := l4.out; omega)).trans (FR9.out g0 X ty hX h1 h2)⟩
set_option maxHeartbeats 4000000 in
set_option maxRecDepth 100000 in
theorem rout_any {w0 W : World} {v1 v2 : Value} {L : List It} {F G : List Nat} (H : CdV w0 W v1 v2 L F G) (pc dn ex : Int) (hd : 0 ≤ dn ∧ dn ≤ 255) (hx : 0 ≤ ex ∧ ex ≤ 65535) (hB : (itB L).length ≤ 1000) (hL : L.length ≤ 1000) :
    Calls Tryd.prog 27 #[.agg #[v1, v2], .int .i64 dn, .int .u32 pc, .int .i64 ex] W fun e W' => ∃ v1' v2' F' G', e = .returned (.agg #[v1', v2']) ∧ CdV w0 W' v1' v2' (L ++ outI pc dn ex) F' G' ∧ (∀ g0 X ty, W.heap[g0]? = some (.cells X ty (0, 0)) → g0 ∉ F → g0 ∉ G → W'.heap[g0]? = some (.cells X ty (0, 0))) := by
  obtain ⟨x1, c1, hv1, _⟩ := H.sb.lies
  obtain ⟨x2, c2, hv2, _⟩ := H.sr.lies
  subst hv1 hv2
  obtain ⟨i5, hi5, hz0, hz1, hz2⟩ := info_parts lt_row
  obtain ⟨i0, hi, hy0, hy1, hy2⟩ := info_parts lt_u8
  have H' := hidd H
  have BLE := hidd hB
  have RLE := hidd hL
  have E : Hid (∀ w, _) := fun w => rstub_made dn ex hd.1 hd.2 hx.1 hx.2 w
  have OB := hidd (outI_B L pc hd hx)
  have OR := hidd (outI_R L pc hd hx)
  have EL : Hid (([112, dn, 113, ex % 256, ex / 256] : List Int).length ≤ 6) := by show 5 ≤ 6; omega
  clear H hB hL hd hx
  go_enter Tryd.func27, Tryd.ntmps27
  go_upto_region 1 with fail
  obtain ⟨b4, q4⟩ : ∃ i, Hid (i = W.heap.size) := ⟨_, rfl⟩
  obtain ⟨b8, q8⟩ : ∃ i, Hid (i = W.heap.size + 1) := ⟨_, rfl⟩
  rw [← q8.out, ← q4.out]
  obtain ⟨W1, hW⟩ : ∃ V, Hid (((W.alloc (.cells #[.slice x1 (itB L).length c1, .slice x2 L.length c2] 33))).alloc (.cells #[nilS, nilS] 33) = V) := ⟨_, rfl⟩
  rw [hW.out]
  have K1 : Hid (Kep W W1) := by rw [Hid, ← hW.out]; exact ((Kep.refl _).alloc _).alloc _
  have B4 : W1.heap[b4]? = some (.cells #[.slice x1 (itB L).length c1, .slice x2 L.length c2] 33 (0, 0)) := by rw [← hW.out, q4.out]; exact ((Kep.refl _).alloc _).block (hat _ _ _ rfl)
  have B8 : Hid (W1.heap[b8]? = some (.cells #[nilS, nilS] 33 (0, 0))) := by rw [Hid, ← hW.out, q8.out]; exact hat _ _ _ (by simp)
  have M1 : Hid (CdM w0 W1 b4 (.slice x1 (itB L).length c1) (.slice x2 L.length c2) (itB L) (itR L) F G) :=
    ⟨B4, H'.out.sb.kep K1.out, by rw [itR_len]; exact H'.out.sr.kep K1.out, ⟨by rw [q4.out]; exact H'.out.kp.size, H'.out.lo⟩, kep_trans H'.out.kp K1.out⟩
  have FR1 : Hid (∀ g0 X ty, W.heap[g0]? = some (.cells X ty (0, 0)) → g0 ∉ F → g0 ∉ G → W1.heap[g0]? = some (.cells X ty (0, 0))) := fun g0 X ty hX _ _ => K1.out.block hX
  have gG : Hid (∀ g ∈ G, g ∈ G ∨ W.heap.size ≤ g) := fun g hg => .inl hg
  have lW : Hid (W.heap.size ≤ b4) := by rw [Hid, q4.out]; omega
  have lW1 : Hid (W.heap.size ≤ W1.heap.size) := K1.out.size
  have l8 : Hid (w0.heap.size ≤ b8) := by rw [Hid, q8.out]; have := H'.out.kp.size; omega
  have n48 : Hid (b8 ≠ b4) := by rw [Hid, q8.out, q4.out]; omega
  have lG : Hid (∀ g ∈ G, g < b4) := fun g hg => by rw [q4.out]; exact H'.out.sr.lt g hg
  have lF : Hid (∀ g ∈ F, g < b4) := fun g hg => by rw [q4.out]; exact H'.out.sb.lt g hg
  have l4 : Hid (b4 < b8) := by rw [Hid, q8.out, q4.out]; omega
  have d0 : W1.cell? ⟨b4, 0, none⟩ = some (.slice x1 (itB L).length c1) := cell_of_block B4
  have d1 : W1.cell? ⟨b4, 1, none⟩ = some (.slice x2 L.length c2) := cell_of_block B4
  have lG : Hid (∀ g ∈ G, g < b4 ∨ b8 < g) := fun g hg => .inl (lG.out g hg)
  have bl2 : ((itB L).length : Int) ≤ 1000 := by have := BLE.out; omega
  clear B4 hW q4 q8
  go_upto_region 3 with (at_builtin; refine wpList_append_slis rfl (.tmp 14) (.tmp 19) 31 rfl 41 i5 _ 4 32 Tryd.underlying31 hi5 hz0 hz1 hz2 rfl (by decide) _ _ _ G rfl (M1.out.sr.kep ((Kep.refl _).alloc _)) ⟨W1.heap.size, 0, none⟩ 1 1 (rwV (((itB L).length : Int), pc, dn, -1)) rfl rfl (World.news_of_block (hat _ _ _ rfl)) (rw_ones _) (by have := RLE.out; rw [itR_len]; unfold maxLen; omega) (by have := RLE.out; rw [itR_len]; omega) ?_; intro v' w5 G1 S1 P1 Q1; obtain ⟨x3, c3, hv', _⟩ := S1.out.lies; subst hv'; have hc5 := P1.out.keeps (((Kep.refl _).alloc _).block M1.out.box) M1.out.cG; have e1 : w5.cell? ⟨b4, 1, none⟩ = some (.slice x2 L.length c2) := cell_of_block hc5; have e2 : w5.frozen? ⟨b4, 1, none⟩ = false := by simp [World.frozen?, hc5])
  obtain ⟨W4, hW4⟩ : ∃ U, Hid (w5.setCell ⟨b4, 1, none⟩ (.slice x3 ((itR L).length + 1) c3) = U) := ⟨_, rfl⟩
  rw [hW4.out]
  have M2 : Hid (CdM w0 W4 b4 (.slice x1 (itB L).length c1) (.slice x3 ((itR L).length + 1) c3) (itB L) (itR L ++ [(((itB L).length : Int), pc, dn, -1)]) F G1) := by rw [Hid, ← hW4.out]; exact M1.out.setR ((Kep.refl _).alloc _) (by rw [rws_append, List.length_append]; simpa [rws] using S1.out) P1.out Q1.out
  have lG' : Hid (∀ g ∈ G1, g < b4 ∨ b8 < g) := fun g hg => by
    rcases Q1.out g hg with h | h
    · exact lG.out g h
    · rw [World.size_alloc] at h; have := block_lt B8.out; omega
  have C8 : Hid (W4.heap[b8]? = some (.cells #[nilS, nilS] 33 (0, 0))) := by rw [Hid, ← hW4.out]; exact CdM.far ((Kep.refl _).alloc _) P1.out B8.out (fun hm => by have := lG.out _ hm; have := l4.out; omega) (by have := l4.out; omega)
  have gG' : Hid (∀ g ∈ G1, g ∈ G ∨ W.heap.size ≤ g) := fun g hg => by
    rcases Q1.out g hg with h | h
    · exact gG.out g h
    · rw [World.size_alloc] at h; have := lW1.out; exact .inr (by omega)
  have FR2 : Hid (∀ g0 X ty, W.heap[g0]? = some (.cells X ty (0, 0)) → g0 ∉ F → g0 ∉ G → W4.heap[g0]? = some (.cells X ty (0, 0))) := by rw [Hid, ← hW4.out]; exact fun g0 X ty hX h1 h2 => CdM.far ((Kep.refl _).alloc _) P1.out (FR1.out g0 X ty hX h1 h2) (fun hm => by rcases gG.out _ hm with h | h; exact h2 h; have := block_lt hX; omega) (by have := block_lt hX; have := lW.out; omega)
  have lW2 : Hid (W.heap.size ≤ W4.heap.size) := by rw [Hid]; have := block_lt C8.out; have := lW.out; have := l4.out; omega
  clear hW4 S1 P1 Q1 hc5 e1 e2
  obtain ⟨R2, hR2⟩ : ∃ R : List Rw4, Hid (itR L ++ [(((itB L).length : Int), pc, dn, -1)] = R) := ⟨itR L ++ [(((itB L).length : Int), pc, dn, -1)], rfl⟩
  rw [hR2.out] at M2
  have RL2 : Hid (R2.length = L.length + 1) := by rw [Hid, ← hR2.out, List.length_append, itR_len]; rfl
  clear d0 d1
  have d1 : W4.cell? ⟨b4, 1, none⟩ = some (.slice x3 ((itR L).length + 1) c3) := cell_of_block M2.out.box
  go_upto_region 4 with (at_builtin; refine wpList_append_slis rfl (.tmp 23) (.tmp 29) 31 rfl 41 i5 _ 4 32 Tryd.underlying31 hi5 hz0 hz1 hz2 rfl (by decide) _ _ _ G1 rfl (M2.out.sr.kep ((Kep.refl _).alloc _)) ⟨W4.heap.size, 0, none⟩ 1 1 (rwV (((itB L).length : Int) + 2, pc, 0, ex)) rfl rfl (World.news_of_block (hat _ _ _ rfl)) (rw_ones _) (by have := RLE.out; have := RL2.out; unfold maxLen; omega) (by have := RLE.out; have := RL2.out; omega) ?_; intro v' w6 G2 S2 P2 Q2; obtain ⟨x4, c4, hv', _⟩ := S2.out.lies; subst hv'; have hc5 := P2.out.keeps (((Kep.refl _).alloc _).block M2.out.box) M2.out.cG; have e1 : w6.cell? ⟨b4, 1, none⟩ = some (.slice x3 ((itR L).length + 1) c3) := cell_of_block hc5; have e2 : w6.frozen? ⟨b4, 1, none⟩ = false := by simp [World.frozen?, hc5])
  obtain ⟨W5, hW5⟩ : ∃ U, Hid (w6.setCell ⟨b4, 1, none⟩ (.slice x4 (R2.length + 1) c4) = U) := ⟨_, rfl⟩
  rw [hW5.out]
  have M3 : Hid (CdM w0 W5 b4 (.slice x1 (itB L).length c1) (.slice x4 (R2.length + 1) c4) (itB L) (R2 ++ [(((itB L).length : Int) + 2, pc, 0, ex)]) F G2) := by rw [Hid, ← hW5.out]; exact M2.out.setR ((Kep.refl _).alloc _) (by rw [rws_append, List.length_append]; simpa [rws] using S2.out) P2.out Q2.out
  have lG'' : Hid (∀ g ∈ G2, g < b4 ∨ b8 < g) := fun g hg => by
    rcases Q2.out g hg with h | h
    · exact lG'.out g h
    · rw [World.size_alloc] at h; have := block_lt C8.out; omega
  have C9 : Hid (W5.heap[b8]? = some (.cells #[nilS, nilS] 33 (0, 0))) := by rw [Hid, ← hW5.out]; exact CdM.far ((Kep.refl _).alloc _) P2.out C8.out (fun hm => by have := lG'.out _ hm; have := l4.out; omega) (by have := l4.out; omega)
  have gG'' : Hid (∀ g ∈ G2, g ∈ G ∨ W.heap.size ≤ g) := fun g hg => by
    rcases Q2.out g hg with h | h
    · exact gG'.out g h
    · rw [World.size_alloc] at h; have := lW2.out; exact .inr (by omega)
  have FR3 : Hid (∀ g0 X ty, W.heap[g0]? = some (.cells X ty (0, 0)) → g0 ∉ F → g0 ∉ G → W5.heap[g0]? = some (.cells X ty (0, 0))) := by rw [Hid, ← hW5.out]; exact fun g0 X ty hX h1 h2 => CdM.far ((Kep.refl _).alloc _) P2.out (FR2.out g0 X ty hX h1 h2) (fun hm => by rcases gG'.out _ hm with h | h; exact h2 h; have := block_lt hX; omega) (by have := block_lt hX; have := lW.out; omega)
  have lW3 : Hid (W.heap.size ≤ W5.heap.size) := by rw [Hid]; have := block_lt C9.out; have := lW.out; have := l4.out; omega
  clear hW5 S2 P2 Q2 hc5 e1 e2
  clear d1
  refine wp_region_held_drew (S := fun w' => True) (by kernel_rfl) (trivial) (fun hH => ?_)
  have kD := hidd ((Kep.refl W5).drew)
  generalize W5.drew = D at hH kD ⊢
  refine wpAnyH_take (i := 0) (v := .pointer (some ⟨b4, 0, none⟩)) rfl (by kernel_rfl) (by kernel_rfl) (by kernel_rfl) (fun _ _ _ h => h) (.inl ⟨by rfl, by intro w hS; go_simp⟩) hH ?_
  (try simp only [jA, jB, jC, Act.put, jD, jE, jF])
  refine wpAnyH_take (i := 2) (v := .int .i64 dn) rfl (by kernel_rfl) (by kernel_rfl) (by kernel_rfl) (fun _ _ _ h => h) (.inl ⟨by rfl, by intro w hS; go_simp⟩) hH ?_
  (try simp only [jA, jB, jC, Act.put, jD, jE, jF])
  refine wpAnyH_take (i := 3) (v := .int .i64 ex) rfl (by kernel_rfl) (by kernel_rfl) (by kernel_rfl) (fun _ _ _ h => h) (.inl ⟨by rfl, by intro w hS; go_simp⟩) hH ?_
  (try simp only [jA, jB, jC, Act.put, jD, jE, jF])
  refine wpAnyH_ready (rs := [1, 4]) (by kernel_rfl) (by simp) ?_
  refine AllReadyH.cons rfl (fun K hK => ?_) ?_
  · skip
    rw [if_pos (by rfl)]
    have q4 : (D).cell? ⟨b4, 0, none⟩ = some (.slice x1 (itB L).length c1) := cell_of_block (kD.out.block M3.out.box)
    go_simp
    clear q4
    refine hK.out _ _ hH (fun hH => ?_)
    clear hK K
    (try simp only [jA, jB, jC, Act.put, jD, jE, jF])
    refine wpAnyH_ready (rs := [4]) (by kernel_rfl) (by simp) ?_
    refine AllReadyH.cons rfl (fun K hK => ?_) AllReadyH.nil
    rw [if_pos (by rfl)]
    go_simp
    refine (E.out _).mono ?_
    rintro x w6 ⟨C, rfl, own, k6⟩
    have hH6 : True := trivial
    have k6 := hidd (kep_trans kD.out k6)
    have own := hidd own
    refine hK.out _ _ hH6 (fun hH => ?_)
    clear hH6
    clear hK K
    (try simp only [jA, jB, jC, Act.put, jD, jE, jF])
    refine wpAnyH_ready (rs := [5]) (by kernel_rfl) (by simp) ?_
    refine AllReadyH.cons rfl (fun K hK => ?_) AllReadyH.nil
    rw [if_pos (by rfl)]
    refine wp_append_slis (.tmp 33) (.tmp 36) 30 (by rfl) 5 i0 _ 1 1 Tryd.underlying30 hi hy0 hy1 hy2 (by rfl) (by decide) _ (itB L).length (bs (itB L)) F (by rfl) (M3.out.sb.kep k6.out) ⟨C, 0, none⟩ 5 5 (bs [112, dn, 113, ex % 256, ex / 256]) (by rfl) (by simp [bs]) (World.ownsRow.cells own.out rfl) (bs_ones _) (by have := BLE.out; have := EL.out; unfold maxLen; omega) (by have := BLE.out; have := EL.out; omega) ?_
    intro v' w7 F1 S1 P1 Q1
    obtain ⟨x7, c7, hv', _⟩ := S1.out.lies
    subst hv'
    refine hK.out _ _ trivial (fun hH => ?_)
    clear hK K
    (try simp only [jA, jB, jC, Act.put, jD, jE, jF])
    refine wpAnyH_take (i := 6) (v := .pointer (some ⟨b4, 0, none⟩)) rfl (by kernel_rfl) (by kernel_rfl) (by kernel_rfl) (fun _ _ _ h => h) (.inl ⟨by rfl, by intro w hS; go_simp⟩) hH ?_
    (try simp only [jA, jB, jC, Act.put, jD, jE, jF])
    refine wpAnyH_ready (rs := [7]) (by kernel_rfl) (by simp) ?_
    refine AllReadyH.cons rfl (fun K hK => ?_) AllReadyH.nil
    rw [if_pos (by rfl)]
    have hc5 := P1.out.keeps (k6.out.block M3.out.box) M3.out.cF
    have d1 : w7.cell? ⟨b4, 0, none⟩ = some (.slice x1 (itB L).length c1) := cell_of_block hc5
    have d2 : w7.frozen? ⟨b4, 0, none⟩ = false := by simp [World.frozen?, hc5]
    go_simp
    refine hK.out _ _ trivial (fun hH => ?_)
    clear hK K
    (try simp only [jA, jB, jC, Act.put, jD, jE, jF])
    refine wpAnyH_done (by kernel_rfl) ?_ _
    obtain ⟨W9, hW9⟩ : ∃ U, Hid (w7.setCell ⟨b4, 0, none⟩ (.slice x7 ((itB L).length + 5) c7) = U) := ⟨_, rfl⟩
    rw [hW9.out]
    have M9 : Hid (CdM w0 W9 b4 (.slice x7 ((itB L).length + 5) c7) (.slice x4 (R2.length + 1) c4) (itB L ++ [112, dn, 113, ex % 256, ex / 256]) (R2 ++ [(((itB L).length : Int) + 2, pc, 0, ex)]) F1 G2) := by rw [Hid, ← hW9.out]; exact M3.out.setB k6.out (by rw [bs_app, List.length_append]; exact S1.out) P1.out Q1.out
    have R8 : Hid (W9.heap[b8]? = some (.cells #[nilS, nilS] 33 (0, 0))) := by rw [Hid, ← hW9.out]; exact CdM.far k6.out P1.out C9.out (fun hm => by have := lF.out _ hm; have := l4.out; omega) n48.out
    have FR9 : Hid (∀ g0 X ty, W.heap[g0]? = some (.cells X ty (0, 0)) → g0 ∉ F → g0 ∉ G → W9.heap[g0]? = some (.cells X ty (0, 0))) := by rw [Hid, ← hW9.out]; exact fun g0 X ty hX h1 h2 => CdM.far k6.out P1.out (FR3.out g0 X ty hX h1 h2) h1 (by have := block_lt hX; have := lW.out; omega)
    clear hW9 S1 P1 Q1 hc5 d1 d2 hH own k6 kD
    have d0 : W9.cell? ⟨b4, 0, none⟩ = some (.slice x7 ((itB L).length + 5) c7) := cell_of_block M9.out.box
    have d1 : W9.cell? ⟨b4, 1, none⟩ = some (.slice x4 (R2.length + 1) c4) := cell_of_block M9.out.box
    go_wp2_with (refine wpList_store_row (by rfl) 33 _ _ (by rfl) b8 #[(.slice x7 ((itB L).length + 5) c7), (.slice x4 (R2.length + 1) c4)] (by rfl) (by rfl) 33 #[nilS, nilS] R8.out (by exact size_code) (by rfl) (by simp [Value.oneCell']) ?_)
    refine bodyPost_ret (results1 rfl _ _ b8 33 #[(.slice x7 ((itB L).length + 5) c7), (.slice x4 (R2.length + 1) c4)] (0, 0) _ rfl (setRow_heap _ _ _ _ _ _ R8.out) Tryd.underlying33 rfl size_code) rfl ⟨_, _, _, _, rfl, M9.out.out (by rw [OB.out]) (by rw [OR.out, ← hR2.out, List.append_assoc]; rfl) R8.out l8.out _, fun g0 X ty hX h1 h2 => (setRow_other _ _ _ _ (by have := block_lt hX; have := lW.out; have := l4.out; omega)).trans (FR9.out g0 X ty hX h1 h2)⟩
  refine AllReadyH.cons rfl (fun K hK => ?_) AllReadyH.nil
  rw [if_pos (by rfl)]
  go_simp
  refine (E.out _).mono ?_
  rintro x w6 ⟨C, rfl, own, k6⟩
  have hH6 : True := trivial
  have k6 := hidd (kep_trans kD.out k6)
  have own := hidd own
  refine hK.out _ _ hH6 (fun hH => ?_)
  clear hH6
  clear hK K
  (try simp only [jA, jB, jC, Act.put, jD, jE, jF])
  refine wpAnyH_ready (rs := [1]) (by kernel_rfl) (by simp) ?_
  refine AllReadyH.cons rfl (fun K hK => ?_) AllReadyH.nil
  rw [if_pos (by rfl)]
  have q4 : (w6).cell? ⟨b4, 0, none⟩ = some (.slice x1 (itB L).length c1) := cell_of_block (k6.out.block M3.out.box)
  go_simp
  clear q4
  refine hK.out _ _ hH (fun hH => ?_)
  clear hK K
  (try simp only [jA, jB, jC, Act.put, jD, jE, jF])
  refine wpAnyH_ready (rs := [5]) (by kernel_rfl) (by simp) ?_
  refine AllReadyH.cons rfl (fun K hK => ?_) AllReadyH.nil
  rw [if_pos (by rfl)]
  refine wp_append_slis (.tmp 33) (.tmp 36) 30 (by rfl) 5 i0 _ 1 1 Tryd.underlying30 hi hy0 hy1 hy2 (by rfl) (by decide) _ (itB L).length (bs (itB L)) F (by rfl) (M3.out.sb.kep k6.out) ⟨C, 0, none⟩ 5 5 (bs [112, dn, 113, ex % 256, ex / 256]) (by rfl) (by simp [bs]) (World.ownsRow.cells own.out rfl) (bs_ones _) (by have := BLE.out; have := EL.out; unfold maxLen; omega) (by have := BLE.out; have := EL.out; omega) ?_
  intro v' w7 F1 S1 P1 Q1
  obtain ⟨x7, c7, hv', _⟩ := S1.out.lies
  subst hv'
  refine hK.out _ _ trivial (fun hH => ?_)
  clear hK K
  (try simp only [jA, jB, jC, Act.put, jD, jE, jF])
  refine wpAnyH_take (i := 6) (v := .pointer (some ⟨b4, 0, none⟩)) rfl (by kernel_rfl) (by kernel_rfl) (by kernel_rfl) (fun _ _ _ h => h) (.inl ⟨by rfl, by intro w hS; go_simp⟩) hH ?_
  (try simp only [jA, jB, jC, Act.put, jD, jE, jF])
  refine wpAnyH_ready (rs := [7]) (by kernel_rfl) (by simp) ?_
  refine AllReadyH.cons rfl (fun K hK => ?_) AllReadyH.nil
  rw [if_pos (by rfl)]
  have hc5 := P1.out.keeps (k6.out.block M3.out.box) M3.out.cF
  have d1 : w7.cell? ⟨b4, 0, none⟩ = some (.slice x1 (itB L).length c1) := cell_of_block hc5
  have d2 : w7.frozen? ⟨b4, 0, none⟩ = false := by simp [World.frozen?, hc5]
  go_simp
  refine hK.out _ _ trivial (fun hH => ?_)
  clear hK K
  (try simp only [jA, jB, jC, Act.put, jD, jE, jF])
  refine wpAnyH_done (by kernel_rfl) ?_ _
  obtain ⟨W9, hW9⟩ : ∃ U, Hid (w7.setCell ⟨b4, 0, none⟩ (.slice x7 ((itB L).length + 5) c7) = U) := ⟨_, rfl⟩
  rw [hW9.out]
  have M9 : Hid (CdM w0 W9 b4 (.slice x7 ((itB L).length + 5) c7) (.slice x4 (R2.length + 1) c4) (itB L ++ [112, dn, 113, ex % 256, ex / 256]) (R2 ++ [(((itB L).length : Int) + 2, pc, 0, ex)]) F1 G2) := by rw [Hid, ← hW9.out]; exact M3.out.setB k6.out (by rw [bs_app, List.length_append]; exact S1.out) P1.out Q1.out
  have R8 : Hid (W9.heap[b8]? = some (.cells #[nilS, nilS] 33 (0, 0))) := by rw [Hid, ← hW9.out]; exact CdM.far k6.out P1.out C9.out (fun hm => by have := lF.out _ hm; have := l4.out; omega) n48.out
  have FR9 : Hid (∀ g0 X ty, W.heap[g0]? = some (.cells X ty (0, 0)) → g0 ∉ F → g0 ∉ G → W9.heap[g0]? = some (.cells X ty (0, 0))) := by rw [Hid, ← hW9.out]; exact fun g0 X ty hX h1 h2 => CdM.far k6.out P1.out (FR3.out g0 X ty hX h1 h2) h1 (by have := block_lt hX; have := lW.out; omega)
  clear hW9 S1 P1 Q1 hc5 d1 d2 hH own k6 kD
  have d0 : W9.cell? ⟨b4, 0, none⟩ = some (.slice x7 ((itB L).length + 5) c7) := cell_of_block M9.out.box
  have d1 : W9.cell? ⟨b4, 1, none⟩ = some (.slice x4 (R2.length + 1) c4) := cell_of_block M9.out.box
  go_wp2_with (refine wpList_store_row (by rfl) 33 _ _ (by rfl) b8 #[(.slice x7 ((itB L).length + 5) c7), (.slice x4 (R2.length + 1) c4)] (by rfl) (by rfl) 33 #[nilS, nilS] R8.out (by exact size_code) (by rfl) (by simp [Value.oneCell']) ?_)
  refine bodyPost_ret (results1 rfl _ _ b8 33 #[(.slice x7 ((itB L).length + 5) c7), (.slice x4 (R2.length + 1) c4)] (0, 0) _ rfl (setRow_heap _ _ _ _ _ _ R8.out) Tryd.underlying33 rfl size_code) rfl ⟨_, _, _, _, rfl, M9.out.out (by rw [OB.out]) (by rw [OR.out, ← hR2.out, List.append_assoc]; rfl) R8.out l8.out _, fun g0 X ty hX h1 h2 => (setRow_other _ _ _ _ (by have := block_lt hX; have := lW.out; have := l4.out; omega)).trans (FR9.out g0 X ty hX h1 h2)⟩
end Go.Proofs.YtpalbpjmjbcelaaDoor
