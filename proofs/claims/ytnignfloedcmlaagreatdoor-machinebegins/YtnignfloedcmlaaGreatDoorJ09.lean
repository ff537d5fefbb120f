/- Part of a proof. -/
import Derived.Great.BuildSlice
import Derived.Test.YtnignfloedcmlaaGreatDoorJ08
namespace Go.Proofs.YtnignfloedcmlaaGreatDoor
open Go.RowKit Go.Shelf Go.Great
set_option linter.unusedVariables false
attribute [local go_sem] Oper.semAt_some
theorem Soft.cells {B : Nat} {W W' : World} (h : Soft B W W') {g : Nat} {cs : Array Value} {t : TypeId} {fr : Nat × Nat} (hg : W.heap[g]? = some (.cells cs t fr)) : W'.heap[g]? = some (.cells cs t fr) := by
  obtain ⟨l, hp, hl⟩ := h
  refine hp.keeps hg fun hm => ?_
  obtain ⟨_, o, ho, hc⟩ := hl g hm
  rw [hg] at ho; cases ho; cases hc
theorem Soft.boxed {B : Nat} {W W' : World} (h : Soft B W W') {g : Nat} {t : TypeId} {v : Value} (hg : Boxed W g t v) : Boxed W' g t v := Soft.cells h hg
theorem Soft.kept {B : Nat} {w W W' : World} (h : Soft B W W') (k : Kep w W) (hB : w.heap.size ≤ B) : Kep w W' := by
  obtain ⟨l, hp, hl⟩ := h
  exact k.put hp fun g hg => Nat.le_trans hB (hl g hg).1
theorem Soft.owns {B : Nat} {W W' : World} (h : Soft B W W') {base : Nat} {e : TypeId} {z : Nat} {v : Value} {n : Nat} {xs : List Value} (ho : W.ownsRow base e z v n xs) : W'.ownsRow base e z v n xs :=
  ⟨ho.1, ho.2.imp id fun ⟨g, cap, cur, h1, h2, h3, r⟩ => ⟨g, cap, cur, h1, h2, h.cells h3, r⟩⟩
theorem Soft.sli {B : Nat} {W W' : World} (h : Soft B W W') {e : TypeId} {z : Nat} {v : Value} {n : Nat} {xs : List Value} {F : List Nat} (ho : Sli W e z v n xs F) : Sli W' e z v n xs F :=
  ⟨ho.1, ho.2.imp id fun ⟨g, off, cap, cur, h1, h2, h3, r⟩ => ⟨g, off, cap, cur, h1, h2, h.cells h3, r⟩⟩
theorem build_blk (X : List Value) (h : X.length = 64) (w : World) : (Instr.buildSlice 84 1 #[(0, .agg X.toArray)]).run Tryz.prog w = .ok (.slice (some ⟨w.heap.size, 0, none⟩) 1 1) (w.alloc (.cells X.toArray 108)) := by
  obtain ⟨i0, hi, hz0, hz1, hz2⟩ := info_parts info_blk
  refine run_buildSlice w 84 108 1 #[(0, .agg X.toArray)] X.toArray i0 _ Tryz.underlying84 hi hz0 (by rw [hz1]; decide) (by rw [hz1]; decide) ?_
  rw [hz1]
  have := fill_whole (s := 64) (by decide) [.agg X.toArray] ((Array.range (1 * 64)).map ((Value.agg zb64).cells[· % (Value.agg zb64).cells.size]!)) (by simp [Value.cells, h]) (by simp)
  simpa [Value.cells] using this
def CutI (w : World) (x : Option Addr) (n cap : Nat) (Z : List Int) (k : Nat) (W : World) : Prop :=
  (∃ v, Boxed W w.heap.size 84 v ∧ W.ownsRow w.heap.size 108 64 v k (byt (Z.take (64 * k)))) ∧ Kep w W ∧ Boxed W (w.heap.size + 1) 22 (.slice x n cap) ∧ Boxed W (w.heap.size + 2) 3 (.int .i64 64)
theorem CutI.soft {w : World} {x : Option Addr} {n cap : Nat} {Z : List Int} {k : Nat} {W W' : World} (h : CutI w x n cap Z k W) {B : Nat} (hB : w.heap.size ≤ B) (s : Soft B W W') : CutI w x n cap Z k W' := by
  obtain ⟨⟨v, h1, h2⟩, h3, h4, h5⟩ := h
  exact ⟨⟨v, s.boxed h1, s.owns h2⟩, s.kept h3 hB, s.boxed h4, s.boxed h5⟩
theorem keepsCell (W : World) (g o : Nat) (v : Value) : KeepsOthers W (W.setCell ⟨g, o, none⟩ v) := KeepsOthers.setCell _ _ _
theorem cut_push {w W2 w1 : World} {x : Option Addr} {n cap : Nat} {Z : List Int} {y : Nat} {v : Value} {X : List Value} (h1 : Boxed W2 w.heap.size 84 v) (h2 : W2.ownsRow w.heap.size 108 64 v y (byt (Z.take (64 * y)))) (h3 : Kep w W2) (h4 : Boxed W2 (w.heap.size + 1) 22 (.slice x n cap)) (h5 : Boxed W2 (w.heap.size + 2) 3 (.int .i64 64))
    (k2 : Kep W2 w1) (hX : X.length = 64) (hX1 : ∀ u ∈ X, u.oneCell' = true) (hy : y < 32) (hnx : byt (Z.take (64 * (y + 1))) = byt (Z.take (64 * y)) ++ X) :
    ∃ g c w', (Builtin.append_ #[84, 84] 84 #[v, .slice (some ⟨w1.heap.size, 0, none⟩) 1 1]).run Tryz.prog (w1.alloc (.cells X.toArray 108)) = .ok (.slice (some ⟨g, 0, none⟩) (y + 1) c) w' ∧
      w'.cell? ⟨w.heap.size, 0, none⟩ = some v ∧ w'.frozen? ⟨w.heap.size, 0, none⟩ = false ∧ ∀ B, KeepsFrom B W2 (w'.setCell ⟨w.heap.size, 0, none⟩ (.slice (some ⟨g, 0, none⟩) (y + 1) c)) ∧ CutI w x n cap Z (y + 1) (w'.setCell ⟨w.heap.size, 0, none⟩ (.slice (some ⟨g, 0, none⟩) (y + 1) c)) := by
  obtain ⟨i0, hi, hz0, hz1, hz2⟩ := info_parts info_blk
  have kA : Kep W2 (w1.alloc (.cells X.toArray 108)) := k2.alloc _
  have hoA : (w1.alloc (.cells X.toArray 108)).ownsRow w.heap.size 108 64 v y (byt (Z.take (64 * y))) := (Soft.of_kep (B := 0) kA).owns h2
  obtain ⟨v', w', hrun, hown, hgrow, _⟩ := run_append_own (P := Tryz.prog) (w1.alloc (.cells X.toArray 108)) w.heap.size 84 84 108 i0 _ 64 64 Tryz.underlying84 hi hz0 hz1 hz2 zb64_size (by decide) v y (byt (Z.take (64 * y))) hoA ⟨w1.heap.size, 0, none⟩ 1 1 X (by omega) (fun j u hj => by rw [Addr.add_lit, Nat.zero_add, cell_of_block (heap_alloc_new w1 _), List.getElem?_toArray]; exact hj) hX1 (by unfold maxLen; omega) (by omega) (by have := h3.size; have := kA.size; omega)
  obtain ⟨g, c, rfl⟩ := ownsRow_succ hown
  have b1 : Boxed (w1.alloc (.cells X.toArray 108)) w.heap.size 84 v := kA.block h1
  have n1 := b1.not_row (by decide) hoA
  have b1' := b1.kept hgrow n1
  have b4' := (show Boxed (w1.alloc (.cells X.toArray 108)) _ _ _ from kA.block h4).kept hgrow ((show Boxed (w1.alloc (.cells X.toArray 108)) _ _ _ from kA.block h4).not_row (by decide) hoA)
  have b5' := (show Boxed (w1.alloc (.cells X.toArray 108)) _ _ _ from kA.block h5).kept hgrow ((show Boxed (w1.alloc (.cells X.toArray 108)) _ _ _ from kA.block h5).not_row (by decide) hoA)
  have hog := fun k e => (World.ownsRow.lt hoA k e)
  have kW : Kep w w' := (kep_trans h3 kA).by hgrow (fun k e => (hog k e).1)
  have hrow : Boxed w' w.heap.size 84 v := b1'
  refine ⟨g, c, w', hrun, b1'.cell, b1'.frozen, fun B => ⟨?_, ⟨_, b1'.set _, ?_⟩, kW.setCell (a := ⟨w.heap.size, 0, none⟩) (Nat.le_refl _) _, b4'.other (by omega) _, b5'.other (by omega) _⟩⟩
  · refine KeepsFrom.trans ?_ ((keepsCell w' w.heap.size 0 _).from B)
    refine KeepsFrom.trans (KeepsFrom.of_put (Put.of_kep (l := []) kA) (by simp)) ?_
    refine KeepsFrom.of_put (Put.of_grown (l := v.ownBlock.toList) hgrow (fun k e => by simp [e])) ?_
    intro b hb _
    rcases hoA.2 with ⟨rfl, _⟩ | ⟨g', cap', cur, rfl, _, hgb, _⟩
    · simp [Value.ownBlock] at hb
    · simp [Value.ownBlock] at hb; subst hb; exact ⟨_, _, _, hgb⟩
  · rw [hnx]
    exact hown.kept (grownBy_setCell' w' w.heap.size _) (.inr (b1'.not_row (by decide) hown).symm)
set_option maxRecDepth 100000 in
set_option maxHeartbeats 4000000 in
theorem cut_in (w : World) (x : Option Addr) (n cap nb : Nat) (Z : List Int) (hl : Z.length = n) (hn : n = 64 * nb) (hnb : (nb : Int) ≤ 32) (hcap : (n : Int) ≤ cap) (hmax : (cap : Int) ≤ 9223372036854775807) (h : Lies w x (byt Z)) :
    CallsIn Fence.wide 5 Tryz.prog 41 #[.slice x n cap] w fun e W' => ∃ v, e = .returned v ∧ W'.ownsRow w.heap.size 108 64 v nb (byt Z) ∧ Kep w W' := by
  have HC : Hid (∀ w, CallsIn Fence.wide 4 Tryz.prog 50 #[.slice x n cap, .int .i64 64] w fun e w' => e = .returned (.func (.func 58) #[] #[.pointer (some ⟨w.heap.size, 0, none⟩), .pointer (some ⟨w.heap.size + 1, 0, none⟩)]) ∧ w' = (w.alloc (.cells #[.slice x n cap] 22)).alloc (.cells #[.int .i64 64] 3)) := fun w => callsIn_wide.2 (chunk_any w x n cap)
  obtain ⟨i0, hi, hz0, hz1, hz2⟩ := info_parts info_blk
  obtain ⟨b, off, hx⟩ : ∃ b off : Nat, 0 < nb → x = some ⟨b, off, none⟩ ∧ b < w.heap.size ∧ ∀ j u, (byt Z)[j]? = some u → w.cell? ⟨b, off + j, none⟩ = some u := by
    rcases h with h | ⟨b, off, e, hb, hc⟩
    · refine ⟨0, 0, fun h0 => ?_⟩
      have := congrArg List.length h
      simp [byt_len] at this; subst this; simp at hl; omega
    · exact ⟨b, off, fun _ => ⟨e, hb, hc⟩⟩
  have hx' : Hid (0 < nb → x = some ⟨b, off, none⟩ ∧ b < w.heap.size ∧ ∀ j u, (byt Z)[j]? = some u → w.cell? ⟨b, off + j, none⟩ = some u) := hx
  have hl' : Hid (Z.length = n) := hl
  have hn' : Hid (n = 64 * nb) := hn
  clear hx h hl hn
  refine callsIn_of_wp_marks Tryz.func41 rfl trivial ?_ rfl
  simp only [Tryz.ntmps41, List.size_toArray, List.length_cons, List.length_nil, Nat.reduceAdd, Nat.reduceSub, Array.replicate_succ, Array.replicate_zero, List.push_toArray, List.append_toArray, List.nil_append, List.cons_append]
  gi_wp2_with (refine ⟨trivial, ?_⟩; gi_at_call 50; refine (HC.out _).mono ?_; rintro e w' ⟨rfl, rfl⟩)
  obtain ⟨W0, hW0⟩ : ∃ W0, Hid (W0 = ((w.alloc (.cells #[.slice none 0 0] 84)).alloc (.cells #[.slice x n cap] 22)).alloc (.cells #[.int .i64 64] 3)) := ⟨_, rfl⟩
  have hz : W0.heap.size = w.heap.size + 3 := by rw [hW0.out]; simp
  have I0 : CutI w x n cap Z 0 W0 := by
    rw [hW0.out]
    refine ⟨⟨.slice none 0 0, ?_, World.ownsRow_nil _ _ _ _⟩, (((Kep.refl _).alloc _).alloc _).alloc _, ?_, ?_⟩
    · exact (hsk _ _ _ (by simp; omega)).trans ((hsk _ _ _ (by simp)).trans (hat _ _ _ rfl))
    · exact (hsk _ _ _ (by simp)).trans (hat _ _ _ (by simp))
    · exact hat _ _ _ (by simp)
  rw [← hW0.out]
  clear hW0
  refine range_all rfl (by decide) (gf := 58) (lb := #[.pointer (some ⟨w.heap.size + 1, 0, none⟩), .pointer (some ⟨w.heap.size + 2, 0, none⟩)]) rfl trivial (enters_of Tryz.func58 (by kernel_rfl) rfl)
    (fun y : Nat => #[.slice (some ⟨b, off + 64 * y, none⟩) 64 64]) (fun _ => rfl) (CutI w x n cap Z) (fun s y W => y = s ∧ s < nb ∧ CutI w x n cap Z s W) (fun s _ => s + 1) (fun s => s = nb)
    (fun s W W' h k => h.soft (by omega) k) 0 I0 ?seq ?round ?done
  case seq =>
    intro l J Jm W hJ hJm hJJ hY h0
    exact chunk1_in 4 l nb n cap b off (w.heap.size + 1) (w.heap.size + 2) W0.heap.size (by decide) hn'.out hnb hcap hmax x (fun h => (hx'.out h).1) (CutI w x n cap Z) (fun k W h => ⟨h.2.2.1.cell, h.2.2.2.cell⟩) (fun k W m h => h.soft (Nat.le_refl w.heap.size) (Soft.of_kep ((Kep.refl W).drewN m))) J Jm W hJ hJm hJJ hY h0
  case round =>
    rintro l s y W ⟨rfl, hs, hI⟩
    simp only []
    gi_wp2
    refine ⟨KeepsFrom.refl _ _, fun W2 hs2 => ?_⟩
    obtain ⟨⟨v, h1, h2⟩, h3, h4, h5⟩ := hI.soft (by omega) hs2
    obtain ⟨hxe, hb, hcell⟩ := hx'.out (by omega)
    have hzl : ((Z.drop (64 * y)).take 64).length = 64 := by have := hl'.out; have := hn'.out; simp; omega
    have HB : Hid (∀ w', Kep W2 w' → CallsIn (Fence.wide.inRound l) 2 Tryz.prog 51 #[.slice (some ⟨b, off + 64 * y, none⟩) 64 64] w' fun e w'' => e = .returned (.agg (byt ((Z.drop (64 * y)).take 64)).toArray) ∧ Kep w' w'') := fun w' k => by
      refine callsIn_wide.2 (blockOf_any w' ⟨b, off + 64 * y, none⟩ 64 _ hzl (fun j u hj => ?_) ?_)
      · have hjl : j < 64 := by have := (List.getElem?_eq_some_iff.1 hj).1; rw [byt_len, hzl] at this; exact this
        rw [Addr.add_lit, (kep_trans h3 k).cell hb, Nat.add_assoc]
        refine hcell _ _ ?_
        rw [byt_at, List.getElem?_take_of_lt hjl, List.getElem?_drop] at hj
        rw [byt_at]; exact hj
      · exact (kep_trans h3 k).lt hb
    have hxl : Hid ((byt ((Z.drop (64 * y)).take 64)).length = 64) := by rw [Hid, byt_len, hzl]
    have hx1 : Hid (∀ u ∈ byt ((Z.drop (64 * y)).take 64), u.oneCell' = true) := byt_one _
    have hnext : Hid (byt (Z.take (64 * (y + 1))) = byt (Z.take (64 * y)) ++ byt ((Z.drop (64 * y)).take 64)) := by
      rw [Hid, Nat.mul_add, Nat.mul_one, List.take_add]; simp [byt]
    generalize byt ((Z.drop (64 * y)).take 64) = X at HB hxl hx1 hnext
    have c1 := h1.cell
    have f1 := h1.frozen
    have h1' : Hid (Boxed W2 w.heap.size 84 v) := h1
    have h2' : Hid (W2.ownsRow w.heap.size 108 64 v y (byt (Z.take (64 * y)))) := h2
    have h3' : Hid (Kep w W2) := h3
    have h4' : Hid (Boxed W2 (w.heap.size + 1) 22 (.slice x n cap)) := h4
    have h5' : Hid (Boxed W2 (w.heap.size + 2) 3 (.int .i64 64)) := h5
    clear h1 h2 h3 h4 h5 hI hs2 hcell hxe hzl I0
    have hbs := build_blk X hxl.out
    gi_wp2_with fail
    refine wpIn_region_any (by kernel_rfl) ?_
    try (change wpAnyIn _ _ _ _ _ _ _ _ _ (World.drew _))
    refine wpAnyIn_ready (rs := [0, 1]) (by kernel_rfl) (by simp) ?_
    refine AllReadyIn.cons rfl (fun K hK => ?_) ?_
    · go_simp
      refine hK _ _ ?_
      refine wpAnyIn_ready (rs := [1]) (by kernel_rfl) (by simp) ?_
      refine AllReadyIn.cons rfl (fun K hK => ?_) ?_
      · go_simp
        refine hK _ _ ?_
        refine wpAnyIn_ready (rs := [2]) (by kernel_rfl) (by simp) ?_
        refine AllReadyIn.cons rfl (fun K hK => ?_) ?_
        · gi_wp2_with (refine ⟨trivial, ?_⟩; gi_at_call 51; refine (HB.out _ ((Kep.refl _).drew)).mono ?_; rintro e w1 ⟨rfl, k1⟩; obtain ⟨g, c, w', hrun, hc', hf', hfin⟩ := cut_push h1'.out h2'.out h3'.out h4'.out h5'.out (kep_trans ((Kep.refl _).drew) k1) hxl.out hx1.out (by omega) hnext.out; have hfin' : Hid _ := hfin; have z1 := (kep_trans ((Kep.refl W2).drew) k1).cell (o := 0) h1'.out.lt; rw [c1] at z1; have z2 := ((kep_trans ((Kep.refl W2).drew) k1).alloc (.cells X.toArray 108)).cell (o := 0) h1'.out.lt; rw [c1] at z2; clear hfin k1)
          refine wpAnyIn_ready (rs := [3]) (by kernel_rfl) (by simp) ?_
          refine AllReadyIn.cons rfl (fun K hK => ?_) ?_
          · refine stepIn_buildSlice rfl 84 (.tmp 10) rfl _ _ _ rfl (hbs _) ?_
            refine hK _ _ ?_
            (try simp only [jA, jB, jC, Act.put, jD, jE, jF])
            refine wpAnyIn_ready (rs := [4]) (by kernel_rfl) (by simp) ?_
            refine AllReadyIn.cons rfl (fun K hK => ?_) ?_
            · refine stepIn_append rfl (.tmp 8) (.tmp 11) 84 rfl _ _ _ _ rfl rfl hrun ?_
              refine hK _ _ ?_
              (try simp only [jA, jB, jC, Act.put, jD, jE, jF])
              refine wpAnyIn_ready (rs := [5]) (by kernel_rfl) (by simp) ?_
              refine AllReadyIn.cons rfl (fun K hK => ?_) ?_
              · go_simp
                refine hK _ _ ?_
                refine wpAnyIn_done (by kernel_rfl) ?_ _
                gi_wp2_with fail
                exact hfin'.out _
              exact AllReadyIn.nil
            exact AllReadyIn.nil
          exact AllReadyIn.nil
        exact AllReadyIn.nil
      exact AllReadyIn.nil
    refine AllReadyIn.cons rfl (fun K hK => ?_) ?_
    · go_simp
      refine hK _ _ ?_
      refine wpAnyIn_ready (rs := [0, 2]) (by kernel_rfl) (by simp) ?_
      refine AllReadyIn.cons rfl (fun K hK => ?_) ?_
      · go_simp
        refine hK _ _ ?_
        refine wpAnyIn_ready (rs := [2]) (by kernel_rfl) (by simp) ?_
        refine AllReadyIn.cons rfl (fun K hK => ?_) ?_
        · gi_wp2_with (refine ⟨trivial, ?_⟩; gi_at_call 51; refine (HB.out _ ((Kep.refl _).drew)).mono ?_; rintro e w1 ⟨rfl, k1⟩; obtain ⟨g, c, w', hrun, hc', hf', hfin⟩ := cut_push h1'.out h2'.out h3'.out h4'.out h5'.out (kep_trans ((Kep.refl _).drew) k1) hxl.out hx1.out (by omega) hnext.out; have hfin' : Hid _ := hfin; have z1 := (kep_trans ((Kep.refl W2).drew) k1).cell (o := 0) h1'.out.lt; rw [c1] at z1; have z2 := ((kep_trans ((Kep.refl W2).drew) k1).alloc (.cells X.toArray 108)).cell (o := 0) h1'.out.lt; rw [c1] at z2; clear hfin k1)
          refine wpAnyIn_ready (rs := [3]) (by kernel_rfl) (by simp) ?_
          refine AllReadyIn.cons rfl (fun K hK => ?_) ?_
          · refine stepIn_buildSlice rfl 84 (.tmp 10) rfl _ _ _ rfl (hbs _) ?_
            refine hK _ _ ?_
            (try simp only [jA, jB, jC, Act.put, jD, jE, jF])
            refine wpAnyIn_ready (rs := [4]) (by kernel_rfl) (by simp) ?_
            refine AllReadyIn.cons rfl (fun K hK => ?_) ?_
            · refine stepIn_append rfl (.tmp 8) (.tmp 11) 84 rfl _ _ _ _ rfl rfl hrun ?_
              refine hK _ _ ?_
              (try simp only [jA, jB, jC, Act.put, jD, jE, jF])
              refine wpAnyIn_ready (rs := [5]) (by kernel_rfl) (by simp) ?_
              refine AllReadyIn.cons rfl (fun K hK => ?_) ?_
              · go_simp
                refine hK _ _ ?_
                refine wpAnyIn_done (by kernel_rfl) ?_ _
                gi_wp2_with fail
                exact hfin'.out _
              exact AllReadyIn.nil
            exact AllReadyIn.nil
          exact AllReadyIn.nil
        exact AllReadyIn.nil
      refine AllReadyIn.cons rfl (fun K hK => ?_) ?_
      · gi_wp2_with (refine ⟨trivial, ?_⟩; gi_at_call 51; refine (HB.out _ ((Kep.refl _).drew)).mono ?_; rintro e w1 ⟨rfl, k1⟩; obtain ⟨g, c, w', hrun, hc', hf', hfin⟩ := cut_push h1'.out h2'.out h3'.out h4'.out h5'.out (kep_trans ((Kep.refl _).drew) k1) hxl.out hx1.out (by omega) hnext.out; have hfin' : Hid _ := hfin; have z1 := (kep_trans ((Kep.refl W2).drew) k1).cell (o := 0) h1'.out.lt; rw [c1] at z1; have z2 := ((kep_trans ((Kep.refl W2).drew) k1).alloc (.cells X.toArray 108)).cell (o := 0) h1'.out.lt; rw [c1] at z2; clear hfin k1)
        refine wpAnyIn_ready (rs := [0, 3]) (by kernel_rfl) (by simp) ?_
        refine AllReadyIn.cons rfl (fun K hK => ?_) ?_
        · go_simp
          refine hK _ _ ?_
          refine wpAnyIn_ready (rs := [3]) (by kernel_rfl) (by simp) ?_
          refine AllReadyIn.cons rfl (fun K hK => ?_) ?_
          · refine stepIn_buildSlice rfl 84 (.tmp 10) rfl _ _ _ rfl (hbs _) ?_
            refine hK _ _ ?_
            (try simp only [jA, jB, jC, Act.put, jD, jE, jF])
            refine wpAnyIn_ready (rs := [4]) (by kernel_rfl) (by simp) ?_
            refine AllReadyIn.cons rfl (fun K hK => ?_) ?_
            · refine stepIn_append rfl (.tmp 8) (.tmp 11) 84 rfl _ _ _ _ rfl rfl hrun ?_
              refine hK _ _ ?_
              (try simp only [jA, jB, jC, Act.put, jD, jE, jF])
              refine wpAnyIn_ready (rs := [5]) (by kernel_rfl) (by simp) ?_
              refine AllReadyIn.cons rfl (fun K hK => ?_) ?_
              · go_simp
                refine hK _ _ ?_
                refine wpAnyIn_done (by kernel_rfl) ?_ _
                gi_wp2_with fail
                exact hfin'.out _
              exact AllReadyIn.nil
            exact AllReadyIn.nil
          exact AllReadyIn.nil
        refine AllReadyIn.cons rfl (fun K hK => ?_) ?_
        · refine stepIn_buildSlice rfl 84 (.tmp 10) rfl _ _ _ rfl (hbs _) ?_
          refine hK _ _ ?_
          (try simp only [jA, jB, jC, Act.put, jD, jE, jF])
          refine wpAnyIn_ready (rs := [0]) (by kernel_rfl) (by simp) ?_
          refine AllReadyIn.cons rfl (fun K hK => ?_) ?_
          · go_simp
            refine hK _ _ ?_
            refine wpAnyIn_ready (rs := [4]) (by kernel_rfl) (by simp) ?_
            refine AllReadyIn.cons rfl (fun K hK => ?_) ?_
            · refine stepIn_append rfl (.tmp 8) (.tmp 11) 84 rfl _ _ _ _ rfl rfl hrun ?_
              refine hK _ _ ?_
              (try simp only [jA, jB, jC, Act.put, jD, jE, jF])
              refine wpAnyIn_ready (rs := [5]) (by kernel_rfl) (by simp) ?_
              refine AllReadyIn.cons rfl (fun K hK => ?_) ?_
              · go_simp
                refine hK _ _ ?_
                refine wpAnyIn_done (by kernel_rfl) ?_ _
                gi_wp2_with fail
                exact hfin'.out _
              exact AllReadyIn.nil
            exact AllReadyIn.nil
          exact AllReadyIn.nil
        exact AllReadyIn.nil
      exact AllReadyIn.nil
    exact AllReadyIn.nil
  case done =>
    rintro D s W hD rfl ⟨⟨v, hv, hrow⟩, hkp, _, _⟩ hK
    have hc := hv.cell
    gi_wp2
    refine ⟨by simp, .inl ⟨_, _, rfl, run_takeDeferred hK, ?_⟩⟩
    have hs := Soft.obj (B := w.heap.size) (.deferred none) hK rfl (by omega)
    refine ⟨v, by simp [results, Tryz.f41, go_sem], v, rfl, ?_, hs.kept hkp (Nat.le_refl _)⟩
    rw [List.take_of_length_le (by have := hl'.out; have := hn'.out; omega)] at hrow
    exact hs.owns hrow
theorem vcut_any (w : World) (x : Option Addr) (n cap nb : Nat) (Z : List Int) (hl : Z.length = n) (hn : n = 64 * nb) (hnb : (nb : Int) ≤ 32) (hcap : (n : Int) ≤ cap) (hmax : (cap : Int) ≤ 9223372036854775807) (h : Lies w x (byt Z)) :
    Calls Tryz.prog 41 #[.slice x n cap] w fun e W' => ∃ v, e = .returned v ∧ W'.ownsRow w.heap.size 108 64 v nb (byt Z) ∧ Kep w W' := callsIn_wide.1 (cut_in w x n cap nb Z hl hn hnb hcap hmax h)
end Go.Proofs.YtnignfloedcmlaaGreatDoor
