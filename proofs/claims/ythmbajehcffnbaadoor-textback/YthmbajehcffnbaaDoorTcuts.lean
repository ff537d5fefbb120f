/- A text's words, as the code collects them: at most five. -/
import Derived.Test.YthmbajehcffnbaaDoorTwords
namespace Go.Proofs.YthmbajehcffnbaaDoor
open Go.RowKit Go.Shelf
set_option linter.unusedVariables false
attribute [local go_sem] Oper.semAt_some

theorem info9 : (Tryd.prog.info? 9).map (fun i => (i.zero, i.size, i.bytes)) = some (some (.string ByteArray.empty), 1, 16) := by kernel_rfl
/-- The boxes of what is answered, as they were laid. -/
def St0 (w W : World) : Prop := Boxed W w.heap.size 45 (.slice none 0 0) ∧ Boxed W (w.heap.size + 1) 4 (.bool false) ∧ Below w.heap.size w W
/-- And the box of the words that have come. -/
def StP (w : World) (pre : List (List UInt8)) (W : World) : Prop := (∃ v, Boxed W (w.heap.size + 2) 45 v ∧ W.ownsRow w.heap.size 9 1 v pre.length (pre.map strV) ∧ True) ∧ St0 w W
theorem st0_own (w : World) (B : Nat) (hB : w.heap.size ≤ B) : OwnFrom B (fun (_ : List (List UInt8)) W => St0 w W) :=
  OwnFrom.and (Own.from (boxed_own _ _ _) _) (OwnFrom.and (Own.from (boxed_own _ _ _) _) (ownFrom_below (Nat.le_refl _) hB))
theorem stP_own (w : World) (B : Nat) (hB : w.heap.size ≤ B) : OwnFrom B (fun (pre : List (List UInt8)) W => StP w pre W) :=
  OwnFrom.and (Own.from (holdsRow_own w.heap.size (w.heap.size + 2) 45 9 1 (fun pre : List (List UInt8) => pre.length) (fun pre => pre.map strV) (fun _ _ => True)) _) (st0_own w B hB)
def InP (w : World) (pre : List (List UInt8)) (W : World) : Prop := StP w pre W ∧ [] ∉ pre ∧ pre.length ≤ 4
def OutP (id : Nat) (w : World) (c : Code) (pre : List (List UInt8)) (W : World) : Prop := (St0 w W ∧ c = .ret ∧ [] ∈ pre ∧ pre.length ≤ 5) ∨ (StP w pre W ∧ c = .exit id ∧ [] ∉ pre ∧ pre.length = 5)
theorem inP_own (w : World) (B : Nat) (hB : w.heap.size ≤ B) : OwnFrom B (InP w) := fun s W W' row hs hg hr => ⟨stP_own w B hB s W W' row hs.1 hg hr, hs.2⟩
theorem outP_own (id : Nat) (w : World) (B : Nat) (hB : w.heap.size ≤ B) (c : Code) : OwnFrom B (OutP id w c) := fun s W W' row hs hg hr => by
  rcases hs with ⟨h1, h2⟩ | ⟨h1, h2⟩
  · exact .inl ⟨st0_own w B hB s W W' row h1 hg hr, h2⟩
  · exact .inr ⟨stP_own w B hB s W W' row h1 hg hr, h2⟩

theorem owns_slice {w : World} {base n : Nat} {v : Value} {xs : List Value} (h : w.ownsRow base 9 1 v n xs) (hn : 0 < n) : ∃ g cap, v = .slice (some ⟨g, 0, none⟩) n cap := by
  rcases h.2 with ⟨_, h1⟩ | ⟨g, cap, cur, h1, _⟩
  · omega
  · exact ⟨g, cap, h1⟩

set_option maxRecDepth 100000 in
set_option maxHeartbeats 4000000 in
theorem cuts_in (s : List UInt8) (hs : (s.length : Int) ≤ 140737488355328) (w : World) :
    CallsIn Fence.wide 5 Tryd.prog 23 #[strV s] w fun e W' => ((e = .returned (.tuple #[.slice none 0 0, .bool false]) ∧ [] ∈ (splitL s).take 5) ∨
      (∃ v, e = .returned (.tuple #[v, .bool true]) ∧ [] ∉ (splitL s).take 5 ∧ W'.ownsRow w.heap.size 9 1 v ((splitL s).take 5).length (((splitL s).take 5).map strV))) ∧ Below w.heap.size w W' := by
  have HW : Hid _ := fun w => words_in 4 s w
  obtain ⟨i0, hi, hz0, hz1, hz2⟩ := info_parts info9
  refine callsIn_of_wp_marks Tryd.func23 rfl trivial ?_ rfl
  simp only [Tryd.ntmps23, List.size_toArray, List.length_cons, List.length_nil, Nat.reduceAdd, Nat.reduceSub, Array.replicate_succ, Array.replicate_zero, List.push_toArray, List.append_toArray, List.nil_append, List.cons_append]
  gi_wp2_with (refine ⟨trivial, ?_⟩; gi_at_call 36; refine (HW.out _).mono ?_; rintro e w' ⟨rfl, rfl⟩)
  obtain ⟨W0, hW0⟩ : ∃ W0, Hid (W0 = (((w.alloc (.cells #[.slice none 0 0] 45)).alloc (.cells #[.bool false] 4)).alloc (.cells #[.slice none 0 0] 45)).alloc (.cells #[strV s] 9)) := ⟨_, rfl⟩
  have hz : W0.heap.size = w.heap.size + 4 := by rw [hW0.out]; simp
  have b0 : Boxed W0 w.heap.size 45 (.slice none 0 0) := by rw [hW0.out]; exact (((Boxed.new w _ _).alloc _).alloc _).alloc _
  have b1 : Boxed W0 (w.heap.size + 1) 4 (.bool false) := by
    rw [hW0.out]
    have := Boxed.new (w.alloc (.cells #[.slice none 0 0] 45)) 4 (.bool false)
    rw [World.size_alloc] at this
    exact (this.alloc _).alloc _
  have b2 : Boxed W0 (w.heap.size + 2) 45 (.slice none 0 0) := by
    rw [hW0.out]
    have := Boxed.new ((w.alloc (.cells #[.slice none 0 0] 45)).alloc (.cells #[.bool false] 4)) 45 (.slice none 0 0)
    rw [World.size_alloc, World.size_alloc] at this
    exact this.alloc _
  have b3 : Boxed W0 (w.heap.size + 3) 9 (strV s) := by
    rw [hW0.out]
    have := Boxed.new (((w.alloc (.cells #[.slice none 0 0] 45)).alloc (.cells #[.bool false] 4)).alloc (.cells #[.slice none 0 0] 45)) 9 (strV s)
    rw [World.size_alloc, World.size_alloc, World.size_alloc] at this
    exact this
  have hB0 : Below w.heap.size w W0 := by
    rw [hW0.out]
    exact ((((Below.refl _ w).alloc (Nat.le_refl _) _).alloc (by simp) _).alloc (by simp; omega) _).alloc (by simp; omega) _
  have hI0 : InP w [] W0 := ⟨⟨⟨_, b2, World.ownsRow_nil _ _ _ _, trivial⟩, b0, b1, hB0⟩, by simp, by simp⟩
  rw [← hW0.out]
  refine wpIn_rangeFunc_ownG rfl (by decide) (gf := 40) (lb := #[.pointer (some ⟨w.heap.size + 3, 0, none⟩)]) rfl trivial (enters_of Tryd.func40 (by kernel_rfl) rfl)
    (words_stops 4 (by decide) (w.heap.size + 3) s hs W0 (by omega) b3.cell) (fun _ _ => trivial) (fun _ _ _ _ _ _ _ _ => trivial) (Below.refl _ _) (fun _ => rfl)
    (InP w) (OutP 0 w) (inP_own w _ (by omega)) (outP_own 0 w _ (by omega)) hI0
    (fun x => { tmps := #[strV s, undef, .pointer (some ⟨w.heap.size, 0, none⟩), .pointer (some ⟨w.heap.size + 1, 0, none⟩), .pointer (some ⟨w.heap.size + 2, 0, none⟩), strV x, strV s, .func (.func 40) #[] #[.pointer (some ⟨w.heap.size + 3, 0, none⟩)], strV x, undef, undef, undef, undef, undef, undef, undef, undef, undef, undef], defers := [] }) ?assign ?body ?done ?stop
  case assign =>
    intro l x W K hK
    gi_wp2
    exact hK
  case body =>
    rintro l pre x W ⟨⟨⟨v, hv, hrow, _⟩, r0, r1, hB⟩, hne, hlen⟩ hlt
    have c0 := r0.cell
    have c1 := r1.cell
    have f0 := r0.frozen
    have f1 := r1.frozen
    have hc := hv.cell
    clear b0 b1 b2 b3 hB0 hI0 hlt
    by_cases hx : x = []
    · subst hx
      gi_wp2
      exact ⟨((KeepsOthers.setCell _ _ _).trans (KeepsOthers.setCell _ _ _)).from _, .inl ⟨⟨(r0.set _).other (by omega) _, (r1.other (by omega) _).set _, (hB.setCell (p := ⟨w.heap.size, 0, none⟩) (Nat.le_refl _) _).setCell (p := ⟨w.heap.size + 1, 0, none⟩) (by simp) _⟩, rfl, by simp, by simp; omega⟩⟩
    · have hxe : x.isEmpty = false := by simpa using hx
      have hin : Hid ([] ∉ pre ++ [x]) := by
        unfold Hid
        simp only [List.mem_append, List.mem_singleton, not_or]
        exact ⟨hne, fun e => hx e.symm⟩
      clear hx hne
      have hm1 : pre.length + 1 ≤ maxLen := by unfold maxLen; omega
      rcases (by omega : (4 : Int) < (pre.length : Int) + 1 ∨ (pre.length : Int) + 1 ≤ 4) with h4 | h4
      all_goals
        gi_wp2_with (gi_at_builtin; refine wpListIn_append_own _ rfl _ _ 45 rfl w.heap.size 9 i0 (.string ByteArray.empty) 1 16 Tryd.underlying45 hi hz0 hz1 hz2 rfl (by decide) _ _ _ rfl (hrow.alloc _) ⟨W.heap.size, 0, none⟩ 1 1 [strV x] rfl rfl (cell_one_new _ _ _) (by simp [Value.oneCell']) hm1 (by omega) (by have := hB.size; simp; omega) ?_; intro v' w1 hown' hgrow _; obtain ⟨g', cap', rfl⟩ := ownsRow_succ hown'; obtain ⟨hv1, hv2, hr2, hk2, hb2⟩ := hv.appended (by decide) hrow hB.size (by omega) hown' hgrow; have hc1 := hv1.cell; have hf1 := hv1.frozen; have q0 := ((r0.alloc _).kept hgrow (r0.not_row (by decide) hrow)); have q1 := ((r1.alloc _).kept hgrow (r1.not_row (by decide) hrow)); have hc2 := hv2.cell)
        first
          | exact ⟨hk2.from _, .inr ⟨⟨⟨_, hv2, by simpa using hr2, trivial⟩, q0.other (by omega) _, q1.other (by omega) _, hB.trans hb2⟩, rfl, hin.out, by simp; omega⟩⟩
          | exact ⟨hk2.from _, trivial, ⟨⟨_, hv2, by simpa using hr2, trivial⟩, q0.other (by omega) _, q1.other (by omega) _, hB.trans hb2⟩, hin.out, by simp; omega⟩
  case done =>
    rintro D ys W hD rfl ⟨⟨⟨v, hv, hrow, _⟩, r0, r1, hB⟩, hne, hlen⟩ hK
    obtain ⟨g, cap, rfl⟩ := owns_slice hrow (List.length_pos_iff.2 (splitL_ne s))
    have c0 := r0.cell
    have c1 := r1.cell
    have f0 := r0.frozen
    have f1 := r1.frozen
    have hc : W.cell? ⟨w.heap.size + 1 + 1, 0, none⟩ = some _ := hv.cell
    clear b0 b1 b2 b3 hB0 hI0
    gi_wp2
    have htk : (splitL s).take 5 = splitL s := List.take_of_length_le (by omega)
    have x0 : Boxed ((W.setCell ⟨w.heap.size, 0, none⟩ (.slice (some ⟨g, 0, none⟩) (splitL s).length cap)).setCell ⟨w.heap.size + 1, 0, none⟩ (.bool true)) w.heap.size 45 (.slice (some ⟨g, 0, none⟩) (splitL s).length cap) := (r0.set _).other (by omega) _
    have x1 : Boxed ((W.setCell ⟨w.heap.size, 0, none⟩ (.slice (some ⟨g, 0, none⟩) (splitL s).length cap)).setCell ⟨w.heap.size + 1, 0, none⟩ (.bool true)) (w.heap.size + 1) 4 (.bool true) := (r1.other (by omega) _).set _
    have hrX := (hrow.kept (grownBy_setCell' W w.heap.size (.slice (some ⟨g, 0, none⟩) (splitL s).length cap)) (.inr (r0.not_row (by decide) hrow).symm))
    have hrX := hrX.kept (grownBy_setCell' _ (w.heap.size + 1) (.bool true)) (.inr ((r1.other (by omega) _).not_row (by decide) hrX).symm)
    have hKX := ((KeepsOthers.setCell W ⟨w.heap.size, 0, none⟩ (.slice (some ⟨g, 0, none⟩) (splitL s).length cap)).trans (KeepsOthers.setCell _ ⟨w.heap.size + 1, 0, none⟩ (.bool true))).same D _ hK rfl
    have hBX := (hB.setCell (p := ⟨w.heap.size, 0, none⟩) (Nat.le_refl _) (.slice (some ⟨g, 0, none⟩) (splitL s).length cap)).setCell (p := ⟨w.heap.size + 1, 0, none⟩) (by simp) (.bool true)
    generalize ((W.setCell ⟨w.heap.size, 0, none⟩ (.slice (some ⟨g, 0, none⟩) (splitL s).length cap)).setCell ⟨w.heap.size + 1, 0, none⟩ (.bool true)) = X at x0 x1 hrX hKX hBX ⊢
    have y0 := (x0.kept (grownBy_putObj' X D (.deferred none)) (by simp; omega)).cell
    have y1 := (x1.kept (grownBy_putObj' X D (.deferred none)) (by simp; omega)).cell
    refine ⟨by simp, .inl ⟨_, _, rfl, run_takeDeferred hKX, ?_⟩⟩
    refine ⟨.tuple #[.slice (some ⟨g, 0, none⟩) (splitL s).length cap, .bool true], ?_, .inr ⟨_, rfl, ?_, ?_⟩, hBX.trans (belowK_b (w := w) (Nat.le_refl _) X D _ _ (by omega) hKX rfl rfl)⟩
    · simp [results, Tryd.f23, go_sem, y0, y1]
    · rw [htk]; exact hne
    · rw [htk]; exact ownsRow_putObj hrX _ hKX rfl
  case stop =>
    rintro D c pre W hD hpre hO hK
    rcases hO with ⟨⟨r0, r1, hB⟩, rfl, hin, hlen⟩ | ⟨⟨⟨v, hv, hrow, _⟩, r0, r1, hB⟩, rfl, hne, hlen⟩
    · clear b0 b1 b2 b3 hB0 hI0
      gi_wp2
      have htk : [] ∈ (splitL s).take 5 := by
        obtain ⟨r, hr⟩ := hpre
        rw [← hr]
        exact List.mem_of_mem_take (i := pre.length) (by rw [List.take_take, Nat.min_eq_left hlen]; simpa using hin)
      have y0 := (r0.kept (grownBy_putObj' W D (.deferred none)) (by simp; omega)).cell
      have y1 := (r1.kept (grownBy_putObj' W D (.deferred none)) (by simp; omega)).cell
      refine ⟨by simp, .inl ⟨_, _, rfl, run_takeDeferred hK, ?_⟩⟩
      refine ⟨.tuple #[.slice none 0 0, .bool false], ?_, .inl ⟨rfl, htk⟩, hB.trans (belowK_b (w := w) (Nat.le_refl _) W D _ _ (by omega) hK rfl rfl)⟩
      simp [results, Tryd.f23, go_sem, y0, y1]
    · have htk : (splitL s).take 5 = pre := by
        obtain ⟨r, hr⟩ := hpre
        rw [← hr, ← hlen, List.take_left]
      rw [hlen] at hrow
      obtain ⟨g, cap, rfl⟩ := owns_slice hrow (by omega)
      have c0 := r0.cell
      have c1 := r1.cell
      have f0 := r0.frozen
      have f1 := r1.frozen
      have hc : W.cell? ⟨w.heap.size + 1 + 1, 0, none⟩ = some _ := hv.cell
      clear b0 b1 b2 b3 hB0 hI0
      gi_wp2
      have x0 : Boxed ((W.setCell ⟨w.heap.size, 0, none⟩ (.slice (some ⟨g, 0, none⟩) 5 cap)).setCell ⟨w.heap.size + 1, 0, none⟩ (.bool true)) w.heap.size 45 (.slice (some ⟨g, 0, none⟩) 5 cap) := (r0.set _).other (by omega) _
      have x1 : Boxed ((W.setCell ⟨w.heap.size, 0, none⟩ (.slice (some ⟨g, 0, none⟩) 5 cap)).setCell ⟨w.heap.size + 1, 0, none⟩ (.bool true)) (w.heap.size + 1) 4 (.bool true) := (r1.other (by omega) _).set _
      have hrX := (hrow.kept (grownBy_setCell' W w.heap.size (.slice (some ⟨g, 0, none⟩) 5 cap)) (.inr (r0.not_row (by decide) hrow).symm))
      have hrX := hrX.kept (grownBy_setCell' _ (w.heap.size + 1) (.bool true)) (.inr ((r1.other (by omega) _).not_row (by decide) hrX).symm)
      have hKX := ((KeepsOthers.setCell W ⟨w.heap.size, 0, none⟩ (.slice (some ⟨g, 0, none⟩) 5 cap)).trans (KeepsOthers.setCell _ ⟨w.heap.size + 1, 0, none⟩ (.bool true))).same D _ hK rfl
      have hBX := (hB.setCell (p := ⟨w.heap.size, 0, none⟩) (Nat.le_refl _) (.slice (some ⟨g, 0, none⟩) 5 cap)).setCell (p := ⟨w.heap.size + 1, 0, none⟩) (by simp) (.bool true)
      generalize ((W.setCell ⟨w.heap.size, 0, none⟩ (.slice (some ⟨g, 0, none⟩) 5 cap)).setCell ⟨w.heap.size + 1, 0, none⟩ (.bool true)) = X at x0 x1 hrX hKX hBX ⊢
      have y0 := (x0.kept (grownBy_putObj' X D (.deferred none)) (by simp; omega)).cell
      have y1 := (x1.kept (grownBy_putObj' X D (.deferred none)) (by simp; omega)).cell
      refine ⟨by simp, .inl ⟨_, _, rfl, run_takeDeferred hKX, ?_⟩⟩
      refine ⟨.tuple #[.slice (some ⟨g, 0, none⟩) 5 cap, .bool true], ?_, .inr ⟨_, rfl, ?_, ?_⟩, hBX.trans (belowK_b (w := w) (Nat.le_refl _) X D _ _ (by omega) hKX rfl rfl)⟩
      · simp [results, Tryd.f23, go_sem, y0, y1]
      · rw [htk]; exact hne
      · rw [htk, hlen]; exact ownsRow_putObj hrX _ hKX rfl
end Go.Proofs.YthmbajehcffnbaaDoor
