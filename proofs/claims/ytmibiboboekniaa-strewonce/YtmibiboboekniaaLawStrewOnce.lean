/- For every number and key, the law StrewOnce returns true: strewn places are all the places, each once. -/
import Derived.Test.YtmibiboboekniaaRows
import Derived.Test.YtmibiboboekniaaQworks
import Derived.WalkKit
import Derived.ProofKit
import Derived.OpenShut
import Derived.ShutString
import Derived.ChangeOld
import Derived.Below
import Derived.Lib.SmallJoins
namespace Go.Proofs.Ytmibiboboekniaa.strewOnce
open Go.ChangeShapes Go.WideShapes Go.ChangeAt Go.RowKit
set_option linter.unusedVariables false
set_option linter.unusedSimpArgs false

theorem own : ownKnob Try.prog.godebug = none := by kernel_rfl
theorem laidOut : laidOutB Try.prog = true := by kernel_rfl

def bools (l : List Bool) : List Value := l.map Value.bool
/-- Which places have been met among the first k. -/
def thr (n : Nat) (l : List Int) (k : Nat) : List Bool := (List.range n).map fun z : Nat => decide ((z : Int) ∈ l.take k)
theorem thr_len (n : Nat) (l : List Int) (k : Nat) : (thr n l k).length = n := by simp [thr]
theorem thr_zero (n : Nat) (l : List Int) : thr n l 0 = List.replicate n false := by
  apply List.ext_getElem
  · simp [thr]
  · intro i h1 h2; simp [thr]
theorem thr_at {n k z : Nat} {l : List Int} (hn : l.Nodup) (hz : z < n) (hk : k < l.length) (e : l.getD k 0 = z) : (bools (thr n l k))[z]? = some (.bool false) := by
  have : ¬ ((z : Int) ∈ l.take k) := by
    intro h
    rw [List.mem_iff_getElem] at h
    obtain ⟨i, hi, h⟩ := h
    have hi' : i < k := by simp at hi; omega
    rw [List.getElem_take] at h
    have e' : l[k] = (z : Int) := by simpa [List.getD, hk] using e
    exact (List.pairwise_iff_getElem.mp hn) i k (by omega) hk hi' (by rw [h, e'])
  simp [bools, thr, hz, this]
theorem thr_step {n k z : Nat} {l : List Int} (hz : z < n) (hk : k < l.length) (e : l.getD k 0 = z) : (bools (thr n l k)).set z (.bool true) = bools (thr n l (k + 1)) := by
  have e' : l[k] = (z : Int) := by simpa [List.getD, hk] using e
  apply List.ext_getElem
  · simp [bools, thr]
  · intro i h1 h2
    have hi : i < n := by simpa [bools, thr] using h2
    rw [List.getElem_set]
    simp only [bools, thr, List.getElem_map, List.getElem_range]
    by_cases h : z = i
    · subst h
      rw [if_pos rfl]
      have : (z : Int) ∈ l.take (k + 1) := by rw [List.take_succ_eq_append_getElem hk, e']; simp
      simp [this]
    · rw [if_neg h]
      have : ((i : Int) ∈ l.take (k + 1)) ↔ ((i : Int) ∈ l.take k) := by
        rw [List.take_succ_eq_append_getElem hk, e']
        simp
        intro h'; omega
      simp [this]
theorem info_bool : (Try.prog.info? 4).map (fun i => (i.zero, i.size, i.bytes)) = some (some (.bool false), 1, 1) := by kernel_rfl
theorem make_bools (s : Nat) (hs : s ≤ 1000000) (w : World) : Sem.run Try.prog (Instr.makeSlice 37 (.int .i64 s) (.int .i64 s)) w = .ok (.slice (some ⟨w.heap.size, 0, none⟩) s s) (w.alloc (.cells (bools (List.replicate s false)).toArray 4)) := by
  obtain ⟨i, hi, hz0, hz1, hz2⟩ := info_parts info_bool
  have := run_make (P := Try.prog) w 37 4 i (.bool false) Try.underlying37 hi hz0 .i64 .i64 s s (by omega) (by omega) (by rw [hz2]; omega) (by omega)
  rw [hz1] at this
  have e : bools (List.replicate s false) = List.replicate s (.bool false) := by simp [bools]
  rw [e]
  simpa [Value.cells, repI_made] using this
/-- So far: the row of places, and which have been met. -/
structure Met (w wr : World) (R T : Nat) (l : List Int) (bs : List Value) : Prop where
  kep : Kep w wr
  row : wr.heap[R]? = some (.cells (ints l).toArray 3 (0, 0))
  met : wr.heap[T]? = some (.cells bs.toArray 4 (0, 0))
  ne : R ≠ T
  ge : w.heap.size ≤ T
theorem Met.set {w wr : World} {R T : Nat} {l : List Int} {bs : List Value} (h : Met w wr R T l bs) (z : Nat) (v : Value) : Met w (wr.setCell ⟨T, z, none⟩ v) R T l (bs.set z v) :=
  ⟨h.kep.setCell h.ge _, (heap_setCell_other _ _ _ _ (by simpa using h.ne)).trans h.row, by rw [heap_setCell_row h.met]; simp, h.ne, h.ge⟩
set_option maxHeartbeats 4000000 in
set_option maxRecDepth 100000 in
theorem walk (a0 : Int) (w0 : (Lit.int .i64 a0).wf = true) (a1 : Int) (w1 : (Lit.int .u32 a1).wf = true) (w : World)  :
    Calls Try.prog 5 #[.int .i64 a0, .int .u32 a1] w fun e w' => e = .returned (.bool true) ∧ Kep w w' := by
  have HW : Hid (∀ w, Calls Try.prog 11 #[] w fun e w' => e = .returned (.bool true) ∧ Kep w w') := works13_any
  have ha1 := u32_of w1
  clear w0 w1
  rcases (by omega : a0 < 1 ∨ (1 ≤ a0 ∧ 512 < a0) ∨ (1 ≤ a0 ∧ a0 ≤ 512)) with h | ⟨h0, h⟩ | ⟨h1, h2⟩
  · have HO : Hid (Calls Try.prog 9 #[.int .i64 a0, .int .u32 a1] w fun e w' => e = .returned (.slice none 0 0) ∧ w' = w) := order_no a0 a1 (.inl h) w
    go_enter Try.func5, Try.ntmps5
    go_wp2_with (first | (go_at_call 9; refine HO.out.mono ?_; rintro e w1 ⟨rfl, rfl⟩) | (go_at_call 11; refine (HW.out _).mono ?_; rintro e w2 ⟨rfl, KW⟩))
    go_ret
    exact ⟨rfl, KW⟩
  · have HO : Hid (Calls Try.prog 9 #[.int .i64 a0, .int .u32 a1] w fun e w' => e = .returned (.slice none 0 0) ∧ w' = w) := order_no a0 a1 (.inr h) w
    have hn0 : ¬ a0 < 1 := by omega
    go_enter Try.func5, Try.ntmps5
    go_wp2_with (first | (go_at_call 9; refine HO.out.mono ?_; rintro e w1 ⟨rfl, rfl⟩) | (go_at_call 11; refine (HW.out _).mono ?_; rintro e w2 ⟨rfl, KW⟩))
    go_ret
    exact ⟨rfl, KW⟩
  · obtain ⟨n, rfl⟩ : ∃ n : Nat, a0 = n := ⟨a0.toNat, by omega⟩
    have HO : Hid (Calls Try.prog 9 #[.int .i64 n, .int .u32 a1] w fun e w' => e = .returned (.slice (some ⟨w.heap.size, 0, none⟩) n n) ∧ Kep w w' ∧ w'.heap[w.heap.size]? = some (.cells (ints (ordL n a1)).toArray 3 (0, 0))) := order_any n h1 h2 a1 ha1 w
    have hl : (ordL n a1).length = n := ordL_len n a1
    have hI : Hid (InR n (ordL n a1) ∧ (ordL n a1).Nodup) := ⟨ordL_in (by omega) a1, ordL_nodup (by omega) a1⟩
    generalize ordL n a1 = l at HO hl hI
    have mk := make_bools n (by omega)
    rw [← thr_zero n l] at mk
    have n1 : ¬ (n : Int) < 1 := by omega
    have n2 : ¬ (512 : Int) < n := by omega
    go_enter Try.func5, Try.ntmps5
    go_wp2_with fail
    refine HO.out.mono ?_
    rintro e w1 ⟨rfl, hK, hR⟩
    clear HO
    have M0 : Hid (Met w (w1.alloc (.cells (bools (thr n l 0)).toArray 4)) w.heap.size w1.heap.size l (bools (thr n l 0))) := ⟨hK.alloc _, (hsk _ _ _ (block_lt hR)).trans hR, hat _ _ _ rfl, Nat.ne_of_lt (block_lt hR), hK.size⟩
    clear hK hR
    go_wp2_with fail
    generalize w1.alloc (.cells (bools (thr n l 0)).toArray 4) = W at M0
    generalize w1.heap.size = T at M0
    clear mk
    go_loopw [7] (fun i wr => ∃ k : Nat, (k : Int) ≤ n ∧ i = .int .i64 k ∧ Hid (Met w wr w.heap.size T l (bools (thr n l k)))) (fun i _ => n - (intOf i).toNat)
    case atStart => exact ⟨0, by omega, rfl, M0⟩
    case round =>
      obtain ⟨k, hk, rfl, M⟩ := hrel
      clear M0
      by_cases hlt : k < n
      · have hz := hI.out.1.at (k := k) (by omega)
        obtain ⟨z, ez⟩ : ∃ z : Nat, l.getD k 0 = z := ⟨(l.getD k 0).toNat, by omega⟩
        have hzn : z < n := by omega
        have c1 := row_cell (k := k) M.out.row (by omega)
        rw [ez] at c1
        have c2 : wr.cell? ⟨T, z, none⟩ = some (.bool false) := by rw [cell_of_block M.out.met]; simpa using thr_at hI.out.2 hzn (by omega) ez
        have f2 := row_frz (k := z) M.out.met
        have M2 : Hid (Met w (wr.setCell ⟨T, z, none⟩ (.bool true)) w.heap.size T l (bools (thr n l (k + 1)))) := by
          have := M.out.set z (.bool true)
          rw [thr_step hzn (by omega) ez] at this
          exact this
        have hlt' : (k : Int) < n := by omega
        have hzn' : (z : Int) < n := by omega
        clear hz ez M
        go_wp2_with fail
        go_roundw
        case rel => exact ⟨k + 1, by omega, by go_num, M2⟩
        case measure => simp [intOf]; omega
      · obtain rfl : k = n := by omega
        have KM : Hid (Kep w wr) := M.out.kep
        clear M
        go_wp2_with (go_at_call 11; refine (HW.out _).mono ?_; rintro e w2 ⟨rfl, KW⟩)
        go_ret
        exact ⟨rfl, kep_trans KM.out KW⟩

set_option maxRecDepth 100000 in
theorem lifted (os : Os) (started : os.Started) (H : Type) (enc : TypeId × Value → H) :
    ReturnsInHanded {} Try.checked os 5 .any (Rows.strewOnceSpec.pre6 enc Try.prog Try.f5 Rows.strewOnceRow.domain false) (Rows.strewOnceSpec.post enc Try.prog Try.f5 false true false false) := by
  refine returnsInHanded_of_change (C := Try.checked) own started (by kernel_rfl) Try.func5
    (ChangeSpec.witness6 (enc := enc) (C := Try.checked) false ⟨#[], #[.int .i64 0, .int .u32 0], []⟩ 8 (by kernel_rfl) (by kernel_rfl) (by kernel_rfl) (by kernel_rfl)) ?_
  intro W base args ds gs before hval0 hW hcnd _
  have hval : ∀ (j : Nat) t v, Try.f5.params[j]? = some t → args[j]? = some v → Value.okWide Try.prog W .any base t v := hval0
  have hW' := hW
  obtain ⟨p, q, hA0, hV, rfl, hfz, hnd⟩ := hW
  have hA : DataW.TrodAll enc Try.prog W 0 (fun _ => true) true Try.f5.params.toList args.toList ds p := hA0
  rw [Try.params5] at hA hval
  obtain ⟨v0, vs0, d0, ds0, p0, q0, hargs, rfl, rfl, h0, r0⟩ := trodAll_cons hA
  obtain ⟨v1, vs1, d1, ds1, p1, q1, rfl, rfl, rfl, h1, r1⟩ := trodAll_cons r0
  obtain ⟨rfl, rfl, rfl⟩ := trodAll_nil r1
  obtain rfl : args = #[v0, v1] := by cases args; simp_all
  obtain ⟨rfl, rfl⟩ := trodVars_none hV
  have k0 := h0
  have lt0 : ∀ x ∈ p0, x.block < W.heap.size := by obtain ⟨m, hm⟩ := k0; exact DataW.trod_lt m _ _ _ hm
  obtain ⟨a0, rfl, rfl, rfl, w0⟩ := open_int Try.underlying3 (hval 0 3 v0 rfl rfl) h0
  have k1 := h1
  have lt1 : ∀ x ∈ p1, x.block < W.heap.size := by obtain ⟨m, hm⟩ := k1; exact DataW.trod_lt m _ _ _ hm
  obtain ⟨a1, rfl, rfl, rfl, w1⟩ := open_int Try.underlying22 (hval 1 22 v1 rfl rfl) h1
  clear hA0 hval0
  refine (walk a0 w0 a1 w1 W ).mono fun e W' ⟨he, bel0⟩ => ?_
  have bel : Below W.heap.size W W' := bel0
  subst he
  exact ⟨_, rfl, _, _, _, [], _, [], hW', trodAll_mk1 (shut_bool Try.underlying4 _), (trodAll_cons_mk (Below.trod laidOut (by kernel_rfl) (of_decide_eq_true (by kernel_rfl)) k0 bel lt0) (trodAll_cons_mk (Below.trod laidOut (by kernel_rfl) (of_decide_eq_true (by kernel_rfl)) k1 bel lt1) trodAll_mk0)), rfl, bel.frame _, fun h => by cases h⟩

theorem over : Rows.strewOnceRow.holds Try.pinned (OpenSpec.ofChange Rows.strewOnceSpec) :=
  OpenClaim.holds_of_wide 5 Try.f5 rfl rfl rfl rfl rfl rfl rfl ⟨rfl, rfl, rfl, rfl, rfl⟩ rfl rfl rfl rfl rfl (by kernel_rfl) Try.func5 (by kernel_rfl)
    (of_decide_eq_true (by kernel_rfl)) (by unfold Func.isWrapper; first | (rw [if_pos (by decide +kernel)]; kernel_rfl) | (rw [if_neg (by decide +kernel)]; exact ⟨rfl, rfl⟩))
    (fun os started H enc _ => lifted os started H enc)
end Go.Proofs.Ytmibiboboekniaa.strewOnce
namespace Go.Proofs.Ytmibiboboekniaa

theorem strewOnce_holds : Rows.StrewOnceSaid := strewOnce.over
#print axioms strewOnce_holds
end Go.Proofs.Ytmibiboboekniaa
