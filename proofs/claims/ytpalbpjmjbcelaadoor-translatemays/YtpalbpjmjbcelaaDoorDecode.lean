/- What Decode answers: the instruction with which bytes begin, or why there is none. -/
import Derived.Test.YtpalbpjmjbcelaaDoorDec
import Derived.Deep.RegionWith
namespace Go.Proofs.YtpalbpjmjbcelaaDoor
open Go.RowKit
set_option linter.unusedVariables false

/-- A row of bytes that is there: the first 'len' cells from ⟨b, off⟩ on. -/
structure Bytes (w : World) (b off len cap : Nat) (zs : List Int) : Prop where
  le : len ≤ cap
  max : cap ≤ maxLen
  cell : ∀ i, i < len → w.cell? ⟨b, off + i, none⟩ = some (.int .u8 (zat zs i))
  fit : ∀ n ∈ zs, 0 ≤ n ∧ n < 256
  lt : b < w.heap.size
theorem Bytes.kep {w w' : World} {b off len cap : Nat} {zs : List Int} (h : Bytes w b off len cap zs) (k : Kep w w') : Bytes w' b off len cap zs :=
  ⟨h.le, h.max, fun i hi => (k.cell h.lt).trans (h.cell i hi), h.fit, k.lt h.lt⟩

abbrev zeroI : Array Value := #[.int .u8 0, .int .u8 0, .int .u8 0, .int .i32 0]
def okD (r : Nat) (zs : List Int) (len : Nat) : Bool := r != 0 && (decide (sz r ≤ len) && (decide (aOf r zs ≤ f1 r) && decide (bOf r zs ≤ f2 r)))
def errD (r : Nat) (zs : List Int) (len : Nat) : Int := if r = 0 then 21 else if (len : Int) < sz r then 20 else if okD r zs len then 0 else 21
def insD (r : Nat) (zs : List Int) (len : Nat) : Array Value := if okD r zs len then insA (zat zs 0) (aOf r zs) (bOf r zs) (immOf r zs) else zeroI
def numD (r : Nat) (zs : List Int) (len : Nat) : Int := if okD r zs len then sz r else 0

set_option maxHeartbeats 1000000 in
theorem dec_empty (x : Option Addr) (cap : Nat) (host : Bool) (w : World) :
    Calls Tryd.prog 14 #[.slice x 0 cap, .bool host] w fun e w' => e = .returned (.tuple #[.agg zeroI, .int .i64 0, .int .i64 20]) ∧ Kep w w' := by
  go_enter Tryd.func14, Tryd.ntmps14
  go_wp2
  go_returns
  exact ⟨rfl, by repeat (first | exact Kep.refl _ | apply Kep.drew | apply Kep.alloc)⟩

theorem set4 {W : World} {g : Nat} {t : TypeId} {a b c d a' b' c' d' : Value} (h : W.heap[g]? = some (.cells #[a, b, c, d] t (0, 0))) :
    (((((W.setCell ⟨g, 0, none⟩ a').setCell ⟨g, 1, none⟩ b').setCell ⟨g, 2, none⟩ c').setCell ⟨g, 3, none⟩ d').drew).heap[g]? = some (.cells #[a', b', c', d'] t (0, 0)) := by
  have h1 := heap_setCell_same W g 0 _ _ a' h
  have h2 := heap_setCell_same _ g 1 _ _ b' h1
  have h3 := heap_setCell_same _ g 2 _ _ c' h2
  have h4 := heap_setCell_same _ g 3 _ _ d' h3
  exact h4
theorem frozen_old {w : World} {o : Obj} {b i : Nat} (h : b < w.heap.size) : (w.alloc o).frozen? ⟨b, i, none⟩ = w.frozen? ⟨b, i, none⟩ := World.frozen?_of_block (a := ⟨b, i, none⟩) (heap_skip _ _ _ h)
theorem results3 {P : Program} {fn : Func} {p u v : Tmp} {ty : TypeId} (h : fn.results = #[.cell p ty, .tmp u, .tmp v]) (tmps : Array Value) (w : World) (g : Nat) (t : TypeId) (cs : Array Value) (fr : Nat × Nat) (d : TypeDesc)
    (hp : tmps.getD p undef = .pointer (some ⟨g, 0, none⟩)) (hg : w.heap[g]? = some (.cells cs t fr))
    (hu : P.underlying ty = some d) (hd : (match d with | .struct _ | .array _ _ => true | _ => false) = true) (hi : (P.info? ty).map (·.size) = some cs.size) :
    (results fn tmps).run P w = .ok (.tuple #[.agg cs, tmps.getD u undef, tmps.getD v undef]) w := by
  have hp' : tmps[p]?.getD undef = .pointer (some ⟨g, 0, none⟩) := by simpa using hp
  simp [results, h, hp', asAddr, run_loadVar_row w g t ty cs fr d hg hu hd hi]

set_option maxHeartbeats 4000000 in
set_option maxRecDepth 100000 in
theorem decode_any (b off len cap : Nat) (zs : List Int) (host : Bool) (r : Nat) (hrow : rowOf (zat zs 0) host = r) (w : World) (h0 : 0 < len) (hB : Bytes w b off len cap zs) (hT : Tabs w) :
    Calls Tryd.prog 14 #[.slice (some ⟨b, off, none⟩) len cap, .bool host] w fun e w' => e = .returned (.tuple #[.agg (insD r zs len), .int .i64 (numD r zs len), .int .i64 (errD r zs len)]) ∧ Kep w w' := by
  have hr := hrow ▸ rowOf_lt (zat zs 0) host
  have hz0 := zat_range hB.fit 0
  have hc0 : w.cell? ⟨b, off, none⟩ = some (.int .u8 (zat zs 0)) := hB.cell 0 h0
  have h0' : (0 : Int) < len := by omega
  have hlm : (len : Int) ≤ 9223372036854775807 := by have h1 := hB.le; have h2 := hB.max; unfold maxLen at h2; omega
  have hbw := hB.lt
  have hl0 : ((len : Int) == 0) = false := by rw [beq_eq_false_iff_ne]; omega
  have hmf : ∀ (fn : Fn) (first cap : Array Value) (w : World), (Instr.makeFunc fn first cap).run Tryd.prog w = .ok (.func fn first cap) w := fun _ _ _ _ => rfl
  have hB' : Hid (Bytes w b off len cap zs) := hB
  have hT' : Hid (Tabs w) := hT
  clear hB hT
  go_enter Tryd.func14, Tryd.ntmps14
  go_wp2_with fail
  refine (formOf_any (zat zs 0) host _ hz0.1 hz0.2 (hT'.grown ((Kep.refl _).alloc _))).mono ?_
  rintro e w1 ⟨rfl, g1⟩
  rw [hrow]
  have G1 : Hid (Kep w w1) := kep_trans ((Kep.refl _).alloc _) g1
  have bQ : w1.heap[w.heap.size]? = some (.cells zeroI 43 (0, 0)) := g1.block (heap_at _ _ _ rfl)
  have z1 : w.heap.size < w1.heap.size := g1.lt (by simp)
  have zb : b < w1.heap.size := by omega
  have hT1 := hT'.grown G1
  have zz : 0 < w1.heap.size := by have := tabs_size hT1; omega
  obtain ⟨q0, q1, q2, q3, q4⟩ := hT1.form0
  have he := form_eq r hr
  unfold formA at he
  have bQ' : Hid (w1.heap[w.heap.size]? = some (.cells zeroI 43 (0, 0))) := bQ
  clear g1 hT1 bQ
  unfold formA
  by_cases hz : r = 0
  · subst hz
    have hz' : ((0 : Nat) == 0) = true := rfl
    rw [hz'] at he
    have hrowQ : ∀ o, (w1.alloc o).heap[w.heap.size]? = some (.cells zeroI 43 (0, 0)) := fun o => (heap_skip _ _ _ z1).trans bQ'
    go_wp2_with (refine wpList_store_row rfl 43 _ _ rfl w.heap.size zeroI rfl rfl 43 _ (hrowQ _) sizeIns rfl (ins_one _ _ _ _) ?_)
    try simp only [Exit.inBlock, Exit.then]
    refine bodyPost_ret (results3 rfl _ _ w.heap.size 43 zeroI (0, 0) _ rfl (setRow_heap _ _ _ _ _ _ (hrowQ _)) Tryd.underlying43 rfl sizeIns) rfl ⟨rfl, ?_⟩
    exact (G1.alloc _).setRow _ _ (Nat.le_refl _)
  · have hz' : (r == 0) = false := by simpa using hz
    rw [hz'] at he
    have hsz := size_any r hr
    have hok : Hid (okD r zs len = (decide (sz r ≤ len) && (decide (aOf r zs ≤ f1 r) && decide (bOf r zs ≤ f2 r)))) := by unfold Hid okD; simp [hz]
    have herr : Hid (errD r zs len = if (len : Int) < sz r then 20 else if okD r zs len then 0 else 21) := by unfold Hid errD; rw [if_neg hz]
    go_wp2_with fail
    refine (hsz _).mono ?_
    rintro e w2 ⟨rfl, rfl⟩
    unfold formA
    by_cases hlen : (len : Int) < sz r
    · have hrowQ : ∀ o1 o2 o3, (((w1.alloc o1).alloc o2).alloc o3).heap[w.heap.size]? = some (.cells zeroI 43 (0, 0)) := fun o1 o2 o3 => (heap_skip _ _ _ (by simp; omega)).trans ((heap_skip _ _ _ (by simp; omega)).trans ((heap_skip _ _ _ z1).trans bQ'))
      have hno : okD r zs len = false := by rw [hok.out]; simp; intro h; omega
      clear he hsz
      go_wp2_with (refine wpList_store_row rfl 43 _ _ rfl w.heap.size zeroI rfl rfl 43 _ (hrowQ _ _ _) sizeIns rfl (ins_one _ _ _ _) ?_)
      try simp only [Exit.inBlock, Exit.then]
      refine bodyPost_ret (results3 rfl _ _ w.heap.size 43 zeroI (0, 0) _ rfl (setRow_heap _ _ _ _ _ _ (hrowQ _ _ _)) Tryd.underlying43 rfl sizeIns) rfl ⟨?_, ?_⟩
      · rw [herr.out, if_pos hlen]; unfold insD numD; rw [hno]; rfl
      · exact (((G1.alloc _).alloc _).alloc _).setRow _ _ (Nat.le_refl _)
    · have hlen' : sz r ≤ (len : Int) := by omega
      go_wp2_with fail
      have K4 : Hid (∀ o1 o2 o3 o4, Kep w ((((w1.alloc o1).alloc o2).alloc o3).alloc o4)) := fun o1 o2 o3 o4 => (((G1.alloc _).alloc _).alloc _).alloc _
      refine (read_any r hr hz (w1.heap.size + 1 + 1 + 1) b off len cap zs _ (by omega) (by simp; omega) hB'.le hB'.max hlen' (fun i hi => ((K4.out _ _ _ _).cell hbw).trans (hB'.cell i hi)) hB'.fit ⟨some ⟨b, off, none⟩, heap_at _ _ _ (by simp), fun _ => rfl⟩).mono ?_
      rintro e w5 ⟨rfl, g5⟩
      have bQ5 : w5.heap[w.heap.size]? = some (.cells zeroI 43 (0, 0)) := gb_block g5 ((heap_skip _ _ _ (by simp; omega)).trans ((heap_skip _ _ _ (by simp; omega)).trans ((heap_skip _ _ _ (by simp; omega)).trans ((heap_skip _ _ _ z1).trans bQ')))) (by omega)
      have bF5 : w5.heap[w1.heap.size]? = some (.cells (formA r) 75 (0, 0)) := gb_block g5 ((heap_skip _ _ _ (by simp; omega)).trans ((heap_skip _ _ _ (by simp; omega)).trans ((heap_skip _ _ _ (by simp)).trans (heap_at _ _ _ rfl)))) (by omega)
      have z5 : w1.heap.size < w5.heap.size := Nat.lt_of_lt_of_le (by simp; omega) g5.size
      have z5' : w.heap.size < w5.heap.size := by omega
      have K5 : Hid (Kep w w5) := (K4.out _ _ _ _).by g5 (by intro k hk; simp at hk; omega)
      have c0 : w5.cell? ⟨w1.heap.size, 0, none⟩ = some (.int .u8 (f0 r)) := cell_of_block bF5
      have c1 : w5.cell? ⟨w1.heap.size, 1, none⟩ = some (.int .u8 (f1 r)) := cell_of_block bF5
      have c2 : w5.cell? ⟨w1.heap.size, 2, none⟩ = some (.int .u8 (f2 r)) := cell_of_block bF5
      have c3 : w5.cell? ⟨w1.heap.size, 3, none⟩ = some (.int .u8 (f3 r)) := cell_of_block bF5
      have c4 : w5.cell? ⟨w1.heap.size, 4, none⟩ = some (.int .u8 (f4 r)) := cell_of_block bF5
      have bQ5' : Hid (w5.heap[w.heap.size]? = some (.cells zeroI 43 (0, 0))) := bQ5
      clear q0 q1 q2 q3 q4 he bF5 g5 hrow hc0 zb zz hl0 h0' hlm bQ' z1 hmf hz'
      by_cases hgood : okD r zs len = true
      · have hg2 := hgood
        rw [hok.out] at hg2
        simp only [Bool.and_eq_true, decide_eq_true_eq] at hg2
        have ta : decide (aOf r zs > f1 r) = false := by rw [decide_eq_false_iff_not]; omega
        have tb : decide (bOf r zs > f2 r) = false := by rw [decide_eq_false_iff_not]; omega
        have x0 : w5.cell? ⟨w.heap.size, 0, none⟩ = some (.int .u8 0) := cell_of_block bQ5
        have x1 : w5.cell? ⟨w.heap.size, 1, none⟩ = some (.int .u8 0) := cell_of_block bQ5
        have x2 : w5.cell? ⟨w.heap.size, 2, none⟩ = some (.int .u8 0) := cell_of_block bQ5
        have x3 : w5.cell? ⟨w.heap.size, 3, none⟩ = some (.int .i32 0) := cell_of_block bQ5
        have y0 : w5.frozen? ⟨w.heap.size, 0, none⟩ = false := frozen_of_row _ _ _ _ _ bQ5
        have y1 : w5.frozen? ⟨w.heap.size, 1, none⟩ = false := frozen_of_row _ _ _ _ _ bQ5
        have y2 : w5.frozen? ⟨w.heap.size, 2, none⟩ = false := frozen_of_row _ _ _ _ _ bQ5
        have y3 : w5.frozen? ⟨w.heap.size, 3, none⟩ = false := frozen_of_row _ _ _ _ _ bQ5
        have x0a : ∀ o1, (w5.alloc o1).cell? ⟨w.heap.size, 0, none⟩ = some (.int .u8 0) := fun _ => (cell_old z5').trans x0
        have x0b : ∀ o1 o2 o3, (((w5.alloc o1).alloc o2).alloc o3).cell? ⟨w.heap.size, 0, none⟩ = some (.int .u8 0) := fun _ _ _ => (cell_old (by simp; omega)).trans ((cell_old (by simp; omega)).trans (x0a _))
        have y0a : ∀ o1, (w5.alloc o1).frozen? ⟨w.heap.size, 0, none⟩ = false := fun _ => (frozen_old z5').trans y0
        have y0b : ∀ o1 o2 o3, (((w5.alloc o1).alloc o2).alloc o3).frozen? ⟨w.heap.size, 0, none⟩ = false := fun _ _ _ => (frozen_old (by simp; omega)).trans ((frozen_old (by simp; omega)).trans (y0a _))
        have x1a : ∀ o1, (w5.alloc o1).cell? ⟨w.heap.size, 1, none⟩ = some (.int .u8 0) := fun _ => (cell_old z5').trans x1
        have x1b : ∀ o1 o2 o3, (((w5.alloc o1).alloc o2).alloc o3).cell? ⟨w.heap.size, 1, none⟩ = some (.int .u8 0) := fun _ _ _ => (cell_old (by simp; omega)).trans ((cell_old (by simp; omega)).trans (x1a _))
        have y1a : ∀ o1, (w5.alloc o1).frozen? ⟨w.heap.size, 1, none⟩ = false := fun _ => (frozen_old z5').trans y1
        have y1b : ∀ o1 o2 o3, (((w5.alloc o1).alloc o2).alloc o3).frozen? ⟨w.heap.size, 1, none⟩ = false := fun _ _ _ => (frozen_old (by simp; omega)).trans ((frozen_old (by simp; omega)).trans (y1a _))
        have x2a : ∀ o1, (w5.alloc o1).cell? ⟨w.heap.size, 2, none⟩ = some (.int .u8 0) := fun _ => (cell_old z5').trans x2
        have x2b : ∀ o1 o2 o3, (((w5.alloc o1).alloc o2).alloc o3).cell? ⟨w.heap.size, 2, none⟩ = some (.int .u8 0) := fun _ _ _ => (cell_old (by simp; omega)).trans ((cell_old (by simp; omega)).trans (x2a _))
        have y2a : ∀ o1, (w5.alloc o1).frozen? ⟨w.heap.size, 2, none⟩ = false := fun _ => (frozen_old z5').trans y2
        have y2b : ∀ o1 o2 o3, (((w5.alloc o1).alloc o2).alloc o3).frozen? ⟨w.heap.size, 2, none⟩ = false := fun _ _ _ => (frozen_old (by simp; omega)).trans ((frozen_old (by simp; omega)).trans (y2a _))
        have x3a : ∀ o1, (w5.alloc o1).cell? ⟨w.heap.size, 3, none⟩ = some (.int .i32 0) := fun _ => (cell_old z5').trans x3
        have x3b : ∀ o1 o2 o3, (((w5.alloc o1).alloc o2).alloc o3).cell? ⟨w.heap.size, 3, none⟩ = some (.int .i32 0) := fun _ _ _ => (cell_old (by simp; omega)).trans ((cell_old (by simp; omega)).trans (x3a _))
        have y3a : ∀ o1, (w5.alloc o1).frozen? ⟨w.heap.size, 3, none⟩ = false := fun _ => (frozen_old z5').trans y3
        have y3b : ∀ o1 o2 o3, (((w5.alloc o1).alloc o2).alloc o3).frozen? ⟨w.heap.size, 3, none⟩ = false := fun _ _ _ => (frozen_old (by simp; omega)).trans ((frozen_old (by simp; omega)).trans (y3a _))
        have hQ : Hid (∀ o1 o2 o3, (((w5.alloc o1).alloc o2).alloc o3).heap[w.heap.size]? = some (.cells zeroI 43 (0, 0))) := fun o1 o2 o3 => (heap_skip _ _ _ (by simp; omega)).trans ((heap_skip _ _ _ (by simp; omega)).trans ((heap_skip _ _ _ z5').trans bQ5'))
        clear bQ5 x0 x1 x2 x3 y0 y1 y2 y3
        unfold formA at hsz
        go_wp2_with fail
        go_region_with (go_at_call 29; refine (hsz _).mono ?_; rintro e w' ⟨rfl, rfl⟩)
        all_goals
          go_wp2_with fail
          try simp only [Exit.inBlock, Exit.then]
          refine bodyPost_ret (results3 rfl _ _ w.heap.size 43 (insA (zat zs 0) (aOf r zs) (bOf r zs) (immOf r zs)) (0, 0) _ rfl (set4 (hQ.out _ _ _)) Tryd.underlying43 rfl sizeIns) rfl ⟨?_, ?_⟩
          · rw [herr.out, if_neg (by omega)]; unfold insD numD; rw [hgood]; rfl
          · exact (((((((K5.alloc _).alloc _).alloc _).setCell (Nat.le_refl _) _).setCell (Nat.le_refl _) _).setCell (Nat.le_refl _) _).setCell (Nat.le_refl _) _).drew
      · have hno : okD r zs len = false := by simpa using hgood
        have hrowQ : ∀ o1, (w5.alloc o1).heap[w.heap.size]? = some (.cells zeroI 43 (0, 0)) := fun o1 => (heap_skip _ _ _ z5').trans bQ5'
        have hbad : Hid (f1 r < aOf r zs ∨ f2 r < bOf r zs) := by
          have h := hno
          rw [hok.out] at h
          simp only [Bool.and_eq_false_iff, decide_eq_false_iff_not] at h
          show f1 r < aOf r zs ∨ f2 r < bOf r zs
          omega
        clear bQ5 hsz
        go_wp2_with (refine wpList_store_row rfl 43 _ _ rfl w.heap.size zeroI rfl rfl 43 _ (hrowQ _) sizeIns rfl (ins_one _ _ _ _) ?_)
        all_goals first
          | (exfalso; have := hbad.out; omega)
          | (try simp only [Exit.inBlock, Exit.then]
             refine bodyPost_ret (results3 rfl _ _ w.heap.size 43 zeroI (0, 0) _ rfl (setRow_heap _ _ _ _ _ _ (hrowQ _)) Tryd.underlying43 rfl sizeIns) rfl ⟨?_, ?_⟩
             · rw [herr.out, if_neg (by omega)]; unfold insD numD; rw [hno]; rfl
             · exact (K5.alloc _).setRow _ _ (Nat.le_refl _))
end Go.Proofs.YtpalbpjmjbcelaaDoor
