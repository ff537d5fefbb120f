/- What the document's own Decode answers. -/
import Derived.Test.YtmmgknchbebbjaaDoorRefda
import Derived.Test.YtmmgknchbebbjaaDoorRefdb
import Derived.Test.YtmmgknchbebbjaaDoorRefdc
import Derived.Test.YtmmgknchbebbjaaDoorRefdd
import Derived.Test.YtmmgknchbebbjaaDoorRefmay
import Derived.Test.YtmmgknchbebbjaaDoorRowin
namespace Go.Proofs.YtmmgknchbebbjaaDoor
open Go.RowKit
set_option linter.unusedVariables false

set_option maxHeartbeats 1000000 in
theorem refdec_empty (x : Option Addr) (cap : Nat) (host : Bool) (w : World) :
    Calls Tryd.prog 5 #[.slice x 0 cap, .bool host] w fun e w' => e = .returned (.tuple #[.agg zeroI, .int .i64 0, .int .i64 20]) ∧ Kep w w' := by
  go_enter Tryd.func5, Tryd.ntmps5
  go_wp2
  go_returns
  exact ⟨rfl, by repeat (first | exact Kep.refl _ | apply Kep.drew | apply Kep.alloc)⟩

set_option maxHeartbeats 2000000 in
theorem rd_none (b off len cap : Nat) (zs : List Int) (host : Bool) (S n R : Int) (A Bx sg : Bool) (w : World) (hS : S = 0 ∧ R = 21 ∨ 0 < S ∧ (len : Int) < S ∧ R = 20) (hlc : (len : Int) ≤ cap) (hlm : (len : Int) ≤ 9223372036854775807) (h1 : (0 : Int) < len) (hbw : b < w.heap.size) (c0 : w.cell? ⟨b, off, none⟩ = some (.int .u8 (zat zs 0)))
    (hO : Hid (∀ w, Calls Tryd.prog 11 #[.int .u8 (zat zs 0), .bool host] w fun e w' => e = .returned (.agg #[.int .i64 S, .bool A, .bool Bx, .int .i64 n, .bool sg]) ∧ Kep w w')) :
    Calls Tryd.prog 5 #[.slice (some ⟨b, off, none⟩) len cap, .bool host] w fun e w' => e = .returned (.tuple #[.agg zeroI, .int .i64 0, .int .i64 R]) ∧ Kep w w' := by
  have hl0 : ((len : Int) == 0) = false := by rw [beq_eq_false_iff_ne]; omega
  rcases hS with ⟨rfl, rfl⟩ | ⟨hS, hl, rfl⟩
  all_goals
    try have hS0 : (S == 0) = false := by rw [beq_eq_false_iff_ne]; omega
    go_enter Tryd.func5, Tryd.ntmps5
    go_wp2_with fail
    refine (hO.out _).mono ?_
    rintro e w1 ⟨rfl, g1⟩
    have K1 : Hid (Kep w w1) := kep_trans ((Kep.refl _).alloc _) g1
    have hs1 : w.heap.size < w1.heap.size := g1.lt (by simp)
    have Q1 : Hid (∀ o, (w1.alloc o).heap[w.heap.size]? = some (.cells zeroI 24 (0, 0))) := fun o => (heap_skip _ _ _ hs1).trans (g1.block (heap_alloc_new _ _))
    have x0 : ∀ o, (w1.alloc o).cell? ⟨w.heap.size, 0, none⟩ = some (.int .u8 0) := fun o => cell_of_block (Q1.out o)
    have x1 : ∀ o, (w1.alloc o).cell? ⟨w.heap.size, 1, none⟩ = some (.int .u8 0) := fun o => cell_of_block (Q1.out o)
    have x2 : ∀ o, (w1.alloc o).cell? ⟨w.heap.size, 2, none⟩ = some (.int .u8 0) := fun o => cell_of_block (Q1.out o)
    have x3 : ∀ o, (w1.alloc o).cell? ⟨w.heap.size, 3, none⟩ = some (.int .i32 0) := fun o => cell_of_block (Q1.out o)
    clear g1
    go_wp2_with (refine wpList_store_row rfl 24 _ _ rfl w.heap.size zeroI rfl rfl 24 _ (Q1.out _) sizeIns rfl (ins_one _ _ _ _) ?_)
    try simp only [Exit.inBlock, Exit.then]
    refine bodyPost_ret (results3 rfl _ _ w.heap.size 24 zeroI (0, 0) _ rfl (setRow_heap _ _ _ _ _ _ (Q1.out _)) Tryd.underlying24 rfl sizeIns) rfl ⟨rfl, ?_⟩
    exact (K1.out.alloc _).setRow _ _ (Nat.le_refl _)

theorem ok_may (r : Nat) (hr : r < 10) (hz : r ≠ 0) (zs : List Int) (len : Nat) (hf : ∀ n ∈ zs, 0 ≤ n ∧ n < 256) (hl : sz r ≤ len) : okD r zs len = mayB r (aOf r zs) (bOf r zs) (immOf r zs) := by
  obtain ⟨h1, h2⟩ := immOf_range hf r hr
  have e1 : decide (sz r ≤ (len : Int)) = true := by simpa using hl
  have e2 : decide (lo r ≤ immOf r zs) = true := by simpa using h1
  have e3 : decide (immOf r zs ≤ hi r) = true := by simpa using h2
  unfold okD mayB
  rw [e1, e2, e3]
  simp

theorem im_1 (zs : List Int) : immOf 1 zs = 0 := by
  have e : rawOf 1 zs = 0 := by
    show rawL zs 1 0 = _
    simp [rawL]
  have h1 : hi 1 = 0 := rfl
  have h2 : lo 1 = 0 := rfl
  unfold immOf
  rw [e, h1, h2]
  split <;> omega
theorem im_2 (zs : List Int) : immOf 2 zs = 0 := by
  have e : rawOf 2 zs = 0 := by
    show rawL zs 2 0 = _
    simp [rawL]
  have h1 : hi 2 = 0 := rfl
  have h2 : lo 2 = 0 := rfl
  unfold immOf
  rw [e, h1, h2]
  split <;> omega
theorem im_3 (zs : List Int) : immOf 3 zs = 0 := by
  have e : rawOf 3 zs = 0 := by
    show rawL zs 2 0 = _
    simp [rawL]
  have h1 : hi 3 = 0 := rfl
  have h2 : lo 3 = 0 := rfl
  unfold immOf
  rw [e, h1, h2]
  split <;> omega
theorem im_4 (zs : List Int) : immOf 4 zs = 1 * zat zs 1 := by
  have e : rawOf 4 zs = 1 * zat zs 1 := by
    show rawL zs 1 1 = _
    simp [rawL] <;> omega
  have h1 : hi 4 = 255 := rfl
  have h2 : lo 4 = 0 := rfl
  unfold immOf
  rw [e, h1, h2]
  split <;> omega
theorem im_5 (zs : List Int) : (128 ≤ 1 * zat zs 2 ∧ immOf 5 zs = 1 * zat zs 2 - 256 ∨ 1 * zat zs 2 < 128 ∧ immOf 5 zs = 1 * zat zs 2) := by
  have e : rawOf 5 zs = 1 * zat zs 2 := by
    show rawL zs 2 1 = _
    simp [rawL] <;> omega
  have h1 : hi 5 = 127 := rfl
  have h2 : lo 5 = -128 := rfl
  unfold immOf
  rw [e, h1, h2]
  split <;> omega
theorem im_6 (zs : List Int) : (128 ≤ 1 * zat zs 2 ∧ immOf 6 zs = 1 * zat zs 2 - 256 ∨ 1 * zat zs 2 < 128 ∧ immOf 6 zs = 1 * zat zs 2) := by
  have e : rawOf 6 zs = 1 * zat zs 2 := by
    show rawL zs 2 1 = _
    simp [rawL] <;> omega
  have h1 : hi 6 = 127 := rfl
  have h2 : lo 6 = -128 := rfl
  unfold immOf
  rw [e, h1, h2]
  split <;> omega
theorem im_7 (zs : List Int) : (32768 ≤ 1 * zat zs 1 + 256 * zat zs 2 ∧ immOf 7 zs = 1 * zat zs 1 + 256 * zat zs 2 - 65536 ∨ 1 * zat zs 1 + 256 * zat zs 2 < 32768 ∧ immOf 7 zs = 1 * zat zs 1 + 256 * zat zs 2) := by
  have e : rawOf 7 zs = 1 * zat zs 1 + 256 * zat zs 2 := by
    show rawL zs 1 2 = _
    simp [rawL] <;> omega
  have h1 : hi 7 = 32767 := rfl
  have h2 : lo 7 = -32768 := rfl
  unfold immOf
  rw [e, h1, h2]
  split <;> omega
theorem im_8 (zs : List Int) : immOf 8 zs = 1 * zat zs 1 + 256 * zat zs 2 := by
  have e : rawOf 8 zs = 1 * zat zs 1 + 256 * zat zs 2 := by
    show rawL zs 1 2 = _
    simp [rawL] <;> omega
  have h1 : hi 8 = 65535 := rfl
  have h2 : lo 8 = 0 := rfl
  unfold immOf
  rw [e, h1, h2]
  split <;> omega
theorem im_9 (zs : List Int) : (2147483648 ≤ 1 * zat zs 2 + 256 * zat zs 3 + 65536 * zat zs 4 + 16777216 * zat zs 5 ∧ immOf 9 zs = 1 * zat zs 2 + 256 * zat zs 3 + 65536 * zat zs 4 + 16777216 * zat zs 5 - 4294967296 ∨ 1 * zat zs 2 + 256 * zat zs 3 + 65536 * zat zs 4 + 16777216 * zat zs 5 < 2147483648 ∧ immOf 9 zs = 1 * zat zs 2 + 256 * zat zs 3 + 65536 * zat zs 4 + 16777216 * zat zs 5) := by
  have e : rawOf 9 zs = 1 * zat zs 2 + 256 * zat zs 3 + 65536 * zat zs 4 + 16777216 * zat zs 5 := by
    show rawL zs 2 4 = _
    simp [rawL] <;> omega
  have h1 : hi 9 = 2147483647 := rfl
  have h2 : lo 9 = -2147483648 := rfl
  unfold immOf
  rw [e, h1, h2]
  split <;> omega

set_option maxHeartbeats 1000000 in
theorem refdec_any (b off len cap : Nat) (zs : List Int) (host : Bool) (r : Nat) (hrow : rowOf (zat zs 0) host = r) (w : World) (h0 : 0 < len) (hB : Bytes w b off len cap zs) :
    Calls Tryd.prog 5 #[.slice (some ⟨b, off, none⟩) len cap, .bool host] w fun e w' => e = .returned (.tuple #[.agg (insD r zs len), .int .i64 (numD r zs len), .int .i64 (errD r zs len)]) ∧ Kep w w' := by
  have hr := hrow ▸ rowOf_lt (zat zs 0) host
  have hlc : (len : Int) ≤ cap := by have := hB.le; omega
  have hlm : (len : Int) ≤ 9223372036854775807 := by have h1 := hB.le; have h2 := hB.max; unfold maxLen at h2; omega
  have h1 : (0 : Int) < len := by omega
  have c0 : w.cell? ⟨b, off, none⟩ = some (.int .u8 (zat zs 0)) := hB.cell 0 h0
  have hO : Hid (∀ w, Calls Tryd.prog 11 #[.int .u8 (zat zs 0), .bool host] w fun e w' => e = .returned (.agg (rformA r)) ∧ Kep w w') := fun w => by
    have h := refOf_any (zat zs 0) host w
    rw [hrow] at h
    exact h
  by_cases hz : r = 0
  · subst hz
    have e1 : okD 0 zs len = false := rfl
    have e2 : insD 0 zs len = zeroI := rfl
    have e3 : numD 0 zs len = 0 := rfl
    have e4 : errD 0 zs len = 21 := rfl
    rw [e2, e3, e4]
    exact rd_none b off len cap zs host 0 _ 21 _ _ _ w (.inl ⟨rfl, rfl⟩) hlc hlm h1 hB.lt c0 hO
  by_cases hl : (len : Int) < sz r
  · have e1 : okD r zs len = false := by
      unfold okD
      have : decide (sz r ≤ (len : Int)) = false := by rw [decide_eq_false_iff_not]; omega
      rw [this]; simp
    have e2 : insD r zs len = zeroI := by unfold insD; rw [e1]; rfl
    have e3 : numD r zs len = 0 := by unfold numD; rw [e1]; rfl
    have e4 : errD r zs len = 20 := by unfold errD; rw [if_neg hz, if_pos hl]
    rw [e2, e3, e4]
    exact rd_none b off len cap zs host (sz r) _ 20 _ _ _ w (.inr ⟨by omega, hl, rfl⟩) hlc hlm h1 hB.lt c0 hO
  · have hl' : sz r ≤ (len : Int) := by omega
    have hok := ok_may r hr hz zs len hB.fit hl'
    have hab := ab_range hB.fit r
    have him := immOf_range hB.fit r hr
    obtain ⟨_, _, _, _, hq5, hq6⟩ := raw_hi r hr
    generalize hm : mayB r (aOf r zs) (bOf r zs) (immOf r zs) = m at hok
    have hM : Hid (∀ a b imm w, a = aOf r zs → b = bOf r zs → imm = immOf r zs → Calls Tryd.prog 12 #[.agg (insA (zat zs 0) a b imm), .bool host] w fun e w' => e = .returned (.bool m) ∧ Kep w w') := fun a b imm w ea eb ei => by
      have h := refMay_any (zat zs 0) a b imm host w (by omega) (by omega) (by omega) (by omega)
      rw [hrow, ea, eb, ei, hm] at h
      rw [ea, eb, ei]
      exact h
    have e2 : insD r zs len = insM m (zat zs 0) (aOf r zs) (bOf r zs) (immOf r zs) := by unfold insD; rw [hok]
    have e3 : numD r zs len = if m then sz r else 0 := by unfold numD; rw [hok]
    have e4 : errD r zs len = if m then 0 else 21 := by unfold errD; rw [if_neg hz, if_neg hl, hok]
    rw [e2, e3, e4]
    have cs : ∀ i : Nat, (i : Int) < sz r → w.cell? ⟨b, off + i, none⟩ = some (.int .u8 (zat zs i)) := fun i hi => hB.cell i (by omega)
    have zr := fun i => zat_range hB.fit i
    clear hok hm hab him hq5 hq6 e2 e3 e4 h0
    rcases (by omega : r = 1 ∨ r = 2 ∨ r = 3 ∨ r = 4 ∨ r = 5 ∨ r = 6 ∨ r = 7 ∨ r = 8 ∨ r = 9) with rfl | rfl | rfl | rfl | rfl | rfl | rfl | rfl | rfl
    · exact rd_1 b off len cap zs host _ _ _ m w hl' hlc hlm h1 hB.lt c0 (zr 0).1 (zr 0).2 rfl rfl (im_1 zs) hO hM
    · exact rd_2 b off len cap zs host _ _ _ m w hl' hlc hlm h1 hB.lt c0 (cs 1 (by decide)) (zr 0).1 (zr 0).2 (zr 1).1 (zr 1).2 rfl rfl (im_2 zs) hO hM
    · exact rd_3 b off len cap zs host _ _ _ m w hl' hlc hlm h1 hB.lt c0 (cs 1 (by decide)) (zr 0).1 (zr 0).2 (zr 1).1 (zr 1).2 rfl rfl (im_3 zs) hO hM
    · exact rd_4 b off len cap zs host _ _ _ m w hl' hlc hlm h1 hB.lt c0 (cs 1 (by decide)) (zr 0).1 (zr 0).2 (zr 1).1 (zr 1).2 rfl rfl (im_4 zs) hO hM
    · exact rd_5 b off len cap zs host _ _ _ m w hl' hlc hlm h1 hB.lt c0 (cs 1 (by decide)) (cs 2 (by decide)) (zr 0).1 (zr 0).2 (zr 1).1 (zr 1).2 (zr 2).1 (zr 2).2 rfl rfl (im_5 zs) hO hM
    · exact rd_6 b off len cap zs host _ _ _ m w hl' hlc hlm h1 hB.lt c0 (cs 1 (by decide)) (cs 2 (by decide)) (zr 0).1 (zr 0).2 (zr 1).1 (zr 1).2 (zr 2).1 (zr 2).2 rfl rfl (im_6 zs) hO hM
    · exact rd_7 b off len cap zs host _ _ _ m w hl' hlc hlm h1 hB.lt c0 (cs 1 (by decide)) (cs 2 (by decide)) (zr 0).1 (zr 0).2 (zr 1).1 (zr 1).2 (zr 2).1 (zr 2).2 rfl rfl (im_7 zs) hO hM
    · exact rd_8 b off len cap zs host _ _ _ m w hl' hlc hlm h1 hB.lt c0 (cs 1 (by decide)) (cs 2 (by decide)) (zr 0).1 (zr 0).2 (zr 1).1 (zr 1).2 (zr 2).1 (zr 2).2 rfl rfl (im_8 zs) hO hM
    · exact rd_9 b off len cap zs host _ _ _ m w hl' hlc hlm h1 hB.lt c0 (cs 1 (by decide)) (cs 2 (by decide)) (cs 3 (by decide)) (cs 4 (by decide)) (cs 5 (by decide)) (zr 0).1 (zr 0).2 (zr 1).1 (zr 1).2 (zr 2).1 (zr 2).2 (zr 3).1 (zr 3).2 (zr 4).1 (zr 4).2 (zr 5).1 (zr 5).2 rfl rfl (im_9 zs) hO hM
end Go.Proofs.YtmmgknchbebbjaaDoor
