/- Part of a proof. -/
import Derived.Test.YthimfiihebdchaaDoorJ14
namespace Go.Proofs.YthimfiihebdchaaDoor
open Go.RowKit
set_option linter.unusedVariables false
set_option linter.unusedSimpArgs false
theorem At.cr {w : World} {p : Nat} {s : Sta} (h : At w p s) : w.cell? ⟨p, 10, none⟩ = some (.int .u32 (s.c 0)) ∧ w.cell? ⟨p, 11, none⟩ = some (.int .u32 (s.c 1)) ∧ w.cell? ⟨p, 12, none⟩ = some (.int .u32 (s.c 2)) ∧ w.cell? ⟨p, 13, none⟩ = some (.int .u32 (s.c 3)) ∧
    w.cell? ⟨p, 14, none⟩ = some (.int .u32 (s.c 4)) ∧ w.cell? ⟨p, 15, none⟩ = some (.int .u32 (s.c 5)) ∧ w.cell? ⟨p, 16, none⟩ = some (.int .u32 (s.c 6)) ∧ w.cell? ⟨p, 17, none⟩ = some (.int .u32 (s.c 7)) ∧ w.cell? ⟨p, 18, none⟩ = some (.bool s.h) :=
  ⟨cell_of_block h, cell_of_block h, cell_of_block h, cell_of_block h, cell_of_block h, cell_of_block h, cell_of_block h, cell_of_block h, cell_of_block h⟩
theorem up_off (r : Nat → Int) (a n : Nat) (x : Int) (h : n ≠ a) : up r a x n = r n := by unfold up; rw [if_neg h]
theorem cr_same (s : Sta) (w : World) : (Op.equalIn 10000 23 (.agg #[.int .u32 (s.c 0), .int .u32 (s.c 1), .int .u32 (s.c 2), .int .u32 (s.c 3), .int .u32 (s.c 4), .int .u32 (s.c 5), .int .u32 (s.c 6), .int .u32 (s.c 7)]) (.agg #[.int .u32 (s.c 0), .int .u32 (s.c 1), .int .u32 (s.c 2), .int .u32 (s.c 3), .int .u32 (s.c 4), .int .u32 (s.c 5), .int .u32 (s.c 6), .int .u32 (s.c 7)])).run Tryd.prog w = .ok true w := by
  obtain ⟨i, hi⟩ : ∃ i, Tryd.prog.info? 22 = some i := Option.isSome_iff_exists.1 (by kernel_rfl)
  rw [run_equalIn_array (P := Tryd.prog) w 9999 _ _ Tryd.underlying23 hi]
  refine items_same w 9998 22 .u32 _ _ Tryd.underlying22 _ (fun i hm => ?_)
  have hc : Tryd.prog.cellsOf 22 = 1 := by kernel_rfl
  rw [hc]
  have h8 : i < 8 := by simpa using hm
  rcases (by omega : i = 0 ∨ i = 1 ∨ i = 2 ∨ i = 3 ∨ i = 4 ∨ i = 5 ∨ i = 6 ∨ i = 7) with rfl | rfl | rfl | rfl | rfl | rfl | rfl | rfl
  · exact ⟨s.c 0, by kernel_rfl⟩
  · exact ⟨s.c 1, by kernel_rfl⟩
  · exact ⟨s.c 2, by kernel_rfl⟩
  · exact ⟨s.c 3, by kernel_rfl⟩
  · exact ⟨s.c 4, by kernel_rfl⟩
  · exact ⟨s.c 5, by kernel_rfl⟩
  · exact ⟨s.c 6, by kernel_rfl⟩
  · exact ⟨s.c 7, by kernel_rfl⟩
theorem Tb.kp {W w w' : World} {p o kb : Nat} (h : Tb W w p o kb) (k : Kep w w') : Tb W w' p o kb := ⟨k.block h.tab, h.asked.kep k, h.po, h.pk, kep_trans h.kep k, h.go, h.gk⟩
theorem field_t (o : Option Rw) (w : World) : (Instr.field 77 (.agg (gA o)) 3).run Tryd.prog w = .ok (.bool (gT o)) w := by kernel_rfl
theorem TW.cell {w w2 : World} {p o kb : Nat} (i : TW w w2 p o kb) {b j : Nat} (hb : b < w2.heap.size) (h1 : b ≠ o) (h2 : b ≠ kb) : i.val.cell? ⟨b, j, none⟩ = w2.cell? ⟨b, j, none⟩ := by
  have := i.st.block b hb h1 h2
  simp only [World.cell?, this]
theorem region_tw {P : Program} {id : Nat} {Q : Exit → Act → World → Prop} {a : Act} {w w2 : World} {p o kb : Nat} {l : List Oper} (hm : P.follows .mixedOrders = true) (hB : Region.lexB .any l.toArray = true) (hT : Tb w w2 p o kb)
    (h : wpQuiet P l.toArray (fun w' => ∃ i : TW w w2 p o kb, w' = i.val) (fun a' => ∀ w', (∃ i : TW w w2 p o kb, w' = i.val) → Q .normal a' w') l a) : (Code.region id l.toArray true).wp P Q a w2 :=
  wp_region_quiet (C := fun w' => ∃ i : TW w w2 p o kb, w' = i.val) hm hB ⟨⟨_, hT.kp (Kep.refl w2).drew, (Stp.refl w2).drew⟩, rfl⟩ (by simpa using h)
def orB (pa pb : Bool) (it a b : Int) : Int := match pa, pb with
  | false, false => it
  | true, false => bits .or .u8 it (2 ^ a.toNat % 256)
  | false, true => bits .or .u8 it (2 ^ b.toNat % 256)
  | true, true => bits .or .u8 (bits .or .u8 it (2 ^ a.toNat % 256)) (2 ^ b.toNat % 256)
def setB (m pa pb : Bool) (it a b : Int) : Int := if m then orB pa pb it a b else 0
theorem may_seven (r : Nat) (hr : r < 10) (a b imm : Int) (hm : mayB r a b imm = true) : a ≤ 7 ∧ b ≤ 7 := by
  have h7 : f1 r ≤ 7 ∧ f2 r ≤ 7 := by
    refine ten (p := fun r => f1 r ≤ 7 ∧ f2 r ≤ 7) r hr ?_ ?_ ?_ ?_ ?_ ?_ ?_ ?_ ?_ ?_ <;> decide
  unfold mayB at hm
  simp only [Bool.and_eq_true, decide_eq_true_eq] at hm
  omega
set_option maxHeartbeats 2000000 in
theorem of_yes (pa pb : Bool) (it op a b imm : Int) (w : World) (h0 : 0 ≤ op) (h1 : op < 256) (h2 : -2147483648 ≤ imm) (h3 : imm ≤ 2147483647) (ha : 0 ≤ a) (ha7 : a ≤ 7) (hb : 0 ≤ b) (hb7 : b ≤ 7) (hT : Tabs w) (hm : mayB (rowOf op true) a b imm = true) :
    Calls Tryd.prog 33 #[.agg #[.bool pa, .bool pb, .int .u8 it], .agg (insA op a b imm)] w fun e w' => e = .returned (.int .u8 (orB pa pb it a b)) ∧ Kep w w' := by
  have hnot : ∀ (x : Bool) (w : World), (Op.unary .not (.bool x)).run Tryd.prog w = .ok (.bool (!x)) w := fun _ _ => rfl
  have hM : Hid (∀ w, Tabs w → Calls Tryd.prog 34 #[.agg (insA op a b imm), .bool true] w fun e w' => e = .returned (.bool true) ∧ Kep w w') := fun w hT => by
    have h := may_any op a b imm true w h0 h1 h2 h3 hT
    rw [hm] at h
    exact h
  have hT' : Hid (Tabs w) := hT
  clear hT hm h0 h1 h2 h3
  cases pa <;> cases pb
  all_goals
    go_enter Tryd.func33, Tryd.ntmps33
    go_wp2_with fail
    refine (hM.out _ (hT'.grown (((Kep.refl _).alloc _).alloc _))).mono ?_
    rintro e w1 ⟨rfl, g1⟩
    have K1 : Hid (Kep w w1) := kep_trans (((Kep.refl _).alloc _).alloc _) g1
    have c0 := g1.cell (o := 0) (b := w.heap.size) (by simp; omega)
    have c1 := g1.cell (o := 1) (b := w.heap.size) (by simp; omega)
    have c2 := g1.cell (o := 2) (b := w.heap.size) (by simp; omega)
    have d1 := g1.cell (o := 1) (b := w.heap.size + 1) (by simp)
    have d2 := g1.cell (o := 2) (b := w.heap.size + 1) (by simp)
    simp at c0 c1 c2 d1 d2
    clear g1
    go_wp2_with fail
    go_ret
    exact ⟨rfl, K1⟩
set_option maxHeartbeats 2000000 in
theorem of_no (pa pb : Bool) (it op a b imm : Int) (w : World) (h0 : 0 ≤ op) (h1 : op < 256) (h2 : -2147483648 ≤ imm) (h3 : imm ≤ 2147483647) (hT : Tabs w) (hm : mayB (rowOf op true) a b imm = false) :
    Calls Tryd.prog 33 #[.agg #[.bool pa, .bool pb, .int .u8 it], .agg (insA op a b imm)] w fun e w' => e = .returned (.int .u8 0) ∧ Kep w w' := by
  have hnot : ∀ (x : Bool) (w : World), (Op.unary .not (.bool x)).run Tryd.prog w = .ok (.bool (!x)) w := fun _ _ => rfl
  have hM : Hid (∀ w, Tabs w → Calls Tryd.prog 34 #[.agg (insA op a b imm), .bool true] w fun e w' => e = .returned (.bool false) ∧ Kep w w') := fun w hT => by
    have h := may_any op a b imm true w h0 h1 h2 h3 hT
    rw [hm] at h
    exact h
  have hT' : Hid (Tabs w) := hT
  clear hT hm h0 h1 h2 h3
  go_enter Tryd.func33, Tryd.ntmps33
  go_wp2_with fail
  refine (hM.out _ (hT'.grown (((Kep.refl _).alloc _).alloc _))).mono ?_
  rintro e w1 ⟨rfl, g1⟩
  have K1 : Hid (Kep w w1) := kep_trans (((Kep.refl _).alloc _).alloc _) g1
  clear g1
  go_wp2_with fail
  go_ret
  exact ⟨rfl, K1⟩
theorem kof_any (pa pb : Bool) (it op a b imm : Int) (w : World) (h0 : 0 ≤ op) (h1 : op < 256) (h2 : -2147483648 ≤ imm) (h3 : imm ≤ 2147483647) (ha : 0 ≤ a) (hb : 0 ≤ b) (hT : Tabs w) :
    Calls Tryd.prog 33 #[.agg #[.bool pa, .bool pb, .int .u8 it], .agg (insA op a b imm)] w fun e w' => e = .returned (.int .u8 (setB (mayB (rowOf op true) a b imm) pa pb it a b)) ∧ Kep w w' := by
  unfold setB
  cases hm : mayB (rowOf op true) a b imm
  · exact of_no pa pb it op a b imm w h0 h1 h2 h3 hT hm
  · obtain ⟨q1, q2⟩ := may_seven _ (rowOf_lt _ _) a b imm hm
    exact of_yes pa pb it op a b imm w h0 h1 h2 h3 ha q1 hb q2 hT hm
theorem field_r (o : Option Rw) (w : World) : (Instr.field 77 (.agg (gA o)) 1).run Tryd.prog w = .ok (.agg #[.bool (gRa o), .bool (gRb o), .int .u8 (gRi o)]) w := by kernel_rfl
theorem field_w (o : Option Rw) (w : World) : (Instr.field 77 (.agg (gA o)) 2).run Tryd.prog w = .ok (.agg #[.bool (gWa o), .bool (gWb o), .int .u8 (gWi o)]) w := by kernel_rfl
set_option maxHeartbeats 4000000 in
theorem reads_any (op a b imm : Int) (h0 : 0 ≤ op) (h1 : op < 256) (h2 : -2147483648 ≤ imm) (h3 : imm ≤ 2147483647) (ha : 0 ≤ a) (hb : 0 ≤ b) (W w : World) (p o kb : Nat) (hT : Tabs W) (h : Tb W w p o kb) :
    Calls Tryd.prog 15 #[.pointer (some ⟨p, 0, none⟩), .agg (insA op a b imm)] w fun e w' => e = .returned (.int .u8 (setB (mayB (rowOf op true) a b imm) (gRa (tabF op)) (gRb (tabF op)) (gRi (tabF op)) a b)) ∧ Tb W w' p o kb ∧ Stp o kb w w' := by
  have hA : Hid (∀ w1 w2 p o kb, Tb w1 w2 p o kb → Calls Tryd.prog 32 #[.pointer (some ⟨p, 0, none⟩), .int .u8 op] w2 fun e w' => e = .returned (.agg (gA (tabF op))) ∧ Asked w' o kb ∧ Stp o kb w2 w') := fun w1 w2 p o kb h => about_any op h0 h1 w1 w2 p o kb h
  have hO : Hid (∀ pa pb it w, Tabs w → Calls Tryd.prog 33 #[.agg #[.bool pa, .bool pb, .int .u8 it], .agg (insA op a b imm)] w fun e w' => e = .returned (.int .u8 (setB (mayB (rowOf op true) a b imm) pa pb it a b)) ∧ Kep w w') := fun pa pb it w hT => kof_any pa pb it op a b imm w h0 h1 h2 h3 ha hb hT
  have hT' : Hid (Tabs W) := hT
  have hfd := field_r (tabF op)
  have T1 : Hid (∀ x, Tb W (w.alloc x) p o kb) := fun x => h.kp ((Kep.refl _).alloc _)
  have hl := h.asked.lt
  clear h hT h0 h1 h2 h3 ha hb
  go_enter Tryd.func15, Tryd.ntmps15
  go_wp2_with fail
  have T3 := T1.out (.cells (insA op a b imm) 27)
  have l0 : ∀ i : TW W (w.alloc (.cells (insA op a b imm) 27)) p o kb, i.val.cell? ⟨w.heap.size, 0, none⟩ = some (.int .u8 op) := fun i => (i.cell (by simp) (by omega) (by omega)).trans (cell_of_block (heap_alloc_new _ _))
  have l1 : ∀ i : TW W (w.alloc (.cells (insA op a b imm) 27)) p o kb, i.val.cell? ⟨w.heap.size, 1, none⟩ = some (.int .u8 a) := fun i => (i.cell (by simp) (by omega) (by omega)).trans (cell_of_block (heap_alloc_new _ _))
  have l2 : ∀ i : TW W (w.alloc (.cells (insA op a b imm) 27)) p o kb, i.val.cell? ⟨w.heap.size, 2, none⟩ = some (.int .u8 b) := fun i => (i.cell (by simp) (by omega) (by omega)).trans (cell_of_block (heap_alloc_new _ _))
  have l3 : ∀ i : TW W (w.alloc (.cells (insA op a b imm) 27)) p o kb, i.val.cell? ⟨w.heap.size, 3, none⟩ = some (.int .i32 imm) := fun i => (i.cell (by simp) (by omega) (by omega)).trans (cell_of_block (heap_alloc_new _ _))
  have hne : Nonempty (TW W (w.alloc (.cells (insA op a b imm) 27)) p o kb) := ⟨⟨_, T3, Stp.refl _⟩⟩
  refine region_tw (by kernel_rfl) (by kernel_rfl) T3 ?_
  repeat (go_big_quiet_step ((first
    | (go_at_call 32; refine (hA.out _ _ _ _ _ (TW.tb _)).mono ?_; rintro e w6 ⟨rfl, T6, S6⟩; exact ⟨rfl, ⟨_, (TW.tb _).stp S6 T6, Stp.trans (TW.st _) S6⟩, rfl⟩)
    | (go_at_call 33; refine (hO.out _ _ _ _ (hT'.grown (TW.tb _).kep)).mono ?_; rintro e w6 ⟨rfl, g6⟩; exact ⟨rfl, ⟨_, (TW.tb _).kp g6, Stp.trans (TW.st _) (Stp.of_kep g6)⟩, rfl⟩))))
  refine wpQuiet_nil ?_
  rintro _ ⟨i, rfl⟩
  have G3 : Hid (Tb W i.val p o kb ∧ Stp o kb w i.val) := ⟨i.tb, Stp.trans (Stp.of_kep ((Kep.refl _).alloc _)) i.st⟩
  go_wp2_with fail
  go_ret
  exact ⟨rfl, G3.out⟩
set_option maxHeartbeats 4000000 in
theorem writes_any (op a b imm : Int) (h0 : 0 ≤ op) (h1 : op < 256) (h2 : -2147483648 ≤ imm) (h3 : imm ≤ 2147483647) (ha : 0 ≤ a) (hb : 0 ≤ b) (W w : World) (p o kb : Nat) (hT : Tabs W) (h : Tb W w p o kb) :
    Calls Tryd.prog 13 #[.pointer (some ⟨p, 0, none⟩), .agg (insA op a b imm)] w fun e w' => e = .returned (.int .u8 (setB (mayB (rowOf op true) a b imm) (gWa (tabF op)) (gWb (tabF op)) (gWi (tabF op)) a b)) ∧ Tb W w' p o kb ∧ Stp o kb w w' := by
  have hA : Hid (∀ w1 w2 p o kb, Tb w1 w2 p o kb → Calls Tryd.prog 32 #[.pointer (some ⟨p, 0, none⟩), .int .u8 op] w2 fun e w' => e = .returned (.agg (gA (tabF op))) ∧ Asked w' o kb ∧ Stp o kb w2 w') := fun w1 w2 p o kb h => about_any op h0 h1 w1 w2 p o kb h
  have hO : Hid (∀ pa pb it w, Tabs w → Calls Tryd.prog 33 #[.agg #[.bool pa, .bool pb, .int .u8 it], .agg (insA op a b imm)] w fun e w' => e = .returned (.int .u8 (setB (mayB (rowOf op true) a b imm) pa pb it a b)) ∧ Kep w w') := fun pa pb it w hT => kof_any pa pb it op a b imm w h0 h1 h2 h3 ha hb hT
  have hT' : Hid (Tabs W) := hT
  have hfd := field_w (tabF op)
  have T1 : Hid (∀ x, Tb W (w.alloc x) p o kb) := fun x => h.kp ((Kep.refl _).alloc _)
  have hl := h.asked.lt
  clear h hT h0 h1 h2 h3 ha hb
  go_enter Tryd.func13, Tryd.ntmps13
  go_wp2_with fail
  have T3 := T1.out (.cells (insA op a b imm) 27)
  have l0 : ∀ i : TW W (w.alloc (.cells (insA op a b imm) 27)) p o kb, i.val.cell? ⟨w.heap.size, 0, none⟩ = some (.int .u8 op) := fun i => (i.cell (by simp) (by omega) (by omega)).trans (cell_of_block (heap_alloc_new _ _))
  have l1 : ∀ i : TW W (w.alloc (.cells (insA op a b imm) 27)) p o kb, i.val.cell? ⟨w.heap.size, 1, none⟩ = some (.int .u8 a) := fun i => (i.cell (by simp) (by omega) (by omega)).trans (cell_of_block (heap_alloc_new _ _))
  have l2 : ∀ i : TW W (w.alloc (.cells (insA op a b imm) 27)) p o kb, i.val.cell? ⟨w.heap.size, 2, none⟩ = some (.int .u8 b) := fun i => (i.cell (by simp) (by omega) (by omega)).trans (cell_of_block (heap_alloc_new _ _))
  have l3 : ∀ i : TW W (w.alloc (.cells (insA op a b imm) 27)) p o kb, i.val.cell? ⟨w.heap.size, 3, none⟩ = some (.int .i32 imm) := fun i => (i.cell (by simp) (by omega) (by omega)).trans (cell_of_block (heap_alloc_new _ _))
  have hne : Nonempty (TW W (w.alloc (.cells (insA op a b imm) 27)) p o kb) := ⟨⟨_, T3, Stp.refl _⟩⟩
  refine region_tw (by kernel_rfl) (by kernel_rfl) T3 ?_
  repeat (go_big_quiet_step ((first
    | (go_at_call 32; refine (hA.out _ _ _ _ _ (TW.tb _)).mono ?_; rintro e w6 ⟨rfl, T6, S6⟩; exact ⟨rfl, ⟨_, (TW.tb _).stp S6 T6, Stp.trans (TW.st _) S6⟩, rfl⟩)
    | (go_at_call 33; refine (hO.out _ _ _ _ (hT'.grown (TW.tb _).kep)).mono ?_; rintro e w6 ⟨rfl, g6⟩; exact ⟨rfl, ⟨_, (TW.tb _).kp g6, Stp.trans (TW.st _) (Stp.of_kep g6)⟩, rfl⟩))))
  refine wpQuiet_nil ?_
  rintro _ ⟨i, rfl⟩
  have G3 : Hid (Tb W i.val p o kb ∧ Stp o kb w i.val) := ⟨i.tb, Stp.trans (Stp.of_kep ((Kep.refl _).alloc _)) i.st⟩
  go_wp2_with fail
  go_ret
  exact ⟨rfl, G3.out⟩
theorem doS_is (s : Sta) (op : Int) (a b : Nat) (imm v : Int) (h : (doF s op a b imm).1 = 0) : isIns op a b imm = true ∧ doS s op a b imm v = workS (nextS s op) op a b imm v ∧
    (op = 0 ∨ (16 ≤ op ∧ op ≤ 33) ∨ (48 ≤ op ∧ op ≤ 58) ∨ (64 ≤ op ∧ op ≤ 74)) := by
  have hi : isIns op a b imm = true := by
    cases q : isIns op a b imm with
    | true => rfl
    | false => unfold doF at h; rw [q] at h; exact absurd h (show ¬ (1 : Int) = 0 by decide)
  refine ⟨hi, by unfold doS; rw [if_pos h], ?_⟩
  have h2 := hi
  unfold isIns at h2
  simp only [Bool.and_eq_true, bne_iff_ne, ne_eq] at h2
  rcases cls_cases op h2.2 with hc | hc | hc | hc | hc
  · exact .inl hc
  · exact .inr (.inl hc)
  · exact .inr (.inr (.inl hc))
  · exact .inr (.inr (.inr hc))
  · exfalso
    unfold doF at h; rw [hi] at h
    unfold workF at h
    have e : cls op = 5 := by rw [hc]; rfl
    rw [e] at h
    exact absurd h (show ¬ (8 : Int) = 0 by decide)
theorem workS_alu (s : Sta) (op : Int) (a b : Nat) (imm v : Int) (hc : 16 ≤ op ∧ op ≤ 33) : workS s op a b imm v = reckS s op a b imm := by
  have e : cls op = 2 := by unfold cls; rw [if_neg (by omega), if_pos hc]
  unfold workS; rw [e]; rfl
theorem workS_mem (s : Sta) (op : Int) (a b : Nat) (imm v : Int) (hc : 48 ≤ op ∧ op ≤ 58) : workS s op a b imm v = movS s op a v := by
  have e : cls op = 3 := by unfold cls; rw [if_neg (by omega), if_neg (by omega), if_pos hc]
  unfold workS; rw [e]; rfl
theorem workS_jmp (s : Sta) (op : Int) (a b : Nat) (imm v : Int) (hc : 64 ≤ op ∧ op ≤ 74) : workS s op a b imm v = jmpS s op a imm := by
  have e : cls op = 4 := by unfold cls; rw [if_neg (by omega), if_neg (by omega), if_neg (by omega), if_pos hc]
  unfold workS; rw [e]; rfl
theorem workS_nop (s : Sta) (a b : Nat) (imm v : Int) : workS s 0 a b imm v = s := by unfold workS; rfl
def inS (w : Int) (k : Nat) : Bool := w.toNat.testBit k
theorem two_mod (k : Nat) (h : k < 8) : (2 : Int) ^ k % 256 = ((2 ^ k : Nat) : Int) ∧ 2 ^ k < 256 := by
  have t : ∀ k, k < 8 → (2 : Int) ^ k % 256 = ((2 ^ k : Nat) : Int) ∧ 2 ^ k < 256 := by decide
  exact t k h
theorem or8 (x : Int) (k : Nat) (h0 : 0 ≤ x) (h1 : x < 256) (hk : k < 8) : bits .or .u8 x (2 ^ k % 256) = ((x.toNat ||| 2 ^ k : Nat) : Int) ∧ x.toNat ||| 2 ^ k < 256 := by
  obtain ⟨n, rfl⟩ : ∃ n : Nat, x = n := ⟨x.toNat, by omega⟩
  obtain ⟨e, hl⟩ := two_mod k hk
  rw [e, u8_or_nat n (2 ^ k) (by omega) hl]
  exact ⟨rfl, Nat.or_lt_two_pow (n := 8) (by omega) (by omega)⟩
theorem inS_or (x : Int) (k n : Nat) (h0 : 0 ≤ x) (h1 : x < 256) (hk : k < 8) : inS (bits .or .u8 x (2 ^ k % 256)) n = (inS x n || decide (n = k)) := by
  obtain ⟨e, _⟩ := or8 x k h0 h1 hk
  unfold inS
  rw [e, Int.toNat_natCast, Nat.testBit_or, Nat.testBit_two_pow]
  congr 1
  rw [Bool.eq_iff_iff]; simp; omega
theorem inS_orB (pa pb : Bool) (it : Int) (a b n : Nat) (h0 : 0 ≤ it) (h1 : it < 256) (ha : a < 8) (hb : b < 8) : inS (orB pa pb it a b) n = (inS it n || (pa && decide (n = a)) || (pb && decide (n = b))) := by
  cases pa <;> cases pb
  · simp [orB]
  · show inS (bits .or .u8 it (2 ^ ((b : Int).toNat) % 256)) n = _
    rw [Int.toNat_natCast, inS_or _ _ _ h0 h1 hb]; simp
  · show inS (bits .or .u8 it (2 ^ ((a : Int).toNat) % 256)) n = _
    rw [Int.toNat_natCast, inS_or _ _ _ h0 h1 ha]; simp
  · show inS (bits .or .u8 (bits .or .u8 it (2 ^ ((a : Int).toNat) % 256)) (2 ^ ((b : Int).toNat) % 256)) n = _
    obtain ⟨e, hl⟩ := or8 it a h0 h1 ha
    rw [Int.toNat_natCast, Int.toNat_natCast, inS_or _ _ _ (by rw [e]; omega) (by rw [e]; omega) hb, inS_or _ _ _ h0 h1 ha]; simp
theorem orB_range (pa pb : Bool) (it : Int) (a b : Nat) (h0 : 0 ≤ it) (h1 : it < 256) (ha : a < 8) (hb : b < 8) : 0 ≤ orB pa pb it a b ∧ orB pa pb it a b < 256 := by
  cases pa <;> cases pb
  · exact ⟨h0, h1⟩
  · show 0 ≤ bits .or .u8 it (2 ^ ((b : Int).toNat) % 256) ∧ bits .or .u8 it (2 ^ ((b : Int).toNat) % 256) < 256
    obtain ⟨e, hl⟩ := or8 it b h0 h1 hb
    rw [Int.toNat_natCast, e]; omega
  · show 0 ≤ bits .or .u8 it (2 ^ ((a : Int).toNat) % 256) ∧ bits .or .u8 it (2 ^ ((a : Int).toNat) % 256) < 256
    obtain ⟨e, hl⟩ := or8 it a h0 h1 ha
    rw [Int.toNat_natCast, e]; omega
  · show 0 ≤ bits .or .u8 (bits .or .u8 it (2 ^ ((a : Int).toNat) % 256)) (2 ^ ((b : Int).toNat) % 256) ∧ bits .or .u8 (bits .or .u8 it (2 ^ ((a : Int).toNat) % 256)) (2 ^ ((b : Int).toNat) % 256) < 256
    obtain ⟨e, hl⟩ := or8 it a h0 h1 ha
    obtain ⟨e2, hl2⟩ := or8 ((it.toNat ||| 2 ^ a : Nat) : Int) b (by omega) (by omega) hb
    rw [Int.toNat_natCast, Int.toNat_natCast, e, e2]; omega
theorem set_tab : ∀ n : Nat, n < 256 → 0 ≤ gWi (tabF (n : Int)) ∧ gWi (tabF (n : Int)) < 256 ∧ 0 ≤ gRi (tabF (n : Int)) ∧ gRi (tabF (n : Int)) < 256 := by decide +kernel
theorem row_tab : ∀ n : Nat, n < 112 → rowOf (n : Int) true = rowOf (n : Int) false := by decide +kernel
def wset (op : Int) (a b : Nat) (imm : Int) : Int := setB (mayB (rowOf op true) a b imm) (gWa (tabF op)) (gWb (tabF op)) (gWi (tabF op)) a b
theorem setB_range (op : Int) (a b : Nat) (imm : Int) (pa pb : Bool) (it : Int) (h0 : 0 ≤ it) (h1 : it < 256) : 0 ≤ setB (mayB (rowOf op true) a b imm) pa pb it a b ∧ setB (mayB (rowOf op true) a b imm) pa pb it a b < 256 := by
  unfold setB
  split
  · rename_i hm
    obtain ⟨ha, hb⟩ := may_seven _ (rowOf_lt op true) _ _ _ hm
    exact orB_range pa pb it a b h0 h1 (by omega) (by omega)
  · exact ⟨by decide, by decide⟩
theorem wset_range (op : Int) (a b : Nat) (imm : Int) (h0 : 0 ≤ op) (h1 : op < 256) : 0 ≤ wset op a b imm ∧ wset op a b imm < 256 := by
  obtain ⟨n, rfl⟩ : ∃ n : Nat, op = n := ⟨op.toNat, by omega⟩
  obtain ⟨t0, t1, t2, t3⟩ := set_tab n (by omega)
  exact setB_range _ a b imm _ _ _ t0 t1
theorem pow_cast : ∀ r : Nat, (2 : Int) ^ r = ((2 ^ r : Nat) : Int)
  | 0 => rfl
  | r + 1 => by rw [Int.pow_succ, pow_cast r, Nat.pow_succ]; rfl
theorem bit_val (x : Int) (r : Nat) (h0 : 0 ≤ x) (h1 : x < 256) : bits .and .u8 (x / 2 ^ r) 1 = (if inS x r then 1 else 0) := by
  obtain ⟨n, rfl⟩ : ∃ n : Nat, x = n := ⟨x.toNat, by omega⟩
  have e : (n : Int) / 2 ^ r = ((n / 2 ^ r : Nat) : Int) := by rw [pow_cast r]; rfl
  have hl : n / 2 ^ r < 256 := Nat.lt_of_le_of_lt (Nat.div_le_self _ _) (by omega)
  rw [e, show (1 : Int) = ((1 : Nat) : Int) from rfl, u8_and_nat _ 1 hl (by decide), Nat.and_one_is_mod]
  unfold inS
  rw [Int.toNat_natCast, Nat.testBit_eq_decide_div_mod_eq]
  by_cases q : n / 2 ^ r % 2 = 1
  · rw [q]; simp
  · have : n / 2 ^ r % 2 = 0 := by omega
    rw [this]; simp
theorem bit_zero (x : Int) (r : Nat) (h0 : 0 ≤ x) (h1 : x < 256) : (bits .and .u8 (x / 2 ^ r) 1 == 0) = !inS x r := by
  rw [bit_val x r h0 h1]; cases inS x r <;> rfl
theorem wa_alu : ∀ n : Nat, n < 256 → 16 ≤ n ∧ n ≤ 33 → keepsB (n : Int) = true → gWa (tabF (n : Int)) = true := by decide +kernel
theorem wa_mem : ∀ n : Nat, n < 256 → 48 ≤ n ∧ n ≤ 58 → takes (n : Int) = true → gWa (tabF (n : Int)) = true := by decide +kernel
theorem wi_stk : ∀ n : Nat, n < 256 → n = 56 ∨ n = 57 → inS (gWi (tabF (n : Int))) 7 = true := by decide +kernel
theorem wi_lnk : ∀ n : Nat, n < 256 → n = 72 ∨ n = 74 → inS (gWi (tabF (n : Int))) 6 = true := by decide +kernel
theorem turn_tab : ∀ n : Nat, n < 256 → 16 ≤ n ∧ n ≤ 33 → turnsB (n : Int) = true → gT (tabF (n : Int)) = true := by decide +kernel
theorem regIf_r (s : Sta) (k : Bool) (a n : Nat) (x : Int) (h : k = true → n ≠ a) : (s.regIf k a x).r n = s.r n := by
  cases k
  · rfl
  · exact up_off _ _ _ _ (h rfl)
theorem markIf_r (s : Sta) (k : Bool) (x : Int) : (s.markIf k x).r = s.r := by cases k <;> rfl
theorem stack_r (s : Sta) (op : Int) (n : Nat) (h : op = 56 ∨ op = 57 → n ≠ 7) : (stackS s op).r n = s.r n := by
  unfold stackS
  by_cases h1 : op = 56
  · rw [if_pos h1]; exact up_off _ _ _ _ (h (.inl h1))
  · rw [if_neg h1]
    by_cases h2 : op = 57
    · rw [if_pos h2]; exact up_off _ _ _ _ (h (.inr h2))
    · rw [if_neg h2]
theorem link_r (s : Sta) (op back : Int) (n : Nat) (h : op = 72 ∨ op = 74 → n ≠ 6) : (linkS s op back).r n = s.r n := by
  unfold linkS
  by_cases h1 : op = 72 ∨ op = 74
  · rw [if_pos h1]; exact up_off _ _ _ _ (h h1)
  · rw [if_neg h1]
theorem jmp_r (s : Sta) (op : Int) (a : Nat) (imm : Int) (n : Nat) (h : op = 72 ∨ op = 74 → n ≠ 6) : (jmpS s op a imm).r n = s.r n := by
  unfold jmpS
  split
  · rw [link_r _ _ _ _ h]; rfl
  · rfl
theorem set_is (n : Nat) (a b : Nat) (imm : Int) (hn : n < 112) (hi : isIns n a b imm = true) : a < 8 ∧ b < 8 ∧ (∀ pa pb it, setB (mayB (rowOf (n : Int) true) a b imm) pa pb it a b = orB pa pb it a b) := by
  unfold isIns at hi
  simp only [Bool.and_eq_true] at hi
  obtain ⟨ha, hb⟩ := may_reg n false a b imm hi.1
  refine ⟨by omega, by omega, fun pa pb it => ?_⟩
  rw [row_tab n hn, hi.1]
  rfl
theorem writes_of (s : Sta) (op : Int) (a b : Nat) (imm v : Int) (h0 : 0 ≤ op) (h1 : op < 256) (h : (doF s op a b imm).1 = 0) (k : Nat) : (doS s op a b imm v).r k = s.r k ∨ inS (wset op a b imm) k = true := by
  obtain ⟨hi, eS, hc⟩ := doS_is s op a b imm v h
  obtain ⟨n, rfl⟩ : ∃ n : Nat, op = n := ⟨op.toNat, by omega⟩
  obtain ⟨ha, hb, hset⟩ := set_is n a b imm (by omega) hi
  obtain ⟨t0, t1, t2, t3⟩ := set_tab n (by omega)
  rw [eS]
  unfold wset
  rw [hset, inS_orB _ _ _ _ _ _ t0 t1 ha hb]
  rcases hc with hc | hc | hc | hc
  · left
    have hn : n = 0 := by omega
    subst hn
    rw [show ((0 : Nat) : Int) = 0 from rfl, workS_nop]; rfl
  · by_cases hk : keepsB (n : Int) = true ∧ k = a
    · right
      rw [wa_alu n (by omega) (by omega) hk.1]
      simp [hk.2]
    · left
      rw [workS_alu _ _ _ _ _ _ hc]; unfold reckS
      rw [markIf_r, regIf_r _ _ _ _ _ (fun q e => hk ⟨q, e⟩)]; rfl
  · by_cases hs : (n = 56 ∨ n = 57) ∧ k = 7
    · right
      rw [hs.2, wi_stk n (by omega) hs.1]; simp
    · by_cases hk : takes (n : Int) = true ∧ k = a
      · right
        rw [wa_mem n (by omega) (by omega) hk.1]
        simp [hk.2]
      · left
        rw [workS_mem _ _ _ _ _ _ hc]; unfold movS
        rw [regIf_r _ _ _ _ _ (fun q e => hk ⟨q, e⟩), stack_r _ _ _ (fun q e => hs ⟨by omega, e⟩)]; rfl
  · by_cases hs : (n = 72 ∨ n = 74) ∧ k = 6
    · right
      rw [hs.2, wi_lnk n (by omega) hs.1]; simp
    · left
      rw [workS_jmp _ _ _ _ _ _ hc, jmp_r _ _ _ _ _ (fun q e => hs ⟨by omega, e⟩)]; rfl
theorem regIf_ps (s : Sta) (k : Bool) (a : Nat) (x : Int) : (s.regIf k a x).ps = s.ps ∧ (s.regIf k a x).c = s.c ∧ (s.regIf k a x).h = s.h := by cases k <;> exact ⟨rfl, rfl, rfl⟩
theorem stack_ps (s : Sta) (op : Int) : (stackS s op).ps = s.ps ∧ (stackS s op).c = s.c ∧ (stackS s op).h = s.h := by
  unfold stackS; split
  · exact ⟨rfl, rfl, rfl⟩
  · split <;> exact ⟨rfl, rfl, rfl⟩
theorem jmp_ps (s : Sta) (op : Int) (a : Nat) (imm : Int) : (jmpS s op a imm).ps = s.ps ∧ (jmpS s op a imm).c = s.c ∧ (jmpS s op a imm).h = s.h := by
  unfold jmpS linkS; split
  · split <;> exact ⟨rfl, rfl, rfl⟩
  · exact ⟨rfl, rfl, rfl⟩
theorem flg_keep (op x y ps : Int) (h0 : 0 ≤ ps) (h1 : ps < 4294967296) : bits .andNot .u32 (flgI ps (alu op x y).2) 240 = bits .andNot .u32 ps 240 := by
  obtain ⟨k, hk, e⟩ := alu_form op x y
  obtain ⟨n, rfl⟩ : ∃ n : Nat, ps = n := ⟨ps.toNat, by omega⟩
  rw [e]
  obtain ⟨m, hm, hm2⟩ : ∃ m : Nat, flgI (n : Int) ((16 * k : Nat) : Int) = m ∧ m = n - n / 16 % 16 * 16 + 16 * k := ⟨n - n / 16 % 16 * 16 + 16 * k, by unfold flgI; omega, rfl⟩
  rw [hm, show (240 : Int) = ((240 : Nat) : Int) from rfl, u32_andNot_nat n 240 (by omega) (by decide), u32_andNot_nat m 240 (by omega) (by decide), show 4294967295 - 240 = 4294967055 from rfl, keep_nat n (by omega), keep_nat m (by omega)]
  congr 1
  omega
theorem status_of (s : Sta) (ok : s.Ok) (op : Int) (a b : Nat) (imm v : Int) (h0 : 0 ≤ op) (h1 : op < 256) (h : (doF s op a b imm).1 = 0) :
    ((doS s op a b imm v).ps = s.ps ∨ gT (tabF op) = true) ∧ bits .andNot .u32 (doS s op a b imm v).ps 240 = bits .andNot .u32 s.ps 240 ∧ (doS s op a b imm v).c = s.c ∧ (doS s op a b imm v).h = s.h := by
  obtain ⟨hi, eS, hc⟩ := doS_is s op a b imm v h
  obtain ⟨n, rfl⟩ : ∃ n : Nat, op = n := ⟨op.toNat, by omega⟩
  rw [eS]
  rcases hc with hc | hc | hc | hc
  · have hn : n = 0 := by omega
    subst hn
    rw [show ((0 : Nat) : Int) = 0 from rfl, workS_nop]
    exact ⟨.inl rfl, rfl, rfl, rfl⟩
  · rw [workS_alu _ _ _ _ _ _ hc]; unfold reckS
    obtain ⟨r1, r2, r3⟩ := regIf_ps (nextS s n) (keepsB n) a (alu n ((nextS s n).r a) (secN (nextS s n) n b imm)).1
    cases hq : turnsB (n : Int) with
    | false => exact ⟨.inl r1, congrArg (fun x => bits .andNot .u32 x 240) r1, r2, r3⟩
    | true => exact ⟨.inr (turn_tab n (by omega) (by omega) hq), flg_keep _ _ _ _ ok.ps.1 ok.ps.2, r2, r3⟩
  · rw [workS_mem _ _ _ _ _ _ hc]; unfold movS
    obtain ⟨r1, r2, r3⟩ := regIf_ps (stackS (nextS s n) n) (takes n) a (takenV n v)
    obtain ⟨q1, q2, q3⟩ := stack_ps (nextS s n) n
    exact ⟨.inl (r1.trans q1), by rw [r1, q1]; rfl, r2.trans q2, r3.trans q3⟩
  · rw [workS_jmp _ _ _ _ _ _ hc]
    obtain ⟨q1, q2, q3⟩ := jmp_ps (nextS s n) n a imm
    exact ⟨.inl q1, by rw [q1]; rfl, q2, q3⟩
set_option maxHeartbeats 1600000 in
theorem turns8_any (op : Int) (h0 : 0 ≤ op) (h1 : op < 256) (W w : World) (p o kb : Nat) (h : Tb W w p o kb) :
    Calls Tryd.prog 14 #[.pointer (some ⟨p, 0, none⟩), .int .u8 op] w fun e w' => e = .returned (.bool (gT (tabF op))) ∧ Tb W w' p o kb ∧ Stp o kb w w' := by
  have hc : Hid (Tb W w p o kb) := h
  clear h
  have hfd := field_t (tabF op)
  go_enter Tryd.func14, Tryd.ntmps14
  go_wp2_with fail
  refine (about_any op h0 h1 W _ p o kb hc.out).mono ?_
  rintro e w1 ⟨rfl, hD, hS⟩
  have hD' : Hid (Tb W w1 p o kb ∧ Stp o kb w w1) := ⟨hc.out.stp hS hD, hS⟩
  clear hD hS
  go_wp2_with fail
  go_ret
  exact ⟨rfl, hD'.out⟩
set_option maxHeartbeats 4000000 in
set_option maxRecDepth 100000 in
theorem writes_walk (s0 : Sta) (ok0 : s0.Ok) (a1f0 : Int) (a b : Nat) (a1f3 a2 : Int) (b0 : 0 ≤ a1f0 ∧ a1f0 ≤ 255) (b3 : -2147483648 ≤ a1f3 ∧ a1f3 ≤ 2147483647) (bv : 0 ≤ a2 ∧ a2 < 4294967296) (w : World) (hT : Tabs w) :
    Calls Tryd.prog 5 #[.agg s0.v, .agg (insA a1f0 a b a1f3), .int .u32 a2] w fun e w' => e = .returned (.bool true) ∧ Kep w w' := by
  have D : Hid (∀ w, Tabs w → Calls Tryd.prog 8 #[.agg s0.v, .agg (insA a1f0 a b a1f3), .int .u32 a2] w fun e w' => e = .returned (.tuple #[.agg (doS s0 a1f0 a b a1f3 a2).v, .agg (fltV (doF s0 a1f0 a b a1f3))]) ∧ Kep w w') := fun w hT => do_any s0 a1f0 a b a1f3 a2 w ok0 (by omega) (by omega) (by omega) (by omega) bv hT
  have WK : Hid (∀ w, Tabs w → Calls Tryd.prog 10 #[] w fun e w' => e = .returned (.bool true) ∧ Kep w w') := fun w hT => works8_any w hT
  have WR : Hid (∀ W w p o kb, Tabs W → Tb W w p o kb → Calls Tryd.prog 13 #[.pointer (some ⟨p, 0, none⟩), .agg (insA a1f0 a b a1f3)] w fun e w' => e = .returned (.int .u8 (wset a1f0 a b a1f3)) ∧ Tb W w' p o kb ∧ Stp o kb w w') := fun W w p o kb hT h => writes_any a1f0 a b a1f3 (by omega) (by omega) (by omega) (by omega) (by omega) (by omega) W w p o kb hT h
  have TU : Hid (∀ W w p o kb, Tb W w p o kb → Calls Tryd.prog 14 #[.pointer (some ⟨p, 0, none⟩), .int .u8 a1f0] w fun e w' => e = .returned (.bool (gT (tabF a1f0))) ∧ Tb W w' p o kb ∧ Stp o kb w w') := fun W w p o kb h => turns8_any a1f0 (by omega) (by omega) W w p o kb h
  have wbd := wset_range a1f0 a b a1f3 (by omega) (by omega)
  have P1 : Hid ((doF s0 a1f0 a b a1f3).1 ≠ 0 → doS s0 a1f0 a b a1f3 a2 = s0) := fun h => by unfold doS; rw [if_neg h]
  have P2 : Hid ((doF s0 a1f0 a b a1f3).1 = 0 → ∀ k, (doS s0 a1f0 a b a1f3 a2).r k = s0.r k ∨ inS (wset a1f0 a b a1f3) k = true) := fun h k => writes_of s0 a1f0 a b a1f3 a2 (by omega) (by omega) h k
  have P3 : Hid ((doF s0 a1f0 a b a1f3).1 = 0 → ((doS s0 a1f0 a b a1f3 a2).ps = s0.ps ∨ gT (tabF a1f0) = true) ∧ bits .andNot .u32 (doS s0 a1f0 a b a1f3 a2).ps 240 = bits .andNot .u32 s0.ps 240 ∧ (doS s0 a1f0 a b a1f3 a2).c = s0.c ∧ (doS s0 a1f0 a b a1f3 a2).h = s0.h) := fun h => status_of s0 ok0 a1f0 a b a1f3 a2 (by omega) (by omega) h
  generalize wset a1f0 a b a1f3 = ws at *
  generalize doS s0 a1f0 a b a1f3 a2 = S at *
  generalize doF s0 a1f0 a b a1f3 = q at *
  generalize gT (tabF a1f0) = gt at *
  obtain ⟨qc, qd⟩ := q
  have hT' : Hid (Tabs w) := hT
  clear hT
  go_enter Tryd.func5, Tryd.ntmps5
  go_wp2_with (refine wpList_load_row (by rfl) 25 _ (by rfl) _ (by rfl) 25 _ (0, 0) _ blkA Tryd.underlying25 rfl (by exact size_sta) ?_)
  refine (D.out _ (hT'.out.grown kepA)).mono ?_
  rintro e w1 ⟨rfl, K1⟩
  have A0 : Hid (w1.heap[w.heap.size]? = some (.cells s0.v 25 (0, 0))) := K1.block blkA
  have I0 : Hid (w1.heap[w.heap.size + 1]? = some (.cells (insA a1f0 a b a1f3) 27 (0, 0))) := K1.block blkA
  have G1 : Hid (Kep w w1) := kep_trans kepA K1
  have l0 := block_lt A0.out
  have l1 := block_lt I0.out
  clear K1
  go_upto_region 2 with (first | (refine wpList_store_row (by rfl) 25 _ _ (by rfl) _ _ (by rfl) (by rfl) 25 z19 blkA (by exact size_sta) (by rfl) (v_one _) ?_) | (refine wpList_store_row (by rfl) 29 _ _ (by rfl) _ _ (by rfl) (by rfl) 29 #[.int .i64 0, .int .u32 0] blkA (by exact size_flt) (by rfl) (by simp [Value.oneCell']) ?_))
  dsimp only [Act.put]
  generalize hV : World.setRow (World.setRow (World.alloc (World.alloc w1 _) _) _ _) _ _ = V
  have AV : Hid (V.heap[w1.heap.size]? = some (.cells S.v 25 (0, 0))) := by rw [← hV]; unfold Hid; (repeat (first | (with_reducible assumption) | (with_reducible exact Hid.out (by assumption)) | (with_reducible refine (hsk _ _ _ (by (first | omega | (simp only [World.size_alloc, World.size_setCell, size_setRow, World.size_drew]; done) | (simp only [World.size_alloc, World.size_setCell, size_setRow, World.size_drew]; omega)))).trans ?_) | (with_reducible refine (hat _ _ _ (by (first | omega | (simp only [World.size_alloc, World.size_setCell, size_setRow, World.size_drew]; done) | (simp only [World.size_alloc, World.size_setCell, size_setRow, World.size_drew]; omega))))) | (with_reducible refine Kep.block (Kep.alloc (Kep.refl _) _) ?_) | (with_reducible refine (heap_setCell_other _ _ _ _ (by (first | omega | (simp only []; omega) | (show _ ≠ _; omega)))).trans ?_) | (with_reducible refine (setRow_other _ _ _ _ (by (first | omega | (simp only []; omega) | (show _ ≠ _; omega)))).trans ?_) | (with_reducible refine (drew_heap _ _).trans ?_) | (with_reducible refine (drewN_heap _ _ _).trans ?_) | (with_reducible refine Kep.block (by assumption) ?_) | (with_reducible exact setRow_heap _ _ _ _ _ _ (by (repeat (first | (with_reducible assumption) | (with_reducible exact Hid.out (by assumption)) | (with_reducible refine (hsk _ _ _ (by (first | omega | (simp only [World.size_alloc, World.size_setCell, size_setRow, World.size_drew]; done) | (simp only [World.size_alloc, World.size_setCell, size_setRow, World.size_drew]; omega)))).trans ?_) | (with_reducible refine (hat _ _ _ (by (first | omega | (simp only [World.size_alloc, World.size_setCell, size_setRow, World.size_drew]; done) | (simp only [World.size_alloc, World.size_setCell, size_setRow, World.size_drew]; omega))))) | (with_reducible refine Kep.block (Kep.alloc (Kep.refl _) _) ?_) | (with_reducible refine (heap_setCell_other _ _ _ _ (by (first | omega | (simp only []; omega) | (show _ ≠ _; omega)))).trans ?_) | (with_reducible refine (setRow_other _ _ _ _ (by (first | omega | (simp only []; omega) | (show _ ≠ _; omega)))).trans ?_) | (with_reducible refine (drew_heap _ _).trans ?_) | (with_reducible refine (drewN_heap _ _ _).trans ?_)))))))
  have FV : V.heap[w1.heap.size + 1]? = some (.cells (fltV (qc, qd)) 29 (0, 0)) := by rw [← hV]; (repeat (first | (with_reducible assumption) | (with_reducible exact Hid.out (by assumption)) | (with_reducible refine (hsk _ _ _ (by (first | omega | (simp only [World.size_alloc, World.size_setCell, size_setRow, World.size_drew]; done) | (simp only [World.size_alloc, World.size_setCell, size_setRow, World.size_drew]; omega)))).trans ?_) | (with_reducible refine (hat _ _ _ (by (first | omega | (simp only [World.size_alloc, World.size_setCell, size_setRow, World.size_drew]; done) | (simp only [World.size_alloc, World.size_setCell, size_setRow, World.size_drew]; omega))))) | (with_reducible refine Kep.block (Kep.alloc (Kep.refl _) _) ?_) | (with_reducible refine (heap_setCell_other _ _ _ _ (by (first | omega | (simp only []; omega) | (show _ ≠ _; omega)))).trans ?_) | (with_reducible refine (setRow_other _ _ _ _ (by (first | omega | (simp only []; omega) | (show _ ≠ _; omega)))).trans ?_) | (with_reducible refine (drew_heap _ _).trans ?_) | (with_reducible refine (drewN_heap _ _ _).trans ?_) | (with_reducible refine Kep.block (by assumption) ?_) | (with_reducible exact setRow_heap _ _ _ _ _ _ (by (repeat (first | (with_reducible assumption) | (with_reducible exact Hid.out (by assumption)) | (with_reducible refine (hsk _ _ _ (by (first | omega | (simp only [World.size_alloc, World.size_setCell, size_setRow, World.size_drew]; done) | (simp only [World.size_alloc, World.size_setCell, size_setRow, World.size_drew]; omega)))).trans ?_) | (with_reducible refine (hat _ _ _ (by (first | omega | (simp only [World.size_alloc, World.size_setCell, size_setRow, World.size_drew]; done) | (simp only [World.size_alloc, World.size_setCell, size_setRow, World.size_drew]; omega))))) | (with_reducible refine Kep.block (Kep.alloc (Kep.refl _) _) ?_) | (with_reducible refine (heap_setCell_other _ _ _ _ (by (first | omega | (simp only []; omega) | (show _ ≠ _; omega)))).trans ?_) | (with_reducible refine (setRow_other _ _ _ _ (by (first | omega | (simp only []; omega) | (show _ ≠ _; omega)))).trans ?_) | (with_reducible refine (drew_heap _ _).trans ?_) | (with_reducible refine (drewN_heap _ _ _).trans ?_)))))))
  have BV : Hid (V.heap[w.heap.size]? = some (.cells s0.v 25 (0, 0))) := by rw [← hV]; unfold Hid; (repeat (first | (with_reducible assumption) | (with_reducible exact Hid.out (by assumption)) | (with_reducible refine (hsk _ _ _ (by (first | omega | (simp only [World.size_alloc, World.size_setCell, size_setRow, World.size_drew]; done) | (simp only [World.size_alloc, World.size_setCell, size_setRow, World.size_drew]; omega)))).trans ?_) | (with_reducible refine (hat _ _ _ (by (first | omega | (simp only [World.size_alloc, World.size_setCell, size_setRow, World.size_drew]; done) | (simp only [World.size_alloc, World.size_setCell, size_setRow, World.size_drew]; omega))))) | (with_reducible refine Kep.block (Kep.alloc (Kep.refl _) _) ?_) | (with_reducible refine (heap_setCell_other _ _ _ _ (by (first | omega | (simp only []; omega) | (show _ ≠ _; omega)))).trans ?_) | (with_reducible refine (setRow_other _ _ _ _ (by (first | omega | (simp only []; omega) | (show _ ≠ _; omega)))).trans ?_) | (with_reducible refine (drew_heap _ _).trans ?_) | (with_reducible refine (drewN_heap _ _ _).trans ?_) | (with_reducible refine Kep.block (by assumption) ?_) | (with_reducible exact setRow_heap _ _ _ _ _ _ (by (repeat (first | (with_reducible assumption) | (with_reducible exact Hid.out (by assumption)) | (with_reducible refine (hsk _ _ _ (by (first | omega | (simp only [World.size_alloc, World.size_setCell, size_setRow, World.size_drew]; done) | (simp only [World.size_alloc, World.size_setCell, size_setRow, World.size_drew]; omega)))).trans ?_) | (with_reducible refine (hat _ _ _ (by (first | omega | (simp only [World.size_alloc, World.size_setCell, size_setRow, World.size_drew]; done) | (simp only [World.size_alloc, World.size_setCell, size_setRow, World.size_drew]; omega))))) | (with_reducible refine Kep.block (Kep.alloc (Kep.refl _) _) ?_) | (with_reducible refine (heap_setCell_other _ _ _ _ (by (first | omega | (simp only []; omega) | (show _ ≠ _; omega)))).trans ?_) | (with_reducible refine (setRow_other _ _ _ _ (by (first | omega | (simp only []; omega) | (show _ ≠ _; omega)))).trans ?_) | (with_reducible refine (drew_heap _ _).trans ?_) | (with_reducible refine (drewN_heap _ _ _).trans ?_)))))))
  have IV : V.heap[w.heap.size + 1]? = some (.cells (insA a1f0 a b a1f3) 27 (0, 0)) := by rw [← hV]; (repeat (first | (with_reducible assumption) | (with_reducible exact Hid.out (by assumption)) | (with_reducible refine (hsk _ _ _ (by (first | omega | (simp only [World.size_alloc, World.size_setCell, size_setRow, World.size_drew]; done) | (simp only [World.size_alloc, World.size_setCell, size_setRow, World.size_drew]; omega)))).trans ?_) | (with_reducible refine (hat _ _ _ (by (first | omega | (simp only [World.size_alloc, World.size_setCell, size_setRow, World.size_drew]; done) | (simp only [World.size_alloc, World.size_setCell, size_setRow, World.size_drew]; omega))))) | (with_reducible refine Kep.block (Kep.alloc (Kep.refl _) _) ?_) | (with_reducible refine (heap_setCell_other _ _ _ _ (by (first | omega | (simp only []; omega) | (show _ ≠ _; omega)))).trans ?_) | (with_reducible refine (setRow_other _ _ _ _ (by (first | omega | (simp only []; omega) | (show _ ≠ _; omega)))).trans ?_) | (with_reducible refine (drew_heap _ _).trans ?_) | (with_reducible refine (drewN_heap _ _ _).trans ?_) | (with_reducible refine Kep.block (by assumption) ?_) | (with_reducible exact setRow_heap _ _ _ _ _ _ (by (repeat (first | (with_reducible assumption) | (with_reducible exact Hid.out (by assumption)) | (with_reducible refine (hsk _ _ _ (by (first | omega | (simp only [World.size_alloc, World.size_setCell, size_setRow, World.size_drew]; done) | (simp only [World.size_alloc, World.size_setCell, size_setRow, World.size_drew]; omega)))).trans ?_) | (with_reducible refine (hat _ _ _ (by (first | omega | (simp only [World.size_alloc, World.size_setCell, size_setRow, World.size_drew]; done) | (simp only [World.size_alloc, World.size_setCell, size_setRow, World.size_drew]; omega))))) | (with_reducible refine Kep.block (Kep.alloc (Kep.refl _) _) ?_) | (with_reducible refine (heap_setCell_other _ _ _ _ (by (first | omega | (simp only []; omega) | (show _ ≠ _; omega)))).trans ?_) | (with_reducible refine (setRow_other _ _ _ _ (by (first | omega | (simp only []; omega) | (show _ ≠ _; omega)))).trans ?_) | (with_reducible refine (drew_heap _ _).trans ?_) | (with_reducible refine (drewN_heap _ _ _).trans ?_)))))))
  have GV : Hid (Kep w V) := kep_trans G1.out (by rw [← hV]; (repeat (first | (with_reducible assumption) | (with_reducible exact Kep.refl _) | (with_reducible exact Hid.out (by assumption)) | (with_reducible refine Kep.alloc ?_ _) | (with_reducible refine Kep.drew ?_) | (with_reducible refine Kep.drewN ?_ _) | (with_reducible refine Kep.setRow ?_ _ _ (by (first | omega | (simp only [World.size_alloc, World.size_setCell, size_setRow, World.size_drew]; done) | (simp only [World.size_alloc, World.size_setCell, size_setRow, World.size_drew]; omega)))) | (with_reducible refine Kep.setCell ?_ (by first | omega | (simp only []; omega) | (show _ ≤ _; omega)) _))))
  have k0 : V.cell? ⟨w1.heap.size + 1, 0, none⟩ = some (.int .i64 qc) := cell_of_block FV
  have IV' : Hid (V.heap[w.heap.size + 1]? = some (.cells (insA a1f0 a b a1f3) 27 (0, 0))) := IV
  clear hV FV IV A0 I0 G1
  by_cases hz : qc = 0
  · subst hz
    have P2' : Hid (∀ k, S.r k = s0.r k ∨ inS ws k = true) := P2.out (by first | rfl | trivial)
    obtain ⟨e1, e2, e3, e4⟩ := P3.out (by first | rfl | trivial)
    clear P1 P2 P3
    go_wp2_with fail
    refine (new_call _).mono ?_
    rintro e w2 ⟨p, o, kb, rfl, T2⟩
    obtain ⟨m0, m1, m2, m3⟩ := ins_at (T2.out.kep.block IV'.out)
    go_wp2_with fail
    refine (WR.out _ _ _ _ _ (hT'.out.grown GV.out) T2.out).mono ?_
    rintro e w3 ⟨rfl, T3, S3⟩
    have T3' : Hid (Tb V w3 p o kb) := T3
    clear T2 T3 S3 m0 m1 m2 m3 k0
    go_wp2_with fail
    go_loopw [11] (fun i wr => ∃ k : Nat, k ≤ 8 ∧ i = .int .i64 k ∧ Hid (Tb V wr p o kb)) (fun i _ => 8 - (intOf i).toNat)
    case atStart => exact ⟨0, by omega, rfl, T3'⟩
    case round =>
      obtain ⟨k, hk, rfl, hTb⟩ := hrel
      have AS : At wr w1.heap.size S := hTb.out.kep.block AV.out
      have AB : At wr w.heap.size s0 := hTb.out.kep.block BV.out
      rcases Nat.lt_or_ge k 8 with h8 | h8
      · have c1 := AS.reg k h8
        have c2 := AB.reg k h8
        have bz := bit_zero ws k wbd.1 wbd.2
        clear AS AB e1 e2 e3 e4
        by_cases hp : S.r k = s0.r k
        · have hne : (S.r k != s0.r k) = false := by simp [hp]
          rw [hp] at c1 hne
          clear hp bz
          go_wp2_with fail
          go_quiet (fail)
          go_wp2_with fail
          go_roundw
          case rel => exact ⟨k + 1, by omega, by go_num, hTb.out.kp ((Kep.refl _).drewN _)⟩
          case measure => simp [intOf]; omega
        · have hw : inS ws k = true := (P2'.out k).resolve_left hp
          have hne : (S.r k != s0.r k) = true := by simpa using hp
          rw [hw] at bz
          clear hp
          go_wp2_with fail
          go_quiet (fail)
          go_wp2_with fail
          go_roundw
          case rel => exact ⟨k + 1, by omega, by go_num, hTb.out.kp ((Kep.refl _).drewN _)⟩
          case measure => simp [intOf]; omega
      · obtain rfl : k = 8 := by omega
        have p1 := AS.ps
        have p2 := AB.ps
        obtain ⟨i0, i1, i2, i3⟩ := ins_at (hTb.out.kep.block IV'.out)
        obtain ⟨c0, c1, c2, c3, c4, c5, c6, c7, c8⟩ := AS.cr
        obtain ⟨d0, d1, d2, d3, d4, d5, d6, d7, d8⟩ := AB.cr
        rw [e3] at c0 c1 c2 c3 c4 c5 c6 c7
        rw [e4] at c8
        have hcr := fun w => cr_same s0 w
        have hcc : (bits .andNot .u32 S.ps 240 == bits .andNot .u32 s0.ps 240) = true := by rw [e2]; simp
        have G3 : Hid (Kep w wr) := kep_trans GV.out hTb.out.kep
        have E3 : Hid (S.c = s0.c) := e3
        have E4 : Hid (S.h = s0.h) := e4
        clear AS AB e2 e3 e4
        by_cases hps : S.ps = s0.ps
        · have hne : (s0.ps != s0.ps) = false := by simp
          rw [hps] at p1 hcc
          clear hps e1 hne
          go_wp2_with (go_at_call 10; refine (WK.out _ (hT'.out.grown G3.out)).mono ?_; rintro e w9 ⟨rfl, K9⟩; have G9 : Hid (Kep w w9) := kep_trans G3.out K9; clear K9)
          go_ret
          exact ⟨rfl, by (repeat (first | (with_reducible assumption) | (with_reducible exact Kep.refl _) | (with_reducible exact Hid.out (by assumption)) | (with_reducible refine Kep.alloc ?_ _) | (with_reducible refine Kep.drew ?_) | (with_reducible refine Kep.drewN ?_ _) | (with_reducible refine Kep.setRow ?_ _ _ (by (first | omega | (simp only [World.size_alloc, World.size_setCell, size_setRow, World.size_drew]; done) | (simp only [World.size_alloc, World.size_setCell, size_setRow, World.size_drew]; omega)))) | (with_reducible refine Kep.setCell ?_ (by first | omega | (simp only []; omega) | (show _ ≤ _; omega)) _)))⟩
        · have hne : (S.ps != s0.ps) = true := by simpa using hps
          obtain rfl : gt = true := e1.resolve_left hps
          clear hps e1
          go_wp2_with fail
          refine (TU.out _ _ _ _ _ hTb.out).mono ?_
          rintro e w4 ⟨rfl, T4, _⟩
          have AS : At w4 w1.heap.size S := T4.kep.block AV.out
          have AB : At w4 w.heap.size s0 := T4.kep.block BV.out
          have G4 : Hid (Kep w w4) := kep_trans GV.out T4.kep
          have q1 := AS.ps
          have q2 := AB.ps
          clear c0 c1 c2 c3 c4 c5 c6 c7 c8 d0 d1 d2 d3 d4 d5 d6 d7 d8 p1 p2 T4
          obtain ⟨c0, c1, c2, c3, c4, c5, c6, c7, c8⟩ := AS.cr
          obtain ⟨d0, d1, d2, d3, d4, d5, d6, d7, d8⟩ := AB.cr
          rw [E3.out] at c0 c1 c2 c3 c4 c5 c6 c7
          rw [E4.out] at c8
          clear AS AB
          go_wp2_with (go_at_call 10; refine (WK.out _ (hT'.out.grown G4.out)).mono ?_; rintro e w9 ⟨rfl, K9⟩; have G9 : Hid (Kep w w9) := kep_trans G4.out K9; clear K9)
          go_ret
          exact ⟨rfl, by (repeat (first | (with_reducible assumption) | (with_reducible exact Kep.refl _) | (with_reducible exact Hid.out (by assumption)) | (with_reducible refine Kep.alloc ?_ _) | (with_reducible refine Kep.drew ?_) | (with_reducible refine Kep.drewN ?_ _) | (with_reducible refine Kep.setRow ?_ _ _ (by (first | omega | (simp only [World.size_alloc, World.size_setCell, size_setRow, World.size_drew]; done) | (simp only [World.size_alloc, World.size_setCell, size_setRow, World.size_drew]; omega)))) | (with_reducible refine Kep.setCell ?_ (by first | omega | (simp only []; omega) | (show _ ≤ _; omega)) _)))⟩
  · have hz' : (qc != 0) = true := by simpa using hz
    obtain rfl : S = s0 := P1.out hz
    have hss : ∀ w, Sem.run Tryd.prog (Op.equalIn 10000 25 (.agg S.v) (.agg S.v)) w = .ok true w := fun w => sta_same S w
    go_wp2_with (first
      | (refine wpList_load_row (by rfl) 25 _ (by rfl) _ (by rfl) 25 _ (0, 0) _ blkA Tryd.underlying25 rfl (by exact size_sta) ?_)
      | (go_at_call 10; refine (WK.out _ (hT'.out.grown GV.out)).mono ?_; rintro e w4 ⟨rfl, K4⟩; have G4 : Hid (Kep w w4) := kep_trans GV.out K4; clear K4))
    go_ret
    exact ⟨rfl, by (repeat (first | (with_reducible assumption) | (with_reducible exact Kep.refl _) | (with_reducible exact Hid.out (by assumption)) | (with_reducible refine Kep.alloc ?_ _) | (with_reducible refine Kep.drew ?_) | (with_reducible refine Kep.drewN ?_ _) | (with_reducible refine Kep.setRow ?_ _ _ (by (first | omega | (simp only [World.size_alloc, World.size_setCell, size_setRow, World.size_drew]; done) | (simp only [World.size_alloc, World.size_setCell, size_setRow, World.size_drew]; omega)))) | (with_reducible refine Kep.setCell ?_ (by first | omega | (simp only []; omega) | (show _ ≤ _; omega)) _)))⟩
end Go.Proofs.YthimfiihebdchaaDoor
