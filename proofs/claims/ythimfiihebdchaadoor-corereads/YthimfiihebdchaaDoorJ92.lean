/- Part of a proof. -/
import Derived.Test.YthimfiihebdchaaDoorJ14
namespace Go.Proofs.YthimfiihebdchaaDoor
open Go.RowKit Go.WideShapes Go.ChangeShapes Go.ChangeAt
set_option linter.unusedVariables false
set_option linter.unusedSimpArgs false
theorem list2 {α : Type} (l : List α) (h : l.length = 2) : ∃ a b, l = [a, b] := by
  match l, h with
  | [a, b], _ => exact ⟨a, b, rfl⟩
theorem list3 {α : Type} (l : List α) (h : l.length = 3) : ∃ a b c, l = [a, b, c] := by
  match l, h with
  | [a, b, c], _ => exact ⟨a, b, c, rfl⟩
end Go.Proofs.YthimfiihebdchaaDoor
namespace Go.Proofs.YthimfiihebdchaaDoor
open Go.RowKit Go.ChangeShapes Go.WideShapes Go.ChangeAt
set_option linter.unusedVariables false
set_option linter.unusedSimpArgs false
theorem trod_two {H : Type} {enc : TypeId × Value → H} {P : Program} {w : World} {base : Nat} {spare : Nat → Bool} {held : Bool} {t : TypeId} {f0 f1 : Field} {fuel : Nat} {cs : List Value} {x : DataW H × List MemPlace}
    (ht : P.underlying t = some (.struct #[f0, f1])) (h : DataW.trod enc P w base spare held fuel t cs = some x) :
    ∃ y0 y1 n, cs.length = P.cellsOf t ∧ DataW.trod enc P w base spare held n f0.type ((cs.drop f0.offset).take (P.cellsOf f0.type)) = some y0 ∧
      DataW.trod enc P w base spare held n f1.type ((cs.drop f1.offset).take (P.cellsOf f1.type)) = some y1 := by
  obtain ⟨xs, n, _, rfl, hl, hlen, hf⟩ := DataW.trod_struct ht h
  match xs, hlen with
  | [y0, y1], _ => exact ⟨y0, y1, n, hl, by simpa using hf 0 f0 rfl, by simpa using hf 1 f1 rfl⟩
set_option maxRecDepth 100000 in
theorem open_oth {H : Type} {enc : TypeId × Value → H} {w : World} {r : Reach} {b0 base : Nat} {sp : Nat → Bool} {held : Bool} {v : Value} {d : DataW H} {p : List MemPlace} (hv : Value.okWide Tryd.prog w r b0 40 v) (h : DataW.Trod enc Tryd.prog w base sp held 40 v d p) :
    ∃ x y n : Int, v = .agg #[.int .u32 x, .int .u32 y, .int .u8 n] ∧ (0 ≤ x ∧ x < 4294967296) ∧ (0 ≤ y ∧ y < 4294967296) ∧ 0 ≤ n ∧ n < 256 := by
  obtain ⟨cs, rfl, _⟩ := okWide_struct Tryd.underlying40 hv
  obtain ⟨fuel, hf⟩ := h
  obtain ⟨y0, y1, n, hl, g0, g1⟩ := trod_two Tryd.underlying40 hf
  have c3 : Tryd.prog.cellsOf 40 = 3 := by kernel_rfl
  have c2 : Tryd.prog.cellsOf 38 = 2 := by kernel_rfl
  have c1 : Tryd.prog.cellsOf 22 = 1 := by kernel_rfl
  have cb : Tryd.prog.cellsOf 5 = 1 := by kernel_rfl
  rw [c3] at hl
  obtain ⟨v0, v1, v2, e⟩ := list3 _ hl
  rw [e] at g0 g1
  rw [c2] at g0
  rw [cb] at g1
  obtain ⟨zs, l0, e0, q0⟩ := arr_in Tryd.underlying38 Tryd.underlying22 c1 (by simp) g0
  obtain ⟨m, e1, _, q1⟩ := DataW.trod_int Tryd.underlying5 g1
  obtain ⟨x, y, rfl⟩ := list2 zs l0
  simp at e0 e1
  have bx := bounds_u32 (q0 x (by simp))
  have byy := bounds_u32 (q0 y (by simp))
  have bm := bounds_u8 q1
  refine ⟨x, y, m, ?_, by omega, by omega, by omega, by omega⟩
  have : cs = #[.int .u32 x, .int .u32 y, .int .u8 m] := Array.toList_inj.1 (by rw [show cs.toList = [v0, v1, v2] by simpa [Value.cells] using e]; simp [e0, e1])
  rw [this]
end Go.Proofs.YthimfiihebdchaaDoor
namespace Go.Proofs.YthimfiihebdchaaDoor
open Go.RowKit
set_option linter.unusedVariables false
set_option linter.unusedSimpArgs false
theorem up_at (r : Nat → Int) (a : Nat) (x : Int) : up r a x a = x := by unfold up; rw [if_pos rfl]
theorem up_off (r : Nat → Int) (a n : Nat) (x : Int) (h : n ≠ a) : up r a x n = r n := by unfold up; rw [if_neg h]
theorem Tb.kp {W w w' : World} {p o kb : Nat} (h : Tb W w p o kb) (k : Kep w w') : Tb W w' p o kb := ⟨k.block h.tab, h.asked.kep k, h.po, h.pk, kep_trans h.kep k, h.go, h.gk⟩
theorem TW.cell {w w2 : World} {p o kb : Nat} (i : TW w w2 p o kb) {b j : Nat} (hb : b < w2.heap.size) (h1 : b ≠ o) (h2 : b ≠ kb) : i.val.cell? ⟨b, j, none⟩ = w2.cell? ⟨b, j, none⟩ := by
  have := i.st.block b hb h1 h2
  simp only [World.cell?, this]
theorem region_tw {P : Program} {id : Nat} {Q : Exit → Act → World → Prop} {a : Act} {w w2 : World} {p o kb : Nat} {l : List Oper} (hm : P.follows .mixedOrders = true) (hB : Region.lexB .any l.toArray = true) (hT : Tb w w2 p o kb)
    (h : wpQuiet P l.toArray (fun w' => ∃ i : TW w w2 p o kb, w' = i.val) (fun a' => ∀ w', (∃ i : TW w w2 p o kb, w' = i.val) → Q .normal a' w') l a) : (Code.region id l.toArray true).wp P Q a w2 :=
  wp_region_quiet (C := fun w' => ∃ i : TW w w2 p o kb, w' = i.val) hm hB ⟨⟨_, hT.kp (Kep.refl w2).drew, (Stp.refl w2).drew⟩, rfl⟩ (by simpa using h)
def orB (pa pb : Bool) (it a b : Int) : Int := match pa, pb with
  | false, false => it
  | true, false => bits .or .u8 it (2 ^ a.toNat % 256)
  | false, true => bits .or .u8 it (2 ^ b.toNat % 256)
  | true, true => bits .or .u8 (bits .or .u8 it (2 ^ a.toNat % 256)) (2 ^ b.toNat % 256)
def setB (m pa pb : Bool) (it a b : Int) : Int := if m then orB pa pb it a b else 0
theorem may_seven (r : Nat) (hr : r < 10) (a b imm : Int) (hm : mayB r a b imm = true) : a ≤ 7 ∧ b ≤ 7 := by
  have h7 : f1 r ≤ 7 ∧ f2 r ≤ 7 := by
    refine ten (p := fun r => f1 r ≤ 7 ∧ f2 r ≤ 7) r hr ?_ ?_ ?_ ?_ ?_ ?_ ?_ ?_ ?_ ?_ <;> decide
  unfold mayB at hm
  simp only [Bool.and_eq_true, decide_eq_true_eq] at hm
  omega
set_option maxHeartbeats 2000000 in
theorem of_yes (pa pb : Bool) (it op a b imm : Int) (w : World) (h0 : 0 ≤ op) (h1 : op < 256) (h2 : -2147483648 ≤ imm) (h3 : imm ≤ 2147483647) (ha : 0 ≤ a) (ha7 : a ≤ 7) (hb : 0 ≤ b) (hb7 : b ≤ 7) (hT : Tabs w) (hm : mayB (rowOf op true) a b imm = true) :
    Calls Tryd.prog 33 #[.agg #[.bool pa, .bool pb, .int .u8 it], .agg (insA op a b imm)] w fun e w' => e = .returned (.int .u8 (orB pa pb it a b)) ∧ Kep w w' := by
  have hnot : ∀ (x : Bool) (w : World), (Op.unary .not (.bool x)).run Tryd.prog w = .ok (.bool (!x)) w := fun _ _ => rfl
  have hM : Hid (∀ w, Tabs w → Calls Tryd.prog 34 #[.agg (insA op a b imm), .bool true] w fun e w' => e = .returned (.bool true) ∧ Kep w w') := fun w hT => by
    have h := may_any op a b imm true w h0 h1 h2 h3 hT
    rw [hm] at h
    exact h
  have hT' : Hid (Tabs w) := hT
  clear hT hm h0 h1 h2 h3
  cases pa <;> cases pb
  all_goals
    go_enter Tryd.func33, Tryd.ntmps33
    go_wp2_with fail
    refine (hM.out _ (hT'.grown (((Kep.refl _).alloc _).alloc _))).mono ?_
    rintro e w1 ⟨rfl, g1⟩
    have K1 : Hid (Kep w w1) := kep_trans (((Kep.refl _).alloc _).alloc _) g1
    have c0 := g1.cell (o := 0) (b := w.heap.size) (by simp; omega)
    have c1 := g1.cell (o := 1) (b := w.heap.size) (by simp; omega)
    have c2 := g1.cell (o := 2) (b := w.heap.size) (by simp; omega)
    have d1 := g1.cell (o := 1) (b := w.heap.size + 1) (by simp)
    have d2 := g1.cell (o := 2) (b := w.heap.size + 1) (by simp)
    simp at c0 c1 c2 d1 d2
    clear g1
    go_wp2_with fail
    go_ret
    exact ⟨rfl, K1⟩
set_option maxHeartbeats 2000000 in
theorem of_no (pa pb : Bool) (it op a b imm : Int) (w : World) (h0 : 0 ≤ op) (h1 : op < 256) (h2 : -2147483648 ≤ imm) (h3 : imm ≤ 2147483647) (hT : Tabs w) (hm : mayB (rowOf op true) a b imm = false) :
    Calls Tryd.prog 33 #[.agg #[.bool pa, .bool pb, .int .u8 it], .agg (insA op a b imm)] w fun e w' => e = .returned (.int .u8 0) ∧ Kep w w' := by
  have hnot : ∀ (x : Bool) (w : World), (Op.unary .not (.bool x)).run Tryd.prog w = .ok (.bool (!x)) w := fun _ _ => rfl
  have hM : Hid (∀ w, Tabs w → Calls Tryd.prog 34 #[.agg (insA op a b imm), .bool true] w fun e w' => e = .returned (.bool false) ∧ Kep w w') := fun w hT => by
    have h := may_any op a b imm true w h0 h1 h2 h3 hT
    rw [hm] at h
    exact h
  have hT' : Hid (Tabs w) := hT
  clear hT hm h0 h1 h2 h3
  go_enter Tryd.func33, Tryd.ntmps33
  go_wp2_with fail
  refine (hM.out _ (hT'.grown (((Kep.refl _).alloc _).alloc _))).mono ?_
  rintro e w1 ⟨rfl, g1⟩
  have K1 : Hid (Kep w w1) := kep_trans (((Kep.refl _).alloc _).alloc _) g1
  clear g1
  go_wp2_with fail
  go_ret
  exact ⟨rfl, K1⟩
theorem kof_any (pa pb : Bool) (it op a b imm : Int) (w : World) (h0 : 0 ≤ op) (h1 : op < 256) (h2 : -2147483648 ≤ imm) (h3 : imm ≤ 2147483647) (ha : 0 ≤ a) (hb : 0 ≤ b) (hT : Tabs w) :
    Calls Tryd.prog 33 #[.agg #[.bool pa, .bool pb, .int .u8 it], .agg (insA op a b imm)] w fun e w' => e = .returned (.int .u8 (setB (mayB (rowOf op true) a b imm) pa pb it a b)) ∧ Kep w w' := by
  unfold setB
  cases hm : mayB (rowOf op true) a b imm
  · exact of_no pa pb it op a b imm w h0 h1 h2 h3 hT hm
  · obtain ⟨q1, q2⟩ := may_seven _ (rowOf_lt _ _) a b imm hm
    exact of_yes pa pb it op a b imm w h0 h1 h2 h3 ha q1 hb q2 hT hm
theorem field_r (o : Option Rw) (w : World) : (Instr.field 77 (.agg (gA o)) 1).run Tryd.prog w = .ok (.agg #[.bool (gRa o), .bool (gRb o), .int .u8 (gRi o)]) w := by kernel_rfl
theorem field_w (o : Option Rw) (w : World) : (Instr.field 77 (.agg (gA o)) 2).run Tryd.prog w = .ok (.agg #[.bool (gWa o), .bool (gWb o), .int .u8 (gWi o)]) w := by kernel_rfl
set_option maxHeartbeats 4000000 in
theorem reads_any (op a b imm : Int) (h0 : 0 ≤ op) (h1 : op < 256) (h2 : -2147483648 ≤ imm) (h3 : imm ≤ 2147483647) (ha : 0 ≤ a) (hb : 0 ≤ b) (W w : World) (p o kb : Nat) (hT : Tabs W) (h : Tb W w p o kb) :
    Calls Tryd.prog 15 #[.pointer (some ⟨p, 0, none⟩), .agg (insA op a b imm)] w fun e w' => e = .returned (.int .u8 (setB (mayB (rowOf op true) a b imm) (gRa (tabF op)) (gRb (tabF op)) (gRi (tabF op)) a b)) ∧ Tb W w' p o kb ∧ Stp o kb w w' := by
  have hA : Hid (∀ w1 w2 p o kb, Tb w1 w2 p o kb → Calls Tryd.prog 32 #[.pointer (some ⟨p, 0, none⟩), .int .u8 op] w2 fun e w' => e = .returned (.agg (gA (tabF op))) ∧ Asked w' o kb ∧ Stp o kb w2 w') := fun w1 w2 p o kb h => about_any op h0 h1 w1 w2 p o kb h
  have hO : Hid (∀ pa pb it w, Tabs w → Calls Tryd.prog 33 #[.agg #[.bool pa, .bool pb, .int .u8 it], .agg (insA op a b imm)] w fun e w' => e = .returned (.int .u8 (setB (mayB (rowOf op true) a b imm) pa pb it a b)) ∧ Kep w w') := fun pa pb it w hT => kof_any pa pb it op a b imm w h0 h1 h2 h3 ha hb hT
  have hT' : Hid (Tabs W) := hT
  have hfd := field_r (tabF op)
  have T1 : Hid (∀ x, Tb W (w.alloc x) p o kb) := fun x => h.kp ((Kep.refl _).alloc _)
  have hl := h.asked.lt
  clear h hT h0 h1 h2 h3 ha hb
  go_enter Tryd.func15, Tryd.ntmps15
  go_wp2_with fail
  have T3 := T1.out (.cells (insA op a b imm) 27)
  have l0 : ∀ i : TW W (w.alloc (.cells (insA op a b imm) 27)) p o kb, i.val.cell? ⟨w.heap.size, 0, none⟩ = some (.int .u8 op) := fun i => (i.cell (by simp) (by omega) (by omega)).trans (cell_of_block (heap_alloc_new _ _))
  have l1 : ∀ i : TW W (w.alloc (.cells (insA op a b imm) 27)) p o kb, i.val.cell? ⟨w.heap.size, 1, none⟩ = some (.int .u8 a) := fun i => (i.cell (by simp) (by omega) (by omega)).trans (cell_of_block (heap_alloc_new _ _))
  have l2 : ∀ i : TW W (w.alloc (.cells (insA op a b imm) 27)) p o kb, i.val.cell? ⟨w.heap.size, 2, none⟩ = some (.int .u8 b) := fun i => (i.cell (by simp) (by omega) (by omega)).trans (cell_of_block (heap_alloc_new _ _))
  have l3 : ∀ i : TW W (w.alloc (.cells (insA op a b imm) 27)) p o kb, i.val.cell? ⟨w.heap.size, 3, none⟩ = some (.int .i32 imm) := fun i => (i.cell (by simp) (by omega) (by omega)).trans (cell_of_block (heap_alloc_new _ _))
  have hne : Nonempty (TW W (w.alloc (.cells (insA op a b imm) 27)) p o kb) := ⟨⟨_, T3, Stp.refl _⟩⟩
  refine region_tw (by kernel_rfl) (by kernel_rfl) T3 ?_
  repeat (go_big_quiet_step ((first
    | (go_at_call 32; refine (hA.out _ _ _ _ _ (TW.tb _)).mono ?_; rintro e w6 ⟨rfl, T6, S6⟩; exact ⟨rfl, ⟨_, (TW.tb _).stp S6 T6, Stp.trans (TW.st _) S6⟩, rfl⟩)
    | (go_at_call 33; refine (hO.out _ _ _ _ (hT'.grown (TW.tb _).kep)).mono ?_; rintro e w6 ⟨rfl, g6⟩; exact ⟨rfl, ⟨_, (TW.tb _).kp g6, Stp.trans (TW.st _) (Stp.of_kep g6)⟩, rfl⟩))))
  refine wpQuiet_nil ?_
  rintro _ ⟨i, rfl⟩
  have G3 : Hid (Tb W i.val p o kb ∧ Stp o kb w i.val) := ⟨i.tb, Stp.trans (Stp.of_kep ((Kep.refl _).alloc _)) i.st⟩
  go_wp2_with fail
  go_ret
  exact ⟨rfl, G3.out⟩
set_option maxHeartbeats 4000000 in
theorem writes_any (op a b imm : Int) (h0 : 0 ≤ op) (h1 : op < 256) (h2 : -2147483648 ≤ imm) (h3 : imm ≤ 2147483647) (ha : 0 ≤ a) (hb : 0 ≤ b) (W w : World) (p o kb : Nat) (hT : Tabs W) (h : Tb W w p o kb) :
    Calls Tryd.prog 13 #[.pointer (some ⟨p, 0, none⟩), .agg (insA op a b imm)] w fun e w' => e = .returned (.int .u8 (setB (mayB (rowOf op true) a b imm) (gWa (tabF op)) (gWb (tabF op)) (gWi (tabF op)) a b)) ∧ Tb W w' p o kb ∧ Stp o kb w w' := by
  have hA : Hid (∀ w1 w2 p o kb, Tb w1 w2 p o kb → Calls Tryd.prog 32 #[.pointer (some ⟨p, 0, none⟩), .int .u8 op] w2 fun e w' => e = .returned (.agg (gA (tabF op))) ∧ Asked w' o kb ∧ Stp o kb w2 w') := fun w1 w2 p o kb h => about_any op h0 h1 w1 w2 p o kb h
  have hO : Hid (∀ pa pb it w, Tabs w → Calls Tryd.prog 33 #[.agg #[.bool pa, .bool pb, .int .u8 it], .agg (insA op a b imm)] w fun e w' => e = .returned (.int .u8 (setB (mayB (rowOf op true) a b imm) pa pb it a b)) ∧ Kep w w') := fun pa pb it w hT => kof_any pa pb it op a b imm w h0 h1 h2 h3 ha hb hT
  have hT' : Hid (Tabs W) := hT
  have hfd := field_w (tabF op)
  have T1 : Hid (∀ x, Tb W (w.alloc x) p o kb) := fun x => h.kp ((Kep.refl _).alloc _)
  have hl := h.asked.lt
  clear h hT h0 h1 h2 h3 ha hb
  go_enter Tryd.func13, Tryd.ntmps13
  go_wp2_with fail
  have T3 := T1.out (.cells (insA op a b imm) 27)
  have l0 : ∀ i : TW W (w.alloc (.cells (insA op a b imm) 27)) p o kb, i.val.cell? ⟨w.heap.size, 0, none⟩ = some (.int .u8 op) := fun i => (i.cell (by simp) (by omega) (by omega)).trans (cell_of_block (heap_alloc_new _ _))
  have l1 : ∀ i : TW W (w.alloc (.cells (insA op a b imm) 27)) p o kb, i.val.cell? ⟨w.heap.size, 1, none⟩ = some (.int .u8 a) := fun i => (i.cell (by simp) (by omega) (by omega)).trans (cell_of_block (heap_alloc_new _ _))
  have l2 : ∀ i : TW W (w.alloc (.cells (insA op a b imm) 27)) p o kb, i.val.cell? ⟨w.heap.size, 2, none⟩ = some (.int .u8 b) := fun i => (i.cell (by simp) (by omega) (by omega)).trans (cell_of_block (heap_alloc_new _ _))
  have l3 : ∀ i : TW W (w.alloc (.cells (insA op a b imm) 27)) p o kb, i.val.cell? ⟨w.heap.size, 3, none⟩ = some (.int .i32 imm) := fun i => (i.cell (by simp) (by omega) (by omega)).trans (cell_of_block (heap_alloc_new _ _))
  have hne : Nonempty (TW W (w.alloc (.cells (insA op a b imm) 27)) p o kb) := ⟨⟨_, T3, Stp.refl _⟩⟩
  refine region_tw (by kernel_rfl) (by kernel_rfl) T3 ?_
  repeat (go_big_quiet_step ((first
    | (go_at_call 32; refine (hA.out _ _ _ _ _ (TW.tb _)).mono ?_; rintro e w6 ⟨rfl, T6, S6⟩; exact ⟨rfl, ⟨_, (TW.tb _).stp S6 T6, Stp.trans (TW.st _) S6⟩, rfl⟩)
    | (go_at_call 33; refine (hO.out _ _ _ _ (hT'.grown (TW.tb _).kep)).mono ?_; rintro e w6 ⟨rfl, g6⟩; exact ⟨rfl, ⟨_, (TW.tb _).kp g6, Stp.trans (TW.st _) (Stp.of_kep g6)⟩, rfl⟩))))
  refine wpQuiet_nil ?_
  rintro _ ⟨i, rfl⟩
  have G3 : Hid (Tb W i.val p o kb ∧ Stp o kb w i.val) := ⟨i.tb, Stp.trans (Stp.of_kep ((Kep.refl _).alloc _)) i.st⟩
  go_wp2_with fail
  go_ret
  exact ⟨rfl, G3.out⟩
theorem regIf_pc (s : Sta) (k : Bool) (a : Nat) (x : Int) : (s.regIf k a x).pc = s.pc := by cases k <;> rfl
theorem markIf_pc (s : Sta) (k : Bool) (x : Int) : (s.markIf k x).pc = s.pc := by cases k <;> rfl
theorem doS_is (s : Sta) (op : Int) (a b : Nat) (imm v : Int) (h : (doF s op a b imm).1 = 0) : isIns op a b imm = true ∧ doS s op a b imm v = workS (nextS s op) op a b imm v ∧
    (op = 0 ∨ (16 ≤ op ∧ op ≤ 33) ∨ (48 ≤ op ∧ op ≤ 58) ∨ (64 ≤ op ∧ op ≤ 74)) := by
  have hi : isIns op a b imm = true := by
    cases q : isIns op a b imm with
    | true => rfl
    | false => unfold doF at h; rw [q] at h; exact absurd h (show ¬ (1 : Int) = 0 by decide)
  refine ⟨hi, by unfold doS; rw [if_pos h], ?_⟩
  have h2 := hi
  unfold isIns at h2
  simp only [Bool.and_eq_true, bne_iff_ne, ne_eq] at h2
  rcases cls_cases op h2.2 with hc | hc | hc | hc | hc
  · exact .inl hc
  · exact .inr (.inl hc)
  · exact .inr (.inr (.inl hc))
  · exact .inr (.inr (.inr hc))
  · exfalso
    unfold doF at h; rw [hi] at h
    unfold workF at h
    have e : cls op = 5 := by rw [hc]; rfl
    rw [e] at h
    exact absurd h (show ¬ (8 : Int) = 0 by decide)
theorem workS_alu (s : Sta) (op : Int) (a b : Nat) (imm v : Int) (hc : 16 ≤ op ∧ op ≤ 33) : workS s op a b imm v = reckS s op a b imm := by
  have e : cls op = 2 := by unfold cls; rw [if_neg (by omega), if_pos hc]
  unfold workS; rw [e]; rfl
theorem workS_mem (s : Sta) (op : Int) (a b : Nat) (imm v : Int) (hc : 48 ≤ op ∧ op ≤ 58) : workS s op a b imm v = movS s op a v := by
  have e : cls op = 3 := by unfold cls; rw [if_neg (by omega), if_neg (by omega), if_pos hc]
  unfold workS; rw [e]; rfl
theorem workS_jmp (s : Sta) (op : Int) (a b : Nat) (imm v : Int) (hc : 64 ≤ op ∧ op ≤ 74) : workS s op a b imm v = jmpS s op a imm := by
  have e : cls op = 4 := by unfold cls; rw [if_neg (by omega), if_neg (by omega), if_neg (by omega), if_pos hc]
  unfold workS; rw [e]; rfl
theorem workS_nop (s : Sta) (a b : Nat) (imm v : Int) : workS s 0 a b imm v = s := by unfold workS; rfl
def inS (w : Int) (k : Nat) : Bool := w.toNat.testBit k
theorem two_mod (k : Nat) (h : k < 8) : (2 : Int) ^ k % 256 = ((2 ^ k : Nat) : Int) ∧ 2 ^ k < 256 := by
  have t : ∀ k, k < 8 → (2 : Int) ^ k % 256 = ((2 ^ k : Nat) : Int) ∧ 2 ^ k < 256 := by decide
  exact t k h
theorem or8 (x : Int) (k : Nat) (h0 : 0 ≤ x) (h1 : x < 256) (hk : k < 8) : bits .or .u8 x (2 ^ k % 256) = ((x.toNat ||| 2 ^ k : Nat) : Int) ∧ x.toNat ||| 2 ^ k < 256 := by
  obtain ⟨n, rfl⟩ : ∃ n : Nat, x = n := ⟨x.toNat, by omega⟩
  obtain ⟨e, hl⟩ := two_mod k hk
  rw [e, u8_or_nat n (2 ^ k) (by omega) hl]
  exact ⟨rfl, Nat.or_lt_two_pow (n := 8) (by omega) (by omega)⟩
theorem inS_or (x : Int) (k n : Nat) (h0 : 0 ≤ x) (h1 : x < 256) (hk : k < 8) : inS (bits .or .u8 x (2 ^ k % 256)) n = (inS x n || decide (n = k)) := by
  obtain ⟨e, _⟩ := or8 x k h0 h1 hk
  unfold inS
  rw [e, Int.toNat_natCast, Nat.testBit_or, Nat.testBit_two_pow]
  congr 1
  rw [Bool.eq_iff_iff]; simp; omega
theorem inS_orB (pa pb : Bool) (it : Int) (a b n : Nat) (h0 : 0 ≤ it) (h1 : it < 256) (ha : a < 8) (hb : b < 8) : inS (orB pa pb it a b) n = (inS it n || (pa && decide (n = a)) || (pb && decide (n = b))) := by
  cases pa <;> cases pb
  · simp [orB]
  · show inS (bits .or .u8 it (2 ^ ((b : Int).toNat) % 256)) n = _
    rw [Int.toNat_natCast, inS_or _ _ _ h0 h1 hb]; simp
  · show inS (bits .or .u8 it (2 ^ ((a : Int).toNat) % 256)) n = _
    rw [Int.toNat_natCast, inS_or _ _ _ h0 h1 ha]; simp
  · show inS (bits .or .u8 (bits .or .u8 it (2 ^ ((a : Int).toNat) % 256)) (2 ^ ((b : Int).toNat) % 256)) n = _
    obtain ⟨e, hl⟩ := or8 it a h0 h1 ha
    rw [Int.toNat_natCast, Int.toNat_natCast, inS_or _ _ _ (by rw [e]; omega) (by rw [e]; omega) hb, inS_or _ _ _ h0 h1 ha]; simp
theorem orB_range (pa pb : Bool) (it : Int) (a b : Nat) (h0 : 0 ≤ it) (h1 : it < 256) (ha : a < 8) (hb : b < 8) : 0 ≤ orB pa pb it a b ∧ orB pa pb it a b < 256 := by
  cases pa <;> cases pb
  · exact ⟨h0, h1⟩
  · show 0 ≤ bits .or .u8 it (2 ^ ((b : Int).toNat) % 256) ∧ bits .or .u8 it (2 ^ ((b : Int).toNat) % 256) < 256
    obtain ⟨e, hl⟩ := or8 it b h0 h1 hb
    rw [Int.toNat_natCast, e]; omega
  · show 0 ≤ bits .or .u8 it (2 ^ ((a : Int).toNat) % 256) ∧ bits .or .u8 it (2 ^ ((a : Int).toNat) % 256) < 256
    obtain ⟨e, hl⟩ := or8 it a h0 h1 ha
    rw [Int.toNat_natCast, e]; omega
  · show 0 ≤ bits .or .u8 (bits .or .u8 it (2 ^ ((a : Int).toNat) % 256)) (2 ^ ((b : Int).toNat) % 256) ∧ bits .or .u8 (bits .or .u8 it (2 ^ ((a : Int).toNat) % 256)) (2 ^ ((b : Int).toNat) % 256) < 256
    obtain ⟨e, hl⟩ := or8 it a h0 h1 ha
    obtain ⟨e2, hl2⟩ := or8 ((it.toNat ||| 2 ^ a : Nat) : Int) b (by omega) (by omega) hb
    rw [Int.toNat_natCast, Int.toNat_natCast, e, e2]; omega
theorem set_tab : ∀ n : Nat, n < 256 → 0 ≤ gWi (tabF (n : Int)) ∧ gWi (tabF (n : Int)) < 256 ∧ 0 ≤ gRi (tabF (n : Int)) ∧ gRi (tabF (n : Int)) < 256 := by decide +kernel
theorem row_tab : ∀ n : Nat, n < 112 → rowOf (n : Int) true = rowOf (n : Int) false := by decide +kernel
def wset (op : Int) (a b : Nat) (imm : Int) : Int := setB (mayB (rowOf op true) a b imm) (gWa (tabF op)) (gWb (tabF op)) (gWi (tabF op)) a b
def rset (op : Int) (a b : Nat) (imm : Int) : Int := setB (mayB (rowOf op true) a b imm) (gRa (tabF op)) (gRb (tabF op)) (gRi (tabF op)) a b
theorem setB_range (op : Int) (a b : Nat) (imm : Int) (pa pb : Bool) (it : Int) (h0 : 0 ≤ it) (h1 : it < 256) : 0 ≤ setB (mayB (rowOf op true) a b imm) pa pb it a b ∧ setB (mayB (rowOf op true) a b imm) pa pb it a b < 256 := by
  unfold setB
  split
  · rename_i hm
    obtain ⟨ha, hb⟩ := may_seven _ (rowOf_lt op true) _ _ _ hm
    exact orB_range pa pb it a b h0 h1 (by omega) (by omega)
  · exact ⟨by decide, by decide⟩
theorem wset_range (op : Int) (a b : Nat) (imm : Int) (h0 : 0 ≤ op) (h1 : op < 256) : 0 ≤ wset op a b imm ∧ wset op a b imm < 256 := by
  obtain ⟨n, rfl⟩ : ∃ n : Nat, op = n := ⟨op.toNat, by omega⟩
  obtain ⟨t0, t1, t2, t3⟩ := set_tab n (by omega)
  exact setB_range _ a b imm _ _ _ t0 t1
theorem pow_cast : ∀ r : Nat, (2 : Int) ^ r = ((2 ^ r : Nat) : Int)
  | 0 => rfl
  | r + 1 => by rw [Int.pow_succ, pow_cast r, Nat.pow_succ]; rfl
theorem bit_val (x : Int) (r : Nat) (h0 : 0 ≤ x) (h1 : x < 256) : bits .and .u8 (x / 2 ^ r) 1 = (if inS x r then 1 else 0) := by
  obtain ⟨n, rfl⟩ : ∃ n : Nat, x = n := ⟨x.toNat, by omega⟩
  have e : (n : Int) / 2 ^ r = ((n / 2 ^ r : Nat) : Int) := by rw [pow_cast r]; rfl
  have hl : n / 2 ^ r < 256 := Nat.lt_of_le_of_lt (Nat.div_le_self _ _) (by omega)
  rw [e, show (1 : Int) = ((1 : Nat) : Int) from rfl, u8_and_nat _ 1 hl (by decide), Nat.and_one_is_mod]
  unfold inS
  rw [Int.toNat_natCast, Nat.testBit_eq_decide_div_mod_eq]
  by_cases q : n / 2 ^ r % 2 = 1
  · rw [q]; simp
  · have : n / 2 ^ r % 2 = 0 := by omega
    rw [this]; simp
theorem bit_one (x : Int) (r : Nat) (h0 : 0 ≤ x) (h1 : x < 256) : (bits .and .u8 (x / 2 ^ r) 1 == 1) = inS x r := by
  rw [bit_val x r h0 h1]; cases inS x r <;> rfl
theorem wa_alu : ∀ n : Nat, n < 256 → 16 ≤ n ∧ n ≤ 33 → keepsB (n : Int) = true → gWa (tabF (n : Int)) = true := by decide +kernel
theorem wa_mem : ∀ n : Nat, n < 256 → 48 ≤ n ∧ n ≤ 58 → takes (n : Int) = true → gWa (tabF (n : Int)) = true := by decide +kernel
theorem wi_stk : ∀ n : Nat, n < 256 → n = 56 ∨ n = 57 → inS (gWi (tabF (n : Int))) 7 = true := by decide +kernel
theorem wi_lnk : ∀ n : Nat, n < 256 → n = 72 ∨ n = 74 → inS (gWi (tabF (n : Int))) 6 = true := by decide +kernel
theorem ra_alu : ∀ n : Nat, n < 256 → 16 ≤ n ∧ n ≤ 33 → n ≠ 16 → n ≠ 32 → gRa (tabF (n : Int)) = true := by decide +kernel
theorem rb_alu : ∀ n : Nat, n < 256 → 16 ≤ n ∧ n ≤ 31 → gRb (tabF (n : Int)) = true := by decide +kernel
theorem rb_mem : ∀ n : Nat, n < 256 → 48 ≤ n ∧ n ≤ 58 → n ≠ 56 → n ≠ 57 → gRb (tabF (n : Int)) = true := by decide +kernel
theorem ri_stk : ∀ n : Nat, n < 256 → n = 56 ∨ n = 57 → inS (gRi (tabF (n : Int))) 7 = true := by decide +kernel
theorem ra_jmp : ∀ n : Nat, n < 256 → n = 73 ∨ n = 74 → gRa (tabF (n : Int)) = true := by decide +kernel
theorem regIf_r (s : Sta) (k : Bool) (a n : Nat) (x : Int) (h : k = true → n ≠ a) : (s.regIf k a x).r n = s.r n := by
  cases k
  · rfl
  · exact up_off _ _ _ _ (h rfl)
theorem markIf_r (s : Sta) (k : Bool) (x : Int) : (s.markIf k x).r = s.r := by cases k <;> rfl
theorem stack_r (s : Sta) (op : Int) (n : Nat) (h : op = 56 ∨ op = 57 → n ≠ 7) : (stackS s op).r n = s.r n := by
  unfold stackS
  by_cases h1 : op = 56
  · rw [if_pos h1]; exact up_off _ _ _ _ (h (.inl h1))
  · rw [if_neg h1]
    by_cases h2 : op = 57
    · rw [if_pos h2]; exact up_off _ _ _ _ (h (.inr h2))
    · rw [if_neg h2]
theorem link_r (s : Sta) (op back : Int) (n : Nat) (h : op = 72 ∨ op = 74 → n ≠ 6) : (linkS s op back).r n = s.r n := by
  unfold linkS
  by_cases h1 : op = 72 ∨ op = 74
  · rw [if_pos h1]; exact up_off _ _ _ _ (h h1)
  · rw [if_neg h1]
theorem jmp_r (s : Sta) (op : Int) (a : Nat) (imm : Int) (n : Nat) (h : op = 72 ∨ op = 74 → n ≠ 6) : (jmpS s op a imm).r n = s.r n := by
  unfold jmpS
  split
  · rw [link_r _ _ _ _ h]; rfl
  · rfl
theorem set_is (n : Nat) (a b : Nat) (imm : Int) (hn : n < 112) (hi : isIns n a b imm = true) : a < 8 ∧ b < 8 ∧ (∀ pa pb it, setB (mayB (rowOf (n : Int) true) a b imm) pa pb it a b = orB pa pb it a b) := by
  unfold isIns at hi
  simp only [Bool.and_eq_true] at hi
  obtain ⟨ha, hb⟩ := may_reg n false a b imm hi.1
  refine ⟨by omega, by omega, fun pa pb it => ?_⟩
  rw [row_tab n hn, hi.1]
  rfl
theorem writes_of (s : Sta) (op : Int) (a b : Nat) (imm v : Int) (h0 : 0 ≤ op) (h1 : op < 256) (h : (doF s op a b imm).1 = 0) (k : Nat) : (doS s op a b imm v).r k = s.r k ∨ inS (wset op a b imm) k = true := by
  obtain ⟨hi, eS, hc⟩ := doS_is s op a b imm v h
  obtain ⟨n, rfl⟩ : ∃ n : Nat, op = n := ⟨op.toNat, by omega⟩
  obtain ⟨ha, hb, hset⟩ := set_is n a b imm (by omega) hi
  obtain ⟨t0, t1, t2, t3⟩ := set_tab n (by omega)
  rw [eS]
  unfold wset
  rw [hset, inS_orB _ _ _ _ _ _ t0 t1 ha hb]
  rcases hc with hc | hc | hc | hc
  · left
    have hn : n = 0 := by omega
    subst hn
    rw [show ((0 : Nat) : Int) = 0 from rfl, workS_nop]; rfl
  · by_cases hk : keepsB (n : Int) = true ∧ k = a
    · right
      rw [wa_alu n (by omega) (by omega) hk.1]
      simp [hk.2]
    · left
      rw [workS_alu _ _ _ _ _ _ hc]; unfold reckS
      rw [markIf_r, regIf_r _ _ _ _ _ (fun q e => hk ⟨q, e⟩)]; rfl
  · by_cases hs : (n = 56 ∨ n = 57) ∧ k = 7
    · right
      rw [hs.2, wi_stk n (by omega) hs.1]; simp
    · by_cases hk : takes (n : Int) = true ∧ k = a
      · right
        rw [wa_mem n (by omega) (by omega) hk.1]
        simp [hk.2]
      · left
        rw [workS_mem _ _ _ _ _ _ hc]; unfold movS
        rw [regIf_r _ _ _ _ _ (fun q e => hk ⟨q, e⟩), stack_r _ _ _ (fun q e => hs ⟨by omega, e⟩)]; rfl
  · by_cases hs : (n = 72 ∨ n = 74) ∧ k = 6
    · right
      rw [hs.2, wi_lnk n (by omega) hs.1]; simp
    · left
      rw [workS_jmp _ _ _ _ _ _ hc, jmp_r _ _ _ _ _ (fun q e => hs ⟨by omega, e⟩)]; rfl
theorem regIf_ps (s : Sta) (k : Bool) (a : Nat) (x : Int) : (s.regIf k a x).ps = s.ps ∧ (s.regIf k a x).c = s.c ∧ (s.regIf k a x).h = s.h := by cases k <;> exact ⟨rfl, rfl, rfl⟩
theorem sta_ext {s t : Sta} (hr : ∀ n, s.r n = t.r n) (h1 : s.pc = t.pc) (h2 : s.ps = t.ps) (h3 : s.c = t.c) (h4 : s.h = t.h) : s = t := by
  cases s; cases t
  simp only at hr h1 h2 h3 h4
  subst h1 h2 h3 h4
  congr 1
  exact funext hr
theorem regIf_at (s : Sta) (k : Bool) (a n : Nat) (x : Int) : (s.regIf k a x).r n = if k = true ∧ n = a then x else s.r n := by
  cases k
  · simp [Sta.regIf]
  · show up s.r a x n = _
    unfold up; simp
theorem markIf_ps (s : Sta) (k : Bool) (x : Int) : (s.markIf k x).ps = (if k then x else s.ps) ∧ (s.markIf k x).c = s.c ∧ (s.markIf k x).h = s.h := by cases k <;> exact ⟨rfl, rfl, rfl⟩
structure OffR (r : Nat) (u t : Sta) : Prop where
  r : ∀ n, n ≠ r → u.r n = t.r n
  pc : u.pc = t.pc
  ps : u.ps = t.ps
  c : u.c = t.c
  h : u.h = t.h
theorem OffR.back {r : Nat} {u t : Sta} (h : OffR r u t) (y : Int) (hy : t.r r = y) : u.reg r y = t := by
  refine sta_ext (fun n => ?_) h.pc h.ps h.c h.h
  by_cases e : n = r
  · subst e; exact (up_at _ _ _).trans hy.symm
  · exact (up_off _ _ _ _ e).trans (h.r n e)
theorem off_reg (s : Sta) (r : Nat) (x : Int) : OffR r (s.reg r x) s := ⟨fun n h => up_off _ _ _ _ h, rfl, rfl, rfl, rfl⟩
theorem OffR.next {r : Nat} {u t : Sta} (h : OffR r u t) (op : Int) : OffR r (nextS u op) (nextS t op) := ⟨h.r, by show (u.pc + _) % _ = (t.pc + _) % _; rw [h.pc], h.ps, h.c, h.h⟩
theorem OffR.regIf {r : Nat} {u t : Sta} (h : OffR r u t) (k : Bool) (a : Nat) (x : Int) : OffR r (u.regIf k a x) (t.regIf k a x) := by
  obtain ⟨p1, p2, p3⟩ := regIf_ps u k a x
  obtain ⟨q1, q2, q3⟩ := regIf_ps t k a x
  refine ⟨fun n hn => ?_, by rw [regIf_pc, regIf_pc, h.pc], by rw [p1, q1, h.ps], by rw [p2, q2, h.c], by rw [p3, q3, h.h]⟩
  rw [regIf_at, regIf_at, h.r n hn]
theorem OffR.markIf {r : Nat} {u t : Sta} (h : OffR r u t) (k : Bool) (x : Int) : OffR r (u.markIf k x) (t.markIf k x) := by
  obtain ⟨p1, p2, p3⟩ := markIf_ps u k x
  obtain ⟨q1, q2, q3⟩ := markIf_ps t k x
  exact ⟨fun n hn => by rw [markIf_r, markIf_r, h.r n hn], by rw [markIf_pc, markIf_pc, h.pc], by rw [p1, q1, h.ps], by rw [p2, q2, h.c], by rw [p3, q3, h.h]⟩
theorem OffR.reg {r : Nat} {u t : Sta} (h : OffR r u t) (a : Nat) (x : Int) : OffR r (u.reg a x) (t.reg a x) := h.regIf true a x
theorem OffR.go {r : Nat} {u t : Sta} (h : OffR r u t) (x : Int) : OffR r (u.go x) (t.go x) := ⟨h.r, rfl, h.ps, h.c, h.h⟩
theorem OffR.stack {r : Nat} {u t : Sta} (h : OffR r u t) (op : Int) (h7 : op = 56 ∨ op = 57 → r ≠ 7) : OffR r (stackS u op) (stackS t op) := by
  unfold stackS
  by_cases h1 : op = 56
  · rw [if_pos h1, if_pos h1, h.r 7 (fun e => h7 (.inl h1) e.symm)]; exact h.reg _ _
  · rw [if_neg h1, if_neg h1]
    by_cases h2 : op = 57
    · rw [if_pos h2, if_pos h2, h.r 7 (fun e => h7 (.inr h2) e.symm)]; exact h.reg _ _
    · rw [if_neg h2, if_neg h2]; exact h
theorem OffR.jmp {r : Nat} {u t : Sta} (h : OffR r u t) (op : Int) (a : Nat) (imm : Int) (hra : op = 73 ∨ op = 74 → r ≠ a) : OffR r (jmpS u op a imm) (jmpS t op a imm) := by
  have ej : jto u op a imm = jto t op a imm := by
    unfold jto
    by_cases h1 : op = 73 ∨ op = 74
    · rw [if_pos h1, if_pos h1, h.r a (fun e => hra h1 e.symm)]
    · rw [if_neg h1, if_neg h1, h.pc]
  unfold jmpS
  rw [h.ps, ej, h.pc]
  split
  · unfold linkS
    split
    · exact (h.go _).reg _ _
    · exact h.go _
  · exact h
theorem sec_off {r : Nat} {u t : Sta} (h : OffR r u t) (op : Int) (b : Nat) (imm : Int) (hb : op ≠ 32 → op ≠ 33 → r ≠ b) : secN u op b imm = secN t op b imm := by
  unfold secN
  by_cases h1 : op = 32 ∨ op = 33
  · rw [if_pos h1, if_pos h1]
  · rw [if_neg h1, if_neg h1, h.r b (fun e => hb (by omega) (by omega) e.symm)]
theorem adr_off {r : Nat} {u t : Sta} (h : OffR r u t) (op : Int) (b : Nat) (imm : Int) (h7 : op = 56 ∨ op = 57 → r ≠ 7) (hb : op ≠ 56 → op ≠ 57 → r ≠ b) : adr u op b imm = adr t op b imm := by
  unfold adr
  by_cases h1 : op = 56
  · rw [if_pos h1, if_pos h1, h.r 7 (fun e => h7 (.inl h1) e.symm)]
  · rw [if_neg h1, if_neg h1]
    by_cases h2 : op = 57
    · rw [if_pos h2, if_pos h2, h.r 7 (fun e => h7 (.inr h2) e.symm)]
    · rw [if_neg h2, if_neg h2, h.r b (fun e => hb h1 h2 e.symm)]
theorem reads_of (s : Sta) (op : Int) (a b : Nat) (imm v : Int) (r : Nat) (x : Int) (h0 : 0 ≤ op) (h1 : op < 256) (hr : inS (rset op a b imm) r = false) (hw : inS (wset op a b imm) r = false) :
    doF (s.reg r x) op a b imm = doF s op a b imm ∧ (doS (s.reg r x) op a b imm v).reg r (s.r r) = doS s op a b imm v := by
  have O := off_reg s r x
  cases hi : isIns op a b imm with
  | false =>
    have e1 : ∀ t : Sta, doF t op a b imm = (1, t.pc) := fun t => by unfold doF; rw [hi]; rfl
    have e2 : ∀ t : Sta, doS t op a b imm v = t := fun t => by unfold doS; rw [e1]; exact if_neg (show ¬ (1 : Int) = 0 by decide)
    rw [e1, e1, e2, e2]
    exact ⟨rfl, O.back _ rfl⟩
  | true =>
    obtain ⟨n, rfl⟩ : ∃ n : Nat, op = n := ⟨op.toNat, by omega⟩
    have hi' := hi
    unfold isIns at hi'
    simp only [Bool.and_eq_true, bne_iff_ne, ne_eq] at hi'
    have hc := cls_cases _ hi'.2
    obtain ⟨ha, hb, hset⟩ := set_is n a b imm (by omega) hi
    obtain ⟨t0, t1, t2, t3⟩ := set_tab n (by omega)
    unfold rset at hr
    unfold wset at hw
    rw [hset, inS_orB _ _ _ _ _ _ t2 t3 ha hb] at hr
    rw [hset, inS_orB _ _ _ _ _ _ t0 t1 ha hb] at hw
    simp only [Bool.or_eq_false_iff] at hr hw
    obtain ⟨⟨r1, r2⟩, r3⟩ := hr
    obtain ⟨⟨w1, w2⟩, w3⟩ := hw
    have ON := O.next n
    have eF : ∀ t : Sta, doF t n a b imm = workF (nextS t n) n a b imm := fun t => by unfold doF; rw [hi]; rfl
    suffices H : workF (nextS (s.reg r x) n) n a b imm = workF (nextS s n) n a b imm ∧ ((workF (nextS s n) n a b imm).1 = 0 → OffR r (workS (nextS (s.reg r x) n) n a b imm v) (workS (nextS s n) n a b imm v)) by
      obtain ⟨H1, H2⟩ := H
      have e1 : doF (s.reg r x) n a b imm = doF s n a b imm := by rw [eF, eF, H1]
      refine ⟨e1, ?_⟩
      by_cases hz : (doF s n a b imm).1 = 0
      · have W := writes_of s n a b imm v h0 h1 hz r
        have hzz : inS (wset n a b imm) r = false := by
          unfold wset
          rw [hset, inS_orB _ _ _ _ _ _ t0 t1 ha hb, w1, w2, w3]; rfl
        rw [hzz] at W
        have W' : (doS s n a b imm v).r r = s.r r := W.resolve_right (by decide)
        have hz2 : (workF (nextS s n) n a b imm).1 = 0 := by rw [← eF]; exact hz
        have q1 : doS s n a b imm v = workS (nextS s n) n a b imm v := by unfold doS; rw [if_pos hz]
        have q2 : doS (s.reg r x) n a b imm v = workS (nextS (s.reg r x) n) n a b imm v := by unfold doS; rw [e1, if_pos hz]
        have OO := H2 hz2
        rw [← q1, ← q2] at OO
        exact OO.back _ W'
      · have q1 : doS s n a b imm v = s := by unfold doS; rw [if_neg hz]
        have q2 : doS (s.reg r x) n a b imm v = s.reg r x := by unfold doS; rw [e1, if_neg hz]
        rw [q1, q2]
        exact O.back _ rfl
    have na : gRa (tabF (n : Int)) = true ∨ gWa (tabF (n : Int)) = true → r ≠ a := fun h e => by
      rcases h with h | h
      · rw [h, e] at r2; simp at r2
      · rw [h, e] at w2; simp at w2
    have nb : gRb (tabF (n : Int)) = true → r ≠ b := fun h e => by rw [h, e] at r3; simp at r3
    have n7 : n = 56 ∨ n = 57 → r ≠ 7 := fun h e => by rw [e, ri_stk n (by omega) h] at r1; simp at r1
    generalize nextS (s.reg r x) n = u at *
    generalize nextS s n = t at *
    rcases hc with hc | hc | hc | hc | hc
    · have hn : n = 0 := by omega
      subst hn
      refine ⟨rfl, fun _ => ?_⟩
      rw [show ((0 : Nat) : Int) = 0 from rfl, workS_nop, workS_nop]; exact ON
    · have ec : cls (n : Int) = 2 := by unfold cls; rw [if_neg (by omega), if_pos hc]
      have hra : r ≠ a := by
        apply na
        by_cases h16 : n = 16
        · right; exact wa_alu n (by omega) (by omega) (by rw [h16]; rfl)
        by_cases h32 : n = 32
        · right; exact wa_alu n (by omega) (by omega) (by rw [h32]; rfl)
        left; exact ra_alu n (by omega) (by omega) h16 h32
      have es : secN u n b imm = secN t n b imm := sec_off ON n b imm (fun q1 q2 => nb (rb_alu n (by omega) (by omega)))
      have er : u.r a = t.r a := ON.r a (fun e => hra e.symm)
      refine ⟨by unfold workF; rw [ec, es]; rfl, fun _ => ?_⟩
      rw [workS_alu _ _ _ _ _ _ hc, workS_alu _ _ _ _ _ _ hc]
      unfold reckS
      rw [es, er, ON.ps]
      exact (ON.regIf _ _ _).markIf _ _
    · have ec : cls (n : Int) = 3 := by unfold cls; rw [if_neg (by omega), if_neg (by omega), if_pos hc]
      have ea : adr u n b imm = adr t n b imm := adr_off ON n b imm (fun h => n7 (by omega)) (fun q1 q2 => nb (rb_mem n (by omega) (by omega) (by omega) (by omega)))
      refine ⟨by unfold workF wantF; rw [ec, ea]; rfl, fun _ => ?_⟩
      rw [workS_mem _ _ _ _ _ _ hc, workS_mem _ _ _ _ _ _ hc]
      unfold movS
      exact (ON.stack n (fun h => n7 (by omega))).regIf _ _ _
    · have ec : cls (n : Int) = 4 := by unfold cls; rw [if_neg (by omega), if_neg (by omega), if_neg (by omega), if_pos hc]
      refine ⟨by unfold workF; rw [ec]; rfl, fun _ => ?_⟩
      rw [workS_jmp _ _ _ _ _ _ hc, workS_jmp _ _ _ _ _ _ hc]
      exact ON.jmp n a imm (fun h => na (.inl (ra_jmp n (by omega) (by omega))))
    · have ec : cls (n : Int) = 5 := by rw [hc]; rfl
      refine ⟨by unfold workF; rw [ec]; rfl, fun h => ?_⟩
      unfold workF at h; rw [ec] at h
      exact absurd h (show ¬ (8 : Int) = 0 by decide)
theorem rset_range (op : Int) (a b : Nat) (imm : Int) (h0 : 0 ≤ op) (h1 : op < 256) : 0 ≤ rset op a b imm ∧ rset op a b imm < 256 := by
  obtain ⟨n, rfl⟩ : ∃ n : Nat, op = n := ⟨op.toNat, by omega⟩
  obtain ⟨t0, t1, t2, t3⟩ := set_tab n (by omega)
  exact setB_range _ a b imm _ _ _ t2 t3
theorem inS_both (x y : Int) (r : Nat) (h0 : 0 ≤ x) (h1 : x < 256) (h2 : 0 ≤ y) (h3 : y < 256) : inS (bits .or .u8 x y) r = (inS x r || inS y r) ∧ 0 ≤ bits .or .u8 x y ∧ bits .or .u8 x y < 256 := by
  obtain ⟨n, rfl⟩ : ∃ n : Nat, x = n := ⟨x.toNat, by omega⟩
  obtain ⟨m, rfl⟩ : ∃ m : Nat, y = m := ⟨y.toNat, by omega⟩
  rw [u8_or_nat n m (by omega) (by omega)]
  have hl : n ||| m < 256 := Nat.or_lt_two_pow (n := 8) (by omega) (by omega)
  refine ⟨?_, by omega, by omega⟩
  unfold inS
  simp only [Int.toNat_natCast, Nat.testBit_or]
theorem wpList_load_row_w {P : Program} {ops : Array Oper} {rest : List Oper} {o : Oper} {a : Act} {w : World} {Q : Exit → Act → World → Prop} (hw : Region.wanted o (yielded ops a.tmps) = true) (ty : TypeId) (x : Operand) (ho : o.op = .load ty x)
    (g : Nat) (hx : a.eval x = .pointer (some ⟨g, 0, none⟩)) (t : TypeId) (cs : Array Value) (fr : Nat × Nat) (d : TypeDesc) (hg : w.heap[g]? = some (.cells cs t fr))
    (hu : P.underlying ty = some d) (hd : (match d with | .struct _ | .array _ _ => true | _ => false) = true) (hi : (P.info? ty).map (·.size) = some cs.size)
    (h : wpList P ops Q rest (a.put o.dst (.agg cs)) w) : wpList P ops Q (o :: rest) a w :=
  wpList_step fun K hK => by rw [if_pos hw]; exact wp_load_row ty x ho g hx t cs fr d hg hu hd hi (hK _ _ h)
set_option maxHeartbeats 4000000 in
set_option maxRecDepth 100000 in
theorem reads_walk (s0 : Sta) (ok0 : s0.Ok) (a1f0 : Int) (a b : Nat) (a1f3 x2 y2 n2 : Int) (hx2 : 0 ≤ x2 ∧ x2 < 4294967296) (hy2 : 0 ≤ y2 ∧ y2 < 4294967296) (hn2 : 0 ≤ n2 ∧ n2 < 256) (b0 : 0 ≤ a1f0 ∧ a1f0 ≤ 255) (b3 : -2147483648 ≤ a1f3 ∧ a1f3 ≤ 2147483647) (w : World) (hT : Tabs w) :
    Calls Tryd.prog 6 #[.agg s0.v, .agg (insA a1f0 a b a1f3), .agg #[.int .u32 x2, .int .u32 y2, .int .u8 n2]] w fun e w' => e = .returned (.bool true) ∧ Kep w w' := by
  obtain ⟨r, hr, hr8⟩ : ∃ r : Nat, n2 % 8 = r ∧ r < 8 := ⟨(n2 % 8).toNat, by omega, by omega⟩
  have rbd := rset_range a1f0 a b a1f3 (by omega) (by omega)
  have wbd := wset_range a1f0 a b a1f3 (by omega) (by omega)
  have P1 : Hid (inS (rset a1f0 a b a1f3) r = false → inS (wset a1f0 a b a1f3) r = false → doF (s0.reg r x2) a1f0 a b a1f3 = doF s0 a1f0 a b a1f3 ∧ (doS (s0.reg r x2) a1f0 a b a1f3 y2).reg r (s0.r r) = doS s0 a1f0 a b a1f3 y2) := fun h h' => reads_of s0 a1f0 a b a1f3 y2 r x2 (by omega) (by omega) h h'
  have oku : (s0.reg r x2).Ok := ok0.reg r x2 hx2.1 hx2.2
  have D1 : Hid (∀ w, Tabs w → Calls Tryd.prog 8 #[.agg s0.v, .agg (insA a1f0 a b a1f3), .int .u32 y2] w fun e w' => e = .returned (.tuple #[.agg (doS s0 a1f0 a b a1f3 y2).v, .agg (fltV (doF s0 a1f0 a b a1f3))]) ∧ Kep w w') := fun w hT => do_any s0 a1f0 a b a1f3 y2 w ok0 (by omega) (by omega) (by omega) (by omega) hy2 hT
  have D2 : Hid (∀ w, Tabs w → Calls Tryd.prog 8 #[.agg (s0.reg r x2).v, .agg (insA a1f0 a b a1f3), .int .u32 y2] w fun e w' => e = .returned (.tuple #[.agg (doS (s0.reg r x2) a1f0 a b a1f3 y2).v, .agg (fltV (doF (s0.reg r x2) a1f0 a b a1f3))]) ∧ Kep w w') := fun w hT => do_any (s0.reg r x2) a1f0 a b a1f3 y2 w oku (by omega) (by omega) (by omega) (by omega) hy2 hT
  have WK : Hid (∀ w, Tabs w → Calls Tryd.prog 10 #[] w fun e w' => e = .returned (.bool true) ∧ Kep w w') := fun w hT => works8_any w hT
  have RE : Hid (∀ W w p o kb, Tabs W → Tb W w p o kb → Calls Tryd.prog 15 #[.pointer (some ⟨p, 0, none⟩), .agg (insA a1f0 a b a1f3)] w fun e w' => e = .returned (.int .u8 (rset a1f0 a b a1f3)) ∧ Tb W w' p o kb ∧ Stp o kb w w') := fun W w p o kb hT h => reads_any a1f0 a b a1f3 (by omega) (by omega) (by omega) (by omega) (by omega) (by omega) W w p o kb hT h
  have WR : Hid (∀ W w p o kb, Tabs W → Tb W w p o kb → Calls Tryd.prog 13 #[.pointer (some ⟨p, 0, none⟩), .agg (insA a1f0 a b a1f3)] w fun e w' => e = .returned (.int .u8 (wset a1f0 a b a1f3)) ∧ Tb W w' p o kb ∧ Stp o kb w w') := fun W w p o kb hT h => writes_any a1f0 a b a1f3 (by omega) (by omega) (by omega) (by omega) (by omega) (by omega) W w p o kb hT h
  generalize rset a1f0 a b a1f3 = rs at *
  generalize wset a1f0 a b a1f3 = ws at *
  have hT' : Hid (Tabs w) := hT
  clear hT
  go_enter Tryd.func6, Tryd.ntmps6
  go_wp2_with fail
  refine (new_call _).mono ?_
  rintro e w2 ⟨p, o, kb, rfl, T2⟩
  have A2 : Hid (w2.heap[w.heap.size]? = some (.cells s0.v 25 (0, 0))) := T2.out.kep.block blkA
  have I2 : Hid (w2.heap[w.heap.size + 1]? = some (.cells (insA a1f0 a b a1f3) 27 (0, 0))) := T2.out.kep.block blkA
  have O2 : w2.heap[w.heap.size + 1 + 1]? = some (.cells #[.int .u32 x2, .int .u32 y2, .int .u8 n2] 40 (0, 0)) := T2.out.kep.block blkA
  have n0 : w2.cell? ⟨w.heap.size + 1 + 1, 2, none⟩ = some (.int .u8 n2) := cell_of_block O2
  generalize hX : World.alloc (World.alloc (World.alloc (World.alloc w _) _) _) _ = X at T2
  have XA : X.heap[w.heap.size]? = some (.cells s0.v 25 (0, 0)) := by rw [← hX]; (repeat (first | (with_reducible assumption) | (with_reducible exact Hid.out (by assumption)) | (with_reducible refine (hsk _ _ _ (by (first | omega | (simp only [World.size_alloc, World.size_setCell, size_setRow, World.size_drew]; done) | (simp only [World.size_alloc, World.size_setCell, size_setRow, World.size_drew]; omega)))).trans ?_) | (with_reducible refine (hat _ _ _ (by (first | omega | (simp only [World.size_alloc, World.size_setCell, size_setRow, World.size_drew]; done) | (simp only [World.size_alloc, World.size_setCell, size_setRow, World.size_drew]; omega))))) | (with_reducible refine Kep.block (Kep.alloc (Kep.refl _) _) ?_) | (with_reducible refine (heap_setCell_other _ _ _ _ (by (first | omega | (simp only []; omega) | (show _ ≠ _; omega)))).trans ?_) | (with_reducible refine (setRow_other _ _ _ _ (by (first | omega | (simp only []; omega) | (show _ ≠ _; omega)))).trans ?_) | (with_reducible refine (drew_heap _ _).trans ?_) | (with_reducible refine (drewN_heap _ _ _).trans ?_) | (with_reducible refine Kep.block (by assumption) ?_) | (with_reducible exact setRow_heap _ _ _ _ _ _ (by (repeat (first | (with_reducible assumption) | (with_reducible exact Hid.out (by assumption)) | (with_reducible refine (hsk _ _ _ (by (first | omega | (simp only [World.size_alloc, World.size_setCell, size_setRow, World.size_drew]; done) | (simp only [World.size_alloc, World.size_setCell, size_setRow, World.size_drew]; omega)))).trans ?_) | (with_reducible refine (hat _ _ _ (by (first | omega | (simp only [World.size_alloc, World.size_setCell, size_setRow, World.size_drew]; done) | (simp only [World.size_alloc, World.size_setCell, size_setRow, World.size_drew]; omega))))) | (with_reducible refine Kep.block (Kep.alloc (Kep.refl _) _) ?_) | (with_reducible refine (heap_setCell_other _ _ _ _ (by (first | omega | (simp only []; omega) | (show _ ≠ _; omega)))).trans ?_) | (with_reducible refine (setRow_other _ _ _ _ (by (first | omega | (simp only []; omega) | (show _ ≠ _; omega)))).trans ?_) | (with_reducible refine (drew_heap _ _).trans ?_) | (with_reducible refine (drewN_heap _ _ _).trans ?_)))))))
  have XI : X.heap[w.heap.size + 1]? = some (.cells (insA a1f0 a b a1f3) 27 (0, 0)) := by rw [← hX]; (repeat (first | (with_reducible assumption) | (with_reducible exact Hid.out (by assumption)) | (with_reducible refine (hsk _ _ _ (by (first | omega | (simp only [World.size_alloc, World.size_setCell, size_setRow, World.size_drew]; done) | (simp only [World.size_alloc, World.size_setCell, size_setRow, World.size_drew]; omega)))).trans ?_) | (with_reducible refine (hat _ _ _ (by (first | omega | (simp only [World.size_alloc, World.size_setCell, size_setRow, World.size_drew]; done) | (simp only [World.size_alloc, World.size_setCell, size_setRow, World.size_drew]; omega))))) | (with_reducible refine Kep.block (Kep.alloc (Kep.refl _) _) ?_) | (with_reducible refine (heap_setCell_other _ _ _ _ (by (first | omega | (simp only []; omega) | (show _ ≠ _; omega)))).trans ?_) | (with_reducible refine (setRow_other _ _ _ _ (by (first | omega | (simp only []; omega) | (show _ ≠ _; omega)))).trans ?_) | (with_reducible refine (drew_heap _ _).trans ?_) | (with_reducible refine (drewN_heap _ _ _).trans ?_) | (with_reducible refine Kep.block (by assumption) ?_) | (with_reducible exact setRow_heap _ _ _ _ _ _ (by (repeat (first | (with_reducible assumption) | (with_reducible exact Hid.out (by assumption)) | (with_reducible refine (hsk _ _ _ (by (first | omega | (simp only [World.size_alloc, World.size_setCell, size_setRow, World.size_drew]; done) | (simp only [World.size_alloc, World.size_setCell, size_setRow, World.size_drew]; omega)))).trans ?_) | (with_reducible refine (hat _ _ _ (by (first | omega | (simp only [World.size_alloc, World.size_setCell, size_setRow, World.size_drew]; done) | (simp only [World.size_alloc, World.size_setCell, size_setRow, World.size_drew]; omega))))) | (with_reducible refine Kep.block (Kep.alloc (Kep.refl _) _) ?_) | (with_reducible refine (heap_setCell_other _ _ _ _ (by (first | omega | (simp only []; omega) | (show _ ≠ _; omega)))).trans ?_) | (with_reducible refine (setRow_other _ _ _ _ (by (first | omega | (simp only []; omega) | (show _ ≠ _; omega)))).trans ?_) | (with_reducible refine (drew_heap _ _).trans ?_) | (with_reducible refine (drewN_heap _ _ _).trans ?_)))))))
  have XO : X.heap[w.heap.size + 1 + 1 + 1]? = some (.cells #[.int .u32 x2, .int .u32 y2] 38 (0, 0)) := by rw [← hX]; (repeat (first | (with_reducible assumption) | (with_reducible exact Hid.out (by assumption)) | (with_reducible refine (hsk _ _ _ (by (first | omega | (simp only [World.size_alloc, World.size_setCell, size_setRow, World.size_drew]; done) | (simp only [World.size_alloc, World.size_setCell, size_setRow, World.size_drew]; omega)))).trans ?_) | (with_reducible refine (hat _ _ _ (by (first | omega | (simp only [World.size_alloc, World.size_setCell, size_setRow, World.size_drew]; done) | (simp only [World.size_alloc, World.size_setCell, size_setRow, World.size_drew]; omega))))) | (with_reducible refine Kep.block (Kep.alloc (Kep.refl _) _) ?_) | (with_reducible refine (heap_setCell_other _ _ _ _ (by (first | omega | (simp only []; omega) | (show _ ≠ _; omega)))).trans ?_) | (with_reducible refine (setRow_other _ _ _ _ (by (first | omega | (simp only []; omega) | (show _ ≠ _; omega)))).trans ?_) | (with_reducible refine (drew_heap _ _).trans ?_) | (with_reducible refine (drewN_heap _ _ _).trans ?_) | (with_reducible refine Kep.block (by assumption) ?_) | (with_reducible exact setRow_heap _ _ _ _ _ _ (by (repeat (first | (with_reducible assumption) | (with_reducible exact Hid.out (by assumption)) | (with_reducible refine (hsk _ _ _ (by (first | omega | (simp only [World.size_alloc, World.size_setCell, size_setRow, World.size_drew]; done) | (simp only [World.size_alloc, World.size_setCell, size_setRow, World.size_drew]; omega)))).trans ?_) | (with_reducible refine (hat _ _ _ (by (first | omega | (simp only [World.size_alloc, World.size_setCell, size_setRow, World.size_drew]; done) | (simp only [World.size_alloc, World.size_setCell, size_setRow, World.size_drew]; omega))))) | (with_reducible refine Kep.block (Kep.alloc (Kep.refl _) _) ?_) | (with_reducible refine (heap_setCell_other _ _ _ _ (by (first | omega | (simp only []; omega) | (show _ ≠ _; omega)))).trans ?_) | (with_reducible refine (setRow_other _ _ _ _ (by (first | omega | (simp only []; omega) | (show _ ≠ _; omega)))).trans ?_) | (with_reducible refine (drew_heap _ _).trans ?_) | (with_reducible refine (drewN_heap _ _ _).trans ?_)))))))
  have GX : Hid (Kep w X) := by rw [← hX]; show Kep _ _; (repeat (first | (with_reducible assumption) | (with_reducible exact Kep.refl _) | (with_reducible exact Hid.out (by assumption)) | (with_reducible refine Kep.alloc ?_ _) | (with_reducible refine Kep.drew ?_) | (with_reducible refine Kep.drewN ?_ _) | (with_reducible refine Kep.setRow ?_ _ _ (by (first | omega | (simp only [World.size_alloc, World.size_setCell, size_setRow, World.size_drew]; done) | (simp only [World.size_alloc, World.size_setCell, size_setRow, World.size_drew]; omega)))) | (with_reducible refine Kep.setCell ?_ (by first | omega | (simp only []; omega) | (show _ ≤ _; omega)) _)))
  have TX : Hid (Tabs X) := hT'.out.grown GX.out
  obtain ⟨i0, i1, i2, i3⟩ := ins_at XI
  have k0 : ∀ i : TW X w2 p o kb, i.val.cell? ⟨w.heap.size + 1, 0, none⟩ = some (.int .u8 a1f0) := fun i => (i.tb.kep.cell (block_lt XI)).trans i0
  have k1 : ∀ i : TW X w2 p o kb, i.val.cell? ⟨w.heap.size + 1, 1, none⟩ = some (.int .u8 (a : Int)) := fun i => (i.tb.kep.cell (block_lt XI)).trans i1
  have k2 : ∀ i : TW X w2 p o kb, i.val.cell? ⟨w.heap.size + 1, 2, none⟩ = some (.int .u8 (b : Int)) := fun i => (i.tb.kep.cell (block_lt XI)).trans i2
  have k3 : ∀ i : TW X w2 p o kb, i.val.cell? ⟨w.heap.size + 1, 3, none⟩ = some (.int .i32 a1f3) := fun i => (i.tb.kep.cell (block_lt XI)).trans i3
  have hne : Nonempty (TW X w2 p o kb) := ⟨⟨w2, T2.out, Stp.refl _⟩⟩
  clear i0 i1 i2 i3 hX
  go_upto_region 4 with fail
  try simp only [hr]
  refine region_tw (by kernel_rfl) (by kernel_rfl) T2.out ?_
  repeat (go_big_quiet_step (first
    | (go_at_call 15; refine (RE.out _ _ _ _ _ TX.out (TW.tb _)).mono ?_; rintro e w6 ⟨rfl, T6, S6⟩; exact ⟨rfl, ⟨_, T6, (TW.st _).trans S6⟩, rfl⟩)
    | (go_at_call 13; refine (WR.out _ _ _ _ _ TX.out (TW.tb _)).mono ?_; rintro e w6 ⟨rfl, T6, S6⟩; exact ⟨rfl, ⟨_, T6, (TW.st _).trans S6⟩, rfl⟩)))
  refine wpQuiet_nil ?_
  rintro _ ⟨i, rfl⟩
  have UA : Hid (i.val.heap[w.heap.size]? = some (.cells s0.v 25 (0, 0))) := i.tb.kep.block XA
  have UI : i.val.heap[w.heap.size + 1]? = some (.cells (insA a1f0 a b a1f3) 27 (0, 0)) := i.tb.kep.block XI
  have UO : Hid (i.val.heap[w.heap.size + 1 + 1 + 1]? = some (.cells #[.int .u32 x2, .int .u32 y2] 38 (0, 0))) := i.tb.kep.block XO
  have GU : Hid (Kep w i.val) := kep_trans GX.out i.tb.kep
  obtain ⟨bo, bo0, bo1⟩ := inS_both rs ws r rbd.1 rbd.2 wbd.1 wbd.2
  have bb := bit_one (bits .or .u8 rs ws) r bo0 bo1
  rw [bo] at bb
  generalize i.val = u at *
  have UI' : Hid (u.heap[w.heap.size + 1]? = some (.cells (insA a1f0 a b a1f3) 27 (0, 0))) := UI
  clear k0 k1 k2 k3 hne XA XI XO A2 I2 O2 n0 T2 i bo bo0 bo1
  cases hc : (inS rs r || inS ws r) with
  | true =>
    rw [hc] at bb
    go_wp2_with (go_at_call 10; refine (WK.out _ (hT'.out.grown GU.out)).mono ?_; rintro e w4 ⟨rfl, K4⟩; have G4 : Hid (Kep w w4) := kep_trans GU.out K4; clear K4)
    go_ret
    exact ⟨rfl, by (repeat (first | (with_reducible assumption) | (with_reducible exact Kep.refl _) | (with_reducible exact Hid.out (by assumption)) | (with_reducible refine Kep.alloc ?_ _) | (with_reducible refine Kep.drew ?_) | (with_reducible refine Kep.drewN ?_ _) | (with_reducible refine Kep.setRow ?_ _ _ (by (first | omega | (simp only [World.size_alloc, World.size_setCell, size_setRow, World.size_drew]; done) | (simp only [World.size_alloc, World.size_setCell, size_setRow, World.size_drew]; omega)))) | (with_reducible refine Kep.setCell ?_ (by first | omega | (simp only []; omega) | (show _ ≤ _; omega)) _)))⟩
  | false =>
    rw [hc] at bb
    simp only [Bool.or_eq_false_iff] at hc
    obtain ⟨E1, E2⟩ := P1.out hc.1 hc.2
    rw [E1] at D2
    generalize doF s0 a1f0 a b a1f3 = q at *
    generalize hS1 : doS s0 a1f0 a b a1f3 y2 = S1 at *
    generalize hS2 : doS (s0.reg r x2) a1f0 a b a1f3 y2 = S2 at *
    obtain ⟨qc, qd⟩ := q
    have E2' : Hid (S2.reg r (s0.r r) = S1) := E2
    have lu0 := block_lt UA.out
    have lu1 := block_lt UI
    have lu3 := block_lt UO.out
    clear hc E1 E2 P1 hS1 hS2 UI RE WR
    go_upto_region 7 with (first | (refine wpList_load_row (by rfl) 25 _ (by rfl) _ (by rfl) 25 _ (0, 0) _ blkA Tryd.underlying25 rfl (by exact size_sta) ?_) | (refine wpList_store_row (by rfl) 25 _ _ (by rfl) _ _ (by rfl) (by rfl) 25 z19 blkA (by exact size_sta) (by rfl) (v_one _) ?_))
    dsimp only [Act.put]
    generalize hV : World.setRow (World.alloc u _) _ _ = V
    have VA : Hid (V.heap[w.heap.size]? = some (.cells s0.v 25 (0, 0))) := by rw [← hV]; unfold Hid; (repeat (first | (with_reducible assumption) | (with_reducible exact Hid.out (by assumption)) | (with_reducible refine (hsk _ _ _ (by (first | omega | (simp only [World.size_alloc, World.size_setCell, size_setRow, World.size_drew]; done) | (simp only [World.size_alloc, World.size_setCell, size_setRow, World.size_drew]; omega)))).trans ?_) | (with_reducible refine (hat _ _ _ (by (first | omega | (simp only [World.size_alloc, World.size_setCell, size_setRow, World.size_drew]; done) | (simp only [World.size_alloc, World.size_setCell, size_setRow, World.size_drew]; omega))))) | (with_reducible refine Kep.block (Kep.alloc (Kep.refl _) _) ?_) | (with_reducible refine (heap_setCell_other _ _ _ _ (by (first | omega | (simp only []; omega) | (show _ ≠ _; omega)))).trans ?_) | (with_reducible refine (setRow_other _ _ _ _ (by (first | omega | (simp only []; omega) | (show _ ≠ _; omega)))).trans ?_) | (with_reducible refine (drew_heap _ _).trans ?_) | (with_reducible refine (drewN_heap _ _ _).trans ?_) | (with_reducible refine Kep.block (by assumption) ?_) | (with_reducible exact setRow_heap _ _ _ _ _ _ (by (repeat (first | (with_reducible assumption) | (with_reducible exact Hid.out (by assumption)) | (with_reducible refine (hsk _ _ _ (by (first | omega | (simp only [World.size_alloc, World.size_setCell, size_setRow, World.size_drew]; done) | (simp only [World.size_alloc, World.size_setCell, size_setRow, World.size_drew]; omega)))).trans ?_) | (with_reducible refine (hat _ _ _ (by (first | omega | (simp only [World.size_alloc, World.size_setCell, size_setRow, World.size_drew]; done) | (simp only [World.size_alloc, World.size_setCell, size_setRow, World.size_drew]; omega))))) | (with_reducible refine Kep.block (Kep.alloc (Kep.refl _) _) ?_) | (with_reducible refine (heap_setCell_other _ _ _ _ (by (first | omega | (simp only []; omega) | (show _ ≠ _; omega)))).trans ?_) | (with_reducible refine (setRow_other _ _ _ _ (by (first | omega | (simp only []; omega) | (show _ ≠ _; omega)))).trans ?_) | (with_reducible refine (drew_heap _ _).trans ?_) | (with_reducible refine (drewN_heap _ _ _).trans ?_)))))))
    have VI : Hid (V.heap[w.heap.size + 1]? = some (.cells (insA a1f0 a b a1f3) 27 (0, 0))) := by rw [← hV]; unfold Hid; (repeat (first | (with_reducible assumption) | (with_reducible exact Hid.out (by assumption)) | (with_reducible refine (hsk _ _ _ (by (first | omega | (simp only [World.size_alloc, World.size_setCell, size_setRow, World.size_drew]; done) | (simp only [World.size_alloc, World.size_setCell, size_setRow, World.size_drew]; omega)))).trans ?_) | (with_reducible refine (hat _ _ _ (by (first | omega | (simp only [World.size_alloc, World.size_setCell, size_setRow, World.size_drew]; done) | (simp only [World.size_alloc, World.size_setCell, size_setRow, World.size_drew]; omega))))) | (with_reducible refine Kep.block (Kep.alloc (Kep.refl _) _) ?_) | (with_reducible refine (heap_setCell_other _ _ _ _ (by (first | omega | (simp only []; omega) | (show _ ≠ _; omega)))).trans ?_) | (with_reducible refine (setRow_other _ _ _ _ (by (first | omega | (simp only []; omega) | (show _ ≠ _; omega)))).trans ?_) | (with_reducible refine (drew_heap _ _).trans ?_) | (with_reducible refine (drewN_heap _ _ _).trans ?_) | (with_reducible refine Kep.block (by assumption) ?_) | (with_reducible exact setRow_heap _ _ _ _ _ _ (by (repeat (first | (with_reducible assumption) | (with_reducible exact Hid.out (by assumption)) | (with_reducible refine (hsk _ _ _ (by (first | omega | (simp only [World.size_alloc, World.size_setCell, size_setRow, World.size_drew]; done) | (simp only [World.size_alloc, World.size_setCell, size_setRow, World.size_drew]; omega)))).trans ?_) | (with_reducible refine (hat _ _ _ (by (first | omega | (simp only [World.size_alloc, World.size_setCell, size_setRow, World.size_drew]; done) | (simp only [World.size_alloc, World.size_setCell, size_setRow, World.size_drew]; omega))))) | (with_reducible refine Kep.block (Kep.alloc (Kep.refl _) _) ?_) | (with_reducible refine (heap_setCell_other _ _ _ _ (by (first | omega | (simp only []; omega) | (show _ ≠ _; omega)))).trans ?_) | (with_reducible refine (setRow_other _ _ _ _ (by (first | omega | (simp only []; omega) | (show _ ≠ _; omega)))).trans ?_) | (with_reducible refine (drew_heap _ _).trans ?_) | (with_reducible refine (drewN_heap _ _ _).trans ?_)))))))
    have VO : V.heap[w.heap.size + 1 + 1 + 1]? = some (.cells #[.int .u32 x2, .int .u32 y2] 38 (0, 0)) := by rw [← hV]; (repeat (first | (with_reducible assumption) | (with_reducible exact Hid.out (by assumption)) | (with_reducible refine (hsk _ _ _ (by (first | omega | (simp only [World.size_alloc, World.size_setCell, size_setRow, World.size_drew]; done) | (simp only [World.size_alloc, World.size_setCell, size_setRow, World.size_drew]; omega)))).trans ?_) | (with_reducible refine (hat _ _ _ (by (first | omega | (simp only [World.size_alloc, World.size_setCell, size_setRow, World.size_drew]; done) | (simp only [World.size_alloc, World.size_setCell, size_setRow, World.size_drew]; omega))))) | (with_reducible refine Kep.block (Kep.alloc (Kep.refl _) _) ?_) | (with_reducible refine (heap_setCell_other _ _ _ _ (by (first | omega | (simp only []; omega) | (show _ ≠ _; omega)))).trans ?_) | (with_reducible refine (setRow_other _ _ _ _ (by (first | omega | (simp only []; omega) | (show _ ≠ _; omega)))).trans ?_) | (with_reducible refine (drew_heap _ _).trans ?_) | (with_reducible refine (drewN_heap _ _ _).trans ?_) | (with_reducible refine Kep.block (by assumption) ?_) | (with_reducible exact setRow_heap _ _ _ _ _ _ (by (repeat (first | (with_reducible assumption) | (with_reducible exact Hid.out (by assumption)) | (with_reducible refine (hsk _ _ _ (by (first | omega | (simp only [World.size_alloc, World.size_setCell, size_setRow, World.size_drew]; done) | (simp only [World.size_alloc, World.size_setCell, size_setRow, World.size_drew]; omega)))).trans ?_) | (with_reducible refine (hat _ _ _ (by (first | omega | (simp only [World.size_alloc, World.size_setCell, size_setRow, World.size_drew]; done) | (simp only [World.size_alloc, World.size_setCell, size_setRow, World.size_drew]; omega))))) | (with_reducible refine Kep.block (Kep.alloc (Kep.refl _) _) ?_) | (with_reducible refine (heap_setCell_other _ _ _ _ (by (first | omega | (simp only []; omega) | (show _ ≠ _; omega)))).trans ?_) | (with_reducible refine (setRow_other _ _ _ _ (by (first | omega | (simp only []; omega) | (show _ ≠ _; omega)))).trans ?_) | (with_reducible refine (drew_heap _ _).trans ?_) | (with_reducible refine (drewN_heap _ _ _).trans ?_)))))))
    have VU : At V u.heap.size s0 := by rw [← hV]; unfold At; (repeat (first | (with_reducible assumption) | (with_reducible exact Hid.out (by assumption)) | (with_reducible refine (hsk _ _ _ (by (first | omega | (simp only [World.size_alloc, World.size_setCell, size_setRow, World.size_drew]; done) | (simp only [World.size_alloc, World.size_setCell, size_setRow, World.size_drew]; omega)))).trans ?_) | (with_reducible refine (hat _ _ _ (by (first | omega | (simp only [World.size_alloc, World.size_setCell, size_setRow, World.size_drew]; done) | (simp only [World.size_alloc, World.size_setCell, size_setRow, World.size_drew]; omega))))) | (with_reducible refine Kep.block (Kep.alloc (Kep.refl _) _) ?_) | (with_reducible refine (heap_setCell_other _ _ _ _ (by (first | omega | (simp only []; omega) | (show _ ≠ _; omega)))).trans ?_) | (with_reducible refine (setRow_other _ _ _ _ (by (first | omega | (simp only []; omega) | (show _ ≠ _; omega)))).trans ?_) | (with_reducible refine (drew_heap _ _).trans ?_) | (with_reducible refine (drewN_heap _ _ _).trans ?_) | (with_reducible refine Kep.block (by assumption) ?_) | (with_reducible exact setRow_heap _ _ _ _ _ _ (by (repeat (first | (with_reducible assumption) | (with_reducible exact Hid.out (by assumption)) | (with_reducible refine (hsk _ _ _ (by (first | omega | (simp only [World.size_alloc, World.size_setCell, size_setRow, World.size_drew]; done) | (simp only [World.size_alloc, World.size_setCell, size_setRow, World.size_drew]; omega)))).trans ?_) | (with_reducible refine (hat _ _ _ (by (first | omega | (simp only [World.size_alloc, World.size_setCell, size_setRow, World.size_drew]; done) | (simp only [World.size_alloc, World.size_setCell, size_setRow, World.size_drew]; omega))))) | (with_reducible refine Kep.block (Kep.alloc (Kep.refl _) _) ?_) | (with_reducible refine (heap_setCell_other _ _ _ _ (by (first | omega | (simp only []; omega) | (show _ ≠ _; omega)))).trans ?_) | (with_reducible refine (setRow_other _ _ _ _ (by (first | omega | (simp only []; omega) | (show _ ≠ _; omega)))).trans ?_) | (with_reducible refine (drew_heap _ _).trans ?_) | (with_reducible refine (drewN_heap _ _ _).trans ?_)))))))
    have lwu := GU.out.size
    have GV : Hid (Kep w V) := by rw [← hV]; show Kep _ _; (repeat (first | (with_reducible assumption) | (with_reducible exact Kep.refl _) | (with_reducible exact Hid.out (by assumption)) | (with_reducible refine Kep.alloc ?_ _) | (with_reducible refine Kep.drew ?_) | (with_reducible refine Kep.drewN ?_ _) | (with_reducible refine Kep.setRow ?_ _ _ (by (first | omega | (simp only [World.size_alloc, World.size_setCell, size_setRow, World.size_drew]; done) | (simp only [World.size_alloc, World.size_setCell, size_setRow, World.size_drew]; omega)))) | (with_reducible refine Kep.setCell ?_ (by first | omega | (simp only []; omega) | (show _ ≤ _; omega)) _)))
    clear hV bb
    have o0 : V.cell? ⟨w.heap.size + 1 + 1 + 1, 0, none⟩ = some (.int .u32 x2) := cell_of_block VO
    have cr := VU.reg r hr8
    have fz := row_frozen VU
    have VU' : Hid (At V u.heap.size s0) := VU
    have VO' : Hid (V.heap[w.heap.size + 1 + 1 + 1]? = some (.cells #[.int .u32 x2, .int .u32 y2] 38 (0, 0))) := VO
    clear VU VO
    go_upto_region 8 with fail
    generalize hY : World.setCell V _ _ = Y
    have YU : Hid (At Y u.heap.size (s0.reg r x2)) := by rw [← hY]; exact VU'.out.set r hr8 x2
    have YA : Hid (Y.heap[w.heap.size]? = some (.cells s0.v 25 (0, 0))) := by rw [← hY]; unfold Hid; (repeat (first | (with_reducible assumption) | (with_reducible exact Hid.out (by assumption)) | (with_reducible refine (hsk _ _ _ (by (first | omega | (simp only [World.size_alloc, World.size_setCell, size_setRow, World.size_drew]; done) | (simp only [World.size_alloc, World.size_setCell, size_setRow, World.size_drew]; omega)))).trans ?_) | (with_reducible refine (hat _ _ _ (by (first | omega | (simp only [World.size_alloc, World.size_setCell, size_setRow, World.size_drew]; done) | (simp only [World.size_alloc, World.size_setCell, size_setRow, World.size_drew]; omega))))) | (with_reducible refine Kep.block (Kep.alloc (Kep.refl _) _) ?_) | (with_reducible refine (heap_setCell_other _ _ _ _ (by (first | omega | (simp only []; omega) | (show _ ≠ _; omega)))).trans ?_) | (with_reducible refine (setRow_other _ _ _ _ (by (first | omega | (simp only []; omega) | (show _ ≠ _; omega)))).trans ?_) | (with_reducible refine (drew_heap _ _).trans ?_) | (with_reducible refine (drewN_heap _ _ _).trans ?_) | (with_reducible refine Kep.block (by assumption) ?_) | (with_reducible exact setRow_heap _ _ _ _ _ _ (by (repeat (first | (with_reducible assumption) | (with_reducible exact Hid.out (by assumption)) | (with_reducible refine (hsk _ _ _ (by (first | omega | (simp only [World.size_alloc, World.size_setCell, size_setRow, World.size_drew]; done) | (simp only [World.size_alloc, World.size_setCell, size_setRow, World.size_drew]; omega)))).trans ?_) | (with_reducible refine (hat _ _ _ (by (first | omega | (simp only [World.size_alloc, World.size_setCell, size_setRow, World.size_drew]; done) | (simp only [World.size_alloc, World.size_setCell, size_setRow, World.size_drew]; omega))))) | (with_reducible refine Kep.block (Kep.alloc (Kep.refl _) _) ?_) | (with_reducible refine (heap_setCell_other _ _ _ _ (by (first | omega | (simp only []; omega) | (show _ ≠ _; omega)))).trans ?_) | (with_reducible refine (setRow_other _ _ _ _ (by (first | omega | (simp only []; omega) | (show _ ≠ _; omega)))).trans ?_) | (with_reducible refine (drew_heap _ _).trans ?_) | (with_reducible refine (drewN_heap _ _ _).trans ?_)))))))
    have YI : Y.heap[w.heap.size + 1]? = some (.cells (insA a1f0 a b a1f3) 27 (0, 0)) := by rw [← hY]; (repeat (first | (with_reducible assumption) | (with_reducible exact Hid.out (by assumption)) | (with_reducible refine (hsk _ _ _ (by (first | omega | (simp only [World.size_alloc, World.size_setCell, size_setRow, World.size_drew]; done) | (simp only [World.size_alloc, World.size_setCell, size_setRow, World.size_drew]; omega)))).trans ?_) | (with_reducible refine (hat _ _ _ (by (first | omega | (simp only [World.size_alloc, World.size_setCell, size_setRow, World.size_drew]; done) | (simp only [World.size_alloc, World.size_setCell, size_setRow, World.size_drew]; omega))))) | (with_reducible refine Kep.block (Kep.alloc (Kep.refl _) _) ?_) | (with_reducible refine (heap_setCell_other _ _ _ _ (by (first | omega | (simp only []; omega) | (show _ ≠ _; omega)))).trans ?_) | (with_reducible refine (setRow_other _ _ _ _ (by (first | omega | (simp only []; omega) | (show _ ≠ _; omega)))).trans ?_) | (with_reducible refine (drew_heap _ _).trans ?_) | (with_reducible refine (drewN_heap _ _ _).trans ?_) | (with_reducible refine Kep.block (by assumption) ?_) | (with_reducible exact setRow_heap _ _ _ _ _ _ (by (repeat (first | (with_reducible assumption) | (with_reducible exact Hid.out (by assumption)) | (with_reducible refine (hsk _ _ _ (by (first | omega | (simp only [World.size_alloc, World.size_setCell, size_setRow, World.size_drew]; done) | (simp only [World.size_alloc, World.size_setCell, size_setRow, World.size_drew]; omega)))).trans ?_) | (with_reducible refine (hat _ _ _ (by (first | omega | (simp only [World.size_alloc, World.size_setCell, size_setRow, World.size_drew]; done) | (simp only [World.size_alloc, World.size_setCell, size_setRow, World.size_drew]; omega))))) | (with_reducible refine Kep.block (Kep.alloc (Kep.refl _) _) ?_) | (with_reducible refine (heap_setCell_other _ _ _ _ (by (first | omega | (simp only []; omega) | (show _ ≠ _; omega)))).trans ?_) | (with_reducible refine (setRow_other _ _ _ _ (by (first | omega | (simp only []; omega) | (show _ ≠ _; omega)))).trans ?_) | (with_reducible refine (drew_heap _ _).trans ?_) | (with_reducible refine (drewN_heap _ _ _).trans ?_)))))))
    have YO : Y.heap[w.heap.size + 1 + 1 + 1]? = some (.cells #[.int .u32 x2, .int .u32 y2] 38 (0, 0)) := by rw [← hY]; (repeat (first | (with_reducible assumption) | (with_reducible exact Hid.out (by assumption)) | (with_reducible refine (hsk _ _ _ (by (first | omega | (simp only [World.size_alloc, World.size_setCell, size_setRow, World.size_drew]; done) | (simp only [World.size_alloc, World.size_setCell, size_setRow, World.size_drew]; omega)))).trans ?_) | (with_reducible refine (hat _ _ _ (by (first | omega | (simp only [World.size_alloc, World.size_setCell, size_setRow, World.size_drew]; done) | (simp only [World.size_alloc, World.size_setCell, size_setRow, World.size_drew]; omega))))) | (with_reducible refine Kep.block (Kep.alloc (Kep.refl _) _) ?_) | (with_reducible refine (heap_setCell_other _ _ _ _ (by (first | omega | (simp only []; omega) | (show _ ≠ _; omega)))).trans ?_) | (with_reducible refine (setRow_other _ _ _ _ (by (first | omega | (simp only []; omega) | (show _ ≠ _; omega)))).trans ?_) | (with_reducible refine (drew_heap _ _).trans ?_) | (with_reducible refine (drewN_heap _ _ _).trans ?_) | (with_reducible refine Kep.block (by assumption) ?_) | (with_reducible exact setRow_heap _ _ _ _ _ _ (by (repeat (first | (with_reducible assumption) | (with_reducible exact Hid.out (by assumption)) | (with_reducible refine (hsk _ _ _ (by (first | omega | (simp only [World.size_alloc, World.size_setCell, size_setRow, World.size_drew]; done) | (simp only [World.size_alloc, World.size_setCell, size_setRow, World.size_drew]; omega)))).trans ?_) | (with_reducible refine (hat _ _ _ (by (first | omega | (simp only [World.size_alloc, World.size_setCell, size_setRow, World.size_drew]; done) | (simp only [World.size_alloc, World.size_setCell, size_setRow, World.size_drew]; omega))))) | (with_reducible refine Kep.block (Kep.alloc (Kep.refl _) _) ?_) | (with_reducible refine (heap_setCell_other _ _ _ _ (by (first | omega | (simp only []; omega) | (show _ ≠ _; omega)))).trans ?_) | (with_reducible refine (setRow_other _ _ _ _ (by (first | omega | (simp only []; omega) | (show _ ≠ _; omega)))).trans ?_) | (with_reducible refine (drew_heap _ _).trans ?_) | (with_reducible refine (drewN_heap _ _ _).trans ?_)))))))
    have GY : Hid (Kep w Y) := by rw [← hY]; show Kep _ _; (repeat (first | (with_reducible assumption) | (with_reducible exact Kep.refl _) | (with_reducible exact Hid.out (by assumption)) | (with_reducible refine Kep.alloc ?_ _) | (with_reducible refine Kep.drew ?_) | (with_reducible refine Kep.drewN ?_ _) | (with_reducible refine Kep.setRow ?_ _ _ (by (first | omega | (simp only [World.size_alloc, World.size_setCell, size_setRow, World.size_drew]; done) | (simp only [World.size_alloc, World.size_setCell, size_setRow, World.size_drew]; omega)))) | (with_reducible refine Kep.setCell ?_ (by first | omega | (simp only []; omega) | (show _ ≤ _; omega)) _)))
    obtain ⟨i0, i1, i2, i3⟩ := ins_at YI
    have o1 : Y.cell? ⟨w.heap.size + 1 + 1 + 1, 1, none⟩ = some (.int .u32 y2) := cell_of_block YO
    have YI' : Hid (Y.heap[w.heap.size + 1]? = some (.cells (insA a1f0 a b a1f3) 27 (0, 0))) := YI
    have YO' : Hid (Y.heap[w.heap.size + 1 + 1 + 1]? = some (.cells #[.int .u32 x2, .int .u32 y2] 38 (0, 0))) := YO
    clear hY o0 cr fz VU' VO' VA VI YI YO
    go_wp2_with (refine wpList_load_row (by rfl) 25 _ (by rfl) _ (by rfl) 25 _ (0, 0) _ blkA Tryd.underlying25 rfl (by exact size_sta) ?_)
    refine (D1.out _ (hT'.out.grown GY.out)).mono ?_
    rintro e w3 ⟨rfl, K3⟩
    have ZU : Hid (At w3 u.heap.size (s0.reg r x2)) := YU.out.kep K3
    have ZA : Hid (w3.heap[w.heap.size]? = some (.cells s0.v 25 (0, 0))) := K3.block YA.out
    have ZI : Hid (w3.heap[w.heap.size + 1]? = some (.cells (insA a1f0 a b a1f3) 27 (0, 0))) := K3.block YI'.out
    have ZO : Hid (w3.heap[w.heap.size + 1 + 1 + 1]? = some (.cells #[.int .u32 x2, .int .u32 y2] 38 (0, 0))) := K3.block YO'.out
    have G3 : Hid (Kep w w3) := kep_trans GY.out K3
    have l0 := block_lt ZA.out
    have l1 := block_lt ZI.out
    have l3 := block_lt ZO.out
    have lz := ZU.out.lt
    have lw3 := G3.out.size
    clear K3 YU YA YI' YO' i0 i1 i2 i3 o1
    go_upto_region 9 with (first | (refine wpList_store_row (by rfl) 25 _ _ (by rfl) _ _ (by rfl) (by rfl) 25 z19 blkA (by exact size_sta) (by rfl) (v_one _) ?_) | (refine wpList_store_row (by rfl) 29 _ _ (by rfl) _ _ (by rfl) (by rfl) 29 #[.int .i64 0, .int .u32 0] blkA (by exact size_flt) (by rfl) (by simp [Value.oneCell']) ?_))
    dsimp only [Act.put]
    generalize hV : World.setRow (World.setRow (World.alloc (World.alloc w3 _) _) _ _) _ _ = V3
    have XU : Hid (V3.heap[u.heap.size]? = some (.cells (s0.reg r x2).v 25 (0, 0))) := by rw [← hV]; have h0 := ZU.out; unfold Hid; unfold At at h0; (repeat (first | (with_reducible assumption) | (with_reducible exact Hid.out (by assumption)) | (with_reducible refine (hsk _ _ _ (by (first | omega | (simp only [World.size_alloc, World.size_setCell, size_setRow, World.size_drew]; done) | (simp only [World.size_alloc, World.size_setCell, size_setRow, World.size_drew]; omega)))).trans ?_) | (with_reducible refine (hat _ _ _ (by (first | omega | (simp only [World.size_alloc, World.size_setCell, size_setRow, World.size_drew]; done) | (simp only [World.size_alloc, World.size_setCell, size_setRow, World.size_drew]; omega))))) | (with_reducible refine Kep.block (Kep.alloc (Kep.refl _) _) ?_) | (with_reducible refine (heap_setCell_other _ _ _ _ (by (first | omega | (simp only []; omega) | (show _ ≠ _; omega)))).trans ?_) | (with_reducible refine (setRow_other _ _ _ _ (by (first | omega | (simp only []; omega) | (show _ ≠ _; omega)))).trans ?_) | (with_reducible refine (drew_heap _ _).trans ?_) | (with_reducible refine (drewN_heap _ _ _).trans ?_) | (with_reducible refine Kep.block (by assumption) ?_) | (with_reducible exact setRow_heap _ _ _ _ _ _ (by (repeat (first | (with_reducible assumption) | (with_reducible exact Hid.out (by assumption)) | (with_reducible refine (hsk _ _ _ (by (first | omega | (simp only [World.size_alloc, World.size_setCell, size_setRow, World.size_drew]; done) | (simp only [World.size_alloc, World.size_setCell, size_setRow, World.size_drew]; omega)))).trans ?_) | (with_reducible refine (hat _ _ _ (by (first | omega | (simp only [World.size_alloc, World.size_setCell, size_setRow, World.size_drew]; done) | (simp only [World.size_alloc, World.size_setCell, size_setRow, World.size_drew]; omega))))) | (with_reducible refine Kep.block (Kep.alloc (Kep.refl _) _) ?_) | (with_reducible refine (heap_setCell_other _ _ _ _ (by (first | omega | (simp only []; omega) | (show _ ≠ _; omega)))).trans ?_) | (with_reducible refine (setRow_other _ _ _ _ (by (first | omega | (simp only []; omega) | (show _ ≠ _; omega)))).trans ?_) | (with_reducible refine (drew_heap _ _).trans ?_) | (with_reducible refine (drewN_heap _ _ _).trans ?_)))))))
    have XA : Hid (V3.heap[w.heap.size]? = some (.cells s0.v 25 (0, 0))) := by rw [← hV]; unfold Hid; (repeat (first | (with_reducible assumption) | (with_reducible exact Hid.out (by assumption)) | (with_reducible refine (hsk _ _ _ (by (first | omega | (simp only [World.size_alloc, World.size_setCell, size_setRow, World.size_drew]; done) | (simp only [World.size_alloc, World.size_setCell, size_setRow, World.size_drew]; omega)))).trans ?_) | (with_reducible refine (hat _ _ _ (by (first | omega | (simp only [World.size_alloc, World.size_setCell, size_setRow, World.size_drew]; done) | (simp only [World.size_alloc, World.size_setCell, size_setRow, World.size_drew]; omega))))) | (with_reducible refine Kep.block (Kep.alloc (Kep.refl _) _) ?_) | (with_reducible refine (heap_setCell_other _ _ _ _ (by (first | omega | (simp only []; omega) | (show _ ≠ _; omega)))).trans ?_) | (with_reducible refine (setRow_other _ _ _ _ (by (first | omega | (simp only []; omega) | (show _ ≠ _; omega)))).trans ?_) | (with_reducible refine (drew_heap _ _).trans ?_) | (with_reducible refine (drewN_heap _ _ _).trans ?_) | (with_reducible refine Kep.block (by assumption) ?_) | (with_reducible exact setRow_heap _ _ _ _ _ _ (by (repeat (first | (with_reducible assumption) | (with_reducible exact Hid.out (by assumption)) | (with_reducible refine (hsk _ _ _ (by (first | omega | (simp only [World.size_alloc, World.size_setCell, size_setRow, World.size_drew]; done) | (simp only [World.size_alloc, World.size_setCell, size_setRow, World.size_drew]; omega)))).trans ?_) | (with_reducible refine (hat _ _ _ (by (first | omega | (simp only [World.size_alloc, World.size_setCell, size_setRow, World.size_drew]; done) | (simp only [World.size_alloc, World.size_setCell, size_setRow, World.size_drew]; omega))))) | (with_reducible refine Kep.block (Kep.alloc (Kep.refl _) _) ?_) | (with_reducible refine (heap_setCell_other _ _ _ _ (by (first | omega | (simp only []; omega) | (show _ ≠ _; omega)))).trans ?_) | (with_reducible refine (setRow_other _ _ _ _ (by (first | omega | (simp only []; omega) | (show _ ≠ _; omega)))).trans ?_) | (with_reducible refine (drew_heap _ _).trans ?_) | (with_reducible refine (drewN_heap _ _ _).trans ?_)))))))
    have XI : V3.heap[w.heap.size + 1]? = some (.cells (insA a1f0 a b a1f3) 27 (0, 0)) := by rw [← hV]; (repeat (first | (with_reducible assumption) | (with_reducible exact Hid.out (by assumption)) | (with_reducible refine (hsk _ _ _ (by (first | omega | (simp only [World.size_alloc, World.size_setCell, size_setRow, World.size_drew]; done) | (simp only [World.size_alloc, World.size_setCell, size_setRow, World.size_drew]; omega)))).trans ?_) | (with_reducible refine (hat _ _ _ (by (first | omega | (simp only [World.size_alloc, World.size_setCell, size_setRow, World.size_drew]; done) | (simp only [World.size_alloc, World.size_setCell, size_setRow, World.size_drew]; omega))))) | (with_reducible refine Kep.block (Kep.alloc (Kep.refl _) _) ?_) | (with_reducible refine (heap_setCell_other _ _ _ _ (by (first | omega | (simp only []; omega) | (show _ ≠ _; omega)))).trans ?_) | (with_reducible refine (setRow_other _ _ _ _ (by (first | omega | (simp only []; omega) | (show _ ≠ _; omega)))).trans ?_) | (with_reducible refine (drew_heap _ _).trans ?_) | (with_reducible refine (drewN_heap _ _ _).trans ?_) | (with_reducible refine Kep.block (by assumption) ?_) | (with_reducible exact setRow_heap _ _ _ _ _ _ (by (repeat (first | (with_reducible assumption) | (with_reducible exact Hid.out (by assumption)) | (with_reducible refine (hsk _ _ _ (by (first | omega | (simp only [World.size_alloc, World.size_setCell, size_setRow, World.size_drew]; done) | (simp only [World.size_alloc, World.size_setCell, size_setRow, World.size_drew]; omega)))).trans ?_) | (with_reducible refine (hat _ _ _ (by (first | omega | (simp only [World.size_alloc, World.size_setCell, size_setRow, World.size_drew]; done) | (simp only [World.size_alloc, World.size_setCell, size_setRow, World.size_drew]; omega))))) | (with_reducible refine Kep.block (Kep.alloc (Kep.refl _) _) ?_) | (with_reducible refine (heap_setCell_other _ _ _ _ (by (first | omega | (simp only []; omega) | (show _ ≠ _; omega)))).trans ?_) | (with_reducible refine (setRow_other _ _ _ _ (by (first | omega | (simp only []; omega) | (show _ ≠ _; omega)))).trans ?_) | (with_reducible refine (drew_heap _ _).trans ?_) | (with_reducible refine (drewN_heap _ _ _).trans ?_)))))))
    have XO : V3.heap[w.heap.size + 1 + 1 + 1]? = some (.cells #[.int .u32 x2, .int .u32 y2] 38 (0, 0)) := by rw [← hV]; (repeat (first | (with_reducible assumption) | (with_reducible exact Hid.out (by assumption)) | (with_reducible refine (hsk _ _ _ (by (first | omega | (simp only [World.size_alloc, World.size_setCell, size_setRow, World.size_drew]; done) | (simp only [World.size_alloc, World.size_setCell, size_setRow, World.size_drew]; omega)))).trans ?_) | (with_reducible refine (hat _ _ _ (by (first | omega | (simp only [World.size_alloc, World.size_setCell, size_setRow, World.size_drew]; done) | (simp only [World.size_alloc, World.size_setCell, size_setRow, World.size_drew]; omega))))) | (with_reducible refine Kep.block (Kep.alloc (Kep.refl _) _) ?_) | (with_reducible refine (heap_setCell_other _ _ _ _ (by (first | omega | (simp only []; omega) | (show _ ≠ _; omega)))).trans ?_) | (with_reducible refine (setRow_other _ _ _ _ (by (first | omega | (simp only []; omega) | (show _ ≠ _; omega)))).trans ?_) | (with_reducible refine (drew_heap _ _).trans ?_) | (with_reducible refine (drewN_heap _ _ _).trans ?_) | (with_reducible refine Kep.block (by assumption) ?_) | (with_reducible exact setRow_heap _ _ _ _ _ _ (by (repeat (first | (with_reducible assumption) | (with_reducible exact Hid.out (by assumption)) | (with_reducible refine (hsk _ _ _ (by (first | omega | (simp only [World.size_alloc, World.size_setCell, size_setRow, World.size_drew]; done) | (simp only [World.size_alloc, World.size_setCell, size_setRow, World.size_drew]; omega)))).trans ?_) | (with_reducible refine (hat _ _ _ (by (first | omega | (simp only [World.size_alloc, World.size_setCell, size_setRow, World.size_drew]; done) | (simp only [World.size_alloc, World.size_setCell, size_setRow, World.size_drew]; omega))))) | (with_reducible refine Kep.block (Kep.alloc (Kep.refl _) _) ?_) | (with_reducible refine (heap_setCell_other _ _ _ _ (by (first | omega | (simp only []; omega) | (show _ ≠ _; omega)))).trans ?_) | (with_reducible refine (setRow_other _ _ _ _ (by (first | omega | (simp only []; omega) | (show _ ≠ _; omega)))).trans ?_) | (with_reducible refine (drew_heap _ _).trans ?_) | (with_reducible refine (drewN_heap _ _ _).trans ?_)))))))
    have XS : Hid (V3.heap[w3.heap.size]? = some (.cells S1.v 25 (0, 0))) := by rw [← hV]; unfold Hid; (repeat (first | (with_reducible assumption) | (with_reducible exact Hid.out (by assumption)) | (with_reducible refine (hsk _ _ _ (by (first | omega | (simp only [World.size_alloc, World.size_setCell, size_setRow, World.size_drew]; done) | (simp only [World.size_alloc, World.size_setCell, size_setRow, World.size_drew]; omega)))).trans ?_) | (with_reducible refine (hat _ _ _ (by (first | omega | (simp only [World.size_alloc, World.size_setCell, size_setRow, World.size_drew]; done) | (simp only [World.size_alloc, World.size_setCell, size_setRow, World.size_drew]; omega))))) | (with_reducible refine Kep.block (Kep.alloc (Kep.refl _) _) ?_) | (with_reducible refine (heap_setCell_other _ _ _ _ (by (first | omega | (simp only []; omega) | (show _ ≠ _; omega)))).trans ?_) | (with_reducible refine (setRow_other _ _ _ _ (by (first | omega | (simp only []; omega) | (show _ ≠ _; omega)))).trans ?_) | (with_reducible refine (drew_heap _ _).trans ?_) | (with_reducible refine (drewN_heap _ _ _).trans ?_) | (with_reducible refine Kep.block (by assumption) ?_) | (with_reducible exact setRow_heap _ _ _ _ _ _ (by (repeat (first | (with_reducible assumption) | (with_reducible exact Hid.out (by assumption)) | (with_reducible refine (hsk _ _ _ (by (first | omega | (simp only [World.size_alloc, World.size_setCell, size_setRow, World.size_drew]; done) | (simp only [World.size_alloc, World.size_setCell, size_setRow, World.size_drew]; omega)))).trans ?_) | (with_reducible refine (hat _ _ _ (by (first | omega | (simp only [World.size_alloc, World.size_setCell, size_setRow, World.size_drew]; done) | (simp only [World.size_alloc, World.size_setCell, size_setRow, World.size_drew]; omega))))) | (with_reducible refine Kep.block (Kep.alloc (Kep.refl _) _) ?_) | (with_reducible refine (heap_setCell_other _ _ _ _ (by (first | omega | (simp only []; omega) | (show _ ≠ _; omega)))).trans ?_) | (with_reducible refine (setRow_other _ _ _ _ (by (first | omega | (simp only []; omega) | (show _ ≠ _; omega)))).trans ?_) | (with_reducible refine (drew_heap _ _).trans ?_) | (with_reducible refine (drewN_heap _ _ _).trans ?_)))))))
    have XF : Hid (V3.heap[w3.heap.size + 1]? = some (.cells (fltV (qc, qd)) 29 (0, 0))) := by rw [← hV]; unfold Hid; (repeat (first | (with_reducible assumption) | (with_reducible exact Hid.out (by assumption)) | (with_reducible refine (hsk _ _ _ (by (first | omega | (simp only [World.size_alloc, World.size_setCell, size_setRow, World.size_drew]; done) | (simp only [World.size_alloc, World.size_setCell, size_setRow, World.size_drew]; omega)))).trans ?_) | (with_reducible refine (hat _ _ _ (by (first | omega | (simp only [World.size_alloc, World.size_setCell, size_setRow, World.size_drew]; done) | (simp only [World.size_alloc, World.size_setCell, size_setRow, World.size_drew]; omega))))) | (with_reducible refine Kep.block (Kep.alloc (Kep.refl _) _) ?_) | (with_reducible refine (heap_setCell_other _ _ _ _ (by (first | omega | (simp only []; omega) | (show _ ≠ _; omega)))).trans ?_) | (with_reducible refine (setRow_other _ _ _ _ (by (first | omega | (simp only []; omega) | (show _ ≠ _; omega)))).trans ?_) | (with_reducible refine (drew_heap _ _).trans ?_) | (with_reducible refine (drewN_heap _ _ _).trans ?_) | (with_reducible refine Kep.block (by assumption) ?_) | (with_reducible exact setRow_heap _ _ _ _ _ _ (by (repeat (first | (with_reducible assumption) | (with_reducible exact Hid.out (by assumption)) | (with_reducible refine (hsk _ _ _ (by (first | omega | (simp only [World.size_alloc, World.size_setCell, size_setRow, World.size_drew]; done) | (simp only [World.size_alloc, World.size_setCell, size_setRow, World.size_drew]; omega)))).trans ?_) | (with_reducible refine (hat _ _ _ (by (first | omega | (simp only [World.size_alloc, World.size_setCell, size_setRow, World.size_drew]; done) | (simp only [World.size_alloc, World.size_setCell, size_setRow, World.size_drew]; omega))))) | (with_reducible refine Kep.block (Kep.alloc (Kep.refl _) _) ?_) | (with_reducible refine (heap_setCell_other _ _ _ _ (by (first | omega | (simp only []; omega) | (show _ ≠ _; omega)))).trans ?_) | (with_reducible refine (setRow_other _ _ _ _ (by (first | omega | (simp only []; omega) | (show _ ≠ _; omega)))).trans ?_) | (with_reducible refine (drew_heap _ _).trans ?_) | (with_reducible refine (drewN_heap _ _ _).trans ?_)))))))
    have GW3 : Hid (Kep w V3) := by rw [← hV]; show Kep _ _; (repeat (first | (with_reducible assumption) | (with_reducible exact Kep.refl _) | (with_reducible exact Hid.out (by assumption)) | (with_reducible refine Kep.alloc ?_ _) | (with_reducible refine Kep.drew ?_) | (with_reducible refine Kep.drewN ?_ _) | (with_reducible refine Kep.setRow ?_ _ _ (by (first | omega | (simp only [World.size_alloc, World.size_setCell, size_setRow, World.size_drew]; done) | (simp only [World.size_alloc, World.size_setCell, size_setRow, World.size_drew]; omega)))) | (with_reducible refine Kep.setCell ?_ (by first | omega | (simp only []; omega) | (show _ ≤ _; omega)) _)))
    obtain ⟨i0, i1, i2, i3⟩ := ins_at XI
    have o1 : V3.cell? ⟨w.heap.size + 1 + 1 + 1, 1, none⟩ = some (.int .u32 y2) := cell_of_block XO
    clear hV ZU ZA ZI ZO XI XO
    go_wp2_with (refine wpList_load_row (by rfl) 25 _ (by rfl) _ (by rfl) 25 _ (0, 0) _ blkA Tryd.underlying25 rfl (by exact size_sta) ?_)
    refine (D2.out _ (hT'.out.grown GW3.out)).mono ?_
    rintro e w4 ⟨rfl, K4⟩
    have NA : Hid (w4.heap[w.heap.size]? = some (.cells s0.v 25 (0, 0))) := K4.block XA.out
    have NS : Hid (w4.heap[w3.heap.size]? = some (.cells S1.v 25 (0, 0))) := K4.block XS.out
    have NF : Hid (w4.heap[w3.heap.size + 1]? = some (.cells (fltV (qc, qd)) 29 (0, 0))) := K4.block XF.out
    have G4 : Hid (Kep w w4) := kep_trans GW3.out K4
    have m0 := block_lt NA.out
    have m1 := block_lt NS.out
    have m2 := block_lt NF.out
    have lw4 := G4.out.size
    clear K4 XU XA XS XF i0 i1 i2 i3 o1
    go_upto_region 10 with (first | (refine wpList_store_row (by rfl) 25 _ _ (by rfl) _ _ (by rfl) (by rfl) 25 z19 blkA (by exact size_sta) (by rfl) (v_one _) ?_) | (refine wpList_store_row (by rfl) 29 _ _ (by rfl) _ _ (by rfl) (by rfl) 29 #[.int .i64 0, .int .u32 0] blkA (by exact size_flt) (by rfl) (by simp [Value.oneCell']) ?_))
    dsimp only [Act.put]
    generalize hV : World.setRow (World.setRow (World.alloc (World.alloc w4 _) _) _ _) _ _ = V4
    have QA : At V4 w.heap.size s0 := by rw [← hV]; unfold At; (repeat (first | (with_reducible assumption) | (with_reducible exact Hid.out (by assumption)) | (with_reducible refine (hsk _ _ _ (by (first | omega | (simp only [World.size_alloc, World.size_setCell, size_setRow, World.size_drew]; done) | (simp only [World.size_alloc, World.size_setCell, size_setRow, World.size_drew]; omega)))).trans ?_) | (with_reducible refine (hat _ _ _ (by (first | omega | (simp only [World.size_alloc, World.size_setCell, size_setRow, World.size_drew]; done) | (simp only [World.size_alloc, World.size_setCell, size_setRow, World.size_drew]; omega))))) | (with_reducible refine Kep.block (Kep.alloc (Kep.refl _) _) ?_) | (with_reducible refine (heap_setCell_other _ _ _ _ (by (first | omega | (simp only []; omega) | (show _ ≠ _; omega)))).trans ?_) | (with_reducible refine (setRow_other _ _ _ _ (by (first | omega | (simp only []; omega) | (show _ ≠ _; omega)))).trans ?_) | (with_reducible refine (drew_heap _ _).trans ?_) | (with_reducible refine (drewN_heap _ _ _).trans ?_) | (with_reducible refine Kep.block (by assumption) ?_) | (with_reducible exact setRow_heap _ _ _ _ _ _ (by (repeat (first | (with_reducible assumption) | (with_reducible exact Hid.out (by assumption)) | (with_reducible refine (hsk _ _ _ (by (first | omega | (simp only [World.size_alloc, World.size_setCell, size_setRow, World.size_drew]; done) | (simp only [World.size_alloc, World.size_setCell, size_setRow, World.size_drew]; omega)))).trans ?_) | (with_reducible refine (hat _ _ _ (by (first | omega | (simp only [World.size_alloc, World.size_setCell, size_setRow, World.size_drew]; done) | (simp only [World.size_alloc, World.size_setCell, size_setRow, World.size_drew]; omega))))) | (with_reducible refine Kep.block (Kep.alloc (Kep.refl _) _) ?_) | (with_reducible refine (heap_setCell_other _ _ _ _ (by (first | omega | (simp only []; omega) | (show _ ≠ _; omega)))).trans ?_) | (with_reducible refine (setRow_other _ _ _ _ (by (first | omega | (simp only []; omega) | (show _ ≠ _; omega)))).trans ?_) | (with_reducible refine (drew_heap _ _).trans ?_) | (with_reducible refine (drewN_heap _ _ _).trans ?_)))))))
    have QS : Hid (V4.heap[w3.heap.size]? = some (.cells S1.v 25 (0, 0))) := by rw [← hV]; unfold Hid; (repeat (first | (with_reducible assumption) | (with_reducible exact Hid.out (by assumption)) | (with_reducible refine (hsk _ _ _ (by (first | omega | (simp only [World.size_alloc, World.size_setCell, size_setRow, World.size_drew]; done) | (simp only [World.size_alloc, World.size_setCell, size_setRow, World.size_drew]; omega)))).trans ?_) | (with_reducible refine (hat _ _ _ (by (first | omega | (simp only [World.size_alloc, World.size_setCell, size_setRow, World.size_drew]; done) | (simp only [World.size_alloc, World.size_setCell, size_setRow, World.size_drew]; omega))))) | (with_reducible refine Kep.block (Kep.alloc (Kep.refl _) _) ?_) | (with_reducible refine (heap_setCell_other _ _ _ _ (by (first | omega | (simp only []; omega) | (show _ ≠ _; omega)))).trans ?_) | (with_reducible refine (setRow_other _ _ _ _ (by (first | omega | (simp only []; omega) | (show _ ≠ _; omega)))).trans ?_) | (with_reducible refine (drew_heap _ _).trans ?_) | (with_reducible refine (drewN_heap _ _ _).trans ?_) | (with_reducible refine Kep.block (by assumption) ?_) | (with_reducible exact setRow_heap _ _ _ _ _ _ (by (repeat (first | (with_reducible assumption) | (with_reducible exact Hid.out (by assumption)) | (with_reducible refine (hsk _ _ _ (by (first | omega | (simp only [World.size_alloc, World.size_setCell, size_setRow, World.size_drew]; done) | (simp only [World.size_alloc, World.size_setCell, size_setRow, World.size_drew]; omega)))).trans ?_) | (with_reducible refine (hat _ _ _ (by (first | omega | (simp only [World.size_alloc, World.size_setCell, size_setRow, World.size_drew]; done) | (simp only [World.size_alloc, World.size_setCell, size_setRow, World.size_drew]; omega))))) | (with_reducible refine Kep.block (Kep.alloc (Kep.refl _) _) ?_) | (with_reducible refine (heap_setCell_other _ _ _ _ (by (first | omega | (simp only []; omega) | (show _ ≠ _; omega)))).trans ?_) | (with_reducible refine (setRow_other _ _ _ _ (by (first | omega | (simp only []; omega) | (show _ ≠ _; omega)))).trans ?_) | (with_reducible refine (drew_heap _ _).trans ?_) | (with_reducible refine (drewN_heap _ _ _).trans ?_)))))))
    have QF : Hid (V4.heap[w3.heap.size + 1]? = some (.cells (fltV (qc, qd)) 29 (0, 0))) := by rw [← hV]; unfold Hid; (repeat (first | (with_reducible assumption) | (with_reducible exact Hid.out (by assumption)) | (with_reducible refine (hsk _ _ _ (by (first | omega | (simp only [World.size_alloc, World.size_setCell, size_setRow, World.size_drew]; done) | (simp only [World.size_alloc, World.size_setCell, size_setRow, World.size_drew]; omega)))).trans ?_) | (with_reducible refine (hat _ _ _ (by (first | omega | (simp only [World.size_alloc, World.size_setCell, size_setRow, World.size_drew]; done) | (simp only [World.size_alloc, World.size_setCell, size_setRow, World.size_drew]; omega))))) | (with_reducible refine Kep.block (Kep.alloc (Kep.refl _) _) ?_) | (with_reducible refine (heap_setCell_other _ _ _ _ (by (first | omega | (simp only []; omega) | (show _ ≠ _; omega)))).trans ?_) | (with_reducible refine (setRow_other _ _ _ _ (by (first | omega | (simp only []; omega) | (show _ ≠ _; omega)))).trans ?_) | (with_reducible refine (drew_heap _ _).trans ?_) | (with_reducible refine (drewN_heap _ _ _).trans ?_) | (with_reducible refine Kep.block (by assumption) ?_) | (with_reducible exact setRow_heap _ _ _ _ _ _ (by (repeat (first | (with_reducible assumption) | (with_reducible exact Hid.out (by assumption)) | (with_reducible refine (hsk _ _ _ (by (first | omega | (simp only [World.size_alloc, World.size_setCell, size_setRow, World.size_drew]; done) | (simp only [World.size_alloc, World.size_setCell, size_setRow, World.size_drew]; omega)))).trans ?_) | (with_reducible refine (hat _ _ _ (by (first | omega | (simp only [World.size_alloc, World.size_setCell, size_setRow, World.size_drew]; done) | (simp only [World.size_alloc, World.size_setCell, size_setRow, World.size_drew]; omega))))) | (with_reducible refine Kep.block (Kep.alloc (Kep.refl _) _) ?_) | (with_reducible refine (heap_setCell_other _ _ _ _ (by (first | omega | (simp only []; omega) | (show _ ≠ _; omega)))).trans ?_) | (with_reducible refine (setRow_other _ _ _ _ (by (first | omega | (simp only []; omega) | (show _ ≠ _; omega)))).trans ?_) | (with_reducible refine (drew_heap _ _).trans ?_) | (with_reducible refine (drewN_heap _ _ _).trans ?_)))))))
    have QT : At V4 w4.heap.size S2 := by rw [← hV]; unfold At; (repeat (first | (with_reducible assumption) | (with_reducible exact Hid.out (by assumption)) | (with_reducible refine (hsk _ _ _ (by (first | omega | (simp only [World.size_alloc, World.size_setCell, size_setRow, World.size_drew]; done) | (simp only [World.size_alloc, World.size_setCell, size_setRow, World.size_drew]; omega)))).trans ?_) | (with_reducible refine (hat _ _ _ (by (first | omega | (simp only [World.size_alloc, World.size_setCell, size_setRow, World.size_drew]; done) | (simp only [World.size_alloc, World.size_setCell, size_setRow, World.size_drew]; omega))))) | (with_reducible refine Kep.block (Kep.alloc (Kep.refl _) _) ?_) | (with_reducible refine (heap_setCell_other _ _ _ _ (by (first | omega | (simp only []; omega) | (show _ ≠ _; omega)))).trans ?_) | (with_reducible refine (setRow_other _ _ _ _ (by (first | omega | (simp only []; omega) | (show _ ≠ _; omega)))).trans ?_) | (with_reducible refine (drew_heap _ _).trans ?_) | (with_reducible refine (drewN_heap _ _ _).trans ?_) | (with_reducible refine Kep.block (by assumption) ?_) | (with_reducible exact setRow_heap _ _ _ _ _ _ (by (repeat (first | (with_reducible assumption) | (with_reducible exact Hid.out (by assumption)) | (with_reducible refine (hsk _ _ _ (by (first | omega | (simp only [World.size_alloc, World.size_setCell, size_setRow, World.size_drew]; done) | (simp only [World.size_alloc, World.size_setCell, size_setRow, World.size_drew]; omega)))).trans ?_) | (with_reducible refine (hat _ _ _ (by (first | omega | (simp only [World.size_alloc, World.size_setCell, size_setRow, World.size_drew]; done) | (simp only [World.size_alloc, World.size_setCell, size_setRow, World.size_drew]; omega))))) | (with_reducible refine Kep.block (Kep.alloc (Kep.refl _) _) ?_) | (with_reducible refine (heap_setCell_other _ _ _ _ (by (first | omega | (simp only []; omega) | (show _ ≠ _; omega)))).trans ?_) | (with_reducible refine (setRow_other _ _ _ _ (by (first | omega | (simp only []; omega) | (show _ ≠ _; omega)))).trans ?_) | (with_reducible refine (drew_heap _ _).trans ?_) | (with_reducible refine (drewN_heap _ _ _).trans ?_)))))))
    have QG : Hid (V4.heap[w4.heap.size + 1]? = some (.cells (fltV (qc, qd)) 29 (0, 0))) := by rw [← hV]; unfold Hid; (repeat (first | (with_reducible assumption) | (with_reducible exact Hid.out (by assumption)) | (with_reducible refine (hsk _ _ _ (by (first | omega | (simp only [World.size_alloc, World.size_setCell, size_setRow, World.size_drew]; done) | (simp only [World.size_alloc, World.size_setCell, size_setRow, World.size_drew]; omega)))).trans ?_) | (with_reducible refine (hat _ _ _ (by (first | omega | (simp only [World.size_alloc, World.size_setCell, size_setRow, World.size_drew]; done) | (simp only [World.size_alloc, World.size_setCell, size_setRow, World.size_drew]; omega))))) | (with_reducible refine Kep.block (Kep.alloc (Kep.refl _) _) ?_) | (with_reducible refine (heap_setCell_other _ _ _ _ (by (first | omega | (simp only []; omega) | (show _ ≠ _; omega)))).trans ?_) | (with_reducible refine (setRow_other _ _ _ _ (by (first | omega | (simp only []; omega) | (show _ ≠ _; omega)))).trans ?_) | (with_reducible refine (drew_heap _ _).trans ?_) | (with_reducible refine (drewN_heap _ _ _).trans ?_) | (with_reducible refine Kep.block (by assumption) ?_) | (with_reducible exact setRow_heap _ _ _ _ _ _ (by (repeat (first | (with_reducible assumption) | (with_reducible exact Hid.out (by assumption)) | (with_reducible refine (hsk _ _ _ (by (first | omega | (simp only [World.size_alloc, World.size_setCell, size_setRow, World.size_drew]; done) | (simp only [World.size_alloc, World.size_setCell, size_setRow, World.size_drew]; omega)))).trans ?_) | (with_reducible refine (hat _ _ _ (by (first | omega | (simp only [World.size_alloc, World.size_setCell, size_setRow, World.size_drew]; done) | (simp only [World.size_alloc, World.size_setCell, size_setRow, World.size_drew]; omega))))) | (with_reducible refine Kep.block (Kep.alloc (Kep.refl _) _) ?_) | (with_reducible refine (heap_setCell_other _ _ _ _ (by (first | omega | (simp only []; omega) | (show _ ≠ _; omega)))).trans ?_) | (with_reducible refine (setRow_other _ _ _ _ (by (first | omega | (simp only []; omega) | (show _ ≠ _; omega)))).trans ?_) | (with_reducible refine (drew_heap _ _).trans ?_) | (with_reducible refine (drewN_heap _ _ _).trans ?_)))))))
    have GW4 : Hid (Kep w V4) := by rw [← hV]; show Kep _ _; (repeat (first | (with_reducible assumption) | (with_reducible exact Kep.refl _) | (with_reducible exact Hid.out (by assumption)) | (with_reducible refine Kep.alloc ?_ _) | (with_reducible refine Kep.drew ?_) | (with_reducible refine Kep.drewN ?_ _) | (with_reducible refine Kep.setRow ?_ _ _ (by (first | omega | (simp only [World.size_alloc, World.size_setCell, size_setRow, World.size_drew]; done) | (simp only [World.size_alloc, World.size_setCell, size_setRow, World.size_drew]; omega)))) | (with_reducible refine Kep.setCell ?_ (by first | omega | (simp only []; omega) | (show _ ≤ _; omega)) _)))
    have dr := QA.reg r hr8
    have tr := QT.reg r hr8
    have fz := row_frozen QT
    have QT' : Hid (At V4 w4.heap.size S2) := QT
    clear hV NA NS NF QA QT
    go_upto_region 11 with fail
    generalize hY : World.setCell V4 _ _ = Y4
    have YT : Hid (Y4.heap[w4.heap.size]? = some (.cells S1.v 25 (0, 0))) := by
      rw [← hY, ← E2'.out]; exact QT'.out.set r hr8 (s0.r r)
    have YS : Hid (Y4.heap[w3.heap.size]? = some (.cells S1.v 25 (0, 0))) := by rw [← hY]; unfold Hid; (repeat (first | (with_reducible assumption) | (with_reducible exact Hid.out (by assumption)) | (with_reducible refine (hsk _ _ _ (by (first | omega | (simp only [World.size_alloc, World.size_setCell, size_setRow, World.size_drew]; done) | (simp only [World.size_alloc, World.size_setCell, size_setRow, World.size_drew]; omega)))).trans ?_) | (with_reducible refine (hat _ _ _ (by (first | omega | (simp only [World.size_alloc, World.size_setCell, size_setRow, World.size_drew]; done) | (simp only [World.size_alloc, World.size_setCell, size_setRow, World.size_drew]; omega))))) | (with_reducible refine Kep.block (Kep.alloc (Kep.refl _) _) ?_) | (with_reducible refine (heap_setCell_other _ _ _ _ (by (first | omega | (simp only []; omega) | (show _ ≠ _; omega)))).trans ?_) | (with_reducible refine (setRow_other _ _ _ _ (by (first | omega | (simp only []; omega) | (show _ ≠ _; omega)))).trans ?_) | (with_reducible refine (drew_heap _ _).trans ?_) | (with_reducible refine (drewN_heap _ _ _).trans ?_) | (with_reducible refine Kep.block (by assumption) ?_) | (with_reducible exact setRow_heap _ _ _ _ _ _ (by (repeat (first | (with_reducible assumption) | (with_reducible exact Hid.out (by assumption)) | (with_reducible refine (hsk _ _ _ (by (first | omega | (simp only [World.size_alloc, World.size_setCell, size_setRow, World.size_drew]; done) | (simp only [World.size_alloc, World.size_setCell, size_setRow, World.size_drew]; omega)))).trans ?_) | (with_reducible refine (hat _ _ _ (by (first | omega | (simp only [World.size_alloc, World.size_setCell, size_setRow, World.size_drew]; done) | (simp only [World.size_alloc, World.size_setCell, size_setRow, World.size_drew]; omega))))) | (with_reducible refine Kep.block (Kep.alloc (Kep.refl _) _) ?_) | (with_reducible refine (heap_setCell_other _ _ _ _ (by (first | omega | (simp only []; omega) | (show _ ≠ _; omega)))).trans ?_) | (with_reducible refine (setRow_other _ _ _ _ (by (first | omega | (simp only []; omega) | (show _ ≠ _; omega)))).trans ?_) | (with_reducible refine (drew_heap _ _).trans ?_) | (with_reducible refine (drewN_heap _ _ _).trans ?_)))))))
    have YF : Y4.heap[w3.heap.size + 1]? = some (.cells (fltV (qc, qd)) 29 (0, 0)) := by rw [← hY]; (repeat (first | (with_reducible assumption) | (with_reducible exact Hid.out (by assumption)) | (with_reducible refine (hsk _ _ _ (by (first | omega | (simp only [World.size_alloc, World.size_setCell, size_setRow, World.size_drew]; done) | (simp only [World.size_alloc, World.size_setCell, size_setRow, World.size_drew]; omega)))).trans ?_) | (with_reducible refine (hat _ _ _ (by (first | omega | (simp only [World.size_alloc, World.size_setCell, size_setRow, World.size_drew]; done) | (simp only [World.size_alloc, World.size_setCell, size_setRow, World.size_drew]; omega))))) | (with_reducible refine Kep.block (Kep.alloc (Kep.refl _) _) ?_) | (with_reducible refine (heap_setCell_other _ _ _ _ (by (first | omega | (simp only []; omega) | (show _ ≠ _; omega)))).trans ?_) | (with_reducible refine (setRow_other _ _ _ _ (by (first | omega | (simp only []; omega) | (show _ ≠ _; omega)))).trans ?_) | (with_reducible refine (drew_heap _ _).trans ?_) | (with_reducible refine (drewN_heap _ _ _).trans ?_) | (with_reducible refine Kep.block (by assumption) ?_) | (with_reducible exact setRow_heap _ _ _ _ _ _ (by (repeat (first | (with_reducible assumption) | (with_reducible exact Hid.out (by assumption)) | (with_reducible refine (hsk _ _ _ (by (first | omega | (simp only [World.size_alloc, World.size_setCell, size_setRow, World.size_drew]; done) | (simp only [World.size_alloc, World.size_setCell, size_setRow, World.size_drew]; omega)))).trans ?_) | (with_reducible refine (hat _ _ _ (by (first | omega | (simp only [World.size_alloc, World.size_setCell, size_setRow, World.size_drew]; done) | (simp only [World.size_alloc, World.size_setCell, size_setRow, World.size_drew]; omega))))) | (with_reducible refine Kep.block (Kep.alloc (Kep.refl _) _) ?_) | (with_reducible refine (heap_setCell_other _ _ _ _ (by (first | omega | (simp only []; omega) | (show _ ≠ _; omega)))).trans ?_) | (with_reducible refine (setRow_other _ _ _ _ (by (first | omega | (simp only []; omega) | (show _ ≠ _; omega)))).trans ?_) | (with_reducible refine (drew_heap _ _).trans ?_) | (with_reducible refine (drewN_heap _ _ _).trans ?_)))))))
    have YG : Y4.heap[w4.heap.size + 1]? = some (.cells (fltV (qc, qd)) 29 (0, 0)) := by rw [← hY]; (repeat (first | (with_reducible assumption) | (with_reducible exact Hid.out (by assumption)) | (with_reducible refine (hsk _ _ _ (by (first | omega | (simp only [World.size_alloc, World.size_setCell, size_setRow, World.size_drew]; done) | (simp only [World.size_alloc, World.size_setCell, size_setRow, World.size_drew]; omega)))).trans ?_) | (with_reducible refine (hat _ _ _ (by (first | omega | (simp only [World.size_alloc, World.size_setCell, size_setRow, World.size_drew]; done) | (simp only [World.size_alloc, World.size_setCell, size_setRow, World.size_drew]; omega))))) | (with_reducible refine Kep.block (Kep.alloc (Kep.refl _) _) ?_) | (with_reducible refine (heap_setCell_other _ _ _ _ (by (first | omega | (simp only []; omega) | (show _ ≠ _; omega)))).trans ?_) | (with_reducible refine (setRow_other _ _ _ _ (by (first | omega | (simp only []; omega) | (show _ ≠ _; omega)))).trans ?_) | (with_reducible refine (drew_heap _ _).trans ?_) | (with_reducible refine (drewN_heap _ _ _).trans ?_) | (with_reducible refine Kep.block (by assumption) ?_) | (with_reducible exact setRow_heap _ _ _ _ _ _ (by (repeat (first | (with_reducible assumption) | (with_reducible exact Hid.out (by assumption)) | (with_reducible refine (hsk _ _ _ (by (first | omega | (simp only [World.size_alloc, World.size_setCell, size_setRow, World.size_drew]; done) | (simp only [World.size_alloc, World.size_setCell, size_setRow, World.size_drew]; omega)))).trans ?_) | (with_reducible refine (hat _ _ _ (by (first | omega | (simp only [World.size_alloc, World.size_setCell, size_setRow, World.size_drew]; done) | (simp only [World.size_alloc, World.size_setCell, size_setRow, World.size_drew]; omega))))) | (with_reducible refine Kep.block (Kep.alloc (Kep.refl _) _) ?_) | (with_reducible refine (heap_setCell_other _ _ _ _ (by (first | omega | (simp only []; omega) | (show _ ≠ _; omega)))).trans ?_) | (with_reducible refine (setRow_other _ _ _ _ (by (first | omega | (simp only []; omega) | (show _ ≠ _; omega)))).trans ?_) | (with_reducible refine (drew_heap _ _).trans ?_) | (with_reducible refine (drewN_heap _ _ _).trans ?_)))))))
    have GY4 : Hid (Kep w Y4) := by rw [← hY]; show Kep _ _; (repeat (first | (with_reducible assumption) | (with_reducible exact Kep.refl _) | (with_reducible exact Hid.out (by assumption)) | (with_reducible refine Kep.alloc ?_ _) | (with_reducible refine Kep.drew ?_) | (with_reducible refine Kep.drewN ?_ _) | (with_reducible refine Kep.setRow ?_ _ _ (by (first | omega | (simp only [World.size_alloc, World.size_setCell, size_setRow, World.size_drew]; done) | (simp only [World.size_alloc, World.size_setCell, size_setRow, World.size_drew]; omega)))) | (with_reducible refine Kep.setCell ?_ (by first | omega | (simp only []; omega) | (show _ ≤ _; omega)) _)))
    have g0 : Y4.cell? ⟨w3.heap.size + 1, 0, none⟩ = some (.int .i64 qc) := cell_of_block YF
    have g1 : Y4.cell? ⟨w3.heap.size + 1, 1, none⟩ = some (.int .u32 qd) := cell_of_block YF
    have h0 : Y4.cell? ⟨w4.heap.size + 1, 0, none⟩ = some (.int .i64 qc) := cell_of_block YG
    have h1 : Y4.cell? ⟨w4.heap.size + 1, 1, none⟩ = some (.int .u32 qd) := cell_of_block YG
    have hss : ∀ w, Sem.run Tryd.prog (Op.equalIn 10000 25 (.agg S1.v) (.agg S1.v)) w = .ok true w := fun w => sta_same S1 w
    clear hY dr tr fz QT' QS QF QG YF YG
    go_wp2_with (first
      | (refine wpList_load_row (by rfl) 25 _ (by rfl) _ (by rfl) 25 _ (0, 0) _ blkA Tryd.underlying25 rfl (by exact size_sta) ?_)
      | (refine wpList_load_row_w (by rfl) 25 _ (by rfl) _ (by rfl) 25 _ (0, 0) _ blkA Tryd.underlying25 rfl (by exact size_sta) ?_)
      | (go_at_call 10; refine (WK.out _ (hT'.out.grown GY4.out)).mono ?_; rintro e w5 ⟨rfl, K5⟩; have G5 : Hid (Kep w w5) := kep_trans GY4.out K5; clear K5))
    go_ret
    exact ⟨rfl, by (repeat (first | (with_reducible assumption) | (with_reducible exact Kep.refl _) | (with_reducible exact Hid.out (by assumption)) | (with_reducible refine Kep.alloc ?_ _) | (with_reducible refine Kep.drew ?_) | (with_reducible refine Kep.drewN ?_ _) | (with_reducible refine Kep.setRow ?_ _ _ (by (first | omega | (simp only [World.size_alloc, World.size_setCell, size_setRow, World.size_drew]; done) | (simp only [World.size_alloc, World.size_setCell, size_setRow, World.size_drew]; omega)))) | (with_reducible refine Kep.setCell ?_ (by first | omega | (simp only []; omega) | (show _ ≤ _; omega)) _)))⟩
end Go.Proofs.YthimfiihebdchaaDoor
