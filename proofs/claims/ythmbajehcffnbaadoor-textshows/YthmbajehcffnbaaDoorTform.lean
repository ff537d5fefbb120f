/- Which words stand behind an operation's name, as the code asks for them. -/
import Derived.Test.YthmbajehcffnbaaDoorMay
import Derived.Deep.RegionWith
namespace Go.Proofs.YthmbajehcffnbaaDoor
open Go.RowKit
set_option linter.unusedVariables false

def hA (r : Nat) : Bool := [false, false, true, true, false, true, true, false, false, true].getD r false
def hB (r : Nat) : Bool := [false, false, false, true, false, false, true, false, false, false].getD r false
def hN (r : Nat) : Bool := [false, false, false, false, true, true, true, true, true, true].getD r false
theorem may_forms : ∀ r, r < 10 → mayB r 1 0 0 = hA r ∧ mayB r 0 1 0 = hB r ∧ mayB r 0 0 1 = hN r := by decide
theorem ab_forms : ∀ r, r < 10 → hB r = true → hA r = true := by decide
def letB (op : Int) : UInt8 := if op = 98 ∨ op = 99 then 99 else if op = 100 ∨ op = 101 then 112 else 114
def lets (op : Int) (a b : Bool) : Array UInt8 := match a, b with
  | false, false => #[]
  | true, false => #[114]
  | false, true => #[letB op]
  | true, true => #[114, letB op]

theorem ret_str {a b : ByteArray} (h : a = b) : Ending.returned (.string a) = .returned (.string b) := by rw [h]

set_option maxHeartbeats 1000000 in
theorem letterOfB_any (op : Int) (w : World) (h0 : 0 ≤ op) (h1 : op < 256) :
    Calls Tryd.prog 33 #[.int .u8 op] w fun e w' => e = .returned (.string ⟨#[letB op]⟩) ∧ w' = w := by
  go_enter Tryd.func33, Tryd.ntmps33
  go_wp2_with fail
  all_goals go_ret
  all_goals exact ⟨ret_str (by unfold letB; simp_all), rfl⟩

theorem ba_app (a b : Array UInt8) : (⟨a⟩ : ByteArray) ++ ⟨b⟩ = ⟨a ++ b⟩ := ByteArray.ext (by simp)
def formV (op : Int) (r : Nat) : Array Value := #[.string ⟨lets op (hA r) (hB r)⟩, .bool (hN r)]
theorem sizeForm : (Tryd.prog.info? 36).map (·.size) = some 2 := by kernel_rfl

/-- The two blocks of the call: what is made up, and what is answered. -/
structure Fs (w w' : World) (s : Array UInt8) (b : Bool) : Prop where
  fm : w'.heap[w.heap.size + 1]? = some (.cells #[.string ⟨s⟩, .bool b] 36 (0, 0))
  rs : w'.heap[w.heap.size]? = some (.cells #[.string ⟨#[]⟩, .bool false] 36 (0, 0))
  kp : Kep w w'
  sz : w.heap.size + 1 < w'.heap.size
theorem Fs.kep {w w1 w2 : World} {s : Array UInt8} {b : Bool} (h : Fs w w1 s b) (k : Kep w1 w2) : Fs w w2 s b := ⟨k.block h.fm, k.block h.rs, kep_trans h.kp k, k.lt h.sz⟩
theorem Fs.begin (w : World) : Fs w ((w.alloc (.cells #[.string ⟨#[]⟩, .bool false] 36)).alloc (.cells #[.string ⟨#[]⟩, .bool false] 36)) #[] false :=
  ⟨by have := heap_alloc_new (w.alloc (.cells #[.string ⟨#[]⟩, .bool false] 36)) (.cells #[.string ⟨#[]⟩, .bool false] 36); simpa using this, ((Kep.refl _).alloc _).block (heap_alloc_new _ _), ((Kep.refl _).alloc _).alloc _, by simp⟩
theorem Fs.set0 {w w1 : World} {s : Array UInt8} {b : Bool} (h : Fs w w1 s b) (s' : Array UInt8) : Fs w (w1.setCell ⟨w.heap.size + 1, 0, none⟩ (.string ⟨s'⟩)) s' b :=
  ⟨heap_setCell_same w1 (w.heap.size + 1) 0 _ _ _ h.fm, (heap_setCell_other _ _ _ _ (by simp)).trans h.rs, h.kp.setCell (by simp) _, by have := h.sz; simpa [World.setCell] using this⟩
theorem Fs.set1 {w w1 : World} {s : Array UInt8} {b : Bool} (h : Fs w w1 s b) (b' : Bool) : Fs w (w1.setCell ⟨w.heap.size + 1, 1, none⟩ (.bool b')) s b' :=
  ⟨heap_setCell_same w1 (w.heap.size + 1) 1 _ _ _ h.fm, (heap_setCell_other _ _ _ _ (by simp)).trans h.rs, h.kp.setCell (by simp) _, by have := h.sz; simpa [World.setCell] using this⟩
theorem Fs.cells {w w1 : World} {s : Array UInt8} {b : Bool} (h : Fs w w1 s b) : w1.cell? ⟨w.heap.size + 1, 0, none⟩ = some (.string ⟨s⟩) ∧ w1.cell? ⟨w.heap.size + 1, 1, none⟩ = some (.bool b) ∧ w1.cell? ⟨w.heap.size, 0, none⟩ = some (.string ⟨#[]⟩) ∧ w1.cell? ⟨w.heap.size, 1, none⟩ = some (.bool false) ∧
    w1.frozen? ⟨w.heap.size + 1, 0, none⟩ = false ∧ w1.frozen? ⟨w.heap.size + 1, 1, none⟩ = false ∧ w1.frozen? ⟨w.heap.size, 0, none⟩ = false ∧ w1.frozen? ⟨w.heap.size, 1, none⟩ = false :=
  ⟨cell_of_block h.fm, cell_of_block h.fm, cell_of_block h.rs, cell_of_block h.rs, frozen_of_row _ _ _ _ _ h.fm, frozen_of_row _ _ _ _ _ h.fm, frozen_of_row _ _ _ _ _ h.rs, frozen_of_row _ _ _ _ _ h.rs⟩
theorem form_one2 (s : Array UInt8) (b : Bool) : (#[Value.string ⟨s⟩, .bool b]).all (·.oneCell') = true := by simp [Value.oneCell']

set_option maxHeartbeats 4000000 in
set_option maxRecDepth 100000 in
theorem tform_of (op : Int) (xa xb xn : Bool) (hab : xb = true → xa = true) (w : World) (h0 : 0 ≤ op) (h1 : op < 256) (hT : Tabs w)
    (M1 : ∀ w, Tabs w → Calls Tryd.prog 13 #[.agg #[.int .u8 op, .int .u8 1, .int .u8 0, .int .i32 0], .bool true] w fun e w' => e = .returned (.bool xa) ∧ Kep w w')
    (M2 : ∀ w, Tabs w → Calls Tryd.prog 13 #[.agg #[.int .u8 op, .int .u8 0, .int .u8 1, .int .i32 0], .bool true] w fun e w' => e = .returned (.bool xb) ∧ Kep w w')
    (M3 : ∀ w, Tabs w → Calls Tryd.prog 13 #[.agg #[.int .u8 op, .int .u8 0, .int .u8 0, .int .i32 1], .bool true] w fun e w' => e = .returned (.bool xn) ∧ Kep w w') :
    Calls Tryd.prog 14 #[.int .u8 op] w fun e w' => e = .returned (.agg #[.string ⟨lets op xa xb⟩, .bool xn]) ∧ Kep w w' := by
  have hT' : Hid (Tabs w) := hT
  have H1 : Hid _ := M1
  have H2 : Hid _ := M2
  have H3 : Hid _ := M3
  obtain ⟨L, hL⟩ : ∃ L, Hid (letB op = L) := ⟨_, rfl⟩
  have hLB : Hid (∀ w, Calls Tryd.prog 33 #[.int .u8 op] w fun e w' => e = .returned (.string ⟨#[L]⟩) ∧ w' = w) := fun w => hL.out ▸ letterOfB_any op w h0 h1
  unfold lets
  rw [hL.out]
  clear hT M1 M2 M3
  rcases (by cases xa <;> cases xb <;> simp_all : (xa = false ∧ xb = false) ∨ (xa = true ∧ xb = false) ∨ (xa = true ∧ xb = true)) with ⟨rfl, rfl⟩ | ⟨rfl, rfl⟩ | ⟨rfl, rfl⟩
  · go_enter Tryd.func14, Tryd.ntmps14
    go_wp2_with fail
    refine (H1.out _ (hT'.out.grown (((Kep.refl _).alloc _).alloc _))).mono ?_
    rintro e w1 ⟨rfl, g1⟩
    have F1 : Hid (Fs w w1 #[] false) := (Fs.begin w).kep g1
    clear g1
    go_wp2_with fail
    refine (H2.out _ (hT'.out.grown F1.out.kp)).mono ?_
    rintro e w2 ⟨rfl, g2⟩
    have F2 : Hid (Fs w w2 #[] false) := F1.out.kep g2
    clear g2
    go_wp2_with fail
    refine (H3.out _ (hT'.out.grown F2.out.kp)).mono ?_
    rintro e w3 ⟨rfl, g3⟩
    have F3 : Hid (Fs w w3 #[] false) := F2.out.kep g3
    clear g3
    obtain ⟨c0, c1, c2, c3, d0, d1, d2, d3⟩ := F3.out.cells
    have F4 : Hid (∀ b, Fs w (w3.setCell ⟨w.heap.size + 1, 1, none⟩ (.bool b)) #[] b) := F3.out.set1
    go_wp2_with (refine wpList_store_row rfl 36 _ _ rfl w.heap.size #[.string ⟨#[]⟩, .bool xn] rfl rfl 36 _ (F4.out _).rs sizeForm rfl (form_one2 _ _) ?_)
    try simp only [Exit.inBlock, Exit.then]
    exact bodyPost_ret (results_cell_row rfl _ _ w.heap.size 36 #[.string ⟨#[]⟩, .bool xn] (0, 0) _ rfl (setRow_heap _ _ _ _ _ _ (F4.out _).rs) Tryd.underlying36 rfl sizeForm) rfl ⟨rfl, (F4.out _).kp.setRow _ _ (Nat.le_refl _)⟩
  · go_enter Tryd.func14, Tryd.ntmps14
    go_wp2_with fail
    refine (H1.out _ (hT'.out.grown (((Kep.refl _).alloc _).alloc _))).mono ?_
    rintro e w1 ⟨rfl, g1⟩
    have F1 : Hid (Fs w w1 #[] false) := (Fs.begin w).kep g1
    clear g1
    obtain ⟨c0, c1, c2, c3, d0, d1, d2, d3⟩ := F1.out.cells
    have F1' : Hid (Fs w (w1.setCell ⟨w.heap.size + 1, 0, none⟩ (.string ⟨#[114]⟩)) #[114] false) := F1.out.set0 _
    go_wp2_with fail
    refine (H2.out _ (hT'.out.grown F1'.out.kp)).mono ?_
    rintro e w2 ⟨rfl, g2⟩
    have F2 : Hid (Fs w w2 #[114] false) := F1'.out.kep g2
    clear g2 c0 c1 c2 c3 d0 d1 d2 d3
    go_wp2_with fail
    refine (H3.out _ (hT'.out.grown F2.out.kp)).mono ?_
    rintro e w3 ⟨rfl, g3⟩
    have F3 : Hid (Fs w w3 #[114] false) := F2.out.kep g3
    clear g3
    obtain ⟨c0, c1, c2, c3, d0, d1, d2, d3⟩ := F3.out.cells
    have F4 : Hid (∀ b, Fs w (w3.setCell ⟨w.heap.size + 1, 1, none⟩ (.bool b)) #[114] b) := F3.out.set1
    go_wp2_with (refine wpList_store_row rfl 36 _ _ rfl w.heap.size #[.string ⟨#[114]⟩, .bool xn] rfl rfl 36 _ (F4.out _).rs sizeForm rfl (form_one2 _ _) ?_)
    try simp only [Exit.inBlock, Exit.then]
    exact bodyPost_ret (results_cell_row rfl _ _ w.heap.size 36 #[.string ⟨#[114]⟩, .bool xn] (0, 0) _ rfl (setRow_heap _ _ _ _ _ _ (F4.out _).rs) Tryd.underlying36 rfl sizeForm) rfl ⟨rfl, (F4.out _).kp.setRow _ _ (Nat.le_refl _)⟩
  · go_enter Tryd.func14, Tryd.ntmps14
    go_wp2_with fail
    refine (H1.out _ (hT'.out.grown (((Kep.refl _).alloc _).alloc _))).mono ?_
    rintro e w1 ⟨rfl, g1⟩
    have F1 : Hid (Fs w w1 #[] false) := (Fs.begin w).kep g1
    clear g1
    obtain ⟨c0, c1, c2, c3, d0, d1, d2, d3⟩ := F1.out.cells
    have F1' : Hid (Fs w (w1.setCell ⟨w.heap.size + 1, 0, none⟩ (.string ⟨#[114]⟩)) #[114] false) := F1.out.set0 _
    go_wp2_with fail
    refine (H2.out _ (hT'.out.grown F1'.out.kp)).mono ?_
    rintro e w2 ⟨rfl, g2⟩
    have F2 : Hid (Fs w w2 #[114] false) := F1'.out.kep g2
    clear g2 c0 c1 c2 c3 d0 d1 d2 d3
    obtain ⟨c0, c1, c2, c3, d0, d1, d2, d3⟩ := F2.out.cells
    have F2' : Hid (Fs w (w2.setCell ⟨w.heap.size + 1, 0, none⟩ (.string ⟨#[114, L]⟩)).drew #[114, L] false) := (F2.out.set0 _).kep (Kep.refl _).drew
    have happ : (⟨#[114]⟩ : ByteArray) ++ ⟨#[L]⟩ = ⟨#[114, L]⟩ := ba_app _ _
    go_wp2_with fail
    go_region_with (go_at_call 33; refine (hLB.out _).mono ?_; rintro e w5 ⟨rfl, rfl⟩)
    all_goals
      clear c0 c1 c2 c3 d0 d1 d2 d3
      go_wp2_with fail
      refine (H3.out _ (hT'.out.grown F2'.out.kp)).mono ?_
      rintro e w3 ⟨rfl, g3⟩
      have F3 : Hid (Fs w w3 #[114, L] false) := F2'.out.kep g3
      clear g3
      obtain ⟨c0, c1, c2, c3, d0, d1, d2, d3⟩ := F3.out.cells
      have F4 : Hid (∀ b, Fs w (w3.setCell ⟨w.heap.size + 1, 1, none⟩ (.bool b)) #[114, L] b) := F3.out.set1
      go_wp2_with (refine wpList_store_row rfl 36 _ _ rfl w.heap.size #[.string ⟨#[114, L]⟩, .bool xn] rfl rfl 36 _ (F4.out _).rs sizeForm rfl (form_one2 _ _) ?_)
      try simp only [Exit.inBlock, Exit.then]
      exact bodyPost_ret (results_cell_row rfl _ _ w.heap.size 36 #[.string ⟨#[114, L]⟩, .bool xn] (0, 0) _ rfl (setRow_heap _ _ _ _ _ _ (F4.out _).rs) Tryd.underlying36 rfl sizeForm) rfl ⟨rfl, (F4.out _).kp.setRow _ _ (Nat.le_refl _)⟩
theorem tformOf_any (op : Int) (w : World) (h0 : 0 ≤ op) (h1 : op < 256) (hT : Tabs w) :
    Calls Tryd.prog 14 #[.int .u8 op] w fun e w' => e = .returned (.agg (formV op (rowOf op true))) ∧ Kep w w' := by
  obtain ⟨m1, m2, m3⟩ := may_forms (rowOf op true) (rowOf_lt op true)
  exact tform_of op (hA (rowOf op true)) (hB (rowOf op true)) (hN (rowOf op true)) (ab_forms _ (rowOf_lt op true)) w h0 h1 hT
    (fun w h => m1 ▸ may_any op 1 0 0 true w h0 h1 (by decide) (by decide) h)
    (fun w h => m2 ▸ may_any op 0 1 0 true w h0 h1 (by decide) (by decide) h)
    (fun w h => m3 ▸ may_any op 0 0 1 true w h0 h1 (by decide) (by decide) h)
end Go.Proofs.YthmbajehcffnbaaDoor
