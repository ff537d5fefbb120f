/- The document's Look: where a virtual address leads. -/
import Derived.Test.YtahnmppnfoeffaaWto
import Derived.Deep.CutRange
namespace Go.Proofs.Ytahnmppnfoeffaa
open Go.RowKit
set_option linter.unusedVariables false

theorem rhas_any (w : World) (x b : Nat) (hx : (x : Int) < 4294967296) (hb : (0 : Int) < b) (hb2 : (b : Int) < 4294967296) :
    Calls Try.prog 30 #[.int .u32 x, .int .u32 b] w fun e w' => e = .returned (.bool (x / b % 2 == 1)) ∧ w' = w := by
  have hq : ((x : Int).tdiv (b : Int)) % 4294967296 = ((x / b : Nat) : Int) := by
    rw [Int.tdiv_eq_ediv_of_nonneg (by omega), ← Int.natCast_ediv]
    have : x / b ≤ x := Nat.div_le_self _ _
    generalize x / b = q at this
    omega
  have h0 : ((b : Int) == 0) = false := by simp; omega
  go_enter Try.func30, Try.ntmps30
  go_wp2
  go_ret
  refine ⟨ret_bool ?_, rfl⟩
  rw [Bool.eq_iff_iff]
  simp
  omega

theorem size_rway : (Try.prog.info? 35).map (·.size) = some 6 := by kernel_rfl
theorem rway_cells {w : World} {g : Nat} {b a e d t p : Int} (h : w.heap[g]? = some (.cells (wayV b a e d t p) 35 (0, 0))) :
    w.cell? ⟨g, 0, none⟩ = some (.int .u32 b) ∧ w.cell? ⟨g, 1, none⟩ = some (.int .u32 a) ∧ w.cell? ⟨g, 2, none⟩ = some (.int .u32 e) ∧ w.cell? ⟨g, 3, none⟩ = some (.int .i64 d) ∧ w.cell? ⟨g, 4, none⟩ = some (.int .i64 t) ∧ w.cell? ⟨g, 5, none⟩ = some (.int .i64 p) ∧ ∀ k, w.frozen? ⟨g, k, none⟩ = false :=
  ⟨cell_of_block h, cell_of_block h, cell_of_block h, cell_of_block h, cell_of_block h, cell_of_block h, fun k => by simp [World.frozen?, h]⟩
theorem set6 {W : World} {g : Nat} {t : TypeId} {a b c d e f a' b' c' d' e' f' : Value} (h : W.heap[g]? = some (.cells #[a, b, c, d, e, f] t (0, 0))) :
    ((((((W.setCell ⟨g, 0, none⟩ a').setCell ⟨g, 1, none⟩ b').setCell ⟨g, 2, none⟩ c').setCell ⟨g, 3, none⟩ d').setCell ⟨g, 4, none⟩ e').setCell ⟨g, 5, none⟩ f').heap[g]? = some (.cells #[a', b', c', d', e', f'] t (0, 0)) := by
  have h1 := heap_setCell_same W g 0 _ _ a' h
  have h2 := heap_setCell_same _ g 1 _ _ b' h1
  have h3 := heap_setCell_same _ g 2 _ _ c' h2
  have h4 := heap_setCell_same _ g 3 _ _ d' h3
  have h5 := heap_setCell_same _ g 4 _ _ e' h4
  have h6 := heap_setCell_same _ g 5 _ _ f' h5
  exact h6

/-- What calls of the document's memory answer, in any world that keeps w. -/
def RWordIs (w : World) (x : Option Addr) (n a : Nat) (r : Option Nat) : Prop := ∀ w', Kep w w' → Calls Try.prog 28 #[refV x n, .int .u32 a] w' fun e w'' => e = .returned (.tuple (wdR r)) ∧ Kep w' w''
def RByteIs (w : World) (x : Option Addr) (n a : Nat) (b : Bool) : Prop := ∀ w', Kep w w' → Calls Try.prog 29 #[refV x n, .int .u32 a] w' fun e w'' => ∃ z : Int, e = .returned (.tuple #[.int .u8 z, .bool b]) ∧ Kep w' w''

theorem rlook_dirs (w : World) (x : Option Addr) (n root : Nat) (dirs : Int) (va : Nat) (ha : (va : Int) < 4294967296) (hd : dirs ≤ ((va / 1024 : Nat) : Int)) :
    Calls Try.prog 11 #[refV x n, .int .u32 root, .int .i64 dirs, .int .u32 va] w fun e w' => e = .returned (.tuple (wyR none)) ∧ Kep w w' := by
  have g : decide (dirs ≤ (va : Int) / 1024) = true := decide_eq_true (by omega)
  go_enter Try.func11, Try.ntmps11
  go_wp2_with fail
  refine bodyPost_ret (resultsC1 rfl _ _ (w.heap.size + 1) 35 (wayV 0 0 0 0 0 0) (0, 0) _ rfl (hat _ _ _ (by simp)) Try.underlying35 rfl size_rway) rfl ⟨rfl, ((Kep.refl _).alloc _).alloc _⟩

set_option maxHeartbeats 4000000 in
set_option maxRecDepth 100000 in
theorem rlook_b0 (w : World) (p : Option Addr) (n root : Nat) (dirs : Int) (va : Nat) (hr : (root : Int) < 4294967296) (ha : (va : Int) < 4294967296) (hd : ((va / 1024 : Nat) : Int) < dirs) (h1 : RWordIs w p n (dirAt root va) none) :
    Calls Try.prog 11 #[refV p n, .int .u32 root, .int .i64 dirs, .int .u32 va] w fun e w' => e = .returned (.tuple (wyR none)) ∧ Kep w w' := by
  have g : decide (dirs ≤ (va : Int) / 1024) = false := decide_eq_false (by omega)
  have H1 : Hid (∀ t : Int, t = dirAt root va → ∀ w', Kep w w' → Calls Try.prog 28 #[.agg #[.slice p n n], .int .u32 t] w' fun e w'' => e = .returned (.tuple #[.int .u32 0, .bool false]) ∧ Kep w' w'') := by intro t ht w' k; subst ht; exact h1 w' k
  have ed : Hid (((root : Int) - (root : Int) % 64 + 4 * ((va : Int) / 1024)) % 4294967296 = dirAt root va) := by unfold Hid dirAt; omega
  clear h1 hd
  generalize dirAt root va = D at H1 ed
  go_enter Try.func11, Try.ntmps11
  go_wp2_with fail
  refine (H1.out _ ed.out _ (((Kep.refl _).alloc _).alloc _)).mono ?_
  rintro e w1 ⟨rfl, k1⟩
  have K1 : Hid (Kep w w1) := kep_trans (((Kep.refl _).alloc _).alloc _) k1
  have bx1 : Hid (w1.heap[w.heap.size]? = some (.cells #[.slice p n n] 28 (0, 0))) := k1.block ((hsk _ _ _ (by simp)).trans (hat _ _ _ rfl))
  have by1 : Hid (w1.heap[w.heap.size + 1]? = some (.cells (wayV 0 0 0 0 0 0) 35 (0, 0))) := k1.block (hat _ _ _ (by simp))
  have d1 : w1.cell? ⟨w.heap.size, 0, none⟩ = some (.slice p n n) := cell_of_block bx1.out
  obtain ⟨c0, c1, c2, c3, c4, c5, fz⟩ := rway_cells by1.out
  clear k1 H1
  go_wp2_with fail
  refine bodyPost_ret (resultsC1 rfl _ _ (w.heap.size + 1) 35 (wayV 0 0 0 0 0 0) (0, 0) _ rfl (set6 by1.out) Try.underlying35 rfl size_rway) rfl ⟨rfl, (((((K1.out.setCell (by simp) _).setCell (by simp) _).setCell (by simp) _).setCell (by simp) _).setCell (by simp) _).setCell (by simp) _⟩

set_option maxHeartbeats 4000000 in
set_option maxRecDepth 100000 in
theorem rlook_b1 (w : World) (p : Option Addr) (n root : Nat) (dirs : Int) (va : Nat) (hr : (root : Int) < 4294967296) (ha : (va : Int) < 4294967296) (hd : ((va / 1024 : Nat) : Int) < dirs) (x : Nat) (hx : (x : Int) < 4294967296) (hx2 : x % 2 = 0) (h1 : RWordIs w p n (dirAt root va) (some x)) :
    Calls Try.prog 11 #[refV p n, .int .u32 root, .int .i64 dirs, .int .u32 va] w fun e w' => e = .returned (.tuple (wyR none)) ∧ Kep w w' := by
  have g : decide (dirs ≤ (va : Int) / 1024) = false := decide_eq_false (by omega)
  have ax : (x : Int) % 2 = 0 := by omega
  have H1 : Hid (∀ t : Int, t = dirAt root va → ∀ w', Kep w w' → Calls Try.prog 28 #[.agg #[.slice p n n], .int .u32 t] w' fun e w'' => e = .returned (.tuple #[.int .u32 x, .bool true]) ∧ Kep w' w'') := by intro t ht w' k; subst ht; exact h1 w' k
  have ed : Hid (((root : Int) - (root : Int) % 64 + 4 * ((va : Int) / 1024)) % 4294967296 = dirAt root va) := by unfold Hid dirAt; omega
  clear h1 hd
  generalize dirAt root va = D at H1 ed
  clear hx2
  go_enter Try.func11, Try.ntmps11
  go_wp2_with fail
  refine (H1.out _ ed.out _ (((Kep.refl _).alloc _).alloc _)).mono ?_
  rintro e w1 ⟨rfl, k1⟩
  have K1 : Hid (Kep w w1) := kep_trans (((Kep.refl _).alloc _).alloc _) k1
  have bx1 : Hid (w1.heap[w.heap.size]? = some (.cells #[.slice p n n] 28 (0, 0))) := k1.block ((hsk _ _ _ (by simp)).trans (hat _ _ _ rfl))
  have by1 : Hid (w1.heap[w.heap.size + 1]? = some (.cells (wayV 0 0 0 0 0 0) 35 (0, 0))) := k1.block (hat _ _ _ (by simp))
  have d1 : w1.cell? ⟨w.heap.size, 0, none⟩ = some (.slice p n n) := cell_of_block bx1.out
  obtain ⟨c0, c1, c2, c3, c4, c5, fz⟩ := rway_cells by1.out
  clear k1 H1
  go_wp2_with fail
  refine bodyPost_ret (resultsC1 rfl _ _ (w.heap.size + 1) 35 (wayV 0 0 0 0 0 0) (0, 0) _ rfl (set6 by1.out) Try.underlying35 rfl size_rway) rfl ⟨rfl, (((((K1.out.setCell (by simp) _).setCell (by simp) _).setCell (by simp) _).setCell (by simp) _).setCell (by simp) _).setCell (by simp) _⟩

set_option maxHeartbeats 4000000 in
set_option maxRecDepth 100000 in
theorem rlook_c0 (w : World) (p : Option Addr) (n root : Nat) (dirs : Int) (va : Nat) (hr : (root : Int) < 4294967296) (ha : (va : Int) < 4294967296) (hd : ((va / 1024 : Nat) : Int) < dirs) (x : Nat) (hx : (x : Int) < 4294967296) (hx2 : x % 2 = 1) (h1 : RWordIs w p n (dirAt root va) (some x)) (h2 : RWordIs w p n (tabAt x va) none) :
    Calls Try.prog 11 #[refV p n, .int .u32 root, .int .i64 dirs, .int .u32 va] w fun e w' => e = .returned (.tuple (wyR none)) ∧ Kep w w' := by
  have g : decide (dirs ≤ (va : Int) / 1024) = false := decide_eq_false (by omega)
  have ax : (x : Int) % 2 = 1 := by omega
  have H1 : Hid (∀ t : Int, t = dirAt root va → ∀ w', Kep w w' → Calls Try.prog 28 #[.agg #[.slice p n n], .int .u32 t] w' fun e w'' => e = .returned (.tuple #[.int .u32 x, .bool true]) ∧ Kep w' w'') := by intro t ht w' k; subst ht; exact h1 w' k
  have H2 : Hid (∀ t : Int, t = tabAt x va → ∀ w', Kep w w' → Calls Try.prog 28 #[.agg #[.slice p n n], .int .u32 t] w' fun e w'' => e = .returned (.tuple #[.int .u32 0, .bool false]) ∧ Kep w' w'') := by intro t ht w' k; subst ht; exact h2 w' k
  have ed : Hid (((root : Int) - (root : Int) % 64 + 4 * ((va : Int) / 1024)) % 4294967296 = dirAt root va) := by unfold Hid dirAt; omega
  have et : Hid ((x : Int) - (x : Int) % 64 + 4 * ((va : Int) / 64 % 16) = tabAt x va ∧ tabAt x va < 4294967296) := by unfold Hid tabAt; omega
  clear h1 hd h2
  generalize dirAt root va = D at H1 ed
  generalize tabAt x va = T at H2 et
  clear hx2
  go_enter Try.func11, Try.ntmps11
  go_wp2_with fail
  refine (H1.out _ ed.out _ (((Kep.refl _).alloc _).alloc _)).mono ?_
  rintro e w1 ⟨rfl, k1⟩
  have K1 : Hid (Kep w w1) := kep_trans (((Kep.refl _).alloc _).alloc _) k1
  have bx1 : Hid (w1.heap[w.heap.size]? = some (.cells #[.slice p n n] 28 (0, 0))) := k1.block ((hsk _ _ _ (by simp)).trans (hat _ _ _ rfl))
  have by1 : Hid (w1.heap[w.heap.size + 1]? = some (.cells (wayV 0 0 0 0 0 0) 35 (0, 0))) := k1.block (hat _ _ _ (by simp))
  have d1 : w1.cell? ⟨w.heap.size, 0, none⟩ = some (.slice p n n) := cell_of_block bx1.out
  obtain ⟨c0, c1, c2, c3, c4, c5, fz⟩ := rway_cells by1.out
  clear k1 H1
  clear c0 c1 c2 c3 c4 c5 fz
  go_wp2_with fail
  refine (H2.out _ et.out.1 _ K1.out).mono ?_
  rintro e w2 ⟨rfl, k2⟩
  have K2 : Hid (Kep w w2) := kep_trans K1.out k2
  have bx2 : Hid (w2.heap[w.heap.size]? = some (.cells #[.slice p n n] 28 (0, 0))) := k2.block bx1.out
  have by2 : Hid (w2.heap[w.heap.size + 1]? = some (.cells (wayV 0 0 0 0 0 0) 35 (0, 0))) := k2.block by1.out
  have d2 : w2.cell? ⟨w.heap.size, 0, none⟩ = some (.slice p n n) := cell_of_block bx2.out
  obtain ⟨c0, c1, c2, c3, c4, c5, fz⟩ := rway_cells by2.out
  clear k2 H2 d1
  go_wp2_with fail
  refine bodyPost_ret (resultsC1 rfl _ _ (w.heap.size + 1) 35 (wayV 0 0 0 0 0 0) (0, 0) _ rfl (set6 by2.out) Try.underlying35 rfl size_rway) rfl ⟨rfl, (((((K2.out.setCell (by simp) _).setCell (by simp) _).setCell (by simp) _).setCell (by simp) _).setCell (by simp) _).setCell (by simp) _⟩

set_option maxHeartbeats 4000000 in
set_option maxRecDepth 100000 in
theorem rlook_c1 (w : World) (p : Option Addr) (n root : Nat) (dirs : Int) (va : Nat) (hr : (root : Int) < 4294967296) (ha : (va : Int) < 4294967296) (hd : ((va / 1024 : Nat) : Int) < dirs) (x : Nat) (hx : (x : Int) < 4294967296) (hx2 : x % 2 = 1) (y : Nat) (hy : (y : Int) < 4294967296) (hy2 : y % 2 = 0) (h1 : RWordIs w p n (dirAt root va) (some x)) (h2 : RWordIs w p n (tabAt x va) (some y)) :
    Calls Try.prog 11 #[refV p n, .int .u32 root, .int .i64 dirs, .int .u32 va] w fun e w' => e = .returned (.tuple (wyR none)) ∧ Kep w w' := by
  have g : decide (dirs ≤ (va : Int) / 1024) = false := decide_eq_false (by omega)
  have ax : (x : Int) % 2 = 1 := by omega
  have ay : (y : Int) % 2 = 0 := by omega
  have H1 : Hid (∀ t : Int, t = dirAt root va → ∀ w', Kep w w' → Calls Try.prog 28 #[.agg #[.slice p n n], .int .u32 t] w' fun e w'' => e = .returned (.tuple #[.int .u32 x, .bool true]) ∧ Kep w' w'') := by intro t ht w' k; subst ht; exact h1 w' k
  have H2 : Hid (∀ t : Int, t = tabAt x va → ∀ w', Kep w w' → Calls Try.prog 28 #[.agg #[.slice p n n], .int .u32 t] w' fun e w'' => e = .returned (.tuple #[.int .u32 y, .bool true]) ∧ Kep w' w'') := by intro t ht w' k; subst ht; exact h2 w' k
  have ed : Hid (((root : Int) - (root : Int) % 64 + 4 * ((va : Int) / 1024)) % 4294967296 = dirAt root va) := by unfold Hid dirAt; omega
  have et : Hid ((x : Int) - (x : Int) % 64 + 4 * ((va : Int) / 64 % 16) = tabAt x va ∧ tabAt x va < 4294967296) := by unfold Hid tabAt; omega
  clear h1 hd h2
  generalize dirAt root va = D at H1 ed
  generalize tabAt x va = T at H2 et
  clear hx2
  clear hy2
  go_enter Try.func11, Try.ntmps11
  go_wp2_with fail
  refine (H1.out _ ed.out _ (((Kep.refl _).alloc _).alloc _)).mono ?_
  rintro e w1 ⟨rfl, k1⟩
  have K1 : Hid (Kep w w1) := kep_trans (((Kep.refl _).alloc _).alloc _) k1
  have bx1 : Hid (w1.heap[w.heap.size]? = some (.cells #[.slice p n n] 28 (0, 0))) := k1.block ((hsk _ _ _ (by simp)).trans (hat _ _ _ rfl))
  have by1 : Hid (w1.heap[w.heap.size + 1]? = some (.cells (wayV 0 0 0 0 0 0) 35 (0, 0))) := k1.block (hat _ _ _ (by simp))
  have d1 : w1.cell? ⟨w.heap.size, 0, none⟩ = some (.slice p n n) := cell_of_block bx1.out
  obtain ⟨c0, c1, c2, c3, c4, c5, fz⟩ := rway_cells by1.out
  clear k1 H1
  clear c0 c1 c2 c3 c4 c5 fz
  go_wp2_with fail
  refine (H2.out _ et.out.1 _ K1.out).mono ?_
  rintro e w2 ⟨rfl, k2⟩
  have K2 : Hid (Kep w w2) := kep_trans K1.out k2
  have bx2 : Hid (w2.heap[w.heap.size]? = some (.cells #[.slice p n n] 28 (0, 0))) := k2.block bx1.out
  have by2 : Hid (w2.heap[w.heap.size + 1]? = some (.cells (wayV 0 0 0 0 0 0) 35 (0, 0))) := k2.block by1.out
  have d2 : w2.cell? ⟨w.heap.size, 0, none⟩ = some (.slice p n n) := cell_of_block bx2.out
  obtain ⟨c0, c1, c2, c3, c4, c5, fz⟩ := rway_cells by2.out
  clear k2 H2 d1
  go_wp2_with fail
  refine bodyPost_ret (resultsC1 rfl _ _ (w.heap.size + 1) 35 (wayV 0 0 0 0 0 0) (0, 0) _ rfl (set6 by2.out) Try.underlying35 rfl size_rway) rfl ⟨rfl, (((((K2.out.setCell (by simp) _).setCell (by simp) _).setCell (by simp) _).setCell (by simp) _).setCell (by simp) _).setCell (by simp) _⟩

set_option maxHeartbeats 4000000 in
set_option maxRecDepth 100000 in
theorem rlook_d (w : World) (p : Option Addr) (n root : Nat) (dirs : Int) (va : Nat) (hr : (root : Int) < 4294967296) (ha : (va : Int) < 4294967296) (hd : ((va / 1024 : Nat) : Int) < dirs) (x : Nat) (hx : (x : Int) < 4294967296) (hx2 : x % 2 = 1) (y : Nat) (hy : (y : Int) < 4294967296) (hy2 : y % 2 = 1) (h1 : RWordIs w p n (dirAt root va) (some x)) (h2 : RWordIs w p n (tabAt x va) (some y)) (h3 : RByteIs w p n (pageAt y va) false) :
    Calls Try.prog 11 #[refV p n, .int .u32 root, .int .i64 dirs, .int .u32 va] w fun e w' => e = .returned (.tuple (wyR none)) ∧ Kep w w' := by
  have g : decide (dirs ≤ (va : Int) / 1024) = false := decide_eq_false (by omega)
  have ax : (x : Int) % 2 = 1 := by omega
  have ay : (y : Int) % 2 = 1 := by omega
  have H1 : Hid (∀ t : Int, t = dirAt root va → ∀ w', Kep w w' → Calls Try.prog 28 #[.agg #[.slice p n n], .int .u32 t] w' fun e w'' => e = .returned (.tuple #[.int .u32 x, .bool true]) ∧ Kep w' w'') := by intro t ht w' k; subst ht; exact h1 w' k
  have H2 : Hid (∀ t : Int, t = tabAt x va → ∀ w', Kep w w' → Calls Try.prog 28 #[.agg #[.slice p n n], .int .u32 t] w' fun e w'' => e = .returned (.tuple #[.int .u32 y, .bool true]) ∧ Kep w' w'') := by intro t ht w' k; subst ht; exact h2 w' k
  have H3 : Hid (∀ t : Int, t = pageAt y va → ∀ w', Kep w w' → Calls Try.prog 29 #[.agg #[.slice p n n], .int .u32 t] w' fun e w'' => ∃ z : Int, e = .returned (.tuple #[.int .u8 z, .bool false]) ∧ Kep w' w'') := by intro t ht w' k; subst ht; exact h3 w' k
  have ed : Hid (((root : Int) - (root : Int) % 64 + 4 * ((va : Int) / 1024)) % 4294967296 = dirAt root va) := by unfold Hid dirAt; omega
  have et : Hid ((x : Int) - (x : Int) % 64 + 4 * ((va : Int) / 64 % 16) = tabAt x va ∧ tabAt x va < 4294967296) := by unfold Hid tabAt; omega
  have ep : Hid ((y : Int) - (y : Int) % 64 + (va : Int) % 64 = pageAt y va ∧ pageAt y va < 4294967296) := by unfold Hid pageAt; omega
  clear h1 hd h2 h3
  generalize dirAt root va = D at H1 ed
  generalize tabAt x va = T at H2 et
  generalize pageAt y va = P at H3 ep
  clear hx2
  clear hy2
  go_enter Try.func11, Try.ntmps11
  go_wp2_with fail
  refine (H1.out _ ed.out _ (((Kep.refl _).alloc _).alloc _)).mono ?_
  rintro e w1 ⟨rfl, k1⟩
  have K1 : Hid (Kep w w1) := kep_trans (((Kep.refl _).alloc _).alloc _) k1
  have bx1 : Hid (w1.heap[w.heap.size]? = some (.cells #[.slice p n n] 28 (0, 0))) := k1.block ((hsk _ _ _ (by simp)).trans (hat _ _ _ rfl))
  have by1 : Hid (w1.heap[w.heap.size + 1]? = some (.cells (wayV 0 0 0 0 0 0) 35 (0, 0))) := k1.block (hat _ _ _ (by simp))
  have d1 : w1.cell? ⟨w.heap.size, 0, none⟩ = some (.slice p n n) := cell_of_block bx1.out
  obtain ⟨c0, c1, c2, c3, c4, c5, fz⟩ := rway_cells by1.out
  clear k1 H1
  clear c0 c1 c2 c3 c4 c5 fz
  go_wp2_with fail
  refine (H2.out _ et.out.1 _ K1.out).mono ?_
  rintro e w2 ⟨rfl, k2⟩
  have K2 : Hid (Kep w w2) := kep_trans K1.out k2
  have bx2 : Hid (w2.heap[w.heap.size]? = some (.cells #[.slice p n n] 28 (0, 0))) := k2.block bx1.out
  have by2 : Hid (w2.heap[w.heap.size + 1]? = some (.cells (wayV 0 0 0 0 0 0) 35 (0, 0))) := k2.block by1.out
  have d2 : w2.cell? ⟨w.heap.size, 0, none⟩ = some (.slice p n n) := cell_of_block bx2.out
  obtain ⟨c0, c1, c2, c3, c4, c5, fz⟩ := rway_cells by2.out
  clear k2 H2 d1
  clear c0 c1 c2 c3 c4 c5 fz
  go_wp2_with fail
  refine (H3.out _ ep.out.1 _ K2.out).mono ?_
  rintro e w3 ⟨z, rfl, k3⟩
  have K3 : Hid (Kep w w3) := kep_trans K2.out k3
  have bx3 : Hid (w3.heap[w.heap.size]? = some (.cells #[.slice p n n] 28 (0, 0))) := k3.block bx2.out
  have by3 : Hid (w3.heap[w.heap.size + 1]? = some (.cells (wayV 0 0 0 0 0 0) 35 (0, 0))) := k3.block by2.out
  have d3 : w3.cell? ⟨w.heap.size, 0, none⟩ = some (.slice p n n) := cell_of_block bx3.out
  obtain ⟨c0, c1, c2, c3, c4, c5, fz⟩ := rway_cells by3.out
  clear k3 H3 d2
  go_wp2_with fail
  refine bodyPost_ret (resultsC1 rfl _ _ (w.heap.size + 1) 35 (wayV 0 0 0 0 0 0) (0, 0) _ rfl (set6 by3.out) Try.underlying35 rfl size_rway) rfl ⟨rfl, (((((K3.out.setCell (by simp) _).setCell (by simp) _).setCell (by simp) _).setCell (by simp) _).setCell (by simp) _).setCell (by simp) _⟩

end Go.Proofs.Ytahnmppnfoeffaa
