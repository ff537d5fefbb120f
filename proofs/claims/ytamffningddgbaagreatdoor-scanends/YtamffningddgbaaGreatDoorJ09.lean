/- Part of a proof. -/
import Derived.Deep.RegionWith
import Derived.StillTailTactics
import Derived.Test.YtamffningddgbaaGreatDoorJ08
namespace Go.Proofs.YtamffningddgbaaGreatDoor
open Go.RowKit
set_option linter.unusedVariables false
set_option linter.unusedSimpArgs false
structure Wy where
  bits : Nat
  at_ : Nat
  entry : Nat
  dir : Nat
  tab : Nat
  page : Nat
abbrev wayV (b a e d t p : Int) : Array Value := #[.int .u32 b, .int .u32 a, .int .u32 e, .int .i64 d, .int .i64 t, .int .i64 p]
abbrev wyV (y : Wy) : Array Value := wayV y.bits y.at_ y.entry y.dir y.tab y.page
def wyR : Option Wy → Array Value
  | none => #[.agg (wayV 0 0 0 0 0 0), .bool false]
  | some y => #[.agg (wyV y), .bool true]
def dirAt (root va : Nat) : Nat := (root - root % 64 + 4 * (va / 1024)) % 4294967296
def tabAt (x va : Nat) : Nat := x - x % 64 + 4 * (va / 64 % 16)
def pageAt (y va : Nat) : Nat := y - y % 64 + va % 64
def wayOf (root va x y : Nat) : Wy := ⟨joinN x y, pageAt y va, tabAt x va, dirAt root va / 64, tabAt x va / 64, pageAt y va / 64⟩
def look3 (s root va x y : Nat) : Option Wy := if pageAt y va < s then some (wayOf root va x y) else none
def look2 (s root va x : Nat) : Option Nat → Option Wy
  | none => none
  | some y => if y % 2 = 0 then none else look3 s root va x y
def look1 (M : Nat → Option Nat) (s root va : Nat) : Option Nat → Option Wy
  | none => none
  | some x => if x % 2 = 0 then none else look2 s root va x (M (tabAt x va))
def lookF (M : Nat → Option Nat) (s root : Nat) (dirs : Int) (va : Nat) : Option Wy :=
  if ((va / 1024 : Nat) : Int) < dirs then look1 M s root va (M (dirAt root va)) else none
theorem size_way : (Tryz.prog.info? 72).map (·.size) = some 6 := by kernel_rfl
def wdR : Option Nat → Array Value
  | none => #[.int .u32 0, .bool false]
  | some x => #[.int .u32 x, .bool true]
def WordIs (w : World) (v : Value) (a : Nat) (r : Option Nat) : Prop := ∀ w', Kep w w' → Calls Tryz.prog 91 #[v, .int .u32 a] w' fun e w'' => e = .returned (.tuple (wdR r)) ∧ w'' = w'
def WithinIs (w : World) (v : Value) (a : Nat) (b : Bool) : Prop := ∀ w', Kep w w' → Calls Tryz.prog 92 #[v, .int .u32 a] w' fun e w'' => e = .returned (.bool b) ∧ w'' = w'
theorem look_dirs (w : World) (v : Value) (root : Nat) (dirs : Int) (va : Nat) (ha : (va : Int) < 4294967296) (hd : dirs ≤ ((va / 1024 : Nat) : Int)) :
    Calls Tryz.prog 72 #[v, .int .u32 root, .int .i64 dirs, .int .u32 va] w fun e w' => e = .returned (.tuple (wyR none)) ∧ Kep w w' := by
  have hc : Hid (∀ w, Calls Tryz.prog 88 #[.int .u32 va] w fun e w' => e = .returned (.int .i64 ((va / 1024 : Nat) : Int)) ∧ w' = w) := fun w => dirPart_any w va ha
  have g : decide (dirs ≤ ((va / 1024 : Nat) : Int)) = true := decide_eq_true hd
  generalize va / 1024 = d at hc g hd
  go_enter Tryz.func72, Tryz.ntmps72
  go_wp2_with (go_at_call 88; refine (hc.out _).mono ?_; rintro e w1 ⟨rfl, rfl⟩)
  refine bodyPost_ret (resultsC1 rfl _ _ w.heap.size 72 (wayV 0 0 0 0 0 0) (0, 0) _ rfl (hat _ _ _ rfl) Tryz.underlying72 rfl size_way) rfl ⟨rfl, (Kep.refl _).alloc _⟩
theorem region_tail {P : Program} {id : Nat} {Q : Exit → Act → World → Prop} {a : Act} {w : World} {l : List Oper} (n : Nat) (hm : P.follows .mixedOrders = true) (hB : Region.lexTailB .any l.toArray n = true)
    (h : wpStill P l.toArray w.drew (fun a' => wpList P l.toArray Q (l.drop n) a' w.drew) (l.take n) a) : (Code.region id l.toArray true).wp P Q a w := wp_region_still_tail n hm hB h
theorem arr_at0 (a b : Int) (w : World) : (Instr.index 55 (.agg #[.int .u32 a, .int .u32 b]) (.int .i64 0)).run Tryz.prog w = .ok (.int .u32 a) w := by kernel_rfl
theorem arr_at1 (a b : Int) (w : World) : (Instr.index 55 (.agg #[.int .u32 a, .int .u32 b]) (.int .i64 1)).run Tryz.prog w = .ok (.int .u32 b) w := by kernel_rfl
set_option maxHeartbeats 4000000 in
set_option maxRecDepth 100000 in
theorem look_all (w : World) (v : Value) (root : Nat) (dirs : Int) (va : Nat) (hr : (root : Int) < 4294967296) (ha : (va : Int) < 4294967296) (hd : ((va / 1024 : Nat) : Int) < dirs)
    (x y : Nat) (hx : x < 4294967296) (hy : y < 4294967296) (hx2 : x % 2 = 1) (hy2 : y % 2 = 1) (h1 : WordIs w v (dirAt root va) (some x)) (h2 : WordIs w v (tabAt x va) (some y)) (h3 : WithinIs w v (pageAt y va) true) :
    Calls Tryz.prog 72 #[v, .int .u32 root, .int .i64 dirs, .int .u32 va] w fun e w' => e = .returned (.tuple (wyR (some (wayOf root va x y)))) ∧ Kep w w' := by
  have hc : Hid (∀ w, Calls Tryz.prog 88 #[.int .u32 va] w fun e w' => e = .returned (.int .i64 ((va / 1024 : Nat) : Int)) ∧ w' = w) := fun w => dirPart_any w va ha
  have g : decide (dirs ≤ ((va / 1024 : Nat) : Int)) = false := decide_eq_false (by omega)
  have hp : Hid (∀ w, Calls Tryz.prog 89 #[.int .u32 va] w fun e w' => e = .returned (.agg #[.int .u32 ((va / 1024 : Nat) : Int), .int .u32 ((va / 64 % 16 : Nat) : Int)]) ∧ w' = w.alloc (.cells #[.int .u32 ((va / 1024 : Nat) : Int), .int .u32 ((va / 64 % 16 : Nat) : Int)] 55)) := fun w => picks_any w va ha
  have hb0 : Hid (∀ w, Calls Tryz.prog 90 #[.int .u32 root] w fun e w' => e = .returned (.int .u32 ((root - root % 64 : Nat) : Int)) ∧ w' = w) := fun w => base_any w root hr
  have hb1 : Hid (∀ w, Calls Tryz.prog 90 #[.int .u32 x] w fun e w' => e = .returned (.int .u32 ((x - x % 64 : Nat) : Int)) ∧ w' = w) := fun w => base_any w x (by omega)
  have hb2 : Hid (∀ w, Calls Tryz.prog 90 #[.int .u32 y] w fun e w' => e = .returned (.int .u32 ((y - y % 64 : Nat) : Int)) ∧ w' = w) := fun w => base_any w y (by omega)
  have ax : bits .and .u32 (x : Int) 1 = 1 := by rw [and1 x hx, hx2]; rfl
  have ay : bits .and .u32 (y : Int) 1 = 1 := by rw [and1 y hy, hy2]; rfl
  have H1 : Hid (∀ t : Int, t = dirAt root va → ∀ w', Kep w w' → Calls Tryz.prog 91 #[v, .int .u32 t] w' fun e w'' => e = .returned (.tuple #[.int .u32 x, .bool true]) ∧ w'' = w') := by intro t ht w' k; subst ht; exact h1 w' k
  have H2 : Hid (∀ t : Int, t = tabAt x va → ∀ w', Kep w w' → Calls Tryz.prog 91 #[v, .int .u32 t] w' fun e w'' => e = .returned (.tuple #[.int .u32 y, .bool true]) ∧ w'' = w') := by intro t ht w' k; subst ht; exact h2 w' k
  have H3 : Hid (∀ t : Int, t = pageAt y va → ∀ w', Kep w w' → Calls Tryz.prog 92 #[v, .int .u32 t] w' fun e w'' => e = .returned (.bool true) ∧ w'' = w') := by intro t ht w' k; subst ht; exact h3 w' k
  have HJ : Hid (∀ w b, w.cell? ⟨b, 0, none⟩ = some (.int .u32 x) → w.cell? ⟨b, 1, none⟩ = some (.int .u32 y) → Calls Tryz.prog 93 #[.slice (some ⟨b, 0, none⟩) 2 2] w fun e w' => e = .returned (.int .u32 (joinN x y)) ∧ w' = w) := fun w b => join2_any w b x y hx hy
  have HF : Hid (∀ (w : World) (t : Int) (a : Nat), t = a → a < 4294967296 → Calls Tryz.prog 94 #[.int .u32 t] w fun e w' => e = .returned (.int .i64 ((a / 64 : Nat) : Int)) ∧ w' = w) := fun w t a ht hlt => by subst ht; exact framenum_any w a (by omega)
  have ed : Hid ((((root - root % 64 : Nat) : Int) + 4 * ((va / 1024 : Nat) : Int)) % 4294967296 = dirAt root va) := by unfold Hid dirAt; omega
  have et : Hid (((x - x % 64 : Nat) : Int) + 4 * ((va / 64 % 16 : Nat) : Int) = tabAt x va ∧ tabAt x va < 4294967296) := by unfold Hid tabAt; omega
  have ep : Hid (((y - y % 64 : Nat) : Int) + (va : Int) % 64 = pageAt y va ∧ pageAt y va < 4294967296) := by unfold Hid pageAt; omega
  have hwy : Hid (wayOf root va x y = ⟨joinN x y, pageAt y va, tabAt x va, dirAt root va / 64, tabAt x va / 64, pageAt y va / 64⟩) := rfl
  have hd' : Hid (dirAt root va < 4294967296) := by unfold Hid dirAt; omega
  clear h1 h2 h3 hd
  have i0 := arr_at0 ((va / 1024 : Nat) : Int) ((va / 64 % 16 : Nat) : Int)
  have i1 := arr_at1 ((va / 1024 : Nat) : Int) ((va / 64 % 16 : Nat) : Int)
  have r1 : ((va / 1024 : Nat) : Int) < 4194304 := by omega
  have r2 : ((va / 64 % 16 : Nat) : Int) < 16 := by omega
  have r3 : ((root - root % 64 : Nat) : Int) ≤ 4294967232 := by omega
  have r4 : ((x - x % 64 : Nat) : Int) ≤ 4294967232 := by omega
  have r5 : ((y - y % 64 : Nat) : Int) ≤ 4294967232 := by omega
  generalize wayOf root va x y = W at hwy
  generalize dirAt root va = D at H1 ed hwy hd'
  generalize tabAt x va = T at H2 et hwy
  generalize pageAt y va = P at H3 ep hwy
  generalize joinN x y = J at HJ hwy
  generalize va / 1024 = d at hc g hp ed r1 i0 i1
  generalize va / 64 % 16 = q at hp r2 i0 i1 et
  generalize root - root % 64 = rb at hb0 ed r3
  generalize x - x % 64 = xb at hb1 et r4
  generalize y - y % 64 = yb at hb2 ep r5
  clear hx2 hy2
  go_enter Tryz.func72, Tryz.ntmps72
  go_wp2_with (first | (go_at_call 88; refine (hc.out _).mono ?_; rintro e w1 ⟨rfl, rfl⟩) | (go_at_call 89; refine (hp.out _).mono ?_; rintro e w1 ⟨rfl, rfl⟩))
  refine wp_loop_rounds 3 ?_
  rw [rounds_succ]
  go_wp2_with (first | (go_at_call 90; refine (hb0.out _).mono ?_; rintro e w1 ⟨rfl, rfl⟩) | (go_at_call 91; refine (H1.out _ ed.out _ ((((Kep.refl _).alloc _).alloc _).alloc _ |>.alloc _)).mono ?_; rintro e w1 ⟨rfl, rfl⟩))
  rw [rounds_succ]
  go_wp2_with (first | (go_at_call 90; refine (hb1.out _).mono ?_; rintro e w1 ⟨rfl, rfl⟩) | (go_at_call 91; refine (H2.out _ et.out.1 _ ((((Kep.refl _).alloc _).alloc _).alloc _ |>.alloc _)).mono ?_; rintro e w1 ⟨rfl, rfl⟩))
  rw [rounds_succ]
  go_wp2_with (first | (go_at_call 90; refine (hb2.out _).mono ?_; rintro e w1 ⟨rfl, rfl⟩) | (go_at_call 92; refine (H3.out _ ep.out.1 _ ((((Kep.refl _).alloc _).alloc _).alloc _ |>.alloc _)).mono ?_; rintro e w1 ⟨rfl, rfl⟩))
  refine region_tail 14 (by kernel_rfl) (by kernel_rfl) ?_
  simp only [List.take_succ_cons, List.take_zero, List.drop_succ_cons, List.drop_zero]
  repeat still_step
  refine wpStill_step (fun K hK => ?_)
  go_simp
  refine ⟨_, HJ.out _ _ ?_ ?_, hK _ ?_⟩
  · simp
    exact (cell_old (by simp)).trans (cell_of_block (hat _ _ _ (by simp)))
  · simp
    exact (cell_old (by simp)).trans (cell_of_block (hat _ _ _ (by simp)))
  clear hK K
  repeat still_step
  still_call (HF.out _ _ D ed.out hd'.out)
  repeat still_step
  still_call (HF.out _ _ T et.out.1 et.out.2)
  repeat still_step
  still_call (HF.out _ _ P ep.out.1 ep.out.2)
  repeat still_step
  refine wpStill_nil ?_
  go_wp2_with fail
  have hv : wyR (some W) = #[.agg #[.int .u32 J, .int .u32 ((yb : Int) + (va : Int) % 64), .int .u32 ((xb : Int) + 4 * (q : Int)), .int .i64 ((D : Int) / 64), .int .i64 ((T : Int) / 64), .int .i64 ((P : Int) / 64)], .bool true] := by
    rw [hwy.out, ep.out.1, et.out.1]; rfl
  rw [hv]
  refine bodyPost_ret (resultsC1 rfl _ _ w.heap.size 72 #[.int .u32 J, .int .u32 ((yb : Int) + (va : Int) % 64), .int .u32 ((xb : Int) + 4 * (q : Int)), .int .i64 ((D : Int) / 64), .int .i64 ((T : Int) / 64), .int .i64 ((P : Int) / 64)] (0, 0) _ rfl ?_ Tryz.underlying72 rfl size_way) rfl ⟨rfl, ((((Kep.refl _).alloc _).alloc _).alloc _ |>.alloc _).drew⟩
  exact (hsk _ _ _ (by simp; omega)).trans ((hsk _ _ _ (by simp; omega)).trans ((hsk _ _ _ (by simp)).trans (hat _ _ _ rfl)))
/- by mklook.py -/
set_option maxHeartbeats 4000000 in
set_option maxRecDepth 100000 in
theorem look_b0 (w : World) (v : Value) (root : Nat) (dirs : Int) (va : Nat) (hr : (root : Int) < 4294967296) (ha : (va : Int) < 4294967296) (hd : ((va / 1024 : Nat) : Int) < dirs) (h1 : WordIs w v (dirAt root va) none) :
    Calls Tryz.prog 72 #[v, .int .u32 root, .int .i64 dirs, .int .u32 va] w fun e w' => e = .returned (.tuple (wyR none)) ∧ Kep w w' := by
  have hc : Hid (∀ w, Calls Tryz.prog 88 #[.int .u32 va] w fun e w' => e = .returned (.int .i64 ((va / 1024 : Nat) : Int)) ∧ w' = w) := fun w => dirPart_any w va ha
  have g : decide (dirs ≤ ((va / 1024 : Nat) : Int)) = false := decide_eq_false (by omega)
  have hp : Hid (∀ w, Calls Tryz.prog 89 #[.int .u32 va] w fun e w' => e = .returned (.agg #[.int .u32 ((va / 1024 : Nat) : Int), .int .u32 ((va / 64 % 16 : Nat) : Int)]) ∧ w' = w.alloc (.cells #[.int .u32 ((va / 1024 : Nat) : Int), .int .u32 ((va / 64 % 16 : Nat) : Int)] 55)) := fun w => picks_any w va ha
  have hb0 : Hid (∀ w, Calls Tryz.prog 90 #[.int .u32 root] w fun e w' => e = .returned (.int .u32 ((root - root % 64 : Nat) : Int)) ∧ w' = w) := fun w => base_any w root hr
  have H1 : Hid (∀ t : Int, t = dirAt root va → ∀ w', Kep w w' → Calls Tryz.prog 91 #[v, .int .u32 t] w' fun e w'' => e = .returned (.tuple #[.int .u32 0, .bool false]) ∧ w'' = w') := by intro t ht w' k; subst ht; exact h1 w' k
  have ed : Hid ((((root - root % 64 : Nat) : Int) + 4 * ((va / 1024 : Nat) : Int)) % 4294967296 = dirAt root va) := by unfold Hid dirAt; omega
  clear h1 hd
  have i0 := arr_at0 ((va / 1024 : Nat) : Int) ((va / 64 % 16 : Nat) : Int)
  have i1 := arr_at1 ((va / 1024 : Nat) : Int) ((va / 64 % 16 : Nat) : Int)
  have r1 : ((va / 1024 : Nat) : Int) < 4194304 := by omega
  have r2 : ((va / 64 % 16 : Nat) : Int) < 16 := by omega
  have r3 : ((root - root % 64 : Nat) : Int) ≤ 4294967232 := by omega
  generalize dirAt root va = D at H1 ed
  generalize va / 1024 = d at hc g hp ed r1 i0 i1
  generalize va / 64 % 16 = q at hp r2 i0 i1
  generalize root - root % 64 = rb at hb0 ed r3
  go_enter Tryz.func72, Tryz.ntmps72
  go_wp2_with (first | (go_at_call 88; refine (hc.out _).mono ?_; rintro e w1 ⟨rfl, rfl⟩) | (go_at_call 89; refine (hp.out _).mono ?_; rintro e w1 ⟨rfl, rfl⟩))
  refine wp_loop_rounds 3 ?_
  rw [rounds_succ]
  go_wp2_with (first | (go_at_call 90; refine (hb0.out _).mono ?_; rintro e w1 ⟨rfl, rfl⟩) | (go_at_call 91; refine (H1.out _ ed.out _ ((((Kep.refl _).alloc _).alloc _).alloc _ |>.alloc _)).mono ?_; rintro e w1 ⟨rfl, rfl⟩))
  refine bodyPost_ret (resultsC1 rfl _ _ w.heap.size 72 (wayV 0 0 0 0 0 0) (0, 0) _ rfl ?_ Tryz.underlying72 rfl size_way) rfl ⟨rfl, ((((Kep.refl _).alloc _).alloc _).alloc _ |>.alloc _)⟩
  exact (hsk _ _ _ (by simp; omega)).trans ((hsk _ _ _ (by simp; omega)).trans ((hsk _ _ _ (by simp)).trans (hat _ _ _ rfl)))
set_option maxHeartbeats 4000000 in
set_option maxRecDepth 100000 in
theorem look_b1 (w : World) (v : Value) (root : Nat) (dirs : Int) (va : Nat) (hr : (root : Int) < 4294967296) (ha : (va : Int) < 4294967296) (hd : ((va / 1024 : Nat) : Int) < dirs) (x : Nat) (hx : x < 4294967296) (hx2 : x % 2 = 0) (h1 : WordIs w v (dirAt root va) (some x)) :
    Calls Tryz.prog 72 #[v, .int .u32 root, .int .i64 dirs, .int .u32 va] w fun e w' => e = .returned (.tuple (wyR none)) ∧ Kep w w' := by
  have hc : Hid (∀ w, Calls Tryz.prog 88 #[.int .u32 va] w fun e w' => e = .returned (.int .i64 ((va / 1024 : Nat) : Int)) ∧ w' = w) := fun w => dirPart_any w va ha
  have g : decide (dirs ≤ ((va / 1024 : Nat) : Int)) = false := decide_eq_false (by omega)
  have hp : Hid (∀ w, Calls Tryz.prog 89 #[.int .u32 va] w fun e w' => e = .returned (.agg #[.int .u32 ((va / 1024 : Nat) : Int), .int .u32 ((va / 64 % 16 : Nat) : Int)]) ∧ w' = w.alloc (.cells #[.int .u32 ((va / 1024 : Nat) : Int), .int .u32 ((va / 64 % 16 : Nat) : Int)] 55)) := fun w => picks_any w va ha
  have hb0 : Hid (∀ w, Calls Tryz.prog 90 #[.int .u32 root] w fun e w' => e = .returned (.int .u32 ((root - root % 64 : Nat) : Int)) ∧ w' = w) := fun w => base_any w root hr
  have ax : bits .and .u32 (x : Int) 1 = 0 := by rw [and1 x hx, hx2]; rfl
  have H1 : Hid (∀ t : Int, t = dirAt root va → ∀ w', Kep w w' → Calls Tryz.prog 91 #[v, .int .u32 t] w' fun e w'' => e = .returned (.tuple #[.int .u32 x, .bool true]) ∧ w'' = w') := by intro t ht w' k; subst ht; exact h1 w' k
  have ed : Hid ((((root - root % 64 : Nat) : Int) + 4 * ((va / 1024 : Nat) : Int)) % 4294967296 = dirAt root va) := by unfold Hid dirAt; omega
  clear h1 hd
  have i0 := arr_at0 ((va / 1024 : Nat) : Int) ((va / 64 % 16 : Nat) : Int)
  have i1 := arr_at1 ((va / 1024 : Nat) : Int) ((va / 64 % 16 : Nat) : Int)
  have r1 : ((va / 1024 : Nat) : Int) < 4194304 := by omega
  have r2 : ((va / 64 % 16 : Nat) : Int) < 16 := by omega
  have r3 : ((root - root % 64 : Nat) : Int) ≤ 4294967232 := by omega
  generalize dirAt root va = D at H1 ed
  generalize va / 1024 = d at hc g hp ed r1 i0 i1
  generalize va / 64 % 16 = q at hp r2 i0 i1
  generalize root - root % 64 = rb at hb0 ed r3
  clear hx2
  go_enter Tryz.func72, Tryz.ntmps72
  go_wp2_with (first | (go_at_call 88; refine (hc.out _).mono ?_; rintro e w1 ⟨rfl, rfl⟩) | (go_at_call 89; refine (hp.out _).mono ?_; rintro e w1 ⟨rfl, rfl⟩))
  refine wp_loop_rounds 3 ?_
  rw [rounds_succ]
  go_wp2_with (first | (go_at_call 90; refine (hb0.out _).mono ?_; rintro e w1 ⟨rfl, rfl⟩) | (go_at_call 91; refine (H1.out _ ed.out _ ((((Kep.refl _).alloc _).alloc _).alloc _ |>.alloc _)).mono ?_; rintro e w1 ⟨rfl, rfl⟩))
  refine bodyPost_ret (resultsC1 rfl _ _ w.heap.size 72 (wayV 0 0 0 0 0 0) (0, 0) _ rfl ?_ Tryz.underlying72 rfl size_way) rfl ⟨rfl, ((((Kep.refl _).alloc _).alloc _).alloc _ |>.alloc _)⟩
  exact (hsk _ _ _ (by simp; omega)).trans ((hsk _ _ _ (by simp; omega)).trans ((hsk _ _ _ (by simp)).trans (hat _ _ _ rfl)))
set_option maxHeartbeats 4000000 in
set_option maxRecDepth 100000 in
theorem look_c0 (w : World) (v : Value) (root : Nat) (dirs : Int) (va : Nat) (hr : (root : Int) < 4294967296) (ha : (va : Int) < 4294967296) (hd : ((va / 1024 : Nat) : Int) < dirs) (x : Nat) (hx : x < 4294967296) (hx2 : x % 2 = 1) (h1 : WordIs w v (dirAt root va) (some x)) (h2 : WordIs w v (tabAt x va) none) :
    Calls Tryz.prog 72 #[v, .int .u32 root, .int .i64 dirs, .int .u32 va] w fun e w' => e = .returned (.tuple (wyR none)) ∧ Kep w w' := by
  have hc : Hid (∀ w, Calls Tryz.prog 88 #[.int .u32 va] w fun e w' => e = .returned (.int .i64 ((va / 1024 : Nat) : Int)) ∧ w' = w) := fun w => dirPart_any w va ha
  have g : decide (dirs ≤ ((va / 1024 : Nat) : Int)) = false := decide_eq_false (by omega)
  have hp : Hid (∀ w, Calls Tryz.prog 89 #[.int .u32 va] w fun e w' => e = .returned (.agg #[.int .u32 ((va / 1024 : Nat) : Int), .int .u32 ((va / 64 % 16 : Nat) : Int)]) ∧ w' = w.alloc (.cells #[.int .u32 ((va / 1024 : Nat) : Int), .int .u32 ((va / 64 % 16 : Nat) : Int)] 55)) := fun w => picks_any w va ha
  have hb0 : Hid (∀ w, Calls Tryz.prog 90 #[.int .u32 root] w fun e w' => e = .returned (.int .u32 ((root - root % 64 : Nat) : Int)) ∧ w' = w) := fun w => base_any w root hr
  have hb1 : Hid (∀ w, Calls Tryz.prog 90 #[.int .u32 x] w fun e w' => e = .returned (.int .u32 ((x - x % 64 : Nat) : Int)) ∧ w' = w) := fun w => base_any w x (by omega)
  have ax : bits .and .u32 (x : Int) 1 = 1 := by rw [and1 x hx, hx2]; rfl
  have H1 : Hid (∀ t : Int, t = dirAt root va → ∀ w', Kep w w' → Calls Tryz.prog 91 #[v, .int .u32 t] w' fun e w'' => e = .returned (.tuple #[.int .u32 x, .bool true]) ∧ w'' = w') := by intro t ht w' k; subst ht; exact h1 w' k
  have H2 : Hid (∀ t : Int, t = tabAt x va → ∀ w', Kep w w' → Calls Tryz.prog 91 #[v, .int .u32 t] w' fun e w'' => e = .returned (.tuple #[.int .u32 0, .bool false]) ∧ w'' = w') := by intro t ht w' k; subst ht; exact h2 w' k
  have ed : Hid ((((root - root % 64 : Nat) : Int) + 4 * ((va / 1024 : Nat) : Int)) % 4294967296 = dirAt root va) := by unfold Hid dirAt; omega
  have et : Hid (((x - x % 64 : Nat) : Int) + 4 * ((va / 64 % 16 : Nat) : Int) = tabAt x va) := by unfold Hid tabAt; omega
  clear h1 hd h2
  have i0 := arr_at0 ((va / 1024 : Nat) : Int) ((va / 64 % 16 : Nat) : Int)
  have i1 := arr_at1 ((va / 1024 : Nat) : Int) ((va / 64 % 16 : Nat) : Int)
  have r1 : ((va / 1024 : Nat) : Int) < 4194304 := by omega
  have r2 : ((va / 64 % 16 : Nat) : Int) < 16 := by omega
  have r3 : ((root - root % 64 : Nat) : Int) ≤ 4294967232 := by omega
  have r4 : ((x - x % 64 : Nat) : Int) ≤ 4294967232 := by omega
  generalize dirAt root va = D at H1 ed
  generalize tabAt x va = T at H2 et
  generalize va / 1024 = d at hc g hp ed r1 i0 i1
  generalize va / 64 % 16 = q at hp r2 i0 i1 et
  generalize root - root % 64 = rb at hb0 ed r3
  generalize x - x % 64 = xb at hb1 et r4
  clear hx2
  go_enter Tryz.func72, Tryz.ntmps72
  go_wp2_with (first | (go_at_call 88; refine (hc.out _).mono ?_; rintro e w1 ⟨rfl, rfl⟩) | (go_at_call 89; refine (hp.out _).mono ?_; rintro e w1 ⟨rfl, rfl⟩))
  refine wp_loop_rounds 3 ?_
  rw [rounds_succ]
  go_wp2_with (first | (go_at_call 90; refine (hb0.out _).mono ?_; rintro e w1 ⟨rfl, rfl⟩) | (go_at_call 91; refine (H1.out _ ed.out _ ((((Kep.refl _).alloc _).alloc _).alloc _ |>.alloc _)).mono ?_; rintro e w1 ⟨rfl, rfl⟩))
  rw [rounds_succ]
  go_wp2_with (first | (go_at_call 90; refine (hb1.out _).mono ?_; rintro e w1 ⟨rfl, rfl⟩) | (go_at_call 91; refine (H2.out _ et.out _ ((((Kep.refl _).alloc _).alloc _).alloc _ |>.alloc _)).mono ?_; rintro e w1 ⟨rfl, rfl⟩))
  refine bodyPost_ret (resultsC1 rfl _ _ w.heap.size 72 (wayV 0 0 0 0 0 0) (0, 0) _ rfl ?_ Tryz.underlying72 rfl size_way) rfl ⟨rfl, ((((Kep.refl _).alloc _).alloc _).alloc _ |>.alloc _)⟩
  exact (hsk _ _ _ (by simp; omega)).trans ((hsk _ _ _ (by simp; omega)).trans ((hsk _ _ _ (by simp)).trans (hat _ _ _ rfl)))
set_option maxHeartbeats 4000000 in
set_option maxRecDepth 100000 in
theorem look_c1 (w : World) (v : Value) (root : Nat) (dirs : Int) (va : Nat) (hr : (root : Int) < 4294967296) (ha : (va : Int) < 4294967296) (hd : ((va / 1024 : Nat) : Int) < dirs) (x : Nat) (hx : x < 4294967296) (hx2 : x % 2 = 1) (y : Nat) (hy : y < 4294967296) (hy2 : y % 2 = 0) (h1 : WordIs w v (dirAt root va) (some x)) (h2 : WordIs w v (tabAt x va) (some y)) :
    Calls Tryz.prog 72 #[v, .int .u32 root, .int .i64 dirs, .int .u32 va] w fun e w' => e = .returned (.tuple (wyR none)) ∧ Kep w w' := by
  have hc : Hid (∀ w, Calls Tryz.prog 88 #[.int .u32 va] w fun e w' => e = .returned (.int .i64 ((va / 1024 : Nat) : Int)) ∧ w' = w) := fun w => dirPart_any w va ha
  have g : decide (dirs ≤ ((va / 1024 : Nat) : Int)) = false := decide_eq_false (by omega)
  have hp : Hid (∀ w, Calls Tryz.prog 89 #[.int .u32 va] w fun e w' => e = .returned (.agg #[.int .u32 ((va / 1024 : Nat) : Int), .int .u32 ((va / 64 % 16 : Nat) : Int)]) ∧ w' = w.alloc (.cells #[.int .u32 ((va / 1024 : Nat) : Int), .int .u32 ((va / 64 % 16 : Nat) : Int)] 55)) := fun w => picks_any w va ha
  have hb0 : Hid (∀ w, Calls Tryz.prog 90 #[.int .u32 root] w fun e w' => e = .returned (.int .u32 ((root - root % 64 : Nat) : Int)) ∧ w' = w) := fun w => base_any w root hr
  have hb1 : Hid (∀ w, Calls Tryz.prog 90 #[.int .u32 x] w fun e w' => e = .returned (.int .u32 ((x - x % 64 : Nat) : Int)) ∧ w' = w) := fun w => base_any w x (by omega)
  have ax : bits .and .u32 (x : Int) 1 = 1 := by rw [and1 x hx, hx2]; rfl
  have ay : bits .and .u32 (y : Int) 1 = 0 := by rw [and1 y hy, hy2]; rfl
  have H1 : Hid (∀ t : Int, t = dirAt root va → ∀ w', Kep w w' → Calls Tryz.prog 91 #[v, .int .u32 t] w' fun e w'' => e = .returned (.tuple #[.int .u32 x, .bool true]) ∧ w'' = w') := by intro t ht w' k; subst ht; exact h1 w' k
  have H2 : Hid (∀ t : Int, t = tabAt x va → ∀ w', Kep w w' → Calls Tryz.prog 91 #[v, .int .u32 t] w' fun e w'' => e = .returned (.tuple #[.int .u32 y, .bool true]) ∧ w'' = w') := by intro t ht w' k; subst ht; exact h2 w' k
  have ed : Hid ((((root - root % 64 : Nat) : Int) + 4 * ((va / 1024 : Nat) : Int)) % 4294967296 = dirAt root va) := by unfold Hid dirAt; omega
  have et : Hid (((x - x % 64 : Nat) : Int) + 4 * ((va / 64 % 16 : Nat) : Int) = tabAt x va) := by unfold Hid tabAt; omega
  clear h1 hd h2
  have i0 := arr_at0 ((va / 1024 : Nat) : Int) ((va / 64 % 16 : Nat) : Int)
  have i1 := arr_at1 ((va / 1024 : Nat) : Int) ((va / 64 % 16 : Nat) : Int)
  have r1 : ((va / 1024 : Nat) : Int) < 4194304 := by omega
  have r2 : ((va / 64 % 16 : Nat) : Int) < 16 := by omega
  have r3 : ((root - root % 64 : Nat) : Int) ≤ 4294967232 := by omega
  have r4 : ((x - x % 64 : Nat) : Int) ≤ 4294967232 := by omega
  generalize dirAt root va = D at H1 ed
  generalize tabAt x va = T at H2 et
  generalize va / 1024 = d at hc g hp ed r1 i0 i1
  generalize va / 64 % 16 = q at hp r2 i0 i1 et
  generalize root - root % 64 = rb at hb0 ed r3
  generalize x - x % 64 = xb at hb1 et r4
  clear hx2
  clear hy2
  go_enter Tryz.func72, Tryz.ntmps72
  go_wp2_with (first | (go_at_call 88; refine (hc.out _).mono ?_; rintro e w1 ⟨rfl, rfl⟩) | (go_at_call 89; refine (hp.out _).mono ?_; rintro e w1 ⟨rfl, rfl⟩))
  refine wp_loop_rounds 3 ?_
  rw [rounds_succ]
  go_wp2_with (first | (go_at_call 90; refine (hb0.out _).mono ?_; rintro e w1 ⟨rfl, rfl⟩) | (go_at_call 91; refine (H1.out _ ed.out _ ((((Kep.refl _).alloc _).alloc _).alloc _ |>.alloc _)).mono ?_; rintro e w1 ⟨rfl, rfl⟩))
  rw [rounds_succ]
  go_wp2_with (first | (go_at_call 90; refine (hb1.out _).mono ?_; rintro e w1 ⟨rfl, rfl⟩) | (go_at_call 91; refine (H2.out _ et.out _ ((((Kep.refl _).alloc _).alloc _).alloc _ |>.alloc _)).mono ?_; rintro e w1 ⟨rfl, rfl⟩))
  refine bodyPost_ret (resultsC1 rfl _ _ w.heap.size 72 (wayV 0 0 0 0 0 0) (0, 0) _ rfl ?_ Tryz.underlying72 rfl size_way) rfl ⟨rfl, ((((Kep.refl _).alloc _).alloc _).alloc _ |>.alloc _)⟩
  exact (hsk _ _ _ (by simp; omega)).trans ((hsk _ _ _ (by simp; omega)).trans ((hsk _ _ _ (by simp)).trans (hat _ _ _ rfl)))
set_option maxHeartbeats 4000000 in
set_option maxRecDepth 100000 in
theorem look_d (w : World) (v : Value) (root : Nat) (dirs : Int) (va : Nat) (hr : (root : Int) < 4294967296) (ha : (va : Int) < 4294967296) (hd : ((va / 1024 : Nat) : Int) < dirs) (x : Nat) (hx : x < 4294967296) (hx2 : x % 2 = 1) (y : Nat) (hy : y < 4294967296) (hy2 : y % 2 = 1) (h1 : WordIs w v (dirAt root va) (some x)) (h2 : WordIs w v (tabAt x va) (some y)) (h3 : WithinIs w v (pageAt y va) false) :
    Calls Tryz.prog 72 #[v, .int .u32 root, .int .i64 dirs, .int .u32 va] w fun e w' => e = .returned (.tuple (wyR none)) ∧ Kep w w' := by
  have hc : Hid (∀ w, Calls Tryz.prog 88 #[.int .u32 va] w fun e w' => e = .returned (.int .i64 ((va / 1024 : Nat) : Int)) ∧ w' = w) := fun w => dirPart_any w va ha
  have g : decide (dirs ≤ ((va / 1024 : Nat) : Int)) = false := decide_eq_false (by omega)
  have hp : Hid (∀ w, Calls Tryz.prog 89 #[.int .u32 va] w fun e w' => e = .returned (.agg #[.int .u32 ((va / 1024 : Nat) : Int), .int .u32 ((va / 64 % 16 : Nat) : Int)]) ∧ w' = w.alloc (.cells #[.int .u32 ((va / 1024 : Nat) : Int), .int .u32 ((va / 64 % 16 : Nat) : Int)] 55)) := fun w => picks_any w va ha
  have hb0 : Hid (∀ w, Calls Tryz.prog 90 #[.int .u32 root] w fun e w' => e = .returned (.int .u32 ((root - root % 64 : Nat) : Int)) ∧ w' = w) := fun w => base_any w root hr
  have hb1 : Hid (∀ w, Calls Tryz.prog 90 #[.int .u32 x] w fun e w' => e = .returned (.int .u32 ((x - x % 64 : Nat) : Int)) ∧ w' = w) := fun w => base_any w x (by omega)
  have hb2 : Hid (∀ w, Calls Tryz.prog 90 #[.int .u32 y] w fun e w' => e = .returned (.int .u32 ((y - y % 64 : Nat) : Int)) ∧ w' = w) := fun w => base_any w y (by omega)
  have ax : bits .and .u32 (x : Int) 1 = 1 := by rw [and1 x hx, hx2]; rfl
  have ay : bits .and .u32 (y : Int) 1 = 1 := by rw [and1 y hy, hy2]; rfl
  have H1 : Hid (∀ t : Int, t = dirAt root va → ∀ w', Kep w w' → Calls Tryz.prog 91 #[v, .int .u32 t] w' fun e w'' => e = .returned (.tuple #[.int .u32 x, .bool true]) ∧ w'' = w') := by intro t ht w' k; subst ht; exact h1 w' k
  have H2 : Hid (∀ t : Int, t = tabAt x va → ∀ w', Kep w w' → Calls Tryz.prog 91 #[v, .int .u32 t] w' fun e w'' => e = .returned (.tuple #[.int .u32 y, .bool true]) ∧ w'' = w') := by intro t ht w' k; subst ht; exact h2 w' k
  have H3 : Hid (∀ t : Int, t = pageAt y va → ∀ w', Kep w w' → Calls Tryz.prog 92 #[v, .int .u32 t] w' fun e w'' => e = .returned (.bool false) ∧ w'' = w') := by intro t ht w' k; subst ht; exact h3 w' k
  have ed : Hid ((((root - root % 64 : Nat) : Int) + 4 * ((va / 1024 : Nat) : Int)) % 4294967296 = dirAt root va) := by unfold Hid dirAt; omega
  have et : Hid (((x - x % 64 : Nat) : Int) + 4 * ((va / 64 % 16 : Nat) : Int) = tabAt x va) := by unfold Hid tabAt; omega
  have ep : Hid (((y - y % 64 : Nat) : Int) + (va : Int) % 64 = pageAt y va) := by unfold Hid pageAt; omega
  clear h1 hd h2 h3
  have i0 := arr_at0 ((va / 1024 : Nat) : Int) ((va / 64 % 16 : Nat) : Int)
  have i1 := arr_at1 ((va / 1024 : Nat) : Int) ((va / 64 % 16 : Nat) : Int)
  have r1 : ((va / 1024 : Nat) : Int) < 4194304 := by omega
  have r2 : ((va / 64 % 16 : Nat) : Int) < 16 := by omega
  have r3 : ((root - root % 64 : Nat) : Int) ≤ 4294967232 := by omega
  have r4 : ((x - x % 64 : Nat) : Int) ≤ 4294967232 := by omega
  have r5 : ((y - y % 64 : Nat) : Int) ≤ 4294967232 := by omega
  generalize dirAt root va = D at H1 ed
  generalize tabAt x va = T at H2 et
  generalize pageAt y va = P at H3 ep
  generalize va / 1024 = d at hc g hp ed r1 i0 i1
  generalize va / 64 % 16 = q at hp r2 i0 i1 et
  generalize root - root % 64 = rb at hb0 ed r3
  generalize x - x % 64 = xb at hb1 et r4
  generalize y - y % 64 = yb at hb2 ep r5
  clear hx2
  clear hy2
  go_enter Tryz.func72, Tryz.ntmps72
  go_wp2_with (first | (go_at_call 88; refine (hc.out _).mono ?_; rintro e w1 ⟨rfl, rfl⟩) | (go_at_call 89; refine (hp.out _).mono ?_; rintro e w1 ⟨rfl, rfl⟩))
  refine wp_loop_rounds 3 ?_
  rw [rounds_succ]
  go_wp2_with (first | (go_at_call 90; refine (hb0.out _).mono ?_; rintro e w1 ⟨rfl, rfl⟩) | (go_at_call 91; refine (H1.out _ ed.out _ ((((Kep.refl _).alloc _).alloc _).alloc _ |>.alloc _)).mono ?_; rintro e w1 ⟨rfl, rfl⟩))
  rw [rounds_succ]
  go_wp2_with (first | (go_at_call 90; refine (hb1.out _).mono ?_; rintro e w1 ⟨rfl, rfl⟩) | (go_at_call 91; refine (H2.out _ et.out _ ((((Kep.refl _).alloc _).alloc _).alloc _ |>.alloc _)).mono ?_; rintro e w1 ⟨rfl, rfl⟩))
  rw [rounds_succ]
  go_wp2_with (first | (go_at_call 90; refine (hb2.out _).mono ?_; rintro e w1 ⟨rfl, rfl⟩) | (go_at_call 92; refine (H3.out _ ep.out _ ((((Kep.refl _).alloc _).alloc _).alloc _ |>.alloc _)).mono ?_; rintro e w1 ⟨rfl, rfl⟩))
  refine bodyPost_ret (resultsC1 rfl _ _ w.heap.size 72 (wayV 0 0 0 0 0 0) (0, 0) _ rfl ?_ Tryz.underlying72 rfl size_way) rfl ⟨rfl, ((((Kep.refl _).alloc _).alloc _).alloc _ |>.alloc _)⟩
  exact (hsk _ _ _ (by simp; omega)).trans ((hsk _ _ _ (by simp; omega)).trans ((hsk _ _ _ (by simp)).trans (hat _ _ _ rfl)))
theorem look_any (w : World) (v : Value) (M : Nat → Option Nat) (s : Nat) (root : Nat) (dirs : Int) (va : Nat) (hr : (root : Int) < 4294967296) (ha : (va : Int) < 4294967296)
    (hM : ∀ a x, M a = some x → x < 4294967296) (hW : ∀ a, a < 4294967296 → WordIs w v a (M a)) (hS : ∀ a, a < 4294967296 → WithinIs w v a (decide (a < s))) :
    Calls Tryz.prog 72 #[v, .int .u32 root, .int .i64 dirs, .int .u32 va] w fun e w' => e = .returned (.tuple (wyR (lookF M s root dirs va))) ∧ Kep w w' := by
  unfold lookF
  by_cases hd : ((va / 1024 : Nat) : Int) < dirs
  · rw [if_pos hd]
    have h1 := hW (dirAt root va) (by unfold dirAt; omega)
    rcases hx : M (dirAt root va) with _ | x
    · rw [hx] at h1
      exact look_b0 w v root dirs va hr ha hd h1
    · rw [hx] at h1
      have hx0 := hM _ _ hx
      unfold look1
      simp only
      by_cases hx2 : x % 2 = 0
      · rw [if_pos hx2]
        exact look_b1 w v root dirs va hr ha hd x hx0 hx2 h1
      · rw [if_neg hx2]
        have h2 := hW (tabAt x va) (by unfold tabAt; omega)
        rcases hy : M (tabAt x va) with _ | y
        · rw [hy] at h2
          exact look_c0 w v root dirs va hr ha hd x hx0 (by omega) h1 h2
        · rw [hy] at h2
          have hy0 := hM _ _ hy
          unfold look2
          simp only
          by_cases hy2 : y % 2 = 0
          · rw [if_pos hy2]
            exact look_c1 w v root dirs va hr ha hd x hx0 (by omega) y hy0 hy2 h1 h2
          · rw [if_neg hy2]
            have h3 := hS (pageAt y va) (by unfold pageAt; omega)
            unfold look3
            by_cases hp : pageAt y va < s
            · rw [if_pos hp]
              rw [decide_eq_true hp] at h3
              exact look_all w v root dirs va hr ha hd x y hx0 hy0 (by omega) (by omega) h1 h2 h3
            · rw [if_neg hp]
              rw [decide_eq_false hp] at h3
              exact look_d w v root dirs va hr ha hd x hx0 (by omega) y hy0 (by omega) h1 h2 h3
  · rw [if_neg hd]
    exact look_dirs w v root dirs va ha (by omega)
end Go.Proofs.YtamffningddgbaaGreatDoor
