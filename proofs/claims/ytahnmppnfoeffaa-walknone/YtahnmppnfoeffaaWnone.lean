/- A memory that is not there, and one that no call made, lead nowhere. -/
import Derived.Test.YtahnmppnfoeffaaWworks
import Derived.Test.YtahnmppnfoeffaaWrlook
import Derived.Deep.RegionHeld3
import Derived.Deep.CutRange
namespace Go.Proofs.Ytahnmppnfoeffaa
open Go.RowKit
set_option linter.unusedVariables false

theorem lookF_no {M : Nat → Option Nat} {s root : Nat} {dirs : Int} {va : Nat} (h : ∀ a, M a = none) : lookF M s root dirs va = none := by
  unfold lookF
  rw [h]
  split <;> rfl
theorem wdF_no (B : List Int) (a : Nat) : wdF B [] a = none := by
  unfold wdF
  rw [if_neg (by simp)]
theorem look_no {w : World} {v : Value} {R : Nat} (h : Ram w v R []) (root : Nat) (dirs : Int) (va : Nat) (hr : (root : Int) < 4294967296) (ha : (va : Int) < 4294967296) :
    Calls Try.prog 10 #[v, .int .u32 root, .int .i64 dirs, .int .u32 va] w fun e w' => e = .returned (.tuple (wyR none)) ∧ Kep w w' := by
  have := look_ram (B := []) h (by decide) (RowB.nil w R) (fun i hi => by simp at hi) (fun b hb => by simp at hb) root dirs va hr ha
  rw [lookF_no (wdF_no [])] at this
  exact this
theorem to_no {w : World} {v : Value} {R : Nat} (h : Ram w v R []) (root : Nat) (dirs : Int) (ps va : Nat) (kind : Int) (hr : (root : Int) < 4294967296) (hp : ps < 4294967296) (ha : (va : Int) < 4294967296) :
    Calls Try.prog 15 #[v, .int .u32 root, .int .i64 dirs, .int .u32 ps, .int .u32 va, .int .i64 kind] w fun e w' => e = .returned (.tuple (toR none)) ∧ Kep w w' := by
  have := to_ram (B := []) h (by decide) (RowB.nil w R) (fun i hi => by simp at hi) (fun b hb => by simp at hb) root dirs ps va kind hr hp ha
  have e : toF (wdF [] []) (64 * ([] : List Nat).length) root dirs ps va kind = none := by
    unfold toF
    rw [lookF_no (wdF_no [])]
    split
    · rfl
    · rw [if_neg (by simp)]
  rw [e] at this
  exact this

theorem look_dirsx (w : World) (v : Value) (root : Nat) (dirs : Int) (va : Nat) (ha : (va : Int) < 4294967296) (hd : dirs ≤ ((va / 1024 : Nat) : Int)) :
    Calls Try.prog 10 #[v, .int .u32 root, .int .i64 dirs, .int .u32 va] w fun e w' => e = .returned (.tuple (wyR none)) ∧ w' = w.alloc (.cells (wayV 0 0 0 0 0 0) 32) := by
  have hc : Hid (∀ w, Calls Try.prog 21 #[.int .u32 va] w fun e w' => e = .returned (.int .i64 ((va / 1024 : Nat) : Int)) ∧ w' = w) := fun w => dirPart_any w va ha
  have g : decide (dirs ≤ ((va / 1024 : Nat) : Int)) = true := decide_eq_true hd
  generalize va / 1024 = d at hc g hd
  go_enter Try.func10, Try.ntmps10
  go_wp2_with (go_at_call 21; refine (hc.out _).mono ?_; rintro e w1 ⟨rfl, rfl⟩)
  refine bodyPost_ret (resultsC1 rfl _ _ w.heap.size 32 (wayV 0 0 0 0 0 0) (0, 0) _ rfl (hat _ _ _ rfl) Try.underlying32 rfl size_way) rfl ⟨rfl, rfl⟩

set_option maxHeartbeats 4000000 in
set_option maxRecDepth 100000 in
theorem look_b0x (w : World) (v : Value) (root : Nat) (dirs : Int) (va : Nat) (hr : (root : Int) < 4294967296) (ha : (va : Int) < 4294967296) (hd : ((va / 1024 : Nat) : Int) < dirs) (h1 : WordIs w v (dirAt root va) none) :
    Calls Try.prog 10 #[v, .int .u32 root, .int .i64 dirs, .int .u32 va] w fun e w' => e = .returned (.tuple (wyR none)) ∧ ∃ t d q : Int, w' = (((w.alloc (.cells (wayV 0 0 0 0 0 0) 32)).alloc (.cells #[.int .u32 t, .int .u32 0] 61)).alloc (.cells #[.int .u32 0, .int .u32 0] 61)).alloc (.cells #[.int .u32 d, .int .u32 q] 61) := by
  have hc : Hid (∀ w, Calls Try.prog 21 #[.int .u32 va] w fun e w' => e = .returned (.int .i64 ((va / 1024 : Nat) : Int)) ∧ w' = w) := fun w => dirPart_any w va ha
  have g : decide (dirs ≤ ((va / 1024 : Nat) : Int)) = false := decide_eq_false (by omega)
  have hp : Hid (∀ w, Calls Try.prog 22 #[.int .u32 va] w fun e w' => e = .returned (.agg #[.int .u32 ((va / 1024 : Nat) : Int), .int .u32 ((va / 64 % 16 : Nat) : Int)]) ∧ w' = w.alloc (.cells #[.int .u32 ((va / 1024 : Nat) : Int), .int .u32 ((va / 64 % 16 : Nat) : Int)] 61)) := fun w => picks_any w va ha
  have hb0 : Hid (∀ w, Calls Try.prog 23 #[.int .u32 root] w fun e w' => e = .returned (.int .u32 ((root - root % 64 : Nat) : Int)) ∧ w' = w) := fun w => base_any w root hr
  have H1 : Hid (∀ t : Int, t = dirAt root va → ∀ w', Kep w w' → Calls Try.prog 24 #[v, .int .u32 t] w' fun e w'' => e = .returned (.tuple #[.int .u32 0, .bool false]) ∧ w'' = w') := by intro t ht w' k; subst ht; exact h1 w' k
  have ed : Hid ((((root - root % 64 : Nat) : Int) + 4 * ((va / 1024 : Nat) : Int)) % 4294967296 = dirAt root va) := by unfold Hid dirAt; omega
  clear h1 hd
  have i0 := arr_at0 ((va / 1024 : Nat) : Int) ((va / 64 % 16 : Nat) : Int)
  have i1 := arr_at1 ((va / 1024 : Nat) : Int) ((va / 64 % 16 : Nat) : Int)
  have r1 : ((va / 1024 : Nat) : Int) < 4194304 := by omega
  have r2 : ((va / 64 % 16 : Nat) : Int) < 16 := by omega
  have r3 : ((root - root % 64 : Nat) : Int) ≤ 4294967232 := by omega
  generalize dirAt root va = D at H1 ed
  generalize va / 1024 = d at hc g hp ed r1 i0 i1
  generalize va / 64 % 16 = q at hp r2 i0 i1
  generalize root - root % 64 = rb at hb0 ed r3
  go_enter Try.func10, Try.ntmps10
  go_wp2_with (first | (go_at_call 21; refine (hc.out _).mono ?_; rintro e w1 ⟨rfl, rfl⟩) | (go_at_call 22; refine (hp.out _).mono ?_; rintro e w1 ⟨rfl, rfl⟩))
  refine wp_loop_rounds 3 ?_
  rw [rounds_succ]
  go_wp2_with (first | (go_at_call 23; refine (hb0.out _).mono ?_; rintro e w1 ⟨rfl, rfl⟩) | (go_at_call 24; refine (H1.out _ ed.out _ ((((Kep.refl _).alloc _).alloc _).alloc _ |>.alloc _)).mono ?_; rintro e w1 ⟨rfl, rfl⟩))
  refine bodyPost_ret (resultsC1 rfl _ _ w.heap.size 32 (wayV 0 0 0 0 0 0) (0, 0) _ rfl ?_ Try.underlying32 rfl size_way) rfl ⟨rfl, _, _, _, rfl⟩
  exact (hsk _ _ _ (by simp; omega)).trans ((hsk _ _ _ (by simp; omega)).trans ((hsk _ _ _ (by simp)).trans (hat _ _ _ rfl)))

theorem look_nox {w : World} {v : Value} {R : Nat} (h : Ram w v R []) (root : Nat) (dirs : Int) (va : Nat) (hr : (root : Int) < 4294967296) (ha : (va : Int) < 4294967296) (hd : ((va / 1024 : Nat) : Int) < dirs) :
    Calls Try.prog 10 #[v, .int .u32 root, .int .i64 dirs, .int .u32 va] w fun e w' => e = .returned (.tuple (wyR none)) ∧ ∃ t d q : Int, w' = (((w.alloc (.cells (wayV 0 0 0 0 0 0) 32)).alloc (.cells #[.int .u32 t, .int .u32 0] 61)).alloc (.cells #[.int .u32 0, .int .u32 0] 61)).alloc (.cells #[.int .u32 d, .int .u32 q] 61) := by
  refine look_b0x w v root dirs va hr ha hd ?_
  have := wordIs_ram (B := []) h (by decide) (RowB.nil w R) (fun i hi => by simp at hi) (fun b hb => by simp at hb) (dirAt root va) (by unfold dirAt; omega)
  rw [wdF_no] at this
  exact this
theorem ck_alloc {w : World} {o : Obj} {b i : Nat} {v : Value} (h : w.cell? ⟨b, i, none⟩ = some v) : (w.alloc o).cell? ⟨b, i, none⟩ = some v := (cell_old (World.block_lt_of_cell? w _ h)).trans h
theorem ck_drew {w : World} {b i : Nat} {v : Value} (h : w.cell? ⟨b, i, none⟩ = some v) : w.drew.cell? ⟨b, i, none⟩ = some v := h
theorem at_a (w : World) (a b : Obj) : ((w.alloc a).alloc b).drew.heap[w.heap.size + 1]? = some b := hat _ _ _ (by simp)
theorem at_b (w : World) (a b : Obj) : ((w.alloc a).alloc b).drew.heap[w.heap.size]? = some a := (hsk _ _ _ (by simp)).trans (hat _ _ _ rfl)
theorem at_c (w : World) (a b c d e : Obj) : (((((w.alloc a).alloc b).alloc c).alloc d).alloc e).drew.heap[w.heap.size + 1 + 1 + 1 + 1]? = some e := hat _ _ _ (by simp)
theorem at_d (w : World) (a b c d e : Obj) : (((((w.alloc a).alloc b).alloc c).alloc d).alloc e).drew.heap[w.heap.size]? = some a :=
  (hsk _ _ _ (by simp; omega)).trans ((hsk _ _ _ (by simp; omega)).trans ((hsk _ _ _ (by simp; omega)).trans ((hsk _ _ _ (by simp)).trans (hat _ _ _ rfl))))
theorem set6_far {w : World} {b o g : Nat} {v a0 a1 a2 a3 a4 a5 : Value} (h : w.cell? ⟨b, o, none⟩ = some v) (hn : b ≠ g) :
    ((((((w.setCell ⟨g, 0, none⟩ a0).setCell ⟨g, 1, none⟩ a1).setCell ⟨g, 2, none⟩ a2).setCell ⟨g, 3, none⟩ a3).setCell ⟨g, 4, none⟩ a4).setCell ⟨g, 5, none⟩ a5).cell? ⟨b, o, none⟩ = some v := by
  have e : ((((((w.setCell ⟨g, 0, none⟩ a0).setCell ⟨g, 1, none⟩ a1).setCell ⟨g, 2, none⟩ a2).setCell ⟨g, 3, none⟩ a3).setCell ⟨g, 4, none⟩ a4).setCell ⟨g, 5, none⟩ a5).heap[b]? = w.heap[b]? := by
    rw [heap_setCell_other _ _ _ _ (by simpa using hn), heap_setCell_other _ _ _ _ (by simpa using hn), heap_setCell_other _ _ _ _ (by simpa using hn), heap_setCell_other _ _ _ _ (by simpa using hn), heap_setCell_other _ _ _ _ (by simpa using hn), heap_setCell_other _ _ _ _ (by simpa using hn)]
  simpa only [World.cell?, e] using h
theorem setRow_far {w : World} {b o g : Nat} {v : Value} {cs : Array Value} (h : w.cell? ⟨b, o, none⟩ = some v) (hn : b ≠ g) : (w.setRow g cs).cell? ⟨b, o, none⟩ = some v := (cell_setRow_other w g cs ⟨b, o, none⟩ hn).trans h
theorem Kep.cells {W w' : World} (h : Kep W w') : ∀ b o : Nat, b < W.heap.size → w'.cell? ⟨b, o, none⟩ = W.cell? ⟨b, o, none⟩ := fun _ _ hb => h.cell hb
theorem Kep.frozens {W w' : World} (h : Kep W w') : ∀ b o : Nat, b < W.heap.size → w'.frozen? ⟨b, o, none⟩ = W.frozen? ⟨b, o, none⟩ := fun b o hb => by
  have := Below.block h b hb
  simp [World.frozen?, this]
/-- A world that has at most new blocks beside another one. -/
structure KW (w : World) where
  val : World
  ok : Kep w val
theorem region_kw {P : Program} {id : Nat} {Q : Exit → Act → World → Prop} {a : Act} {w : World} {l : List Oper} (hm : P.follows .mixedOrders = true) (hB : Region.lexB .any l.toArray = true)
    (h : wpQuiet P l.toArray (fun w' => ∃ i : KW w, w' = i.val) (fun a' => ∀ w', (∃ i : KW w, w' = i.val) → Q .normal a' w') l a) : (Code.region id l.toArray true).wp P Q a w :=
  wp_region_quiet (C := fun w' => ∃ i : KW w, w' = i.val) hm hB ⟨⟨_, (Kep.refl w).drew⟩, rfl⟩ (by simpa using h)
theorem KW.cell {w : World} {b o : Nat} {v : Value} (h : w.cell? ⟨b, o, none⟩ = some v) (hb : b < w.heap.size) (i : KW w) : i.val.cell? ⟨b, o, none⟩ = some v := (i.ok.cell hb).trans h
end Go.Proofs.Ytahnmppnfoeffaa
