/- Put lays a page into its slot; Drop forgets a page; Flush forgets all. -/
import Derived.Test.YtekcknkfpecppaaUkept
namespace Go.Proofs.Ytekcknkfpecppaa
open Go.RowKit
set_option linter.unusedVariables false

/-- What was put. -/
def putS (S : List Sl) (page : Nat) (b f : Int) : List Sl := S.set (page % S.length) (some ((page : Int), b, f))
/-- What is left where a page is forgotten. -/
def dropS (S : List Sl) (page : Nat) : List Sl := if (lookS S page).isSome then S.set (page % S.length) none else S
theorem Tlb.set {w w' : World} {p R : Nat} {S : List Sl} {h m : Int} (T : Tlb w p R S h m) (k : Nat) (s : Sl) (hk : k < S.length) (P : Put [R] w w')
    (hr : w'.heap[R]? = some (.cells ((slots S).take (4 * k) ++ slV s ++ (slots S).drop (4 * k + 4)).toArray 61 (0, 0))) : Tlb w' p R (S.set k s) h m := by
  rw [slots_set S k s hk] at hr
  exact ⟨by rw [List.length_set]; exact P.keeps T.box (by simpa using T.ne), hr, T.ne, by simpa using T.pos, by simpa using T.le⟩

set_option maxHeartbeats 4000000 in
set_option maxRecDepth 100000 in
theorem put_core (w : World) (p R n q : Nat) (page bits frame : Int) (hq : (q : Int) < n) (hn1 : 1 ≤ n) (hn : (n : Int) ≤ 64) (hne : p ≠ R) (c0 : w.cell? ⟨p, 0, none⟩ = some (.slice (some ⟨R, 0, none⟩) n n)) (l : List Value) (hl : l.length = 4 * n)
    (hR : w.heap[R]? = some (.cells l.toArray 61 (0, 0)))
    (HP0 : ∀ w, w.cell? ⟨p, 0, none⟩ = some (.slice (some ⟨R, 0, none⟩) n n) → Calls Try.prog 22 #[.pointer (some ⟨p, 0, none⟩), .int .u32 page] w fun e w' => e = .returned (.int .i64 (q : Int)) ∧ w' = w) :
    Calls Try.prog 14 #[.pointer (some ⟨p, 0, none⟩), .int .u32 page, .int .u32 bits, .int .i64 frame] w fun e w' => e = .returned (.tuple #[]) ∧ Put [R] w w' ∧
      w'.heap[R]? = some (.cells (l.take (4 * q) ++ ([.bool true, .int .u32 page, .int .u32 bits, .int .i64 frame] : List Value) ++ l.drop (4 * q + 4)).toArray 61 (0, 0)) := by
  have M : Hid (Calls Try.prog 17 #[.pointer (some ⟨p, 0, none⟩)] w fun e w' => e = .returned (.bool true) ∧ w' = w) := made_yes w p _ _ hn1 c0
  have HP : Hid (∀ w, w.cell? ⟨p, 0, none⟩ = some (.slice (some ⟨R, 0, none⟩) n n) → Calls Try.prog 22 #[.pointer (some ⟨p, 0, none⟩), .int .u32 page] w fun e w' => e = .returned (.int .i64 (q : Int)) ∧ w' = w) := HP0
  have HB : Hid (∀ w, Calls Try.prog 21 #[.int .u32 page] w fun e w' => e = .returned (.agg #[.bool true, .int .u32 page]) ∧ w' = w.alloc (.cells #[.bool true, .int .u32 page] 59)) := fun w => by_any w page
  have hR' : Hid (w.heap[R]? = some (.cells l.toArray 61 (0, 0))) := hR
  have hl' : Hid (l.length = 4 * n) := hl
  have lR := block_lt hR
  obtain ⟨v0, x0⟩ : ∃ v, w.cell? ⟨R, q * 4, none⟩ = some v := ⟨_, by rw [cell_of_block hR, List.getElem?_toArray, List.getElem?_eq_getElem (by omega)]⟩
  obtain ⟨v1, x1⟩ : ∃ v, w.cell? ⟨R, q * 4 + 1, none⟩ = some v := ⟨_, by rw [cell_of_block hR, List.getElem?_toArray, List.getElem?_eq_getElem (by omega)]⟩
  obtain ⟨v2, x2⟩ : ∃ v, w.cell? ⟨R, q * 4 + 2, none⟩ = some v := ⟨_, by rw [cell_of_block hR, List.getElem?_toArray, List.getElem?_eq_getElem (by omega)]⟩
  obtain ⟨v3, x3⟩ : ∃ v, w.cell? ⟨R, q * 4 + 3, none⟩ = some v := ⟨_, by rw [cell_of_block hR, List.getElem?_toArray, List.getElem?_eq_getElem (by omega)]⟩
  have z0 : ∀ j, w.frozen? ⟨R, j, none⟩ = false := fun j => by simp [World.frozen?, hR]
  clear HP0 hR hl
  go_enter Try.func14, Try.ntmps14
  go_wp2_with (go_at_call 17; refine M.out.mono ?_; rintro e w1 ⟨rfl, rfl⟩)
  go_region_held3 (fun w' => w'.cell? ⟨p, 0, none⟩ = some (.slice (some ⟨R, 0, none⟩) n n)) (repeat (first | (with_reducible exact c0) | (with_reducible refine ck_alloc ?_) | (with_reducible refine ck_drew ?_) | (with_reducible refine ck_set hne ?_))) (first
    | (go_at_call 22; refine (HP.out _ (by first | assumption | (go_keep; done))).mono ?_; rintro e wa ⟨rfl, rfl⟩)
    | (go_at_call 21; refine (HB.out _).mono ?_; rintro e wb ⟨rfl, rfl⟩))
  all_goals
    go_wp2_with fail
    go_end0
    have e : 4 * q = q * 4 := Nat.mul_comm _ _
    have H := heap_setCells_row [.bool true, .int .u32 page, .int .u32 bits, .int .i64 frame] (q * 4) w1 l hR'.out (by have := hl'.out; simp; omega)
    rw [e]
    refine ⟨rfl, (((((Put.refl _).setCell (by simp) _).setCell (by simp) _).setCell (by simp) _).setCell (by simp) _ |>.alloc _).drew, ?_⟩
    exact (hsk _ _ _ (by simpa using lR)).trans H

theorem put_any {w : World} {p R : Nat} {S : List Sl} {h m : Int} (T : Tlb w p R S h m) (page : Nat) (hp : (page : Int) < 4294967296) (b f : Int) :
    Calls Try.prog 14 #[.pointer (some ⟨p, 0, none⟩), .int .u32 page, .int .u32 b, .int .i64 f] w fun e w' => e = .returned (.tuple #[]) ∧ Put [R] w w' ∧ Tlb w' p R (putS S page b f) h m := by
  have hq := Nat.mod_lt page (show 0 < S.length from T.pos)
  have hl := T.le
  refine (put_core w p R S.length (page % S.length) page b f (by omega) T.pos (by omega) T.ne T.c0 (slots S) (slots_len S) T.row fun w hc => place_any w p _ _ T.pos T.le page hp hc).mono ?_
  rintro e w' ⟨rfl, P, hr⟩
  exact ⟨rfl, P, T.set _ (some ((page : Int), b, f)) hq P hr⟩

/-- clear, of some slots. -/
theorem zero_slots (n : Nat) : (Builtin.zeroCells (slV none).toArray n).toList = slots (List.replicate n none) := by
  have e : Builtin.zeroCells (slV none).toArray n = madeCells (slV none).toArray (n * 4) := rfl
  rw [e, made_slots]
theorem one_slots (S : List Sl) : ∀ v ∈ slots S, v.oneCell' = true := by
  intro v hv
  obtain ⟨s, _, hs⟩ := List.mem_flatMap.1 hv
  rcases s with _ | ⟨p, b, f⟩ <;> simp [slV] at hs <;> rcases hs with rfl | rfl | rfl | rfl <;> rfl
theorem clear_slots (w : World) (ty : TypeId) (R k n c : Nat) (hn : 0 < n) (l : List Value) (hR : w.heap[R]? = some (.cells l.toArray 61 (0, 0))) (hl : k + n * 4 ≤ l.length) :
    (Builtin.clear_ #[42] ty #[.slice (some ⟨R, k, none⟩) n c]).run Try.prog w = .ok (.tuple #[]) (w.setCells R k (slots (List.replicate n none))) := by
  have hst := run_storeCells_cells (P := Try.prog) R k (slots (List.replicate n none)) 0 w
    (fun j hj => by rw [cell_of_block hR]; simp [slots_len] at hj; simp; omega)
    (fun j hj => by simp [World.frozen?, hR]) (one_slots _)
  simp only [Nat.add_zero] at hst
  obtain ⟨m, rfl⟩ : ∃ m, n = m + 1 := ⟨n - 1, by omega⟩
  have hz : (Builtin.zeroCells #[Value.bool false, Value.int IntKind.u32 0, Value.int IntKind.u32 0, Value.int IntKind.i64 0] (m + 1)).toList = slots (List.replicate (m + 1) none) := zero_slots (m + 1)
  simp [Builtin.clear_, run_underlying Try.underlying42, Value.cells, hz, hst]

set_option maxHeartbeats 4000000 in
set_option maxRecDepth 100000 in
theorem flush_any {w : World} {p R : Nat} {S : List Sl} {h m : Int} (T : Tlb w p R S h m) :
    Calls Try.prog 16 #[.pointer (some ⟨p, 0, none⟩)] w fun e w' => e = .returned (.tuple #[]) ∧ Put [R] w w' ∧ Tlb w' p R (List.replicate S.length none) h m := by
  have M : Hid (Calls Try.prog 17 #[.pointer (some ⟨p, 0, none⟩)] w fun e w' => e = .returned (.bool true) ∧ w' = w) := made_yes w p _ _ T.pos T.c0
  have hcl := fun ty => clear_slots w ty R 0 S.length S.length T.pos _ T.row (by rw [slots_len]; omega)
  have c0 := T.c0
  have T' : Hid (Tlb w p R S h m) := T
  clear T
  generalize hX : slots (List.replicate S.length none) = X at hcl
  have hX' : Hid (slots (List.replicate S.length none) = X) := hX
  clear hX
  go_enter Try.func16, Try.ntmps16
  go_wp2_with (go_at_call 17; refine M.out.mono ?_; rintro e w1 ⟨rfl, rfl⟩)
  go_end0
  have P : Put [R] w1 (w1.setCells R 0 X) := Put.setCells (by simp) X 0 w1 (Put.refl _)
  have T := T'.out
  have H := heap_setCells_row X 0 w1 (slots S) T.row (by rw [← hX'.out, slots_len, slots_len]; simp)
  refine ⟨rfl, P, ?_, ?_, T.ne, by simpa using T.pos, by simpa using T.le⟩
  · rw [List.length_replicate]
    exact P.keeps T.box (by simpa using T.ne)
  · rw [H, ← hX'.out]
    have e : (slots S).drop (0 + (slots (List.replicate S.length none)).length) = [] := List.drop_eq_nil_of_le (by rw [slots_len, slots_len]; simp)
    rw [e]
    simp

theorem drop_no {w : World} {p R : Nat} {S : List Sl} {h m : Int} (T : Tlb w p R S h m) (ok : PagesOk S) (page : Nat) (hp : (page : Int) < 4294967296) (hs : lookS S page = none) :
    Calls Try.prog 15 #[.pointer (some ⟨p, 0, none⟩), .int .u32 page] w fun e w' => e = .returned (.tuple #[]) ∧ Kep w w' := by
  have M : Hid (Calls Try.prog 17 #[.pointer (some ⟨p, 0, none⟩)] w fun e w' => e = .returned (.bool true) ∧ w' = w) := made_yes w p _ _ T.pos T.c0
  have K := kept_any T ok page hp
  rw [hs] at K
  have K' : Hid (Calls Try.prog 18 #[.pointer (some ⟨p, 0, none⟩), .int .u32 page] w fun e w' => e = .returned (.tuple #[.agg #[.bool false, .int .u32 0, .int .u32 0, .int .i64 0], .bool false]) ∧ Kep w w') := K
  clear K hs T ok
  go_enter Try.func15, Try.ntmps15
  go_wp2_with (go_at_call 17; refine M.out.mono ?_; rintro e w1 ⟨rfl, rfl⟩)
  refine K'.out.mono ?_
  rintro e w2 ⟨rfl, k2⟩
  have K2 : Hid (Kep w1 w2) := k2
  clear k2 K' M
  go_wp2_with fail
  go_end0
  exact ⟨rfl, K2.out.alloc _⟩
set_option maxHeartbeats 4000000 in
set_option maxRecDepth 100000 in
theorem drop_yes {w : World} {p R : Nat} {S : List Sl} {h m : Int} (T : Tlb w p R S h m) (ok : PagesOk S) (page : Nat) (hp : (page : Int) < 4294967296) (b f : Int) (hs : lookS S page = some (b, f)) :
    Calls Try.prog 15 #[.pointer (some ⟨p, 0, none⟩), .int .u32 page] w fun e w' => e = .returned (.tuple #[]) ∧ Put [R] w w' ∧ Tlb w' p R (S.set (page % S.length) none) h m := by
  have M : Hid (Calls Try.prog 17 #[.pointer (some ⟨p, 0, none⟩)] w fun e w' => e = .returned (.bool true) ∧ w' = w) := made_yes w p _ _ T.pos T.c0
  have K := kept_any T ok page hp
  rw [hs] at K
  have K' : Hid (Calls Try.prog 18 #[.pointer (some ⟨p, 0, none⟩), .int .u32 page] w fun e w' => e = .returned (.tuple #[.agg #[.bool true, .int .u32 page, .int .u32 b, .int .i64 f], .bool true]) ∧ Kep w w') := K
  have HP : Hid (∀ w, w.cell? ⟨p, 0, none⟩ = some (.slice (some ⟨R, 0, none⟩) S.length S.length) → Calls Try.prog 22 #[.pointer (some ⟨p, 0, none⟩), .int .u32 page] w fun e w' => e = .returned (.int .i64 ((page % S.length : Nat) : Int)) ∧ w' = w) := fun w hc => place_any w p _ _ T.pos T.le page hp hc
  have hq : ((page % S.length : Nat) : Int) < S.length := by have := Nat.mod_lt page (show 0 < S.length from T.pos); omega
  have hl : (S.length : Int) ≤ 64 := by have := T.le; omega
  have T' : Hid (Tlb w p R S h m) := T
  clear K hs T ok
  generalize page % S.length = q at HP hq
  go_enter Try.func15, Try.ntmps15
  go_wp2_with (go_at_call 17; refine M.out.mono ?_; rintro e w1 ⟨rfl, rfl⟩)
  refine K'.out.mono ?_
  rintro e w2 ⟨rfl, k2⟩
  have K2 : Hid (Kep w1 w2) := k2
  have T2 := T'.out.kep (k2.alloc (.cells #[.bool true, .int .u32 page, .int .u32 b, .int .i64 f] 61))
  have c0 := T2.c0
  have hcl := fun ty c => clear_slots _ ty R (q * 4) 1 c (by omega) _ T2.row (by rw [slots_len]; omega)
  have T2' : Hid (Tlb (w2.alloc (.cells #[.bool true, .int .u32 page, .int .u32 b, .int .i64 f] 61)) p R S h m) := T2
  generalize hX : slots (List.replicate 1 none) = X at hcl
  have hX' : Hid (slots (List.replicate 1 none) = X) := hX
  clear hX k2 K' M T2
  go_wp2_with (go_at_call 22; refine (HP.out _ c0).mono ?_; rintro e w3 ⟨rfl, rfl⟩)
  go_end0
  have P : Put [R] w1 _ := Put.setCells (a := w1) (g := R) (by simp) X (q * 4) _ (Put.of_kep (K2.out.alloc (.cells #[.bool true, .int .u32 page, .int .u32 b, .int .i64 f] 61)))
  have P2 : Put [R] (w2.alloc (.cells #[.bool true, .int .u32 page, .int .u32 b, .int .i64 f] 61)) _ := Put.setCells (g := R) (by simp) X (q * 4) _ (Put.refl _)
  have e4 : X.length = 4 := by rw [← hX'.out, slots_len]; simp
  have H := heap_setCells_row X (q * 4) _ (slots S) T2'.out.row (by rw [e4, slots_len]; omega)
  refine ⟨rfl, P, T2'.out.set q none (by omega) P2 ?_⟩
  rw [H, e4, Nat.mul_comm 4 q, ← hX'.out]
  rfl

theorem lookS_len {S : List Sl} {page : Nat} {x : Int × Int} (h : lookS S page = some x) : page % S.length < S.length := by
  rcases Nat.eq_zero_or_pos S.length with h0 | h0
  · obtain rfl := List.length_eq_zero_iff.1 h0
    simp [lookS, slotOf] at h
  · exact Nat.mod_lt _ h0
theorem drop_any {w : World} {p R : Nat} {S : List Sl} {h m : Int} (T : Tlb w p R S h m) (ok : PagesOk S) (page : Nat) (hp : (page : Int) < 4294967296) :
    Calls Try.prog 15 #[.pointer (some ⟨p, 0, none⟩), .int .u32 page] w fun e w' => e = .returned (.tuple #[]) ∧ Put [R] w w' ∧ Tlb w' p R (dropS S page) h m := by
  cases hs : lookS S page with
  | none =>
    refine (drop_no T ok page hp hs).mono ?_
    rintro e w' ⟨rfl, k⟩
    refine ⟨rfl, Put.of_kep k, ?_⟩
    simp only [dropS, hs]
    exact T.kep k
  | some x =>
    refine (drop_yes T ok page hp x.1 x.2 hs).mono ?_
    rintro e w' ⟨rfl, k, t⟩
    refine ⟨rfl, k, ?_⟩
    simp only [dropS, hs]
    exact t

/-- A TLB that is not there, or that no call made. -/
def NoT (w : World) (v : Value) : Prop := v = .pointer none ∨ ∃ p : Nat, v = .pointer (some ⟨p, 0, none⟩) ∧ w.cell? ⟨p, 0, none⟩ = some (.slice none 0 0)
theorem put_nox (w : World) (v : Value) (h : NoT w v) (page b f : Int) : Calls Try.prog 14 #[v, .int .u32 page, .int .u32 b, .int .i64 f] w fun e w' => e = .returned (.tuple #[]) ∧ w' = w := by
  have M : Hid (Calls Try.prog 17 #[v] w fun e w' => e = .returned (.bool false) ∧ w' = w) := made_no w v h
  clear h
  go_enter Try.func14, Try.ntmps14
  go_wp2_with (go_at_call 17; refine M.out.mono ?_; rintro e w1 ⟨rfl, rfl⟩)
  first | go_end0 | refine bodyPost_ret (results_none rfl _ _ _) rfl ?_
  exact ⟨rfl, rfl⟩
theorem drop_nox (w : World) (v : Value) (h : NoT w v) (page : Int) : Calls Try.prog 15 #[v, .int .u32 page] w fun e w' => e = .returned (.tuple #[]) ∧ w' = w := by
  have M : Hid (Calls Try.prog 17 #[v] w fun e w' => e = .returned (.bool false) ∧ w' = w) := made_no w v h
  clear h
  go_enter Try.func15, Try.ntmps15
  go_wp2_with (go_at_call 17; refine M.out.mono ?_; rintro e w1 ⟨rfl, rfl⟩)
  first | go_end0 | refine bodyPost_ret (results_none rfl _ _ _) rfl ?_
  exact ⟨rfl, rfl⟩
theorem flush_nox (w : World) (v : Value) (h : NoT w v) : Calls Try.prog 16 #[v] w fun e w' => e = .returned (.tuple #[]) ∧ w' = w := by
  have M : Hid (Calls Try.prog 17 #[v] w fun e w' => e = .returned (.bool false) ∧ w' = w) := made_no w v h
  clear h
  go_enter Try.func16, Try.ntmps16
  go_wp2_with (go_at_call 17; refine M.out.mono ?_; rintro e w1 ⟨rfl, rfl⟩)
  first | go_end0 | refine bodyPost_ret (results_none rfl _ _ _) rfl ?_
  exact ⟨rfl, rfl⟩
theorem look_nox (w : World) (v : Value) (h : NoT w v) (page : Int) : Calls Try.prog 10 #[v, .int .u32 page] w fun e w' => e = .returned (.tuple #[.int .u32 0, .int .i64 0, .bool false]) ∧ w' = w := by
  have M : Hid (Calls Try.prog 17 #[v] w fun e w' => e = .returned (.bool false) ∧ w' = w) := made_no w v h
  clear h
  go_enter Try.func10, Try.ntmps10
  go_wp2_with (go_at_call 17; refine M.out.mono ?_; rintro e w1 ⟨rfl, rfl⟩)
  go_ret3
  exact ⟨rfl, rfl⟩
end Go.Proofs.Ytekcknkfpecppaa
