/- What a page left in its slot: told by kept; looked up and counted by Look. -/
import Derived.Test.YtekcknkfpecppaaUcount
import Derived.DeepKeys
import Derived.OwnWalk
import Derived.Deep.RegionHeld3
import Derived.Deep.CutRange
namespace Go.Proofs.Ytekcknkfpecppaa
open Go.RowKit
set_option linter.unusedVariables false

theorem own_key (t : Bool) (p : Int) (h : (Lit.int .u32 p).wf = true) :
    Try.prog.keyLits 2 59 (Value.agg #[.bool t, .int .u32 p]).cells.toList = some [.bool t, .int .u32 p] := by
  have cI : Try.prog.cellsOf 59 = 2 := by kernel_rfl
  have c3 : Try.prog.cellsOf 4 = 1 := by kernel_rfl
  have c21 : Try.prog.cellsOf 27 = 1 := by kernel_rfl
  simp [Program.keyLits, Try.underlying59, Try.underlying4, Try.underlying27, Value.cells, cI, c3, c21, h]
theorem own_same (t : Bool) (p q : Int) (hp : (Lit.int .u32 p).wf = true) (hq : (Lit.int .u32 q).wf = true) (w : World) :
    Sem.run Try.prog (Op.equalIn 10000 59 (.agg #[.bool t, .int .u32 p]) (.agg #[.bool true, .int .u32 q])) w = .ok (t && decide (p = q)) w := by
  obtain ⟨r, hr, hiff⟩ := run_equalIn_deep (P := Try.prog) 9998 2 59 (by kernel_rfl) w 2 2 (.agg #[.bool t, .int .u32 p]) (.agg #[.bool true, .int .u32 q]) _ _ (by kernel_rfl) (by kernel_rfl) (own_key t p hp) (own_key true q hq)
  rw [hr]
  congr 1
  rw [Bool.eq_iff_iff, hiff]
  simp

/-- The slot in which a page has its place. -/
def slotOf (S : List Sl) (page : Nat) : Sl := (S[page % S.length]?).getD none
/-- What is remembered of a page. -/
def lookS (S : List Sl) (page : Nat) : Option (Int × Int) :=
  match slotOf S page with
  | some (p, b, f) => if p = page then some (b, f) else none
  | none => none
theorem slotOf_at {S : List Sl} (h : 1 ≤ S.length) (page : Nat) : S[page % S.length]? = some (slotOf S page) := by
  have := Nat.mod_lt page (show 0 < S.length by omega)
  simp [slotOf, this]
/-- All pages are numbers of 32 bits. -/
def PagesOk (S : List Sl) : Prop := ∀ p b f, some (p, b, f) ∈ S → (Lit.int .u32 p).wf = true
theorem PagesOk.slot {S : List Sl} (h : PagesOk S) (page : Nat) {p b f : Int} (e : slotOf S page = some (p, b, f)) : (Lit.int .u32 p).wf = true := by
  unfold slotOf at e
  cases h1 : S[page % S.length]? with
  | none => rw [h1] at e; cases e
  | some s =>
    rw [h1] at e
    simp at e
    subst e
    exact h p b f (List.mem_of_getElem? h1)
theorem Tlb.slot {w : World} {p R : Nat} {S : List Sl} {h m : Int} (T : Tlb w p R S h m) (page : Nat) (j : Nat) (hj : j < 4) : w.cell? ⟨R, 4 * (page % S.length) + j, none⟩ = (slV (slotOf S page))[j]? := by
  rw [cell_of_block T.row]
  simpa using slots_at S _ _ (slotOf_at T.pos page) j hj

theorem size_slot : (Try.prog.info? 61).map (·.size) = some 4 := by kernel_rfl
set_option maxHeartbeats 4000000 in
set_option maxRecDepth 100000 in
theorem kept_core (w : World) (p R n q : Nat) (page pg bt fr : Int) (tk r : Bool) (hq : (q : Int) < n) (hn : (n : Int) ≤ 64) (c0 : w.cell? ⟨p, 0, none⟩ = some (.slice (some ⟨R, 0, none⟩) n n))
    (s0 : w.cell? ⟨R, q * 4, none⟩ = some (.bool tk)) (s1 : w.cell? ⟨R, q * 4 + 1, none⟩ = some (.int .u32 pg)) (s2 : w.cell? ⟨R, q * 4 + 2, none⟩ = some (.int .u32 bt)) (s3 : w.cell? ⟨R, q * 4 + 3, none⟩ = some (.int .i64 fr))
    (HP0 : ∀ w, w.cell? ⟨p, 0, none⟩ = some (.slice (some ⟨R, 0, none⟩) n n) → Calls Try.prog 22 #[.pointer (some ⟨p, 0, none⟩), .int .u32 page] w fun e w' => e = .returned (.int .i64 (q : Int)) ∧ w' = w)
    (HE : ∀ w, Sem.run Try.prog (Op.equalIn 10000 59 (.agg #[.bool tk, .int .u32 pg]) (.agg #[.bool true, .int .u32 page])) w = .ok r w) :
    Calls Try.prog 18 #[.pointer (some ⟨p, 0, none⟩), .int .u32 page] w fun e w' => e = .returned (.tuple #[.agg (if r then #[.bool tk, .int .u32 pg, .int .u32 bt, .int .i64 fr] else #[.bool false, .int .u32 0, .int .u32 0, .int .i64 0]), .bool r]) ∧ Kep w w' := by
  have HP : Hid (∀ w, w.cell? ⟨p, 0, none⟩ = some (.slice (some ⟨R, 0, none⟩) n n) → Calls Try.prog 22 #[.pointer (some ⟨p, 0, none⟩), .int .u32 page] w fun e w' => e = .returned (.int .i64 (q : Int)) ∧ w' = w) := HP0
  have HB : Hid (∀ w, Calls Try.prog 21 #[.int .u32 page] w fun e w' => e = .returned (.agg #[.bool true, .int .u32 page]) ∧ w' = w.alloc (.cells #[.bool true, .int .u32 page] 59)) := fun w => by_any w page
  clear HP0
  go_enter Try.func18, Try.ntmps18
  go_wp2_with fail
  go_region_held3 (fun w' => w'.cell? ⟨p, 0, none⟩ = some (.slice (some ⟨R, 0, none⟩) n n) ∧ w'.cell? ⟨R, q * 4, none⟩ = some (.bool tk) ∧ w'.cell? ⟨R, q * 4 + 1, none⟩ = some (.int .u32 pg) ∧ w'.cell? ⟨R, q * 4 + 2, none⟩ = some (.int .u32 bt) ∧ w'.cell? ⟨R, q * 4 + 3, none⟩ = some (.int .i64 fr)) (first | assumption | (go_keep; done)) (first
    | (go_at_call 22; refine (HP.out _ (by first | assumption | (go_keep; done))).mono ?_; rintro e wa ⟨rfl, rfl⟩))
  all_goals
    clear HP c0 s0 s1 s2 s3
    cases r
    all_goals
      go_wp2_with fail
      go_region_held3 (fun w' => w'.cell? ⟨w.heap.size + 1, 0, none⟩ = some (.bool tk) ∧ w'.cell? ⟨w.heap.size + 1, 1, none⟩ = some (.int .u32 pg)) (refine ⟨?_, ?_⟩ <;> (first | assumption | (go_keep; done) | (simp; done))) (first
        | (go_at_call 21; refine (HB.out _).mono ?_; rintro e wb ⟨rfl, rfl⟩))
      all_goals
        go_wp2_with fail
        first
          | refine bodyPost_ret (resultsC1 rfl _ _ w.heap.size 61 #[.bool false, .int .u32 0, .int .u32 0, .int .i64 0] (0, 0) _ rfl ?_ Try.underlying61 rfl size_slot) rfl ⟨rfl, ((((Kep.refl _).alloc _).alloc _).alloc _).drew.drew⟩
          | refine bodyPost_ret (resultsC1 rfl _ _ w.heap.size 61 #[.bool tk, .int .u32 pg, .int .u32 bt, .int .i64 fr] (0, 0) _ rfl ?_ Try.underlying61 rfl size_slot) rfl ⟨rfl, ((((Kep.refl _).alloc _).alloc _).alloc _).drew.drew⟩
        exact (hsk _ _ _ (by simp; omega)).trans ((hsk _ _ _ (by simp)).trans (hat _ _ _ rfl))

/-- What kept answers. -/
def keptR (page : Int) : Option (Int × Int) → Array Value
  | none => #[.agg #[.bool false, .int .u32 0, .int .u32 0, .int .i64 0], .bool false]
  | some (b, f) => #[.agg #[.bool true, .int .u32 page, .int .u32 b, .int .i64 f], .bool true]
theorem wf_page {page : Nat} (hp : (page : Int) < 4294967296) : (Lit.int .u32 (page : Int)).wf = true := by
  simp [Lit.wf, IntKind.min, IntKind.max, IntKind.signed, IntKind.bits]; omega
theorem kept_any {w : World} {p R : Nat} {S : List Sl} {h m : Int} (T : Tlb w p R S h m) (ok : PagesOk S) (page : Nat) (hp : (page : Int) < 4294967296) :
    Calls Try.prog 18 #[.pointer (some ⟨p, 0, none⟩), .int .u32 page] w fun e w' => e = .returned (.tuple (keptR page (lookS S page))) ∧ Kep w w' := by
  have HP : ∀ w, w.cell? ⟨p, 0, none⟩ = some (.slice (some ⟨R, 0, none⟩) S.length S.length) → Calls Try.prog 22 #[.pointer (some ⟨p, 0, none⟩), .int .u32 page] w fun e w' => e = .returned (.int .i64 ((page % S.length : Nat) : Int)) ∧ w' = w := fun w hc => place_any w p _ _ T.pos T.le page hp hc
  have hq := Nat.mod_lt page (show 0 < S.length from T.pos)
  have hl := T.le
  have s0 := T.slot page 0 (by omega)
  have s1 := T.slot page 1 (by omega)
  have s2 := T.slot page 2 (by omega)
  have s3 := T.slot page 3 (by omega)
  rw [Nat.mul_comm] at s0 s1 s2 s3
  have hpw := wf_page hp
  unfold lookS
  cases hs : slotOf S page with
  | none =>
    rw [hs] at s0 s1 s2 s3
    exact kept_core w p R S.length (page % S.length) page 0 0 0 false false (by omega) (by omega) T.c0 s0 s1 s2 s3 HP (own_same false 0 page (by decide) hpw)
  | some x =>
    obtain ⟨pg, b, f⟩ := x
    rw [hs] at s0 s1 s2 s3
    have := kept_core w p R S.length (page % S.length) page pg b f true (decide (pg = (page : Int))) (by omega) (by omega) T.c0 s0 s1 s2 s3 HP (fun w => by rw [own_same true pg page (ok.slot page hs) hpw w]; simp)
    by_cases e : pg = (page : Int)
    · subst e
      simpa [keptR] using this
    · simpa [keptR, e] using this

/-- By how much a look adds to the two counts. -/
def hitN : Option (Int × Int) → Int
  | none => 0
  | some _ => 1
def missN : Option (Int × Int) → Int
  | none => 1
  | some _ => 0
/-- What Look answers. -/
def lookR : Option (Int × Int) → Array Value
  | none => #[.int .u32 0, .int .i64 0, .bool false]
  | some (b, f) => #[.int .u32 b, .int .i64 f, .bool true]
set_option maxHeartbeats 1000000 in
set_option maxRecDepth 100000 in
theorem look_any {w : World} {p R : Nat} {S : List Sl} {h m : Int} (T : Tlb w p R S h m) (ok : PagesOk S) (h0 : 0 ≤ h) (h1 : h < 1000000) (m0 : 0 ≤ m) (m1 : m < 1000000) (page : Nat) (hp : (page : Int) < 4294967296) :
    Calls Try.prog 10 #[.pointer (some ⟨p, 0, none⟩), .int .u32 page] w fun e w' => e = .returned (.tuple (lookR (lookS S page))) ∧ Put [p] w w' ∧
      Tlb w' p R S (h + hitN (lookS S page)) (m + missN (lookS S page)) := by
  have M : Hid (Calls Try.prog 17 #[.pointer (some ⟨p, 0, none⟩)] w fun e w' => e = .returned (.bool true) ∧ w' = w) := made_yes w p _ _ T.pos T.c0
  have K := kept_any T ok page hp
  have T' : Hid (Tlb w p R S h m) := T
  cases hs : lookS S page with
  | none =>
    rw [hs] at K
    have K' : Hid (Calls Try.prog 18 #[.pointer (some ⟨p, 0, none⟩), .int .u32 page] w fun e w' => e = .returned (.tuple #[.agg #[.bool false, .int .u32 0, .int .u32 0, .int .i64 0], .bool false]) ∧ Kep w w') := K
    clear K hs T ok
    go_enter Try.func10, Try.ntmps10
    go_wp2_with (go_at_call 17; refine M.out.mono ?_; rintro e w1 ⟨rfl, rfl⟩)
    refine K'.out.mono ?_
    rintro e w2 ⟨rfl, k2⟩
    have K2 : Hid (Kep w1 w2) := k2
    clear k2 K' M
    go_wp2_with fail
    refine (count_no _ p R S h m (T'.out.kep (K2.out.alloc _)) m0 m1).mono ?_
    rintro e w3 ⟨rfl, t3, p3⟩
    have T3 : Hid (Tlb w3 p R S h (m + 1) ∧ Put [p] w1 w3) := ⟨t3, (Put.of_kep (K2.out.alloc _)).trans p3⟩
    have lp := K2.out.lt (block_lt T'.out.box)
    have c : ∀ j, w3.cell? ⟨w2.heap.size, j, none⟩ = _ := fun j => (p3.cell (o := j) (by simp) (by simp; omega)).trans (cell_of_block (hat _ _ _ rfl))
    have c0 := c 0
    have c1 := c 1
    have c2 := c 2
    have c3 := c 3
    simp at c0 c1 c2 c3
    clear c t3 p3 K2 T' lp
    go_wp2_with fail
    go_region
    all_goals
      clear c0 c1 c2 c3 h0 h1 m0 m1 hp
      go_wp2_with fail
      go_ret3
      refine ⟨rfl, T3.out.2.drew, ?_⟩
      simpa [hitN, missN] using T3.out.1.kep (Kep.refl _).drew
  | some x =>
    obtain ⟨b, f⟩ := x
    rw [hs] at K
    have K' : Hid (Calls Try.prog 18 #[.pointer (some ⟨p, 0, none⟩), .int .u32 page] w fun e w' => e = .returned (.tuple #[.agg #[.bool true, .int .u32 page, .int .u32 b, .int .i64 f], .bool true]) ∧ Kep w w') := K
    clear K hs T ok
    go_enter Try.func10, Try.ntmps10
    go_wp2_with (go_at_call 17; refine M.out.mono ?_; rintro e w1 ⟨rfl, rfl⟩)
    refine K'.out.mono ?_
    rintro e w2 ⟨rfl, k2⟩
    have K2 : Hid (Kep w1 w2) := k2
    clear k2 K' M
    go_wp2_with fail
    refine (count_yes _ p R S h m (T'.out.kep (K2.out.alloc _)) h0 h1).mono ?_
    rintro e w3 ⟨rfl, t3, p3⟩
    have T3 : Hid (Tlb w3 p R S (h + 1) m ∧ Put [p] w1 w3) := ⟨t3, (Put.of_kep (K2.out.alloc _)).trans p3⟩
    have lp := K2.out.lt (block_lt T'.out.box)
    have c : ∀ j, w3.cell? ⟨w2.heap.size, j, none⟩ = _ := fun j => (p3.cell (o := j) (by simp) (by simp; omega)).trans (cell_of_block (hat _ _ _ rfl))
    have c0 := c 0
    have c1 := c 1
    have c2 := c 2
    have c3 := c 3
    simp at c0 c1 c2 c3
    clear c t3 p3 K2 T' lp
    go_wp2_with fail
    go_region
    all_goals
      clear c0 c1 c2 c3 h0 h1 m0 m1 hp
      go_wp2_with fail
      go_ret3
      refine ⟨rfl, T3.out.2.drew, ?_⟩
      simpa [hitN, missN] using T3.out.1.kep (Kep.refl _).drew
end Go.Proofs.Ytekcknkfpecppaa
