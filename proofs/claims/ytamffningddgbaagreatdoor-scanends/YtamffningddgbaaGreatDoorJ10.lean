/- Part of a proof. -/
import Derived.Lib.SlicesCompact
import Derived.Deep.RegionWith
import Derived.Laws.Rows
import Derived.Test.YtamffningddgbaaGreatDoorJ09
namespace Go.Proofs.YtamffningddgbaaGreatDoor
open Go.RowKit
set_option linter.unusedVariables false
set_option linter.unusedSimpArgs false
def wdF (B : List Int) (ix : List Nat) (a : Nat) : Option Nat := if a % 4 = 0 ∧ a < 64 * ix.length then some (wordAt B (pos ix a)).toNat else none
theorem wordAt_range {B : List Int} (h : Byts B) (q : Nat) : 0 ≤ wordAt B q ∧ wordAt B q < 4294967296 := by
  have h0 := h.at q
  have h1 := h.at (q + 1)
  have h2 := h.at (q + 2)
  have h3 := h.at (q + 3)
  unfold wordAt wordI
  omega
theorem wdF_lt {B : List Int} {ix : List Nat} (h : Byts B) (a x : Nat) (hx : wdF B ix a = some x) : x < 4294967296 := by
  unfold wdF at hx
  split at hx
  · have := wordAt_range h (pos ix a)
    simp at hx; omega
  · cases hx
theorem wordIs_ram {w : World} {v : Value} {R : Nat} {ix : List Nat} {B : List Int} (h : Ram w v R ix) (hix : (ix.length : Int) ≤ 512) (hB : RowB w R B) (hf : Fits B ix) (hb : Byts B) (a : Nat) (ha : a < 4294967296) : WordIs w v a (wdF B ix a) := by
  intro w' k
  refine (word_any w' v R ix B (h.kep k) hix (hB.kep k) hf hb a (by omega)).mono ?_
  rintro e w'' ⟨rfl, rfl⟩
  refine ⟨?_, rfl⟩
  unfold wdF
  split
  · have := wordAt_range hb (pos ix a)
    simp only [wdR]
    rw [Int.toNat_of_nonneg this.1]
  · rfl
theorem withinIs_ram {w : World} {v : Value} {R : Nat} {ix : List Nat} (h : Ram w v R ix) (hix : (ix.length : Int) ≤ 512) (a : Nat) (ha : a < 4294967296) : WithinIs w v a (decide (a < 64 * ix.length)) := by
  intro w' k
  exact within_any w' v R ix (h.kep k) hix a (by omega)
theorem look_ram {w : World} {v : Value} {R : Nat} {ix : List Nat} {B : List Int} (h : Ram w v R ix) (hix : (ix.length : Int) ≤ 512) (hB : RowB w R B) (hf : Fits B ix) (hb : Byts B) (root : Nat) (dirs : Int) (va : Nat) (hr : (root : Int) < 4294967296) (ha : (va : Int) < 4294967296) :
    Calls Tryz.prog 72 #[v, .int .u32 root, .int .i64 dirs, .int .u32 va] w fun e w' => e = .returned (.tuple (wyR (lookF (wdF B ix) (64 * ix.length) root dirs va))) ∧ Kep w w' :=
  look_any w v _ _ root dirs va hr ha (fun a x => wdF_lt hb a x) (fun a ha => wordIs_ram h hix hB hf hb a ha) (fun a ha => withinIs_ram h hix a ha)
theorem wmay_tab : ∀ r < 32, ((r &&& 1 == 1) = (r % 2 == 1)) ∧ ((r &&& 3 == 3) = (r % 2 == 1 && r / 2 % 2 == 1)) ∧ ((r &&& 5 == 5) = (r % 2 == 1 && r / 4 % 2 == 1)) ∧ ((r &&& 7 == 7) = (r % 2 == 1 && r / 2 % 2 == 1 && r / 4 % 2 == 1)) ∧ ((r &&& 8 == 0) = (r / 8 % 2 == 0)) := by decide +kernel
theorem and_eq (x m n : Nat) (hx : x < 4294967296) (hm : m < 32) : (bits .and .u32 (x : Int) (m : Int) == (n : Int)) = ((x % 32) &&& m == n) := by
  rw [andN x m hx (by omega), mask32 x m hm, Bool.eq_iff_iff]
  simp
  omega
theorem b32 (x : Nat) : x % 32 % 2 = x % 2 ∧ x % 32 / 2 % 2 = x / 2 % 2 ∧ x % 32 / 4 % 2 = x / 4 % 2 ∧ x % 32 / 8 % 2 = x / 8 % 2 := by omega
theorem has1 (x : Nat) (hx : x < 4294967296) : (bits .and .u32 (x : Int) 1 == 1) = (x % 2 == 1) := by
  have := and_eq x 1 1 hx (by decide)
  rw [(wmay_tab _ (Nat.mod_lt _ (by decide))).1, (b32 x).1] at this
  exact this
theorem has3 (x : Nat) (hx : x < 4294967296) : (bits .and .u32 (x : Int) 3 == 3) = (x % 2 == 1 && x / 2 % 2 == 1) := by
  have := and_eq x 3 3 hx (by decide)
  rw [(wmay_tab _ (Nat.mod_lt _ (by decide))).2.1, (b32 x).1, (b32 x).2.1] at this
  exact this
theorem has5 (x : Nat) (hx : x < 4294967296) : (bits .and .u32 (x : Int) 5 == 5) = (x % 2 == 1 && x / 4 % 2 == 1) := by
  have := and_eq x 5 5 hx (by decide)
  rw [(wmay_tab _ (Nat.mod_lt _ (by decide))).2.2.1, (b32 x).1, (b32 x).2.2.1] at this
  exact this
theorem has7 (x : Nat) (hx : x < 4294967296) : (bits .and .u32 (x : Int) 7 == 7) = (x % 2 == 1 && x / 2 % 2 == 1 && x / 4 % 2 == 1) := by
  have := and_eq x 7 7 hx (by decide)
  rw [(wmay_tab _ (Nat.mod_lt _ (by decide))).2.2.2.1, (b32 x).1, (b32 x).2.1, (b32 x).2.2.1] at this
  exact this
theorem no8 (x : Nat) (hx : x < 4294967296) : (bits .and .u32 (x : Int) 8 == 0) = (x / 8 % 2 == 0) := by
  have := and_eq x 8 0 hx (by decide)
  rw [(wmay_tab _ (Nat.mod_lt _ (by decide))).2.2.2.2, (b32 x).2.2.2] at this
  exact this
theorem no0 (x : Nat) (hx : x < 4294967296) : (bits .and .u32 (x : Int) 0 == 0) = true := by
  have := and_eq x 0 0 hx (by decide)
  rw [Nat.and_zero] at this
  exact this
def wmayB (x : Nat) (kind : Int) (user : Bool) : Bool :=
  if kind = 1 then x % 2 == 1 && (!user || x / 4 % 2 == 1)
  else if kind = 2 then x % 2 == 1 && (!user || x / 4 % 2 == 1) && x / 8 % 2 == 0
  else if kind = 3 then x % 2 == 1 && (!user || x / 4 % 2 == 1) && x / 8 % 2 == 0 && x / 2 % 2 == 1
  else false
theorem needs3 (w : World) : Calls Tryz.prog 119 #[.int .i64 3] w fun e w' => e = .returned (.tuple #[.int .u32 3, .int .u32 8, .bool true]) ∧ w' = w := by
  go_enter Tryz.func119, Tryz.ntmps119
  go_wp2
  go_returns
  exact ⟨rfl, rfl⟩
theorem needs2 (w : World) : Calls Tryz.prog 119 #[.int .i64 2] w fun e w' => e = .returned (.tuple #[.int .u32 1, .int .u32 8, .bool true]) ∧ w' = w := by
  go_enter Tryz.func119, Tryz.ntmps119
  go_wp2
  go_returns
  exact ⟨rfl, rfl⟩
theorem needs1 (w : World) : Calls Tryz.prog 119 #[.int .i64 1] w fun e w' => e = .returned (.tuple #[.int .u32 1, .int .u32 0, .bool true]) ∧ w' = w := by
  go_enter Tryz.func119, Tryz.ntmps119
  go_wp2
  go_returns
  exact ⟨rfl, rfl⟩
theorem needs0 (w : World) (k : Int) (h1 : k ≠ 1) (h2 : k ≠ 2) (h3 : k ≠ 3) : Calls Tryz.prog 119 #[.int .i64 k] w fun e w' => e = .returned (.tuple #[.int .u32 0, .int .u32 0, .bool false]) ∧ w' = w := by
  have g1 : (k == 1) = false := by simpa using h1
  have g2 : (k == 2) = false := by simpa using h2
  have g3 : (k == 3) = false := by simpa using h3
  go_enter Tryz.func119, Tryz.ntmps119
  go_wp2
  go_returns
  exact ⟨rfl, rfl⟩
theorem wmay_any (w : World) (x : Nat) (hx : x < 4294967296) (kind : Int) (user : Bool) :
    Calls Tryz.prog 87 #[.int .u32 x, .int .i64 kind, .bool user] w fun e w' => e = .returned (.bool (wmayB x kind user)) ∧ w' = w := by
  have q1 := has1 x hx
  have q3 := has3 x hx
  have q5 := has5 x hx
  have q7 := has7 x hx
  have p8 := no8 x hx
  have p0 := no0 x hx
  have o14 : bits .or .u32 1 4 = 5 := by decide
  have o34 : bits .or .u32 3 4 = 7 := by decide
  unfold wmayB
  generalize (x % 2 == 1) = b1 at *
  generalize (x / 4 % 2 == 1) = b4 at *
  generalize (x / 2 % 2 == 1) = b2 at *
  generalize (x / 8 % 2 == 0) = b8 at *
  by_cases k1 : kind = 1
  · subst k1
    have hn : Hid (∀ w, Calls Tryz.prog 119 #[.int .i64 1] w fun e w' => e = .returned (.tuple #[.int .u32 1, .int .u32 0, .bool true]) ∧ w' = w) := needs1
    rw [if_pos rfl]
    clear q3 q7 p8
    cases user <;> cases b1 <;> cases b4 <;> (
      simp only [Bool.and_true, Bool.and_false] at q1 q5
      go_enter Tryz.func87, Tryz.ntmps87
      go_wp2_with (go_at_call 119; refine (hn.out _).mono ?_; rintro e w1 ⟨rfl, rfl⟩)
      go_ret
      exact ⟨rfl, rfl⟩)
  rw [if_neg k1]
  by_cases k2 : kind = 2
  · subst k2
    have hn : Hid (∀ w, Calls Tryz.prog 119 #[.int .i64 2] w fun e w' => e = .returned (.tuple #[.int .u32 1, .int .u32 8, .bool true]) ∧ w' = w) := needs2
    rw [if_pos rfl]
    clear q3 q7 p0
    cases user <;> cases b1 <;> cases b4 <;> cases b8 <;> (
      simp only [Bool.and_true, Bool.and_false] at q1 q5
      go_enter Tryz.func87, Tryz.ntmps87
      go_wp2_with (go_at_call 119; refine (hn.out _).mono ?_; rintro e w1 ⟨rfl, rfl⟩)
      go_ret
      exact ⟨rfl, rfl⟩)
  rw [if_neg k2]
  by_cases k3 : kind = 3
  · subst k3
    have hn : Hid (∀ w, Calls Tryz.prog 119 #[.int .i64 3] w fun e w' => e = .returned (.tuple #[.int .u32 3, .int .u32 8, .bool true]) ∧ w' = w) := needs3
    rw [if_pos rfl]
    clear q1 q5 p0
    cases user <;> cases b1 <;> cases b4 <;> cases b2 <;> cases b8 <;> (
      simp only [Bool.and_true, Bool.and_false] at q3 q7
      go_enter Tryz.func87, Tryz.ntmps87
      go_wp2_with (go_at_call 119; refine (hn.out _).mono ?_; rintro e w1 ⟨rfl, rfl⟩)
      go_ret
      exact ⟨rfl, rfl⟩)
  rw [if_neg k3]
  have hn : Hid (∀ w, Calls Tryz.prog 119 #[.int .i64 kind] w fun e w' => e = .returned (.tuple #[.int .u32 0, .int .u32 0, .bool false]) ∧ w' = w) := fun w => needs0 w kind k1 k2 k3
  have o04 : bits .or .u32 0 4 = 4 := by decide
  clear q1 q3 q5 q7 p8 p0
  cases user <;> (
    go_enter Tryz.func87, Tryz.ntmps87
    go_wp2_with (go_at_call 119; refine (hn.out _).mono ?_; rintro e w1 ⟨rfl, rfl⟩)
    go_ret
    exact ⟨rfl, rfl⟩)
theorem straight_any (w : World) (v : Value) (s : Nat) (va : Nat) (ha : (va : Int) < 4294967296) (hS : WithinIs w v va (decide (va < s))) :
    Calls Tryz.prog 86 #[v, .int .u32 va] w fun e w' => e = .returned (.tuple #[.agg (wayV 7 va 0 0 0 0), .bool (decide (va < s))]) ∧ Kep w w' := by
  have H : Hid (WithinIs w v va (decide (va < s))) := hS
  clear hS
  generalize decide (va < s) = b at *
  go_enter Tryz.func86, Tryz.ntmps86
  go_wp2_with (go_at_call 92; refine (H.out _ ((Kep.refl _).alloc _)).mono ?_; rintro e w1 ⟨rfl, rfl⟩)
  refine bodyPost_ret (resultsC1 rfl _ _ w.heap.size 72 (wayV 7 va 0 0 0 0) (0, 0) _ rfl (hat _ _ _ rfl) Tryz.underlying72 rfl size_way) rfl ⟨rfl, (Kep.refl _).alloc _⟩
theorem way_cells {w : World} {g : Nat} {b a e d t p : Int} (h : w.heap[g]? = some (.cells (wayV b a e d t p) 72 (0, 0))) :
    w.cell? ⟨g, 0, none⟩ = some (.int .u32 b) ∧ w.cell? ⟨g, 1, none⟩ = some (.int .u32 a) ∧ w.cell? ⟨g, 2, none⟩ = some (.int .u32 e) ∧ w.cell? ⟨g, 3, none⟩ = some (.int .i64 d) ∧ w.cell? ⟨g, 4, none⟩ = some (.int .i64 t) ∧ w.cell? ⟨g, 5, none⟩ = some (.int .i64 p) ∧ ∀ k, w.frozen? ⟨g, k, none⟩ = false :=
  ⟨cell_of_block h, cell_of_block h, cell_of_block h, cell_of_block h, cell_of_block h, cell_of_block h, fun k => by simp [World.frozen?, h]⟩
def toR : Option Nat → Array Value
  | none => #[.int .u32 0, .bool false]
  | some a => #[.int .u32 a, .bool true]
def toW (kind : Int) (user : Bool) : Option Wy → Option Nat
  | none => none
  | some y => if wmayB y.bits kind user then some y.at_ else none
def toF (M : Nat → Option Nat) (s root : Nat) (dirs : Int) (ps va : Nat) (kind : Int) : Option Nat :=
  if ps / 4 % 2 = 1 then toW kind (ps % 2 == 1) (lookF M s root dirs va)
  else if va < s ∧ 1 ≤ kind ∧ kind ≤ 3 then some va else none
set_option maxHeartbeats 4000000 in
set_option maxRecDepth 100000 in
theorem to_page (w : World) (v : Value) (root : Nat) (dirs : Int) (ps va : Nat) (kind : Int) (hp : ps < 4294967296) (b : Bool) (r : Option Wy) (h4 : ps / 4 % 2 = 1)
    (hs : Calls Tryz.prog 86 #[v, .int .u32 va] w fun e w' => e = .returned (.tuple #[.agg (wayV 7 va 0 0 0 0), .bool b]) ∧ Kep w w')
    (hl : ∀ w', Kep w w' → Calls Tryz.prog 72 #[v, .int .u32 root, .int .i64 dirs, .int .u32 va] w' fun e w'' => e = .returned (.tuple (wyR r)) ∧ Kep w' w'')
    (hr : ∀ y, r = some y → y.bits < 4294967296) :
    Calls Tryz.prog 71 #[v, .int .u32 root, .int .i64 dirs, .int .u32 ps, .int .u32 va, .int .i64 kind] w fun e w' => e = .returned (.tuple (toR (toW kind (ps % 2 == 1) r))) ∧ Kep w w' := by
  have a4 : bits .and .u32 (ps : Int) 4 = 4 := by rw [and4 ps hp, h4]; rfl
  have a1 : (bits .and .u32 (ps : Int) 1 != 0) = (ps % 2 == 1) := by
    rw [and1 ps hp, Bool.eq_iff_iff]; simp; omega
  generalize (ps % 2 == 1) = us at *
  have hs' : Hid (Calls Tryz.prog 86 #[v, .int .u32 va] w fun e w' => e = .returned (.tuple #[.agg (wayV 7 va 0 0 0 0), .bool b]) ∧ Kep w w') := hs
  clear hs
  rcases r with _ | y
  · have hl' : Hid (∀ w', Kep w w' → Calls Tryz.prog 72 #[v, .int .u32 root, .int .i64 dirs, .int .u32 va] w' fun e w'' => e = .returned (.tuple #[.agg (wayV 0 0 0 0 0 0), .bool false]) ∧ Kep w' w'') := hl
    clear hl hr
    go_enter Tryz.func71, Tryz.ntmps71
    go_wp2_with fail
    refine hs'.out.mono ?_
    rintro e w1 ⟨rfl, k1⟩
    have K1 : Hid (Kep w w1) := k1
    clear k1 hs'
    go_wp2_with fail
    refine (hl'.out _ (K1.out.alloc _)).mono ?_
    rintro e w2 ⟨rfl, k2⟩
    have K2 : Hid (Kep w w2) := kep_trans (K1.out.alloc _) k2
    obtain ⟨c0, c1, c2, c3, c4, c5, fz⟩ := way_cells (k2.block (hat _ _ _ rfl))
    have ge : Hid (w.heap.size ≤ w1.heap.size) := K1.out.size
    clear k2 hl'
    go_wp2_with fail
    go_ret2
    exact ⟨rfl, (((((K2.out.setCell ge.out _).setCell ge.out _).setCell ge.out _).setCell ge.out _).setCell ge.out _).setCell ge.out _⟩
  · obtain ⟨yb, ya, ye, yd, yt, yp⟩ := y
    have hl' : Hid (∀ w', Kep w w' → Calls Tryz.prog 72 #[v, .int .u32 root, .int .i64 dirs, .int .u32 va] w' fun e w'' => e = .returned (.tuple #[.agg (wayV yb ya ye yd yt yp), .bool true]) ∧ Kep w' w'') := hl
    have hm : Hid (∀ w, Calls Tryz.prog 87 #[.int .u32 yb, .int .i64 kind, .bool us] w fun e w' => e = .returned (.bool (wmayB yb kind us)) ∧ w' = w) := fun w => wmay_any w yb (hr _ rfl) kind us
    have ht : toW kind us (some ⟨yb, ya, ye, yd, yt, yp⟩) = if wmayB yb kind us then some ya else none := rfl
    rw [ht]
    clear hl hr ht
    generalize wmayB yb kind us = m at hm
    cases m
    all_goals
      go_enter Tryz.func71, Tryz.ntmps71
      go_wp2_with fail
      refine hs'.out.mono ?_
      rintro e w1 ⟨rfl, k1⟩
      have K1 : Hid (Kep w w1) := k1
      clear k1 hs'
      go_wp2_with fail
      refine (hl'.out _ (K1.out.alloc _)).mono ?_
      rintro e w2 ⟨rfl, k2⟩
      have K2 : Hid (Kep w w2) := kep_trans (K1.out.alloc _) k2
      obtain ⟨c0, c1, c2, c3, c4, c5, fz⟩ := way_cells (k2.block (hat _ _ _ rfl))
      have ge : Hid (w.heap.size ≤ w1.heap.size) := K1.out.size
      clear k2 hl'
      go_wp2_with (go_at_call 87; refine (hm.out _).mono ?_; rintro e w3 ⟨rfl, rfl⟩)
      go_ret2
      exact ⟨rfl, (((((K2.out.setCell ge.out _).setCell ge.out _).setCell ge.out _).setCell ge.out _).setCell ge.out _).setCell ge.out _⟩
set_option maxHeartbeats 4000000 in
set_option maxRecDepth 100000 in
theorem to_flat (w : World) (v : Value) (root : Nat) (dirs : Int) (ps va : Nat) (kind : Int) (hp : ps < 4294967296) (b : Bool) (h4 : ps / 4 % 2 = 0)
    (hs : Calls Tryz.prog 86 #[v, .int .u32 va] w fun e w' => e = .returned (.tuple #[.agg (wayV 7 va 0 0 0 0), .bool b]) ∧ Kep w w') :
    Calls Tryz.prog 71 #[v, .int .u32 root, .int .i64 dirs, .int .u32 ps, .int .u32 va, .int .i64 kind] w fun e w' => e = .returned (.tuple (toR (if b = true ∧ 1 ≤ kind ∧ kind ≤ 3 then some va else none))) ∧ Kep w w' := by
  have a4 : bits .and .u32 (ps : Int) 4 = 0 := by rw [and4 ps hp, h4]; rfl
  have a1 : (bits .and .u32 (ps : Int) 1 != 0) = (ps % 2 == 1) := by
    rw [and1 ps hp, Bool.eq_iff_iff]; simp; omega
  have h7 : ∀ us, wmayB 7 kind us = decide (1 ≤ kind ∧ kind ≤ 3) := by
    intro us
    unfold wmayB
    by_cases k1 : kind = 1
    · subst k1; cases us <;> rfl
    rw [if_neg k1]
    by_cases k2 : kind = 2
    · subst k2; cases us <;> rfl
    rw [if_neg k2]
    by_cases k3 : kind = 3
    · subst k3; cases us <;> rfl
    rw [if_neg k3]
    symm
    rw [decide_eq_false_iff_not]
    omega
  have hm : Hid (∀ w us, Calls Tryz.prog 87 #[.int .u32 7, .int .i64 kind, .bool us] w fun e w' => e = .returned (.bool (decide (1 ≤ kind ∧ kind ≤ 3))) ∧ w' = w) := fun w us => by
    rw [← h7 us]; exact wmay_any w 7 (by decide) kind us
  clear h7
  generalize (ps % 2 == 1) = us at *
  have hs' : Hid (Calls Tryz.prog 86 #[v, .int .u32 va] w fun e w' => e = .returned (.tuple #[.agg (wayV 7 va 0 0 0 0), .bool b]) ∧ Kep w w') := hs
  clear hs
  by_cases hk : 1 ≤ kind ∧ kind ≤ 3
  · rw [decide_eq_true hk] at hm
    have hb : (if b = true ∧ 1 ≤ kind ∧ kind ≤ 3 then some va else none) = bif b then some va else none := by cases b <;> simp [hk]
    rw [hb]
    clear hk hb
    cases b
    all_goals
      go_enter Tryz.func71, Tryz.ntmps71
      go_wp2_with fail
      refine hs'.out.mono ?_
      rintro e w1 ⟨rfl, k1⟩
      have K1 : Hid (Kep w w1) := k1
      clear k1 hs'
      go_wp2_with (go_at_call 87; refine (hm.out _ _).mono ?_; rintro e w3 ⟨rfl, rfl⟩)
      go_ret2
      exact ⟨rfl, K1.out.alloc _⟩
  · rw [decide_eq_false hk] at hm
    rw [if_neg (fun h => hk h.2)]
    clear hk
    cases b
    all_goals
      go_enter Tryz.func71, Tryz.ntmps71
      go_wp2_with fail
      refine hs'.out.mono ?_
      rintro e w1 ⟨rfl, k1⟩
      have K1 : Hid (Kep w w1) := k1
      clear k1 hs'
      go_wp2_with (go_at_call 87; refine (hm.out _ _).mono ?_; rintro e w3 ⟨rfl, rfl⟩)
      go_ret2
      exact ⟨rfl, K1.out.alloc _⟩
theorem joinN_lt (x y : Nat) : joinN x y < 32 := by
  have : ∀ r < 32, ∀ s < 32, joinN r s < 32 := by decide +kernel
  rw [← joinN_mod]
  exact this _ (Nat.mod_lt _ (by decide)) _ (Nat.mod_lt _ (by decide))
theorem lookF_bits {M : Nat → Option Nat} {s root : Nat} {dirs : Int} {va : Nat} {y : Wy} (h : lookF M s root dirs va = some y) : y.bits < 32 := by
  unfold lookF at h
  split at h
  · unfold look1 at h
    split at h
    · cases h
    · split at h
      · cases h
      · unfold look2 at h
        split at h
        · cases h
        · split at h
          · cases h
          · unfold look3 at h
            split at h
            · simp only [Option.some.injEq] at h
              subst h
              exact joinN_lt _ _
            · cases h
  · cases h
theorem to_any (w : World) (v : Value) (M : Nat → Option Nat) (s : Nat) (root : Nat) (dirs : Int) (ps va : Nat) (kind : Int) (hr : (root : Int) < 4294967296) (hp : ps < 4294967296) (ha : (va : Int) < 4294967296)
    (hM : ∀ a x, M a = some x → x < 4294967296) (hW : ∀ a, a < 4294967296 → WordIs w v a (M a)) (hS : ∀ a, a < 4294967296 → WithinIs w v a (decide (a < s))) :
    Calls Tryz.prog 71 #[v, .int .u32 root, .int .i64 dirs, .int .u32 ps, .int .u32 va, .int .i64 kind] w fun e w' => e = .returned (.tuple (toR (toF M s root dirs ps va kind))) ∧ Kep w w' := by
  have hs := straight_any w v s va ha (hS va (by omega))
  unfold toF
  by_cases h4 : ps / 4 % 2 = 1
  · rw [if_pos h4]
    refine to_page w v root dirs ps va kind hp _ _ h4 hs (fun w' k => ?_) (fun y hy => by have := lookF_bits hy; omega)
    exact look_any w' v M s root dirs va hr ha hM (fun a ha w2 k2 => hW a ha w2 (kep_trans k k2)) (fun a ha w2 k2 => hS a ha w2 (kep_trans k k2))
  · rw [if_neg h4]
    have := to_flat w v root dirs ps va kind hp _ (by omega) hs
    simpa using this
theorem to_ram {w : World} {v : Value} {R : Nat} {ix : List Nat} {B : List Int} (h : Ram w v R ix) (hix : (ix.length : Int) ≤ 512) (hB : RowB w R B) (hf : Fits B ix) (hb : Byts B) (root : Nat) (dirs : Int) (ps va : Nat) (kind : Int) (hr : (root : Int) < 4294967296) (hp : ps < 4294967296) (ha : (va : Int) < 4294967296) :
    Calls Tryz.prog 71 #[v, .int .u32 root, .int .i64 dirs, .int .u32 ps, .int .u32 va, .int .i64 kind] w fun e w' => e = .returned (.tuple (toR (toF (wdF B ix) (64 * ix.length) root dirs ps va kind))) ∧ Kep w w' :=
  to_any w v _ _ root dirs ps va kind hr hp ha (fun a x => wdF_lt hb a x) (fun a ha => wordIs_ram h hix hB hf hb a ha) (fun a ha => withinIs_ram h hix a ha)
abbrev mpt (p : Nat) : Value := .pointer (some ⟨p, 0, none⟩)
def rdB (B : List Int) (ix : List Nat) (q : Nat) : Int := if q < 64 * ix.length then B.getD (pos ix q) 0 else 0
def ledF (B : List Int) (ix : List Nat) (s : Sta) (a kind : Int) : Option Nat := toF (wdF B ix) (64 * ix.length) (s.c 0).toNat 16 s.ps.toNat a.toNat kind
def plc (s : Sta) (k : Nat) : Int := (s.pc + k) % 4294967296
def bytF (B : List Int) (ix : List Nat) (s : Sta) (k : Nat) : Option Int := (ledF B ix s (plc s k) 1).map (rdB B ix)
def zsF (B : List Int) (ix : List Nat) (s : Sta) (n : Nat) : List Int := (List.range n).map fun k => (bytF B ix s k).getD 0
def badF (B : List Int) (ix : List Nat) (s : Sta) (n : Nat) : Option Nat := (List.range n).find? fun k => (bytF B ix s k).isNone
def fetR (B : List Int) (ix : List Nat) (s : Sta) : Nat := rowOf ((bytF B ix s 0).getD 0) false
def fetN (B : List Int) (ix : List Nat) (s : Sta) : Nat := (sz (fetR B ix s)).toNat
def fetZ (B : List Int) (ix : List Nat) (s : Sta) : List Int := zsF B ix s (fetN B ix s)
def fetF (B : List Int) (ix : List Nat) (s : Sta) : Int × Int :=
  if (bytF B ix s 0).isNone then (5, s.pc) else if fetR B ix s = 0 then (1, s.pc) else
  match badF B ix s (fetN B ix s) with
  | some k => (5, plc s k)
  | none => if okD (fetR B ix s) (fetZ B ix s) (fetN B ix s) then (0, 0) else (1, s.pc)
def fetO (B : List Int) (ix : List Nat) (s : Sta) : Int := zat (fetZ B ix s) 0
def fetA (B : List Int) (ix : List Nat) (s : Sta) : Nat := (aOf (fetR B ix s) (fetZ B ix s)).toNat
def fetB (B : List Int) (ix : List Nat) (s : Sta) : Nat := (bOf (fetR B ix s) (fetZ B ix s)).toNat
def fetM (B : List Int) (ix : List Nat) (s : Sta) : Int := immOf (fetR B ix s) (fetZ B ix s)
theorem lookF_lt {M : Nat → Option Nat} {s root : Nat} {dirs : Int} {va : Nat} {y : Wy} (h : lookF M s root dirs va = some y) : y.at_ < s := by
  unfold lookF at h
  split at h
  · unfold look1 at h
    split at h
    · cases h
    · split at h
      · cases h
      · unfold look2 at h
        split at h
        · cases h
        · split at h
          · cases h
          · unfold look3 at h
            split at h
            · rename_i hlt
              cases h
              exact hlt
            · cases h
  · cases h
theorem toF_lt {M : Nat → Option Nat} {s root : Nat} {dirs : Int} {ps va : Nat} {kind : Int} {q : Nat} (h : toF M s root dirs ps va kind = some q) : q < s := by
  unfold toF at h
  split at h
  · unfold toW at h
    split at h
    · cases h
    · rename_i y hy
      split at h
      · cases h; exact lookF_lt hy
      · cases h
  · split at h
    · rename_i hlt
      cases h; exact hlt.1
    · cases h
theorem ledF_lt {B : List Int} {ix : List Nat} {s : Sta} {a kind : Int} {q : Nat} (h : ledF B ix s a kind = some q) : q < 64 * ix.length := toF_lt h
theorem rdB_in {B : List Int} {ix : List Nat} {q : Nat} (h : q < 64 * ix.length) : rdB B ix q = B.getD (pos ix q) 0 := by unfold rdB; rw [if_pos h]
theorem rdB_range {B : List Int} (hb : Byts B) (ix : List Nat) (q : Nat) : 0 ≤ rdB B ix q ∧ rdB B ix q < 256 := by
  unfold rdB; split
  · exact hb.at _
  · decide
def fetV (B : List Int) (ix : List Nat) (s : Sta) : Array Value := if (fetF B ix s).1 = 0 then insA (fetO B ix s) (fetA B ix s) (fetB B ix s) (fetM B ix s) else zeroI
theorem plc_next (s : Sta) (k : Nat) : (plc s k + 1) % 4294967296 = plc s (k + 1) := by unfold plc; omega
theorem plc_range (s : Sta) (k : Nat) : 0 ≤ plc s k ∧ plc s k < 4294967296 := by unfold plc; omega
theorem plc_zero {s : Sta} (ok : s.Ok) : plc s 0 = s.pc := by have := ok.pc; unfold plc; omega
theorem byt_some_range {B : List Int} (hb : Byts B) {ix : List Nat} {s : Sta} {k : Nat} {b : Int} (h : bytF B ix s k = some b) : 0 ≤ b ∧ b < 256 := by
  unfold bytF at h
  obtain ⟨q, h1, h2⟩ := Option.map_eq_some_iff.1 h
  rw [← h2]; exact rdB_range hb ix q
theorem zsF_len (B : List Int) (ix : List Nat) (s : Sta) (n : Nat) : (zsF B ix s n).length = n := by simp [zsF]
theorem zsF_snoc {B : List Int} {ix : List Nat} {s : Sta} {n : Nat} {b : Int} (h : bytF B ix s n = some b) : zsF B ix s (n + 1) = zsF B ix s n ++ [b] := by
  unfold zsF; rw [List.range_succ, List.map_append]; simp [h]
theorem zsF_range {B : List Int} (hb : Byts B) (ix : List Nat) (s : Sta) (n : Nat) : ∀ z ∈ zsF B ix s n, 0 ≤ z ∧ z < 256 := by
  intro z hz
  unfold zsF at hz
  obtain ⟨k, _, rfl⟩ := List.mem_map.1 hz
  cases h : bytF B ix s k with
  | none => simp
  | some b => simpa using byt_some_range hb h
theorem zsF_head {B : List Int} {ix : List Nat} {s : Sta} {n : Nat} (hn : 1 ≤ n) {b : Int} (h : bytF B ix s 0 = some b) : zat (zsF B ix s n) 0 = b := by
  obtain ⟨m, rfl⟩ : ∃ m, n = m + 1 := ⟨n - 1, by omega⟩
  unfold zat zsF
  rw [List.range_succ_eq_map]
  simp [h]
theorem bad_some {B : List Int} {ix : List Nat} {s : Sta} {n k : Nat} (hk : k < n) (h : bytF B ix s k = none) (hb : ∀ j, j < k → (bytF B ix s j).isSome = true) : badF B ix s n = some k := by
  unfold badF
  rw [List.find?_range_eq_some]
  refine ⟨by simp [h], by simpa using hk, fun j hj => ?_⟩
  have := hb j hj
  cases hq : bytF B ix s j with
  | none => rw [hq] at this; simp at this
  | some b => rfl
theorem bad_none {B : List Int} {ix : List Nat} {s : Sta} {n : Nat} (hb : ∀ j, j < n → (bytF B ix s j).isSome = true) : badF B ix s n = none := by
  unfold badF
  rw [List.find?_eq_none]
  intro j hj
  have := hb j (by simpa using hj)
  cases hq : bytF B ix s j with
  | none => rw [hq] at this; simp at this
  | some b => simp
theorem sz_six {r : Nat} (hr : r < 10) : 0 ≤ sz r ∧ sz r ≤ 6 ∧ (sz r = 0 ↔ r = 0) := by
  refine ten (p := fun r => 0 ≤ sz r ∧ sz r ≤ 6 ∧ (sz r = 0 ↔ r = 0)) r hr ?_ ?_ ?_ ?_ ?_ ?_ ?_ ?_ ?_ ?_ <;> decide
theorem fet_none {B : List Int} {ix : List Nat} {s : Sta} (h : bytF B ix s 0 = none) : fetF B ix s = (5, s.pc) := by unfold fetF; rw [h]; rfl
theorem fet_row {B : List Int} {ix : List Nat} {s : Sta} {op : Int} (h : bytF B ix s 0 = some op) (h0 : fetR B ix s = 0) : fetF B ix s = (1, s.pc) := by unfold fetF; rw [h, if_neg (by simp), if_pos h0]
theorem fet_bad {B : List Int} {ix : List Nat} {s : Sta} {op : Int} {k : Nat} (h : bytF B ix s 0 = some op) (h0 : fetR B ix s ≠ 0) (hb : badF B ix s (fetN B ix s) = some k) : fetF B ix s = (5, plc s k) := by unfold fetF; rw [h, if_neg (by simp), if_neg h0, hb]
theorem fet_dec {B : List Int} {ix : List Nat} {s : Sta} {op : Int} (h : bytF B ix s 0 = some op) (h0 : fetR B ix s ≠ 0) (hb : badF B ix s (fetN B ix s) = none) : fetF B ix s = if okD (fetR B ix s) (fetZ B ix s) (fetN B ix s) then (0, 0) else (1, s.pc) := by unfold fetF; rw [h, if_neg (by simp), if_neg h0, hb]
theorem aOf_range {r : Nat} {zs : List Int} (hz : ∀ n ∈ zs, 0 ≤ n ∧ n < 256) : 0 ≤ aOf r zs ∧ 0 ≤ bOf r zs := by
  have := zat_range hz 1
  unfold aOf bOf
  split <;> omega
theorem led_ram {w : World} {pm R : Nat} {ix : List Nat} {B : List Int} (M : Mem w (mpt pm) R ix B) {s : Sta} (ok : s.Ok) (a kind : Int) (ha : 0 ≤ a ∧ a < 4294967296) :
    Calls Tryz.prog 71 #[mpt pm, .int .u32 (s.c 0), .int .i64 16, .int .u32 s.ps, .int .u32 a, .int .i64 kind] w fun e w' => e = .returned (.tuple (toR (ledF B ix s a kind))) ∧ Kep w w' := by
  have hc := ok.c 0
  have hp := ok.ps
  have h := to_ram M.ram M.max M.row M.fits M.byts (s.c 0).toNat 16 s.ps.toNat a.toNat kind (by omega) (by omega) (by omega)
  rw [Int.toNat_of_nonneg hc.1, Int.toNat_of_nonneg hp.1, Int.toNat_of_nonneg ha.1] at h
  exact h
theorem Tabs.put {w w' : World} {l : List Nat} (h : Tabs w) (k : Put l w w') (hl : ∀ g ∈ l, 2 ≤ g) : Tabs w' := by
  obtain ⟨⟨t0, e0⟩, t1, e1⟩ := h
  exact ⟨⟨t0, k.keeps e0 (fun hm => by have := hl _ hm; omega)⟩, t1, k.keeps e1 (fun hm => by have := hl _ hm; omega)⟩
def insR (x : Int) : List Int → List Int
  | [] => [x]
  | y :: r => if y = x then y :: r else if x < y then x :: y :: r else y :: insR x r
def risL (xs : List Int) : List Int := xs.foldl (fun l x => insR x l) []
theorem insR_mem (x z : Int) : ∀ l : List Int, z ∈ insR x l ↔ z = x ∨ z ∈ l
  | [] => by simp [insR]
  | y :: r => by
    unfold insR
    split
    · rename_i h; subst h; simp
    · split
      · simp
      · simp only [List.mem_cons, insR_mem x z r]
        constructor
        · rintro (h | h | h)
          · exact .inr (.inl h)
          · exact .inl h
          · exact .inr (.inr h)
        · rintro (h | h | h)
          · exact .inr (.inl h)
          · exact .inl h
          · exact .inr (.inr h)
theorem insR_rise (x : Int) : ∀ l : List Int, l.Pairwise (· < ·) → (insR x l).Pairwise (· < ·)
  | [], _ => by simp [insR]
  | y :: r, h => by
    unfold insR
    split
    · exact h
    · rename_i hn
      split
      · rename_i hl
        rw [List.pairwise_cons] at h ⊢
        refine ⟨fun z hz => ?_, List.pairwise_cons.2 h⟩
        rcases List.mem_cons.1 hz with rfl | hz
        · exact hl
        · have := h.1 z hz; omega
      · rename_i hl
        rw [List.pairwise_cons] at h ⊢
        refine ⟨fun z hz => ?_, insR_rise x r h.2⟩
        rcases (insR_mem x z r).1 hz with rfl | hz
        · omega
        · exact h.1 z hz
theorem risF_mem (z : Int) : ∀ (xs l : List Int), z ∈ xs.foldl (fun l x => insR x l) l ↔ z ∈ l ∨ z ∈ xs
  | [], l => by simp
  | x :: xs, l => by
    rw [List.foldl_cons, risF_mem z xs, insR_mem, List.mem_cons]
    constructor
    · rintro ((h | h) | h)
      · exact .inr (.inl h)
      · exact .inl h
      · exact .inr (.inr h)
    · rintro (h | h | h)
      · exact .inl (.inr h)
      · exact .inl (.inl h)
      · exact .inr h
theorem risF_rise : ∀ (xs l : List Int), l.Pairwise (· < ·) → (xs.foldl (fun l x => insR x l) l).Pairwise (· < ·)
  | [], l, h => h
  | x :: xs, l, h => risF_rise xs _ (insR_rise x l h)
theorem risL_mem (z : Int) (xs : List Int) : z ∈ risL xs ↔ z ∈ xs := by unfold risL; rw [risF_mem]; simp
theorem risL_rise (xs : List Int) : (risL xs).Pairwise (· < ·) := risF_rise xs [] List.Pairwise.nil
theorem rise_uniq : ∀ (a b : List Int), a.Pairwise (· < ·) → b.Pairwise (· < ·) → (∀ x, x ∈ a ↔ x ∈ b) → a = b
  | [], [], _, _, _ => rfl
  | [], y :: b, _, _, h => by have := (h y).2 (by simp); simp at this
  | x :: a, [], _, _, h => by have := (h x).1 (by simp); simp at this
  | x :: a, y :: b, ha, hb, h => by
    rw [List.pairwise_cons] at ha hb
    have h1 := (h x).1 (by simp)
    have h2 := (h y).2 (by simp)
    have e : x = y := by
      rcases List.mem_cons.1 h1 with e | h1
      · exact e
      · rcases List.mem_cons.1 h2 with e | h2
        · exact e.symm
        · have := hb.1 x h1; have := ha.1 y h2; omega
    subst e
    rw [rise_uniq a b ha.2 hb.2 fun z => ?_]
    have hz := h z
    simp only [List.mem_cons] at hz
    constructor
    · intro hm
      rcases hz.1 (.inr hm) with rfl | hm'
      · have := ha.1 z hm; omega
      · exact hm'
    · intro hm
      rcases hz.2 (.inr hm) with rfl | hm'
      · have := hb.1 z hm; omega
      · exact hm'
theorem risL_uniq {l xs : List Int} (h : l.Pairwise (· < ·)) (hm : ∀ z, z ∈ l ↔ z ∈ xs) : l = risL xs :=
  rise_uniq _ _ h (risL_rise xs) fun z => by rw [hm, risL_mem]
open Go.Lib in
theorem cut_rise (d : Array Int) (hd : ∀ i j, i < j → j < d.size → d[i]! ≤ d[j]!) : ∀ m, m ≤ d.size → (compactUpTo d m).Pairwise (· < ·) ∧ ∀ z, z ∈ compactUpTo d m ↔ ∃ j, j < m ∧ d[j]! = z
  | 0, _ => by simp [compactUpTo]
  | m + 1, h => by
    obtain ⟨ih1, ih2⟩ := cut_rise d hd m (by omega)
    rw [compactUpTo_succ]
    by_cases hk : keeps d m = true
    · rw [if_pos hk]
      have hk' : m = 0 ∨ d[m]! ≠ d[m - 1]! := by unfold keeps at hk; exact of_decide_eq_true hk
      refine ⟨List.pairwise_append.2 ⟨ih1, by simp, fun a ha b hb => ?_⟩, fun z => ?_⟩
      · obtain rfl : b = d[m]! := by simpa using hb
        obtain ⟨j, hj, rfl⟩ := (ih2 a).1 ha
        rcases hk' with h0 | hne
        · omega
        · have h1 : d[j]! ≤ d[m - 1]! := by
            rcases (by omega : j = m - 1 ∨ j < m - 1) with e | hlt
            · rw [e]; exact Int.le_refl _
            · exact hd j (m - 1) hlt (by omega)
          have h2 := hd (m - 1) m (by omega) (by omega)
          omega
      · rw [List.mem_append, ih2, List.mem_singleton]
        constructor
        · rintro (⟨j, hj, e⟩ | rfl)
          · exact ⟨j, by omega, e⟩
          · exact ⟨m, by omega, rfl⟩
        · rintro ⟨j, hj, e⟩
          rcases (by omega : j < m ∨ j = m) with h1 | rfl
          · exact .inl ⟨j, h1, e⟩
          · exact .inr e.symm
    · have hk' : m ≠ 0 ∧ d[m]! = d[m - 1]! := by
        unfold keeps at hk
        have := of_decide_eq_false (by simpa using hk : decide (m = 0 ∨ d[m]! ≠ d[m - 1]!) = false)
        by_cases h0 : m = 0
        · exact absurd (.inl h0) this
        · exact ⟨h0, Classical.byContradiction fun h => this (.inr h)⟩
      rw [if_neg hk, List.append_nil]
      refine ⟨ih1, fun z => ?_⟩
      rw [ih2]
      constructor
      · rintro ⟨j, hj, e⟩; exact ⟨j, by omega, e⟩
      · rintro ⟨j, hj, e⟩
        rcases (by omega : j < m ∨ j = m) with h1 | rfl
        · exact ⟨j, h1, e⟩
        · exact ⟨j - 1, by omega, hk'.2 ▸ e⟩
theorem bang_list (l : List Int) (j : Nat) (h : j < l.length) : l.toArray[j]! = l[j] := by simp [h]
open Go.Lib in
theorem cut_is {l xs : List Int} (hs : l.Pairwise (· ≤ ·)) (hm : ∀ z, z ∈ l ↔ z ∈ xs) : compactUpTo l.toArray l.toArray.size = risL xs := by
  have hd : ∀ i j, i < j → j < l.toArray.size → l.toArray[i]! ≤ l.toArray[j]! := by
    intro i j h1 h2
    have h2' : j < l.length := by simpa using h2
    rw [bang_list l i (by omega), bang_list l j h2']
    exact List.pairwise_iff_getElem.1 hs i j (by omega) h2' h1
  obtain ⟨h1, h2⟩ := cut_rise l.toArray hd _ (Nat.le_refl _)
  refine risL_uniq h1 fun z => ?_
  rw [h2, ← hm, List.mem_iff_getElem]
  constructor
  · rintro ⟨j, hj, e⟩
    have hj' : j < l.length := by simpa using hj
    rw [bang_list l j hj'] at e
    exact ⟨j, hj', e⟩
  · rintro ⟨j, hj, e⟩
    exact ⟨j, by simpa using hj, by rw [bang_list l j hj]; exact e⟩
open Go.Lib in
theorem cut_sort (xs : List Int) : compactUpTo (xs.mergeSort fun x y => decide (x ≤ y)).toArray (xs.mergeSort fun x y => decide (x ≤ y)).toArray.size = risL xs := by
  refine cut_is ?_ fun z => (List.mergeSort_perm xs _).mem_iff
  have := List.pairwise_mergeSort (le := fun x y : Int => decide (x ≤ y)) (fun a b c h1 h2 => by simp at h1 h2 ⊢; omega) (fun a b => by simp; omega) xs
  exact this.imp (by simp)
theorem risL_len (xs : List Int) : (risL xs).length ≤ xs.length := by
  have : ∀ (ys l : List Int), (ys.foldl (fun l x => insR x l) l).length ≤ l.length + ys.length := by
    intro ys
    induction ys with
    | nil => simp
    | cons y ys ih =>
      intro l
      have h1 : ∀ (x : Int) (l : List Int), (insR x l).length ≤ l.length + 1 := by
        intro x l
        induction l with
        | nil => simp [insR]
        | cons z r ih =>
          unfold insR
          split
          · simp
          · split
            · simp
            · simpa using ih
      have := ih (insR y l); have := h1 y l
      simp only [List.foldl_cons, List.length_cons]; omega
  have h := this xs []
  unfold risL
  simpa using h
def lets : List (Array UInt8) := [#[], #[97], #[98], #[97, 98], #[97, 115], #[115], #[108]]
def pA (s : Array UInt8) : Bool := s.toList.contains 97
def pB (s : Array UInt8) : Bool := s.toList.contains 98
def pI (s : Array UInt8) : Int := (if s.toList.contains 115 then 128 else 0) + (if s.toList.contains 108 then 64 else 0)
def plV (s : Array UInt8) : Array Value := #[.bool (pA s), .bool (pB s), .int .u8 (pI s)]
set_option maxHeartbeats 2000000 in
theorem pl_0 (w : World) : Calls Tryz.prog 65 #[.string ⟨#[]⟩] w fun e w' => e = .returned (.agg #[.bool false, .bool false, .int .u8 0]) ∧ ∃ o1 o2, w' = (w.alloc o1).alloc o2 := by
  go_enter Tryz.func65, Tryz.ntmps65
  go_wp2
  go_rounds 1
  go_returns
  exact ⟨rfl, _, _, rfl⟩
set_option maxHeartbeats 2000000 in
theorem pl_1 (w : World) : Calls Tryz.prog 65 #[.string ⟨#[97]⟩] w fun e w' => e = .returned (.agg #[.bool true, .bool false, .int .u8 0]) ∧ ∃ o1 o2, w' = (w.alloc o1).alloc o2 := by
  go_enter Tryz.func65, Tryz.ntmps65
  go_wp2
  go_rounds 2
  go_returns
  exact ⟨rfl, _, _, rfl⟩
set_option maxHeartbeats 2000000 in
theorem pl_2 (w : World) : Calls Tryz.prog 65 #[.string ⟨#[98]⟩] w fun e w' => e = .returned (.agg #[.bool false, .bool true, .int .u8 0]) ∧ ∃ o1 o2, w' = (w.alloc o1).alloc o2 := by
  go_enter Tryz.func65, Tryz.ntmps65
  go_wp2
  go_rounds 2
  go_returns
  exact ⟨rfl, _, _, rfl⟩
set_option maxHeartbeats 2000000 in
theorem pl_3 (w : World) : Calls Tryz.prog 65 #[.string ⟨#[97, 98]⟩] w fun e w' => e = .returned (.agg #[.bool true, .bool true, .int .u8 0]) ∧ ∃ o1 o2, w' = (w.alloc o1).alloc o2 := by
  go_enter Tryz.func65, Tryz.ntmps65
  go_wp2
  go_rounds 3
  go_returns
  exact ⟨rfl, _, _, rfl⟩
set_option maxHeartbeats 2000000 in
theorem pl_4 (w : World) : Calls Tryz.prog 65 #[.string ⟨#[97, 115]⟩] w fun e w' => e = .returned (.agg #[.bool true, .bool false, .int .u8 128]) ∧ ∃ o1 o2, w' = (w.alloc o1).alloc o2 := by
  go_enter Tryz.func65, Tryz.ntmps65
  go_wp2
  go_rounds 3
  go_returns
  exact ⟨rfl, _, _, rfl⟩
set_option maxHeartbeats 2000000 in
theorem pl_5 (w : World) : Calls Tryz.prog 65 #[.string ⟨#[115]⟩] w fun e w' => e = .returned (.agg #[.bool false, .bool false, .int .u8 128]) ∧ ∃ o1 o2, w' = (w.alloc o1).alloc o2 := by
  go_enter Tryz.func65, Tryz.ntmps65
  go_wp2
  go_rounds 2
  go_returns
  exact ⟨rfl, _, _, rfl⟩
set_option maxHeartbeats 2000000 in
theorem pl_6 (w : World) : Calls Tryz.prog 65 #[.string ⟨#[108]⟩] w fun e w' => e = .returned (.agg #[.bool false, .bool false, .int .u8 64]) ∧ ∃ o1 o2, w' = (w.alloc o1).alloc o2 := by
  go_enter Tryz.func65, Tryz.ntmps65
  go_wp2
  go_rounds 2
  go_returns
  exact ⟨rfl, _, _, rfl⟩
theorem placesBy_any (s : Array UInt8) (h : s ∈ lets) (w : World) : Calls Tryz.prog 65 #[.string ⟨s⟩] w fun e w' => e = .returned (.agg (plV s)) ∧ ∃ o1 o2, w' = (w.alloc o1).alloc o2 := by
  simp only [lets, List.mem_cons, List.not_mem_nil, or_false] at h
  rcases h with rfl | rfl | rfl | rfl | rfl | rfl | rfl
  · have e : plV #[] = #[.bool false, .bool false, .int .u8 0] := by kernel_rfl
    rw [e]; exact pl_0 w
  · have e : plV #[97] = #[.bool true, .bool false, .int .u8 0] := by kernel_rfl
    rw [e]; exact pl_1 w
  · have e : plV #[98] = #[.bool false, .bool true, .int .u8 0] := by kernel_rfl
    rw [e]; exact pl_2 w
  · have e : plV #[97, 98] = #[.bool true, .bool true, .int .u8 0] := by kernel_rfl
    rw [e]; exact pl_3 w
  · have e : plV #[97, 115] = #[.bool true, .bool false, .int .u8 128] := by kernel_rfl
    rw [e]; exact pl_4 w
  · have e : plV #[115] = #[.bool false, .bool false, .int .u8 128] := by kernel_rfl
    rw [e]; exact pl_5 w
  · have e : plV #[108] = #[.bool false, .bool false, .int .u8 64] := by kernel_rfl
    rw [e]; exact pl_6 w
end Go.Proofs.YtamffningddgbaaGreatDoor
