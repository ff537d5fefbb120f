/- Part of a proof. -/
import Derived.Deep.Slices
import Derived.Lib.SmallJoins
import Derived.OpenShut
import Derived.DeepKeys
import Derived.Test.YtnignfloedcmlaaGreatDoorJ15
namespace Go.Proofs.YtnignfloedcmlaaGreatDoor
open Go.RowKit
set_option linter.unusedVariables false
set_option linter.unusedSimpArgs false
def wdF (B : List Int) (ix : List Nat) (a : Nat) : Option Nat := if a % 4 = 0 ∧ a < 64 * ix.length then some (wordAt B (pos ix a)).toNat else none
theorem wordAt_range {B : List Int} (h : Byts B) (q : Nat) : 0 ≤ wordAt B q ∧ wordAt B q < 4294967296 := by
  have h0 := h.at q
  have h1 := h.at (q + 1)
  have h2 := h.at (q + 2)
  have h3 := h.at (q + 3)
  unfold wordAt wordI
  omega
theorem wdF_lt {B : List Int} {ix : List Nat} (h : Byts B) (a x : Nat) (hx : wdF B ix a = some x) : x < 4294967296 := by
  unfold wdF at hx
  split at hx
  · have := wordAt_range h (pos ix a)
    simp at hx; omega
  · cases hx
theorem wordIs_ram {w : World} {v : Value} {R : Nat} {ix : List Nat} {B : List Int} (h : Ram w v R ix) (hix : (ix.length : Int) ≤ 512) (hB : RowB w R B) (hf : Fits B ix) (hb : Byts B) (a : Nat) (ha : a < 4294967296) : WordIs w v a (wdF B ix a) := by
  intro w' k
  refine (word_any w' v R ix B (h.kep k) hix (hB.kep k) hf hb a (by omega)).mono ?_
  rintro e w'' ⟨rfl, rfl⟩
  refine ⟨?_, rfl⟩
  unfold wdF
  split
  · have := wordAt_range hb (pos ix a)
    simp only [wdR]
    rw [Int.toNat_of_nonneg this.1]
  · rfl
theorem withinIs_ram {w : World} {v : Value} {R : Nat} {ix : List Nat} (h : Ram w v R ix) (hix : (ix.length : Int) ≤ 512) (a : Nat) (ha : a < 4294967296) : WithinIs w v a (decide (a < 64 * ix.length)) := by
  intro w' k
  exact within_any w' v R ix (h.kep k) hix a (by omega)
theorem look_ram {w : World} {v : Value} {R : Nat} {ix : List Nat} {B : List Int} (h : Ram w v R ix) (hix : (ix.length : Int) ≤ 512) (hB : RowB w R B) (hf : Fits B ix) (hb : Byts B) (root : Nat) (dirs : Int) (va : Nat) (hr : (root : Int) < 4294967296) (ha : (va : Int) < 4294967296) :
    Calls Tryz.prog 115 #[v, .int .u32 root, .int .i64 dirs, .int .u32 va] w fun e w' => e = .returned (.tuple (wyR (lookF (wdF B ix) (64 * ix.length) root dirs va))) ∧ Kep w w' :=
  look_any w v _ _ root dirs va hr ha (fun a x => wdF_lt hb a x) (fun a ha => wordIs_ram h hix hB hf hb a ha) (fun a ha => withinIs_ram h hix a ha)
theorem wmay_tab : ∀ r < 32, ((r &&& 1 == 1) = (r % 2 == 1)) ∧ ((r &&& 3 == 3) = (r % 2 == 1 && r / 2 % 2 == 1)) ∧ ((r &&& 5 == 5) = (r % 2 == 1 && r / 4 % 2 == 1)) ∧ ((r &&& 7 == 7) = (r % 2 == 1 && r / 2 % 2 == 1 && r / 4 % 2 == 1)) ∧ ((r &&& 8 == 0) = (r / 8 % 2 == 0)) := by decide +kernel
theorem and_eq (x m n : Nat) (hx : x < 4294967296) (hm : m < 32) : (bits .and .u32 (x : Int) (m : Int) == (n : Int)) = ((x % 32) &&& m == n) := by
  rw [andN x m hx (by omega), mask32 x m hm, Bool.eq_iff_iff]
  simp
  omega
theorem b32 (x : Nat) : x % 32 % 2 = x % 2 ∧ x % 32 / 2 % 2 = x / 2 % 2 ∧ x % 32 / 4 % 2 = x / 4 % 2 ∧ x % 32 / 8 % 2 = x / 8 % 2 := by omega
theorem has1 (x : Nat) (hx : x < 4294967296) : (bits .and .u32 (x : Int) 1 == 1) = (x % 2 == 1) := by
  have := and_eq x 1 1 hx (by decide)
  rw [(wmay_tab _ (Nat.mod_lt _ (by decide))).1, (b32 x).1] at this
  exact this
theorem has3 (x : Nat) (hx : x < 4294967296) : (bits .and .u32 (x : Int) 3 == 3) = (x % 2 == 1 && x / 2 % 2 == 1) := by
  have := and_eq x 3 3 hx (by decide)
  rw [(wmay_tab _ (Nat.mod_lt _ (by decide))).2.1, (b32 x).1, (b32 x).2.1] at this
  exact this
theorem has5 (x : Nat) (hx : x < 4294967296) : (bits .and .u32 (x : Int) 5 == 5) = (x % 2 == 1 && x / 4 % 2 == 1) := by
  have := and_eq x 5 5 hx (by decide)
  rw [(wmay_tab _ (Nat.mod_lt _ (by decide))).2.2.1, (b32 x).1, (b32 x).2.2.1] at this
  exact this
theorem has7 (x : Nat) (hx : x < 4294967296) : (bits .and .u32 (x : Int) 7 == 7) = (x % 2 == 1 && x / 2 % 2 == 1 && x / 4 % 2 == 1) := by
  have := and_eq x 7 7 hx (by decide)
  rw [(wmay_tab _ (Nat.mod_lt _ (by decide))).2.2.2.1, (b32 x).1, (b32 x).2.1, (b32 x).2.2.1] at this
  exact this
theorem no8 (x : Nat) (hx : x < 4294967296) : (bits .and .u32 (x : Int) 8 == 0) = (x / 8 % 2 == 0) := by
  have := and_eq x 8 0 hx (by decide)
  rw [(wmay_tab _ (Nat.mod_lt _ (by decide))).2.2.2.2, (b32 x).2.2.2] at this
  exact this
theorem no0 (x : Nat) (hx : x < 4294967296) : (bits .and .u32 (x : Int) 0 == 0) = true := by
  have := and_eq x 0 0 hx (by decide)
  rw [Nat.and_zero] at this
  exact this
def wmayB (x : Nat) (kind : Int) (user : Bool) : Bool :=
  if kind = 1 then x % 2 == 1 && (!user || x / 4 % 2 == 1)
  else if kind = 2 then x % 2 == 1 && (!user || x / 4 % 2 == 1) && x / 8 % 2 == 0
  else if kind = 3 then x % 2 == 1 && (!user || x / 4 % 2 == 1) && x / 8 % 2 == 0 && x / 2 % 2 == 1
  else false
theorem needs3 (w : World) : Calls Tryz.prog 151 #[.int .i64 3] w fun e w' => e = .returned (.tuple #[.int .u32 3, .int .u32 8, .bool true]) ∧ w' = w := by
  go_enter Tryz.func151, Tryz.ntmps151
  go_wp2
  go_returns
  exact ⟨rfl, rfl⟩
theorem needs2 (w : World) : Calls Tryz.prog 151 #[.int .i64 2] w fun e w' => e = .returned (.tuple #[.int .u32 1, .int .u32 8, .bool true]) ∧ w' = w := by
  go_enter Tryz.func151, Tryz.ntmps151
  go_wp2
  go_returns
  exact ⟨rfl, rfl⟩
theorem needs1 (w : World) : Calls Tryz.prog 151 #[.int .i64 1] w fun e w' => e = .returned (.tuple #[.int .u32 1, .int .u32 0, .bool true]) ∧ w' = w := by
  go_enter Tryz.func151, Tryz.ntmps151
  go_wp2
  go_returns
  exact ⟨rfl, rfl⟩
theorem needs0 (w : World) (k : Int) (h1 : k ≠ 1) (h2 : k ≠ 2) (h3 : k ≠ 3) : Calls Tryz.prog 151 #[.int .i64 k] w fun e w' => e = .returned (.tuple #[.int .u32 0, .int .u32 0, .bool false]) ∧ w' = w := by
  have g1 : (k == 1) = false := by simpa using h1
  have g2 : (k == 2) = false := by simpa using h2
  have g3 : (k == 3) = false := by simpa using h3
  go_enter Tryz.func151, Tryz.ntmps151
  go_wp2
  go_returns
  exact ⟨rfl, rfl⟩
theorem wmay_any (w : World) (x : Nat) (hx : x < 4294967296) (kind : Int) (user : Bool) :
    Calls Tryz.prog 144 #[.int .u32 x, .int .i64 kind, .bool user] w fun e w' => e = .returned (.bool (wmayB x kind user)) ∧ w' = w := by
  have q1 := has1 x hx
  have q3 := has3 x hx
  have q5 := has5 x hx
  have q7 := has7 x hx
  have p8 := no8 x hx
  have p0 := no0 x hx
  have o14 : bits .or .u32 1 4 = 5 := by decide
  have o34 : bits .or .u32 3 4 = 7 := by decide
  unfold wmayB
  generalize (x % 2 == 1) = b1 at *
  generalize (x / 4 % 2 == 1) = b4 at *
  generalize (x / 2 % 2 == 1) = b2 at *
  generalize (x / 8 % 2 == 0) = b8 at *
  by_cases k1 : kind = 1
  · subst k1
    have hn : Hid (∀ w, Calls Tryz.prog 151 #[.int .i64 1] w fun e w' => e = .returned (.tuple #[.int .u32 1, .int .u32 0, .bool true]) ∧ w' = w) := needs1
    rw [if_pos rfl]
    clear q3 q7 p8
    cases user <;> cases b1 <;> cases b4 <;> (
      simp only [Bool.and_true, Bool.and_false] at q1 q5
      go_enter Tryz.func144, Tryz.ntmps144
      go_wp2_with (go_at_call 151; refine (hn.out _).mono ?_; rintro e w1 ⟨rfl, rfl⟩)
      go_ret
      exact ⟨rfl, rfl⟩)
  rw [if_neg k1]
  by_cases k2 : kind = 2
  · subst k2
    have hn : Hid (∀ w, Calls Tryz.prog 151 #[.int .i64 2] w fun e w' => e = .returned (.tuple #[.int .u32 1, .int .u32 8, .bool true]) ∧ w' = w) := needs2
    rw [if_pos rfl]
    clear q3 q7 p0
    cases user <;> cases b1 <;> cases b4 <;> cases b8 <;> (
      simp only [Bool.and_true, Bool.and_false] at q1 q5
      go_enter Tryz.func144, Tryz.ntmps144
      go_wp2_with (go_at_call 151; refine (hn.out _).mono ?_; rintro e w1 ⟨rfl, rfl⟩)
      go_ret
      exact ⟨rfl, rfl⟩)
  rw [if_neg k2]
  by_cases k3 : kind = 3
  · subst k3
    have hn : Hid (∀ w, Calls Tryz.prog 151 #[.int .i64 3] w fun e w' => e = .returned (.tuple #[.int .u32 3, .int .u32 8, .bool true]) ∧ w' = w) := needs3
    rw [if_pos rfl]
    clear q1 q5 p0
    cases user <;> cases b1 <;> cases b4 <;> cases b2 <;> cases b8 <;> (
      simp only [Bool.and_true, Bool.and_false] at q3 q7
      go_enter Tryz.func144, Tryz.ntmps144
      go_wp2_with (go_at_call 151; refine (hn.out _).mono ?_; rintro e w1 ⟨rfl, rfl⟩)
      go_ret
      exact ⟨rfl, rfl⟩)
  rw [if_neg k3]
  have hn : Hid (∀ w, Calls Tryz.prog 151 #[.int .i64 kind] w fun e w' => e = .returned (.tuple #[.int .u32 0, .int .u32 0, .bool false]) ∧ w' = w) := fun w => needs0 w kind k1 k2 k3
  have o04 : bits .or .u32 0 4 = 4 := by decide
  clear q1 q3 q5 q7 p8 p0
  cases user <;> (
    go_enter Tryz.func144, Tryz.ntmps144
    go_wp2_with (go_at_call 151; refine (hn.out _).mono ?_; rintro e w1 ⟨rfl, rfl⟩)
    go_ret
    exact ⟨rfl, rfl⟩)
theorem straight_any (w : World) (v : Value) (s : Nat) (va : Nat) (ha : (va : Int) < 4294967296) (hS : WithinIs w v va (decide (va < s))) :
    Calls Tryz.prog 143 #[v, .int .u32 va] w fun e w' => e = .returned (.tuple #[.agg (wayV 7 va 0 0 0 0), .bool (decide (va < s))]) ∧ Kep w w' := by
  have H : Hid (WithinIs w v va (decide (va < s))) := hS
  clear hS
  generalize decide (va < s) = b at *
  go_enter Tryz.func143, Tryz.ntmps143
  go_wp2_with (go_at_call 138; refine (H.out _ ((Kep.refl _).alloc _)).mono ?_; rintro e w1 ⟨rfl, rfl⟩)
  refine bodyPost_ret (resultsC1 rfl _ _ w.heap.size 196 (wayV 7 va 0 0 0 0) (0, 0) _ rfl (hat _ _ _ rfl) Tryz.underlying196 rfl size_way) rfl ⟨rfl, (Kep.refl _).alloc _⟩
theorem way_one (b a e d t p : Int) : (wayV b a e d t p).all (·.oneCell') = true := by simp [Value.oneCell']
theorem way_cells {w : World} {g : Nat} {b a e d t p : Int} (h : w.heap[g]? = some (.cells (wayV b a e d t p) 196 (0, 0))) :
    w.cell? ⟨g, 0, none⟩ = some (.int .u32 b) ∧ w.cell? ⟨g, 1, none⟩ = some (.int .u32 a) ∧ w.cell? ⟨g, 2, none⟩ = some (.int .u32 e) ∧ w.cell? ⟨g, 3, none⟩ = some (.int .i64 d) ∧ w.cell? ⟨g, 4, none⟩ = some (.int .i64 t) ∧ w.cell? ⟨g, 5, none⟩ = some (.int .i64 p) ∧ ∀ k, w.frozen? ⟨g, k, none⟩ = false :=
  ⟨cell_of_block h, cell_of_block h, cell_of_block h, cell_of_block h, cell_of_block h, cell_of_block h, fun k => by simp [World.frozen?, h]⟩
def toR : Option Nat → Array Value
  | none => #[.int .u32 0, .bool false]
  | some a => #[.int .u32 a, .bool true]
def toW (kind : Int) (user : Bool) : Option Wy → Option Nat
  | none => none
  | some y => if wmayB y.bits kind user then some y.at_ else none
def toF (M : Nat → Option Nat) (s root : Nat) (dirs : Int) (ps va : Nat) (kind : Int) : Option Nat :=
  if ps / 4 % 2 = 1 then toW kind (ps % 2 == 1) (lookF M s root dirs va)
  else if va < s ∧ 1 ≤ kind ∧ kind ≤ 3 then some va else none
set_option maxHeartbeats 4000000 in
set_option maxRecDepth 100000 in
theorem to_page (w : World) (v : Value) (root : Nat) (dirs : Int) (ps va : Nat) (kind : Int) (hp : ps < 4294967296) (b : Bool) (r : Option Wy) (h4 : ps / 4 % 2 = 1)
    (hs : Calls Tryz.prog 143 #[v, .int .u32 va] w fun e w' => e = .returned (.tuple #[.agg (wayV 7 va 0 0 0 0), .bool b]) ∧ Kep w w')
    (hl : ∀ w', Kep w w' → Calls Tryz.prog 115 #[v, .int .u32 root, .int .i64 dirs, .int .u32 va] w' fun e w'' => e = .returned (.tuple (wyR r)) ∧ Kep w' w'')
    (hr : ∀ y, r = some y → y.bits < 4294967296) :
    Calls Tryz.prog 121 #[v, .int .u32 root, .int .i64 dirs, .int .u32 ps, .int .u32 va, .int .i64 kind] w fun e w' => e = .returned (.tuple (toR (toW kind (ps % 2 == 1) r))) ∧ Kep w w' := by
  have a4 : bits .and .u32 (ps : Int) 4 = 4 := by rw [and4 ps hp, h4]; rfl
  have a1 : (bits .and .u32 (ps : Int) 1 != 0) = (ps % 2 == 1) := by
    rw [and1 ps hp, Bool.eq_iff_iff]; simp; omega
  generalize (ps % 2 == 1) = us at *
  have hs' : Hid (Calls Tryz.prog 143 #[v, .int .u32 va] w fun e w' => e = .returned (.tuple #[.agg (wayV 7 va 0 0 0 0), .bool b]) ∧ Kep w w') := hs
  clear hs
  rcases r with _ | y
  · have hl' : Hid (∀ w', Kep w w' → Calls Tryz.prog 115 #[v, .int .u32 root, .int .i64 dirs, .int .u32 va] w' fun e w'' => e = .returned (.tuple #[.agg (wayV 0 0 0 0 0 0), .bool false]) ∧ Kep w' w'') := hl
    clear hl hr
    go_enter Tryz.func121, Tryz.ntmps121
    go_wp2_with fail
    refine hs'.out.mono ?_
    rintro e w1 ⟨rfl, k1⟩
    have K1 : Hid (Kep w w1) := k1
    clear k1 hs'
    go_wp2_with fail
    refine (hl'.out _ (K1.out.alloc _)).mono ?_
    rintro e w2 ⟨rfl, k2⟩
    have K2 : Hid (Kep w w2) := kep_trans (K1.out.alloc _) k2
    obtain ⟨c0, c1, c2, c3, c4, c5, fz⟩ := way_cells (k2.block (hat _ _ _ rfl))
    have ge : Hid (w.heap.size ≤ w1.heap.size) := K1.out.size
    clear k2 hl'
    go_wp2_with fail
    go_ret2
    exact ⟨rfl, (((((K2.out.setCell ge.out _).setCell ge.out _).setCell ge.out _).setCell ge.out _).setCell ge.out _).setCell ge.out _⟩
  · obtain ⟨yb, ya, ye, yd, yt, yp⟩ := y
    have hl' : Hid (∀ w', Kep w w' → Calls Tryz.prog 115 #[v, .int .u32 root, .int .i64 dirs, .int .u32 va] w' fun e w'' => e = .returned (.tuple #[.agg (wayV yb ya ye yd yt yp), .bool true]) ∧ Kep w' w'') := hl
    have hm : Hid (∀ w, Calls Tryz.prog 144 #[.int .u32 yb, .int .i64 kind, .bool us] w fun e w' => e = .returned (.bool (wmayB yb kind us)) ∧ w' = w) := fun w => wmay_any w yb (hr _ rfl) kind us
    have ht : toW kind us (some ⟨yb, ya, ye, yd, yt, yp⟩) = if wmayB yb kind us then some ya else none := rfl
    rw [ht]
    clear hl hr ht
    generalize wmayB yb kind us = m at hm
    cases m
    all_goals
      go_enter Tryz.func121, Tryz.ntmps121
      go_wp2_with fail
      refine hs'.out.mono ?_
      rintro e w1 ⟨rfl, k1⟩
      have K1 : Hid (Kep w w1) := k1
      clear k1 hs'
      go_wp2_with fail
      refine (hl'.out _ (K1.out.alloc _)).mono ?_
      rintro e w2 ⟨rfl, k2⟩
      have K2 : Hid (Kep w w2) := kep_trans (K1.out.alloc _) k2
      obtain ⟨c0, c1, c2, c3, c4, c5, fz⟩ := way_cells (k2.block (hat _ _ _ rfl))
      have ge : Hid (w.heap.size ≤ w1.heap.size) := K1.out.size
      clear k2 hl'
      go_wp2_with (go_at_call 144; refine (hm.out _).mono ?_; rintro e w3 ⟨rfl, rfl⟩)
      go_ret2
      exact ⟨rfl, (((((K2.out.setCell ge.out _).setCell ge.out _).setCell ge.out _).setCell ge.out _).setCell ge.out _).setCell ge.out _⟩
set_option maxHeartbeats 4000000 in
set_option maxRecDepth 100000 in
theorem to_flat (w : World) (v : Value) (root : Nat) (dirs : Int) (ps va : Nat) (kind : Int) (hp : ps < 4294967296) (b : Bool) (h4 : ps / 4 % 2 = 0)
    (hs : Calls Tryz.prog 143 #[v, .int .u32 va] w fun e w' => e = .returned (.tuple #[.agg (wayV 7 va 0 0 0 0), .bool b]) ∧ Kep w w') :
    Calls Tryz.prog 121 #[v, .int .u32 root, .int .i64 dirs, .int .u32 ps, .int .u32 va, .int .i64 kind] w fun e w' => e = .returned (.tuple (toR (if b = true ∧ 1 ≤ kind ∧ kind ≤ 3 then some va else none))) ∧ Kep w w' := by
  have a4 : bits .and .u32 (ps : Int) 4 = 0 := by rw [and4 ps hp, h4]; rfl
  have a1 : (bits .and .u32 (ps : Int) 1 != 0) = (ps % 2 == 1) := by
    rw [and1 ps hp, Bool.eq_iff_iff]; simp; omega
  have h7 : ∀ us, wmayB 7 kind us = decide (1 ≤ kind ∧ kind ≤ 3) := by
    intro us
    unfold wmayB
    by_cases k1 : kind = 1
    · subst k1; cases us <;> rfl
    rw [if_neg k1]
    by_cases k2 : kind = 2
    · subst k2; cases us <;> rfl
    rw [if_neg k2]
    by_cases k3 : kind = 3
    · subst k3; cases us <;> rfl
    rw [if_neg k3]
    symm
    rw [decide_eq_false_iff_not]
    omega
  have hm : Hid (∀ w us, Calls Tryz.prog 144 #[.int .u32 7, .int .i64 kind, .bool us] w fun e w' => e = .returned (.bool (decide (1 ≤ kind ∧ kind ≤ 3))) ∧ w' = w) := fun w us => by
    rw [← h7 us]; exact wmay_any w 7 (by decide) kind us
  clear h7
  generalize (ps % 2 == 1) = us at *
  have hs' : Hid (Calls Tryz.prog 143 #[v, .int .u32 va] w fun e w' => e = .returned (.tuple #[.agg (wayV 7 va 0 0 0 0), .bool b]) ∧ Kep w w') := hs
  clear hs
  by_cases hk : 1 ≤ kind ∧ kind ≤ 3
  · rw [decide_eq_true hk] at hm
    have hb : (if b = true ∧ 1 ≤ kind ∧ kind ≤ 3 then some va else none) = bif b then some va else none := by cases b <;> simp [hk]
    rw [hb]
    clear hk hb
    cases b
    all_goals
      go_enter Tryz.func121, Tryz.ntmps121
      go_wp2_with fail
      refine hs'.out.mono ?_
      rintro e w1 ⟨rfl, k1⟩
      have K1 : Hid (Kep w w1) := k1
      clear k1 hs'
      go_wp2_with (go_at_call 144; refine (hm.out _ _).mono ?_; rintro e w3 ⟨rfl, rfl⟩)
      go_ret2
      exact ⟨rfl, K1.out.alloc _⟩
  · rw [decide_eq_false hk] at hm
    rw [if_neg (fun h => hk h.2)]
    clear hk
    cases b
    all_goals
      go_enter Tryz.func121, Tryz.ntmps121
      go_wp2_with fail
      refine hs'.out.mono ?_
      rintro e w1 ⟨rfl, k1⟩
      have K1 : Hid (Kep w w1) := k1
      clear k1 hs'
      go_wp2_with (go_at_call 144; refine (hm.out _ _).mono ?_; rintro e w3 ⟨rfl, rfl⟩)
      go_ret2
      exact ⟨rfl, K1.out.alloc _⟩
theorem joinN_lt (x y : Nat) : joinN x y < 32 := by
  have : ∀ r < 32, ∀ s < 32, joinN r s < 32 := by decide +kernel
  rw [← joinN_mod]
  exact this _ (Nat.mod_lt _ (by decide)) _ (Nat.mod_lt _ (by decide))
theorem lookF_bits {M : Nat → Option Nat} {s root : Nat} {dirs : Int} {va : Nat} {y : Wy} (h : lookF M s root dirs va = some y) : y.bits < 32 := by
  unfold lookF at h
  split at h
  · unfold look1 at h
    split at h
    · cases h
    · split at h
      · cases h
      · unfold look2 at h
        split at h
        · cases h
        · split at h
          · cases h
          · unfold look3 at h
            split at h
            · simp only [Option.some.injEq] at h
              subst h
              exact joinN_lt _ _
            · cases h
  · cases h
theorem to_any (w : World) (v : Value) (M : Nat → Option Nat) (s : Nat) (root : Nat) (dirs : Int) (ps va : Nat) (kind : Int) (hr : (root : Int) < 4294967296) (hp : ps < 4294967296) (ha : (va : Int) < 4294967296)
    (hM : ∀ a x, M a = some x → x < 4294967296) (hW : ∀ a, a < 4294967296 → WordIs w v a (M a)) (hS : ∀ a, a < 4294967296 → WithinIs w v a (decide (a < s))) :
    Calls Tryz.prog 121 #[v, .int .u32 root, .int .i64 dirs, .int .u32 ps, .int .u32 va, .int .i64 kind] w fun e w' => e = .returned (.tuple (toR (toF M s root dirs ps va kind))) ∧ Kep w w' := by
  have hs := straight_any w v s va ha (hS va (by omega))
  unfold toF
  by_cases h4 : ps / 4 % 2 = 1
  · rw [if_pos h4]
    refine to_page w v root dirs ps va kind hp _ _ h4 hs (fun w' k => ?_) (fun y hy => by have := lookF_bits hy; omega)
    exact look_any w' v M s root dirs va hr ha hM (fun a ha w2 k2 => hW a ha w2 (kep_trans k k2)) (fun a ha w2 k2 => hS a ha w2 (kep_trans k k2))
  · rw [if_neg h4]
    have := to_flat w v root dirs ps va kind hp _ (by omega) hs
    simpa using this
theorem to_ram {w : World} {v : Value} {R : Nat} {ix : List Nat} {B : List Int} (h : Ram w v R ix) (hix : (ix.length : Int) ≤ 512) (hB : RowB w R B) (hf : Fits B ix) (hb : Byts B) (root : Nat) (dirs : Int) (ps va : Nat) (kind : Int) (hr : (root : Int) < 4294967296) (hp : ps < 4294967296) (ha : (va : Int) < 4294967296) :
    Calls Tryz.prog 121 #[v, .int .u32 root, .int .i64 dirs, .int .u32 ps, .int .u32 va, .int .i64 kind] w fun e w' => e = .returned (.tuple (toR (toF (wdF B ix) (64 * ix.length) root dirs ps va kind))) ∧ Kep w w' :=
  to_any w v _ _ root dirs ps va kind hr hp ha (fun a x => wdF_lt hb a x) (fun a ha => wordIs_ram h hix hB hf hb a ha) (fun a ha => withinIs_ram h hix a ha)
theorem lookF_some {M : Nat → Option Nat} {s root : Nat} {dirs : Int} {va : Nat} {y : Wy} (hM : ∀ a x, M a = some x → x < 4294967296) (h : lookF M s root dirs va = some y) :
    ∃ u z : Nat, ((va / 1024 : Nat) : Int) < dirs ∧ M (dirAt root va) = some u ∧ u % 2 ≠ 0 ∧ M (tabAt u va) = some z ∧ z % 2 ≠ 0 ∧ pageAt z va < s ∧ y = wayOf root va u z ∧ u < 4294967296 ∧ z < 4294967296 := by
  unfold lookF at h
  split at h
  · rename_i hd
    rcases hx : M (dirAt root va) with _ | u
    · rw [hx] at h; cases h
    rw [hx] at h
    unfold look1 at h
    simp only at h
    split at h
    · cases h
    rename_i hu
    rcases hz : M (tabAt u va) with _ | z
    · rw [hz] at h; cases h
    rw [hz] at h
    unfold look2 at h
    simp only at h
    split at h
    · cases h
    rename_i hz2
    unfold look3 at h
    split at h
    · rename_i hs
      exact ⟨u, z, hd, rfl, hu, hz, hz2, hs, (Option.some.inj h).symm, hM _ _ hx, hM _ _ hz⟩
    · cases h
  · cases h
theorem way_fits {M : Nat → Option Nat} {s root : Nat} {dirs : Int} {va : Nat} {y : Wy} (hM : ∀ a x, M a = some x → x < 4294967296) (h : lookF M s root dirs va = some y) :
    y.bits < 32 ∧ y.at_ < 4294967296 ∧ y.entry < 4294967296 ∧ y.dir < 67108864 ∧ y.tab < 67108864 ∧ y.page < 67108864 := by
  obtain ⟨u, z, _, _, _, _, _, _, rfl, hu, hz⟩ := lookF_some hM h
  have h1 := joinN_lt u z
  have h2 : pageAt z va < 4294967296 := by unfold pageAt; omega
  have h3 : tabAt u va < 4294967296 := by unfold tabAt; omega
  have h4 : dirAt root va < 4294967296 := by unfold dirAt; omega
  unfold wayOf
  simp only
  omega
end Go.Proofs.YtnignfloedcmlaaGreatDoor
namespace Go.Proofs.YtnignfloedcmlaaGreatDoor
open Go.RowKit Go.WideShapes Go.ChangeShapes Go.ChangeAt
set_option linter.unusedVariables false
end Go.Proofs.YtnignfloedcmlaaGreatDoor
namespace Go.Proofs.YtnignfloedcmlaaGreatDoor
open Go.RowKit Go.WideShapes Go.ChangeShapes Go.ChangeAt
set_option linter.unusedVariables false
theorem u8_of {a : Int} (h : (Lit.int .u8 a).wf = true) : 0 ≤ a ∧ a < 256 := by
  simp [Lit.wf, IntKind.min, IntKind.max, IntKind.signed, IntKind.bits] at h; omega
end Go.Proofs.YtnignfloedcmlaaGreatDoor
namespace Go.Proofs.YtnignfloedcmlaaGreatDoor
open Go.RowKit
set_option linter.unusedVariables false
set_option linter.unusedSimpArgs false
theorem or16_nat (u : Nat) (h : u / 16 % 2 = 0) : u ||| 16 = u + 16 := by
  obtain ⟨q, r, hr, rfl⟩ : ∃ q r, r < 16 ∧ u = 2 ^ 5 * q + r := ⟨u / 32, u % 32, by omega, by omega⟩
  have h1 : ∀ r < 16, r ||| 16 = r + 16 := by decide
  rw [Nat.two_pow_add_eq_or_of_lt (i := 5) (by omega) q, Nat.or_assoc, h1 r hr, ← Nat.two_pow_add_eq_or_of_lt (i := 5) (by omega) q, ← Nat.two_pow_add_eq_or_of_lt (i := 5) (by omega) q]
  omega
theorem or16 (u : Nat) (hu : u < 4294967296) (h : u / 16 % 2 = 0) : bits .or .u32 (u : Int) 16 = ((u + 16 : Nat) : Int) := by
  rw [show (16 : Int) = ((16 : Nat) : Int) from rfl, u32_or_nat u 16 hu (by decide), or16_nat u h]
def soilW (u : Option Nat) : Option Nat := match u with
  | none => none
  | some u => if u / 16 % 2 = 0 then some (u + 16) else none
def soilOk (B : List Int) (ix : List Nat) (a : Nat) : Bool := (soilW (wdF B ix a)).isSome
def soilL (B : List Int) (ix : List Nat) (a : Nat) : List Int := match soilW (wdF B ix a) with
  | none => B
  | some z => setW B (pos ix a) z
theorem soilL_len (B : List Int) (ix : List Nat) (a : Nat) : (soilL B ix a).length = B.length := by
  unfold soilL
  split
  · rfl
  · exact setW_len _ _ _
theorem soilL_byts {B : List Int} (h : Byts B) (ix : List Nat) (a : Nat) : Byts (soilL B ix a) := by
  unfold soilL
  split
  · exact h
  · exact h.setW _ _
set_option maxHeartbeats 4000000 in
theorem soil_any {w : World} {v : Value} {R : Nat} {ix : List Nat} {B : List Int} (h : Ram w v R ix) (hix : (ix.length : Int) ≤ 512) (hB : RowB w R B) (hf : Fits B ix) (hb : Byts B) (a : Nat) (ha : a < 4294967296) :
    Calls Tryz.prog 116 #[v, .int .u32 a] w fun e w' => e = .returned (.bool (soilOk B ix a)) ∧ Put [R] w w' ∧ RowB w' R (soilL B ix a) := by
  have H := wordIs_ram h hix hB hf hb a ha w (Kep.refl _)
  have hB' : Hid (RowB w R B) := hB
  unfold soilOk soilL
  rcases hu : wdF B ix a with _ | u
  · rw [hu] at H
    have H' : Hid (Calls Tryz.prog 137 #[v, .int .u32 a] w fun e w'' => e = .returned (.tuple #[.int .u32 0, .bool false]) ∧ w'' = w) := H
    clear H h hf hB hu
    go_enter Tryz.func116, Tryz.ntmps116
    go_wp2_with (go_at_call 137; refine H'.out.mono ?_; rintro e w1 ⟨rfl, rfl⟩)
    go_ret
    exact ⟨rfl, Put.refl _, hB'.out⟩
  · rw [hu] at H
    have H' : Hid (Calls Tryz.prog 137 #[v, .int .u32 a] w fun e w'' => e = .returned (.tuple #[.int .u32 u, .bool true]) ∧ w'' = w) := H
    have hlt := wdF_lt hb a u hu
    have h16 := wand16 u hlt
    have hok : a % 4 = 0 ∧ a < 64 * ix.length := by
      unfold wdF at hu
      split at hu
      · assumption
      · cases hu
    by_cases hd : u / 16 % 2 = 0
    · have hs := setWord_put w v R ix B h hix hB hf a (by omega) ((u + 16 : Nat) : Int) (by omega) (by omega)
      rw [if_pos hok, decide_eq_true hok] at hs
      have hs' : Hid (Calls Tryz.prog 141 #[v, .int .u32 a, .int .u32 ((u + 16 : Nat) : Int)] w fun e w' => e = .returned (.bool true) ∧ Put [R] w w' ∧ RowB w' R (setW B (pos ix a) ((u + 16 : Nat) : Int))) := hs
      have e1 : bits .and .u32 (u : Int) 16 = 0 := by rw [h16, hd]; rfl
      have e2 := or16 u hlt hd
      have e3 : soilW (some u) = some (u + 16) := by unfold soilW; simp [hd]
      rw [e3]
      generalize u + 16 = z at hs' e2 ⊢
      clear H h hf hB hu h16 hs hok e3
      go_enter Tryz.func116, Tryz.ntmps116
      go_wp2_with fail
      refine H'.out.mono ?_
      rintro e w1 ⟨rfl, hw1⟩
      subst hw1
      go_wp2_with fail
      refine hs'.out.mono ?_
      rintro e w2 ⟨rfl, P1, R1⟩
      have P1' : Hid (Put [R] w1 w2 ∧ RowB w2 R (setW B (pos ix a) (z : Int))) := ⟨P1, R1⟩
      clear P1 R1
      go_wp2_with fail
      go_ret
      exact ⟨rfl, P1'.out.1, P1'.out.2⟩
    · have e1 : bits .and .u32 (u : Int) 16 = 16 := by rw [h16, show u / 16 % 2 = 1 by omega]; rfl
      have e3 : soilW (some u) = none := by unfold soilW; simp [hd]
      rw [e3]
      clear H h hf hB hu h16 hok
      go_enter Tryz.func116, Tryz.ntmps116
      go_wp2_with (go_at_call 137; refine H'.out.mono ?_; rintro e w1 ⟨rfl, rfl⟩)
      go_ret
      exact ⟨rfl, Put.refl _, hB'.out⟩
end Go.Proofs.YtnignfloedcmlaaGreatDoor
