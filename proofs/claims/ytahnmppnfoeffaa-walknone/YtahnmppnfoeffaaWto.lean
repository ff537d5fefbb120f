/- Where an access leads; an entry that is soiled. -/
import Derived.Test.YtahnmppnfoeffaaWmay
namespace Go.Proofs.Ytahnmppnfoeffaa
open Go.RowKit
set_option linter.unusedVariables false

theorem straight_any (w : World) (v : Value) (s : Nat) (va : Nat) (ha : (va : Int) < 4294967296) (hS : WithinIs w v va (decide (va < s))) :
    Calls Try.prog 32 #[v, .int .u32 va] w fun e w' => e = .returned (.tuple #[.agg (wayV 7 va 0 0 0 0), .bool (decide (va < s))]) ∧ Kep w w' := by
  have H : Hid (WithinIs w v va (decide (va < s))) := hS
  clear hS
  generalize decide (va < s) = b at *
  go_enter Try.func32, Try.ntmps32
  go_wp2_with (go_at_call 25; refine (H.out _ ((Kep.refl _).alloc _)).mono ?_; rintro e w1 ⟨rfl, rfl⟩)
  refine bodyPost_ret (resultsC1 rfl _ _ w.heap.size 32 (wayV 7 va 0 0 0 0) (0, 0) _ rfl (hat _ _ _ rfl) Try.underlying32 rfl size_way) rfl ⟨rfl, (Kep.refl _).alloc _⟩

theorem way_one (b a e d t p : Int) : (wayV b a e d t p).all (·.oneCell') = true := by simp [Value.oneCell']
theorem way_cells {w : World} {g : Nat} {b a e d t p : Int} (h : w.heap[g]? = some (.cells (wayV b a e d t p) 32 (0, 0))) :
    w.cell? ⟨g, 0, none⟩ = some (.int .u32 b) ∧ w.cell? ⟨g, 1, none⟩ = some (.int .u32 a) ∧ w.cell? ⟨g, 2, none⟩ = some (.int .u32 e) ∧ w.cell? ⟨g, 3, none⟩ = some (.int .i64 d) ∧ w.cell? ⟨g, 4, none⟩ = some (.int .i64 t) ∧ w.cell? ⟨g, 5, none⟩ = some (.int .i64 p) ∧ ∀ k, w.frozen? ⟨g, k, none⟩ = false :=
  ⟨cell_of_block h, cell_of_block h, cell_of_block h, cell_of_block h, cell_of_block h, cell_of_block h, fun k => by simp [World.frozen?, h]⟩
/-- What To answers. -/
def toR : Option Nat → Array Value
  | none => #[.int .u32 0, .bool false]
  | some a => #[.int .u32 a, .bool true]
def toW (kind : Int) (user : Bool) : Option Wy → Option Nat
  | none => none
  | some y => if wmayB y.bits kind user then some y.at_ else none
def toF (M : Nat → Option Nat) (s root : Nat) (dirs : Int) (ps va : Nat) (kind : Int) : Option Nat :=
  if ps / 4 % 2 = 1 then toW kind (ps % 2 == 1) (lookF M s root dirs va)
  else if va < s ∧ 1 ≤ kind ∧ kind ≤ 3 then some va else none

set_option maxHeartbeats 4000000 in
set_option maxRecDepth 100000 in
theorem to_page (w : World) (v : Value) (root : Nat) (dirs : Int) (ps va : Nat) (kind : Int) (hp : ps < 4294967296) (b : Bool) (r : Option Wy) (h4 : ps / 4 % 2 = 1)
    (hs : Calls Try.prog 32 #[v, .int .u32 va] w fun e w' => e = .returned (.tuple #[.agg (wayV 7 va 0 0 0 0), .bool b]) ∧ Kep w w')
    (hl : ∀ w', Kep w w' → Calls Try.prog 10 #[v, .int .u32 root, .int .i64 dirs, .int .u32 va] w' fun e w'' => e = .returned (.tuple (wyR r)) ∧ Kep w' w'')
    (hr : ∀ y, r = some y → y.bits < 4294967296) :
    Calls Try.prog 15 #[v, .int .u32 root, .int .i64 dirs, .int .u32 ps, .int .u32 va, .int .i64 kind] w fun e w' => e = .returned (.tuple (toR (toW kind (ps % 2 == 1) r))) ∧ Kep w w' := by
  have a4 : bits .and .u32 (ps : Int) 4 = 4 := by rw [and4 ps hp, h4]; rfl
  have a1 : (bits .and .u32 (ps : Int) 1 != 0) = (ps % 2 == 1) := by
    rw [and1 ps hp, Bool.eq_iff_iff]; simp; omega
  generalize (ps % 2 == 1) = us at *
  have hs' : Hid (Calls Try.prog 32 #[v, .int .u32 va] w fun e w' => e = .returned (.tuple #[.agg (wayV 7 va 0 0 0 0), .bool b]) ∧ Kep w w') := hs
  clear hs
  rcases r with _ | y
  · have hl' : Hid (∀ w', Kep w w' → Calls Try.prog 10 #[v, .int .u32 root, .int .i64 dirs, .int .u32 va] w' fun e w'' => e = .returned (.tuple #[.agg (wayV 0 0 0 0 0 0), .bool false]) ∧ Kep w' w'') := hl
    clear hl hr
    go_enter Try.func15, Try.ntmps15
    go_wp2_with fail
    refine hs'.out.mono ?_
    rintro e w1 ⟨rfl, k1⟩
    have K1 : Hid (Kep w w1) := k1
    clear k1 hs'
    go_wp2_with fail
    refine (hl'.out _ (K1.out.alloc _)).mono ?_
    rintro e w2 ⟨rfl, k2⟩
    have K2 : Hid (Kep w w2) := kep_trans (K1.out.alloc _) k2
    obtain ⟨c0, c1, c2, c3, c4, c5, fz⟩ := way_cells (k2.block (hat _ _ _ rfl))
    have ge : Hid (w.heap.size ≤ w1.heap.size) := K1.out.size
    clear k2 hl'
    go_wp2_with fail
    go_ret2
    exact ⟨rfl, (((((K2.out.setCell ge.out _).setCell ge.out _).setCell ge.out _).setCell ge.out _).setCell ge.out _).setCell ge.out _⟩
  · obtain ⟨yb, ya, ye, yd, yt, yp⟩ := y
    have hl' : Hid (∀ w', Kep w w' → Calls Try.prog 10 #[v, .int .u32 root, .int .i64 dirs, .int .u32 va] w' fun e w'' => e = .returned (.tuple #[.agg (wayV yb ya ye yd yt yp), .bool true]) ∧ Kep w' w'') := hl
    have hm : Hid (∀ w, Calls Try.prog 13 #[.int .u32 yb, .int .i64 kind, .bool us] w fun e w' => e = .returned (.bool (wmayB yb kind us)) ∧ w' = w) := fun w => wmay_any w yb (hr _ rfl) kind us
    have ht : toW kind us (some ⟨yb, ya, ye, yd, yt, yp⟩) = if wmayB yb kind us then some ya else none := rfl
    rw [ht]
    clear hl hr ht
    generalize wmayB yb kind us = m at hm
    cases m
    all_goals
      go_enter Try.func15, Try.ntmps15
      go_wp2_with fail
      refine hs'.out.mono ?_
      rintro e w1 ⟨rfl, k1⟩
      have K1 : Hid (Kep w w1) := k1
      clear k1 hs'
      go_wp2_with fail
      refine (hl'.out _ (K1.out.alloc _)).mono ?_
      rintro e w2 ⟨rfl, k2⟩
      have K2 : Hid (Kep w w2) := kep_trans (K1.out.alloc _) k2
      obtain ⟨c0, c1, c2, c3, c4, c5, fz⟩ := way_cells (k2.block (hat _ _ _ rfl))
      have ge : Hid (w.heap.size ≤ w1.heap.size) := K1.out.size
      clear k2 hl'
      go_wp2_with (go_at_call 13; refine (hm.out _).mono ?_; rintro e w3 ⟨rfl, rfl⟩)
      go_ret2
      exact ⟨rfl, (((((K2.out.setCell ge.out _).setCell ge.out _).setCell ge.out _).setCell ge.out _).setCell ge.out _).setCell ge.out _⟩

set_option maxHeartbeats 4000000 in
set_option maxRecDepth 100000 in
theorem to_flat (w : World) (v : Value) (root : Nat) (dirs : Int) (ps va : Nat) (kind : Int) (hp : ps < 4294967296) (b : Bool) (h4 : ps / 4 % 2 = 0)
    (hs : Calls Try.prog 32 #[v, .int .u32 va] w fun e w' => e = .returned (.tuple #[.agg (wayV 7 va 0 0 0 0), .bool b]) ∧ Kep w w') :
    Calls Try.prog 15 #[v, .int .u32 root, .int .i64 dirs, .int .u32 ps, .int .u32 va, .int .i64 kind] w fun e w' => e = .returned (.tuple (toR (if b = true ∧ 1 ≤ kind ∧ kind ≤ 3 then some va else none))) ∧ Kep w w' := by
  have a4 : bits .and .u32 (ps : Int) 4 = 0 := by rw [and4 ps hp, h4]; rfl
  have a1 : (bits .and .u32 (ps : Int) 1 != 0) = (ps % 2 == 1) := by
    rw [and1 ps hp, Bool.eq_iff_iff]; simp; omega
  have h7 : ∀ us, wmayB 7 kind us = decide (1 ≤ kind ∧ kind ≤ 3) := by
    intro us
    unfold wmayB
    by_cases k1 : kind = 1
    · subst k1; cases us <;> rfl
    rw [if_neg k1]
    by_cases k2 : kind = 2
    · subst k2; cases us <;> rfl
    rw [if_neg k2]
    by_cases k3 : kind = 3
    · subst k3; cases us <;> rfl
    rw [if_neg k3]
    symm
    rw [decide_eq_false_iff_not]
    omega
  have hm : Hid (∀ w us, Calls Try.prog 13 #[.int .u32 7, .int .i64 kind, .bool us] w fun e w' => e = .returned (.bool (decide (1 ≤ kind ∧ kind ≤ 3))) ∧ w' = w) := fun w us => by
    rw [← h7 us]; exact wmay_any w 7 (by decide) kind us
  clear h7
  generalize (ps % 2 == 1) = us at *
  have hs' : Hid (Calls Try.prog 32 #[v, .int .u32 va] w fun e w' => e = .returned (.tuple #[.agg (wayV 7 va 0 0 0 0), .bool b]) ∧ Kep w w') := hs
  clear hs
  by_cases hk : 1 ≤ kind ∧ kind ≤ 3
  · rw [decide_eq_true hk] at hm
    have hb : (if b = true ∧ 1 ≤ kind ∧ kind ≤ 3 then some va else none) = bif b then some va else none := by cases b <;> simp [hk]
    rw [hb]
    clear hk hb
    cases b
    all_goals
      go_enter Try.func15, Try.ntmps15
      go_wp2_with fail
      refine hs'.out.mono ?_
      rintro e w1 ⟨rfl, k1⟩
      have K1 : Hid (Kep w w1) := k1
      clear k1 hs'
      go_wp2_with (go_at_call 13; refine (hm.out _ _).mono ?_; rintro e w3 ⟨rfl, rfl⟩)
      go_ret2
      exact ⟨rfl, K1.out.alloc _⟩
  · rw [decide_eq_false hk] at hm
    rw [if_neg (fun h => hk h.2)]
    clear hk
    cases b
    all_goals
      go_enter Try.func15, Try.ntmps15
      go_wp2_with fail
      refine hs'.out.mono ?_
      rintro e w1 ⟨rfl, k1⟩
      have K1 : Hid (Kep w w1) := k1
      clear k1 hs'
      go_wp2_with (go_at_call 13; refine (hm.out _ _).mono ?_; rintro e w3 ⟨rfl, rfl⟩)
      go_ret2
      exact ⟨rfl, K1.out.alloc _⟩

theorem joinN_lt (x y : Nat) : joinN x y < 32 := by
  have : ∀ r < 32, ∀ s < 32, joinN r s < 32 := by decide +kernel
  rw [← joinN_mod]
  exact this _ (Nat.mod_lt _ (by decide)) _ (Nat.mod_lt _ (by decide))
theorem lookF_bits {M : Nat → Option Nat} {s root : Nat} {dirs : Int} {va : Nat} {y : Wy} (h : lookF M s root dirs va = some y) : y.bits < 32 := by
  unfold lookF at h
  split at h
  · unfold look1 at h
    split at h
    · cases h
    · split at h
      · cases h
      · unfold look2 at h
        split at h
        · cases h
        · split at h
          · cases h
          · unfold look3 at h
            split at h
            · simp only [Option.some.injEq] at h
              subst h
              exact joinN_lt _ _
            · cases h
  · cases h
theorem to_any (w : World) (v : Value) (M : Nat → Option Nat) (s : Nat) (root : Nat) (dirs : Int) (ps va : Nat) (kind : Int) (hr : (root : Int) < 4294967296) (hp : ps < 4294967296) (ha : (va : Int) < 4294967296)
    (hM : ∀ a x, M a = some x → x < 4294967296) (hW : ∀ a, a < 4294967296 → WordIs w v a (M a)) (hS : ∀ a, a < 4294967296 → WithinIs w v a (decide (a < s))) :
    Calls Try.prog 15 #[v, .int .u32 root, .int .i64 dirs, .int .u32 ps, .int .u32 va, .int .i64 kind] w fun e w' => e = .returned (.tuple (toR (toF M s root dirs ps va kind))) ∧ Kep w w' := by
  have hs := straight_any w v s va ha (hS va (by omega))
  unfold toF
  by_cases h4 : ps / 4 % 2 = 1
  · rw [if_pos h4]
    refine to_page w v root dirs ps va kind hp _ _ h4 hs (fun w' k => ?_) (fun y hy => by have := lookF_bits hy; omega)
    exact look_any w' v M s root dirs va hr ha hM (fun a ha w2 k2 => hW a ha w2 (kep_trans k k2)) (fun a ha w2 k2 => hS a ha w2 (kep_trans k k2))
  · rw [if_neg h4]
    have := to_flat w v root dirs ps va kind hp _ (by omega) hs
    simpa using this
theorem to_ram {w : World} {v : Value} {R : Nat} {ix : List Nat} {B : List Int} (h : Ram w v R ix) (hix : (ix.length : Int) ≤ 512) (hB : RowB w R B) (hf : Fits B ix) (hb : Byts B) (root : Nat) (dirs : Int) (ps va : Nat) (kind : Int) (hr : (root : Int) < 4294967296) (hp : ps < 4294967296) (ha : (va : Int) < 4294967296) :
    Calls Try.prog 15 #[v, .int .u32 root, .int .i64 dirs, .int .u32 ps, .int .u32 va, .int .i64 kind] w fun e w' => e = .returned (.tuple (toR (toF (wdF B ix) (64 * ix.length) root dirs ps va kind))) ∧ Kep w w' :=
  to_any w v _ _ root dirs ps va kind hr hp ha (fun a x => wdF_lt hb a x) (fun a ha => wordIs_ram h hix hB hf hb a ha) (fun a ha => withinIs_ram h hix a ha)
end Go.Proofs.Ytahnmppnfoeffaa
