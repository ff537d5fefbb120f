/- The document's To: where an access leads. -/
import Derived.Test.YtahnmppnfoeffaaWrto
namespace Go.Proofs.Ytahnmppnfoeffaa
open Go.RowKit
set_option linter.unusedVariables false

theorem rto_kind (w : World) (p : Option Addr) (n root : Nat) (dirs : Int) (ps va : Nat) (kind : Int) (h : ¬ (1 ≤ kind ∧ kind ≤ 3)) :
    Calls Try.prog 16 #[refV p n, .int .u32 root, .int .i64 dirs, .int .u32 ps, .int .u32 va, .int .i64 kind] w fun e w' => e = .returned (.tuple (toR none)) ∧ Kep w w' := by
  rcases (by omega : kind < 1 ∨ (1 ≤ kind ∧ 3 < kind)) with h | ⟨h, h'⟩
  · have g1 : decide (kind < 1) = true := decide_eq_true h
    go_enter Try.func16, Try.ntmps16
    go_wp2_with fail
    go_ret2
    exact ⟨rfl, (Kep.refl _).alloc _⟩
  · have g1 : decide (kind < 1) = false := decide_eq_false (by omega)
    have g2 : decide (3 < kind) = true := decide_eq_true h'
    go_enter Try.func16, Try.ntmps16
    go_wp2_with fail
    go_ret2
    exact ⟨rfl, (Kep.refl _).alloc _⟩

set_option maxHeartbeats 4000000 in
set_option maxRecDepth 100000 in
theorem rto_flat (w : World) (p : Option Addr) (n root : Nat) (dirs : Int) (ps va : Nat) (kind : Int) (h1 : 1 ≤ kind) (h3 : kind ≤ 3) (hp : (ps : Int) < 4294967296) (b : Bool) (h4 : ps / 4 % 2 = 0) (hb : RByteIs w p n va b) :
    Calls Try.prog 16 #[refV p n, .int .u32 root, .int .i64 dirs, .int .u32 ps, .int .u32 va, .int .i64 kind] w fun e w' => e = .returned (.tuple (toR (bif b then some va else none))) ∧ Kep w w' := by
  have HH : Hid (∀ w, Calls Try.prog 30 #[.int .u32 ps, .int .u32 4] w fun e w' => e = .returned (.bool false) ∧ w' = w) := fun w => by
    have := rhas_any w ps 4 hp (by decide) (by decide)
    rw [h4] at this
    exact this
  have g1 : decide (kind < 1) = false := decide_eq_false (by omega)
  have g2 : decide (3 < kind) = false := decide_eq_false (by omega)
  have HB : Hid (∀ w', Kep w w' → Calls Try.prog 29 #[.agg #[.slice p n n], .int .u32 va] w' fun e w'' => ∃ z : Int, e = .returned (.tuple #[.int .u8 z, .bool b]) ∧ Kep w' w'') := hb
  clear hb h4 h1 h3 hp
  cases b
  all_goals
    go_enter Try.func16, Try.ntmps16
    go_wp2_with fail
    refine (HH.out _).mono ?_
    rintro e w1 ⟨rfl, rfl⟩
    go_wp2_with fail
    refine (HB.out _ ((Kep.refl _).alloc _)).mono ?_
    rintro e w2 ⟨z, rfl, k2⟩
    have K2 : Hid (Kep w w2) := kep_trans ((Kep.refl _).alloc _) k2
    clear k2
    go_wp2_with fail
    go_ret2
    exact ⟨rfl, K2.out⟩

set_option maxHeartbeats 4000000 in
set_option maxRecDepth 100000 in
theorem rto_page (w : World) (p : Option Addr) (n root : Nat) (dirs : Int) (ps va : Nat) (kind : Int) (h1 : 1 ≤ kind) (h3 : kind ≤ 3) (hp : (ps : Int) < 4294967296) (r : Option Wy) (h4 : ps / 4 % 2 = 1)
    (hl : ∀ w', Kep w w' → Calls Try.prog 11 #[refV p n, .int .u32 root, .int .i64 dirs, .int .u32 va] w' fun e w'' => e = .returned (.tuple (wyR r)) ∧ Kep w' w'')
    (hr : ∀ y, r = some y → y.bits < 32) :
    Calls Try.prog 16 #[refV p n, .int .u32 root, .int .i64 dirs, .int .u32 ps, .int .u32 va, .int .i64 kind] w fun e w' => e = .returned (.tuple (toR (toW kind (ps % 2 == 1) r))) ∧ Kep w w' := by
  have HH : Hid (∀ w, Calls Try.prog 30 #[.int .u32 ps, .int .u32 4] w fun e w' => e = .returned (.bool true) ∧ w' = w) := fun w => by
    have := rhas_any w ps 4 hp (by decide) (by decide)
    rw [h4] at this
    exact this
  have H1 : Hid (∀ w, Calls Try.prog 30 #[.int .u32 ps, .int .u32 1] w fun e w' => e = .returned (.bool (ps % 2 == 1)) ∧ w' = w) := fun w => by
    have := rhas_any w ps 1 hp (by decide) (by decide)
    rw [Nat.div_one] at this
    exact this
  have g1 : decide (kind < 1) = false := decide_eq_false (by omega)
  have g2 : decide (3 < kind) = false := decide_eq_false (by omega)
  generalize (ps % 2 == 1) = us at *
  clear h4 h1 h3 hp
  rcases r with _ | y
  · have HL : Hid (∀ w', Kep w w' → Calls Try.prog 11 #[.agg #[.slice p n n], .int .u32 root, .int .i64 dirs, .int .u32 va] w' fun e w'' => e = .returned (.tuple #[.agg (wayV 0 0 0 0 0 0), .bool false]) ∧ Kep w' w'') := hl
    clear hl hr
    go_enter Try.func16, Try.ntmps16
    go_wp2_with fail
    refine (HH.out _).mono ?_
    rintro e w1 ⟨rfl, rfl⟩
    go_wp2_with fail
    refine (HL.out _ ((Kep.refl _).alloc _)).mono ?_
    rintro e w2 ⟨rfl, k2⟩
    have K2 : Hid (Kep w w2) := kep_trans ((Kep.refl _).alloc _) k2
    clear k2
    go_wp2_with fail
    go_quiet (fail)
    go_wp2_with fail
    go_ret2
    exact ⟨rfl, (K2.out.alloc _).drewN _⟩
  · obtain ⟨yb, ya, ye, yd, yt, yp⟩ := y
    have HL : Hid (∀ w', Kep w w' → Calls Try.prog 11 #[.agg #[.slice p n n], .int .u32 root, .int .i64 dirs, .int .u32 va] w' fun e w'' => e = .returned (.tuple #[.agg (wayV yb ya ye yd yt yp), .bool true]) ∧ Kep w' w'') := hl
    have hm : Hid (∀ w, Calls Try.prog 14 #[.int .u32 yb, .int .i64 kind, .bool us] w fun e w' => e = .returned (.bool (wmayB yb kind us)) ∧ w' = w) := fun w => rmay_any w yb (by have := hr _ rfl; simp at this; omega) kind us
    have ht : toW kind us (some ⟨yb, ya, ye, yd, yt, yp⟩) = if wmayB yb kind us then some ya else none := rfl
    rw [ht]
    clear hl hr ht
    generalize wmayB yb kind us = m at hm
    cases m
    all_goals
      go_enter Try.func16, Try.ntmps16
      go_wp2_with fail
      refine (HH.out _).mono ?_
      rintro e w1 ⟨rfl, rfl⟩
      go_wp2_with fail
      refine (HL.out _ ((Kep.refl _).alloc _)).mono ?_
      rintro e w2 ⟨rfl, k2⟩
      have K2 : Hid (Kep w w2) := kep_trans ((Kep.refl _).alloc _) k2
      clear k2 HH
      go_wp2_with fail
      go_quiet (first
        | (go_at_call 30; exact (H1.out _).mono fun _ _ h => ⟨h.1, _, h.2⟩)
        | (go_at_call 14; exact (hm.out _).mono fun _ _ h => ⟨h.1, _, h.2⟩))
      go_wp2_with fail
      go_ret2
      exact ⟨rfl, (K2.out.alloc _).drewN _⟩

theorem rto_any (w : World) (p : Option Addr) (n : Nat) (M : Nat → Option Nat) (s : Nat) (root : Nat) (dirs : Int) (ps va : Nat) (kind : Int) (hr : (root : Int) < 4294967296) (hp : (ps : Int) < 4294967296) (ha : (va : Int) < 4294967296)
    (hM : ∀ a x, M a = some x → x < 4294967296) (hW : ∀ a, a < 4294967296 → RWordIs w p n a (M a)) (hS : ∀ a, a < 4294967296 → RByteIs w p n a (decide (a < s))) :
    Calls Try.prog 16 #[refV p n, .int .u32 root, .int .i64 dirs, .int .u32 ps, .int .u32 va, .int .i64 kind] w fun e w' => e = .returned (.tuple (toR (toF M s root dirs ps va kind))) ∧ Kep w w' := by
  by_cases hk : 1 ≤ kind ∧ kind ≤ 3
  · unfold toF
    by_cases h4 : ps / 4 % 2 = 1
    · rw [if_pos h4]
      refine rto_page w p n root dirs ps va kind hk.1 hk.2 hp _ h4 (fun w' k => ?_) (fun y hy => lookF_bits hy)
      exact rlook_any w' p n M s root dirs va hr ha hM (fun a ha w2 k2 => hW a ha w2 (kep_trans k k2)) (fun a ha w2 k2 => hS a ha w2 (kep_trans k k2))
    · rw [if_neg h4]
      have := rto_flat w p n root dirs ps va kind hk.1 hk.2 hp _ (by omega) (hS va (by omega))
      have e : (if va < s ∧ 1 ≤ kind ∧ kind ≤ 3 then some va else none) = bif decide (va < s) then some va else none := by
        by_cases h : va < s
        · simp [h, hk]
        · simp [h]
      rw [e]
      exact this
  · rw [toF_kind hk]
    exact rto_kind w p n root dirs ps va kind hk
theorem rto_ref {w : World} {x : Option Addr} {Rb : Nat} {B : List Int} (h : Refd w x Rb B) (hb : Byts B) (h4 : B.length % 4 = 0) (root : Nat) (dirs : Int) (ps va : Nat) (kind : Int) (hr : (root : Int) < 4294967296) (hp : (ps : Int) < 4294967296) (ha : (va : Int) < 4294967296) :
    Calls Try.prog 16 #[refV x B.length, .int .u32 root, .int .i64 dirs, .int .u32 ps, .int .u32 va, .int .i64 kind] w fun e w' => e = .returned (.tuple (toR (toF (wdD B) B.length root dirs ps va kind))) ∧ Kep w w' :=
  rto_any w x B.length _ _ root dirs ps va kind hr hp ha (fun a x => wdD_lt hb a x) (fun a ha => rwordIs_ref h hb h4 a ha) (fun a ha => rbyteIs_ref h a ha)
end Go.Proofs.Ytahnmppnfoeffaa
