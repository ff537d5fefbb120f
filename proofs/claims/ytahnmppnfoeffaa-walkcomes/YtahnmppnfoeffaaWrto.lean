/- The document's Look, May and To. -/
import Derived.Test.YtahnmppnfoeffaaWrall
namespace Go.Proofs.Ytahnmppnfoeffaa
open Go.RowKit
set_option linter.unusedVariables false

/-- The document's word at an address. -/
def wdD (B : List Int) (a : Nat) : Option Nat := if a % 4 = 0 ∧ a < B.length then some (wordAt B a).toNat else none
theorem wdD_lt {B : List Int} (h : Byts B) (a x : Nat) (hx : wdD B a = some x) : x < 4294967296 := by
  unfold wdD at hx
  split at hx
  · have := wordAt_range h a
    simp at hx; omega
  · cases hx
theorem wdD_range {B : List Int} {n : Nat} (h : B.length = 64 * n) (a : Nat) : wdF B (List.range n) a = wdD B a := by
  unfold wdF wdD
  rw [List.length_range, h]
  by_cases hc : a % 4 = 0 ∧ a < 64 * n
  · rw [if_pos hc, if_pos hc, pos_range hc.2]
  · rw [if_neg hc, if_neg hc]
theorem rwordIs_ref {w : World} {x : Option Addr} {Rb : Nat} {B : List Int} (h : Refd w x Rb B) (hb : Byts B) (h4 : B.length % 4 = 0) (a : Nat) (ha : a < 4294967296) : RWordIs w x B.length a (wdD B a) := by
  intro w' k
  refine (refWord_any w' x Rb B (h.kep k) hb h4 a (by omega)).mono ?_
  rintro e w'' ⟨rfl, k2⟩
  refine ⟨?_, k2⟩
  unfold wdD
  split
  · have := wordAt_range hb a
    simp only [wdR]
    rw [Int.toNat_of_nonneg this.1]
  · rfl
theorem rbyteIs_ref {w : World} {x : Option Addr} {Rb : Nat} {B : List Int} (h : Refd w x Rb B) (a : Nat) (ha : a < 4294967296) : RByteIs w x B.length a (decide (a < B.length)) := by
  intro w' k
  refine (refByte_any w' x Rb B (h.kep k) a (by omega)).mono ?_
  rintro e w'' ⟨rfl, k2⟩
  by_cases hc : a < B.length
  · rw [if_pos hc, decide_eq_true hc]; exact ⟨_, rfl, k2⟩
  · rw [if_neg hc, decide_eq_false hc]; exact ⟨_, rfl, k2⟩

theorem rlook_any (w : World) (p : Option Addr) (n : Nat) (M : Nat → Option Nat) (s : Nat) (root : Nat) (dirs : Int) (va : Nat) (hr : (root : Int) < 4294967296) (ha : (va : Int) < 4294967296)
    (hM : ∀ a x, M a = some x → x < 4294967296) (hW : ∀ a, a < 4294967296 → RWordIs w p n a (M a)) (hS : ∀ a, a < 4294967296 → RByteIs w p n a (decide (a < s))) :
    Calls Try.prog 11 #[refV p n, .int .u32 root, .int .i64 dirs, .int .u32 va] w fun e w' => e = .returned (.tuple (wyR (lookF M s root dirs va))) ∧ Kep w w' := by
  unfold lookF
  by_cases hd : ((va / 1024 : Nat) : Int) < dirs
  · rw [if_pos hd]
    have h1 := hW (dirAt root va) (by unfold dirAt; omega)
    rcases hx : M (dirAt root va) with _ | x
    · rw [hx] at h1
      exact rlook_b0 w p n root dirs va hr ha hd h1
    · rw [hx] at h1
      have hx0 := hM _ _ hx
      unfold look1
      simp only
      by_cases hx2 : x % 2 = 0
      · rw [if_pos hx2]
        exact rlook_b1 w p n root dirs va hr ha hd x (by omega) hx2 h1
      · rw [if_neg hx2]
        have h2 := hW (tabAt x va) (by unfold tabAt; omega)
        rcases hy : M (tabAt x va) with _ | y
        · rw [hy] at h2
          exact rlook_c0 w p n root dirs va hr ha hd x (by omega) (by omega) h1 h2
        · rw [hy] at h2
          have hy0 := hM _ _ hy
          unfold look2
          simp only
          by_cases hy2 : y % 2 = 0
          · rw [if_pos hy2]
            exact rlook_c1 w p n root dirs va hr ha hd x (by omega) (by omega) y (by omega) hy2 h1 h2
          · rw [if_neg hy2]
            have h3 := hS (pageAt y va) (by unfold pageAt; omega)
            unfold look3
            by_cases hp : pageAt y va < s
            · rw [if_pos hp]
              rw [decide_eq_true hp] at h3
              exact rlook_all w p n root dirs va hr ha hd x (by omega) (by omega) y (by omega) (by omega) h1 h2 h3
            · rw [if_neg hp]
              rw [decide_eq_false hp] at h3
              exact rlook_d w p n root dirs va hr ha hd x (by omega) (by omega) y (by omega) (by omega) h1 h2 h3
  · rw [if_neg hd]
    exact rlook_dirs w p n root dirs va ha (by omega)

theorem rlook_ref {w : World} {x : Option Addr} {Rb : Nat} {B : List Int} (h : Refd w x Rb B) (hb : Byts B) (h4 : B.length % 4 = 0) (root : Nat) (dirs : Int) (va : Nat) (hr : (root : Int) < 4294967296) (ha : (va : Int) < 4294967296) :
    Calls Try.prog 11 #[refV x B.length, .int .u32 root, .int .i64 dirs, .int .u32 va] w fun e w' => e = .returned (.tuple (wyR (lookF (wdD B) B.length root dirs va))) ∧ Kep w w' :=
  rlook_any w x B.length _ _ root dirs va hr ha (fun a x => wdD_lt hb a x) (fun a ha => rwordIs_ref h hb h4 a ha) (fun a ha => rbyteIs_ref h a ha)

theorem rhasI_any (w : World) (x : Nat) (t : Int) (hx : (x : Int) < 4294967296) (h0 : 0 < t) (h1 : t < 4294967296) :
    Calls Try.prog 30 #[.int .u32 x, .int .u32 t] w fun e w' => e = .returned (.bool ((x : Int) / t % 2 == 1)) ∧ w' = w := by
  obtain ⟨b, rfl⟩ : ∃ b : Nat, t = b := ⟨t.toNat, by omega⟩
  refine (rhas_any w x b hx h0 h1).mono ?_
  rintro e w' ⟨rfl, rfl⟩
  refine ⟨ret_bool ?_, rfl⟩
  rw [← Int.natCast_ediv, Bool.eq_iff_iff]
  generalize x / b = q
  simp
  omega

set_option maxHeartbeats 4000000 in
set_option maxRecDepth 100000 in
theorem rmay_any (w : World) (x : Nat) (hx : (x : Int) < 4294967296) (kind : Int) (user : Bool) :
    Calls Try.prog 14 #[.int .u32 x, .int .i64 kind, .bool user] w fun e w' => e = .returned (.bool (wmayB x kind user)) ∧ w' = w := by
  have HH : Hid (∀ w (t : Int), 0 < t → t < 4294967296 → Calls Try.prog 30 #[.int .u32 x, .int .u32 t] w fun e w' => e = .returned (.bool ((x : Int) / t % 2 == 1)) ∧ w' = w) := fun w t => rhasI_any w x t hx
  have q0 : ((x : Int) / 1 % 2 == 1) = (x % 2 == 1) := by rw [Bool.eq_iff_iff]; simp; omega
  have q1 : ((x : Int) % 2 == 1) = (x % 2 == 1) := by rw [Bool.eq_iff_iff]; simp; omega
  have q2 : ((x : Int) / 2 % 2 == 1) = (x / 2 % 2 == 1) := by rw [Bool.eq_iff_iff]; simp; omega
  have q4 : ((x : Int) / 4 % 2 == 1) = (x / 4 % 2 == 1) := by rw [Bool.eq_iff_iff]; simp; omega
  have q8 : ((x : Int) / 8 % 2 == 1) = !(x / 8 % 2 == 0) := by rw [Bool.eq_iff_iff]; simp; omega
  unfold wmayB
  generalize (x % 2 == 1) = b1 at *
  generalize (x / 4 % 2 == 1) = b4 at *
  generalize (x / 2 % 2 == 1) = b2 at *
  generalize (x / 8 % 2 == 0) = b8 at *
  clear hx
  by_cases k1 : kind = 1
  · subst k1
    rw [if_pos rfl]
    clear q2 q8
    cases user <;> cases b1 <;> cases b4 <;> (
      go_enter Try.func14, Try.ntmps14
      go_wp2_with (go_at_call 30; refine (HH.out _ _ (by decide) (by decide)).mono ?_; rintro e w1 ⟨rfl, rfl⟩)
      go_ret
      exact ⟨rfl, rfl⟩)
  rw [if_neg k1]
  by_cases k2 : kind = 2
  · subst k2
    rw [if_pos rfl]
    clear q2
    cases user <;> cases b1 <;> cases b4 <;> cases b8 <;> (
      go_enter Try.func14, Try.ntmps14
      go_wp2_with (go_at_call 30; refine (HH.out _ _ (by decide) (by decide)).mono ?_; rintro e w1 ⟨rfl, rfl⟩)
      go_ret
      exact ⟨rfl, rfl⟩)
  rw [if_neg k2]
  by_cases k3 : kind = 3
  · subst k3
    rw [if_pos rfl]
    cases user <;> cases b1 <;> cases b4 <;> cases b2 <;> cases b8 <;> (
      go_enter Try.func14, Try.ntmps14
      go_wp2_with (go_at_call 30; refine (HH.out _ _ (by decide) (by decide)).mono ?_; rintro e w1 ⟨rfl, rfl⟩)
      go_ret
      exact ⟨rfl, rfl⟩)
  rw [if_neg k3]
  clear q0 q1 q2 q4 q8 HH
  rcases (by omega : kind < 1 ∨ (1 ≤ kind ∧ 3 < kind)) with h | ⟨h, h'⟩
  · have g1 : decide (kind < 1) = true := decide_eq_true h
    go_enter Try.func14, Try.ntmps14
    go_wp2_with fail
    go_ret
    exact ⟨rfl, rfl⟩
  · have g1 : decide (kind < 1) = false := decide_eq_false (by omega)
    have g2 : decide (3 < kind) = true := decide_eq_true h'
    go_enter Try.func14, Try.ntmps14
    go_wp2_with fail
    go_ret
    exact ⟨rfl, rfl⟩

theorem wmayB_kind {x : Nat} {kind : Int} {user : Bool} (h : ¬ (1 ≤ kind ∧ kind ≤ 3)) : wmayB x kind user = false := by
  unfold wmayB
  rw [if_neg (by omega), if_neg (by omega), if_neg (by omega)]
theorem toW_kind {kind : Int} {user : Bool} (h : ¬ (1 ≤ kind ∧ kind ≤ 3)) (r : Option Wy) : toW kind user r = none := by
  rcases r with _ | y
  · rfl
  · unfold toW; simp [wmayB_kind h]
theorem toF_kind {M : Nat → Option Nat} {s root : Nat} {dirs : Int} {ps va : Nat} {kind : Int} (h : ¬ (1 ≤ kind ∧ kind ≤ 3)) : toF M s root dirs ps va kind = none := by
  unfold toF
  split
  · exact toW_kind h _
  · rw [if_neg (fun h' => h h'.2)]
end Go.Proofs.Ytahnmppnfoeffaa
