/- An entry that is soiled; what that changes of a way. -/
import Derived.Test.YtahnmppnfoeffabWpage
import Derived.Test.YtahnmppnfoeffabWworks
namespace Go.Proofs.Ytahnmppnfoeffab
open Go.RowKit
set_option linter.unusedVariables false

theorem or16_nat (u : Nat) (h : u / 16 % 2 = 0) : u ||| 16 = u + 16 := by
  obtain ⟨q, r, hr, rfl⟩ : ∃ q r, r < 16 ∧ u = 2 ^ 5 * q + r := ⟨u / 32, u % 32, by omega, by omega⟩
  have h1 : ∀ r < 16, r ||| 16 = r + 16 := by decide
  rw [Nat.two_pow_add_eq_or_of_lt (i := 5) (by omega) q, Nat.or_assoc, h1 r hr, ← Nat.two_pow_add_eq_or_of_lt (i := 5) (by omega) q, ← Nat.two_pow_add_eq_or_of_lt (i := 5) (by omega) q]
  omega
theorem or16 (u : Nat) (hu : u < 4294967296) (h : u / 16 % 2 = 0) : bits .or .u32 (u : Int) 16 = ((u + 16 : Nat) : Int) := by
  rw [show (16 : Int) = ((16 : Nat) : Int) from rfl, u32_or_nat u 16 hu (by decide), or16_nat u h]
theorem not16_tab : ∀ b < 32, b &&& 4294967279 = b - 16 * (b / 16 % 2) := by decide
theorem not16 (b : Nat) (hb : b < 32) : bits .andNot .u32 (b : Int) 16 = ((b - 16 * (b / 16 % 2) : Nat) : Int) := by
  rw [show (16 : Int) = ((16 : Nat) : Int) from rfl, u32_andNot_nat b 16 (by omega) (by decide), show 4294967295 - 16 = 4294967279 from rfl, not16_tab b hb]

/-- Whether an entry is soiled only now, and the bytes behind that. -/
def soilW (u : Option Nat) : Option Nat := match u with
  | none => none
  | some u => if u / 16 % 2 = 0 then some (u + 16) else none
def soilOk (B : List Int) (ix : List Nat) (a : Nat) : Bool := (soilW (wdF B ix a)).isSome
def soilL (B : List Int) (ix : List Nat) (a : Nat) : List Int := match soilW (wdF B ix a) with
  | none => B
  | some z => setW B (pos ix a) z
theorem soilL_len (B : List Int) (ix : List Nat) (a : Nat) : (soilL B ix a).length = B.length := by
  unfold soilL
  split
  · rfl
  · exact setW_len _ _ _
theorem soilL_byts {B : List Int} (h : Byts B) (ix : List Nat) (a : Nat) : Byts (soilL B ix a) := by
  unfold soilL
  split
  · exact h
  · exact h.setW _ _

set_option maxHeartbeats 4000000 in
theorem soil_any {w : World} {v : Value} {R : Nat} {ix : List Nat} {B : List Int} (h : Ram w v R ix) (hix : (ix.length : Int) ≤ 512) (hB : RowB w R B) (hf : Fits B ix) (hb : Byts B) (a : Nat) (ha : a < 4294967296) :
    Calls Try.prog 9 #[v, .int .u32 a] w fun e w' => e = .returned (.bool (soilOk B ix a)) ∧ Put [R] w w' ∧ RowB w' R (soilL B ix a) := by
  have H := wordIs_ram h hix hB hf hb a ha w (Kep.refl _)
  have hB' : Hid (RowB w R B) := hB
  unfold soilOk soilL
  rcases hu : wdF B ix a with _ | u
  · rw [hu] at H
    have H' : Hid (Calls Try.prog 21 #[v, .int .u32 a] w fun e w'' => e = .returned (.tuple #[.int .u32 0, .bool false]) ∧ w'' = w) := H
    clear H h hf hB hu
    go_enter Try.func9, Try.ntmps9
    go_wp2_with (go_at_call 21; refine H'.out.mono ?_; rintro e w1 ⟨rfl, rfl⟩)
    go_ret
    exact ⟨rfl, Put.refl _, hB'.out⟩
  · rw [hu] at H
    have H' : Hid (Calls Try.prog 21 #[v, .int .u32 a] w fun e w'' => e = .returned (.tuple #[.int .u32 u, .bool true]) ∧ w'' = w) := H
    have hlt := wdF_lt hb a u hu
    have h16 := and16 u hlt
    have hok : a % 4 = 0 ∧ a < 64 * ix.length := by
      unfold wdF at hu
      split at hu
      · assumption
      · cases hu
    by_cases hd : u / 16 % 2 = 0
    · have hs := setWord_put w v R ix B h hix hB hf a (by omega) ((u + 16 : Nat) : Int) (by omega) (by omega)
      rw [if_pos hok, decide_eq_true hok] at hs
      have hs' : Hid (Calls Try.prog 16 #[v, .int .u32 a, .int .u32 ((u + 16 : Nat) : Int)] w fun e w' => e = .returned (.bool true) ∧ Put [R] w w' ∧ RowB w' R (setW B (pos ix a) ((u + 16 : Nat) : Int))) := hs
      have e1 : bits .and .u32 (u : Int) 16 = 0 := by rw [h16, hd]; rfl
      have e2 := or16 u hlt hd
      have e3 : soilW (some u) = some (u + 16) := by unfold soilW; simp [hd]
      rw [e3]
      generalize u + 16 = z at hs' e2 ⊢
      clear H h hf hB hu h16 hs hok e3
      go_enter Try.func9, Try.ntmps9
      go_wp2_with fail
      refine H'.out.mono ?_
      rintro e w1 ⟨rfl, hw1⟩
      subst hw1
      go_wp2_with fail
      refine hs'.out.mono ?_
      rintro e w2 ⟨rfl, P1, R1⟩
      have P1' : Hid (Put [R] w1 w2 ∧ RowB w2 R (setW B (pos ix a) (z : Int))) := ⟨P1, R1⟩
      clear P1 R1
      go_wp2_with fail
      go_ret
      exact ⟨rfl, P1'.out.1, P1'.out.2⟩
    · have e1 : bits .and .u32 (u : Int) 16 = 16 := by rw [h16, show u / 16 % 2 = 1 by omega]; rfl
      have e3 : soilW (some u) = none := by unfold soilW; simp [hd]
      rw [e3]
      clear H h hf hB hu h16 hok
      go_enter Try.func9, Try.ntmps9
      go_wp2_with (go_at_call 21; refine H'.out.mono ?_; rintro e w1 ⟨rfl, rfl⟩)
      go_ret
      exact ⟨rfl, Put.refl _, hB'.out⟩

/-- A word, and what it is behind a soiling. -/
def Soiled (u v : Option Nat) : Prop := match u, v with
  | none, none => True
  | some x, some z => z = x ∨ (z = x + 16 ∧ x / 16 % 2 = 0)
  | _, _ => False
theorem soiled_refl (u : Option Nat) : Soiled u u := by
  rcases u with _ | x
  · trivial
  · exact .inl rfl
theorem soiled_wd {B : List Int} {n : Nat} (hb : Byts B) (hl : B.length = 64 * n) (a q : Nat) : Soiled (wdF B (List.range n) q) (wdF (soilL B (List.range n) a) (List.range n) q) := by
  unfold soilL
  rcases hu : wdF B (List.range n) a with _ | u
  · exact soiled_refl _
  · by_cases hd : u / 16 % 2 = 0
    · have e3 : soilW (some u) = some (u + 16) := by unfold soilW; simp [hd]
      rw [e3]
      simp only
      have hlt := wdF_lt hb a u hu
      have hok : a % 4 = 0 ∧ a < 64 * (List.range n).length := by
        unfold wdF at hu
        split at hu
        · assumption
        · cases hu
      rw [List.length_range] at hok
      rw [pos_range hok.2]
      by_cases hq : q = a
      · subst hq
        have e4 : wdF (setW B q ((u + 16 : Nat) : Int)) (List.range n) q = some (u + 16) := by
          unfold wdF
          rw [if_pos (by rw [List.length_range]; exact hok), pos_range hok.2, setW_word _ _ _ (by omega) (by omega) (by omega), Int.toNat_natCast]
        rw [hu, e4]
        exact .inr ⟨rfl, hd⟩
      · have e4 : wdF (setW B a ((u + 16 : Nat) : Int)) (List.range n) q = wdF B (List.range n) q := by
          unfold wdF
          by_cases h : q % 4 = 0 ∧ q < 64 * (List.range n).length
          · rw [if_pos h, if_pos h]
            rw [List.length_range] at h
            rw [pos_range h.2, setW_other _ _ _ _ (by omega)]
          · rw [if_neg h, if_neg h]
        rw [e4]
        exact soiled_refl _
    · have e3 : soilW (some u) = none := by unfold soilW; simp [hd]
      rw [e3]
      exact soiled_refl _
/-- The word at a place that was soiled has the bit. -/
theorem soiled_at {B : List Int} {n : Nat} (hb : Byts B) (hl : B.length = 64 * n) {a u : Nat} (hu : wdF B (List.range n) a = some u) : ∃ z, wdF (soilL B (List.range n) a) (List.range n) a = some z ∧ z / 16 % 2 = 1 := by
  unfold soilL
  rw [hu]
  by_cases hd : u / 16 % 2 = 0
  · have e3 : soilW (some u) = some (u + 16) := by unfold soilW; simp [hd]
    rw [e3]
    simp only
    have hlt := wdF_lt hb a u hu
    have hok : a % 4 = 0 ∧ a < 64 * (List.range n).length := by
      unfold wdF at hu
      split at hu
      · assumption
      · cases hu
    rw [List.length_range] at hok
    refine ⟨u + 16, ?_, by omega⟩
    unfold wdF
    rw [if_pos (by rw [List.length_range]; exact hok), pos_range hok.2, setW_word _ _ _ (by omega) (by omega) (by omega), Int.toNat_natCast]
  · have e3 : soilW (some u) = none := by unfold soilW; simp [hd]
    rw [e3]
    exact ⟨u, hu, by omega⟩

theorem joinN_soil {x x' y y' : Nat} (hx : x' = x ∨ (x' = x + 16 ∧ x / 16 % 2 = 0)) (hy : y' = y ∨ (y' = y + 16 ∧ y / 16 % 2 = 0)) :
    joinN x' y' - 16 * (joinN x' y' / 16 % 2) = joinN x y - 16 * (joinN x y / 16 % 2) ∧ joinN x' y' / 16 % 2 = y' / 16 % 2 := by
  have t : ∀ r < 32, ∀ s < 32, joinN r s / 16 % 2 = s / 16 % 2 := by decide +kernel
  have t2 : ∀ r < 32, ∀ s < 32, joinN r s - 16 * (joinN r s / 16 % 2) = joinN (r % 16) (s % 16) := by decide +kernel
  have e : ∀ a b, joinN a b - 16 * (joinN a b / 16 % 2) = joinN (a % 32 % 16) (b % 32 % 16) := fun a b => by rw [← joinN_mod a b]; exact t2 _ (Nat.mod_lt _ (by decide)) _ (Nat.mod_lt _ (by decide))
  refine ⟨?_, ?_⟩
  · rw [e, e, show x' % 32 % 16 = x % 32 % 16 by omega, show y' % 32 % 16 = y % 32 % 16 by omega]
  · rw [← joinN_mod]
    have := t (x' % 32) (Nat.mod_lt _ (by decide)) (y' % 32) (Nat.mod_lt _ (by decide))
    rw [this]
    omega

/-- What a soiling changes of a way: nothing but that it says so. -/
theorem look_soil (B : List Int) (n root : Nat) (dirs : Int) (va a : Nat) (hb : Byts B) (hl : B.length = 64 * n) :
    (lookF (wdF B (List.range n)) (64 * n) root dirs va = none ∧ lookF (wdF (soilL B (List.range n) a) (List.range n)) (64 * n) root dirs va = none) ∨
    ∃ b b' at_ e d t p : Nat, lookF (wdF B (List.range n)) (64 * n) root dirs va = some ⟨b, at_, e, d, t, p⟩ ∧ lookF (wdF (soilL B (List.range n) a) (List.range n)) (64 * n) root dirs va = some ⟨b', at_, e, d, t, p⟩ ∧
      b' - 16 * (b' / 16 % 2) = b - 16 * (b / 16 % 2) ∧ (e = a → b' / 16 % 2 = 1) := by
  have hS := soiled_wd hb hl a
  have hA : ∀ u, wdF B (List.range n) a = some u → ∃ z, wdF (soilL B (List.range n) a) (List.range n) a = some z ∧ z / 16 % 2 = 1 := fun u hu => soiled_at hb hl hu
  generalize wdF B (List.range n) = M at hS hA
  generalize wdF (soilL B (List.range n) a) (List.range n) = M' at hS hA
  unfold lookF
  by_cases hd : ((va / 1024 : Nat) : Int) < dirs
  · rw [if_pos hd, if_pos hd]
    have h1 := hS (dirAt root va)
    rcases hx : M (dirAt root va) with _ | x
    · rw [hx] at h1
      rcases hx' : M' (dirAt root va) with _ | x'
      · exact .inl ⟨rfl, rfl⟩
      · rw [hx'] at h1; exact h1.elim
    rw [hx] at h1
    rcases hx' : M' (dirAt root va) with _ | x'
    · rw [hx'] at h1; exact h1.elim
    rw [hx'] at h1
    have g1 : x' = x ∨ (x' = x + 16 ∧ x / 16 % 2 = 0) := h1
    unfold look1
    simp only
    have et : tabAt x' va = tabAt x va := by unfold tabAt; omega
    by_cases hx2 : x % 2 = 0
    · rw [if_pos hx2, if_pos (by omega)]; exact .inl ⟨rfl, rfl⟩
    rw [if_neg hx2, if_neg (by omega), et]
    have h2 := hS (tabAt x va)
    rcases hy : M (tabAt x va) with _ | y
    · rw [hy] at h2
      rcases hy' : M' (tabAt x va) with _ | y'
      · exact .inl ⟨rfl, rfl⟩
      · rw [hy'] at h2; exact h2.elim
    rw [hy] at h2
    rcases hy' : M' (tabAt x va) with _ | y'
    · rw [hy'] at h2; exact h2.elim
    rw [hy'] at h2
    have g2 : y' = y ∨ (y' = y + 16 ∧ y / 16 % 2 = 0) := h2
    unfold look2
    simp only
    have ep : pageAt y' va = pageAt y va := by unfold pageAt; omega
    by_cases hy2 : y % 2 = 0
    · rw [if_pos hy2, if_pos (by omega)]; exact .inl ⟨rfl, rfl⟩
    rw [if_neg hy2, if_neg (by omega)]
    unfold look3 wayOf
    rw [ep, et]
    by_cases hs : pageAt y va < 64 * n
    · rw [if_pos hs, if_pos hs]
      have hj := joinN_soil g1 g2
      refine .inr ⟨joinN x y, joinN x' y', pageAt y va, tabAt x va, dirAt root va / 64, tabAt x va / 64, pageAt y va / 64, rfl, rfl, hj.1, fun e => ?_⟩
      rw [hj.2]
      rw [e] at hy hy'
      obtain ⟨z, hz, hz2⟩ := hA y hy
      rw [hy'] at hz
      obtain rfl := Option.some.inj hz
      exact hz2
    · rw [if_neg hs, if_neg hs]
      exact .inl ⟨rfl, rfl⟩
  · rw [if_neg hd, if_neg hd]
    exact .inl ⟨rfl, rfl⟩
end Go.Proofs.Ytahnmppnfoeffab
