/- What follows of a way: one page's addresses lead to one frame; what is laid elsewhere changes nothing of it. -/
import Derived.Test.YthgkkjcemjadoaaWto
namespace Go.Proofs.Ythgkkjcemjadoaa
open Go.RowKit
set_option linter.unusedVariables false

/-- An address is found, with its page's number; or none of its page is. -/
theorem look_page (M : Nat → Option Nat) (n root : Nat) (dirs : Int) (va pl : Nat) (hp : pl < 64) (hM : ∀ a x, M a = some x → x < 4294967296) :
    (lookF M (64 * n) root dirs va = none ∧ lookF M (64 * n) root dirs (va - va % 64 + pl) = none) ∨
    ∃ b e d t q : Nat, lookF M (64 * n) root dirs va = some ⟨b, 64 * q + va % 64, e, d, t, q⟩ ∧ lookF M (64 * n) root dirs (va - va % 64 + pl) = some ⟨b, 64 * q + pl, e, d, t, q⟩ ∧ 64 * q + 63 < 4294967296 := by
  have e1 : (va - va % 64 + pl) / 1024 = va / 1024 := by omega
  have e2 : (va - va % 64 + pl) / 64 % 16 = va / 64 % 16 := by omega
  have e3 : (va - va % 64 + pl) % 64 = pl := by omega
  have d1 : dirAt root (va - va % 64 + pl) = dirAt root va := by unfold dirAt; rw [e1]
  have d2 : ∀ x, tabAt x (va - va % 64 + pl) = tabAt x va := fun x => by unfold tabAt; rw [e2]
  unfold lookF
  rw [e1, d1]
  by_cases hd : ((va / 1024 : Nat) : Int) < dirs
  · rw [if_pos hd, if_pos hd]
    rcases hx : M (dirAt root va) with _ | x
    · exact .inl ⟨rfl, rfl⟩
    unfold look1
    simp only
    by_cases hx2 : x % 2 = 0
    · rw [if_pos hx2, if_pos hx2]; exact .inl ⟨rfl, rfl⟩
    rw [if_neg hx2, if_neg hx2, d2]
    rcases hy : M (tabAt x va) with _ | y
    · exact .inl ⟨rfl, rfl⟩
    unfold look2
    simp only
    by_cases hy2 : y % 2 = 0
    · rw [if_pos hy2, if_pos hy2]; exact .inl ⟨rfl, rfl⟩
    rw [if_neg hy2, if_neg hy2]
    have hy0 := hM _ _ hy
    have p1 : pageAt y va = 64 * (y / 64) + va % 64 := by unfold pageAt; omega
    have p2 : pageAt y (va - va % 64 + pl) = 64 * (y / 64) + pl := by unfold pageAt; rw [e3]; omega
    unfold look3 wayOf
    rw [p1, p2, d1, d2]
    by_cases hs : 64 * (y / 64) + va % 64 < 64 * n
    · rw [if_pos hs, if_pos (by omega)]
      refine .inr ⟨joinN x y, tabAt x va, dirAt root va / 64, tabAt x va / 64, y / 64, ?_, ?_, by omega⟩
      · rw [show (64 * (y / 64) + va % 64) / 64 = y / 64 by omega]
      · rw [show (64 * (y / 64) + pl) / 64 = y / 64 by omega]
    · rw [if_neg hs, if_neg (by omega)]
      exact .inl ⟨rfl, rfl⟩
  · rw [if_neg hd, if_neg hd]
    exact .inl ⟨rfl, rfl⟩

/-- A way that is found: its numbers fit, and it hangs on two words alone. -/
theorem lookF_some {M : Nat → Option Nat} {s root : Nat} {dirs : Int} {va : Nat} {y : Wy} (hM : ∀ a x, M a = some x → x < 4294967296) (h : lookF M s root dirs va = some y) :
    ∃ u z : Nat, ((va / 1024 : Nat) : Int) < dirs ∧ M (dirAt root va) = some u ∧ u % 2 ≠ 0 ∧ M (tabAt u va) = some z ∧ z % 2 ≠ 0 ∧ pageAt z va < s ∧ y = wayOf root va u z ∧ u < 4294967296 ∧ z < 4294967296 := by
  unfold lookF at h
  split at h
  · rename_i hd
    rcases hx : M (dirAt root va) with _ | u
    · rw [hx] at h; cases h
    rw [hx] at h
    unfold look1 at h
    simp only at h
    split at h
    · cases h
    rename_i hu
    rcases hz : M (tabAt u va) with _ | z
    · rw [hz] at h; cases h
    rw [hz] at h
    unfold look2 at h
    simp only at h
    split at h
    · cases h
    rename_i hz2
    unfold look3 at h
    split at h
    · rename_i hs
      exact ⟨u, z, hd, rfl, hu, hz, hz2, hs, (Option.some.inj h).symm, hM _ _ hx, hM _ _ hz⟩
    · cases h
  · cases h
theorem lookF_of {M : Nat → Option Nat} {s root : Nat} {dirs : Int} {va u z : Nat} (hd : ((va / 1024 : Nat) : Int) < dirs) (h1 : M (dirAt root va) = some u) (hu : u % 2 ≠ 0) (h2 : M (tabAt u va) = some z) (hz : z % 2 ≠ 0) (hs : pageAt z va < s) :
    lookF M s root dirs va = some (wayOf root va u z) := by
  unfold lookF
  rw [if_pos hd, h1]
  unfold look1
  simp only
  rw [if_neg hu, h2]
  unfold look2
  simp only
  rw [if_neg hz]
  unfold look3
  rw [if_pos hs]
theorem way_fits {M : Nat → Option Nat} {s root : Nat} {dirs : Int} {va : Nat} {y : Wy} (hM : ∀ a x, M a = some x → x < 4294967296) (h : lookF M s root dirs va = some y) :
    y.bits < 32 ∧ y.at_ < 4294967296 ∧ y.entry < 4294967296 ∧ y.dir < 67108864 ∧ y.tab < 67108864 ∧ y.page < 67108864 := by
  obtain ⟨u, z, _, _, _, _, _, _, rfl, hu, hz⟩ := lookF_some hM h
  have h1 := joinN_lt u z
  have h2 : pageAt z va < 4294967296 := by unfold pageAt; omega
  have h3 : tabAt u va < 4294967296 := by unfold tabAt; omega
  have h4 : dirAt root va < 4294967296 := by unfold dirAt; omega
  unfold wayOf
  simp only
  omega

/-- A word in another place than where one was laid is as it was. -/
theorem setW_other (B : List Int) (a q : Nat) (x : Int) (h : q + 3 < a ∨ a + 3 < q) : wordAt (setW B a x) q = wordAt B q := by
  have e : ∀ k, (k < a ∨ a + 3 < k) → (setW B a x).getD k 0 = B.getD k 0 := by
    intro k hk
    unfold setW
    simp only [List.getD_eq_getElem?_getD, List.getElem?_set]
    rw [if_neg (by omega), if_neg (by omega), if_neg (by omega), if_neg (by omega)]
  unfold wordAt
  rw [e q (by omega), e (q + 1) (by omega), e (q + 2) (by omega), e (q + 3) (by omega)]
theorem wdF_other {B : List Int} {n a q : Nat} {x : Int} (ha : a % 4 = 0) (han : a < 64 * n) (hq : q / 64 ≠ a / 64) : wdF (setW B a x) (List.range n) q = wdF B (List.range n) q := by
  unfold wdF
  by_cases h : q % 4 = 0 ∧ q < 64 * (List.range n).length
  · rw [if_pos h, if_pos h]
    rw [List.length_range] at h
    rw [pos_range h.2, setW_other _ _ _ _ (by omega)]
  · rw [if_neg h, if_neg h]
/-- What is laid in no frame of a way's entries changes nothing of that way. -/
theorem look_hangs {B : List Int} {n root : Nat} {dirs : Int} {va a : Nat} {x : Int} {y : Wy} (hb : Byts B) (h : lookF (wdF B (List.range n)) (64 * n) root dirs va = some y) (ha : a % 4 = 0) (han : a < 64 * n) (h1 : a / 64 ≠ y.dir) (h2 : a / 64 ≠ y.tab) :
    lookF (wdF (setW B a x) (List.range n)) (64 * n) root dirs va = some y := by
  obtain ⟨u, z, hd, hu, hu2, hz, hz2, hs, rfl, _, _⟩ := lookF_some (fun a x => wdF_lt hb a x) h
  exact lookF_of hd ((wdF_other ha han (by unfold wayOf at h1; simp only at h1; omega)).trans hu) hu2 ((wdF_other ha han (by unfold wayOf at h2; simp only at h2; omega)).trans hz) hz2 hs
end Go.Proofs.Ythgkkjcemjadoaa
