/- Words of a memory, read and laid. -/
import Derived.Test.YthgkkjcemjadoaaMget
namespace Go.Proofs.Ythgkkjcemjadoaa
open Go.RowKit
set_option linter.unusedVariables false

/-- All are bytes. -/
def Byts (B : List Int) : Prop := ∀ b ∈ B, 0 ≤ b ∧ b < 256
theorem Byts.at {B : List Int} (h : Byts B) (k : Nat) : 0 ≤ B.getD k 0 ∧ B.getD k 0 < 256 := by
  rcases Nat.lt_or_ge k B.length with hk | hk
  · have : B.getD k 0 = B[k] := by simp [List.getD, hk]
    rw [this]; exact h _ (List.getElem_mem hk)
  · have : B.getD k 0 = 0 := by simp [List.getD, hk]
    rw [this]; omega
theorem Byts.set {B : List Int} (h : Byts B) (k : Nat) {b : Int} (h0 : 0 ≤ b) (h1 : b < 256) : Byts (B.set k b) := by
  intro x hx
  rcases List.mem_or_eq_of_mem_set hx with h' | h'
  · exact h x h'
  · subst h'; exact ⟨h0, h1⟩
def wordI (b0 b1 b2 b3 : Int) : Int := b0 + 256 * b1 + 65536 * b2 + 16777216 * b3
def wordAt (B : List Int) (q : Nat) : Int := wordI (B.getD q 0) (B.getD (q + 1) 0) (B.getD (q + 2) 0) (B.getD (q + 3) 0)
theorem or32_comm (x y : Int) : bits .or .u32 x y = bits .or .u32 y x := by simp only [bits, BitVec.or_comm]
theorem join32 (raw z : Int) (k : Nat) (hk : k ≤ 3) (h0 : 0 ≤ raw) (h1 : raw < 2 ^ (8 * k)) (z0 : 0 ≤ z) (z1 : z < 256) : bits .or .u32 raw (z * 2 ^ (8 * k)) = raw + z * 2 ^ (8 * k) := by
  rw [or32_comm, bits_join .u32 32 (by decide) (by intro n h₀ h₁; rw [IntKind.wrap_u32]; omega) (8 * k) (z * 2 ^ (8 * k)) raw]
  · omega
  · exact Int.mul_nonneg z0 (Int.le_of_lt (Int.pow_pos (by decide)))
  · exact Int.mul_emod_left _ _
  · rcases (by omega : k = 0 ∨ k = 1 ∨ k = 2 ∨ k = 3) with rfl | rfl | rfl | rfl <;> simp <;> omega
  · exact h0
  · exact h1
  · rcases (by omega : k = 0 ∨ k = 1 ∨ k = 2 ∨ k = 3) with rfl | rfl | rfl | rfl <;> simp at h1 ⊢ <;> omega
theorem or4 (b0 b1 b2 b3 : Int) (h0 : 0 ≤ b0 ∧ b0 < 256) (h1 : 0 ≤ b1 ∧ b1 < 256) (h2 : 0 ≤ b2 ∧ b2 < 256) (h3 : 0 ≤ b3 ∧ b3 < 256) :
    bits .or .u32 (bits .or .u32 (bits .or .u32 (bits .or .u32 0 (b0 % 4294967296)) (b1 % 4294967296 * 256 % 4294967296)) (b2 % 4294967296 * 65536 % 4294967296)) (b3 % 4294967296 * 16777216 % 4294967296) = wordI b0 b1 b2 b3 := by
  have e0 : b0 % 4294967296 = b0 * 2 ^ (8 * 0) := by simp; omega
  have e1 : b1 % 4294967296 * 256 % 4294967296 = b1 * 2 ^ (8 * 1) := by simp; omega
  have e2 : b2 % 4294967296 * 65536 % 4294967296 = b2 * 2 ^ (8 * 2) := by simp; omega
  have e3 : b3 % 4294967296 * 16777216 % 4294967296 = b3 * 2 ^ (8 * 3) := by simp; omega
  rw [e0, e1, e2, e3, join32 0 b0 0 (by decide) (by decide) (by decide) h0.1 h0.2, join32 _ b1 1 (by decide) (by simp; omega) (by simp; omega) h1.1 h1.2,
    join32 _ b2 2 (by decide) (by simp; omega) (by simp; omega) h2.1 h2.2, join32 _ b3 3 (by decide) (by simp; omega) (by simp; omega) h3.1 h3.2]
  unfold wordI
  simp
  omega

theorem word_any (w : World) (v : Value) (R : Nat) (ix : List Nat) (B : List Int) (h : Ram w v R ix) (hix : (ix.length : Int) ≤ 512) (hB : RowB w R B) (hf : Fits B ix) (hb : Byts B) (a : Nat) (ha : (a : Int) < 4294967296) :
    Calls Try.prog 30 #[v, .int .u32 a] w fun e w' => e = .returned (.tuple (if a % 4 = 0 ∧ a < 64 * ix.length then #[.int .u32 (wordAt B (pos ix a)), .bool true] else #[.int .u32 0, .bool false])) ∧ w' = w := by
  have hc := spotWord_any w v R ix h hix a ha
  have hmf : ∀ (fn : Fn) (first cap : Array Value) (w : World), (Instr.makeFunc fn first cap).run Try.prog w = .ok (.func fn first cap) w := fun _ _ _ _ => rfl
  by_cases hl : a % 4 = 0 ∧ a < 64 * ix.length
  · rw [if_pos hl] at hc ⊢
    have hp := hf.pos hl.2
    have c0 := hB.cell (k := pos ix a) hp.2
    have c1 := hB.cell (k := pos ix a + 1) (by unfold pos at hp ⊢; omega)
    have c2 := hB.cell (k := pos ix a + 2) (by unfold pos at hp ⊢; omega)
    have c3 := hB.cell (k := pos ix a + 3) (by unfold pos at hp ⊢; omega)
    unfold fromV at hc
    unfold wordAt
    have H := or4 _ _ _ _ (hb.at (pos ix a)) (hb.at (pos ix a + 1)) (hb.at (pos ix a + 2)) (hb.at (pos ix a + 3))
    generalize B.getD (pos ix a) 0 = b0 at c0 H
    generalize B.getD (pos ix a + 1) 0 = b1 at c1 H
    generalize B.getD (pos ix a + 2) 0 = b2 at c2 H
    generalize B.getD (pos ix a + 3) 0 = b3 at c3 H
    generalize pos ix a = q at c0 c1 c2 c3 hc
    have H' : Hid (_ = _) := H
    have hs : Hid (Calls Try.prog 56 #[.int .u32 a, .func (.func 57) #[v] #[], .func (.func 58) #[v] #[]] w fun e w' => e = .returned (.tuple #[.slice (some ⟨R, q, none⟩) (64 - a % 64) (64 - a % 64), .bool true]) ∧ w' = w) := hc
    have hm : (4 : Int) ≤ (64 - a % 64 : Nat) := by omega
    clear hc h hl hp hf hB ha hix hb H
    generalize 64 - a % 64 = m at hm hs
    go_enter Try.func30, Try.ntmps30
    go_wp2_with (go_at_call 56; refine hs.out.mono ?_; rintro e w1 ⟨rfl, rfl⟩)
    go_rounds 5
    go_ret2
    exact ⟨by rw [← H'.out]; rfl, rfl⟩
  · rw [if_neg hl] at hc ⊢
    have hs : Hid (Calls Try.prog 56 #[.int .u32 a, .func (.func 57) #[v] #[], .func (.func 58) #[v] #[]] w fun e w' => e = .returned (.tuple #[.slice none 0 0, .bool false]) ∧ w' = w) := hc
    clear hc h hl hf hB ha hix hb
    go_enter Try.func30, Try.ntmps30
    go_wp2_with (go_at_call 56; refine hs.out.mono ?_; rintro e w1 ⟨rfl, rfl⟩)
    go_ret2
    exact ⟨rfl, rfl⟩

/-- The four bytes of x, laid at q. -/
def setW (B : List Int) (q : Nat) (x : Int) : List Int := (((B.set q (x % 256)).set (q + 1) (x / 256 % 256)).set (q + 2) (x / 65536 % 256)).set (q + 3) (x / 16777216 % 256)
theorem setW_len (B : List Int) (q : Nat) (x : Int) : (setW B q x).length = B.length := by simp [setW]
theorem Byts.setW {B : List Int} (h : Byts B) (q : Nat) (x : Int) : Byts (setW B q x) :=
  (((h.set _ (by omega) (by omega)).set _ (by omega) (by omega)).set _ (by omega) (by omega)).set _ (by omega) (by omega)

theorem setWord_put (w : World) (v : Value) (R : Nat) (ix : List Nat) (B : List Int) (h : Ram w v R ix) (hix : (ix.length : Int) ≤ 512) (hB : RowB w R B) (hf : Fits B ix) (a : Nat) (ha : (a : Int) < 4294967296) (x : Int) (hx0 : 0 ≤ x) (hx1 : x < 4294967296) :
    Calls Try.prog 63 #[v, .int .u32 a, .int .u32 x] w fun e w' => e = .returned (.bool (decide (a % 4 = 0 ∧ a < 64 * ix.length))) ∧ Put [R] w w' ∧ RowB w' R (if a % 4 = 0 ∧ a < 64 * ix.length then setW B (pos ix a) x else B) := by
  have hc := spotWord_any w v R ix h hix a ha
  have hmf : ∀ (fn : Fn) (first cap : Array Value) (w : World), (Instr.makeFunc fn first cap).run Try.prog w = .ok (.func fn first cap) w := fun _ _ _ _ => rfl
  by_cases hl : a % 4 = 0 ∧ a < 64 * ix.length
  · rw [if_pos hl] at hc ⊢
    rw [decide_eq_true hl]
    have hp := hf.pos hl.2
    have c0 := hB.cell (k := pos ix a) hp.2
    have c1 := hB.cell (k := pos ix a + 1) (by unfold pos at hp ⊢; omega)
    have c2 := hB.cell (k := pos ix a + 2) (by unfold pos at hp ⊢; omega)
    have c3 := hB.cell (k := pos ix a + 3) (by unfold pos at hp ⊢; omega)
    have hfz : ∀ k, w.frozen? ⟨R, k, none⟩ = false := by
      have := hB (by intro e; subst e; simp at hp)
      intro k
      simp [World.frozen?, this]
    unfold fromV at hc
    generalize B.getD (pos ix a) 0 = b0 at c0
    generalize B.getD (pos ix a + 1) 0 = b1 at c1
    generalize B.getD (pos ix a + 2) 0 = b2 at c2
    generalize B.getD (pos ix a + 3) 0 = b3 at c3
    generalize pos ix a = q at c0 c1 c2 c3 hc
    have hs : Hid (Calls Try.prog 56 #[.int .u32 a, .func (.func 57) #[v] #[], .func (.func 58) #[v] #[]] w fun e w' => e = .returned (.tuple #[.slice (some ⟨R, q, none⟩) (64 - a % 64) (64 - a % 64), .bool true]) ∧ w' = w) := hc
    have hm : (4 : Int) ≤ (64 - a % 64 : Nat) := by omega
    have hB' : Hid (RowB w R B) := hB
    clear hc h hl hp hf ha hix hB
    generalize 64 - a % 64 = m at hm hs
    go_enter Try.func63, Try.ntmps63
    go_wp2_with (go_at_call 56; refine hs.out.mono ?_; rintro e w1 ⟨rfl, rfl⟩)
    go_rounds 5
    go_ret
    refine ⟨rfl, ((((Put.refl _).setCell (by simp) _).setCell (by simp) _).setCell (by simp) _).setCell (by simp) _, ?_⟩
    unfold setW
    rw [show x / 16777216 % 256 = x / 16777216 by omega]
    exact (((hB'.out.set _ _).set _ _).set _ _).set _ _
  · rw [if_neg hl] at hc ⊢
    rw [decide_eq_false hl]
    have hs : Hid (Calls Try.prog 56 #[.int .u32 a, .func (.func 57) #[v] #[], .func (.func 58) #[v] #[]] w fun e w' => e = .returned (.tuple #[.slice none 0 0, .bool false]) ∧ w' = w) := hc
    have hB' : Hid (RowB w R B) := hB
    clear hc h hl hf hB ha hix
    go_enter Try.func63, Try.ntmps63
    go_wp2_with (go_at_call 56; refine hs.out.mono ?_; rintro e w1 ⟨rfl, rfl⟩)
    go_ret
    exact ⟨rfl, Put.refl _, hB'.out⟩
end Go.Proofs.Ythgkkjcemjadoaa
