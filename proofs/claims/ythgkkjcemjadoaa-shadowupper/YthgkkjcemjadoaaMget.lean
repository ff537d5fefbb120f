/- What is within a memory, and where it lies; bytes and words, read and laid. -/
import Derived.Test.YthgkkjcemjadoaaMram
namespace Go.Proofs.Ythgkkjcemjadoaa
open Go.RowKit
set_option linter.unusedVariables false

theorem hasFrame_any (w : World) (v : Value) (R : Nat) (ix : List Nat) (h : Ram w v R ix) (n : Int) :
    Calls Try.prog 42 #[v, .int .i64 n] w fun e w' => e = .returned (.bool (decide (0 ≤ n) && decide (n < ix.length))) ∧ w' = w := by
  have hc : Hid (∀ w, Ram w v R ix → Calls Try.prog 60 #[v] w fun e w' => e = .returned (.int .i64 ix.length) ∧ w' = w) := fun w h => count_any w v R ix h
  have h' : Hid (Ram w v R ix) := h
  clear h
  rcases (by omega : n < 0 ∨ 0 ≤ n) with h0 | h0
  · go_enter Try.func42, Try.ntmps42
    go_wp2_with (go_at_call 60; refine (hc.out _ h'.out).mono ?_; rintro e w1 ⟨rfl, rfl⟩)
    go_ret
    exact ⟨ret_bool (by simp; omega), rfl⟩
  · go_enter Try.func42, Try.ntmps42
    go_wp2_with (go_at_call 60; refine (hc.out _ h'.out).mono ?_; rintro e w1 ⟨rfl, rfl⟩)
    go_ret
    exact ⟨ret_bool (by simp [h0]), rfl⟩

theorem hasByte_any (w : World) (v : Value) (R : Nat) (ix : List Nat) (h : Ram w v R ix) (hix : (ix.length : Int) ≤ 512) (a : Nat) (ha : (a : Int) < 4294967296) :
    Calls Try.prog 65 #[v, .int .u32 a] w fun e w' => e = .returned (.bool (decide (a < 64 * ix.length))) ∧ w' = w := by
  have hc : Hid (∀ w, Ram w v R ix → Calls Try.prog 49 #[v] w fun e w' => e = .returned (.int .u32 (64 * ix.length)) ∧ w' = w) := fun w h => msize_any w v R ix h hix
  have h' : Hid (Ram w v R ix) := h
  clear h
  go_enter Try.func65, Try.ntmps65
  go_wp2_with (go_at_call 49; refine (hc.out _ h'.out).mono ?_; rintro e w1 ⟨rfl, rfl⟩)
  go_ret
  exact ⟨ret_bool (decide_eq_decide.2 (by omega)), rfl⟩

theorem hasWord_any (w : World) (v : Value) (R : Nat) (ix : List Nat) (h : Ram w v R ix) (hix : (ix.length : Int) ≤ 512) (a : Nat) (ha : (a : Int) < 4294967296) :
    Calls Try.prog 57 #[v, .int .u32 a] w fun e w' => e = .returned (.bool (decide (a % 4 = 0) && decide (a < 64 * ix.length))) ∧ w' = w := by
  have hc : Hid (∀ w, Ram w v R ix → Calls Try.prog 65 #[v, .int .u32 a] w fun e w' => e = .returned (.bool (decide (a < 64 * ix.length))) ∧ w' = w) := fun w h => hasByte_any w v R ix h hix a ha
  have h' : Hid (Ram w v R ix) := h
  clear h
  by_cases h4 : a % 4 = 0
  · have h5 : ((a : Int) % 4 == 0) = true := by simp; omega
    go_enter Try.func57, Try.ntmps57
    go_wp2_with (go_at_call 65; refine (hc.out _ h'.out).mono ?_; rintro e w1 ⟨rfl, rfl⟩)
    go_ret
    exact ⟨ret_bool (by simp [h4]), rfl⟩
  · have h5 : ((a : Int) % 4 == 0) = false := by simp; omega
    go_enter Try.func57, Try.ntmps57
    go_wp2_with (go_at_call 65; refine (hc.out _ h'.out).mono ?_; rintro e w1 ⟨rfl, rfl⟩)
    go_ret
    exact ⟨ret_bool (by simp [h4]), rfl⟩

/-- The bytes of a memory from its byte a on, up to its frame's end. -/
def fromV (R : Nat) (ix : List Nat) (a : Nat) : Value := .slice (some ⟨R, pos ix a, none⟩) (64 - a % 64) (64 - a % 64)
theorem from_any (w : World) (v : Value) (R : Nat) (ix : List Nat) (h : Ram w v R ix) (hix : (ix.length : Int) ≤ 512) (a : Nat) (ha : a < 64 * ix.length) :
    Calls Try.prog 58 #[v, .int .u32 a] w fun e w' => e = .returned (fromV R ix a) ∧ w' = w := by
  rcases h with ⟨rfl, rfl⟩ | ⟨rfl, p, rfl, hp, n⟩ | ⟨p, F, rfl, hp, hF, n1, n2, hn⟩
  · simp at ha
  · simp at ha
  · have c := cell_of_block (i := 0) hp
    simp at c
    have c1 : w.cell? ⟨F, a / 64, none⟩ = some (.slice (some ⟨R, 64 * ix.getD (a / 64) 0, none⟩) 64 64) := by
      rw [cell_of_block hF]
      simp only [List.getElem?_toArray]
      exact frs_at (by omega)
    unfold fromV pos
    generalize ix.getD (a / 64) 0 = j at c1
    clear hp hF n1 n2 hn
    have ha' : (a : Int) < 64 * ix.length := by omega
    generalize ix.length = m at c ha' hix ha
    go_enter Try.func58, Try.ntmps58
    go_wp2
    go_ret
    refine ⟨?_, rfl⟩
    rfl

theorem spotByte_any (w : World) (v : Value) (R : Nat) (ix : List Nat) (h : Ram w v R ix) (hix : (ix.length : Int) ≤ 512) (a : Nat) (ha : (a : Int) < 4294967296) :
    Calls Try.prog 56 #[.int .u32 a, .func (.func 65) #[v] #[], .func (.func 58) #[v] #[]] w fun e w' => e = .returned (.tuple (if a < 64 * ix.length then #[fromV R ix a, .bool true] else #[.slice none 0 0, .bool false])) ∧ w' = w := by
  have hc : Hid (Calls Try.prog 65 #[v, .int .u32 a] w fun e w' => e = .returned (.bool (decide (a < 64 * ix.length))) ∧ w' = w) := hasByte_any w v R ix h hix a ha
  by_cases hl : a < 64 * ix.length
  · have hd : Hid (Calls Try.prog 58 #[v, .int .u32 a] w fun e w' => e = .returned (fromV R ix a) ∧ w' = w) := from_any w v R ix h hix a hl
    rw [decide_eq_true hl] at hc
    rw [if_pos hl]
    generalize fromV R ix a = fv at hd
    clear h hl ha
    go_enter Try.func56, Try.ntmps56
    go_wp2_with (first | (go_at_call 65; refine hc.out.mono ?_; rintro e w1 ⟨rfl, rfl⟩) | (go_at_call 58; refine hd.out.mono ?_; rintro e w1 ⟨rfl, rfl⟩))
    go_ret2
    exact ⟨rfl, rfl⟩
  · rw [decide_eq_false hl] at hc
    rw [if_neg hl]
    clear h hl ha
    go_enter Try.func56, Try.ntmps56
    go_wp2_with (go_at_call 65; refine hc.out.mono ?_; rintro e w1 ⟨rfl, rfl⟩)
    go_ret2
    exact ⟨rfl, rfl⟩

theorem spotWord_any (w : World) (v : Value) (R : Nat) (ix : List Nat) (h : Ram w v R ix) (hix : (ix.length : Int) ≤ 512) (a : Nat) (ha : (a : Int) < 4294967296) :
    Calls Try.prog 56 #[.int .u32 a, .func (.func 57) #[v] #[], .func (.func 58) #[v] #[]] w fun e w' => e = .returned (.tuple (if a % 4 = 0 ∧ a < 64 * ix.length then #[fromV R ix a, .bool true] else #[.slice none 0 0, .bool false])) ∧ w' = w := by
  have hc : Hid (Calls Try.prog 57 #[v, .int .u32 a] w fun e w' => e = .returned (.bool (decide (a % 4 = 0) && decide (a < 64 * ix.length))) ∧ w' = w) := hasWord_any w v R ix h hix a ha
  have hb : (decide (a % 4 = 0) && decide (a < 64 * ix.length)) = decide (a % 4 = 0 ∧ a < 64 * ix.length) := by simp
  rw [hb] at hc
  by_cases hl : a % 4 = 0 ∧ a < 64 * ix.length
  · have hd : Hid (Calls Try.prog 58 #[v, .int .u32 a] w fun e w' => e = .returned (fromV R ix a) ∧ w' = w) := from_any w v R ix h hix a hl.2
    rw [decide_eq_true hl] at hc
    rw [if_pos hl]
    generalize fromV R ix a = fv at hd
    clear h hl ha hb
    go_enter Try.func56, Try.ntmps56
    go_wp2_with (first | (go_at_call 57; refine hc.out.mono ?_; rintro e w1 ⟨rfl, rfl⟩) | (go_at_call 58; refine hd.out.mono ?_; rintro e w1 ⟨rfl, rfl⟩))
    go_ret2
    exact ⟨rfl, rfl⟩
  · rw [decide_eq_false hl] at hc
    rw [if_neg hl]
    clear h hl ha hb
    go_enter Try.func56, Try.ntmps56
    go_wp2_with (go_at_call 57; refine hc.out.mono ?_; rintro e w1 ⟨rfl, rfl⟩)
    go_ret2
    exact ⟨rfl, rfl⟩

/-- The row has all the frames of ix. -/
def Fits (B : List Int) (ix : List Nat) : Prop := ∀ i ∈ ix, 64 * i + 64 ≤ B.length
theorem Fits.pos {B : List Int} {ix : List Nat} (h : Fits B ix) {a : Nat} (ha : a < 64 * ix.length) : pos ix a - a % 64 + 64 ≤ B.length ∧ pos ix a < B.length := by
  have hk : a / 64 < ix.length := by omega
  have := h (ix.getD (a / 64) 0) (by simp [List.getD, hk])
  unfold Proofs.Ythgkkjcemjadoaa.pos
  omega
theorem Fits.set {B : List Int} {ix : List Nat} (h : Fits B ix) (k : Nat) (b : Int) : Fits (B.set k b) ix := fun i hi => by simpa using h i hi
theorem Fits.len {B C : List Int} {ix : List Nat} (h : Fits B ix) (e : C.length = B.length) : Fits C ix := fun i hi => by rw [e]; exact h i hi

end Go.Proofs.Ythgkkjcemjadoaa
