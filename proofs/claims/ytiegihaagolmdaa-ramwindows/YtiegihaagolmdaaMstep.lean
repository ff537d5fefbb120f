/- One step: a memory answers as the document's does, and both have the same bytes behind it. -/
import Derived.Test.YtiegihaagolmdaaMsame
namespace Go.Proofs.Ytiegihaagolmdaa
open Go.RowKit
set_option linter.unusedVariables false

theorem Two.pair {w1 wa wb : World} {v : Value} {R n : Nat} {x : Option Addr} {Rb : Nat} {B C : List Int} (T : Two w1 v R n x Rb B) (Q1 : Put [R] w1.drew wa ∧ RowB wa R C) (Q2 : Put [Rb] wa wb ∧ RowB wb Rb C) (h1 : C.length = B.length) (h2 : Byts C) : Two wb v R n x Rb C ∧ Put [R, Rb] w1 wb := by
  have P : Put [R, Rb] w1 wb := ((Put.of_kep (Kep.refl _).drew).trans (Q1.1.mono (by simp))).trans (Q2.1.mono (by simp))
  exact ⟨T.put P (Q1.2.put Q2.1 (by simpa using T.ne)) Q2.2 h1 h2, P⟩
abbrev stepV (kd a z : Int) (sx : Option Addr) (sl sc : Nat) (m : Int) : Array Value := #[.int .i64 kd, .int .u32 a, .int .u32 z, .slice sx sl sc, .int .i64 m]

set_option maxHeartbeats 4000000 in
set_option maxRecDepth 100000 in
theorem step0 (w : World) (v : Value) (R n : Nat) (x : Option Addr) (Rb : Nat) (B : List Int) (h : Two w v R n x Rb B) (a : Nat) (ha : (a : Int) < 4294967296) (z m : Int) (sx : Option Addr) (sl sc : Nat) :
    Calls Try.prog 14 #[v, refV x B.length, .agg (stepV 0 a z sx sl sc m)] w fun e w' => e = .returned (.bool true) ∧ Kep w w' := by
  have h' : Hid (Two w v R n x Rb B) := h
  have hA : Hid (∀ w, Calls Try.prog 20 #[.int .u32 a] w fun e w' => ∃ b : Nat, e = .returned (.int .u32 b) ∧ (b : Int) < 4294967296 ∧ w' = w) := fun w => near_any w a ha
  have hlen := h.len
  have hl : ((List.range n).length : Int) ≤ 512 := by have := h.le; simp; omega
  have H1 : Hid (∀ w' (b : Nat), Kep w w' → (b : Int) < 4294967296 → Calls Try.prog 17 #[v, .int .u32 b] w' fun e w'' => e = .returned (.tuple (if b < 64 * n then #[.int .u8 (B.getD b 0), .bool true] else #[.int .u8 0, .bool false])) ∧ w'' = w') := fun w' b K hb => by
    have T := h'.out.kep K
    have := byte_any w' v R _ B T.ram hl T.row (fits_range T.len) b hb
    rw [List.length_range] at this
    by_cases hok : b < 64 * n
    · rw [if_pos hok, pos_range hok] at this
      rw [if_pos hok]
      exact this
    · rw [if_neg hok] at this ⊢
      exact this
  have H2 : Hid (∀ w' (b : Nat), Kep w w' → (b : Int) < 4294967296 → Calls Try.prog 32 #[refV x (64 * n), .int .u32 b] w' fun e w'' => e = .returned (.tuple (if b < 64 * n then #[.int .u8 (B.getD b 0), .bool true] else #[.int .u8 0, .bool false])) ∧ Kep w' w'') := fun w' b K hb => by
    have T := h'.out.kep K
    have := refByte_any w' x Rb B T.ref b hb
    rw [hlen] at this
    exact this
  rw [hlen]
  clear h hlen hl ha
  go_enter Try.func14, Try.ntmps14
  go_wp2_with fail
  refine (hA.out _).mono ?_
  rintro e w1 ⟨b, rfl, hb, hw⟩
  have K1 : Hid (Kep w w1) := by rw [hw]; exact ((Kep.refl _).alloc _).alloc _
  have c1 : w1.cell? ⟨w.heap.size + 1, 0, none⟩ = some (.int .i64 0) := by rw [hw, cell_of_block (hat _ _ _ (by simp))]; rfl
  have c2 : w1.cell? ⟨w.heap.size, 0, none⟩ = some (.slice x (64 * n) (64 * n)) := by rw [hw, cell_of_block ((hsk _ _ _ (by simp)).trans (hat _ _ _ rfl))]; rfl
  have G1 := H1.out w1 b K1.out hb
  have G2 := H2.out w1 b K1.out hb
  have hb' : Hid ((b : Int) < 4294967296) := hb
  clear hw hA hb H1 H2
  by_cases hok : b < 64 * n
  · rw [if_pos hok] at G1 G2
    generalize B.getD b 0 = y at G1 G2
    have G1' : Hid (Calls Try.prog 17 #[v, .int .u32 b] w1 fun e w'' => e = .returned (.tuple #[.int .u8 y, .bool true]) ∧ w'' = w1) := G1
    have G2' : Hid (Calls Try.prog 32 #[refV x (64 * n), .int .u32 b] w1 fun e w'' => e = .returned (.tuple #[.int .u8 y, .bool true]) ∧ Kep w1 w'') := G2
    clear G1 G2 hok
    go_wp2_with (first | (go_at_call 17; refine G1'.out.mono ?_; rintro e w2 ⟨rfl, rfl⟩) | (go_at_call 32; refine G2'.out.mono ?_; rintro e w3 ⟨rfl, K3⟩))
    go_ret
    exact ⟨rfl, kep_trans K1.out K3⟩
  · rw [if_neg hok] at G1 G2
    have G1' : Hid (Calls Try.prog 17 #[v, .int .u32 b] w1 fun e w'' => e = .returned (.tuple #[.int .u8 0, .bool false]) ∧ w'' = w1) := G1
    have G2' : Hid (Calls Try.prog 32 #[refV x (64 * n), .int .u32 b] w1 fun e w'' => e = .returned (.tuple #[.int .u8 0, .bool false]) ∧ Kep w1 w'') := G2
    clear G1 G2 hok
    go_wp2_with (first | (go_at_call 17; refine G1'.out.mono ?_; rintro e w2 ⟨rfl, rfl⟩) | (go_at_call 32; refine G2'.out.mono ?_; rintro e w3 ⟨rfl, K3⟩))
    go_ret
    exact ⟨rfl, kep_trans K1.out K3⟩
set_option maxHeartbeats 4000000 in
set_option maxRecDepth 100000 in
theorem step2 (w : World) (v : Value) (R n : Nat) (x : Option Addr) (Rb : Nat) (B : List Int) (h : Two w v R n x Rb B) (a : Nat) (ha : (a : Int) < 4294967296) (z m : Int) (sx : Option Addr) (sl sc : Nat) :
    Calls Try.prog 14 #[v, refV x B.length, .agg (stepV 2 a z sx sl sc m)] w fun e w' => e = .returned (.bool true) ∧ Kep w w' := by
  have h' : Hid (Two w v R n x Rb B) := h
  have hA : Hid (∀ w, Calls Try.prog 20 #[.int .u32 a] w fun e w' => ∃ b : Nat, e = .returned (.int .u32 b) ∧ (b : Int) < 4294967296 ∧ w' = w) := fun w => near_any w a ha
  have hlen := h.len
  have hl : ((List.range n).length : Int) ≤ 512 := by have := h.le; simp; omega
  have H1 : Hid (∀ w' (b : Nat), Kep w w' → (b : Int) < 4294967296 → Calls Try.prog 21 #[v, .int .u32 b] w' fun e w'' => e = .returned (.tuple (if b % 4 = 0 ∧ b < 64 * n then #[.int .u32 (wordAt B b), .bool true] else #[.int .u32 0, .bool false])) ∧ w'' = w') := fun w' b K hb => by
    have T := h'.out.kep K
    have := word_any w' v R _ B T.ram hl T.row (fits_range T.len) T.byts b hb
    rw [List.length_range] at this
    by_cases hok : b % 4 = 0 ∧ b < 64 * n
    · rw [if_pos hok, pos_range hok.2] at this
      rw [if_pos hok]
      exact this
    · rw [if_neg hok] at this ⊢
      exact this
  have H2 : Hid (∀ w' (b : Nat), Kep w w' → (b : Int) < 4294967296 → Calls Try.prog 33 #[refV x (64 * n), .int .u32 b] w' fun e w'' => e = .returned (.tuple (if b % 4 = 0 ∧ b < 64 * n then #[.int .u32 (wordAt B b), .bool true] else #[.int .u32 0, .bool false])) ∧ Kep w' w'') := fun w' b K hb => by
    have T := h'.out.kep K
    have := refWord_any w' x Rb B T.ref T.byts (by omega) b hb
    rw [hlen] at this
    exact this
  rw [hlen]
  clear h hlen hl ha
  go_enter Try.func14, Try.ntmps14
  go_wp2_with fail
  refine (hA.out _).mono ?_
  rintro e w1 ⟨b, rfl, hb, hw⟩
  have K1 : Hid (Kep w w1) := by rw [hw]; exact ((Kep.refl _).alloc _).alloc _
  have c1 : w1.cell? ⟨w.heap.size + 1, 0, none⟩ = some (.int .i64 2) := by rw [hw, cell_of_block (hat _ _ _ (by simp))]; rfl
  have c2 : w1.cell? ⟨w.heap.size, 0, none⟩ = some (.slice x (64 * n) (64 * n)) := by rw [hw, cell_of_block ((hsk _ _ _ (by simp)).trans (hat _ _ _ rfl))]; rfl
  have G1 := H1.out w1 b K1.out hb
  have G2 := H2.out w1 b K1.out hb
  have hb' : Hid ((b : Int) < 4294967296) := hb
  clear hw hA hb H1 H2
  by_cases hok : b % 4 = 0 ∧ b < 64 * n
  · rw [if_pos hok] at G1 G2
    generalize wordAt B b = y at G1 G2
    have G1' : Hid (Calls Try.prog 21 #[v, .int .u32 b] w1 fun e w'' => e = .returned (.tuple #[.int .u32 y, .bool true]) ∧ w'' = w1) := G1
    have G2' : Hid (Calls Try.prog 33 #[refV x (64 * n), .int .u32 b] w1 fun e w'' => e = .returned (.tuple #[.int .u32 y, .bool true]) ∧ Kep w1 w'') := G2
    clear G1 G2 hok
    go_wp2_with (first | (go_at_call 21; refine G1'.out.mono ?_; rintro e w2 ⟨rfl, rfl⟩) | (go_at_call 33; refine G2'.out.mono ?_; rintro e w3 ⟨rfl, K3⟩))
    go_ret
    exact ⟨rfl, kep_trans K1.out K3⟩
  · rw [if_neg hok] at G1 G2
    have G1' : Hid (Calls Try.prog 21 #[v, .int .u32 b] w1 fun e w'' => e = .returned (.tuple #[.int .u32 0, .bool false]) ∧ w'' = w1) := G1
    have G2' : Hid (Calls Try.prog 33 #[refV x (64 * n), .int .u32 b] w1 fun e w'' => e = .returned (.tuple #[.int .u32 0, .bool false]) ∧ Kep w1 w'') := G2
    clear G1 G2 hok
    go_wp2_with (first | (go_at_call 21; refine G1'.out.mono ?_; rintro e w2 ⟨rfl, rfl⟩) | (go_at_call 33; refine G2'.out.mono ?_; rintro e w3 ⟨rfl, K3⟩))
    go_ret
    exact ⟨rfl, kep_trans K1.out K3⟩

set_option maxHeartbeats 4000000 in
set_option maxRecDepth 100000 in
theorem step6 (w : World) (v : Value) (x : Option Addr) (q : Nat) (a : Nat) (ha : (a : Int) < 4294967296) (kd z m : Int) (hk : kd < 0 ∨ 5 < kd) (sx : Option Addr) (sl sc : Nat) :
    Calls Try.prog 14 #[v, refV x q, .agg (stepV kd a z sx sl sc m)] w fun e w' => e = .returned (.bool true) ∧ Kep w w' := by
  have hA : Hid (∀ w, Calls Try.prog 20 #[.int .u32 a] w fun e w' => ∃ b : Nat, e = .returned (.int .u32 b) ∧ (b : Int) < 4294967296 ∧ w' = w) := fun w => near_any w a ha
  have k0 : (kd == 0) = false := by simp; omega
  have k1 : (kd == 1) = false := by simp; omega
  have k2 : (kd == 2) = false := by simp; omega
  have k3 : (kd == 3) = false := by simp; omega
  have k4 : (kd == 4) = false := by simp; omega
  have k5 : (kd == 5) = false := by simp; omega
  clear ha hk
  go_enter Try.func14, Try.ntmps14
  go_wp2_with fail
  refine (hA.out _).mono ?_
  rintro e w1 ⟨b, rfl, hb, hw⟩
  have K1 : Hid (Kep w w1) := by rw [hw]; exact ((Kep.refl _).alloc _).alloc _
  have hbx : w1.heap[w.heap.size + 1]? = some (.cells (stepV kd a z sx sl sc m) 31 (0, 0)) := by rw [hw]; exact hat _ _ _ (by simp)
  have c1 : w1.cell? ⟨w.heap.size + 1, 0, none⟩ = some (.int .i64 kd) := by rw [cell_of_block hbx]; rfl
  clear hw hA hb hbx
  go_wp2_with fail
  go_ret
  exact ⟨rfl, K1.out⟩

end Go.Proofs.Ytiegihaagolmdaa
