/- One step: bytes laid. -/
import Derived.Test.YtiegihaagolmdaaMstep
namespace Go.Proofs.Ytiegihaagolmdaa
open Go.RowKit
set_option linter.unusedVariables false

set_option maxHeartbeats 4000000 in
set_option maxRecDepth 100000 in
theorem step4 (w : World) (v : Value) (R n : Nat) (x : Option Addr) (Rb : Nat) (B : List Int) (h : Two w v R n x Rb B) (a : Nat) (ha : (a : Int) < 4294967296) (z m : Int) (sx : Option Addr) (sl sc : Nat) (zs : List Int) (hzl : zs.length = sl) (hzc : sl ≤ sc) (hzm : (sc : Int) ≤ 9223372036854775807) (S : Src w sx zs [R, Rb]) (hzb : Byts zs) :
    Calls Try.prog 14 #[v, refV x B.length, .agg (stepV 4 a z sx sl sc m)] w fun e w' => e = .returned (.bool true) ∧ ∃ C, Two w' v R n x Rb C ∧ Put [R, Rb] w w' := by
  have h' : Hid (Two w v R n x Rb B) := h
  have S' : Hid (Src w sx zs [R, Rb]) := S
  have hA : Hid (∀ w, Calls Try.prog 20 #[.int .u32 a] w fun e w' => ∃ b : Nat, e = .returned (.int .u32 b) ∧ (b : Int) < 4294967296 ∧ w' = w) := fun w => near_any w a ha
  have hlen := h.len
  have hl : ((List.range n).length : Int) ≤ 512 := by have := h.le; simp; omega
  have H1 : Hid (∀ w' (b : Nat), Kep w w' → (b : Int) < 4294967296 → Calls Try.prog 22 #[v, .int .u32 b, .slice sx sl sc] w' fun e w'' => e = .returned (.bool (decide (b + sl ≤ 64 * n))) ∧ Put [R] w' w'' ∧ RowB w'' R (if b + sl ≤ 64 * n then splice B b zs else B)) := fun w' b K hb => by
    have T := h'.out.kep K
    have := fill_put w' v R _ B T.ram hl T.row (fits_range T.len) b hb sx zs sl sc hzl hzc hzm ((S'.out.put (Put.of_kep K)).mono (by simp))
    rw [List.length_range] at this
    by_cases hok : b + sl ≤ 64 * n
    · rw [if_pos hok, layL_range zs B b T.len (by omega)] at this
      rw [if_pos hok]
      exact this
    · rw [if_neg hok] at this ⊢
      exact this
  have H2 : Hid (∀ w' (b : Nat), Refd w' x Rb B → Src w' sx zs [Rb] → (b : Int) < 4294967296 → Calls Try.prog 35 #[refV x (64 * n), .int .u32 b, .slice sx sl sc] w' fun e w'' => e = .returned (.bool (decide (b + sl ≤ 64 * n))) ∧ Put [Rb] w' w'' ∧ RowB w'' Rb (if b + sl ≤ 64 * n then splice B b zs else B)) := fun w' b T Sb hb => by
    have := refFill_any w' x Rb B T b hb sx zs sl sc hzl hzc hzm Sb
    rw [hlen] at this
    exact this
  have H3 : Hid (∀ b : Nat, (if b + sl ≤ 64 * n then splice B b zs else B).length = B.length ∧ Byts (if b + sl ≤ 64 * n then splice B b zs else B)) := fun b => by
    split
    · exact ⟨length_splice _ _ _ (by have := h'.out.len; omega), by rw [← layL_range zs B b h'.out.len (by omega)]; exact Byts.layL _ zs B b h'.out.byts hzb⟩
    · exact ⟨rfl, h'.out.byts⟩
  rw [hlen]
  clear h hlen hl ha S
  go_enter Try.func14, Try.ntmps14
  go_wp2_with fail
  refine (hA.out _).mono ?_
  rintro e w1 ⟨b, rfl, hb, hw⟩
  have K1 : Hid (Kep w w1) := by rw [hw]; exact ((Kep.refl _).alloc _).alloc _
  have hbx : w1.heap[w.heap.size + 1]? = some (.cells (stepV 4 a z sx sl sc m) 31 (0, 0)) := by rw [hw]; exact hat _ _ _ (by simp)
  have hbr : w1.heap[w.heap.size]? = some (.cells #[.slice x (64 * n) (64 * n)] 26 (0, 0)) := by rw [hw]; exact (hsk _ _ _ (by simp)).trans (hat _ _ _ rfl)
  have lx := block_lt hbx
  have c1 : w1.cell? ⟨w.heap.size + 1, 0, none⟩ = some (.int .i64 4) := by rw [cell_of_block hbx]; rfl
  have c3 : w1.cell? ⟨w.heap.size + 1, 3, none⟩ = some (.slice sx sl sc) := by rw [cell_of_block hbx]; rfl
  have c2 : w1.cell? ⟨w.heap.size, 0, none⟩ = some (.slice x (64 * n) (64 * n)) := by rw [cell_of_block hbr]; rfl
  have G1 := fun w' (K : Kep w1 w') => H1.out w' b (kep_trans K1.out K) hb
  have G2 := fun w' T Sb => H2.out w' b T Sb hb
  obtain ⟨hC1, hC2⟩ := H3.out b
  generalize decide (b + sl ≤ 64 * n) = ok at G1 G2
  generalize (if b + sl ≤ 64 * n then splice B b zs else B) = C at G1 G2 hC1 hC2
  have F1 : Hid (Calls Try.prog 22 #[v, .int .u32 b, .slice sx sl sc] w1.drew fun e w'' => e = .returned (.bool ok) ∧ Put [R] w1.drew w'' ∧ RowB w'' R C) := G1 _ (Kep.refl _).drew
  have F2 : Hid (∀ w', Refd w' x Rb B → Src w' sx zs [Rb] → Calls Try.prog 35 #[refV x (64 * n), .int .u32 b, .slice sx sl sc] w' fun e w'' => e = .returned (.bool ok) ∧ Put [Rb] w' w'' ∧ RowB w'' Rb C) := G2
  have T1 : Hid (Two w1 v R n x Rb B) := h'.out.kep K1.out
  have S1 : Hid (Src w1.drew sx zs [R, Rb]) := S'.out.put (Put.of_kep (K1.out.drew))
  have nR := h'.out.lR
  have nRb := h'.out.lRb
  clear hw hA hb H1 H2 H3 G1 G2 hbx hbr
  go_wp2_with fail
  go_region_held3 (fun w' => w'.cell? ⟨w.heap.size, 0, none⟩ = some (.slice x (64 * n) (64 * n)) ∧ w'.cell? ⟨w.heap.size + 1, 3, none⟩ = some (.slice sx sl sc)) (first | assumption | (go_keep; done)) (first
    | (go_at_call 22; refine F1.out.mono ?_; rintro e wa ⟨rfl, P1, R1⟩; have q1 := (P1.cell (k := w.heap.size) (o := 0) (by simp; omega) (by simp; omega)).trans c2; have q2 := (P1.cell (k := w.heap.size + 1) (o := 3) (by simpa using lx) (by simp; omega)).trans c3; have Q1 : Hid (Put [R] w1.drew wa ∧ RowB wa R C) := ⟨P1, R1⟩; clear P1 R1)
    | (go_at_call 35; refine (F2.out _ ((T1.out.kep (Kep.refl _).drew).ref.put Q1.out.1 (by simpa using T1.out.ne.symm)) ((S1.out.put (Q1.out.1.mono (by simp))).mono (by simp))).mono ?_; rintro e wb ⟨rfl, P2, R2⟩; have q3 := (P2.cell (k := w.heap.size) (o := 0) (Nat.lt_of_lt_of_le (by simp; omega) Q1.out.1.size) (by simp; omega)).trans q1; have q4 := (P2.cell (k := w.heap.size + 1) (o := 3) (Nat.lt_of_lt_of_le (by simpa using lx) Q1.out.1.size) (by simp; omega)).trans q2; have Q2 : Hid (Put [Rb] wa wb ∧ RowB wb Rb C) := ⟨P2, R2⟩; clear P2 R2))
  all_goals
    go_wp2_with fail
    go_ret
    have P := T1.out.pair Q1.out Q2.out hC1 hC2
    exact ⟨rfl, C, P.1, (Put.of_kep K1.out).trans P.2⟩

end Go.Proofs.Ytiegihaagolmdaa
