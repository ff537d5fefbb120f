/- What is told behind the calls. -/
import Derived.Test.YthgkkjcemjadoaaSddo
namespace Go.Proofs.Ythgkkjcemjadoaa
open Go.RowKit
set_option linter.unusedVariables false
set_option linter.unusedSimpArgs false

theorem shw_lt {w : World} {p pv R n d f q M : Nat} {Z : List Int} {s : SD} {B : List Int} {L : List Bool} {g m : Int} {F : List Nat} (h : ShW w p pv R n d f q M Z s B L g m F) : p < w.heap.size ∧ R < w.heap.size ∧ q < w.heap.size ∧ M < w.heap.size := by
  obtain ⟨cs0, hb⟩ := h.sh.blk
  obtain ⟨_, ⟨es, c, hM, _⟩, _⟩ := h.pool.set
  exact ⟨block_lt hb, block_lt (h.row h.bnil), block_lt h.pool.box, block_lt hM⟩
theorem DR.begin {w w1 : World} {p pv R q M n : Nat} {B : List Int} (S1 : ShW w1 p pv R 40 8 20 q M Z5 sd0 B (List.replicate n false) 0 0 []) (D1 : DInv 8 sd0 B) (K1 : Kep w w1) (LT : Late w p R q M) :
    DR w (w1.alloc (.cells #[.int .i64 40, .slice none 0 0, .slice none 0 0, .int .i64 n] 32)) p pv R q M w1.heap.size w1.heap.size n [] [] 0 := by
  obtain ⟨l1, l2, l3, l4⟩ := shw_lt S1
  refine ⟨sd0, B, _, [], [], [], [], 0, 0, ⟨S1.kep ((Kep.refl _).alloc _), D1, ⟨_, _, hat _ _ _ rfl, Sli.nil _ _ _, Sli.nil _ _ _⟩, K1.alloc _, ⟨l1, l2, l3, l4, by simp⟩, ⟨Nat.le_refl _, by simp, by simp⟩, K1.size, LT⟩, ⟨?_, ?_, ?_, fun k => ?_⟩, rfl, by omega, by omega⟩
  · exact (pg_zero 512 0).symm
  · rw [nTrue_none]; rfl
  · simp
  · have : sd0.D.getD k 0 = 0 := sd0_D k
    exact ⟨fun h => by simp at h, fun h => absurd this h⟩
theorem repz_at {n j : Nat} {x : Int} (h : j < n) : (List.replicate n x).getD j 0 = x := by simp [List.getD, h]
/-- A frame that is none of the directory's and none of the pool's is as it was. -/
theorem DR.frame {w wr : World} {p pv R q M r b1 most : Nat} {Fs U : List Nat} {k : Nat} (h : DR w wr p pv R q M r b1 most Fs U k) {i : Nat} (hi : i < 40) (h8 : i ≠ 8) (h9 : i ≠ 9) (hp : ¬ (20 ≤ i ∧ i < 20 + most)) :
    Calls Try.prog 19 #[.pointer (some ⟨pv, 0, none⟩), .int .i64 i] wr fun e w' => e = .returned (.slice (some ⟨wr.heap.size, 0, none⟩) 64 64) ∧ Kep wr w' ∧ ∀ w'', Kep w' w'' → ∀ j : Nat, j < 64 → w''.cell? ⟨wr.heap.size, j, none⟩ = some (.int .u8 165) := by
  obtain ⟨s, B, L, T, P, F, G, g, m, D, E, _⟩ := h
  have S := D.sh
  have hlB := S.inv.lB
  refine (frame_yes wr _ R (List.range 40) B S.ram S.row (fits_range hlB) i (by simpa using hi)).mono ?_
  rintro e w' ⟨rfl, K, hb⟩
  refine ⟨rfl, K, fun w'' K' j hj => ?_⟩
  have hb' := K'.block hb
  rw [cell_of_block hb']
  have hg : (List.range 40).getD i 0 = i := by simp [List.getD, hi]
  have hrest := S.inv.rest (64 * i + j) (by omega) (by omega) (by rw [E.most]; omega)
  have hz : Z5.getD (64 * i + j) 0 = 165 := repz_at (by omega)
  rw [hz] at hrest
  rw [hg]
  have hlen : 64 * i + j < B.length := by omega
  have e1 : (frameL B i)[j]? = some 165 := by
    unfold frameL
    rw [List.getElem?_take_of_lt hj, List.getElem?_drop, List.getElem?_eq_getElem hlen]
    have : B.getD (64 * i + j) 0 = B[64 * i + j] := by simp [List.getD, hlen]
    rw [← this, hrest]
  have e2 : (byt (frameL B i))[j]? = some (.int .u8 165) := by simp [byt, e1]
  simpa using e2
end Go.Proofs.Ythgkkjcemjadoaa
