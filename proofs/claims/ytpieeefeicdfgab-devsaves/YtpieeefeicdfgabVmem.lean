/- The law's memory: five frames of unlike bytes, twice. -/
import Derived.Test.YtpieeefeicdfgabVworks
namespace Go.Proofs.Ytpieeefeicdfgab
open Go.RowKit
set_option linter.unusedVariables false
set_option linter.unusedSimpArgs false

/-- What the law's memory is amid its loop. -/
def MemI (w : World) (p R Rb g : Nat) (W : World) : Prop := ∃ B, Two W (.pointer (some ⟨p, 0, none⟩)) R 5 (some ⟨Rb, 0, none⟩) Rb B ∧ Kep w W ∧ W.heap[w.heap.size]? = some (.cells #[.slice none 0 0] 42 (0, 0)) ∧ W.heap[g]? = some (.cells #[.slice (some ⟨Rb, 0, none⟩) 320 320] 42 (0, 0))
set_option maxRecDepth 100000 in
set_option maxHeartbeats 4000000 in
theorem memory_any (w : World) : Calls Try.prog 13 #[] w fun e w' => ∃ (p R Rb : Nat) (B : List Int), e = .returned (.tuple #[.pointer (some ⟨p, 0, none⟩), refV (some ⟨Rb, 0, none⟩) (64 * 5)]) ∧ Two w' (.pointer (some ⟨p, 0, none⟩)) R 5 (some ⟨Rb, 0, none⟩) Rb B ∧ Kep w w' ∧ w.heap.size ≤ R ∧ w.heap.size ≤ Rb := by
  have hN : Hid (∀ w, Calls Try.prog 38 #[.int .i64 5] w fun e w' => ∃ p : Nat, e = .returned (.tuple #[.pointer (some ⟨p, 0, none⟩), .int .i64 0]) ∧ Own w w' (.pointer (some ⟨p, 0, none⟩)) w.heap.size 5 (List.replicate (64 * 5) 0)) := fun w => new_any w 5 (by omega) (by omega)
  have hR : Hid (∀ w, Calls Try.prog 39 #[.int .i64 5] w fun e w' => e = .returned (refV (some ⟨w.heap.size + 1, 0, none⟩) (64 * 5)) ∧ Kep w w' ∧ w'.heap[w.heap.size + 1]? = some (.cells (byt (List.replicate (64 * 5) 0)).toArray 5 (0, 0))) := fun w => refNew_any w 5 (by omega) (by omega)
  go_enter Try.func13, Try.ntmps13
  go_wp2_with fail
  refine (hN.out _).mono ?_
  rintro e w1 ⟨p, rfl, O⟩
  have O' : Hid (Own (w.alloc (.cells #[.slice none 0 0] 42)) w1 (.pointer (some ⟨p, 0, none⟩)) (w.alloc (.cells #[.slice none 0 0] 42)).heap.size 5 (List.replicate (64 * 5) 0)) := O
  have hb1 : Hid (w1.heap[w.heap.size]? = some (.cells #[.slice none 0 0] 42 (0, 0))) := O.kep.block (hat _ _ _ rfl)
  clear O hN
  go_wp2_with fail
  refine (hR.out _).mono ?_
  rintro e w4 ⟨rfl, K4, B4⟩
  have K4' : Hid (Kep w1 w4) := K4
  have B4' : Hid (w4.heap[w1.heap.size + 1]? = some (.cells (byt (List.replicate (64 * 5) 0)).toArray 5 (0, 0))) := B4
  clear K4 B4 hR
  go_wp2_with fail
  obtain ⟨W0, hW0⟩ : ∃ W0, Hid (W0 = (w4.alloc (.cells #[.slice (some ⟨w1.heap.size + 1, 0, none⟩) (64 * 5) (64 * 5)] 42))) := ⟨_, rfl⟩
  rw [show w4.alloc (.cells #[.slice (some ⟨w1.heap.size + 1, 0, none⟩) (64 * 5) (64 * 5)] 42) = W0 from hW0.out.symm]
  have A0 : Hid (MemI w p (w.heap.size + 1) (w1.heap.size + 1) w4.heap.size W0) := by
    have r4 := O'.out.ram.kep K4'.out
    have hw4 := O'.out.row.kep K4'.out
    have sz := O'.out.sz
    have k1 := K4'.out.size
    simp only [World.size_alloc] at r4 hw4 sz
    have K5 : Kep w4 W0 := by rw [hW0.out]; exact (Kep.refl _).alloc _
    have hne : (List.replicate (64 * 5) (0 : Int)) ≠ [] := by intro e; have := congrArg List.length e; simp at this
    have r5 := r4.kep K5
    have b5 := K5.block B4'.out
    have hw5 := hw4.kep K5
    refine ⟨_, ⟨r5, hw5, ⟨fun _ => b5, fun _ => rfl, by simp⟩, by simp, byts_zero _, by omega, by omega, off_of r5 (fun _ => b5) hne, hw5.lt hne, block_lt b5⟩, kep_trans (kep_trans (kep_trans ((Kep.refl w).alloc _) O'.out.kep) K4'.out) K5, (kep_trans K4'.out K5).block hb1.out, ?_⟩
    rw [hW0.out]; exact hat _ _ _ rfl
  have hRb : w.heap.size < w1.heap.size + 1 := by have h4 := O'.out.sz; simp only [World.size_alloc] at h4; omega
  have hgw : Hid (w.heap.size < w4.heap.size ∧ w.heap.size + 1 < w4.heap.size ∧ w1.heap.size + 1 < w4.heap.size) := by
    have h2 := K4'.out.size; have h3 := block_lt B4'.out
    have h4 := O'.out.sz; simp only [World.size_alloc] at h4
    exact ⟨by omega, by omega, h3⟩
  clear hW0 O' hb1 K4' B4'
  generalize w1.heap.size + 1 = Rb at A0 hRb hgw
  generalize hR1 : w.heap.size + 1 = R at A0 hgw
  have hRle : w.heap.size ≤ R := by omega
  have hRlt : w.heap.size < R := by omega
  clear hR1
  go_loopw [5] (fun i wr => ∃ k : Nat, (k : Int) ≤ 320 ∧ i = .int .i64 k ∧ Hid (MemI w p R Rb w4.heap.size wr)) (fun i _ => 400 - (intOf i).toNat)
  case atStart => exact ⟨0, by omega, rfl, A0⟩
  case round =>
    obtain ⟨k, hk, rfl, A⟩ := hrel
    clear A0
    by_cases hlt : (k : Int) < 320
    · obtain ⟨B, T, K, b1, b2⟩ := A.out
      have hl : ((List.range 5).length : Int) ≤ 512 := by decide
      have hBl : B.length = 320 := T.len
      have F1 : Hid (∀ b : Int, Calls Try.prog 40 #[.pointer (some ⟨p, 0, none⟩), .int .u32 k, .int .u8 b] wr fun e w' => e = .returned (.bool true) ∧ Put [R] wr w' ∧ RowB w' R (B.set k b)) := fun b => by
        have := setByte_put wr _ R _ B T.ram hl T.row (fits_range T.len) k (by omega) b
        rw [List.length_range, if_pos (by omega), pos_range (by omega), decide_eq_true (by omega)] at this
        exact this
      have F2 : Hid (∀ (w' : World) (b : Int), Refd w' (some ⟨Rb, 0, none⟩) Rb B → Calls Try.prog 41 #[refV (some ⟨Rb, 0, none⟩) 320, .int .u32 k, .int .u8 b] w' fun e w'' => e = .returned (.bool true) ∧ Put [Rb] w' w'' ∧ RowB w'' Rb (B.set k b)) := fun w' b H => by
        have := refSetByte_any w' _ Rb B H k (by omega) b
        rw [hBl, if_pos (by omega), decide_eq_true (by omega)] at this
        exact this
      have hT : Hid (Two wr (.pointer (some ⟨p, 0, none⟩)) R 5 (some ⟨Rb, 0, none⟩) Rb B) := T
      have hK : Hid (Kep w wr) := K
      have hb1 : Hid (wr.heap[w.heap.size]? = some (.cells #[.slice none 0 0] 42 (0, 0))) := b1
      have hb2 : Hid (wr.heap[w4.heap.size]? = some (.cells #[.slice (some ⟨Rb, 0, none⟩) 320 320] 42 (0, 0))) := b2
      have lg := block_lt b2
      clear T K b1 b2 A hl hBl
      go_wp2_with fail
      refine (F1.out ((k : Int) * 7 % 256)).mono ?_
      rintro e w5 ⟨rfl, P1, R1⟩
      have hP1 : Hid (Put [R] wr w5) := P1
      have hR1 : Hid (RowB w5 R (B.set k ((k : Int) * 7 % 256))) := R1
      have c2 : w5.cell? ⟨w4.heap.size, 0, none⟩ = some (.slice (some ⟨Rb, 0, none⟩) 320 320) := by
        rw [cell_of_block (P1.keeps hb2.out (by simp; have := hgw.out; omega))]; rfl
      clear P1 R1
      go_wp2_with fail
      refine (F2.out w5 ((k : Int) * 7 % 256) (hT.out.ref.put hP1.out (by simpa using hT.out.ne.symm))).mono ?_
      rintro e w6 ⟨rfl, P2, R2⟩
      have A6 : Hid (MemI w p R Rb w4.heap.size w6) := by
        have hg := hgw.out
        have PP : Put [R, Rb] wr w6 := (hP1.out.mono (by simp)).trans (P2.mono (by simp))
        refine ⟨_, hT.out.put PP (hR1.out.put P2 (by simpa using hT.out.ne)) R2 (by simp) (hT.out.byts.set _ (by omega) (by omega)), hK.out.put PP (by simp; exact ⟨by omega, by omega⟩), PP.keeps hb1.out (by simp; exact ⟨by omega, by omega⟩), PP.keeps hb2.out (by simp; exact ⟨by omega, by omega⟩)⟩
      clear P2 R2
      go_wp2_with fail
      go_roundw
      case rel => exact ⟨k + 1, by omega, by go_num, A6⟩
      case measure => simp [intOf]; omega
    · obtain rfl : k = 320 := by omega
      obtain ⟨B, T, K, b1, b2⟩ := A.out
      have hb1 : Hid (wr.heap[w.heap.size]? = some (.cells #[.slice none 0 0] 42 (0, 0))) := b1
      have hT : Hid (Two wr (.pointer (some ⟨p, 0, none⟩)) R 5 (some ⟨Rb, 0, none⟩) Rb B) := T
      have hK : Hid (Kep w wr) := K
      have c1 : wr.cell? ⟨w.heap.size, 0, none⟩ = some (.slice none 0 0) := by rw [cell_of_block b1]; rfl
      have f1 : wr.frozen? ⟨w.heap.size, 0, none⟩ = false := by simp [World.frozen?, b1]
      have c2 : wr.cell? ⟨w4.heap.size, 0, none⟩ = some (.slice (some ⟨Rb, 0, none⟩) 320 320) := by rw [cell_of_block b2]; rfl
      have hlb := block_lt b1
      clear T K b1 b2 A
      go_wp2_with fail
      go_region
      all_goals
        go_wp2_with fail
        refine bodyPost_ret (results2c rfl _ _ w.heap.size 42 #[.slice (some ⟨Rb, 0, none⟩) 320 320] (0, 0) _ rfl ?_ Try.underlying42 rfl size_ref) rfl ⟨p, R, Rb, B, rfl, ?_, ?_, hRle, by omega⟩
        · exact (heap_setCell_row ((Kep.refl wr).drew.block hb1.out) _).trans (by simp)
        · have P5 : Put [w.heap.size] wr (wr.drew.setCell ⟨w.heap.size, 0, none⟩ (.slice (some ⟨Rb, 0, none⟩) 320 320)) := (Put.of_kep ((Kep.refl wr).drew)).setCell (by simp) _
          have T := hT.out
          have hg := hgw.out
          have r5 := T.ram.off P5 (off_tag T.ram hb1.out (by decide) (by decide))
          have hw5 := T.row.put P5 (by simp; omega)
          have hr5 := T.ref.put P5 (by simp; omega)
          have hne : B ≠ [] := by intro e; have := T.len; rw [e] at this; simp at this
          exact ⟨r5, hw5, hr5, T.len, T.byts, T.ne, T.le, off_of r5 hr5.row hne, hw5.lt hne, hr5.row.lt hne⟩
        · exact (kep_trans hK.out ((Kep.refl wr).drew)).setCell (by simp) _
end Go.Proofs.Ytpieeefeicdfgab
