/- What is wrong with a script and a disk, by the document. -/
import Derived.Test.YtpieeefeicdfgabVopen
import Derived.ChangeKeysEq
namespace Go.Proofs.Ytpieeefeicdfgab
open Go.RowKit
set_option linter.unusedVariables false
set_option linter.unusedSimpArgs false

theorem evf_same {P : Program} (w : World) (d : Nat) (xs : Array Value) : ∀ (fs : List Field), (∀ f ∈ fs, ∃ v, (Go.part f.type xs f.offset).run P w = .ok v w ∧ (Op.equalIn d f.type v v).run P w = .ok true w) → (Op.eqFields d xs xs fs).run P w = .ok true w
  | [], _ => by simp [Op.eqFields]
  | f :: fs, h => by
    obtain ⟨v, h1, h2⟩ := h f (by simp)
    have ih := evf_same w d xs fs (fun g hg => h g (by simp [hg]))
    simp only [Op.eqFields]
    split
    · simp only [Sem.run_bind, h1, h2, Result.andThen_ok, Bool.not_true, Bool.false_eq_true, if_false]
      exact ih
    · exact ih
theorem ev_same (a b c : Int) (w : World) : (Op.equalIn 10000 68 (.agg #[.int .i64 a, .int .i64 b, .int .u8 c]) (.agg #[.int .i64 a, .int .i64 b, .int .u8 c])).run Try.prog w = .ok true w := by
  rw [run_equalIn_agg (P := Try.prog) w 9999 68 _ _ (by kernel_rfl) (by kernel_rfl)]
  refine evf_same w 9999 _ _ (fun f hf => ?_)
  have hall : ((Try.prog.fieldsOf 68).toList.all fun f => (f.type == 3 && f.offset == 0) || (f.type == 3 && f.offset == 1) || (f.type == 5 && f.offset == 2)) = true := by kernel_rfl
  have h := List.all_eq_true.1 hall f hf
  simp only [Bool.or_eq_true, Bool.and_eq_true, beq_iff_eq] at h
  rcases h with (⟨h1, h2⟩ | ⟨h1, h2⟩) | ⟨h1, h2⟩
  all_goals rw [h1, h2]
  · exact ⟨.int .i64 a, by kernel_rfl, by rw [run_equalIn_int w 9998 _ _ _ _ _ Try.underlying3]; simp⟩
  · exact ⟨.int .i64 b, by kernel_rfl, by rw [run_equalIn_int w 9998 _ _ _ _ _ Try.underlying3]; simp⟩
  · exact ⟨.int .u8 c, by kernel_rfl, by rw [run_equalIn_int w 9998 _ _ _ _ _ Try.underlying5]; simp⟩
theorem any_take {α : Type} (f : α → Bool) (E : List α) (k : Nat) (h : (E.take k).any f = true) : E.any f = true := by
  rw [List.any_eq_true] at h ⊢
  obtain ⟨y, hy, h2⟩ := h
  exact ⟨y, List.mem_of_mem_take hy, h2⟩
set_option maxHeartbeats 2000000 in
theorem error_any (w : World) (x : Option Addr) (n cap : Nat) (E : List Ev) (hE : EvRow w x n cap E) (y : Option Addr) (m c : Nat) (Z : List Int) (hz : Z.length = m) (hmc : m ≤ c) (hmax : (c : Int) ≤ 9223372036854775807) :
    Calls Try.prog 22 #[.slice x n cap, .slice y m c] w fun e w' => e = .returned (.int .i64 (errI E Z)) ∧ Kep w w' := by
  have hl := hE.hl
  have hnc := hE.hle
  have hcm := hE.hmax
  by_cases h1 : 64 < n
  · have t1 : decide ((64 : Int) < n) = true := decide_eq_true (by omega)
    have ev : Hid (errI E Z = 3) := by unfold Hid errI; rw [if_pos (by omega)]
    rw [ev.out]
    clear hE
    go_enter Try.func22, Try.ntmps22
    go_wp2_with fail
    go_ret
    exact ⟨rfl, Kep.refl _⟩
  have t1 : decide ((64 : Int) < n) = false := decide_eq_false (by omega)
  by_cases h2 : 2048 < m
  · have t2 : decide ((2048 : Int) < m) = true := decide_eq_true (by omega)
    have ev : Hid (errI E Z = 3) := by unfold Hid errI; rw [if_pos (by omega)]
    rw [ev.out]
    clear hE
    go_enter Try.func22, Try.ntmps22
    go_wp2_with fail
    go_ret
    exact ⟨rfl, Kep.refl _⟩
  have t2 : decide ((2048 : Int) < m) = false := decide_eq_false (by omega)
  have ev : Hid (errI E Z = if E.any wrongB = true ∨ m % 64 ≠ 0 then 2 else 0) := by unfold Hid errI; rw [if_neg (by omega), hz]
  rw [ev.out]
  obtain ⟨r, hr⟩ : ∃ r : Int, Hid (r = if E.any wrongB = true ∨ m % 64 ≠ 0 then 2 else 0) := ⟨_, rfl⟩
  rw [← hr.out]
  have h' : Hid (EvRow w x n cap E) := hE
  have hl' : Hid (E.length = n) := hl
  have hn64 : (n : Int) ≤ 64 := by omega
  have hn2 : (n : Int) ≤ cap := by omega
  have hm2 : (m : Int) ≤ 2048 := by omega
  clear hE hl hz h1 h2 ev
  go_enter Try.func22, Try.ntmps22
  go_wp2_with fail
  go_loopw [5, 6] (fun i _ wr => ∃ k : Nat, (k : Int) ≤ n ∧ i = .int .i64 k ∧ Hid (Kep w wr) ∧ Hid ((E.take k).any wrongB = false)) (fun i _ _ => n - (intOf i).toNat)
  case atStart => exact ⟨0, by omega, rfl, Kep.refl _, by simp [Hid]⟩
  case round =>
    obtain ⟨k, hk, rfl, K, hw⟩ := hrel
    by_cases hlt : k < n
    · have hlt' : (k : Int) < n := by omega
      have hln := hl'.out
      obtain ⟨e, he⟩ : ∃ e, E[k]? = some e := ⟨_, List.getElem?_eq_getElem (by omega)⟩
      rcases (h'.out.lies.kep K.out) with h0 | ⟨b, off, rfl, hb, hcell⟩
      · have := evs_len E; rw [h0] at this; simp at this; omega
      obtain ⟨ea, eb, ec⟩ := e
      have c0 : wr.cell? ⟨b, off + k * 3, none⟩ = some (.int .i64 ea) := hcell _ _ (by have := evs_at E k _ he 0 (by omega); simpa [evV] using this)
      have c1 : wr.cell? ⟨b, off + k * 3 + 1, none⟩ = some (.int .i64 eb) := by rw [Nat.add_assoc]; exact hcell _ _ (by have := evs_at E k _ he 1 (by omega); simpa [evV] using this)
      have c2 : wr.cell? ⟨b, off + k * 3 + 2, none⟩ = some (.int .u8 ec) := by rw [Nat.add_assoc]; exact hcell _ _ (by have := evs_at E k _ he 2 (by omega); simpa [evV] using this)
      have hstep : Hid ((E.take (k + 1)).any wrongB = ((E.take k).any wrongB || wrongB (ea, eb, ec))) := by
        rw [Hid, List.take_add_one, he]; simp
      have KA : Hid (Kep w (wr.alloc (.cells #[.int .i64 ea, .int .i64 eb, .int .u8 ec] 68))) := K.out.alloc _
      clear hcell he hln
      rcases (by omega : eb < 0 ∨ (0 ≤ eb ∧ 2 < eb) ∨ (0 ≤ eb ∧ eb ≤ 2 ∧ ea < 0) ∨ (0 ≤ eb ∧ eb ≤ 2 ∧ 0 ≤ ea ∧ 1073741824 < ea) ∨ (0 ≤ eb ∧ eb ≤ 2 ∧ 0 ≤ ea ∧ ea ≤ 1073741824 ∧ eb ≠ 1 ∧ ec ≠ 0) ∨ (0 ≤ eb ∧ eb ≤ 2 ∧ 0 ≤ ea ∧ ea ≤ 1073741824 ∧ eb ≠ 1 ∧ ec = 0) ∨ (0 ≤ eb ∧ eb ≤ 2 ∧ 0 ≤ ea ∧ ea ≤ 1073741824 ∧ eb = 1)) with g1 | ⟨g1, g2⟩ | ⟨g1, g2, g3⟩ | ⟨g1, g2, g3, g4⟩ | ⟨g1, g2, g3, g4, g5, g6⟩ | ⟨g1, g2, g3, g4, g5, g6⟩ | ⟨g1, g2, g3, g4, g5⟩
      · have hwr : Hid (wrongB (ea, eb, ec) = true) := by unfold Hid wrongB; simp; omega
        go_wp2_with fail
        go_ret
        refine ⟨ret_int ?_, KA.out⟩
        rw [hr.out, if_pos (.inl (any_take wrongB E (k + 1) (by rw [hstep.out, hwr.out]; simp)))]
      · have hwr : Hid (wrongB (ea, eb, ec) = true) := by unfold Hid wrongB; simp; omega
        go_wp2_with fail
        go_ret
        refine ⟨ret_int ?_, KA.out⟩
        rw [hr.out, if_pos (.inl (any_take wrongB E (k + 1) (by rw [hstep.out, hwr.out]; simp)))]
      · have hwr : Hid (wrongB (ea, eb, ec) = true) := by unfold Hid wrongB; simp; omega
        go_wp2_with fail
        go_ret
        refine ⟨ret_int ?_, KA.out⟩
        rw [hr.out, if_pos (.inl (any_take wrongB E (k + 1) (by rw [hstep.out, hwr.out]; simp)))]
      · have hwr : Hid (wrongB (ea, eb, ec) = true) := by unfold Hid wrongB; simp; omega
        go_wp2_with fail
        go_ret
        refine ⟨ret_int ?_, KA.out⟩
        rw [hr.out, if_pos (.inl (any_take wrongB E (k + 1) (by rw [hstep.out, hwr.out]; simp)))]
      · have hwr : Hid (wrongB (ea, eb, ec) = true) := by unfold Hid wrongB; simp; omega
        have t5 : (eb != 1) = true := by simp; omega
        have t6 : (ec != 0) = true := by simp; omega
        clear g5 g6
        go_wp2_with fail
        go_ret
        refine ⟨ret_int ?_, KA.out⟩
        rw [hr.out, if_pos (.inl (any_take wrongB E (k + 1) (by rw [hstep.out, hwr.out]; simp)))]
      · have hwr : Hid (wrongB (ea, eb, ec) = false) := by unfold Hid wrongB; simp; omega
        have t5 : (eb != 1) = true := by simp; omega
        have t6 : (ec != 0) = false := by simp; omega
        clear g5 g6
        go_wp2_with fail
        go_roundw
        case rel => exact ⟨k + 1, by omega, by go_num, KA, by rw [Hid, hstep.out, hw.out, hwr.out]; rfl⟩
        case measure => simp [intOf]; omega
      · have hwr : Hid (wrongB (ea, eb, ec) = false) := by unfold Hid wrongB; simp; omega
        have t5 : (eb != 1) = false := by simp; omega
        clear g5
        go_wp2_with fail
        go_roundw
        case rel => exact ⟨k + 1, by omega, by go_num, KA, by rw [Hid, hstep.out, hw.out, hwr.out]; rfl⟩
        case measure => simp [intOf]; omega
    · have hall : Hid (E.any wrongB = false) := by
        have := hw.out
        rw [List.take_of_length_le (by have := hl'.out; omega)] at this
        exact this
      by_cases h6 : m % 64 = 0
      · have t3 : ((m : Int) % 64 != 0) = false := by simp; omega
        go_wp2_with fail
        go_ret
        exact ⟨ret_int (by rw [hr.out, if_neg (by rw [hall.out]; simp [h6])]), K.out⟩
      · have t3 : ((m : Int) % 64 != 0) = true := by simp; omega
        go_wp2_with fail
        go_ret
        exact ⟨ret_int (by rw [hr.out, if_pos (.inr h6)]), K.out⟩
end Go.Proofs.Ytpieeefeicdfgab
