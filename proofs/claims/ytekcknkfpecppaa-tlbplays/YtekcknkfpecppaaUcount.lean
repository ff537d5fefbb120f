/- A TLB is made; its counts are told, and grow by one. -/
import Derived.Test.YtekcknkfpecppaaUbase
import Derived.Laws.LoneSync
import Derived.BigRegion
namespace Go.Proofs.Ytekcknkfpecppaa
open Go.RowKit
set_option linter.unusedVariables false

theorem aload_any (a : Addr) (d : Int) (w : World) (h0 : w.cell? a = some (.int .i64 d)) :
    Calls Try.prog 20 #[.pointer (some a)] w fun e w' => e = .returned (.int .i64 d) ∧ w' = w := by
  have hl := run_call_load (P := Try.prog) Try.func24 (by kernel_rfl) (by kernel_rfl) (by kernel_rfl) .i64 (by kernel_rfl) h0
  go_enter Try.func20, Try.ntmps20
  go_wp2
  go_ret
  exact ⟨rfl, rfl⟩

theorem aadd_any (a : Addr) (d : Int) (h0 : 0 ≤ d) (h1 : d < 1000000) (w : World) (hc : w.cell? a = some (.int .i64 d)) (hz : w.frozen? a = false) :
    Calls Try.prog 23 #[.pointer (some a), .int .i64 1] w fun e w' => e = .returned (.int .i64 (d + 1)) ∧ w' = w.setCell a (.int .i64 (d + 1)) := by
  have hadd := run_call_add (P := Try.prog) Try.func25 (by kernel_rfl) (by kernel_rfl) (by kernel_rfl) .i64 (by kernel_rfl) (y := 1) (s := d + 1) hc hz (by simp only [Op.intArith]; simp [go_sem]; rw [IntKind.wrap_i64]; omega)
  go_enter Try.func23, Try.ntmps23
  go_wp2
  go_ret
  exact ⟨rfl, rfl⟩

theorem Tlb.hit {w : World} {p R : Nat} {S : List Sl} {h m : Int} (T : Tlb w p R S h m) (b : Int) : Tlb (w.setCell ⟨p, 1, none⟩ (.int .i64 b)) p R S b m :=
  ⟨(heap_setCell_row T.box _).trans rfl, (heap_setCell_other _ _ _ _ T.ne.symm).trans T.row, T.ne, T.pos, T.le⟩
theorem Tlb.miss {w : World} {p R : Nat} {S : List Sl} {h m : Int} (T : Tlb w p R S h m) (b : Int) : Tlb (w.setCell ⟨p, 2, none⟩ (.int .i64 b)) p R S h b :=
  ⟨(heap_setCell_row T.box _).trans rfl, (heap_setCell_other _ _ _ _ T.ne.symm).trans T.row, T.ne, T.pos, T.le⟩

theorem count_yes (w : World) (p R : Nat) (S : List Sl) (h m : Int) (T : Tlb w p R S h m) (h0 : 0 ≤ h) (h1 : h < 1000000) :
    Calls Try.prog 19 #[.pointer (some ⟨p, 0, none⟩), .bool true] w fun e w' => e = .returned (.tuple #[]) ∧ Tlb w' p R S (h + 1) m ∧ Put [p] w w' := by
  have H : Hid (Calls Try.prog 23 #[.pointer (some ⟨p, 1, none⟩), .int .i64 1] w fun e w' => e = .returned (.int .i64 (h + 1)) ∧ w' = w.setCell ⟨p, 1, none⟩ (.int .i64 (h + 1))) := aadd_any _ h h0 h1 w T.c1 (by simp [World.frozen?, T.box])
  have c1 := T.c1
  have T' : Hid (Tlb w p R S h m) := T
  clear T
  go_enter Try.func19, Try.ntmps19
  go_wp2_with (go_at_call 23; refine H.out.mono ?_; rintro e w1 ⟨rfl, rfl⟩)
  go_end0
  exact ⟨rfl, T'.out.hit _, (Put.refl _).setCell (by simp) _⟩
theorem count_no (w : World) (p R : Nat) (S : List Sl) (h m : Int) (T : Tlb w p R S h m) (h0 : 0 ≤ m) (h1 : m < 1000000) :
    Calls Try.prog 19 #[.pointer (some ⟨p, 0, none⟩), .bool false] w fun e w' => e = .returned (.tuple #[]) ∧ Tlb w' p R S h (m + 1) ∧ Put [p] w w' := by
  have H : Hid (Calls Try.prog 23 #[.pointer (some ⟨p, 2, none⟩), .int .i64 1] w fun e w' => e = .returned (.int .i64 (m + 1)) ∧ w' = w.setCell ⟨p, 2, none⟩ (.int .i64 (m + 1))) := aadd_any _ m h0 h1 w T.c2 (by simp [World.frozen?, T.box])
  have c1 := T.c2
  have T' : Hid (Tlb w p R S h m) := T
  clear T
  go_enter Try.func19, Try.ntmps19
  go_wp2_with (go_at_call 23; refine H.out.mono ?_; rintro e w1 ⟨rfl, rfl⟩)
  go_end0
  exact ⟨rfl, T'.out.miss _, (Put.refl _).setCell (by simp) _⟩

set_option maxHeartbeats 1000000 in
theorem counts_any (w : World) (p R : Nat) (S : List Sl) (h m : Int) (T : Tlb w p R S h m) :
    Calls Try.prog 12 #[.pointer (some ⟨p, 0, none⟩)] w fun e w' => e = .returned (.tuple #[.int .i64 h, .int .i64 m]) ∧ Kep w w' := by
  have M : Hid (Calls Try.prog 17 #[.pointer (some ⟨p, 0, none⟩)] w fun e w' => e = .returned (.bool true) ∧ w' = w) := made_yes w p _ _ T.pos T.c0
  have H1 : Hid (∀ w, w.cell? ⟨p, 1, none⟩ = some (.int .i64 h) → Calls Try.prog 20 #[.pointer (some ⟨p, 1, none⟩)] w fun e w' => e = .returned (.int .i64 h) ∧ w' = w) := fun w => aload_any _ h w
  have H2 : Hid (∀ w, w.cell? ⟨p, 2, none⟩ = some (.int .i64 m) → Calls Try.prog 20 #[.pointer (some ⟨p, 2, none⟩)] w fun e w' => e = .returned (.int .i64 m) ∧ w' = w) := fun w => aload_any _ m w
  have c0 := T.c0
  have c1 := T.c1
  have c2 := T.c2
  clear T
  go_enter Try.func12, Try.ntmps12
  go_wp2_with (go_at_call 17; refine M.out.mono ?_; rintro e w1 ⟨rfl, rfl⟩)
  go_quiet ((go_at_call 20; first | exact (H1.out _ (by assumption)).mono fun _ _ h => ⟨h.1, _, h.2⟩ | exact (H2.out _ (by assumption)).mono fun _ _ h => ⟨h.1, _, h.2⟩))
  go_wp2_with fail
  go_ret2
  exact ⟨rfl, (Kep.refl _).drewN _⟩
theorem counts_no (w : World) (v : Value) (h : v = .pointer none ∨ ∃ p : Nat, v = .pointer (some ⟨p, 0, none⟩) ∧ w.cell? ⟨p, 0, none⟩ = some (.slice none 0 0)) :
    Calls Try.prog 12 #[v] w fun e w' => e = .returned (.tuple #[.int .i64 0, .int .i64 0]) ∧ w' = w := by
  have M : Hid (Calls Try.prog 17 #[v] w fun e w' => e = .returned (.bool false) ∧ w' = w) := made_no w v h
  clear h
  go_enter Try.func12, Try.ntmps12
  go_wp2_with (go_at_call 17; refine M.out.mono ?_; rintro e w1 ⟨rfl, rfl⟩)
  go_ret2
  exact ⟨rfl, rfl⟩

theorem info_slot : (Try.prog.info? 61).map (fun i => (i.zero, i.size, i.bytes)) = some (some (.agg #[.bool false, .int .u32 0, .int .u32 0, .int .i64 0]), 4, 24) := by kernel_rfl
theorem made_slots (n : Nat) : madeCells (slV none).toArray (n * 4) = (slots (List.replicate n none)).toArray := by
  apply Array.ext
  · simp [madeCells, slots_len]; omega
  · intro i h1 h2
    have hi : i < n * 4 := by rw [size_madeCells] at h1; exact h1
    have h3 := slots_at (List.replicate n none) (i / 4) none (by rw [List.getElem?_replicate, if_pos (by omega)]) (i % 4) (by omega)
    rw [show 4 * (i / 4) + i % 4 = i by omega] at h3
    have h4 : i % 4 < (slV none).length := by rw [slV_len]; omega
    rw [List.getElem?_eq_getElem h4, List.getElem?_eq_some_iff] at h3
    obtain ⟨_, h3⟩ := h3
    simp [madeCells, slV_len, h3]
    rw [List.getElem?_eq_getElem h4]; rfl
theorem make_slots (s : Nat) (hs : s ≤ 64) (w : World) : Sem.run Try.prog (Instr.makeSlice 42 (.int .i64 s) (.int .i64 s)) w = .ok (.slice (some ⟨w.heap.size, 0, none⟩) s s) (w.alloc (.cells (slots (List.replicate s none)).toArray 61)) := by
  obtain ⟨i, hi, hz0, hz1, hz2⟩ := info_parts info_slot
  have := run_make (P := Try.prog) w 42 61 i _ Try.underlying42 hi hz0 .i64 .i64 s s (by omega) (by omega) (by rw [hz2]; omega) (by omega)
  rw [hz1] at this
  rw [← made_slots]
  exact this

theorem new_any (w : World) (n : Nat) (h1 : (1 : Int) ≤ n) (h2 : (n : Int) ≤ 64) :
    Calls Try.prog 13 #[.int .i64 n] w fun e w' => e = .returned (.tuple #[.pointer (some ⟨w.heap.size + 1, 0, none⟩), .int .i64 0]) ∧ Kep w w' ∧ Tlb w' (w.heap.size + 1) w.heap.size (List.replicate n none) 0 0 := by
  have m1 := make_slots n (by omega)
  have g3 : decide ((n : Int) < 1) = false := decide_eq_false (by omega)
  generalize hX : (slots (List.replicate n none)).toArray = X at m1
  have hX' : Hid ((slots (List.replicate n none)).toArray = X) := hX
  clear hX
  go_enter Try.func13, Try.ntmps13
  go_wp2
  go_ret2
  refine ⟨rfl, ((Kep.refl _).alloc _).alloc _, ?_, ?_, by omega, by simp; omega, by simp; omega⟩
  · rw [List.length_replicate]; exact hat _ _ _ (by simp)
  · rw [hX'.out]
    exact (hsk _ _ _ (by simp)).trans (hat _ _ _ rfl)
theorem new_no (w : World) (n : Int) (h : n < 1 ∨ 64 < n) :
    Calls Try.prog 13 #[.int .i64 n] w fun e w' => e = .returned (.tuple #[.pointer none, .int .i64 2]) ∧ w' = w := by
  rcases (by omega : n < 1 ∨ (1 ≤ n ∧ 64 < n)) with h | ⟨h, h'⟩
  · have g3 : decide (n < 1) = true := decide_eq_true (by omega)
    go_enter Try.func13, Try.ntmps13
    go_wp2_with fail
    go_ret2
    exact ⟨rfl, rfl⟩
  · have g3 : decide (n < 1) = false := decide_eq_false (by omega)
    go_enter Try.func13, Try.ntmps13
    go_wp2_with fail
    go_ret2
    exact ⟨rfl, rfl⟩
end Go.Proofs.Ytekcknkfpecppaa
