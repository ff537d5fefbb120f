/- Devices that are not there, and such as no call made, answer nothing. -/
import Derived.Test.YtpieeefeicdfgaaVout
namespace Go.Proofs.Ytpieeefeicdfgaa
open Go.RowKit Go.Shelf
set_option linter.unusedVariables false
set_option linter.unusedSimpArgs false

theorem NoDev.kep {w w' : World} {v : Value} (h : NoDev w v) (k : Kep w w') : NoDev w' v := by
  rcases h with h | ⟨p, e, hc⟩
  · exact .inl h
  · exact .inr ⟨p, e, (k.cell (World.block_lt_of_cell? _ _ hc)).trans hc⟩
theorem taken_nox (w : World) (v : Value) (h : NoDev w v) (c : Int) : Calls Try.prog 22 #[v, .int .i64 c] w fun e w' => e = .returned (.tuple #[]) ∧ w' = w := by
  have M : Hid (Calls Try.prog 37 #[v] w fun e w' => e = .returned (.bool false) ∧ w' = w) := vworks_no w v h
  clear h
  go_enter Try.func22, Try.ntmps22
  go_wp2_with (go_at_call 37; refine M.out.mono ?_; rintro e w1 ⟨rfl, rfl⟩)
  first | go_end0 | refine bodyPost_ret (results_none rfl _ _ _) rfl ?_
  exact ⟨rfl, rfl⟩
theorem write_nox (w : World) (v : Value) (h : NoDev w v) (c u : Int) : Calls Try.prog 19 #[v, .int .i64 c, .int .u32 u] w fun e w' => e = .returned (.tuple #[]) ∧ w' = w := by
  have M : Hid (Calls Try.prog 37 #[v] w fun e w' => e = .returned (.bool false) ∧ w' = w) := vworks_no w v h
  clear h
  go_enter Try.func19, Try.ntmps19
  go_wp2_with (go_at_call 37; refine M.out.mono ?_; rintro e w1 ⟨rfl, rfl⟩)
  first | go_end0 | refine bodyPost_ret (results_none rfl _ _ _) rfl ?_
  exact ⟨rfl, rfl⟩
theorem next_nox (w : World) (v : Value) (h : NoDev w v) (c : Int) : Calls Try.prog 25 #[v, .int .i64 c] w fun e w' => e = .returned (.tuple #[.int .i64 0, .bool false]) ∧ w' = w := by
  have M : Hid (Calls Try.prog 37 #[v] w fun e w' => e = .returned (.bool false) ∧ w' = w) := vworks_no w v h
  clear h
  go_enter Try.func25, Try.ntmps25
  go_wp2_with (go_at_call 37; refine M.out.mono ?_; rintro e w1 ⟨rfl, rfl⟩)
  go_ret2
  exact ⟨rfl, rfl⟩
theorem wants_nox (w : World) (v : Value) (h : NoDev w v) (c : Int) : Calls Try.prog 26 #[v, .int .u32 c] w fun e w' => e = .returned (.int .i64 0) ∧ w' = w := by
  have M : Hid (Calls Try.prog 37 #[v] w fun e w' => e = .returned (.bool false) ∧ w' = w) := vworks_no w v h
  clear h
  go_enter Try.func26, Try.ntmps26
  go_wp2_with (go_at_call 37; refine M.out.mono ?_; rintro e w1 ⟨rfl, rfl⟩)
  go_ret
  exact ⟨rfl, rfl⟩
theorem in_nox (w : World) (v : Value) (h : NoDev w v) (c : Int) : Calls Try.prog 15 #[v, .int .i64 c] w fun e w' => e = .returned (.int .u32 0) ∧ w' = w := by
  have M : Hid (Calls Try.prog 37 #[v] w fun e w' => e = .returned (.bool false) ∧ w' = w) := vworks_no w v h
  clear h
  go_enter Try.func15, Try.ntmps15
  go_wp2_with (go_at_call 37; refine M.out.mono ?_; rintro e w1 ⟨rfl, rfl⟩)
  go_ret
  exact ⟨rfl, rfl⟩
theorem read_nox (w : World) (v : Value) (h : NoDev w v) (c : Int) : Calls Try.prog 21 #[v, .int .i64 c] w fun e w' => e = .returned (.int .u32 0) ∧ w' = w := by
  have M : Hid (Calls Try.prog 37 #[v] w fun e w' => e = .returned (.bool false) ∧ w' = w) := vworks_no w v h
  have N : Hid (Calls Try.prog 15 #[v, .int .i64 c] w fun e w' => e = .returned (.int .u32 0) ∧ w' = w) := in_nox w v h c
  clear h
  go_enter Try.func21, Try.ntmps21
  go_wp2_with (first | (go_at_call 37; refine M.out.mono ?_; rintro e w1 ⟨rfl, rfl⟩) | (go_at_call 15; refine N.out.mono ?_; rintro e w1 ⟨rfl, rfl⟩))
  go_ret
  exact ⟨rfl, rfl⟩
theorem output_nox (w : World) (v : Value) (h : NoDev w v) : Calls Try.prog 17 #[v] w fun e w' => e = .returned (.slice none 0 0) ∧ w' = w := by
  have M : Hid (Calls Try.prog 37 #[v] w fun e w' => e = .returned (.bool false) ∧ w' = w) := vworks_no w v h
  clear h
  go_enter Try.func17, Try.ntmps17
  go_wp2_with (go_at_call 37; refine M.out.mono ?_; rintro e w1 ⟨rfl, rfl⟩)
  go_ret
  exact ⟨rfl, rfl⟩
theorem disk_nox (w : World) (v : Value) (h : NoDev w v) : Calls Try.prog 18 #[v] w fun e w' => e = .returned (.slice none 0 0) ∧ w' = w := by
  have M : Hid (Calls Try.prog 37 #[v] w fun e w' => e = .returned (.bool false) ∧ w' = w) := vworks_no w v h
  clear h
  go_enter Try.func18, Try.ntmps18
  go_wp2_with (go_at_call 37; refine M.out.mono ?_; rintro e w1 ⟨rfl, rfl⟩)
  go_ret
  exact ⟨rfl, rfl⟩
theorem copy_nox (w : World) (v : Value) (h : NoDev w v) : Calls Try.prog 14 #[v] w fun e w' => e = .returned (.pointer none) ∧ w' = w := by
  have M : Hid (Calls Try.prog 37 #[v] w fun e w' => e = .returned (.bool false) ∧ w' = w) := vworks_no w v h
  clear h
  go_enter Try.func14, Try.ntmps14
  go_wp2_with (go_at_call 37; refine M.out.mono ?_; rintro e w1 ⟨rfl, rfl⟩)
  go_ret
  exact ⟨rfl, rfl⟩
theorem come_nox (w : World) (va : Option Addr) (h : NoDev w (.pointer va)) (c : Int) : Calls Try.prog 20 #[.pointer va, .int .i64 c, .pointer none] w fun e w' => e = .returned (.tuple #[.slice none 0 0, .slice none 0 0]) ∧ w' = (w.alloc (.cells #[.pointer va] 25)).alloc (.cells #[.pointer none] 31) := by
  have M : Hid (CallsIn Fence.wide 4 Try.prog 37 #[.pointer va] ((w.alloc (.cells #[.pointer va] 25)).alloc (.cells #[.pointer none] 31)) fun e w' => e = .returned (.bool false) ∧ w' = (w.alloc (.cells #[.pointer va] 25)).alloc (.cells #[.pointer none] 31)) := callsIn_wide.2 (vworks_no _ _ (h.kep (((Kep.refl w).alloc _).alloc _)))
  clear h
  refine callsIn_wide.1 (show CallsIn Fence.wide 5 _ _ _ _ _ from ?_)
  refine callsIn_of_wp_marks Try.func20 rfl trivial ?_ rfl
  simp only [Try.ntmps20, List.size_toArray, List.length_cons, List.length_nil, Nat.reduceAdd, Nat.reduceSub, Array.replicate_succ, Array.replicate_zero, List.push_toArray, List.append_toArray, List.nil_append, List.cons_append]
  gi_wp2_with (refine ⟨trivial, ?_⟩; gi_at_call 37; refine M.out.mono ?_; rintro e w' ⟨rfl, rfl⟩)
  exact ⟨.tuple #[.slice none 0 0, .slice none 0 0], by simp [results, Try.f20, go_sem], rfl, rfl⟩
end Go.Proofs.Ytpieeefeicdfgaa
