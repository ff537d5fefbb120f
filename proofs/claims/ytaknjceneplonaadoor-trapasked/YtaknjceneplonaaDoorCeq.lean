/- A state is the same as itself. -/
import Derived.Test.YtaknjceneplonaaDoorSst
import Derived.ChangeKeysEq
namespace Go.Proofs.YtaknjceneplonaaDoor
open Go.RowKit
set_option linter.unusedVariables false

theorem fields_same {P : Program} (w : World) (d : Nat) (xs : Array Value) : ∀ (fs : List Field), (∀ f ∈ fs, ∃ v, (part f.type xs f.offset).run P w = .ok v w ∧ (Op.equalIn d f.type v v).run P w = .ok true w) → (Op.eqFields d xs xs fs).run P w = .ok true w
  | [], _ => by simp [Op.eqFields]
  | f :: fs, h => by
    obtain ⟨v, h1, h2⟩ := h f (by simp)
    have ih := fields_same w d xs fs (fun g hg => h g (by simp [hg]))
    simp only [Op.eqFields]
    split
    · simp only [Sem.run_bind, h1, h2, Result.andThen_ok, Bool.not_true, Bool.false_eq_true, if_false]
      exact ih
    · exact ih
theorem items_same {P : Program} (w : World) (d : Nat) (e : TypeId) (k : IntKind) (c : Nat) (xs : Array Value) (hu : P.underlying e = some (.int k)) : ∀ (is : List Nat), (∀ i ∈ is, ∃ a, (part e xs (i * c)).run P w = .ok (.int k a) w) → (Op.eqItems (d + 1) e c xs xs is).run P w = .ok true w
  | [], _ => by simp [Op.eqItems]
  | i :: is, h => by
    obtain ⟨a, h1⟩ := h i (by simp)
    have ih := items_same w d e k c xs hu is (fun g hg => h g (by simp [hg]))
    simp only [Op.eqItems, Sem.run_bind, h1, Result.andThen_ok, run_equalIn_int w d e k k a a hu, beq_self_eq_true, Bool.not_true, Bool.false_eq_true, if_false]
    exact ih
theorem arr8_same (a0 a1 a2 a3 a4 a5 a6 a7 : Int) (w : World) : (Op.equalIn 9999 23 (.agg #[.int .u32 a0, .int .u32 a1, .int .u32 a2, .int .u32 a3, .int .u32 a4, .int .u32 a5, .int .u32 a6, .int .u32 a7]) (.agg #[.int .u32 a0, .int .u32 a1, .int .u32 a2, .int .u32 a3, .int .u32 a4, .int .u32 a5, .int .u32 a6, .int .u32 a7])).run Tryd.prog w = .ok true w := by
  obtain ⟨i, hi⟩ : ∃ i, Tryd.prog.info? 22 = some i := Option.isSome_iff_exists.1 (by kernel_rfl)
  have e := run_equalIn_array (P := Tryd.prog) w 9998 #[.int .u32 a0, .int .u32 a1, .int .u32 a2, .int .u32 a3, .int .u32 a4, .int .u32 a5, .int .u32 a6, .int .u32 a7] #[.int .u32 a0, .int .u32 a1, .int .u32 a2, .int .u32 a3, .int .u32 a4, .int .u32 a5, .int .u32 a6, .int .u32 a7] Tryd.underlying23 hi
  rw [e]
  refine items_same w 9997 22 .u32 _ _ Tryd.underlying22 _ (fun i hm => ?_)
  have hc : Tryd.prog.cellsOf 22 = 1 := by kernel_rfl
  rw [hc]
  have h8 : i < 8 := by simpa using hm
  rcases (by omega : i = 0 ∨ i = 1 ∨ i = 2 ∨ i = 3 ∨ i = 4 ∨ i = 5 ∨ i = 6 ∨ i = 7) with rfl | rfl | rfl | rfl | rfl | rfl | rfl | rfl
  · exact ⟨a0, by kernel_rfl⟩
  · exact ⟨a1, by kernel_rfl⟩
  · exact ⟨a2, by kernel_rfl⟩
  · exact ⟨a3, by kernel_rfl⟩
  · exact ⟨a4, by kernel_rfl⟩
  · exact ⟨a5, by kernel_rfl⟩
  · exact ⟨a6, by kernel_rfl⟩
  · exact ⟨a7, by kernel_rfl⟩
theorem sta_same (s : Sta) (w : World) : (Op.equalIn 10000 25 (.agg s.v) (.agg s.v)).run Tryd.prog w = .ok true w := by
  rw [run_equalIn_agg (P := Tryd.prog) w 9999 25 s.v s.v (by kernel_rfl) (by kernel_rfl)]
  refine fields_same w 9999 s.v _ (fun f hf => ?_)
  have hall : ((Tryd.prog.fieldsOf 25).toList.all fun f => (f.type == 23 && f.offset == 0) || (f.type == 22 && f.offset == 8) || (f.type == 22 && f.offset == 9) || (f.type == 23 && f.offset == 10) || (f.type == 4 && f.offset == 18)) = true := by kernel_rfl
  have h := List.all_eq_true.1 hall f hf
  simp only [Bool.or_eq_true, Bool.and_eq_true, beq_iff_eq] at h
  rcases h with (((⟨h1, h2⟩ | ⟨h1, h2⟩) | ⟨h1, h2⟩) | ⟨h1, h2⟩) | ⟨h1, h2⟩
  all_goals rw [h1, h2]
  · exact ⟨.agg #[.int .u32 (s.r 0), .int .u32 (s.r 1), .int .u32 (s.r 2), .int .u32 (s.r 3), .int .u32 (s.r 4), .int .u32 (s.r 5), .int .u32 (s.r 6), .int .u32 (s.r 7)], by kernel_rfl, arr8_same _ _ _ _ _ _ _ _ w⟩
  · exact ⟨.int .u32 s.pc, by kernel_rfl, by rw [run_equalIn_int w 9998 _ _ _ _ _ Tryd.underlying22]; simp⟩
  · exact ⟨.int .u32 s.ps, by kernel_rfl, by rw [run_equalIn_int w 9998 _ _ _ _ _ Tryd.underlying22]; simp⟩
  · exact ⟨.agg #[.int .u32 (s.c 0), .int .u32 (s.c 1), .int .u32 (s.c 2), .int .u32 (s.c 3), .int .u32 (s.c 4), .int .u32 (s.c 5), .int .u32 (s.c 6), .int .u32 (s.c 7)], by kernel_rfl, arr8_same _ _ _ _ _ _ _ _ w⟩
  · exact ⟨.bool s.h, by kernel_rfl, by rw [run_equalIn_bool' w 9998 _ _ _ Tryd.underlying4]; simp⟩
theorem cr_same (s : Sta) (w : World) : (Op.equalIn 10000 23 (.agg #[.int .u32 (s.c 0), .int .u32 (s.c 1), .int .u32 (s.c 2), .int .u32 (s.c 3), .int .u32 (s.c 4), .int .u32 (s.c 5), .int .u32 (s.c 6), .int .u32 (s.c 7)]) (.agg #[.int .u32 (s.c 0), .int .u32 (s.c 1), .int .u32 (s.c 2), .int .u32 (s.c 3), .int .u32 (s.c 4), .int .u32 (s.c 5), .int .u32 (s.c 6), .int .u32 (s.c 7)])).run Tryd.prog w = .ok true w := by
  obtain ⟨i, hi⟩ : ∃ i, Tryd.prog.info? 22 = some i := Option.isSome_iff_exists.1 (by kernel_rfl)
  rw [run_equalIn_array (P := Tryd.prog) w 9999 _ _ Tryd.underlying23 hi]
  refine items_same w 9998 22 .u32 _ _ Tryd.underlying22 _ (fun i hm => ?_)
  have hc : Tryd.prog.cellsOf 22 = 1 := by kernel_rfl
  rw [hc]
  have h8 : i < 8 := by simpa using hm
  rcases (by omega : i = 0 ∨ i = 1 ∨ i = 2 ∨ i = 3 ∨ i = 4 ∨ i = 5 ∨ i = 6 ∨ i = 7) with rfl | rfl | rfl | rfl | rfl | rfl | rfl | rfl
  · exact ⟨s.c 0, by kernel_rfl⟩
  · exact ⟨s.c 1, by kernel_rfl⟩
  · exact ⟨s.c 2, by kernel_rfl⟩
  · exact ⟨s.c 3, by kernel_rfl⟩
  · exact ⟨s.c 4, by kernel_rfl⟩
  · exact ⟨s.c 5, by kernel_rfl⟩
  · exact ⟨s.c 6, by kernel_rfl⟩
  · exact ⟨s.c 7, by kernel_rfl⟩
end Go.Proofs.YtaknjceneplonaaDoor
