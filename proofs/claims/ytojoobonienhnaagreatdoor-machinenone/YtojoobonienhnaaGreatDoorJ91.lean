/- Part of a proof. -/
import Derived.Test.YtojoobonienhnaaGreatDoorJ51
import Derived.Handy
namespace Go.Proofs.YtojoobonienhnaaGreatDoor
open Go.RowKit
set_option linter.unusedVariables false
set_option linter.unusedSimpArgs false
def NoM (w : World) (v : Value) : Prop := v = .pointer none ∨ ∃ p : Nat, v = .pointer (some ⟨p, 0, none⟩) ∧ w.cell? ⟨p, 0, none⟩ = some (.pointer none)
theorem mworks_no (w : World) (v : Value) (h : NoM w v) :
    Calls Tryz.prog 44 #[v] w fun e w' => e = .returned (.bool false) ∧ w' = w := by
  rcases h with rfl | ⟨p, rfl, hc⟩
  · go_enter Tryz.func44, Tryz.ntmps44
    go_wp2
    go_ret
    exact ⟨rfl, rfl⟩
  · go_enter Tryz.func44, Tryz.ntmps44
    go_wp2
    go_ret
    exact ⟨rfl, rfl⟩
theorem stands_no (w : World) (v : Value) (h : NoM w v) :
    Calls Tryz.prog 48 #[v] w fun e w' => e = .returned (.bool true) ∧ w' = w := by
  have H : Hid (Calls Tryz.prog 44 #[v] w fun e w' => e = .returned (.bool false) ∧ w' = w) := mworks_no w v h
  clear h
  go_enter Tryz.func48, Tryz.ntmps48
  go_wp2_with (go_at_call 44; refine H.out.mono ?_; rintro e w1 ⟨rfl, rfl⟩)
  go_ret
  exact ⟨rfl, rfl⟩
end Go.Proofs.YtojoobonienhnaaGreatDoor
namespace Go.Proofs.YtojoobonienhnaaGreatDoor
open Go.RowKit Go.ChangeShapes Go.WideShapes Go.ChangeAt
set_option linter.unusedVariables false
set_option linter.unusedSimpArgs false
set_option maxRecDepth 100000 in
theorem open_sta {H : Type} {enc : TypeId × Value → H} {w : World} {r : Reach} {b0 base : Nat} {sp : Nat → Bool} {held : Bool} {v : Value} {d : DataW H} {p : List MemPlace} (hv : Value.okWide Tryz.prog w r b0 26 v) (h : DataW.Trod enc Tryz.prog w base sp held 26 v d p) :
    ∃ s : Sta, v = .agg s.v ∧ s.Ok := by
  obtain ⟨cs, rfl, _⟩ := okWide_struct Tryz.underlying26 hv
  obtain ⟨fuel, hf⟩ := h
  obtain ⟨s, ok, e⟩ := sta_of hf
  refine ⟨s, ?_, ok⟩
  have : cs = s.v := Array.toList_inj.1 (by simpa [Value.cells] using e)
  rw [this]
end Go.Proofs.YtojoobonienhnaaGreatDoor
namespace Go.Proofs.YtojoobonienhnaaGreatDoor
open Go.RowKit
set_option linter.unusedVariables false
set_option linter.unusedSimpArgs false
theorem NoM.kep {w w' : World} {v : Value} (h : NoM w v) (k : Kep w w') : NoM w' v := by
  rcases h with h | ⟨p, e, hc⟩
  · exact .inl h
  · exact .inr ⟨p, e, (k.cell (World.block_lt_of_cell? w _ hc)).trans hc⟩
def s00 : Sta := ⟨fun _ => 0, 0, 0, fun _ => 0, false⟩
theorem deliver_none {w : World} {v : Value} (h : NoM w v) (k a : Int) :
    Calls Tryz.prog 31 #[v, .agg #[.int .i64 k, .int .u32 a]] w fun e w' => e = .returned (.tuple #[]) ∧ Kep w w' := by
  have M : Hid (∀ w', Kep w w' → Calls Tryz.prog 44 #[v] w' fun e w'' => e = .returned (.bool false) ∧ w'' = w') := fun w' k => mworks_no w' v (h.kep k)
  clear h
  go_enter Tryz.func31, Tryz.ntmps31
  go_wp2_with (go_at_call 44; refine (M.out _ ((Kep.refl _).alloc _)).mono ?_; rintro e w1 ⟨rfl, rfl⟩)
  first | go_end0 | refine bodyPost_ret (results_none rfl _ _ _) rfl ?_
  exact ⟨rfl, (Kep.refl _).alloc _⟩
theorem put_none {w : World} {v : Value} (h : NoM w v) (s : Sta) (n : Int) :
    Calls Tryz.prog 32 #[v, .agg s.v, .int .i64 n] w fun e w' => e = .returned (.tuple #[]) ∧ Kep w w' := by
  have M : Hid (∀ w', Kep w w' → Calls Tryz.prog 44 #[v] w' fun e w'' => e = .returned (.bool false) ∧ w'' = w') := fun w' k => mworks_no w' v (h.kep k)
  clear h
  go_enter Tryz.func32, Tryz.ntmps32
  go_wp2_with (go_at_call 44; refine (M.out _ ((Kep.refl _).alloc _)).mono ?_; rintro e w1 ⟨rfl, rfl⟩)
  first | go_end0 | refine bodyPost_ret (results_none rfl _ _ _) rfl ?_
  exact ⟨rfl, (Kep.refl _).alloc _⟩
theorem next_none {w : World} {v : Value} (h : NoM w v) :
    Calls Tryz.prog 33 #[v] w fun e w' => e = .returned (.tuple #[.int .i64 0, .bool false]) ∧ w' = w := by
  have M : Hid (Calls Tryz.prog 44 #[v] w fun e w'' => e = .returned (.bool false) ∧ w'' = w) := mworks_no w v h
  clear h
  go_enter Tryz.func33, Tryz.ntmps33
  go_wp2_with (go_at_call 44; refine M.out.mono ?_; rintro e w1 ⟨rfl, rfl⟩)
  go_ret2
  exact ⟨rfl, rfl⟩
theorem come_none {w : World} {v : Value} (h : NoM w v) :
    Calls Tryz.prog 21 #[v] w fun e w' => e = .returned (.tuple #[.slice none 0 0, .slice none 0 0]) ∧ w' = w := by
  have M : Hid (Calls Tryz.prog 44 #[v] w fun e w'' => e = .returned (.bool false) ∧ w'' = w) := mworks_no w v h
  clear h
  go_enter Tryz.func21, Tryz.ntmps21
  go_wp2_with (go_at_call 44; refine M.out.mono ?_; rintro e w1 ⟨rfl, rfl⟩)
  go_ret2
  exact ⟨rfl, rfl⟩
theorem step_none {w : World} {v : Value} (h : NoM w v) :
    Calls Tryz.prog 22 #[v] w fun e w' => e = .returned (.bool false) ∧ w' = w := by
  have M : Hid (Calls Tryz.prog 48 #[v] w fun e w'' => e = .returned (.bool true) ∧ w'' = w) := stands_no w v h
  clear h
  go_enter Tryz.func22, Tryz.ntmps22
  go_wp2_with (go_at_call 48; refine M.out.mono ?_; rintro e w1 ⟨rfl, rfl⟩)
  go_ret
  exact ⟨rfl, rfl⟩
theorem run_none {w : World} {v : Value} (h : NoM w v) :
    Calls Tryz.prog 15 #[v, .int .i64 5] w fun e w' => e = .returned (.int .i64 0) ∧ w' = w := by
  have M : Hid (Calls Tryz.prog 22 #[v] w fun e w'' => e = .returned (.bool false) ∧ w'' = w) := step_none h
  clear h
  go_enter Tryz.func15, Tryz.ntmps15
  go_wp2_with fail
  go_loopw [6] (fun i wr => i = .int .i64 0 ∧ w = wr) (fun _ _ => 0)
  case atStart => exact ⟨rfl, rfl⟩
  case round =>
    obtain ⟨rfl, rfl⟩ := hrel
    go_wp2_with (go_at_call 22; refine M.out.mono ?_; rintro e w1 ⟨rfl, rfl⟩)
    go_ret
    exact ⟨rfl, rfl⟩
theorem take_none {w : World} {v : Value} (h : NoM w v) :
    Calls Tryz.prog 23 #[v] w fun e w' => e = .returned (.bool false) ∧ w' = w := by
  have M : Hid (Calls Tryz.prog 48 #[v] w fun e w'' => e = .returned (.bool true) ∧ w'' = w) := stands_no w v h
  clear h
  go_enter Tryz.func23, Tryz.ntmps23
  go_wp2_with (go_at_call 48; refine M.out.mono ?_; rintro e w1 ⟨rfl, rfl⟩)
  go_ret
  exact ⟨rfl, rfl⟩
theorem one_none {w : World} {v : Value} (h : NoM w v) :
    Calls Tryz.prog 24 #[v] w fun e w' => e = .returned (.agg #[.int .i64 0, .int .u32 0]) ∧ Kep w w' := by
  have M : Hid (∀ w', Kep w w' → Calls Tryz.prog 48 #[v] w' fun e w'' => e = .returned (.bool true) ∧ w'' = w') := fun w' k => stands_no w' v (h.kep k)
  clear h
  go_enter Tryz.func24, Tryz.ntmps24
  go_wp2_with (go_at_call 48; refine (M.out _ ((Kep.refl _).alloc _)).mono ?_; rintro e w1 ⟨rfl, rfl⟩)
  exact bodyPost_ret (v := .agg #[.int .i64 0, .int .u32 0]) (results1 (p := 2) (ty := 56) rfl _ _ w.heap.size 56 #[.int .i64 0, .int .u32 0] (0, 0) _ rfl (hat _ _ _ rfl) Tryz.underlying56 rfl size_flt) rfl ⟨rfl, (Kep.refl _).alloc _⟩
theorem state_none {w : World} {v : Value} (h : NoM w v) :
    Calls Tryz.prog 16 #[v] w fun e w' => e = .returned (.agg s00.v) ∧ Kep w w' := by
  have M : Hid (∀ w', Kep w w' → Calls Tryz.prog 44 #[v] w' fun e w'' => e = .returned (.bool false) ∧ w'' = w') := fun w' k => mworks_no w' v (h.kep k)
  clear h
  obtain ⟨W, hW⟩ : ∃ W, Hid (w.alloc (.cells z19 26) = W) := ⟨_, rfl⟩
  have KW : Hid (Kep w W) := by rw [Hid, ← hW.out]; exact (Kep.refl w).alloc _
  have ZW : Hid (W.heap[w.heap.size]? = some (.cells z19 26 (0, 0))) := by rw [Hid, ← hW.out]; exact hat _ _ _ rfl
  go_enter Tryz.func16, Tryz.ntmps16
  go_upto_region 1 with fail
  rw [hW.out]
  clear hW
  go_wp2_with (first
    | (go_at_call 44; refine (M.out _ KW.out).mono ?_; rintro e W ⟨rfl, rfl⟩)
    | (refine wpList_store_row (by rfl) 26 _ _ (by rfl) w.heap.size s00.v (by rfl) (by rfl) 26 z19 ZW.out (by exact size_sta) (by rfl) (v_one _) ?_))
  exact bodyPost_ret (v := .agg s00.v) (results1 (p := 2) (ty := 26) rfl _ _ w.heap.size 26 s00.v (0, 0) _ rfl (setRow_heap _ _ _ _ _ _ ZW.out) Tryz.underlying26 rfl size_sta) rfl ⟨rfl, KW.out.setRow _ _ (Nat.le_refl _)⟩
theorem steps_none {w : World} {v : Value} (h : NoM w v) :
    Calls Tryz.prog 17 #[v] w fun e w' => e = .returned (.int .i64 0) ∧ w' = w := by
  have M : Hid (Calls Tryz.prog 44 #[v] w fun e w'' => e = .returned (.bool false) ∧ w'' = w) := mworks_no w v h
  clear h
  go_enter Tryz.func17, Tryz.ntmps17
  go_wp2_with (go_at_call 44; refine M.out.mono ?_; rintro e w1 ⟨rfl, rfl⟩)
  go_ret
  exact ⟨rfl, rfl⟩
theorem ram_none {w : World} {v : Value} (h : NoM w v) :
    Calls Tryz.prog 25 #[v] w fun e w' => e = .returned (.pointer none) ∧ w' = w := by
  have M : Hid (Calls Tryz.prog 44 #[v] w fun e w'' => e = .returned (.bool false) ∧ w'' = w) := mworks_no w v h
  clear h
  go_enter Tryz.func25, Tryz.ntmps25
  go_wp2_with (go_at_call 44; refine M.out.mono ?_; rintro e w1 ⟨rfl, rfl⟩)
  go_ret
  exact ⟨rfl, rfl⟩
theorem output_none {w : World} {v : Value} (h : NoM w v) :
    Calls Tryz.prog 18 #[v] w fun e w' => e = .returned (.slice none 0 0) ∧ w' = w := by
  have M : Hid (Calls Tryz.prog 44 #[v] w fun e w'' => e = .returned (.bool false) ∧ w'' = w) := mworks_no w v h
  clear h
  go_enter Tryz.func18, Tryz.ntmps18
  go_wp2_with (go_at_call 44; refine M.out.mono ?_; rintro e w1 ⟨rfl, rfl⟩)
  go_ret
  exact ⟨rfl, rfl⟩
theorem disk_none {w : World} {v : Value} (h : NoM w v) :
    Calls Tryz.prog 34 #[v] w fun e w' => e = .returned (.slice none 0 0) ∧ w' = w := by
  have M : Hid (Calls Tryz.prog 44 #[v] w fun e w'' => e = .returned (.bool false) ∧ w'' = w) := mworks_no w v h
  clear h
  go_enter Tryz.func34, Tryz.ntmps34
  go_wp2_with (go_at_call 44; refine M.out.mono ?_; rintro e w1 ⟨rfl, rfl⟩)
  go_ret
  exact ⟨rfl, rfl⟩
theorem notes_none {w : World} {v : Value} (h : NoM w v) :
    Calls Tryz.prog 20 #[v] w fun e w' => e = .returned (.slice none 0 0) ∧ w' = w := by
  have M : Hid (Calls Tryz.prog 44 #[v] w fun e w'' => e = .returned (.bool false) ∧ w'' = w) := mworks_no w v h
  clear h
  go_enter Tryz.func20, Tryz.ntmps20
  go_wp2_with (go_at_call 44; refine M.out.mono ?_; rintro e w1 ⟨rfl, rfl⟩)
  go_ret
  exact ⟨rfl, rfl⟩
theorem over_none (w : World) (s : Sta) : Calls Tryz.prog 35 #[.pointer none, .agg s.v, .slice none 0 0, .slice none 0 0] w fun e w' => e = .returned (.tuple #[.pointer none, .int .i64 1]) ∧ Kep w w' := by
  go_enter Tryz.func35, Tryz.ntmps35
  go_wp2
  go_ret2
  exact ⟨rfl, (Kep.refl _).alloc _⟩
end Go.Proofs.YtojoobonienhnaaGreatDoor
