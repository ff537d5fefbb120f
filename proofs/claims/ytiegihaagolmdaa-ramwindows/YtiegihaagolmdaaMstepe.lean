/- One step: a frame. -/
import Derived.Test.YtiegihaagolmdaaMstep
namespace Go.Proofs.Ytiegihaagolmdaa
open Go.RowKit
set_option linter.unusedVariables false

set_option maxHeartbeats 4000000 in
set_option maxRecDepth 100000 in
theorem step5 (w : World) (v : Value) (R n : Nat) (x : Option Addr) (Rb : Nat) (B : List Int) (h : Two w v R n x Rb B) (a : Nat) (ha : (a : Int) < 4294967296) (z m : Int) (sx : Option Addr) (sl sc : Nat) :
    Calls Try.prog 14 #[v, refV x B.length, .agg (stepV 5 a z sx sl sc m)] w fun e w' => e = .returned (.bool true) ∧ Kep w w' := by
  have h' : Hid (Two w v R n x Rb B) := h
  have hA : Hid (∀ w, Calls Try.prog 20 #[.int .u32 a] w fun e w' => ∃ b : Nat, e = .returned (.int .u32 b) ∧ (b : Int) < 4294967296 ∧ w' = w) := fun w => near_any w a ha
  have hlen := h.len
  obtain ⟨s, H1, H2⟩ : ∃ s : ByteArray, Hid (∀ w', Kep w w' → Calls Try.prog 18 #[v, .int .i64 m] w' fun e w'' => ∃ u : Value, e = .returned u ∧ Str w'' u s ∧ Kep w' w'') ∧ Hid (∀ w', Kep w w' → Calls Try.prog 24 #[refV x (64 * n), .int .i64 m] w' fun e w'' => ∃ u : Value, e = .returned u ∧ Str w'' u s ∧ Kep w' w'') := by
    rcases (by omega : (m < 0 ∨ (n : Int) ≤ m) ∨ (0 ≤ m ∧ m < n)) with hm | ⟨hm0, hm1⟩
    · refine ⟨strL [], fun w' K => ?_, fun w' K => ?_⟩
      · refine (frame_no w' v R _ (h'.out.kep K).ram m (by simpa using hm)).mono ?_
        rintro e w'' ⟨rfl, rfl⟩
        exact ⟨_, rfl, fun _ _ => nil_string _, Kep.refl _⟩
      · have := refFrame_no w' x B h'.out.ref.max n hlen m hm
        rw [hlen] at this
        refine this.mono ?_
        rintro e w'' ⟨rfl, k⟩
        exact ⟨_, rfl, fun _ _ => nil_string _, k⟩
    · obtain ⟨k, rfl⟩ : ∃ k : Nat, m = k := ⟨m.toNat, by omega⟩
      refine ⟨strL (frameL B k), fun w' K => frame_str w' v R n x Rb B (h'.out.kep K) k (by omega), fun w' K => ?_⟩
      rw [← hlen]
      exact refFrame_str w' v R n x Rb B (h'.out.kep K) k (by omega)
  rw [hlen]
  clear h hlen ha
  go_enter Try.func14, Try.ntmps14
  go_wp2_with fail
  refine (hA.out _).mono ?_
  rintro e w1 ⟨b, rfl, hb, hw⟩
  have K1 : Hid (Kep w w1) := by rw [hw]; exact ((Kep.refl _).alloc _).alloc _
  have hbx : w1.heap[w.heap.size + 1]? = some (.cells (stepV 5 a z sx sl sc m) 31 (0, 0)) := by rw [hw]; exact hat _ _ _ (by simp)
  have hbr : w1.heap[w.heap.size]? = some (.cells #[.slice x (64 * n) (64 * n)] 26 (0, 0)) := by rw [hw]; exact (hsk _ _ _ (by simp)).trans (hat _ _ _ rfl)
  have lx := block_lt hbx
  have c1 : w1.cell? ⟨w.heap.size + 1, 0, none⟩ = some (.int .i64 5) := by rw [cell_of_block hbx]; rfl
  have c3 : w1.cell? ⟨w.heap.size + 1, 4, none⟩ = some (.int .i64 m) := by rw [cell_of_block hbx]; rfl
  have c2 : w1.cell? ⟨w.heap.size, 0, none⟩ = some (.slice x (64 * n) (64 * n)) := by rw [cell_of_block hbr]; rfl
  have G1 : Hid (∀ w', Kep w1 w' → Calls Try.prog 18 #[v, .int .i64 m] w' fun e w'' => ∃ u : Value, e = .returned u ∧ Str w'' u s ∧ Kep w' w'') := fun w' K => H1.out w' (kep_trans K1.out K)
  have G2 : Hid (∀ w', Kep w1 w' → Calls Try.prog 24 #[refV x (64 * n), .int .i64 m] w' fun e w'' => ∃ u : Value, e = .returned u ∧ Str w'' u s ∧ Kep w' w'') := fun w' K => H2.out w' (kep_trans K1.out K)
  have k0 : Hid (Kep w1 w1.drew) := (Kep.refl _).drew
  have lw : w.heap.size < w1.heap.size := by omega
  clear hw hA hb H1 H2 hbx hbr
  go_wp2_with fail
  go_region_held (fun w' => w'.cell? ⟨w.heap.size, 0, none⟩ = some (.slice x (64 * n) (64 * n)) ∧ w'.cell? ⟨w.heap.size + 1, 4, none⟩ = some (.int .i64 m)) (first | assumption | (go_keep; done)) (first
    | (go_at_call 18; refine (G1.out _ k0.out).mono ?_; rintro e wa ⟨u1, rfl, s1, k1⟩; have j1 : Hid (Kep w1 wa) := kep_trans k0.out k1; have z1 := s1 wa (Kep.refl _); have y1 := (j1.out.cell (o := 0) lw).trans c2; have y2 := (j1.out.cell (o := 4) lx).trans c3; have s1' : Hid (Str wa u1 s) := s1; clear s1 k1)
    | (go_at_call 24; refine (G2.out _ j1.out).mono ?_; rintro e wb ⟨u2, rfl, s2, k2⟩; have z2 := s2 wb (Kep.refl _); have z3 := s1'.out wb k2; have y3 := (k2.cell (o := 0) (j1.out.lt lw)).trans y1; have y4 := (k2.cell (o := 4) (j1.out.lt lx)).trans y2; have j2 : Hid (Kep w1 wb) := kep_trans j1.out k2; clear s2 k2))
  all_goals
    go_wp2_with fail
    go_ret
    exact ⟨rfl, kep_trans K1.out j2.out⟩

end Go.Proofs.Ytiegihaagolmdaa
