/- The document's stub and jump (mummerref19), and what it reads. -/
import Derived.Test.YtfpknklibiigfaaDoorStread
namespace Go.Proofs.YtfpknklibiigfaaDoor
open Go.RowKit
set_option linter.unusedVariables false
set_option linter.unusedSimpArgs false

theorem bs_fresh {w : World} (l : List Int) (n : Nat) (hl : l.length = n) (hm : n ≤ 1000) : (w.alloc (.cells (bs l).toArray 5)).ownsRow w.heap.size 5 1 (.slice (some ⟨w.heap.size, 0, none⟩) n n) n (bs l) := by
  refine ⟨by simp [hl], .inr ⟨_, n, (bs l).toArray, rfl, Nat.le_refl _, heap_alloc_new w _, Nat.le_refl _, by unfold maxLen; omega, by simp [hl], by simpa using (List.take_of_length_le (by simp [hl] : (bs l).length ≤ n))⟩⟩

theorem rstub_any (n x : Int) (h0 : 0 ≤ n) (h1 : n ≤ 255) (h2 : 0 ≤ x) (h3 : x ≤ 65535) (w : World) :
    Calls Tryd.prog 10 #[.int .i64 n, .int .i64 x] w fun e w' => e = .returned (.slice (some ⟨w.heap.size, 0, none⟩) 5 5) ∧ w' = w.alloc (.cells (bs [112, n, 113, x % 256, x / 256]).toArray 5) := by
  go_enter Tryd.func10, Tryd.ntmps10
  go_wp2_with fail
  go_ret
  exact ⟨rfl, rfl⟩
theorem rstub_made (n x : Int) (h0 : 0 ≤ n) (h1 : n ≤ 255) (h2 : 0 ≤ x) (h3 : x ≤ 65535) (w : World) :
    Calls Tryd.prog 10 #[.int .i64 n, .int .i64 x] w fun e w' => ∃ C : Nat, e = .returned (.slice (some ⟨C, 0, none⟩) 5 5) ∧
      w'.ownsRow w.heap.size 5 1 (.slice (some ⟨C, 0, none⟩) 5 5) 5 (bs [112, n, 113, x % 256, x / 256]) ∧ Kep w w' := by
  refine (rstub_any n x h0 h1 h2 h3 w).mono ?_
  rintro e w' ⟨rfl, rfl⟩
  exact ⟨_, rfl, bs_fresh _ 5 rfl (by decide), (Kep.refl _).alloc _⟩
theorem rjump_no (a t : Int) (h : jokB a t = false) (w : World) :
    Calls Tryd.prog 12 #[.int .i64 a, .int .i64 t] w fun e w' => e = .returned (.tuple #[.slice none 0 0, .int .i64 2]) ∧ w' = w := by
  have h' : a < 0 ∨ (0 ≤ a ∧ 32767 < a) ∨ (0 ≤ a ∧ a ≤ 32767 ∧ t < 0) ∨ (0 ≤ a ∧ a ≤ 32767 ∧ 0 ≤ t ∧ 32767 < t) := by
    unfold jokB at h
    simp only [decide_eq_false_iff_not] at h
    omega
  clear h
  rcases h' with h | ⟨h1, h2⟩ | ⟨h1, h2, h3⟩ | ⟨h1, h2, h3, h4⟩
  all_goals
    go_enter Tryd.func12, Tryd.ntmps12
    go_wp2
    go_ret2
    exact ⟨rfl, rfl⟩
theorem rjump_long (a t : Int) (h : jokB a t = true) (hf : jfar a t < -32768) (w : World) :
    Calls Tryd.prog 12 #[.int .i64 a, .int .i64 t] w fun e w' => e = .returned (.tuple #[.slice none 0 0, .int .i64 3]) ∧ w' = w := by
  have h' : (0 ≤ a ∧ a ≤ 32767) ∧ 0 ≤ t ∧ t ≤ 32767 := by simpa [jokB] using h
  obtain ⟨⟨h0, h1⟩, h2, h3⟩ := h'
  unfold jfar at hf
  clear h
  go_enter Tryd.func12, Tryd.ntmps12
  go_wp2
  go_ret2
  exact ⟨rfl, rfl⟩
theorem rjump_ok (a t : Int) (h : jokB a t = true) (hf : -32768 ≤ jfar a t) (w : World) :
    Calls Tryd.prog 12 #[.int .i64 a, .int .i64 t] w fun e w' => e = .returned (.tuple #[.slice (some ⟨w.heap.size, 0, none⟩) 3 3, .int .i64 0]) ∧ w' = w.alloc (.cells (bs [64, jfar a t % 256, jfar a t / 256 % 256]).toArray 5) := by
  have h' : (0 ≤ a ∧ a ≤ 32767) ∧ 0 ≤ t ∧ t ≤ 32767 := by simpa [jokB] using h
  obtain ⟨⟨h0, h1⟩, h2, h3⟩ := h'
  obtain ⟨f, hF⟩ : ∃ f, jfar a t = f := ⟨_, rfl⟩
  have hF' : t - a - 3 = f := by rw [← hF]; rfl
  rw [hF] at hf ⊢
  have hf2 : f ≤ 32767 := by omega
  clear h hF
  go_enter Tryd.func12, Tryd.ntmps12
  by_cases hn : f < 0
  · go_wp2
    go_ret2
    refine ⟨rfl, ?_⟩
    show _ = w.alloc (.cells #[.int .u8 64, .int .u8 (f % 256), .int .u8 (f / 256 % 256)] 5)
    rw [show (f + 65536) % 256 = f % 256 from by omega, show (f + 65536) / 256 = f / 256 % 256 from by omega]
  · go_wp2
    go_ret2
    refine ⟨rfl, ?_⟩
    show _ = w.alloc (.cells #[.int .u8 64, .int .u8 (f % 256), .int .u8 (f / 256 % 256)] 5)
    rw [show f / 256 % 256 = f / 256 from by omega]
theorem rjump_made (a t : Int) (h : jokB a t = true) (hf : -32768 ≤ jfar a t) (w : World) :
    Calls Tryd.prog 12 #[.int .i64 a, .int .i64 t] w fun e w' => ∃ C : Nat, e = .returned (.tuple #[.slice (some ⟨C, 0, none⟩) 3 3, .int .i64 0]) ∧
      w'.ownsRow w.heap.size 5 1 (.slice (some ⟨C, 0, none⟩) 3 3) 3 (bs [64, jfar a t % 256, jfar a t / 256 % 256]) ∧ Kep w w' := by
  refine (rjump_ok a t h hf w).mono ?_
  rintro e w' ⟨rfl, rfl⟩
  exact ⟨_, rfl, bs_fresh _ 3 rfl (by decide), (Kep.refl _).alloc _⟩

theorem rread_no (x : Option Addr) (len cap : Nat) (zs : List Int) (w : World) (hB : RB w x len cap zs) (h : rdOk len zs = false) :
    Calls Tryd.prog 14 #[.slice x len cap] w fun e w' => e = .returned (.tuple #[.int .i64 0, .int .i64 0, .bool false]) ∧ w' = w := by
  have hm := hB.max
  by_cases h5 : len = 5
  · rcases hB with h0 | ⟨b, off, rfl, h0, hB⟩
    · omega
    · subst h5
      have c0 : w.cell? ⟨b, off, none⟩ = some (.int .u8 (zat zs 0)) := hB.cell 0 (by omega)
      have c2 := hB.cell 2 (by omega)
      have hq : (zat zs 0 != 112) = true ∨ ((zat zs 0 != 112) = false ∧ (zat zs 2 != 113) = true) := by
        unfold rdOk at h
        simp at h ⊢
        by_cases q : zat zs 0 = 112
        · exact .inr ⟨q, h q⟩
        · exact .inl q
      have hlt := hB.lt
      generalize zat zs 0 = z0 at hq c0
      generalize zat zs 2 = z2 at hq c2
      have hlc := hB.le
      clear hB h
      rcases hq with q | ⟨q, q2⟩
      · go_enter Tryd.func14, Tryd.ntmps14
        go_wp2
        go_ret3
        exact ⟨rfl, rfl⟩
      · go_enter Tryd.func14, Tryd.ntmps14
        go_wp2
        go_ret3
        exact ⟨rfl, rfl⟩
  · have hn : ((len : Int) != 5) = true := by simp; omega
    clear hB h
    go_enter Tryd.func14, Tryd.ntmps14
    go_wp2
    go_ret3
    exact ⟨rfl, rfl⟩
theorem rread_yes (x : Option Addr) (len cap : Nat) (zs : List Int) (w : World) (hB : RB w x len cap zs) (h : rdOk len zs = true) :
    Calls Tryd.prog 14 #[.slice x len cap] w fun e w' => e = .returned (.tuple #[.int .i64 (zat zs 1), .int .i64 (zat zs 3 + 256 * zat zs 4), .bool true]) ∧ Kep w w' := by
  unfold rdOk at h
  simp at h
  obtain ⟨rfl, h1, h2⟩ := h
  rcases hB with h0 | ⟨b, off, rfl, h0, hB⟩
  · omega
  have c0 : w.cell? ⟨b, off, none⟩ = some (.int .u8 (zat zs 0)) := hB.cell 0 (by omega)
  have c1 := hB.cell 1 (by omega)
  have c2 := hB.cell 2 (by omega)
  have c3 := hB.cell 3 (by omega)
  have c4 := hB.cell 4 (by omega)
  have z1 := zat_range hB.fit 1
  have z3 := zat_range hB.fit 3
  have z4 := zat_range hB.fit 4
  rw [h1] at c0
  rw [h2] at c2
  generalize zat zs 1 = n1 at c1 z1 ⊢
  generalize zat zs 3 = n3 at c3 z3 ⊢
  generalize zat zs 4 = n4 at c4 z4 ⊢
  have hlc := hB.le
  clear hB h1 h2
  go_enter Tryd.func14, Tryd.ntmps14
  go_wp2_with fail
  go_quiet (fail)
  go_wp2_with fail

  go_ret3
  exact ⟨rfl, (Kep.refl _).drewN _⟩
theorem rread_any (x : Option Addr) (len cap : Nat) (zs : List Int) (w : World) (hB : RB w x len cap zs) :
    Calls Tryd.prog 14 #[.slice x len cap] w fun e w' => e = .returned (.tuple (rdV len zs)) ∧ Kep w w' := by
  cases h : rdOk len zs
  · have e : rdV len zs = #[.int .i64 0, .int .i64 0, .bool false] := by unfold rdV; rw [h]; rfl
    rw [e]
    refine (rread_no x len cap zs w hB h).mono ?_
    rintro e w' ⟨rfl, rfl⟩
    exact ⟨rfl, Kep.refl _⟩
  · have e : rdV len zs = #[.int .i64 (zat zs 1), .int .i64 (zat zs 3 + 256 * zat zs 4), .bool true] := by unfold rdV; rw [h]; rfl
    rw [e]
    exact rread_yes x len cap zs w hB h
end Go.Proofs.YtfpknklibiigfaaDoor
