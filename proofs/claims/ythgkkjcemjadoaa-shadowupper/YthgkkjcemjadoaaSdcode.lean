/- A shadow's small functions: made, number, address, entry, free, Has, Root, Tables. -/
import Derived.Test.YthgkkjcemjadoaaSdbox
import Derived.BigRegion
import Derived.BigQuiet
namespace Go.Proofs.Ythgkkjcemjadoaa
open Go.RowKit
set_option linter.unusedVariables false
set_option linter.unusedSimpArgs false

theorem shmade_yes (w : World) (p : Nat) (pv : Nat) (hc : w.cell? ⟨p, 0, none⟩ = some (.pointer (some ⟨pv, 0, none⟩))) :
    Calls Try.prog 32 #[.pointer (some ⟨p, 0, none⟩)] w fun e w' => e = .returned (.bool true) ∧ w' = w := by
  go_enter Try.func32, Try.ntmps32
  go_wp2
  go_ret
  exact ⟨rfl, rfl⟩
theorem shmade_no (w : World) (v : Value) (h : NoSh w v) :
    Calls Try.prog 32 #[v] w fun e w' => e = .returned (.bool false) ∧ w' = w := by
  rcases h with rfl | ⟨p, rfl, hb⟩
  · go_enter Try.func32, Try.ntmps32
    go_wp2
    go_ret
    exact ⟨rfl, rfl⟩
  · have hc : w.cell? ⟨p, 0, none⟩ = some (.pointer none) := by rw [cell_of_block hb, List.getElem?_toArray]; exact List.getElem?_cons_zero
    clear hb
    go_enter Try.func32, Try.ntmps32
    go_wp2
    go_ret
    exact ⟨rfl, rfl⟩
theorem shframe_any (w : World) (v : Value) (R : Nat) (ix : List Nat) (h : Ram w v R ix) (hix : (ix.length : Int) ≤ 512) (n : Int) :
    Calls Try.prog 44 #[v, .int .i64 n] w fun e w' => e = .returned (.bool (decide (0 ≤ n) && decide (n < ix.length))) ∧ w' = w := by
  have hc : Hid (∀ w, Ram w v R ix → Calls Try.prog 49 #[v] w fun e w' => e = .returned (.int .u32 (64 * ix.length)) ∧ w' = w) := fun w h => msize_any w v R ix h hix
  have h' : Hid (Ram w v R ix) := h
  clear h
  rcases (by omega : n < 0 ∨ 0 ≤ n) with h0 | h0
  · have h1 : decide (0 ≤ n) = false := decide_eq_false (by omega)
    go_enter Try.func44, Try.ntmps44
    go_wp2_with (go_at_call 49; refine (hc.out _ h'.out).mono ?_; rintro e w1 ⟨rfl, rfl⟩)
    go_ret
    exact ⟨ret_bool (by simp; omega), rfl⟩
  · have h1 : decide (0 ≤ n) = true := decide_eq_true h0
    go_enter Try.func44, Try.ntmps44
    go_wp2_with (go_at_call 49; refine (hc.out _ h'.out).mono ?_; rintro e w1 ⟨rfl, rfl⟩)
    go_ret
    exact ⟨ret_bool (by simp [h0]), rfl⟩
theorem shnum_any (va : Nat) (ha : va < 4294967296) (w : World) :
    Calls Try.prog 35 #[.int .u32 va] w fun e w' => e = .returned (.int .i64 (va / 1024 : Nat)) ∧ w' = w := by
  go_enter Try.func35, Try.ntmps35
  go_wp2
  go_ret
  exact ⟨ret_int (by omega), rfl⟩
theorem shaddr_any (fr : Nat) (ha : fr < 512) (w : World) :
    Calls Try.prog 47 #[.int .i64 fr] w fun e w' => e = .returned (.int .u32 (64 * fr : Nat)) ∧ w' = w := by
  go_enter Try.func47, Try.ntmps47
  go_wp2
  go_ret
  exact ⟨ret_int (by omega), rfl⟩
theorem shentry_any (p d k : Nat) (hd : d < 512) (hk : k < 100) (w : World) (hc : w.cell? ⟨p, 2, none⟩ = some (.int .u32 (64 * d : Nat))) :
    Calls Try.prog 64 #[.pointer (some ⟨p, 0, none⟩), .int .i64 k] w fun e w' => e = .returned (.int .u32 (64 * d + 4 * k : Nat)) ∧ w' = w := by
  go_enter Try.func64, Try.ntmps64
  go_wp2
  go_ret
  exact ⟨ret_int (by omega), rfl⟩
theorem shfree_any (p : Nat) (va : Nat) (ha : va < 4294967296) (x : Option Addr) (n c : Nat) (w : World) (hc : w.cell? ⟨p, 547, none⟩ = some (.slice x n c)) :
    Calls Try.prog 43 #[.pointer (some ⟨p, 0, none⟩), .int .u32 va] w fun e w' => e = .returned (.bool (decide (va < 16384 ∨ (va < 32768 ∧ n = 0)))) ∧ w' = w := by
  by_cases h1 : va < 16384
  · have h2 : decide ((va : Int) < 16384) = true := decide_eq_true (by omega)
    go_enter Try.func43, Try.ntmps43
    go_wp2
    go_ret
    exact ⟨ret_bool (by simp [h1]), rfl⟩
  · have h2 : decide ((va : Int) < 16384) = false := decide_eq_false (by omega)
    by_cases h3 : va < 32768
    · have h4 : decide ((va : Int) < 32768) = true := decide_eq_true (by omega)
      go_enter Try.func43, Try.ntmps43
      go_wp2
      go_ret
      exact ⟨ret_bool (by rw [Bool.eq_iff_iff]; simp [h1, h3]), rfl⟩
    · have h4 : decide ((va : Int) < 32768) = false := decide_eq_false (by omega)
      go_enter Try.func43, Try.ntmps43
      go_wp2
      go_ret
      exact ⟨ret_bool (by simp [h1, h3]), rfl⟩
/-- Is the table there? -/
def hasS (s : SD) (va : Nat) : Bool := decide (va < 32768) && decide (s.D.getD (va / 1024) 0 ≠ 0)
theorem shhas_any (w : World) (p pv q d : Nat) (s : SD) (F : List Nat) (h : ShAt w p (.pointer (some ⟨pv, 0, none⟩)) q d s F) (va : Nat) (ha : va < 4294967296) :
    Calls Try.prog 13 #[.pointer (some ⟨p, 0, none⟩), .int .u32 va] w fun e w' => e = .returned (.bool (hasS s va)) ∧ Kep w w' := by
  have HM : Hid (∀ w, w.cell? ⟨p, 0, none⟩ = some (.pointer (some ⟨pv, 0, none⟩)) → Calls Try.prog 32 #[.pointer (some ⟨p, 0, none⟩)] w fun e w' => e = .returned (.bool true) ∧ w' = w) := fun w => shmade_yes w p pv
  have HN : Hid (∀ w, Calls Try.prog 35 #[.int .u32 va] w fun e w' => e = .returned (.int .i64 (va / 1024 : Nat)) ∧ w' = w) := fun w => shnum_any va ha w
  have c0 := h.c0
  by_cases h1 : va < 32768
  · have h2 : decide ((va : Int) < 32768) = true := decide_eq_true (by omega)
    have e1 : hasS s va = decide (s.D.getD (va / 1024) 0 ≠ 0) := by unfold hasS; rw [decide_eq_true h1]; rfl
    have c3 := h.cD (k := va / 1024) (by omega)
    have hk : va / 1024 < 32 := by omega
    rw [e1]
    generalize va / 1024 = k at c3 hk HN
    generalize s.D.getD k 0 = x at c3
    clear h e1
    go_enter Try.func13, Try.ntmps13
    go_wp2_with fail
    go_quiet (first
      | (go_at_call 32; exact (HM.out (w.drewN _) c0).mono fun _ _ h => ⟨h.1, _, h.2⟩)
      | (go_at_call 35; exact (HN.out _).mono fun _ _ h => ⟨h.1, _, h.2⟩))
    go_wp2_with fail
    go_ret
    exact ⟨ret_bool (by rw [Bool.eq_iff_iff]; simp), (Kep.refl _).drewN _⟩
  · have h2 : decide ((va : Int) < 32768) = false := decide_eq_false (by omega)
    have e1 : hasS s va = false := by unfold hasS; rw [decide_eq_false h1]; rfl
    rw [e1]
    clear h e1
    go_enter Try.func13, Try.ntmps13
    go_wp2_with fail
    go_quiet (first
      | (go_at_call 32; exact (HM.out (w.drewN _) c0).mono fun _ _ h => ⟨h.1, _, h.2⟩)
      | (go_at_call 35; exact (HN.out _).mono fun _ _ h => ⟨h.1, _, h.2⟩))
    go_wp2_with fail
    go_ret
    exact ⟨rfl, (Kep.refl _).drewN _⟩
theorem shroot_any (w : World) (p pv d : Nat) (h0 : w.cell? ⟨p, 0, none⟩ = some (.pointer (some ⟨pv, 0, none⟩))) (hc : w.cell? ⟨p, 2, none⟩ = some (.int .u32 (64 * d : Nat))) :
    Calls Try.prog 15 #[.pointer (some ⟨p, 0, none⟩)] w fun e w' => e = .returned (.int .u32 (64 * d : Nat)) ∧ w' = w := by
  have HM : Hid (Calls Try.prog 32 #[.pointer (some ⟨p, 0, none⟩)] w fun e w' => e = .returned (.bool true) ∧ w' = w) := shmade_yes w p pv h0
  go_enter Try.func15, Try.ntmps15
  go_wp2_with (go_at_call 32; refine HM.out.mono ?_; rintro e w0 ⟨rfl, hq0⟩; rw [hq0]; clear hq0 w0)
  go_ret
  exact ⟨rfl, rfl⟩
theorem shroot_no (w : World) (v : Value) (h : NoSh w v) : Calls Try.prog 15 #[v] w fun e w' => e = .returned (.int .u32 0) ∧ w' = w := by
  have HM : Hid (Calls Try.prog 32 #[v] w fun e w' => e = .returned (.bool false) ∧ w' = w) := shmade_no w v h
  clear h
  go_enter Try.func15, Try.ntmps15
  go_wp2_with (go_at_call 32; refine HM.out.mono ?_; rintro e w0 ⟨rfl, hq0⟩; rw [hq0]; clear hq0 w0)
  go_ret
  exact ⟨rfl, rfl⟩
theorem shput_no (w : World) (v : Value) (h : NoSh w v) (a b c : Value) : Calls Try.prog 20 #[v, a, b, c] w fun e w' => e = .returned (.bool false) ∧ w' = w := by
  have HM : Hid (Calls Try.prog 32 #[v] w fun e w' => e = .returned (.bool false) ∧ w' = w) := shmade_no w v h
  clear h
  go_enter Try.func20, Try.ntmps20
  go_wp2_with (go_at_call 32; refine HM.out.mono ?_; rintro e w0 ⟨rfl, hq0⟩; rw [hq0]; clear hq0 w0)
  go_ret
  exact ⟨rfl, rfl⟩
theorem shpages_no (w : World) (v : Value) (h : NoSh w v) : Calls Try.prog 10 #[v] w fun e w' => e = .returned (.slice none 0 0) ∧ w' = w := by
  have HM : Hid (Calls Try.prog 32 #[v] w fun e w' => e = .returned (.bool false) ∧ w' = w) := shmade_no w v h
  clear h
  go_enter Try.func10, Try.ntmps10
  go_wp2_with (go_at_call 32; refine HM.out.mono ?_; rintro e w0 ⟨rfl, hq0⟩; rw [hq0]; clear hq0 w0)
  go_ret
  exact ⟨rfl, rfl⟩
end Go.Proofs.Ythgkkjcemjadoaa
