/- Part of a proof. -/
import Derived.Test.YthimfiihebdchaaDoorJ14
namespace Go.Proofs.YthimfiihebdchaaDoor
open Go.RowKit
set_option linter.unusedVariables false
set_option linter.unusedSimpArgs false
theorem field_c (o : Option Rw) (w : World) : (Instr.field 77 (.agg (gA o)) 0).run Tryd.prog w = .ok (.int .i64 (gC o)) w := by kernel_rfl
def gE (o : Option Rw) : Bool := gC o == 3 || (gC o == 4 || gC o == 5)
theorem ends_of (op : Int) (h0 : 0 ≤ op) (h1 : op < 256) (W w : World) (p o kb : Nat) (h : Tb W w p o kb) (C : Int) (hC : gC (tabF op) = C) (E : Bool) (hE : C = 3 ∧ E = true ∨ C = 4 ∧ E = true ∨ C = 5 ∧ E = true ∨ C = 0 ∧ E = false ∨ C = 1 ∧ E = false ∨ C = 2 ∧ E = false) :
    Calls Tryd.prog 16 #[.pointer (some ⟨p, 0, none⟩), .int .u8 op] w fun e w' => e = .returned (.bool E) ∧ Tb W w' p o kb ∧ Stp o kb w w' := by
  have hc : Hid (Tb W w p o kb) := h
  have hfd := field_c (tabF op)
  rw [hC] at hfd
  clear h hC
  rcases hE with ⟨rfl, rfl⟩ | ⟨rfl, rfl⟩ | ⟨rfl, rfl⟩ | ⟨rfl, rfl⟩ | ⟨rfl, rfl⟩ | ⟨rfl, rfl⟩
  all_goals
    go_enter Tryd.func16, Tryd.ntmps16
    go_wp2_with fail
    refine (about_any op h0 h1 W _ p o kb hc.out).mono ?_
    rintro e w1 ⟨rfl, hD, hS⟩
    have hD' : Hid (Tb W w1 p o kb ∧ Stp o kb w w1) := ⟨hc.out.stp hS hD, hS⟩
    clear hD hS
    go_wp2_with fail
    go_ret
    exact ⟨rfl, hD'.out⟩

theorem byte_all {p : Int → Bool} (h : (List.range 256).all (fun n => p n) = true) (op : Int) (h0 : 0 ≤ op) (h1 : op < 256) : p op = true := by
  obtain ⟨n, rfl⟩ := Int.eq_ofNat_of_zero_le h0
  exact List.all_eq_true.1 h n (by simp; omega)
theorem gC_six (op : Int) (h0 : 0 ≤ op) (h1 : op < 256) : gC (tabF op) = 3 ∨ gC (tabF op) = 4 ∨ gC (tabF op) = 5 ∨ gC (tabF op) = 0 ∨ gC (tabF op) = 1 ∨ gC (tabF op) = 2 := by
  have := byte_all (p := fun op => decide (gC (tabF op) = 3 ∨ gC (tabF op) = 4 ∨ gC (tabF op) = 5 ∨ gC (tabF op) = 0 ∨ gC (tabF op) = 1 ∨ gC (tabF op) = 2)) (by decide +kernel) op h0 h1
  simpa using this
theorem ends_any (op : Int) (h0 : 0 ≤ op) (h1 : op < 256) (W w : World) (p o kb : Nat) (h : Tb W w p o kb) :
    Calls Tryd.prog 16 #[.pointer (some ⟨p, 0, none⟩), .int .u8 op] w fun e w' => e = .returned (.bool (gE (tabF op))) ∧ Tb W w' p o kb ∧ Stp o kb w w' := by
  refine ends_of op h0 h1 W w p o kb h _ rfl _ ?_
  rcases gC_six op h0 h1 with q | q | q | q | q | q <;> rw [q] <;> simp [gE, q]
theorem ends_tab : ∀ n : Nat, n < 256 → (64 ≤ n ∧ n ≤ 74) → gE (tabF (n : Int)) = true := by decide +kernel
theorem sz_tab : ∀ n : Nat, n < 256 → (n = 0 ∨ (16 ≤ n ∧ n ≤ 33) ∨ (48 ≤ n ∧ n ≤ 58) ∨ n = 80) → sz (rowOf (n : Int) false) = 1 ∨ sz (rowOf (n : Int) false) = 2 ∨ sz (rowOf (n : Int) false) = 3 ∨ sz (rowOf (n : Int) false) = 6 := by decide +kernel
theorem regIf_pc (s : Sta) (k : Bool) (a : Nat) (x : Int) : (s.regIf k a x).pc = s.pc := by cases k <;> rfl
theorem markIf_pc (s : Sta) (k : Bool) (x : Int) : (s.markIf k x).pc = s.pc := by cases k <;> rfl
theorem stack_pc (s : Sta) (op : Int) : (stackS s op).pc = s.pc := by unfold stackS; split; · rfl
                                                                      split <;> rfl
theorem doS_is (s : Sta) (op : Int) (a b : Nat) (imm v : Int) (h : (doF s op a b imm).1 = 0) : isIns op a b imm = true ∧ doS s op a b imm v = workS (nextS s op) op a b imm v ∧
    (op = 0 ∨ (16 ≤ op ∧ op ≤ 33) ∨ (48 ≤ op ∧ op ≤ 58) ∨ (64 ≤ op ∧ op ≤ 74)) := by
  have hi : isIns op a b imm = true := by
    cases q : isIns op a b imm with
    | true => rfl
    | false => unfold doF at h; rw [q] at h; exact absurd h (show ¬ (1 : Int) = 0 by decide)
  refine ⟨hi, by unfold doS; rw [if_pos h], ?_⟩
  have h2 := hi
  unfold isIns at h2
  simp only [Bool.and_eq_true, bne_iff_ne, ne_eq] at h2
  rcases cls_cases op h2.2 with hc | hc | hc | hc | hc
  · exact .inl hc
  · exact .inr (.inl hc)
  · exact .inr (.inr (.inl hc))
  · exact .inr (.inr (.inr hc))
  · exfalso
    unfold doF at h; rw [hi] at h
    unfold workF at h
    have e : cls op = 5 := by rw [hc]; rfl
    rw [e] at h
    exact absurd h (show ¬ (8 : Int) = 0 by decide)
theorem workS_alu (s : Sta) (op : Int) (a b : Nat) (imm v : Int) (hc : 16 ≤ op ∧ op ≤ 33) : workS s op a b imm v = reckS s op a b imm := by
  have e : cls op = 2 := by unfold cls; rw [if_neg (by omega), if_pos hc]
  unfold workS; rw [e]; rfl
theorem workS_mem (s : Sta) (op : Int) (a b : Nat) (imm v : Int) (hc : 48 ≤ op ∧ op ≤ 58) : workS s op a b imm v = movS s op a v := by
  have e : cls op = 3 := by unfold cls; rw [if_neg (by omega), if_neg (by omega), if_pos hc]
  unfold workS; rw [e]; rfl
theorem workS_nop (s : Sta) (a b : Nat) (imm v : Int) : workS s 0 a b imm v = s := by unfold workS; rfl
theorem next_of (s : Sta) (op : Int) (a b : Nat) (imm v : Int) (h0 : 0 ≤ op) (h1 : op < 256) (h : (doF s op a b imm).1 = 0) (he : gE (tabF op) = false) :
    ∃ z : Int, (z = 1 ∨ z = 2 ∨ z = 3 ∨ z = 6) ∧ (doS s op a b imm v).pc = (s.pc + z) % 4294967296 := by
  obtain ⟨hi, eS, hc⟩ := doS_is s op a b imm v h
  obtain ⟨n, rfl⟩ : ∃ n : Nat, op = n := ⟨op.toNat, by omega⟩
  rw [eS]
  have hz := sz_tab n (by omega)
  rcases hc with hc | hc | hc | hc
  · have hn : n = 0 := by omega
    subst hn
    exact ⟨_, hz (.inl rfl), by rw [show ((0 : Nat) : Int) = 0 from rfl, workS_nop]; rfl⟩
  · refine ⟨_, hz (.inr (.inl (by omega))), ?_⟩
    rw [workS_alu _ _ _ _ _ _ hc]; unfold reckS; rw [markIf_pc, regIf_pc]; rfl
  · refine ⟨_, hz (.inr (.inr (.inl (by omega)))), ?_⟩
    rw [workS_mem _ _ _ _ _ _ hc]; unfold movS; rw [regIf_pc, stack_pc]; rfl
  · rw [ends_tab n (by omega) (by omega)] at he; exact absurd he (by decide)
end Go.Proofs.YthimfiihebdchaaDoor
