/- What is known of an instruction ahead of its being done, and what it does. -/
import Derived.Test.YtjmcbohjkdbkbaaDoorCpure
import Derived.Test.YtjmcbohjkdbkbaaDoorKsets
import Derived.Test.YtjmcbohjkdbkbaaDoorCwork
namespace Go.Proofs.YtjmcbohjkdbkbaaDoor
open Go.RowKit
set_option linter.unusedVariables false
set_option linter.unusedSimpArgs false

theorem fails_tab : ∀ n : Nat, n < 256 → (n = 25 ∨ n = 30 ∨ (48 ≤ n ∧ n ≤ 58) ∨ n = 80) → gF (tabF (n : Int)) = true := by decide +kernel
theorem fails_of (s : Sta) (op : Int) (a b : Nat) (imm : Int) (h0 : 0 ≤ op) (h1 : op < 256) (h : (doF s op a b imm).1 ≠ 0) (h' : (doF s op a b imm).1 ≠ 1) : gF (tabF op) = true := by
  obtain ⟨n, rfl⟩ : ∃ n : Nat, op = n := ⟨op.toNat, by omega⟩
  refine fails_tab n (by omega) ?_
  unfold doF at h h'
  split at h
  · rename_i hi
    unfold isIns at hi
    simp only [Bool.and_eq_true, bne_iff_ne, ne_eq] at hi
    rcases cls_cases _ hi.2 with hc | hc | hc | hc | hc
    · exfalso; apply h; unfold workF; have e : cls (n : Int) = 1 := by rw [hc]; rfl
      rw [e]; rfl
    · have e : cls (n : Int) = 2 := by unfold cls; rw [if_neg (by omega), if_pos hc]
      unfold workF at h; rw [e] at h
      cases q : aluIs (n : Int) (secN (nextS s n) n b imm) with
      | true => rw [q] at h; exact absurd rfl h
      | false =>
        unfold aluIs at q
        simp at q
        omega
    · right; right; left; omega
    · exfalso; apply h; unfold workF; have e : cls (n : Int) = 4 := by unfold cls; rw [if_neg (by omega), if_neg (by omega), if_neg (by omega), if_pos hc]
      rw [e]; rfl
    · right; right; right; omega
  · rename_i hi
    rw [if_neg hi] at h'
    exact absurd rfl h'
theorem ends_tab : ∀ n : Nat, n < 256 → (64 ≤ n ∧ n ≤ 74) → gE (tabF (n : Int)) = true := by decide +kernel
theorem sz_tab : ∀ n : Nat, n < 256 → (n = 0 ∨ (16 ≤ n ∧ n ≤ 33) ∨ (48 ≤ n ∧ n ≤ 58) ∨ n = 80) → sz (rowOf (n : Int) false) = 1 ∨ sz (rowOf (n : Int) false) = 2 ∨ sz (rowOf (n : Int) false) = 3 ∨ sz (rowOf (n : Int) false) = 6 := by decide +kernel
theorem regIf_pc (s : Sta) (k : Bool) (a : Nat) (x : Int) : (s.regIf k a x).pc = s.pc := by cases k <;> rfl
theorem markIf_pc (s : Sta) (k : Bool) (x : Int) : (s.markIf k x).pc = s.pc := by cases k <;> rfl
theorem stack_pc (s : Sta) (op : Int) : (stackS s op).pc = s.pc := by unfold stackS; split; · rfl
                                                                      split <;> rfl
/-- What is done, where there is no fault. -/
theorem doS_is (s : Sta) (op : Int) (a b : Nat) (imm v : Int) (h : (doF s op a b imm).1 = 0) : isIns op a b imm = true ∧ doS s op a b imm v = workS (nextS s op) op a b imm v ∧
    (op = 0 ∨ (16 ≤ op ∧ op ≤ 33) ∨ (48 ≤ op ∧ op ≤ 58) ∨ (64 ≤ op ∧ op ≤ 74)) := by
  have hi : isIns op a b imm = true := by
    cases q : isIns op a b imm with
    | true => rfl
    | false => unfold doF at h; rw [q] at h; exact absurd h (show ¬ (1 : Int) = 0 by decide)
  refine ⟨hi, by unfold doS; rw [if_pos h], ?_⟩
  have h2 := hi
  unfold isIns at h2
  simp only [Bool.and_eq_true, bne_iff_ne, ne_eq] at h2
  rcases cls_cases op h2.2 with hc | hc | hc | hc | hc
  · exact .inl hc
  · exact .inr (.inl hc)
  · exact .inr (.inr (.inl hc))
  · exact .inr (.inr (.inr hc))
  · exfalso
    unfold doF at h; rw [hi] at h
    unfold workF at h
    have e : cls op = 5 := by rw [hc]; rfl
    rw [e] at h
    exact absurd h (show ¬ (8 : Int) = 0 by decide)
theorem workS_alu (s : Sta) (op : Int) (a b : Nat) (imm v : Int) (hc : 16 ≤ op ∧ op ≤ 33) : workS s op a b imm v = reckS s op a b imm := by
  have e : cls op = 2 := by unfold cls; rw [if_neg (by omega), if_pos hc]
  unfold workS; rw [e]; rfl
theorem workS_mem (s : Sta) (op : Int) (a b : Nat) (imm v : Int) (hc : 48 ≤ op ∧ op ≤ 58) : workS s op a b imm v = movS s op a v := by
  have e : cls op = 3 := by unfold cls; rw [if_neg (by omega), if_neg (by omega), if_pos hc]
  unfold workS; rw [e]; rfl
theorem workS_jmp (s : Sta) (op : Int) (a b : Nat) (imm v : Int) (hc : 64 ≤ op ∧ op ≤ 74) : workS s op a b imm v = jmpS s op a imm := by
  have e : cls op = 4 := by unfold cls; rw [if_neg (by omega), if_neg (by omega), if_neg (by omega), if_pos hc]
  unfold workS; rw [e]; rfl
theorem workS_nop (s : Sta) (a b : Nat) (imm v : Int) : workS s 0 a b imm v = s := by unfold workS; rfl
theorem next_of (s : Sta) (op : Int) (a b : Nat) (imm v : Int) (h0 : 0 ≤ op) (h1 : op < 256) (h : (doF s op a b imm).1 = 0) (he : gE (tabF op) = false) :
    ∃ z : Int, (z = 1 ∨ z = 2 ∨ z = 3 ∨ z = 6) ∧ (doS s op a b imm v).pc = (s.pc + z) % 4294967296 := by
  obtain ⟨hi, eS, hc⟩ := doS_is s op a b imm v h
  obtain ⟨n, rfl⟩ : ∃ n : Nat, op = n := ⟨op.toNat, by omega⟩
  rw [eS]
  have hz := sz_tab n (by omega)
  rcases hc with hc | hc | hc | hc
  · have hn : n = 0 := by omega
    subst hn
    exact ⟨_, hz (.inl rfl), by rw [show ((0 : Nat) : Int) = 0 from rfl, workS_nop]; rfl⟩
  · refine ⟨_, hz (.inr (.inl (by omega))), ?_⟩
    rw [workS_alu _ _ _ _ _ _ hc]; unfold reckS; rw [markIf_pc, regIf_pc]; rfl
  · refine ⟨_, hz (.inr (.inr (.inl (by omega)))), ?_⟩
    rw [workS_mem _ _ _ _ _ _ hc]; unfold movS; rw [regIf_pc, stack_pc]; rfl
  · rw [ends_tab n (by omega) (by omega)] at he; exact absurd he (by decide)
end Go.Proofs.YtjmcbohjkdbkbaaDoor
