/- Whether a command's block and its frame are there. -/
import Derived.Test.YtpieeefeicdfgabVpart
namespace Go.Proofs.Ytpieeefeicdfgab
open Go.RowKit
set_option linter.unusedVariables false

/-- Are a command's block and its frame there? -/
def canB (D : List Int) (nf : Nat) (f t : Int) : Bool := decide (f < (D.length / 64 : Nat)) && decide (t % 64 = 0) && decide (t < 64 * nf)
set_option maxHeartbeats 1000000 in
theorem can_any {w : World} {p : Nat} {s : DS} {vs vq vo vb : Value} {Fs Fq Fo Fb : List Nat} (h : DevAt w p s vs vq vo vb Fs Fq Fo Fb) (hD : s.D.length ≤ 2048) (v : Value) (R : Nat) (ix : List Nat) (hr : Ram w v R ix) (hix : (ix.length : Int) ≤ 512) (k f t : Int) (hf : 0 ≤ f ∧ f < 4294967296) (ht : 0 ≤ t ∧ t < 4294967296) :
    Calls Try.prog 61 #[.pointer (some ⟨p, 6, none⟩), .agg #[.int .u32 k, .int .u32 f, .int .u32 t], v] w fun e w' => e = .returned (.bool (canB s.D ix.length f t)) ∧ Kep w w' := by
  obtain ⟨xb, cb, hvb, _⟩ := h.d.lies
  have c : w.cell? ⟨p, 6, none⟩ = some vb := h.c 6
  have lp := block_lt h.box
  subst hvb
  have HS : Hid (∀ m, Calls Try.prog 78 #[v] ((w.alloc (.cells #[.int .u32 k, .int .u32 f, .int .u32 t] 74)).drewN m) fun e w' => e = .returned (.int .u32 (64 * ix.length)) ∧ w' = (w.alloc (.cells #[.int .u32 k, .int .u32 f, .int .u32 t] 74)).drewN m) := fun m => msize_any _ v R ix (hr.kep (((Kep.refl w).alloc _).drewN m)) hix
  obtain ⟨nb, hnb⟩ : ∃ nb, nb = s.D.length / 64 := ⟨_, rfl⟩
  rw [← hnb] at c
  have hnb32 : (nb : Int) ≤ 32 := by omega
  have g1 : (nb : Int) % 4294967296 = nb := by omega
  have c' : ∀ o, (w.alloc o).cell? ⟨p, 6, none⟩ = some (.slice xb nb cb) := fun o => (cell_old lp).trans c
  have hcan : Hid (canB s.D ix.length f t = (decide (f < (nb : Int)) && decide (t % 64 = 0) && decide (t < 64 * (ix.length : Int)))) := by unfold Hid canB; rw [← hnb]
  rw [hcan.out]
  obtain ⟨hf0, hf1⟩ := hf
  obtain ⟨ht0, ht1⟩ := ht
  clear h hr hnb hcan
  by_cases h1 : f < (nb : Int)
  · by_cases h2 : t % 64 = 0
    · have t1 : decide (f < (nb : Int)) = true := decide_eq_true h1
      have t2 : (t % 64 == 0) = true := by simp [h2]
      rw [t1, decide_eq_true h2]
      clear h1 h2
      go_enter Try.func61, Try.ntmps61
      go_wp2_with fail
      go_quiet ((go_at_call 78; exact (HS.out _).mono fun _ _ h => ⟨h.1, _, h.2⟩))
      go_wp2_with fail
      go_ret
      exact ⟨ret_bool (by simp), ((Kep.refl w).alloc _).drewN _⟩
    · have t1 : decide (f < (nb : Int)) = true := decide_eq_true h1
      have t2 : (t % 64 == 0) = false := by simp [h2]
      rw [t1, decide_eq_false h2]
      clear h1 h2
      go_enter Try.func61, Try.ntmps61
      go_wp2_with fail
      go_quiet ((go_at_call 78; exact (HS.out _).mono fun _ _ h => ⟨h.1, _, h.2⟩))
      go_wp2_with fail
      go_ret
      exact ⟨ret_bool (by simp), ((Kep.refl w).alloc _).drewN _⟩
  · have t1 : decide (f < (nb : Int)) = false := decide_eq_false h1
    rw [t1]
    clear h1
    go_enter Try.func61, Try.ntmps61
    go_wp2_with fail
    go_quiet ((go_at_call 78; exact (HS.out _).mono fun _ _ h => ⟨h.1, _, h.2⟩))
    go_wp2_with fail
    go_ret
    exact ⟨ret_bool (by simp), ((Kep.refl w).alloc _).drewN _⟩
end Go.Proofs.Ytpieeefeicdfgab
