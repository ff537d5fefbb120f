/- A block of the disk's bytes. -/
import Derived.Test.YtpieeefeicdfgaaVbkp
namespace Go.Proofs.Ytpieeefeicdfgaa
open Go.RowKit
set_option linter.unusedVariables false

theorem cut_mid (q off cap b : Nat) (hb : b < 8) (hc : (512 : Int) ≤ cap) (w : World) : (Instr.slice 23 (.slice (some ⟨q, off, none⟩) 512 cap) (some (.int .u32 (64 * (b : Int)))) (some (.int .u32 (64 * (b : Int) + 64))) none).run Try.prog w = .ok (.slice (some ⟨q, off + 64 * b, none⟩) 64 (cap - 64 * b)) w := by
  have hs : (sizeOf (Try.prog.elem 23)).run Try.prog w = .ok 1 w := by kernel_rfl
  rw [run_slice_lh (P := Try.prog) w 23 _ 512 cap (by kernel_rfl) .u32 .u32 _ _ (by omega) (by omega) (by omega), hs]
  have e1 : (64 * (b : Int)).toNat = 64 * b := by omega
  have e2 : (64 * (b : Int) + 64).toNat = 64 * b + 64 := by omega
  have e3 : ¬ cap = 64 * b := by omega
  simp [sliced, Result.andThen, e1, e2, e3, Addr.add_lit]
theorem mid_str {w : World} {q off cap b : Nat} {D : List Int} (h : Lies w (some ⟨q, off, none⟩) (byt D)) (hD : D.length = 512) (hb : b < 8) : Str w (.slice (some ⟨q, off + 64 * b, none⟩) 64 cap) (strL (frameL D b)) := by
  have hl := frameL_len (B := D) (i := b) (by omega)
  rcases h with h0 | ⟨q', o', e, hq, hc⟩
  · have := congrArg List.length h0; rw [byt_len, hD] at this; simp at this
  cases e
  have L : Lies w (some ⟨q, off + 64 * b, none⟩) (byt (frameL D b)) := .inr ⟨q, off + 64 * b, rfl, hq, fun j u hj => by
    have hj' : j < 64 := by have := (List.getElem?_eq_some_iff.1 hj).1; rw [byt_len, hl] at this; exact this
    rw [Nat.add_assoc]
    refine hc _ _ ?_
    rw [byt_at, frameL_at hj'] at hj
    rw [byt_at]; exact hj⟩
  have := L.str (cap := cap) (fun e => by cases e) (fun a e => by cases e; rfl)
  rw [hl] at this; exact this
end Go.Proofs.Ytpieeefeicdfgaa
