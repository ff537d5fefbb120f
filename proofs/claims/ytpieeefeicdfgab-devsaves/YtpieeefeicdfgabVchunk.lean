/- The pieces of a row of bytes, 64 at a time, handed out one by one. -/
import Derived.Test.YtpieeefeicdfgabVblk
import Derived.Test.YtpieeefeicdfgabVrange
import Derived.Shelf.Abstract
import Derived.Sort.BigQuietIn
import Derived.Stop.RegionWithIn
import Derived.OwnWalkIn
namespace Go.Proofs.Ytpieeefeicdfgab
open Go.RowKit Go.Shelf
set_option linter.unusedVariables false
attribute [local go_sem] Oper.semAt_some

theorem chunk_any (w : World) (x : Option Addr) (n cap : Nat) :
    Calls Try.prog 57 #[.slice x n cap, .int .i64 64] w fun e w' => e = .returned (.func (.func 77) #[] #[.pointer (some ⟨w.heap.size, 0, none⟩), .pointer (some ⟨w.heap.size + 1, 0, none⟩)]) ∧ w' = (w.alloc (.cells #[.slice x n cap] 37)).alloc (.cells #[.int .i64 64] 3) := by
  have hmf : ∀ (fn : Fn) (first cap : Array Value) (w : World), (Instr.makeFunc fn first cap).run Try.prog w = .ok (.func fn first cap) w := fun _ _ _ _ => rfl
  go_enter Try.func57, Try.ntmps57
  go_wp2
  go_ret
  exact ⟨rfl, rfl⟩
theorem cut3_bytes (b off n cap k : Nat) (h : 64 * k + 64 ≤ cap) (w : World) : (Instr.slice 37 (.slice (some ⟨b, off, none⟩) n cap) (some (.int .i64 (64 * (k : Int)))) (some (.int .i64 (64 * (k : Int) + 64))) (some (.int .i64 (64 * (k : Int) + 64)))).run Try.prog w = .ok (.slice (some ⟨b, off + 64 * k, none⟩) 64 64) w := by
  have hs : (sizeOf (Try.prog.elem 37)).run Try.prog w = .ok 1 w := by kernel_rfl
  rw [run_slice_lhm (P := Try.prog) w 37 _ n cap (by kernel_rfl) .i64 .i64 .i64 _ _ _ (by omega) (by omega) (by omega) (by omega), hs]
  have e1 : (64 * (k : Int)).toNat = 64 * k := by omega
  have e2 : (64 * (k : Int) + 64).toNat = 64 * k + 64 := by omega
  simp [sliced, Result.andThen, e1, e2, Addr.add_lit]

set_option maxRecDepth 100000 in
set_option maxHeartbeats 4000000 in
theorem chunk1_in (d l nb n cap b off Bs Bn B0 : Nat) (hd : 1 ≤ d) (hn : n = 64 * nb) (hnb : (nb : Int) ≤ 32) (hcap : (n : Int) ≤ cap) (hmax : (cap : Int) ≤ 9223372036854775807) (x : Option Addr) (hx : 0 < nb → x = some ⟨b, off, none⟩)
    (I : Nat → World → Prop) (hI1 : ∀ k W, I k W → W.cell? ⟨Bs, 0, none⟩ = some (.slice x n cap) ∧ W.cell? ⟨Bn, 0, none⟩ = some (.int .i64 64)) (hI2 : ∀ k W m, I k W → I k (W.drewN m))
    (J : Nat → World → Prop) (Jm : Nat → Nat → World → Prop) (W : World) (hJ : ∀ k W, J k W → I k W) (hJm : ∀ s x W W', J s W → KeepsFrom B0 W W' → (x = s ∧ s < nb ∧ I s W') → Jm s x W') (hJJ : ∀ s W W', J s W → KeepsFrom B0 W W' → I s W' → J s W')
    (hY : ∀ s x W, Jm s x W → YieldAt Fence.wide (d - 1) Try.prog l #[.slice (some ⟨b, off + 64 * x, none⟩) 64 64] W fun e W' => e = .returned (.bool true) ∧ J (s + 1) W') (h0 : J 0 W) :
    CallsIn Fence.wide d Try.prog 77 (#[.func (.yield l) #[] #[]] ++ #[.pointer (some ⟨Bs, 0, none⟩), .pointer (some ⟨Bn, 0, none⟩)]) W fun e W' => (∃ v, e = .returned v) ∧ ∃ s, s = nb ∧ J s W' := by
  have hJ' : Hid _ := hJ
  have hJm' : Hid _ := hJm
  have hJJ' : Hid _ := hJJ
  have hY' : Hid _ := hY
  have hI1' : Hid _ := hI1
  have hI2' : Hid _ := hI2
  have h0' : Hid (J 0 W) := h0
  have hn' : Hid (n = 64 * nb) := hn
  have hnn : (n : Int) = 64 * (nb : Int) := by omega
  have hx' : Hid (0 < nb → x = some ⟨b, off, none⟩) := hx
  clear hJ hJm hJJ hY hI1 hI2 h0 hx hn
  refine callsIn_of_wp Try.func77 rfl trivial ?_ rfl
  simp only [Try.ntmps77, List.size_toArray, List.length_cons, List.length_nil, Nat.reduceAdd, Nat.reduceSub, Array.replicate_succ, Array.replicate_zero, List.push_toArray, List.append_toArray, List.nil_append, List.cons_append]
  gi_wp2_with fail
  gi_loopw [4, 5] (fun i _ wr => ∃ k : Nat, (k : Int) ≤ nb ∧ i = .int .i64 (64 * (k : Int)) ∧ Hid (J k wr)) (fun i _ _ => n - (intOf i).toNat)
  case atStart => exact ⟨0, by omega, rfl, h0'⟩
  case round =>
    obtain ⟨k, hk, rfl, hJk⟩ := hrel
    obtain ⟨c0, c1⟩ := hI1'.out k wr (hJ'.out k wr hJk.out)
    by_cases hlt : k < nb
    · have hlt' : (k : Int) < nb := by omega
      have hq : 64 * (k : Int) < n := by omega
      have hxx := hx'.out (by omega)
      subst hxx
      have e1 : ((64 * k : Nat) : Int) = 64 * (k : Int) := by omega
      obtain ⟨X, s1⟩ : ∃ X, ∀ w, (Instr.slice 37 (.slice (some ⟨b, off, none⟩) n cap) (some (.int .i64 (64 * (k : Int)))) none none).run Try.prog w = .ok (.slice X (n - 64 * k) (cap - 64 * k)) w := by
        have := cut_bytes (some ⟨b, off, none⟩) n cap (64 * k) (by have := hn'.out; omega) (by omega)
        rw [e1] at this
        exact ⟨_, this⟩
      have s2 := cut3_bytes b off n cap k (by have := hn'.out; omega)
      obtain ⟨m, hm⟩ : ∃ m : Nat, Hid (m = n - 64 * k) := ⟨_, rfl⟩
      rw [← hm.out] at s1
      have hm1 : (64 : Int) ≤ m := by have := hm.out; have := hn'.out; omega
      have hm2 : ((m : Int) < 64) = False := by rw [eq_iff_iff]; simp; omega
      gi_wp2_with fail
      gi_big_quiet_th (fail)
      have hJd : Hid (J k (wr.drewN nq)) := hJJ'.out k wr _ hJk.out (KeepsFrom.of_put ((Put.refl (l := []) wr).drewN nq) (by simp)) (hI2'.out k wr nq (hJ'.out k wr hJk.out))
      obtain ⟨fn, tmps, assign, body, hy, hR⟩ := hY'.out k k (wr.drewN nq) (hJm'.out k k (wr.drewN nq) _ hJd.out (KeepsFrom.refl _ _) ⟨rfl, hlt, hJ'.out _ _ hJd.out⟩)
      gi_wp2_with fail
      refine hR.mono ?_
      rintro e W3 ⟨rfl, hJ3⟩
      have hJ3' : Hid (J (k + 1) W3) := hJ3
      obtain ⟨d0, d1⟩ := hI1'.out _ W3 (hJ'.out _ W3 hJ3)
      clear hJ3 c0 c1 hR hy
      gi_wp2_with fail
      go_roundw
      case rel => exact ⟨k + 1, by omega, by go_num, hJ3'⟩
      case measure => simp [intOf]; omega
    · gi_wp2_with fail
      go_end0
      obtain rfl : k = nb := by omega
      exact ⟨⟨_, rfl⟩, k, rfl, hJk.out⟩
end Go.Proofs.Ytpieeefeicdfgab
