/- For every number and row of steps, the law MarksPlay returns true: whatever is marked, dropped and cleared, what is watched is as the document says. -/
import Derived.Test.YtncfkbnjiacblaaRows
import Derived.Test.YtncfkbnjiacblaaMkplay
import Derived.Test.YtncfkbnjiacblaaMkopen
import Derived.WalkKit
import Derived.ProofKit
import Derived.OpenShut
import Derived.ShutString
import Derived.ChangeOld
import Derived.Below
import Derived.Lib.SmallJoins
namespace Go.Proofs.Ytncfkbnjiacblaa.marksPlay
open Go.ChangeShapes Go.WideShapes Go.ChangeAt Go.RowKit
set_option linter.unusedVariables false
set_option linter.unusedSimpArgs false

theorem own : ownKnob Try.prog.godebug = none := by kernel_rfl
theorem laidOut : laidOutB Try.prog = true := by kernel_rfl

set_option maxHeartbeats 8000000 in
set_option maxRecDepth 100000 in
theorem walk (a0 : Int) (w0 : (Lit.int .u8 a0).wf = true) (x1 : Option Addr) (len1 cap1 : Nat) (z1 : List Mst) (w : World) (w1 : MstRow w x1 len1 cap1 z1) :
    Calls Try.prog 3 #[.int .u8 a0, .slice x1 len1 cap1] w fun e w' => e = .returned (.bool true) ∧ Kep w w' := by
  have hb0 : 0 ≤ a0 ∧ a0 < 256 := by simp [Lit.wf, IntKind.min, IntKind.max, IntKind.signed, IntKind.bits] at w0; omega
  have hI : Hid (MstRow w x1 len1 cap1 z1) := w1
  have hlen := w1.max
  have HW : Hid (∀ w, Calls Try.prog 19 #[] w fun e w' => e = .returned (.bool true) ∧ Kep w w') := works15_any
  clear w0 w1
  obtain ⟨m, hm, hmm⟩ : ∃ m : Nat, (m : Int) < 64 ∧ a0.tmod 64 = m := ⟨(a0 % 64).toNat, by omega, by rw [Int.tmod_eq_emod_of_nonneg hb0.1]; omega⟩
  obtain ⟨n, hn⟩ : ∃ n : Nat, n = 1 + m := ⟨_, rfl⟩
  have hnm : 1 + (m : Int) = n := by omega
  have hn1 : (1 : Int) ≤ n ∧ (n : Int) ≤ 64 := by omega
  have HN : Hid (Calls Try.prog 7 #[.int .i64 n] w fun e w' => e = .returned (.tuple #[.pointer (some ⟨w.heap.size, 0, none⟩), .int .i64 0]) ∧ Kep w w' ∧ MarksAt w' w.heap.size (w.heap.size + 1) (w.heap.size + 2) (List.replicate n false) (List.replicate n false)) := mnew_any w n (by omega) (by omega)
  have HR : Hid (∀ w, Calls Try.prog 8 #[.int .i64 n] w fun e w' => ∃ c0 c1 : Nat, e = .returned (rmV c0 c1 n) ∧ Kep w w' ∧ RAt w' c0 c1 n (List.replicate n false) (List.replicate n false) ∧ w.heap.size ≤ c0 ∧ w.heap.size ≤ c1) := fun w => rnew_any w n (by omega) (by omega)
  clear hn
  go_enter Try.func3, Try.ntmps3
  go_wp2_with fail
  refine HN.out.mono ?_
  rintro e w1 ⟨rfl, K1, M1⟩
  have M1' : Hid (MarksAt w1 w.heap.size (w.heap.size + 1) (w.heap.size + 2) (List.replicate n false) (List.replicate n false)) := M1
  have K1' : Hid (Kep w w1) := K1
  clear HN M1 K1
  go_wp2_with fail
  refine (HR.out _).mono ?_
  rintro e w2 ⟨c0, c1, rfl, K2, R2, u0, u1⟩
  have A0 : Hid (MMid w (w2.alloc (.cells #[.slice (some ⟨c0, 0, none⟩) n n, .slice (some ⟨c1, 0, none⟩) n n] 29)) w.heap.size (w.heap.size + 1) (w.heap.size + 2) c0 c1 w2.heap.size n (List.replicate n false) (List.replicate n false) (List.replicate n false) (List.replicate n false)) := by
    have ka : Kep w2 (w2.alloc (.cells #[.slice (some ⟨c0, 0, none⟩) n n, .slice (some ⟨c1, 0, none⟩) n n] 29)) := (Kep.refl _).alloc _
    have l0 := block_lt M1'.out.r0
    have l1 := block_lt M1'.out.r1
    exact ⟨(M1'.out.kep K2).kep ka, R2.kep ka, hat _ _ _ rfl, kep_trans (kep_trans K1'.out K2) ka, by have := K1'.out.size; omega, by omega⟩
  clear HR K2 R2 u0 u1 M1' K1'
  go_upto_region 6 with fail
  generalize hW1 : World.alloc _ _ = W1
  rw [hW1] at A0
  generalize w.heap.size + 1 = b0 at A0
  generalize w.heap.size + 2 = b1 at A0
  generalize w.heap.size = p at A0 ⊢
  generalize w2.heap.size = q at A0 ⊢
  have N0 : Hid ((List.replicate n false).length = n) := by simp [Hid]
  generalize List.replicate n false = Z at A0 N0
  clear hW1 hb0
  go_wp2_with fail
  go_loopw [9] (fun i wr => ∃ k : Nat, (k : Int) ≤ len1 ∧ (k : Int) ≤ 100 ∧ i = .int .i64 k ∧ Hid (∃ L0 L1, MMid w wr p b0 b1 c0 c1 q n L0 L1 L0 L1)) (fun i _ => 200 - (intOf i).toNat)
  case atStart => exact ⟨0, by omega, by omega, rfl, _, _, A0.out⟩
  case round =>
    obtain ⟨k, hk1, hk2, rfl, hP⟩ := hrel
    obtain ⟨L0, L1, A1⟩ := hP.out
    have A : Hid (MMid w wr p b0 b1 c0 c1 q n L0 L1 L0 L1) := A1
    have KW : Kep w wr := A1.kep
    clear hP A1 A0 N0 Z
    by_cases hend : (k : Int) < len1 ∧ (k : Int) < 100
    · obtain ⟨hl, h100⟩ := hend
      obtain ⟨b, off, ⟨kd, f, mk⟩, -, hx, hcap0, lb, q0, q1, q2⟩ := hI.out.at (k := k) (by omega)
      subst hx
      have hcap : (len1 : Int) ≤ cap1 := by omega
      simp only at q0 q1 q2
      have d0 := (KW.cell lb).trans q0
      have d1 := (KW.cell lb).trans q1
      have d2 := (KW.cell lb).trans q2
      clear q0 q1 q2 KW hcap0 hI
      go_upto_region 10 with fail
      have A2 : Hid (MSp w (wr.alloc (.cells #[.int .i64 kd, .int .i64 f, .int .i64 mk] 32)) p b0 b1 c0 c1 q n wr.heap.size kd f mk L0 L1 L0 L1) := ⟨A.out.kp ((Kep.refl _).alloc _), hat _ _ _ rfl⟩
      generalize World.alloc wr _ = W at A2 ⊢
      generalize wr.heap.size = z at A2 ⊢
      clear A d0 d1 d2 lb
      obtain ⟨z0, -, -, -, -⟩ := A2.out.cells
      go_cut [41] from 40 to 41 (fun s41 wx => s41 = .int .i64 kd ∧ W = wx)
      case first =>
        go_wp2_with fail
        go_meet
        case rel => exact ⟨rfl, rfl⟩
      case rest =>
      obtain ⟨rfl, rfl⟩ := hcut
      clear z0
      refine ‹∀ (a : Act) (w : World), Code.wp Try.prog _ _ a w → _› _ _ ?_
      go_cut [] from 26 to 130 (fun wx => Hid (∃ K0 K1, MSp w wx p b0 b1 c0 c1 q n z kd f mk K0 K1 K0 K1))
      case first =>
        by_cases e0 : kd = 0
        · subst e0
          obtain ⟨z0, z1, z2, q0, q1⟩ := A2.out.cells
          have H1 : Hid (Calls Try.prog 9 #[rmV c0 c1 n, .int .i64 f, .int .i64 1] W fun e w' => e = .returned (.bool (bears L0 f)) ∧ MSp w w' p b0 b1 c0 c1 q n z 0 f mk L0 L1 L0 L1) := A2.out.rhas f 1
          have H2 : Hid (∀ W, MSp w W p b0 b1 c0 c1 q n z 0 f mk L0 L1 L0 L1 → Calls Try.prog 9 #[rmV c0 c1 n, .int .i64 f, .int .i64 2] W fun e w' => e = .returned (.bool (bears L1 f)) ∧ MSp w w' p b0 b1 c0 c1 q n z 0 f mk L0 L1 L0 L1) := fun W h => h.rhas f 2
          have H3 : Hid (∀ W, MSp w W p b0 b1 c0 c1 q n z 0 f mk L0 L1 L0 L1 → Calls Try.prog 10 #[.pointer (some ⟨p, 0, none⟩), .int .i64 f, .int .i64 mk] W fun e w' => e = .returned (.bool (isF (kindL L0 L1 mk).length f && !(bears L0 f || bears L1 f))) ∧ MSp w w' p b0 b1 c0 c1 q n z 0 f mk (onK mk 1 (putB · f true) L0) (onK mk 2 (putB · f true) L1) L0 L1) := fun W h => h.mark f mk
          have H4 : Hid (∀ W, MSp w W p b0 b1 c0 c1 q n z 0 f mk (onK mk 1 (putB · f true) L0) (onK mk 2 (putB · f true) L1) L0 L1 → Calls Try.prog 11 #[rmV c0 c1 n, .int .i64 f, .int .i64 mk, .bool true] W fun e w' => e = .returned (.bool (isF (kindL L0 L1 mk).length f)) ∧ MSp w w' p b0 b1 c0 c1 q n z 0 f mk (onK mk 1 (putB · f true) L0) (onK mk 2 (putB · f true) L1) (onK mk 1 (putB · f true) L0) (onK mk 2 (putB · f true) L1)) := fun W h => h.rset f mk true
          generalize onK mk 1 (putB · f true) L0 = K0 at H3 H4
          generalize onK mk 2 (putB · f true) L1 = K1 at H3 H4
          generalize isF (kindL L0 L1 mk).length f = fi at H3 H4
          obtain ⟨wz, hwz⟩ : ∃ wz, wz = (bears L0 f || bears L1 f) := ⟨_, rfl⟩
          rw [← hwz] at H3
          generalize bears L0 f = y0 at H1 hwz
          generalize bears L1 f = y1 at H2 hwz
          clear A2
          go_upto_region 12 with fail
          go_cut [11] from 44 to 53 (fun s11 wx => s11 = .bool wz ∧ Hid (MSp w wx p b0 b1 c0 c1 q n z 0 f mk L0 L1 L0 L1))
          case first =>
            clear H3 H4
            subst hwz
            cases y0
            · cases y1
              all_goals
                go_wp2_with fail
                refine H1.out.mono ?_
                rintro e w3 ⟨rfl, A3⟩
                have A3' : Hid (MSp w w3 p b0 b1 c0 c1 q n z 0 f mk L0 L1 L0 L1) := A3
                obtain ⟨z0, z1, z2, q0, q1⟩ := A3.cells
                clear H1 A3
                go_wp2_with fail
                refine (H2.out _ A3'.out).mono ?_
                rintro e w4 ⟨rfl, A4⟩
                have A4' : Hid (MSp w w4 p b0 b1 c0 c1 q n z 0 f mk L0 L1 L0 L1) := A4
                clear H2 A4 A3'
                go_wp2_with fail
                go_meet
                case rel => exact ⟨rfl, A4'.out⟩
            · go_wp2_with fail
              refine H1.out.mono ?_
              rintro e w4 ⟨rfl, A4⟩
              have A4' : Hid (MSp w w4 p b0 b1 c0 c1 q n z 0 f mk L0 L1 L0 L1) := A4
              clear H1 H2 A4
              go_wp2_with fail
              go_meet
              case rel => exact ⟨rfl, A4'.out⟩
          case rest =>
            obtain ⟨rfl, A4'⟩ := hcut
            clear H1 H2 hwz y0 y1 z0 z1 z2 q0 q1
            refine ‹∀ (a : Act) (w : World), Code.wp Try.prog _ _ a w → _› _ _ ?_
            cases fi
            · go_wp2_with fail
              refine wp_region_held_drew (S := fun w' => w'.heap[z]? = some (.cells #[.int .i64 0, .int .i64 f, .int .i64 mk] 32 (0, 0)) ∧ w'.heap[q]? = some (.cells #[.slice (some ⟨c0, 0, none⟩) n n, .slice (some ⟨c1, 0, none⟩) n n] 29 (0, 0))) (by kernel_rfl) (A4'.out.rows) (fun hH => ?_)
              refine wpAnyH_take (i := 0) (v := .pointer (some ⟨p, 0, none⟩)) rfl (by kernel_rfl) (by kernel_rfl) (by kernel_rfl) (fun _ _ _ h => h) (.inl ⟨by rfl, by intro w hS; go_simp⟩) hH ?_
              (try dsimp only [Act.put]); (try simp only [List.getElem_toArray, List.getElem_cons_zero, List.getElem_cons_succ, Act.put, List.setIfInBounds_toArray, List.set_cons_zero, List.set_cons_succ])
              refine wpAnyH_take (i := 1) (v := .pointer (some ⟨z, 1, none⟩)) rfl (by kernel_rfl) (by kernel_rfl) (by kernel_rfl) (fun _ _ _ h => h) (.inl ⟨by rfl, by intro w hS; go_simp⟩) hH ?_
              (try dsimp only [Act.put]); (try simp only [List.getElem_toArray, List.getElem_cons_zero, List.getElem_cons_succ, Act.put, List.setIfInBounds_toArray, List.set_cons_zero, List.set_cons_succ])
              refine wpAnyH_take (i := 2) (v := .int .i64 f) rfl (by kernel_rfl) (by kernel_rfl) (by kernel_rfl) (fun _ _ _ h => h) (.inl ⟨by rfl, by intro w hS; have c1 : w.cell? ⟨z, 1, none⟩ = some (.int .i64 f) := (cell_of_block hS.1).trans rfl; clear hS; go_simp⟩) hH ?_
              (try dsimp only [Act.put]); (try simp only [List.getElem_toArray, List.getElem_cons_zero, List.getElem_cons_succ, Act.put, List.setIfInBounds_toArray, List.set_cons_zero, List.set_cons_succ])
              refine wpAnyH_take (i := 3) (v := .pointer (some ⟨z, 2, none⟩)) rfl (by kernel_rfl) (by kernel_rfl) (by kernel_rfl) (fun _ _ _ h => h) (.inl ⟨by rfl, by intro w hS; go_simp⟩) hH ?_
              (try dsimp only [Act.put]); (try simp only [List.getElem_toArray, List.getElem_cons_zero, List.getElem_cons_succ, Act.put, List.setIfInBounds_toArray, List.set_cons_zero, List.set_cons_succ])
              refine wpAnyH_take (i := 4) (v := .int .i64 mk) rfl (by kernel_rfl) (by kernel_rfl) (by kernel_rfl) (fun _ _ _ h => h) (.inl ⟨by rfl, by intro w hS; have c1 : w.cell? ⟨z, 2, none⟩ = some (.int .i64 mk) := (cell_of_block hS.1).trans rfl; clear hS; go_simp⟩) hH ?_
              (try dsimp only [Act.put]); (try simp only [List.getElem_toArray, List.getElem_cons_zero, List.getElem_cons_succ, Act.put, List.setIfInBounds_toArray, List.set_cons_zero, List.set_cons_succ])
              refine wpAnyH_take (i := 6) (v := rmV c0 c1 n) rfl (by kernel_rfl) (by kernel_rfl) (by kernel_rfl) (fun _ _ _ h => h) (yields_rowg rfl 29 _ rfl q rfl 29 _ (0, 0) _ (fun w hS => hS.2) Try.underlying29 rfl (by kernel_rfl)) hH ?_
              (try dsimp only [Act.put]); (try simp only [List.getElem_toArray, List.getElem_cons_zero, List.getElem_cons_succ, Act.put, List.setIfInBounds_toArray, List.set_cons_zero, List.set_cons_succ])
              refine wpAnyH_take (i := 7) (v := .pointer (some ⟨z, 1, none⟩)) rfl (by kernel_rfl) (by kernel_rfl) (by kernel_rfl) (fun _ _ _ h => h) (.inl ⟨by rfl, by intro w hS; go_simp⟩) hH ?_
              (try dsimp only [Act.put]); (try simp only [List.getElem_toArray, List.getElem_cons_zero, List.getElem_cons_succ, Act.put, List.setIfInBounds_toArray, List.set_cons_zero, List.set_cons_succ])
              refine wpAnyH_take (i := 8) (v := .int .i64 f) rfl (by kernel_rfl) (by kernel_rfl) (by kernel_rfl) (fun _ _ _ h => h) (.inl ⟨by rfl, by intro w hS; have c1 : w.cell? ⟨z, 1, none⟩ = some (.int .i64 f) := (cell_of_block hS.1).trans rfl; clear hS; go_simp⟩) hH ?_
              (try dsimp only [Act.put]); (try simp only [List.getElem_toArray, List.getElem_cons_zero, List.getElem_cons_succ, Act.put, List.setIfInBounds_toArray, List.set_cons_zero, List.set_cons_succ])
              refine wpAnyH_take (i := 9) (v := .pointer (some ⟨z, 2, none⟩)) rfl (by kernel_rfl) (by kernel_rfl) (by kernel_rfl) (fun _ _ _ h => h) (.inl ⟨by rfl, by intro w hS; go_simp⟩) hH ?_
              (try dsimp only [Act.put]); (try simp only [List.getElem_toArray, List.getElem_cons_zero, List.getElem_cons_succ, Act.put, List.setIfInBounds_toArray, List.set_cons_zero, List.set_cons_succ])
              refine wpAnyH_take (i := 10) (v := .int .i64 mk) rfl (by kernel_rfl) (by kernel_rfl) (by kernel_rfl) (fun _ _ _ h => h) (.inl ⟨by rfl, by intro w hS; have c1 : w.cell? ⟨z, 2, none⟩ = some (.int .i64 mk) := (cell_of_block hS.1).trans rfl; clear hS; go_simp⟩) hH ?_
              (try dsimp only [Act.put]); (try simp only [List.getElem_toArray, List.getElem_cons_zero, List.getElem_cons_succ, Act.put, List.setIfInBounds_toArray, List.set_cons_zero, List.set_cons_succ])
              refine wpAnyH_ready (rs := [5]) (by kernel_rfl) (by simp) ?_
              refine AllReadyH.cons rfl (fun K hK => ?_) AllReadyH.nil
              rw [if_pos (by rfl)]
              go_simp
              refine (H3.out _ (A4'.out.kp (Kep.refl _).drew)).mono ?_
              rintro e w5 ⟨rfl, A5⟩
              have A5' : Hid (MSp w w5 p b0 b1 c0 c1 q n z 0 f mk K0 K1 L0 L1) := A5
              have qs5 := A5.rows
              clear A5
              refine hK.out _ _ qs5 (fun hH => ?_)
              clear qs5
              clear hK K
              (try dsimp only [Act.put]); (try simp only [List.getElem_toArray, List.getElem_cons_zero, List.getElem_cons_succ, Act.put, List.setIfInBounds_toArray, List.set_cons_zero, List.set_cons_succ])
              refine wpAnyH_ready (rs := [11]) (by kernel_rfl) (by simp) ?_
              refine AllReadyH.cons rfl (fun K hK => ?_) AllReadyH.nil
              rw [if_pos (by rfl)]
              go_simp
              refine (H4.out _ A5'.out).mono ?_
              rintro e w6 ⟨rfl, A6⟩
              have A6' : Hid (MSp w w6 p b0 b1 c0 c1 q n z 0 f mk K0 K1 K0 K1) := A6
              have qs6 := A6.rows
              clear A6
              refine hK.out _ _ qs6 (fun hH => ?_)
              clear qs6
              clear hK K
              (try dsimp only [Act.put]); (try simp only [List.getElem_toArray, List.getElem_cons_zero, List.getElem_cons_succ, Act.put, List.setIfInBounds_toArray, List.set_cons_zero, List.set_cons_succ])
              refine wpAnyH_take (i := 12) (v := .bool false) rfl (by kernel_rfl) (by kernel_rfl) (by kernel_rfl) (fun _ _ _ h => h) (.inl ⟨by rfl, by intro w hS; go_simp⟩) hH ?_
              (try dsimp only [Act.put]); (try simp only [List.getElem_toArray, List.getElem_cons_zero, List.getElem_cons_succ, Act.put, List.setIfInBounds_toArray, List.set_cons_zero, List.set_cons_succ])
              refine wpAnyH_take (i := 13) (v := undef) rfl (by kernel_rfl) (by kernel_rfl) (by kernel_rfl) (fun _ _ _ h => h) (.inr ⟨by rfl, rfl⟩) hH ?_
              (try dsimp only [Act.put]); (try simp only [List.getElem_toArray, List.getElem_cons_zero, List.getElem_cons_succ, Act.put, List.setIfInBounds_toArray, List.set_cons_zero, List.set_cons_succ])
              refine wpAnyH_take (i := 14) (v := undef) rfl (by kernel_rfl) (by kernel_rfl) (by kernel_rfl) (fun _ _ _ h => h) (.inr ⟨by rfl, rfl⟩) hH ?_
              (try dsimp only [Act.put]); (try simp only [List.getElem_toArray, List.getElem_cons_zero, List.getElem_cons_succ, Act.put, List.setIfInBounds_toArray, List.set_cons_zero, List.set_cons_succ])
              refine wpAnyH_take (i := 15) (v := .bool false) rfl (by kernel_rfl) (by kernel_rfl) (by kernel_rfl) (fun _ _ _ h => h) (.inl ⟨by rfl, by intro w hS; go_simp⟩) hH ?_
              (try dsimp only [Act.put]); (try simp only [List.getElem_toArray, List.getElem_cons_zero, List.getElem_cons_succ, Act.put, List.setIfInBounds_toArray, List.set_cons_zero, List.set_cons_succ])
              refine wpAnyH_take (i := 16) (v := .bool false) rfl (by kernel_rfl) (by kernel_rfl) (by kernel_rfl) (fun _ _ _ h => h) (.inl ⟨by rfl, by intro w hS; go_simp⟩) hH ?_
              (try dsimp only [Act.put]); (try simp only [List.getElem_toArray, List.getElem_cons_zero, List.getElem_cons_succ, Act.put, List.setIfInBounds_toArray, List.set_cons_zero, List.set_cons_succ])
              refine wpAnyH_done (by kernel_rfl) ?_ _
              go_wp2_with fail
              go_meet
              case rel => exact ⟨K0, K1, A6'.out⟩
            · simp only [Bool.true_and] at H3
              go_wp2_with fail
              refine wp_region_held_drew (S := fun w' => w'.heap[z]? = some (.cells #[.int .i64 0, .int .i64 f, .int .i64 mk] 32 (0, 0)) ∧ w'.heap[q]? = some (.cells #[.slice (some ⟨c0, 0, none⟩) n n, .slice (some ⟨c1, 0, none⟩) n n] 29 (0, 0))) (by kernel_rfl) (A4'.out.rows) (fun hH => ?_)
              refine wpAnyH_take (i := 0) (v := .pointer (some ⟨p, 0, none⟩)) rfl (by kernel_rfl) (by kernel_rfl) (by kernel_rfl) (fun _ _ _ h => h) (.inl ⟨by rfl, by intro w hS; go_simp⟩) hH ?_
              (try dsimp only [Act.put]); (try simp only [List.getElem_toArray, List.getElem_cons_zero, List.getElem_cons_succ, Act.put, List.setIfInBounds_toArray, List.set_cons_zero, List.set_cons_succ])
              refine wpAnyH_take (i := 1) (v := .pointer (some ⟨z, 1, none⟩)) rfl (by kernel_rfl) (by kernel_rfl) (by kernel_rfl) (fun _ _ _ h => h) (.inl ⟨by rfl, by intro w hS; go_simp⟩) hH ?_
              (try dsimp only [Act.put]); (try simp only [List.getElem_toArray, List.getElem_cons_zero, List.getElem_cons_succ, Act.put, List.setIfInBounds_toArray, List.set_cons_zero, List.set_cons_succ])
              refine wpAnyH_take (i := 2) (v := .int .i64 f) rfl (by kernel_rfl) (by kernel_rfl) (by kernel_rfl) (fun _ _ _ h => h) (.inl ⟨by rfl, by intro w hS; have c1 : w.cell? ⟨z, 1, none⟩ = some (.int .i64 f) := (cell_of_block hS.1).trans rfl; clear hS; go_simp⟩) hH ?_
              (try dsimp only [Act.put]); (try simp only [List.getElem_toArray, List.getElem_cons_zero, List.getElem_cons_succ, Act.put, List.setIfInBounds_toArray, List.set_cons_zero, List.set_cons_succ])
              refine wpAnyH_take (i := 3) (v := .pointer (some ⟨z, 2, none⟩)) rfl (by kernel_rfl) (by kernel_rfl) (by kernel_rfl) (fun _ _ _ h => h) (.inl ⟨by rfl, by intro w hS; go_simp⟩) hH ?_
              (try dsimp only [Act.put]); (try simp only [List.getElem_toArray, List.getElem_cons_zero, List.getElem_cons_succ, Act.put, List.setIfInBounds_toArray, List.set_cons_zero, List.set_cons_succ])
              refine wpAnyH_take (i := 4) (v := .int .i64 mk) rfl (by kernel_rfl) (by kernel_rfl) (by kernel_rfl) (fun _ _ _ h => h) (.inl ⟨by rfl, by intro w hS; have c1 : w.cell? ⟨z, 2, none⟩ = some (.int .i64 mk) := (cell_of_block hS.1).trans rfl; clear hS; go_simp⟩) hH ?_
              (try dsimp only [Act.put]); (try simp only [List.getElem_toArray, List.getElem_cons_zero, List.getElem_cons_succ, Act.put, List.setIfInBounds_toArray, List.set_cons_zero, List.set_cons_succ])
              refine wpAnyH_take (i := 6) (v := rmV c0 c1 n) rfl (by kernel_rfl) (by kernel_rfl) (by kernel_rfl) (fun _ _ _ h => h) (yields_rowg rfl 29 _ rfl q rfl 29 _ (0, 0) _ (fun w hS => hS.2) Try.underlying29 rfl (by kernel_rfl)) hH ?_
              (try dsimp only [Act.put]); (try simp only [List.getElem_toArray, List.getElem_cons_zero, List.getElem_cons_succ, Act.put, List.setIfInBounds_toArray, List.set_cons_zero, List.set_cons_succ])
              refine wpAnyH_take (i := 7) (v := .pointer (some ⟨z, 1, none⟩)) rfl (by kernel_rfl) (by kernel_rfl) (by kernel_rfl) (fun _ _ _ h => h) (.inl ⟨by rfl, by intro w hS; go_simp⟩) hH ?_
              (try dsimp only [Act.put]); (try simp only [List.getElem_toArray, List.getElem_cons_zero, List.getElem_cons_succ, Act.put, List.setIfInBounds_toArray, List.set_cons_zero, List.set_cons_succ])
              refine wpAnyH_take (i := 8) (v := .int .i64 f) rfl (by kernel_rfl) (by kernel_rfl) (by kernel_rfl) (fun _ _ _ h => h) (.inl ⟨by rfl, by intro w hS; have c1 : w.cell? ⟨z, 1, none⟩ = some (.int .i64 f) := (cell_of_block hS.1).trans rfl; clear hS; go_simp⟩) hH ?_
              (try dsimp only [Act.put]); (try simp only [List.getElem_toArray, List.getElem_cons_zero, List.getElem_cons_succ, Act.put, List.setIfInBounds_toArray, List.set_cons_zero, List.set_cons_succ])
              refine wpAnyH_take (i := 9) (v := .pointer (some ⟨z, 2, none⟩)) rfl (by kernel_rfl) (by kernel_rfl) (by kernel_rfl) (fun _ _ _ h => h) (.inl ⟨by rfl, by intro w hS; go_simp⟩) hH ?_
              (try dsimp only [Act.put]); (try simp only [List.getElem_toArray, List.getElem_cons_zero, List.getElem_cons_succ, Act.put, List.setIfInBounds_toArray, List.set_cons_zero, List.set_cons_succ])
              refine wpAnyH_take (i := 10) (v := .int .i64 mk) rfl (by kernel_rfl) (by kernel_rfl) (by kernel_rfl) (fun _ _ _ h => h) (.inl ⟨by rfl, by intro w hS; have c1 : w.cell? ⟨z, 2, none⟩ = some (.int .i64 mk) := (cell_of_block hS.1).trans rfl; clear hS; go_simp⟩) hH ?_
              (try dsimp only [Act.put]); (try simp only [List.getElem_toArray, List.getElem_cons_zero, List.getElem_cons_succ, Act.put, List.setIfInBounds_toArray, List.set_cons_zero, List.set_cons_succ])
              refine wpAnyH_ready (rs := [5]) (by kernel_rfl) (by simp) ?_
              refine AllReadyH.cons rfl (fun K hK => ?_) AllReadyH.nil
              rw [if_pos (by rfl)]
              go_simp
              refine (H3.out _ (A4'.out.kp (Kep.refl _).drew)).mono ?_
              rintro e w5 ⟨rfl, A5⟩
              have A5' : Hid (MSp w w5 p b0 b1 c0 c1 q n z 0 f mk K0 K1 L0 L1) := A5
              have qs5 := A5.rows
              clear A5
              refine hK.out _ _ qs5 (fun hH => ?_)
              clear qs5
              clear hK K
              (try dsimp only [Act.put]); (try simp only [List.getElem_toArray, List.getElem_cons_zero, List.getElem_cons_succ, Act.put, List.setIfInBounds_toArray, List.set_cons_zero, List.set_cons_succ])
              refine wpAnyH_ready (rs := [11]) (by kernel_rfl) (by simp) ?_
              refine AllReadyH.cons rfl (fun K hK => ?_) AllReadyH.nil
              rw [if_pos (by rfl)]
              go_simp
              refine (H4.out _ A5'.out).mono ?_
              rintro e w6 ⟨rfl, A6⟩
              have A6' : Hid (MSp w w6 p b0 b1 c0 c1 q n z 0 f mk K0 K1 K0 K1) := A6
              have qs6 := A6.rows
              clear A6
              refine hK.out _ _ qs6 (fun hH => ?_)
              clear qs6
              clear hK K
              (try dsimp only [Act.put]); (try simp only [List.getElem_toArray, List.getElem_cons_zero, List.getElem_cons_succ, Act.put, List.setIfInBounds_toArray, List.set_cons_zero, List.set_cons_succ])
              refine wpAnyH_take (i := 12) (v := .bool true) rfl (by kernel_rfl) (by kernel_rfl) (by kernel_rfl) (fun _ _ _ h => h) (.inl ⟨by rfl, by intro w hS; go_simp⟩) hH ?_
              (try dsimp only [Act.put]); (try simp only [List.getElem_toArray, List.getElem_cons_zero, List.getElem_cons_succ, Act.put, List.setIfInBounds_toArray, List.set_cons_zero, List.set_cons_succ])
              refine wpAnyH_take (i := 13) (v := .bool wz) rfl (by kernel_rfl) (by kernel_rfl) (by kernel_rfl) (fun _ _ _ h => h) (.inl ⟨by rfl, by intro w hS; go_simp⟩) hH ?_
              (try dsimp only [Act.put]); (try simp only [List.getElem_toArray, List.getElem_cons_zero, List.getElem_cons_succ, Act.put, List.setIfInBounds_toArray, List.set_cons_zero, List.set_cons_succ])
              refine wpAnyH_take (i := 14) (v := .bool (!wz)) rfl (by kernel_rfl) (by kernel_rfl) (by kernel_rfl) (fun _ _ _ h => h) (.inl ⟨by rfl, by intro w hS; go_simp⟩) hH ?_
              (try dsimp only [Act.put]); (try simp only [List.getElem_toArray, List.getElem_cons_zero, List.getElem_cons_succ, Act.put, List.setIfInBounds_toArray, List.set_cons_zero, List.set_cons_succ])
              refine wpAnyH_take (i := 15) (v := .bool (!wz)) rfl (by kernel_rfl) (by kernel_rfl) (by kernel_rfl) (fun _ _ _ h => h) (.inl ⟨by rfl, by intro w hS; go_simp⟩) hH ?_
              (try dsimp only [Act.put]); (try simp only [List.getElem_toArray, List.getElem_cons_zero, List.getElem_cons_succ, Act.put, List.setIfInBounds_toArray, List.set_cons_zero, List.set_cons_succ])
              refine wpAnyH_take (i := 16) (v := .bool false) rfl (by kernel_rfl) (by kernel_rfl) (by kernel_rfl) (fun _ _ _ h => h) (.inl ⟨by rfl, by intro w hS; go_simp⟩) hH ?_
              (try dsimp only [Act.put]); (try simp only [List.getElem_toArray, List.getElem_cons_zero, List.getElem_cons_succ, Act.put, List.setIfInBounds_toArray, List.set_cons_zero, List.set_cons_succ])
              refine wpAnyH_done (by kernel_rfl) ?_ _
              go_wp2_with fail
              go_meet
              case rel => exact ⟨K0, K1, A6'.out⟩
        by_cases e1 : kd = 1
        · subst e1
          clear e0
          obtain ⟨z0, z1, z2, q0, q1⟩ := A2.out.cells
          have H3 : Hid (Calls Try.prog 12 #[.pointer (some ⟨p, 0, none⟩), .int .i64 f, .int .i64 mk] W fun e w' => e = .returned (.tuple #[]) ∧ MSp w w' p b0 b1 c0 c1 q n z 1 f mk (onK mk 1 (putB · f false) L0) (onK mk 2 (putB · f false) L1) L0 L1) := A2.out.drop f mk
          have H4 : Hid (∀ W, MSp w W p b0 b1 c0 c1 q n z 1 f mk (onK mk 1 (putB · f false) L0) (onK mk 2 (putB · f false) L1) L0 L1 → Calls Try.prog 11 #[rmV c0 c1 n, .int .i64 f, .int .i64 mk, .bool false] W fun e w' => e = .returned (.bool (isF (kindL L0 L1 mk).length f)) ∧ MSp w w' p b0 b1 c0 c1 q n z 1 f mk (onK mk 1 (putB · f false) L0) (onK mk 2 (putB · f false) L1) (onK mk 1 (putB · f false) L0) (onK mk 2 (putB · f false) L1)) := fun W h => h.rset f mk false
          generalize onK mk 1 (putB · f false) L0 = K0 at H3 H4
          generalize onK mk 2 (putB · f false) L1 = K1 at H3 H4
          generalize isF (kindL L0 L1 mk).length f = fi at H4
          clear A2
          go_wp2_with fail
          refine H3.out.mono ?_
          rintro e w3 ⟨rfl, A3⟩
          have A3' : Hid (MSp w w3 p b0 b1 c0 c1 q n z 1 f mk K0 K1 L0 L1) := A3
          clear H3 z0 z1 z2 q0 q1
          obtain ⟨z0, z1, z2, q0, q1⟩ := A3.cells
          clear A3
          go_wp2_with fail
          refine (H4.out _ A3'.out).mono ?_
          rintro e w4 ⟨rfl, A4⟩
          have A4' : Hid (MSp w w4 p b0 b1 c0 c1 q n z 1 f mk K0 K1 K0 K1) := A4
          clear H4 A4 A3'
          go_wp2_with fail
          go_meet
          case rel => exact ⟨K0, K1, A4'.out⟩
        by_cases e2 : kd = 2
        · subst e2
          clear e0 e1
          obtain ⟨z0, z1, z2, q0, q1⟩ := A2.out.cells
          have hl0 := A2.out.mid.ref.le
          have H3 : Hid (Calls Try.prog 13 #[.pointer (some ⟨p, 0, none⟩), .int .i64 mk] W fun e w' => e = .returned (.tuple #[]) ∧ MSp w w' p b0 b1 c0 c1 q n z 2 f mk (onK mk 1 noneB L0) (onK mk 2 noneB L1) L0 L1) := A2.out.clr mk
          have HE : Hid (onK mk 1 (clrTo n) L0 = onK mk 1 noneB L0 ∧ onK mk 2 (clrTo n) L1 = onK mk 2 noneB L1) := ⟨onK_all _ _ _ _ hl0.1, onK_all _ _ _ _ hl0.2.1⟩
          generalize onK mk 1 noneB L0 = K0 at H3 HE
          generalize onK mk 2 noneB L1 = K1 at H3 HE
          have H4 : Hid (∀ W (j : Nat), MSp w W p b0 b1 c0 c1 q n z 2 f mk K0 K1 (onK mk 1 (clrTo j) L0) (onK mk 2 (clrTo j) L1) → Calls Try.prog 11 #[rmV c0 c1 n, .int .i64 j, .int .i64 mk, .bool false] W fun e w' => ∃ r : Bool, e = .returned (.bool r) ∧ MSp w w' p b0 b1 c0 c1 q n z 2 f mk K0 K1 (onK mk 1 (clrTo (j + 1)) L0) (onK mk 2 (clrTo (j + 1)) L1)) := fun W j h => by
            refine (h.rset j mk false).mono ?_
            rintro e w' ⟨rfl, a⟩
            rw [onK_next, onK_next] at a
            exact ⟨_, rfl, a⟩
          clear A2 hl0
          go_wp2_with fail
          refine H3.out.mono ?_
          rintro e w3 ⟨rfl, A3⟩
          have A3' : Hid (MSp w w3 p b0 b1 c0 c1 q n z 2 f mk K0 K1 (onK mk 1 (clrTo 0) L0) (onK mk 2 (clrTo 0) L1)) := by rw [onK_zero, onK_zero]; exact A3
          clear H3 z0 z1 z2 q0 q1 A3
          go_wp2_with fail
          go_loopw [12] (fun jv wx => ∃ j : Nat, (j : Int) ≤ n ∧ jv = .int .i64 j ∧ Hid (MSp w wx p b0 b1 c0 c1 q n z 2 f mk K0 K1 (onK mk 1 (clrTo j) L0) (onK mk 2 (clrTo j) L1))) (fun jv _ => 100 - (intOf jv).toNat)
          case atStart => exact ⟨0, by omega, rfl, A3'.out⟩
          case round =>
            clear A3'
            obtain ⟨j, hj, rfl, B⟩ := hrel
            by_cases hlt : j < n
            · have hlt' : (j : Int) < n := by omega
              obtain ⟨z0, z1, z2, q0, q1⟩ := B.out.cells
              go_wp2_with fail
              refine (H4.out _ j B.out).mono ?_
              rintro e w5 ⟨r, rfl, A5⟩
              have A5' : Hid (MSp w w5 p b0 b1 c0 c1 q n z 2 f mk K0 K1 (onK mk 1 (clrTo (j + 1)) L0) (onK mk 2 (clrTo (j + 1)) L1)) := A5
              clear A5 B z0 z1 z2 q0 q1
              go_wp2_with fail
              go_roundw
              case rel => exact ⟨j + 1, by omega, by go_num, A5'.out⟩
              case measure => simp [intOf]; omega
            · obtain rfl : j = n := by omega
              go_wp2_with fail
              go_meet
              case rel =>
                have := B.out
                rw [HE.out.1, HE.out.2] at this
                exact ⟨K0, K1, this⟩
        · have t0 : (kd == 0) = false := by simpa using e0
          have t1 : (kd == 1) = false := by simpa using e1
          have t2 : (kd == 2) = false := by simpa using e2
          clear e0 e1 e2
          go_wp2_with fail
          go_meet
          case rel => exact ⟨L0, L1, A2.out⟩
      case rest =>
        obtain ⟨K0, K1, A3⟩ := hcut.out
        have A4 : Hid (MSp w wc p b0 b1 c0 c1 q n z kd f mk K0 K1 K0 K1) := A3
        obtain ⟨z0, z1, z2, q0, q1⟩ := A3.cells
        clear hcut A3 A2
        have H1 : Hid (∀ W, MSp w W p b0 b1 c0 c1 q n z kd f mk K0 K1 K0 K1 → Calls Try.prog 14 #[.pointer (some ⟨p, 0, none⟩), .int .i64 f, .int .i64 mk] W fun e w' => e = .returned (.bool (bears (kindL K0 K1 mk) f)) ∧ MSp w w' p b0 b1 c0 c1 q n z kd f mk K0 K1 K0 K1) := fun W h => h.has f mk
        have H2 : Hid (∀ W, MSp w W p b0 b1 c0 c1 q n z kd f mk K0 K1 K0 K1 → Calls Try.prog 9 #[rmV c0 c1 n, .int .i64 f, .int .i64 mk] W fun e w' => e = .returned (.bool (bears (kindL K0 K1 mk) f)) ∧ MSp w w' p b0 b1 c0 c1 q n z kd f mk K0 K1 K0 K1) := fun W h => h.rhas f mk
        have H3 : Hid (∀ W, MSp w W p b0 b1 c0 c1 q n z kd f mk K0 K1 K0 K1 → Calls Try.prog 15 #[.pointer (some ⟨p, 0, none⟩), .int .i64 f] W fun e w' => e = .returned (.bool (bears K0 f || bears K1 f)) ∧ MSp w w' p b0 b1 c0 c1 q n z kd f mk K0 K1 K0 K1) := fun W h => h.watched f
        have H4 : Hid (∀ W, MSp w W p b0 b1 c0 c1 q n z kd f mk K0 K1 K0 K1 → Calls Try.prog 9 #[rmV c0 c1 n, .int .i64 f, .int .i64 1] W fun e w' => e = .returned (.bool (bears K0 f)) ∧ MSp w w' p b0 b1 c0 c1 q n z kd f mk K0 K1 K0 K1) := fun W h => h.rhas f 1
        have H5 : Hid (∀ W, MSp w W p b0 b1 c0 c1 q n z kd f mk K0 K1 K0 K1 → Calls Try.prog 9 #[rmV c0 c1 n, .int .i64 f, .int .i64 2] W fun e w' => e = .returned (.bool (bears K1 f)) ∧ MSp w w' p b0 b1 c0 c1 q n z kd f mk K0 K1 K0 K1) := fun W h => h.rhas f 2
        generalize bears (kindL K0 K1 mk) f = x0 at H1 H2
        generalize bears K0 f = y0 at H3 H4
        generalize bears K1 f = y1 at H3 H5
        have A4' := A4
        clear z0 z1 z2 q0 q1 A4
        cases y0
        · simp only [Bool.false_or] at H3
          go_wp2_with fail
          refine wp_region_held_drew (S := fun w' => w'.heap[z]? = some (.cells #[.int .i64 kd, .int .i64 f, .int .i64 mk] 32 (0, 0)) ∧ w'.heap[q]? = some (.cells #[.slice (some ⟨c0, 0, none⟩) n n, .slice (some ⟨c1, 0, none⟩) n n] 29 (0, 0))) (by kernel_rfl) (A4'.out.rows) (fun hH => ?_)
          refine wpAnyH_take (i := 0) (v := .pointer (some ⟨p, 0, none⟩)) rfl (by kernel_rfl) (by kernel_rfl) (by kernel_rfl) (fun _ _ _ h => h) (.inl ⟨by rfl, by intro w hS; go_simp⟩) hH ?_
          (try dsimp only [Act.put]); (try simp only [List.getElem_toArray, List.getElem_cons_zero, List.getElem_cons_succ, Act.put, List.setIfInBounds_toArray, List.set_cons_zero, List.set_cons_succ])
          refine wpAnyH_take (i := 1) (v := .pointer (some ⟨z, 1, none⟩)) rfl (by kernel_rfl) (by kernel_rfl) (by kernel_rfl) (fun _ _ _ h => h) (.inl ⟨by rfl, by intro w hS; go_simp⟩) hH ?_
          (try dsimp only [Act.put]); (try simp only [List.getElem_toArray, List.getElem_cons_zero, List.getElem_cons_succ, Act.put, List.setIfInBounds_toArray, List.set_cons_zero, List.set_cons_succ])
          refine wpAnyH_take (i := 2) (v := .int .i64 f) rfl (by kernel_rfl) (by kernel_rfl) (by kernel_rfl) (fun _ _ _ h => h) (.inl ⟨by rfl, by intro w hS; have c1 : w.cell? ⟨z, 1, none⟩ = some (.int .i64 f) := (cell_of_block hS.1).trans rfl; clear hS; go_simp⟩) hH ?_
          (try dsimp only [Act.put]); (try simp only [List.getElem_toArray, List.getElem_cons_zero, List.getElem_cons_succ, Act.put, List.setIfInBounds_toArray, List.set_cons_zero, List.set_cons_succ])
          refine wpAnyH_take (i := 3) (v := .pointer (some ⟨z, 2, none⟩)) rfl (by kernel_rfl) (by kernel_rfl) (by kernel_rfl) (fun _ _ _ h => h) (.inl ⟨by rfl, by intro w hS; go_simp⟩) hH ?_
          (try dsimp only [Act.put]); (try simp only [List.getElem_toArray, List.getElem_cons_zero, List.getElem_cons_succ, Act.put, List.setIfInBounds_toArray, List.set_cons_zero, List.set_cons_succ])
          refine wpAnyH_take (i := 4) (v := .int .i64 mk) rfl (by kernel_rfl) (by kernel_rfl) (by kernel_rfl) (fun _ _ _ h => h) (.inl ⟨by rfl, by intro w hS; have c1 : w.cell? ⟨z, 2, none⟩ = some (.int .i64 mk) := (cell_of_block hS.1).trans rfl; clear hS; go_simp⟩) hH ?_
          (try dsimp only [Act.put]); (try simp only [List.getElem_toArray, List.getElem_cons_zero, List.getElem_cons_succ, Act.put, List.setIfInBounds_toArray, List.set_cons_zero, List.set_cons_succ])
          refine wpAnyH_take (i := 6) (v := rmV c0 c1 n) rfl (by kernel_rfl) (by kernel_rfl) (by kernel_rfl) (fun _ _ _ h => h) (yields_rowg rfl 29 _ rfl q rfl 29 _ (0, 0) _ (fun w hS => hS.2) Try.underlying29 rfl (by kernel_rfl)) hH ?_
          (try dsimp only [Act.put]); (try simp only [List.getElem_toArray, List.getElem_cons_zero, List.getElem_cons_succ, Act.put, List.setIfInBounds_toArray, List.set_cons_zero, List.set_cons_succ])
          refine wpAnyH_take (i := 7) (v := .pointer (some ⟨z, 1, none⟩)) rfl (by kernel_rfl) (by kernel_rfl) (by kernel_rfl) (fun _ _ _ h => h) (.inl ⟨by rfl, by intro w hS; go_simp⟩) hH ?_
          (try dsimp only [Act.put]); (try simp only [List.getElem_toArray, List.getElem_cons_zero, List.getElem_cons_succ, Act.put, List.setIfInBounds_toArray, List.set_cons_zero, List.set_cons_succ])
          refine wpAnyH_take (i := 8) (v := .int .i64 f) rfl (by kernel_rfl) (by kernel_rfl) (by kernel_rfl) (fun _ _ _ h => h) (.inl ⟨by rfl, by intro w hS; have c1 : w.cell? ⟨z, 1, none⟩ = some (.int .i64 f) := (cell_of_block hS.1).trans rfl; clear hS; go_simp⟩) hH ?_
          (try dsimp only [Act.put]); (try simp only [List.getElem_toArray, List.getElem_cons_zero, List.getElem_cons_succ, Act.put, List.setIfInBounds_toArray, List.set_cons_zero, List.set_cons_succ])
          refine wpAnyH_take (i := 9) (v := .pointer (some ⟨z, 2, none⟩)) rfl (by kernel_rfl) (by kernel_rfl) (by kernel_rfl) (fun _ _ _ h => h) (.inl ⟨by rfl, by intro w hS; go_simp⟩) hH ?_
          (try dsimp only [Act.put]); (try simp only [List.getElem_toArray, List.getElem_cons_zero, List.getElem_cons_succ, Act.put, List.setIfInBounds_toArray, List.set_cons_zero, List.set_cons_succ])
          refine wpAnyH_take (i := 10) (v := .int .i64 mk) rfl (by kernel_rfl) (by kernel_rfl) (by kernel_rfl) (fun _ _ _ h => h) (.inl ⟨by rfl, by intro w hS; have c1 : w.cell? ⟨z, 2, none⟩ = some (.int .i64 mk) := (cell_of_block hS.1).trans rfl; clear hS; go_simp⟩) hH ?_
          (try dsimp only [Act.put]); (try simp only [List.getElem_toArray, List.getElem_cons_zero, List.getElem_cons_succ, Act.put, List.setIfInBounds_toArray, List.set_cons_zero, List.set_cons_succ])
          refine wpAnyH_ready (rs := [5]) (by kernel_rfl) (by simp) ?_
          refine AllReadyH.cons rfl (fun K hK => ?_) AllReadyH.nil
          rw [if_pos (by rfl)]
          go_simp
          refine (H1.out _ (A4'.out.kp (Kep.refl _).drew)).mono ?_
          rintro e w5 ⟨rfl, A5⟩
          have A5' : Hid (MSp w w5 p b0 b1 c0 c1 q n z kd f mk K0 K1 K0 K1) := A5
          have qs5 := A5.rows
          clear A5
          refine hK.out _ _ qs5 (fun hH => ?_)
          clear qs5
          clear hK K
          (try dsimp only [Act.put]); (try simp only [List.getElem_toArray, List.getElem_cons_zero, List.getElem_cons_succ, Act.put, List.setIfInBounds_toArray, List.set_cons_zero, List.set_cons_succ])
          refine wpAnyH_ready (rs := [11]) (by kernel_rfl) (by simp) ?_
          refine AllReadyH.cons rfl (fun K hK => ?_) AllReadyH.nil
          rw [if_pos (by rfl)]
          go_simp
          refine (H2.out _ A5'.out).mono ?_
          rintro e w6 ⟨rfl, A6⟩
          have A6' : Hid (MSp w w6 p b0 b1 c0 c1 q n z kd f mk K0 K1 K0 K1) := A6
          have qs6 := A6.rows
          clear A6
          refine hK.out _ _ qs6 (fun hH => ?_)
          clear qs6
          clear hK K
          (try dsimp only [Act.put]); (try simp only [List.getElem_toArray, List.getElem_cons_zero, List.getElem_cons_succ, Act.put, List.setIfInBounds_toArray, List.set_cons_zero, List.set_cons_succ])
          refine wpAnyH_take (i := 12) (v := .bool false) rfl (by kernel_rfl) (by kernel_rfl) (by kernel_rfl) (fun _ _ _ h => h) (.inl ⟨by rfl, by intro w hS; go_simp⟩) hH ?_
          (try dsimp only [Act.put]); (try simp only [List.getElem_toArray, List.getElem_cons_zero, List.getElem_cons_succ, Act.put, List.setIfInBounds_toArray, List.set_cons_zero, List.set_cons_succ])
          refine wpAnyH_take (i := 13) (v := .bool false) rfl (by kernel_rfl) (by kernel_rfl) (by kernel_rfl) (fun _ _ _ h => h) (.inl ⟨by rfl, by intro w hS; go_simp⟩) hH ?_
          (try dsimp only [Act.put]); (try simp only [List.getElem_toArray, List.getElem_cons_zero, List.getElem_cons_succ, Act.put, List.setIfInBounds_toArray, List.set_cons_zero, List.set_cons_succ])
          refine wpAnyH_take (i := 14) (v := .pointer (some ⟨p, 0, none⟩)) rfl (by kernel_rfl) (by kernel_rfl) (by kernel_rfl) (fun _ _ _ h => h) (.inl ⟨by rfl, by intro w hS; go_simp⟩) hH ?_
          (try dsimp only [Act.put]); (try simp only [List.getElem_toArray, List.getElem_cons_zero, List.getElem_cons_succ, Act.put, List.setIfInBounds_toArray, List.set_cons_zero, List.set_cons_succ])
          refine wpAnyH_take (i := 15) (v := .pointer (some ⟨z, 1, none⟩)) rfl (by kernel_rfl) (by kernel_rfl) (by kernel_rfl) (fun _ _ _ h => h) (.inl ⟨by rfl, by intro w hS; go_simp⟩) hH ?_
          (try dsimp only [Act.put]); (try simp only [List.getElem_toArray, List.getElem_cons_zero, List.getElem_cons_succ, Act.put, List.setIfInBounds_toArray, List.set_cons_zero, List.set_cons_succ])
          refine wpAnyH_take (i := 16) (v := .int .i64 f) rfl (by kernel_rfl) (by kernel_rfl) (by kernel_rfl) (fun _ _ _ h => h) (.inl ⟨by rfl, by intro w hS; have c1 : w.cell? ⟨z, 1, none⟩ = some (.int .i64 f) := (cell_of_block hS.1).trans rfl; clear hS; go_simp⟩) hH ?_
          (try dsimp only [Act.put]); (try simp only [List.getElem_toArray, List.getElem_cons_zero, List.getElem_cons_succ, Act.put, List.setIfInBounds_toArray, List.set_cons_zero, List.set_cons_succ])
          refine wpAnyH_take (i := 18) (v := rmV c0 c1 n) rfl (by kernel_rfl) (by kernel_rfl) (by kernel_rfl) (fun _ _ _ h => h) (yields_rowg rfl 29 _ rfl q rfl 29 _ (0, 0) _ (fun w hS => hS.2) Try.underlying29 rfl (by kernel_rfl)) hH ?_
          (try dsimp only [Act.put]); (try simp only [List.getElem_toArray, List.getElem_cons_zero, List.getElem_cons_succ, Act.put, List.setIfInBounds_toArray, List.set_cons_zero, List.set_cons_succ])
          refine wpAnyH_take (i := 19) (v := .pointer (some ⟨z, 1, none⟩)) rfl (by kernel_rfl) (by kernel_rfl) (by kernel_rfl) (fun _ _ _ h => h) (.inl ⟨by rfl, by intro w hS; go_simp⟩) hH ?_
          (try dsimp only [Act.put]); (try simp only [List.getElem_toArray, List.getElem_cons_zero, List.getElem_cons_succ, Act.put, List.setIfInBounds_toArray, List.set_cons_zero, List.set_cons_succ])
          refine wpAnyH_take (i := 20) (v := .int .i64 f) rfl (by kernel_rfl) (by kernel_rfl) (by kernel_rfl) (fun _ _ _ h => h) (.inl ⟨by rfl, by intro w hS; have c1 : w.cell? ⟨z, 1, none⟩ = some (.int .i64 f) := (cell_of_block hS.1).trans rfl; clear hS; go_simp⟩) hH ?_
          (try dsimp only [Act.put]); (try simp only [List.getElem_toArray, List.getElem_cons_zero, List.getElem_cons_succ, Act.put, List.setIfInBounds_toArray, List.set_cons_zero, List.set_cons_succ])
          refine wpAnyH_ready (rs := [17]) (by kernel_rfl) (by simp) ?_
          refine AllReadyH.cons rfl (fun K hK => ?_) AllReadyH.nil
          rw [if_pos (by rfl)]
          go_simp
          refine (H3.out _ A6'.out).mono ?_
          rintro e w7 ⟨rfl, A7⟩
          have A7' : Hid (MSp w w7 p b0 b1 c0 c1 q n z kd f mk K0 K1 K0 K1) := A7
          have qs7 := A7.rows
          clear A7
          refine hK.out _ _ qs7 (fun hH => ?_)
          clear qs7
          clear hK K
          (try dsimp only [Act.put]); (try simp only [List.getElem_toArray, List.getElem_cons_zero, List.getElem_cons_succ, Act.put, List.setIfInBounds_toArray, List.set_cons_zero, List.set_cons_succ])
          refine wpAnyH_ready (rs := [21]) (by kernel_rfl) (by simp) ?_
          refine AllReadyH.cons rfl (fun K hK => ?_) AllReadyH.nil
          rw [if_pos (by rfl)]
          go_simp
          refine (H4.out _ A7'.out).mono ?_
          rintro e w8 ⟨rfl, A8⟩
          have A8' : Hid (MSp w w8 p b0 b1 c0 c1 q n z kd f mk K0 K1 K0 K1) := A8
          have qs8 := A8.rows
          clear A8
          refine hK.out _ _ qs8 (fun hH => ?_)
          clear qs8
          clear hK K
          (try dsimp only [Act.put]); (try simp only [List.getElem_toArray, List.getElem_cons_zero, List.getElem_cons_succ, Act.put, List.setIfInBounds_toArray, List.set_cons_zero, List.set_cons_succ])
          refine wpAnyH_take (i := 22) (v := .bool false) rfl (by kernel_rfl) (by kernel_rfl) (by kernel_rfl) (fun _ _ _ h => h) (.inl ⟨by rfl, by intro w hS; go_simp⟩) hH ?_
          (try dsimp only [Act.put]); (try simp only [List.getElem_toArray, List.getElem_cons_zero, List.getElem_cons_succ, Act.put, List.setIfInBounds_toArray, List.set_cons_zero, List.set_cons_succ])
          refine wpAnyH_take (i := 23) (v := rmV c0 c1 n) rfl (by kernel_rfl) (by kernel_rfl) (by kernel_rfl) (fun _ _ _ h => h) (yields_rowg rfl 29 _ rfl q rfl 29 _ (0, 0) _ (fun w hS => hS.2) Try.underlying29 rfl (by kernel_rfl)) hH ?_
          (try dsimp only [Act.put]); (try simp only [List.getElem_toArray, List.getElem_cons_zero, List.getElem_cons_succ, Act.put, List.setIfInBounds_toArray, List.set_cons_zero, List.set_cons_succ])
          refine wpAnyH_take (i := 24) (v := .pointer (some ⟨z, 1, none⟩)) rfl (by kernel_rfl) (by kernel_rfl) (by kernel_rfl) (fun _ _ _ h => h) (.inl ⟨by rfl, by intro w hS; go_simp⟩) hH ?_
          (try dsimp only [Act.put]); (try simp only [List.getElem_toArray, List.getElem_cons_zero, List.getElem_cons_succ, Act.put, List.setIfInBounds_toArray, List.set_cons_zero, List.set_cons_succ])
          refine wpAnyH_take (i := 25) (v := .int .i64 f) rfl (by kernel_rfl) (by kernel_rfl) (by kernel_rfl) (fun _ _ _ h => h) (.inl ⟨by rfl, by intro w hS; have c1 : w.cell? ⟨z, 1, none⟩ = some (.int .i64 f) := (cell_of_block hS.1).trans rfl; clear hS; go_simp⟩) hH ?_
          (try dsimp only [Act.put]); (try simp only [List.getElem_toArray, List.getElem_cons_zero, List.getElem_cons_succ, Act.put, List.setIfInBounds_toArray, List.set_cons_zero, List.set_cons_succ])
          refine wpAnyH_ready (rs := [26]) (by kernel_rfl) (by simp) ?_
          refine AllReadyH.cons rfl (fun K hK => ?_) AllReadyH.nil
          rw [if_pos (by rfl)]
          go_simp
          refine (H5.out _ A8'.out).mono ?_
          rintro e w9 ⟨rfl, A9⟩
          have A9' : Hid (MSp w w9 p b0 b1 c0 c1 q n z kd f mk K0 K1 K0 K1) := A9
          have qs9 := A9.rows
          clear A9
          refine hK.out _ _ qs9 (fun hH => ?_)
          clear qs9
          clear hK K
          (try dsimp only [Act.put]); (try simp only [List.getElem_toArray, List.getElem_cons_zero, List.getElem_cons_succ, Act.put, List.setIfInBounds_toArray, List.set_cons_zero, List.set_cons_succ])
          refine wpAnyH_take (i := 27) (v := .bool y1) rfl (by kernel_rfl) (by kernel_rfl) (by kernel_rfl) (fun _ _ _ h => h) (.inl ⟨by rfl, by intro w hS; go_simp⟩) hH ?_
          (try dsimp only [Act.put]); (try simp only [List.getElem_toArray, List.getElem_cons_zero, List.getElem_cons_succ, Act.put, List.setIfInBounds_toArray, List.set_cons_zero, List.set_cons_succ])
          refine wpAnyH_take (i := 28) (v := .bool false) rfl (by kernel_rfl) (by kernel_rfl) (by kernel_rfl) (fun _ _ _ h => h) (.inl ⟨by rfl, by intro w hS; go_simp⟩) hH ?_
          (try dsimp only [Act.put]); (try simp only [List.getElem_toArray, List.getElem_cons_zero, List.getElem_cons_succ, Act.put, List.setIfInBounds_toArray, List.set_cons_zero, List.set_cons_succ])
          refine wpAnyH_take (i := 29) (v := .bool false) rfl (by kernel_rfl) (by kernel_rfl) (by kernel_rfl) (fun _ _ _ h => h) (.inl ⟨by rfl, by intro w hS; go_simp⟩) hH ?_
          (try dsimp only [Act.put]); (try simp only [List.getElem_toArray, List.getElem_cons_zero, List.getElem_cons_succ, Act.put, List.setIfInBounds_toArray, List.set_cons_zero, List.set_cons_succ])
          refine wpAnyH_done (by kernel_rfl) ?_ _
          go_wp2_with fail
          go_roundw
          case rel => exact ⟨k + 1, by omega, by omega, by go_num, K0, K1, A9'.out.mid⟩
          case measure => simp [intOf]; omega
        · simp only [Bool.true_or] at H3
          go_wp2_with fail
          refine wp_region_held_drew (S := fun w' => w'.heap[z]? = some (.cells #[.int .i64 kd, .int .i64 f, .int .i64 mk] 32 (0, 0)) ∧ w'.heap[q]? = some (.cells #[.slice (some ⟨c0, 0, none⟩) n n, .slice (some ⟨c1, 0, none⟩) n n] 29 (0, 0))) (by kernel_rfl) (A4'.out.rows) (fun hH => ?_)
          refine wpAnyH_take (i := 0) (v := .pointer (some ⟨p, 0, none⟩)) rfl (by kernel_rfl) (by kernel_rfl) (by kernel_rfl) (fun _ _ _ h => h) (.inl ⟨by rfl, by intro w hS; go_simp⟩) hH ?_
          (try dsimp only [Act.put]); (try simp only [List.getElem_toArray, List.getElem_cons_zero, List.getElem_cons_succ, Act.put, List.setIfInBounds_toArray, List.set_cons_zero, List.set_cons_succ])
          refine wpAnyH_take (i := 1) (v := .pointer (some ⟨z, 1, none⟩)) rfl (by kernel_rfl) (by kernel_rfl) (by kernel_rfl) (fun _ _ _ h => h) (.inl ⟨by rfl, by intro w hS; go_simp⟩) hH ?_
          (try dsimp only [Act.put]); (try simp only [List.getElem_toArray, List.getElem_cons_zero, List.getElem_cons_succ, Act.put, List.setIfInBounds_toArray, List.set_cons_zero, List.set_cons_succ])
          refine wpAnyH_take (i := 2) (v := .int .i64 f) rfl (by kernel_rfl) (by kernel_rfl) (by kernel_rfl) (fun _ _ _ h => h) (.inl ⟨by rfl, by intro w hS; have c1 : w.cell? ⟨z, 1, none⟩ = some (.int .i64 f) := (cell_of_block hS.1).trans rfl; clear hS; go_simp⟩) hH ?_
          (try dsimp only [Act.put]); (try simp only [List.getElem_toArray, List.getElem_cons_zero, List.getElem_cons_succ, Act.put, List.setIfInBounds_toArray, List.set_cons_zero, List.set_cons_succ])
          refine wpAnyH_take (i := 3) (v := .pointer (some ⟨z, 2, none⟩)) rfl (by kernel_rfl) (by kernel_rfl) (by kernel_rfl) (fun _ _ _ h => h) (.inl ⟨by rfl, by intro w hS; go_simp⟩) hH ?_
          (try dsimp only [Act.put]); (try simp only [List.getElem_toArray, List.getElem_cons_zero, List.getElem_cons_succ, Act.put, List.setIfInBounds_toArray, List.set_cons_zero, List.set_cons_succ])
          refine wpAnyH_take (i := 4) (v := .int .i64 mk) rfl (by kernel_rfl) (by kernel_rfl) (by kernel_rfl) (fun _ _ _ h => h) (.inl ⟨by rfl, by intro w hS; have c1 : w.cell? ⟨z, 2, none⟩ = some (.int .i64 mk) := (cell_of_block hS.1).trans rfl; clear hS; go_simp⟩) hH ?_
          (try dsimp only [Act.put]); (try simp only [List.getElem_toArray, List.getElem_cons_zero, List.getElem_cons_succ, Act.put, List.setIfInBounds_toArray, List.set_cons_zero, List.set_cons_succ])
          refine wpAnyH_take (i := 6) (v := rmV c0 c1 n) rfl (by kernel_rfl) (by kernel_rfl) (by kernel_rfl) (fun _ _ _ h => h) (yields_rowg rfl 29 _ rfl q rfl 29 _ (0, 0) _ (fun w hS => hS.2) Try.underlying29 rfl (by kernel_rfl)) hH ?_
          (try dsimp only [Act.put]); (try simp only [List.getElem_toArray, List.getElem_cons_zero, List.getElem_cons_succ, Act.put, List.setIfInBounds_toArray, List.set_cons_zero, List.set_cons_succ])
          refine wpAnyH_take (i := 7) (v := .pointer (some ⟨z, 1, none⟩)) rfl (by kernel_rfl) (by kernel_rfl) (by kernel_rfl) (fun _ _ _ h => h) (.inl ⟨by rfl, by intro w hS; go_simp⟩) hH ?_
          (try dsimp only [Act.put]); (try simp only [List.getElem_toArray, List.getElem_cons_zero, List.getElem_cons_succ, Act.put, List.setIfInBounds_toArray, List.set_cons_zero, List.set_cons_succ])
          refine wpAnyH_take (i := 8) (v := .int .i64 f) rfl (by kernel_rfl) (by kernel_rfl) (by kernel_rfl) (fun _ _ _ h => h) (.inl ⟨by rfl, by intro w hS; have c1 : w.cell? ⟨z, 1, none⟩ = some (.int .i64 f) := (cell_of_block hS.1).trans rfl; clear hS; go_simp⟩) hH ?_
          (try dsimp only [Act.put]); (try simp only [List.getElem_toArray, List.getElem_cons_zero, List.getElem_cons_succ, Act.put, List.setIfInBounds_toArray, List.set_cons_zero, List.set_cons_succ])
          refine wpAnyH_take (i := 9) (v := .pointer (some ⟨z, 2, none⟩)) rfl (by kernel_rfl) (by kernel_rfl) (by kernel_rfl) (fun _ _ _ h => h) (.inl ⟨by rfl, by intro w hS; go_simp⟩) hH ?_
          (try dsimp only [Act.put]); (try simp only [List.getElem_toArray, List.getElem_cons_zero, List.getElem_cons_succ, Act.put, List.setIfInBounds_toArray, List.set_cons_zero, List.set_cons_succ])
          refine wpAnyH_take (i := 10) (v := .int .i64 mk) rfl (by kernel_rfl) (by kernel_rfl) (by kernel_rfl) (fun _ _ _ h => h) (.inl ⟨by rfl, by intro w hS; have c1 : w.cell? ⟨z, 2, none⟩ = some (.int .i64 mk) := (cell_of_block hS.1).trans rfl; clear hS; go_simp⟩) hH ?_
          (try dsimp only [Act.put]); (try simp only [List.getElem_toArray, List.getElem_cons_zero, List.getElem_cons_succ, Act.put, List.setIfInBounds_toArray, List.set_cons_zero, List.set_cons_succ])
          refine wpAnyH_ready (rs := [5]) (by kernel_rfl) (by simp) ?_
          refine AllReadyH.cons rfl (fun K hK => ?_) AllReadyH.nil
          rw [if_pos (by rfl)]
          go_simp
          refine (H1.out _ (A4'.out.kp (Kep.refl _).drew)).mono ?_
          rintro e w5 ⟨rfl, A5⟩
          have A5' : Hid (MSp w w5 p b0 b1 c0 c1 q n z kd f mk K0 K1 K0 K1) := A5
          have qs5 := A5.rows
          clear A5
          refine hK.out _ _ qs5 (fun hH => ?_)
          clear qs5
          clear hK K
          (try dsimp only [Act.put]); (try simp only [List.getElem_toArray, List.getElem_cons_zero, List.getElem_cons_succ, Act.put, List.setIfInBounds_toArray, List.set_cons_zero, List.set_cons_succ])
          refine wpAnyH_ready (rs := [11]) (by kernel_rfl) (by simp) ?_
          refine AllReadyH.cons rfl (fun K hK => ?_) AllReadyH.nil
          rw [if_pos (by rfl)]
          go_simp
          refine (H2.out _ A5'.out).mono ?_
          rintro e w6 ⟨rfl, A6⟩
          have A6' : Hid (MSp w w6 p b0 b1 c0 c1 q n z kd f mk K0 K1 K0 K1) := A6
          have qs6 := A6.rows
          clear A6
          refine hK.out _ _ qs6 (fun hH => ?_)
          clear qs6
          clear hK K
          (try dsimp only [Act.put]); (try simp only [List.getElem_toArray, List.getElem_cons_zero, List.getElem_cons_succ, Act.put, List.setIfInBounds_toArray, List.set_cons_zero, List.set_cons_succ])
          refine wpAnyH_take (i := 12) (v := .bool false) rfl (by kernel_rfl) (by kernel_rfl) (by kernel_rfl) (fun _ _ _ h => h) (.inl ⟨by rfl, by intro w hS; go_simp⟩) hH ?_
          (try dsimp only [Act.put]); (try simp only [List.getElem_toArray, List.getElem_cons_zero, List.getElem_cons_succ, Act.put, List.setIfInBounds_toArray, List.set_cons_zero, List.set_cons_succ])
          refine wpAnyH_take (i := 13) (v := .bool false) rfl (by kernel_rfl) (by kernel_rfl) (by kernel_rfl) (fun _ _ _ h => h) (.inl ⟨by rfl, by intro w hS; go_simp⟩) hH ?_
          (try dsimp only [Act.put]); (try simp only [List.getElem_toArray, List.getElem_cons_zero, List.getElem_cons_succ, Act.put, List.setIfInBounds_toArray, List.set_cons_zero, List.set_cons_succ])
          refine wpAnyH_take (i := 14) (v := .pointer (some ⟨p, 0, none⟩)) rfl (by kernel_rfl) (by kernel_rfl) (by kernel_rfl) (fun _ _ _ h => h) (.inl ⟨by rfl, by intro w hS; go_simp⟩) hH ?_
          (try dsimp only [Act.put]); (try simp only [List.getElem_toArray, List.getElem_cons_zero, List.getElem_cons_succ, Act.put, List.setIfInBounds_toArray, List.set_cons_zero, List.set_cons_succ])
          refine wpAnyH_take (i := 15) (v := .pointer (some ⟨z, 1, none⟩)) rfl (by kernel_rfl) (by kernel_rfl) (by kernel_rfl) (fun _ _ _ h => h) (.inl ⟨by rfl, by intro w hS; go_simp⟩) hH ?_
          (try dsimp only [Act.put]); (try simp only [List.getElem_toArray, List.getElem_cons_zero, List.getElem_cons_succ, Act.put, List.setIfInBounds_toArray, List.set_cons_zero, List.set_cons_succ])
          refine wpAnyH_take (i := 16) (v := .int .i64 f) rfl (by kernel_rfl) (by kernel_rfl) (by kernel_rfl) (fun _ _ _ h => h) (.inl ⟨by rfl, by intro w hS; have c1 : w.cell? ⟨z, 1, none⟩ = some (.int .i64 f) := (cell_of_block hS.1).trans rfl; clear hS; go_simp⟩) hH ?_
          (try dsimp only [Act.put]); (try simp only [List.getElem_toArray, List.getElem_cons_zero, List.getElem_cons_succ, Act.put, List.setIfInBounds_toArray, List.set_cons_zero, List.set_cons_succ])
          refine wpAnyH_take (i := 18) (v := rmV c0 c1 n) rfl (by kernel_rfl) (by kernel_rfl) (by kernel_rfl) (fun _ _ _ h => h) (yields_rowg rfl 29 _ rfl q rfl 29 _ (0, 0) _ (fun w hS => hS.2) Try.underlying29 rfl (by kernel_rfl)) hH ?_
          (try dsimp only [Act.put]); (try simp only [List.getElem_toArray, List.getElem_cons_zero, List.getElem_cons_succ, Act.put, List.setIfInBounds_toArray, List.set_cons_zero, List.set_cons_succ])
          refine wpAnyH_take (i := 19) (v := .pointer (some ⟨z, 1, none⟩)) rfl (by kernel_rfl) (by kernel_rfl) (by kernel_rfl) (fun _ _ _ h => h) (.inl ⟨by rfl, by intro w hS; go_simp⟩) hH ?_
          (try dsimp only [Act.put]); (try simp only [List.getElem_toArray, List.getElem_cons_zero, List.getElem_cons_succ, Act.put, List.setIfInBounds_toArray, List.set_cons_zero, List.set_cons_succ])
          refine wpAnyH_take (i := 20) (v := .int .i64 f) rfl (by kernel_rfl) (by kernel_rfl) (by kernel_rfl) (fun _ _ _ h => h) (.inl ⟨by rfl, by intro w hS; have c1 : w.cell? ⟨z, 1, none⟩ = some (.int .i64 f) := (cell_of_block hS.1).trans rfl; clear hS; go_simp⟩) hH ?_
          (try dsimp only [Act.put]); (try simp only [List.getElem_toArray, List.getElem_cons_zero, List.getElem_cons_succ, Act.put, List.setIfInBounds_toArray, List.set_cons_zero, List.set_cons_succ])
          refine wpAnyH_ready (rs := [17]) (by kernel_rfl) (by simp) ?_
          refine AllReadyH.cons rfl (fun K hK => ?_) AllReadyH.nil
          rw [if_pos (by rfl)]
          go_simp
          refine (H3.out _ A6'.out).mono ?_
          rintro e w7 ⟨rfl, A7⟩
          have A7' : Hid (MSp w w7 p b0 b1 c0 c1 q n z kd f mk K0 K1 K0 K1) := A7
          have qs7 := A7.rows
          clear A7
          refine hK.out _ _ qs7 (fun hH => ?_)
          clear qs7
          clear hK K
          (try dsimp only [Act.put]); (try simp only [List.getElem_toArray, List.getElem_cons_zero, List.getElem_cons_succ, Act.put, List.setIfInBounds_toArray, List.set_cons_zero, List.set_cons_succ])
          refine wpAnyH_ready (rs := [21]) (by kernel_rfl) (by simp) ?_
          refine AllReadyH.cons rfl (fun K hK => ?_) AllReadyH.nil
          rw [if_pos (by rfl)]
          go_simp
          refine (H4.out _ A7'.out).mono ?_
          rintro e w8 ⟨rfl, A8⟩
          have A8' : Hid (MSp w w8 p b0 b1 c0 c1 q n z kd f mk K0 K1 K0 K1) := A8
          have qs8 := A8.rows
          clear A8
          refine hK.out _ _ qs8 (fun hH => ?_)
          clear qs8
          clear hK K
          (try dsimp only [Act.put]); (try simp only [List.getElem_toArray, List.getElem_cons_zero, List.getElem_cons_succ, Act.put, List.setIfInBounds_toArray, List.set_cons_zero, List.set_cons_succ])
          refine wpAnyH_take (i := 22) (v := .bool true) rfl (by kernel_rfl) (by kernel_rfl) (by kernel_rfl) (fun _ _ _ h => h) (.inl ⟨by rfl, by intro w hS; go_simp⟩) hH ?_
          (try dsimp only [Act.put]); (try simp only [List.getElem_toArray, List.getElem_cons_zero, List.getElem_cons_succ, Act.put, List.setIfInBounds_toArray, List.set_cons_zero, List.set_cons_succ])
          refine wpAnyH_take (i := 23) (v := undef) rfl (by kernel_rfl) (by kernel_rfl) (by kernel_rfl) (fun _ _ _ h => h) (.inr ⟨by rfl, rfl⟩) hH ?_
          (try dsimp only [Act.put]); (try simp only [List.getElem_toArray, List.getElem_cons_zero, List.getElem_cons_succ, Act.put, List.setIfInBounds_toArray, List.set_cons_zero, List.set_cons_succ])
          refine wpAnyH_take (i := 24) (v := undef) rfl (by kernel_rfl) (by kernel_rfl) (by kernel_rfl) (fun _ _ _ h => h) (.inr ⟨by rfl, rfl⟩) hH ?_
          (try dsimp only [Act.put]); (try simp only [List.getElem_toArray, List.getElem_cons_zero, List.getElem_cons_succ, Act.put, List.setIfInBounds_toArray, List.set_cons_zero, List.set_cons_succ])
          refine wpAnyH_take (i := 25) (v := undef) rfl (by kernel_rfl) (by kernel_rfl) (by kernel_rfl) (fun _ _ _ h => h) (.inr ⟨by rfl, rfl⟩) hH ?_
          (try dsimp only [Act.put]); (try simp only [List.getElem_toArray, List.getElem_cons_zero, List.getElem_cons_succ, Act.put, List.setIfInBounds_toArray, List.set_cons_zero, List.set_cons_succ])
          refine wpAnyH_take (i := 26) (v := undef) rfl (by kernel_rfl) (by kernel_rfl) (by kernel_rfl) (fun _ _ _ h => h) (.inr ⟨by rfl, rfl⟩) hH ?_
          (try dsimp only [Act.put]); (try simp only [List.getElem_toArray, List.getElem_cons_zero, List.getElem_cons_succ, Act.put, List.setIfInBounds_toArray, List.set_cons_zero, List.set_cons_succ])
          refine wpAnyH_take (i := 27) (v := .bool true) rfl (by kernel_rfl) (by kernel_rfl) (by kernel_rfl) (fun _ _ _ h => h) (.inl ⟨by rfl, by intro w hS; go_simp⟩) hH ?_
          (try dsimp only [Act.put]); (try simp only [List.getElem_toArray, List.getElem_cons_zero, List.getElem_cons_succ, Act.put, List.setIfInBounds_toArray, List.set_cons_zero, List.set_cons_succ])
          refine wpAnyH_take (i := 28) (v := .bool false) rfl (by kernel_rfl) (by kernel_rfl) (by kernel_rfl) (fun _ _ _ h => h) (.inl ⟨by rfl, by intro w hS; go_simp⟩) hH ?_
          (try dsimp only [Act.put]); (try simp only [List.getElem_toArray, List.getElem_cons_zero, List.getElem_cons_succ, Act.put, List.setIfInBounds_toArray, List.set_cons_zero, List.set_cons_succ])
          refine wpAnyH_take (i := 29) (v := .bool false) rfl (by kernel_rfl) (by kernel_rfl) (by kernel_rfl) (fun _ _ _ h => h) (.inl ⟨by rfl, by intro w hS; go_simp⟩) hH ?_
          (try dsimp only [Act.put]); (try simp only [List.getElem_toArray, List.getElem_cons_zero, List.getElem_cons_succ, Act.put, List.setIfInBounds_toArray, List.set_cons_zero, List.set_cons_succ])
          refine wpAnyH_done (by kernel_rfl) ?_ _
          go_wp2_with fail
          go_roundw
          case rel => exact ⟨k + 1, by omega, by omega, by go_num, K0, K1, A8'.out.mid⟩
          case measure => simp [intOf]; omega
    · have q0 := A.out.cells
      have l0 := A.out.ref.le
      have HL1 : Hid (∀ W, MMid w W p b0 b1 c0 c1 q n L0 L1 L0 L1 → Calls Try.prog 17 #[.pointer (some ⟨p, 0, none⟩), .int .i64 1] W fun e w' => ∃ (x : Option Addr) (cap : Nat), e = .returned (.slice x (frs L0 L0.length).length cap) ∧ LI w' x (frs L0 L0.length) ∧ Kep W w') := fun W h => h.list 1
      have HL2 : Hid (∀ W, MMid w W p b0 b1 c0 c1 q n L0 L1 L0 L1 → Calls Try.prog 17 #[.pointer (some ⟨p, 0, none⟩), .int .i64 2] W fun e w' => ∃ (x : Option Addr) (cap : Nat), e = .returned (.slice x (frs L1 L1.length).length cap) ∧ LI w' x (frs L1 L1.length) ∧ Kep W w') := fun W h => h.list 2
      have HR1 : Hid (∀ W, MMid w W p b0 b1 c0 c1 q n L0 L1 L0 L1 → Calls Try.prog 18 #[rmV c0 c1 n, .int .i64 1] W fun e w' => ∃ (x : Option Addr) (cap : Nat), e = .returned (.slice x (frs L0 L0.length).length cap) ∧ LI w' x (frs L0 L0.length) ∧ Kep W w') := fun W h => h.rlist 1
      have HR2 : Hid (∀ W, MMid w W p b0 b1 c0 c1 q n L0 L1 L0 L1 → Calls Try.prog 18 #[rmV c0 c1 n, .int .i64 2] W fun e w' => ∃ (x : Option Addr) (cap : Nat), e = .returned (.slice x (frs L1 L1.length).length cap) ∧ LI w' x (frs L1 L1.length) ∧ Kep W w') := fun W h => h.rlist 2
      have HL0 : Hid (∀ W, MMid w W p b0 b1 c0 c1 q n L0 L1 L0 L1 → Calls Try.prog 17 #[.pointer (some ⟨p, 0, none⟩), .int .i64 0] W fun e w' => ∃ (x : Option Addr) (cap : Nat), e = .returned (.slice x ([] : List Int).length cap) ∧ LI w' x ([] : List Int) ∧ Kep W w') := fun W h => h.list 0
      have HL3 : Hid (∀ W, MMid w W p b0 b1 c0 c1 q n L0 L1 L0 L1 → Calls Try.prog 17 #[.pointer (some ⟨p, 0, none⟩), .int .i64 3] W fun e w' => ∃ (x : Option Addr) (cap : Nat), e = .returned (.slice x ([] : List Int).length cap) ∧ LI w' x ([] : List Int) ∧ Kep W w') := fun W h => h.list 3
      have HS : Hid (∀ (W : World) (x y : Option Addr) (c d : Nat) (l : List Int), (l.length : Int) ≤ 512 → LI W x l → LI W y l → Calls Try.prog 16 #[.slice x l.length c, .slice y l.length d] W fun e w' => e = .returned (.bool true) ∧ Kep W w') := fun W x y c d l hl hx hy => same15_yes x y l.length c d hl l rfl W hx hy
      have hb1 : Hid (((frs L0 L0.length).length : Int) ≤ 512) := by have := frs_len L0 L0.length; rw [Hid]; omega
      have hb2 : Hid (((frs L1 L1.length).length : Int) ≤ 512) := by have := frs_len L1 L1.length; rw [Hid]; omega
      generalize frs L0 L0.length = l1 at *
      generalize frs L1 L1.length = l2 at *
      clear KW l0
      rcases (by omega : ¬ (k : Int) < len1 ∨ ((k : Int) < len1 ∧ ¬ (k : Int) < 100)) with hq | ⟨hq, hq'⟩
      all_goals
        clear hend
        go_wp2_with fail
        refine wp_region_held_drew (S := fun w' => w'.heap[q]? = some (.cells #[.slice (some ⟨c0, 0, none⟩) n n, .slice (some ⟨c1, 0, none⟩) n n] 29 (0, 0))) (by kernel_rfl) (A.out.box) (fun hH => ?_)
        refine wpAnyH_take (i := 0) (v := .pointer (some ⟨p, 0, none⟩)) rfl (by kernel_rfl) (by kernel_rfl) (by kernel_rfl) (fun _ _ _ h => h) (.inl ⟨by rfl, by intro w hS; go_simp⟩) hH ?_
        (try dsimp only [Act.put]); (try simp only [List.getElem_toArray, List.getElem_cons_zero, List.getElem_cons_succ, Act.put, List.setIfInBounds_toArray, List.set_cons_zero, List.set_cons_succ])
        refine wpAnyH_take (i := 2) (v := rmV c0 c1 n) rfl (by kernel_rfl) (by kernel_rfl) (by kernel_rfl) (fun _ _ _ h => h) (yields_rowg rfl 29 _ rfl q rfl 29 _ (0, 0) _ (fun w hS => hS) Try.underlying29 rfl (by kernel_rfl)) hH ?_
        (try dsimp only [Act.put]); (try simp only [List.getElem_toArray, List.getElem_cons_zero, List.getElem_cons_succ, Act.put, List.setIfInBounds_toArray, List.set_cons_zero, List.set_cons_succ])
        refine wpAnyH_ready (rs := [1]) (by kernel_rfl) (by simp) ?_
        refine AllReadyH.cons rfl (fun K hK => ?_) AllReadyH.nil
        rw [if_pos (by rfl)]
        go_simp
        refine (HL1.out _ (A.out.kp (Kep.refl _).drew)).mono ?_
        rintro e w21 ⟨x21, c21, rfl, l21, k21⟩
        have A21 : Hid (MMid w w21 p b0 b1 c0 c1 q n L0 L1 L0 L1) := (A.out.kp (Kep.refl _).drew).kp k21
        have X21 : Hid (LI w21 x21 l1) := l21
        refine hK.out _ _ A21.out.box (fun hH => ?_)
        clear l21 k21
        clear hK K
        (try dsimp only [Act.put]); (try simp only [List.getElem_toArray, List.getElem_cons_zero, List.getElem_cons_succ, Act.put, List.setIfInBounds_toArray, List.set_cons_zero, List.set_cons_succ])
        refine wpAnyH_ready (rs := [3]) (by kernel_rfl) (by simp) ?_
        refine AllReadyH.cons rfl (fun K hK => ?_) AllReadyH.nil
        rw [if_pos (by rfl)]
        go_simp
        refine (HR1.out _ A21.out).mono ?_
        rintro e w22 ⟨x22, c22, rfl, l22, k22⟩
        have A22 : Hid (MMid w w22 p b0 b1 c0 c1 q n L0 L1 L0 L1) := A21.out.kp k22
        have X22 : Hid (LI w22 x22 l1) := l22
        have Y21 := hidd (X21.out.kep k22)
        refine hK.out _ _ A22.out.box (fun hH => ?_)
        clear l22 k22
        clear hK K
        (try dsimp only [Act.put]); (try simp only [List.getElem_toArray, List.getElem_cons_zero, List.getElem_cons_succ, Act.put, List.setIfInBounds_toArray, List.set_cons_zero, List.set_cons_succ])
        refine wpAnyH_ready (rs := [4]) (by kernel_rfl) (by simp) ?_
        refine AllReadyH.cons rfl (fun K hK => ?_) AllReadyH.nil
        rw [if_pos (by rfl)]
        go_simp
        refine (HS.out _ x21 x22 c21 c22 l1 hb1.out Y21.out X22.out).mono ?_
        rintro e w23 ⟨rfl, k23⟩
        have A23 : Hid (MMid w w23 p b0 b1 c0 c1 q n L0 L1 L0 L1) := A22.out.kp k23
        refine hK.out _ _ A23.out.box (fun hH => ?_)
        clear k23
        clear hK K
        (try dsimp only [Act.put]); (try simp only [List.getElem_toArray, List.getElem_cons_zero, List.getElem_cons_succ, Act.put, List.setIfInBounds_toArray, List.set_cons_zero, List.set_cons_succ])
        refine wpAnyH_take (i := 5) (v := .bool true) rfl (by kernel_rfl) (by kernel_rfl) (by kernel_rfl) (fun _ _ _ h => h) (.inl ⟨by rfl, by intro w hS; go_simp⟩) hH ?_
        (try dsimp only [Act.put]); (try simp only [List.getElem_toArray, List.getElem_cons_zero, List.getElem_cons_succ, Act.put, List.setIfInBounds_toArray, List.set_cons_zero, List.set_cons_succ])
        refine wpAnyH_take (i := 6) (v := .pointer (some ⟨p, 0, none⟩)) rfl (by kernel_rfl) (by kernel_rfl) (by kernel_rfl) (fun _ _ _ h => h) (.inl ⟨by rfl, by intro w hS; go_simp⟩) hH ?_
        (try dsimp only [Act.put]); (try simp only [List.getElem_toArray, List.getElem_cons_zero, List.getElem_cons_succ, Act.put, List.setIfInBounds_toArray, List.set_cons_zero, List.set_cons_succ])
        refine wpAnyH_take (i := 8) (v := rmV c0 c1 n) rfl (by kernel_rfl) (by kernel_rfl) (by kernel_rfl) (fun _ _ _ h => h) (yields_rowg rfl 29 _ rfl q rfl 29 _ (0, 0) _ (fun w hS => hS) Try.underlying29 rfl (by kernel_rfl)) hH ?_
        (try dsimp only [Act.put]); (try simp only [List.getElem_toArray, List.getElem_cons_zero, List.getElem_cons_succ, Act.put, List.setIfInBounds_toArray, List.set_cons_zero, List.set_cons_succ])
        refine wpAnyH_ready (rs := [7]) (by kernel_rfl) (by simp) ?_
        refine AllReadyH.cons rfl (fun K hK => ?_) AllReadyH.nil
        rw [if_pos (by rfl)]
        go_simp
        refine (HL2.out _ A23.out).mono ?_
        rintro e w24 ⟨x24, c24, rfl, l24, k24⟩
        have A24 : Hid (MMid w w24 p b0 b1 c0 c1 q n L0 L1 L0 L1) := A23.out.kp k24
        have X24 : Hid (LI w24 x24 l2) := l24
        refine hK.out _ _ A24.out.box (fun hH => ?_)
        clear l24 k24
        clear hK K
        (try dsimp only [Act.put]); (try simp only [List.getElem_toArray, List.getElem_cons_zero, List.getElem_cons_succ, Act.put, List.setIfInBounds_toArray, List.set_cons_zero, List.set_cons_succ])
        refine wpAnyH_ready (rs := [9]) (by kernel_rfl) (by simp) ?_
        refine AllReadyH.cons rfl (fun K hK => ?_) AllReadyH.nil
        rw [if_pos (by rfl)]
        go_simp
        refine (HR2.out _ A24.out).mono ?_
        rintro e w25 ⟨x25, c25, rfl, l25, k25⟩
        have A25 : Hid (MMid w w25 p b0 b1 c0 c1 q n L0 L1 L0 L1) := A24.out.kp k25
        have X25 : Hid (LI w25 x25 l2) := l25
        have Y24 := hidd (X24.out.kep k25)
        refine hK.out _ _ A25.out.box (fun hH => ?_)
        clear l25 k25
        clear hK K
        (try dsimp only [Act.put]); (try simp only [List.getElem_toArray, List.getElem_cons_zero, List.getElem_cons_succ, Act.put, List.setIfInBounds_toArray, List.set_cons_zero, List.set_cons_succ])
        refine wpAnyH_ready (rs := [10]) (by kernel_rfl) (by simp) ?_
        refine AllReadyH.cons rfl (fun K hK => ?_) AllReadyH.nil
        rw [if_pos (by rfl)]
        go_simp
        refine (HS.out _ x24 x25 c24 c25 l2 hb2.out Y24.out X25.out).mono ?_
        rintro e w26 ⟨rfl, k26⟩
        have A26 : Hid (MMid w w26 p b0 b1 c0 c1 q n L0 L1 L0 L1) := A25.out.kp k26
        refine hK.out _ _ A26.out.box (fun hH => ?_)
        clear k26
        clear hK K
        (try dsimp only [Act.put]); (try simp only [List.getElem_toArray, List.getElem_cons_zero, List.getElem_cons_succ, Act.put, List.setIfInBounds_toArray, List.set_cons_zero, List.set_cons_succ])
        refine wpAnyH_take (i := 11) (v := .bool true) rfl (by kernel_rfl) (by kernel_rfl) (by kernel_rfl) (fun _ _ _ h => h) (.inl ⟨by rfl, by intro w hS; go_simp⟩) hH ?_
        (try dsimp only [Act.put]); (try simp only [List.getElem_toArray, List.getElem_cons_zero, List.getElem_cons_succ, Act.put, List.setIfInBounds_toArray, List.set_cons_zero, List.set_cons_succ])
        refine wpAnyH_take (i := 12) (v := .bool true) rfl (by kernel_rfl) (by kernel_rfl) (by kernel_rfl) (fun _ _ _ h => h) (.inl ⟨by rfl, by intro w hS; go_simp⟩) hH ?_
        (try dsimp only [Act.put]); (try simp only [List.getElem_toArray, List.getElem_cons_zero, List.getElem_cons_succ, Act.put, List.setIfInBounds_toArray, List.set_cons_zero, List.set_cons_succ])
        refine wpAnyH_take (i := 13) (v := .pointer (some ⟨p, 0, none⟩)) rfl (by kernel_rfl) (by kernel_rfl) (by kernel_rfl) (fun _ _ _ h => h) (.inl ⟨by rfl, by intro w hS; go_simp⟩) hH ?_
        (try dsimp only [Act.put]); (try simp only [List.getElem_toArray, List.getElem_cons_zero, List.getElem_cons_succ, Act.put, List.setIfInBounds_toArray, List.set_cons_zero, List.set_cons_succ])
        refine wpAnyH_ready (rs := [14]) (by kernel_rfl) (by simp) ?_
        refine AllReadyH.cons rfl (fun K hK => ?_) AllReadyH.nil
        rw [if_pos (by rfl)]
        go_simp
        refine (HL0.out _ A26.out).mono ?_
        rintro e w27 ⟨x27, c27, rfl, l27, k27⟩
        have A27 : Hid (MMid w w27 p b0 b1 c0 c1 q n L0 L1 L0 L1) := A26.out.kp k27
        have X27 : Hid (LI w27 x27 ([] : List Int)) := l27
        refine hK.out _ _ A27.out.box (fun hH => ?_)
        clear l27 k27
        clear hK K
        (try dsimp only [Act.put]); (try simp only [List.getElem_toArray, List.getElem_cons_zero, List.getElem_cons_succ, Act.put, List.setIfInBounds_toArray, List.set_cons_zero, List.set_cons_succ])
        refine wpAnyH_take (i := 15) (v := .int .i64 0) rfl (by kernel_rfl) (by kernel_rfl) (by kernel_rfl) (fun _ _ _ h => h) (.inl ⟨by rfl, by intro w hS; go_simp⟩) hH ?_
        (try dsimp only [Act.put]); (try simp only [List.getElem_toArray, List.getElem_cons_zero, List.getElem_cons_succ, Act.put, List.setIfInBounds_toArray, List.set_cons_zero, List.set_cons_succ])
        refine wpAnyH_take (i := 16) (v := .bool true) rfl (by kernel_rfl) (by kernel_rfl) (by kernel_rfl) (fun _ _ _ h => h) (.inl ⟨by rfl, by intro w hS; go_simp⟩) hH ?_
        (try dsimp only [Act.put]); (try simp only [List.getElem_toArray, List.getElem_cons_zero, List.getElem_cons_succ, Act.put, List.setIfInBounds_toArray, List.set_cons_zero, List.set_cons_succ])
        refine wpAnyH_take (i := 17) (v := .bool true) rfl (by kernel_rfl) (by kernel_rfl) (by kernel_rfl) (fun _ _ _ h => h) (.inl ⟨by rfl, by intro w hS; go_simp⟩) hH ?_
        (try dsimp only [Act.put]); (try simp only [List.getElem_toArray, List.getElem_cons_zero, List.getElem_cons_succ, Act.put, List.setIfInBounds_toArray, List.set_cons_zero, List.set_cons_succ])
        refine wpAnyH_take (i := 18) (v := .bool true) rfl (by kernel_rfl) (by kernel_rfl) (by kernel_rfl) (fun _ _ _ h => h) (.inl ⟨by rfl, by intro w hS; go_simp⟩) hH ?_
        (try dsimp only [Act.put]); (try simp only [List.getElem_toArray, List.getElem_cons_zero, List.getElem_cons_succ, Act.put, List.setIfInBounds_toArray, List.set_cons_zero, List.set_cons_succ])
        refine wpAnyH_take (i := 19) (v := .pointer (some ⟨p, 0, none⟩)) rfl (by kernel_rfl) (by kernel_rfl) (by kernel_rfl) (fun _ _ _ h => h) (.inl ⟨by rfl, by intro w hS; go_simp⟩) hH ?_
        (try dsimp only [Act.put]); (try simp only [List.getElem_toArray, List.getElem_cons_zero, List.getElem_cons_succ, Act.put, List.setIfInBounds_toArray, List.set_cons_zero, List.set_cons_succ])
        refine wpAnyH_ready (rs := [20]) (by kernel_rfl) (by simp) ?_
        refine AllReadyH.cons rfl (fun K hK => ?_) AllReadyH.nil
        rw [if_pos (by rfl)]
        go_simp
        refine (HL3.out _ A27.out).mono ?_
        rintro e w28 ⟨x28, c28, rfl, l28, k28⟩
        have A28 : Hid (MMid w w28 p b0 b1 c0 c1 q n L0 L1 L0 L1) := A27.out.kp k28
        have X28 : Hid (LI w28 x28 ([] : List Int)) := l28
        refine hK.out _ _ A28.out.box (fun hH => ?_)
        clear l28 k28
        clear hK K
        (try dsimp only [Act.put]); (try simp only [List.getElem_toArray, List.getElem_cons_zero, List.getElem_cons_succ, Act.put, List.setIfInBounds_toArray, List.set_cons_zero, List.set_cons_succ])
        refine wpAnyH_take (i := 21) (v := .int .i64 0) rfl (by kernel_rfl) (by kernel_rfl) (by kernel_rfl) (fun _ _ _ h => h) (.inl ⟨by rfl, by intro w hS; go_simp⟩) hH ?_
        (try dsimp only [Act.put]); (try simp only [List.getElem_toArray, List.getElem_cons_zero, List.getElem_cons_succ, Act.put, List.setIfInBounds_toArray, List.set_cons_zero, List.set_cons_succ])
        refine wpAnyH_take (i := 22) (v := .bool true) rfl (by kernel_rfl) (by kernel_rfl) (by kernel_rfl) (fun _ _ _ h => h) (.inl ⟨by rfl, by intro w hS; go_simp⟩) hH ?_
        (try dsimp only [Act.put]); (try simp only [List.getElem_toArray, List.getElem_cons_zero, List.getElem_cons_succ, Act.put, List.setIfInBounds_toArray, List.set_cons_zero, List.set_cons_succ])
        refine wpAnyH_take (i := 23) (v := .bool true) rfl (by kernel_rfl) (by kernel_rfl) (by kernel_rfl) (fun _ _ _ h => h) (.inl ⟨by rfl, by intro w hS; go_simp⟩) hH ?_
        (try dsimp only [Act.put]); (try simp only [List.getElem_toArray, List.getElem_cons_zero, List.getElem_cons_succ, Act.put, List.setIfInBounds_toArray, List.set_cons_zero, List.set_cons_succ])
        refine wpAnyH_take (i := 24) (v := .bool true) rfl (by kernel_rfl) (by kernel_rfl) (by kernel_rfl) (fun _ _ _ h => h) (.inl ⟨by rfl, by intro w hS; go_simp⟩) hH ?_
        (try dsimp only [Act.put]); (try simp only [List.getElem_toArray, List.getElem_cons_zero, List.getElem_cons_succ, Act.put, List.setIfInBounds_toArray, List.set_cons_zero, List.set_cons_succ])
        refine wpAnyH_ready (rs := [25]) (by kernel_rfl) (by simp) ?_
        refine AllReadyH.cons rfl (fun K hK => ?_) AllReadyH.nil
        rw [if_pos (by rfl)]
        go_simp
        refine (HW.out _).mono ?_
        rintro e w29 ⟨rfl, k29⟩
        have A29 : Hid (MMid w w29 p b0 b1 c0 c1 q n L0 L1 L0 L1) := A28.out.kp k29
        refine hK.out _ _ A29.out.box (fun hH => ?_)
        clear k29
        clear hK K
        (try dsimp only [Act.put]); (try simp only [List.getElem_toArray, List.getElem_cons_zero, List.getElem_cons_succ, Act.put, List.setIfInBounds_toArray, List.set_cons_zero, List.set_cons_succ])
        refine wpAnyH_take (i := 26) (v := .bool true) rfl (by kernel_rfl) (by kernel_rfl) (by kernel_rfl) (fun _ _ _ h => h) (.inl ⟨by rfl, by intro w hS; go_simp⟩) hH ?_
        (try dsimp only [Act.put]); (try simp only [List.getElem_toArray, List.getElem_cons_zero, List.getElem_cons_succ, Act.put, List.setIfInBounds_toArray, List.set_cons_zero, List.set_cons_succ])
        refine wpAnyH_take (i := 27) (v := .bool true) rfl (by kernel_rfl) (by kernel_rfl) (by kernel_rfl) (fun _ _ _ h => h) (.inl ⟨by rfl, by intro w hS; go_simp⟩) hH ?_
        (try dsimp only [Act.put]); (try simp only [List.getElem_toArray, List.getElem_cons_zero, List.getElem_cons_succ, Act.put, List.setIfInBounds_toArray, List.set_cons_zero, List.set_cons_succ])
        refine wpAnyH_done (by kernel_rfl) ?_ _
        go_wp2_with fail
        go_ret
        exact ⟨rfl, A29.out.kep⟩

set_option maxRecDepth 100000 in
theorem lifted (os : Os) (started : os.Started) (H : Type) (enc : TypeId × Value → H) :
    ReturnsInHanded {} Try.checked os 3 .any (Rows.marksPlaySpec.pre6 enc Try.prog Try.f3 Rows.marksPlayRow.domain false) (Rows.marksPlaySpec.post enc Try.prog Try.f3 false true false false) := by
  refine returnsInHanded_of_change (C := Try.checked) own started (by kernel_rfl) Try.func3
    (ChangeSpec.witness6 (enc := enc) (C := Try.checked) false ⟨#[], #[.int .u8 0, .slice none 0 0], []⟩ 8 (by kernel_rfl) (by kernel_rfl) (by kernel_rfl) (by kernel_rfl)) ?_
  intro W base args ds gs before hval0 hW hcnd _
  have hval : ∀ (j : Nat) t v, Try.f3.params[j]? = some t → args[j]? = some v → Value.okWide Try.prog W .any base t v := hval0
  have hW' := hW
  obtain ⟨p, q, hA0, hV, rfl, hfz, hnd⟩ := hW
  have hA : DataW.TrodAll enc Try.prog W 0 (fun _ => true) true Try.f3.params.toList args.toList ds p := hA0
  rw [Try.params3] at hA hval
  obtain ⟨v0, vs0, d0, ds0, p0, q0, hargs, rfl, rfl, h0, r0⟩ := trodAll_cons hA
  obtain ⟨v1, vs1, d1, ds1, p1, q1, rfl, rfl, rfl, h1, r1⟩ := trodAll_cons r0
  obtain ⟨rfl, rfl, rfl⟩ := trodAll_nil r1
  obtain rfl : args = #[v0, v1] := by cases args; simp_all
  obtain ⟨rfl, rfl⟩ := trodVars_none hV
  have k0 := h0
  have lt0 : ∀ x ∈ p0, x.block < W.heap.size := by obtain ⟨m, hm⟩ := k0; exact DataW.trod_lt m _ _ _ hm
  obtain ⟨a0, rfl, rfl, rfl, w0⟩ := open_int Try.underlying5 (hval 0 5 v0 rfl rfl) h0
  have k1 := h1
  have lt1 : ∀ x ∈ p1, x.block < W.heap.size := by obtain ⟨m, hm⟩ := k1; exact DataW.trod_lt m _ _ _ hm
  obtain ⟨x1, len1, cap1, rfl⟩ := okWide_slice Try.underlying22 (hval 1 22 v1 rfl rfl)
  obtain ⟨z1, w1⟩ : ∃ zs, MstRow W x1 len1 cap1 zs := by
    obtain ⟨fuel, hf⟩ := h1
    exact msts_of hf
  clear hA0 hval0
  refine (walk a0 w0 x1 len1 cap1 z1 W w1).mono fun e W' ⟨he, bel0⟩ => ?_
  have bel : Below W.heap.size W W' := bel0
  subst he
  exact ⟨_, rfl, _, _, _, [], _, [], hW', trodAll_mk1 (shut_bool Try.underlying4 _), (trodAll_cons_mk (Below.trod laidOut (by kernel_rfl) (of_decide_eq_true (by kernel_rfl)) k0 bel lt0) (trodAll_cons_mk (Below.trod laidOut (by kernel_rfl) (of_decide_eq_true (by kernel_rfl)) k1 bel lt1) trodAll_mk0)), rfl, bel.frame _, fun h => by cases h⟩

theorem over : Rows.marksPlayRow.holds Try.pinned (OpenSpec.ofChange Rows.marksPlaySpec) :=
  OpenClaim.holds_of_wide 3 Try.f3 rfl rfl rfl rfl rfl rfl rfl ⟨rfl, rfl, rfl, rfl, rfl⟩ rfl rfl rfl rfl rfl (by kernel_rfl) Try.func3 (by kernel_rfl)
    (of_decide_eq_true (by kernel_rfl)) (by unfold Func.isWrapper; first | (rw [if_pos (by decide +kernel)]; kernel_rfl) | (rw [if_neg (by decide +kernel)]; exact ⟨rfl, rfl⟩))
    (fun os started H enc _ => lifted os started H enc)
end Go.Proofs.Ytncfkbnjiacblaa.marksPlay
namespace Go.Proofs.Ytncfkbnjiacblaa

theorem marksPlay_holds : Rows.MarksPlaySaid := marksPlay.over
#print axioms marksPlay_holds
end Go.Proofs.Ytncfkbnjiacblaa
