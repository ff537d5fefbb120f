/- For every first frame, number and row of steps, the law PoolPlays returns true: whatever is taken, given and reset, a pool answers and counts as the document says. -/
import Derived.Test.YtjigjhmimocahaaRows
import Derived.Test.YtjigjhmimocahaaPlplay
import Derived.Test.YtjigjhmimocahaaPlopen
import Derived.WalkKit
import Derived.ProofKit
import Derived.OpenShut
import Derived.ShutString
import Derived.ChangeOld
import Derived.Below
import Derived.Lib.SmallJoins
namespace Go.Proofs.Ytjigjhmimocahaa.poolPlays
open Go.ChangeShapes Go.WideShapes Go.ChangeAt Go.RowKit
set_option linter.unusedVariables false
set_option linter.unusedSimpArgs false

theorem own : ownKnob Try.prog.godebug = none := by kernel_rfl
theorem laidOut : laidOutB Try.prog = true := by kernel_rfl

set_option maxHeartbeats 8000000 in
set_option maxRecDepth 100000 in
theorem walk (a0 : Int) (w0 : (Lit.int .u8 a0).wf = true) (a1 : Int) (w1 : (Lit.int .u8 a1).wf = true) (x2 : Option Addr) (len2 cap2 : Nat) (z2 : List Pst) (w : World) (w2 : PstRow w x2 len2 cap2 z2) :
    Calls Try.prog 3 #[.int .u8 a0, .int .u8 a1, .slice x2 len2 cap2] w fun e w' => e = .returned (.bool true) ∧ Kep w w' := by
  have b0 : 0 ≤ a0 ∧ a0 < 256 := by simp [Lit.wf, IntKind.min, IntKind.max, IntKind.signed, IntKind.bits] at w0; omega
  have b1 : 0 ≤ a1 ∧ a1 < 256 := by simp [Lit.wf, IntKind.min, IntKind.max, IntKind.signed, IntKind.bits] at w1; omega
  have hI : Hid (PstRow w x2 len2 cap2 z2) := w2
  have hlen := w2.max
  have HW : Hid (∀ w, Calls Try.prog 16 #[] w fun e w' => e = .returned (.bool true) ∧ Kep w w') := works14_any
  clear w0 w1 w2
  obtain ⟨n, hn20, hnm⟩ : ∃ n : Nat, (n : Int) < 20 ∧ a1.tmod 20 = n := ⟨(a1 % 20).toNat, by omega, by rw [Int.tmod_eq_emod_of_nonneg b1.1]; omega⟩
  have HN : Hid (Calls Try.prog 7 #[.int .i64 a0, .int .i64 n] w fun e w' => e = .returned (.tuple #[.pointer (some ⟨w.heap.size + 1, 0, none⟩), .int .i64 0]) ∧ Kep w w' ∧ PoolAt w' (w.heap.size + 1) w.heap.size a0 (List.replicate n false) 0 0) := pnew_any w a0 n b0.1 (by omega)
  have mb := make_bools n (by omega)
  have hbb : Hid (bools (List.replicate n false) = bools (List.replicate n false)) := rfl
  generalize hX : bools (List.replicate n false) = X at mb
  have hX' : Hid (bools (List.replicate n false) = X) := hX
  clear hX hbb
  go_enter Try.func3, Try.ntmps3
  go_wp2_with fail
  refine HN.out.mono ?_
  rintro e w1 ⟨rfl, K1, P1⟩
  have M1 : Hid (PMid w ((w1.alloc (.cells X.toArray 4)).alloc (.cells #[.int .i64 a0, .slice (some ⟨w1.heap.size, 0, none⟩) n n] 30)) (w.heap.size + 1) w.heap.size (w1.heap.size + 1) w1.heap.size a0 (List.replicate n false) (List.replicate n false) 0 0) := by
    have hs := K1.size
    have k : Kep w1 ((w1.alloc (.cells X.toArray 4)).alloc (.cells #[.int .i64 a0, .slice (some ⟨w1.heap.size, 0, none⟩) n n] 30)) := ((Kep.refl _).alloc _).alloc _
    refine ⟨P1.kep k, ⟨?_, ?_, by simp; omega, by omega⟩, kep_trans K1 k, by omega⟩
    · rw [List.length_replicate]; exact hat _ _ _ (by simp)
    · rw [hX'.out]; exact (hsk _ _ _ (by simp)).trans (hat _ _ _ rfl)
  have N1 : Hid ((List.replicate n false).length = n) := by simp [Hid]
  clear HN K1 P1
  go_wp2_with fail
  generalize hW1 : (w1.alloc _).alloc _ = W1
  rw [hW1] at M1
  generalize w1.heap.size = R1 at M1
  generalize w.heap.size + 1 = p at M1
  generalize w.heap.size = M at M1
  generalize R1 + 1 = q at M1
  clear hW1
  go_loopw [11, 12, 13] (fun gv mv i wr => ∃ (k : Nat) (g m : Int), (k : Int) ≤ len2 ∧ (k : Int) ≤ 150 ∧ i = .int .i64 k ∧ gv = .int .i64 g ∧ mv = .int .i64 m ∧ 0 ≤ g ∧ g ≤ k ∧ 0 ≤ m ∧ m ≤ k ∧ Hid (∃ L R, PMid w wr p M q R a0 L L g m ∧ L.length = n)) (fun _ _ i _ => 200 - (intOf i).toNat)
  case atStart => exact ⟨0, 0, 0, by omega, by omega, rfl, rfl, rfl, by omega, by omega, by omega, by omega, _, R1, M1.out, N1.out⟩
  case round =>
    obtain ⟨k, g, m, hk1, hk2, rfl, rfl, rfl, g0, g1, m0, m1, hP⟩ := hrel
    obtain ⟨L, R, A0, hn0⟩ := hP.out
    have A : Hid (PMid w wr p M q R a0 L L g m) := A0
    have hn : Hid (L.length = n) := hn0
    have KW : Kep w wr := A0.kep
    clear hP A0 hn0 M1 N1
    by_cases hend : (k : Int) < len2 ∧ (k : Int) < 150
    · obtain ⟨hl, h150⟩ := hend
      obtain ⟨b, off, ⟨kd, j⟩, hok, hx, hcap0, lb, q0, q1⟩ := hI.out.at (k := k) (by omega)
      subst hx
      have hcap : (len2 : Int) ≤ cap2 := by omega
      simp only at q0 q1
      have hj : Hid (I6 j) := hok.2
      have d0 := (KW.cell lb).trans q0
      have d1 := (KW.cell lb).trans q1
      replace d1 : wr.cell? ⟨b, off + k * 2 + 1, none⟩ = some (.int .i64 j) := d1
      clear q0 q1 KW hcap0 hok
      by_cases e0 : kd = 0
      · subst e0
        have hlb : Hid (b < w.heap.size) := lb
        have HT : Hid (Calls Try.prog 8 #[.pointer (some ⟨p, 0, none⟩)] wr fun e w' => e = .returned (leastR a0 L) ∧ (if leastL L < L.length then PMid w w' p M q R a0 (takeL L) L (g + 1) m else PMid w w' p M q R a0 L L g (m + 1))) := A.out.take (by omega) (by omega)
        by_cases hl : leastL L < L.length
        · simp only [if_pos hl, leastR_yes rfl hl] at HT
          have HR : Hid (∀ w6, PMid w w6 p M q R a0 (takeL L) L (g + 1) m → Calls Try.prog 9 #[.pointer (some ⟨q, 0, none⟩)] w6 fun e w' => e = .returned (.tuple #[.int .i64 (a0 + (leastL L : Nat)), .bool true]) ∧ PMid w w' p M q R a0 (takeL L) (takeL L) (g + 1) m) := fun w6 h => by
            have := h.rtake
            rwa [leastR_yes rfl hl] at this
          have n5 : Hid ((takeL L).length = n) := by rw [Hid, takeL, List.length_set]; exact hn.out
          generalize takeL L = L5 at HT HR n5
          generalize (leastL L : Nat) = t at HT HR
          clear hl A hn
          go_wp2_with fail
          refine HT.out.mono ?_
          rintro e w3 ⟨rfl, A3⟩
          have HR3 := HR.out w3 A3
          have HR' : Hid (Calls Try.prog 9 #[.pointer (some ⟨q, 0, none⟩)] w3 fun e w' => e = .returned (.tuple #[.int .i64 (a0 + (t : Nat)), .bool true]) ∧ PMid w w' p M q R a0 L5 L5 (g + 1) m) := HR3
          clear HT HR HR3 A3
          go_wp2_with fail
          refine HR'.out.mono ?_
          rintro e w5 ⟨rfl, A4⟩
          have A5 : Hid (PMid w w5 p M q R a0 L5 L5 (g + 1) m) := A4
          clear HR' A4
          have HL : Hid (Calls Try.prog 13 #[.pointer (some ⟨p, 0, none⟩)] w5 fun e w' => e = .returned (.int .i64 ((L5).length - nTrue (L5))) ∧ PMid w w' p M q R a0 (L5) (L5) (g + 1) m) := A5.out.left
          have HRf : Hid (∀ w6, PMid w w6 p M q R a0 (L5) (L5) (g + 1) m → Calls Try.prog 14 #[.pointer (some ⟨q, 0, none⟩)] w6 fun e w' => e = .returned (.int .i64 ((L5).length - nTrue (L5))) ∧ PMid w w' p M q R a0 (L5) (L5) (g + 1) m) := fun w6 h => h.rleft
          clear A5
          generalize (((L5).length : Int) - nTrue (L5)) = le at HL HRf
          go_wp2_with fail
          refine HL.out.mono ?_
          rintro e w6 ⟨rfl, M6⟩
          have HR6 := HRf.out w6 M6
          have HR6' : Hid (Calls Try.prog 14 #[.pointer (some ⟨q, 0, none⟩)] w6 fun e w' => e = .returned (.int .i64 le) ∧ PMid w w' p M q R a0 (L5) (L5) (g + 1) m) := HR6
          clear HL HRf M6 HR6
          go_wp2_with fail
          refine HR6'.out.mono ?_
          rintro e w7 ⟨rfl, M7⟩
          have M7' : Hid (PMid w w7 p M q R a0 (L5) (L5) (g + 1) m) := M7
          clear HR6' M7
          go_wp2_with fail
          go_roundw
          case rel => exact ⟨k + 1, (g + 1), m, by omega, by omega, rfl, by go_num, by go_num, by omega, by omega, by omega, by omega, L5, R, M7'.out, n5.out⟩
          case measure => simp [intOf]; omega
        · have hl2 : leastL L = L.length := Nat.le_antisymm (leastL_le L) (Nat.le_of_not_lt hl)
          simp only [if_neg hl, leastR_no hl2] at HT
          have HR : Hid (∀ w6, PMid w w6 p M q R a0 L L g (m + 1) → Calls Try.prog 9 #[.pointer (some ⟨q, 0, none⟩)] w6 fun e w' => e = .returned (.tuple #[.int .i64 0, .bool false]) ∧ PMid w w' p M q R a0 L L g (m + 1)) := fun w6 h => by
            have := h.rtake
            rwa [leastR_no hl2, takeL_no hl2] at this
          have n5 : Hid (L.length = n) := hn
          clear hl hl2 A hn
          go_wp2_with fail
          refine HT.out.mono ?_
          rintro e w3 ⟨rfl, A3⟩
          have HR3 := HR.out w3 A3
          have HR' : Hid (Calls Try.prog 9 #[.pointer (some ⟨q, 0, none⟩)] w3 fun e w' => e = .returned (.tuple #[.int .i64 0, .bool false]) ∧ PMid w w' p M q R a0 L L g (m + 1)) := HR3
          clear HT HR HR3 A3
          go_wp2_with fail
          refine HR'.out.mono ?_
          rintro e w5 ⟨rfl, A4⟩
          have A5 : Hid (PMid w w5 p M q R a0 L L g (m + 1)) := A4
          clear HR' A4
          have HL : Hid (Calls Try.prog 13 #[.pointer (some ⟨p, 0, none⟩)] w5 fun e w' => e = .returned (.int .i64 ((L).length - nTrue (L))) ∧ PMid w w' p M q R a0 (L) (L) g (m + 1)) := A5.out.left
          have HRf : Hid (∀ w6, PMid w w6 p M q R a0 (L) (L) g (m + 1) → Calls Try.prog 14 #[.pointer (some ⟨q, 0, none⟩)] w6 fun e w' => e = .returned (.int .i64 ((L).length - nTrue (L))) ∧ PMid w w' p M q R a0 (L) (L) g (m + 1)) := fun w6 h => h.rleft
          clear A5
          generalize (((L).length : Int) - nTrue (L)) = le at HL HRf
          go_wp2_with fail
          refine HL.out.mono ?_
          rintro e w6 ⟨rfl, M6⟩
          have HR6 := HRf.out w6 M6
          have HR6' : Hid (Calls Try.prog 14 #[.pointer (some ⟨q, 0, none⟩)] w6 fun e w' => e = .returned (.int .i64 le) ∧ PMid w w' p M q R a0 (L) (L) g (m + 1)) := HR6
          clear HL HRf M6 HR6
          go_wp2_with fail
          refine HR6'.out.mono ?_
          rintro e w7 ⟨rfl, M7⟩
          have M7' : Hid (PMid w w7 p M q R a0 (L) (L) g (m + 1)) := M7
          clear HR6' M7
          go_wp2_with fail
          go_roundw
          case rel => exact ⟨k + 1, g, (m + 1), by omega, by omega, rfl, by go_num, by go_num, by omega, by omega, by omega, by omega, L, R, M7'.out, n5.out⟩
          case measure => simp [intOf]; omega
      by_cases e1 : kd = 1
      · subst e1
        have hj := hj.out
        have q1 : Hid (w.cell? ⟨b, off + k * 2 + 1, none⟩ = some (.int .i64 j)) := (A.out.kep.cell lb).symm.trans d1
        have d1w := q1.out
        clear e0
        have HG : Hid (∀ w6, PMid w w6 p M q R a0 L L g m → Calls Try.prog 10 #[.pointer (some ⟨p, 0, none⟩), .int .i64 j] w6 fun e w' => e = .returned (.bool (lentF a0 L j)) ∧ PMid w w' p M q R a0 (giveL a0 L j) L g m) := fun w6 h => h.give j hj
        have HR : Hid (∀ w6, PMid w w6 p M q R a0 (giveL a0 L j) L g m → Calls Try.prog 11 #[.pointer (some ⟨q, 0, none⟩), .int .i64 j] w6 fun e w' => e = .returned (.bool (lentF a0 L j)) ∧ PMid w w' p M q R a0 (giveL a0 L j) (giveL a0 L j) g m) := fun w6 h => h.rgive j hj
        have n5 : Hid ((giveL a0 L j).length = n) := by rw [Hid, giveL_len]; exact hn.out
        generalize giveL a0 L j = L5 at HG HR n5
        generalize lentF a0 L j = lj at HG HR
        clear hn
        go_wp2_with fail
        go_region_held3 (fun w' => w'.cell? ⟨b, off + k * 2 + 1, none⟩ = some (.int .i64 j)) (first | assumption | (go_keep; done)) (first
          | (go_at_call 10; refine (HG.out _ (A.out.kp (Kep.refl _).drew)).mono ?_; rintro e wa ⟨rfl, A3⟩; have q1 := (A3.kep.cell lb).trans d1w; have A3' : Hid (PMid w wa p M q R a0 L5 L g m) := A3; clear A3)
          | (go_at_call 11; refine (HR.out _ A3'.out).mono ?_; rintro e w5 ⟨rfl, A4⟩; have q2 := (A4.kep.cell lb).trans d1w; have A5 : Hid (PMid w w5 p M q R a0 L5 L5 g m) := A4; clear A4))
        all_goals
          clear HG HR A A3' d1 d1w
          have HL : Hid (Calls Try.prog 13 #[.pointer (some ⟨p, 0, none⟩)] w5 fun e w' => e = .returned (.int .i64 ((L5).length - nTrue (L5))) ∧ PMid w w' p M q R a0 (L5) (L5) g m) := A5.out.left
          have HRf : Hid (∀ w6, PMid w w6 p M q R a0 (L5) (L5) g m → Calls Try.prog 14 #[.pointer (some ⟨q, 0, none⟩)] w6 fun e w' => e = .returned (.int .i64 ((L5).length - nTrue (L5))) ∧ PMid w w' p M q R a0 (L5) (L5) g m) := fun w6 h => h.rleft
          clear A5
          generalize (((L5).length : Int) - nTrue (L5)) = le at HL HRf
          go_wp2_with fail
          refine HL.out.mono ?_
          rintro e w6 ⟨rfl, M6⟩
          have HR6 := HRf.out w6 M6
          have HR6' : Hid (Calls Try.prog 14 #[.pointer (some ⟨q, 0, none⟩)] w6 fun e w' => e = .returned (.int .i64 le) ∧ PMid w w' p M q R a0 (L5) (L5) g m) := HR6
          clear HL HRf M6 HR6
          go_wp2_with fail
          refine HR6'.out.mono ?_
          rintro e w7 ⟨rfl, M7⟩
          have M7' : Hid (PMid w w7 p M q R a0 (L5) (L5) g m) := M7
          clear HR6' M7
          go_wp2_with fail
          go_roundw
          case rel => exact ⟨k + 1, g, m, by omega, by omega, rfl, by go_num, by go_num, by omega, by omega, by omega, by omega, L5, R, M7'.out, n5.out⟩
          case measure => simp [intOf]; omega
      by_cases e2 : kd = 2
      · subst e2
        clear e0 e1
        have n5 : Hid ((List.replicate n false).length = n) := by simp [Hid]
        have HG : Hid (Calls Try.prog 12 #[.pointer (some ⟨p, 0, none⟩)] wr fun e w' => e = .returned (.tuple #[]) ∧ PMid w w' p M q R a0 (List.replicate n false) L g m) := by
          have := A.out.reset
          rwa [hn.out] at this
        have HF : Hid (∀ w6, PMid w w6 p M q R a0 (List.replicate n false) L g m → PMid w ((w6.setCell ⟨q, 1, none⟩ (.slice (some ⟨w6.heap.size, 0, none⟩) n n)).alloc (.cells (bools (List.replicate n false)).toArray 4)) p M q w6.heap.size a0 (List.replicate n false) (List.replicate n false) g m) := fun w6 h => h.fresh hn.out
        have hq : Hid (∀ w6, PMid w w6 p M q R a0 (List.replicate n false) L g m → w6.cell? ⟨q, 1, none⟩ = some (.slice (some ⟨R, 0, none⟩) L.length L.length) ∧ w6.frozen? ⟨q, 1, none⟩ = false ∧ q < w6.heap.size) := fun w6 h => ⟨h.ref.c1, by simp [World.frozen?, h.ref.box], block_lt h.ref.box⟩
        rw [hX'.out] at HF
        generalize List.replicate n false = L5 at HG HF hq n5
        go_wp2_with fail
        refine HG.out.mono ?_
        rintro e w3 ⟨rfl, A3⟩
        have A4 : Hid (PMid w ((w3.setCell ⟨q, 1, none⟩ (.slice (some ⟨w3.heap.size, 0, none⟩) n n)).alloc (.cells X.toArray 4)) p M q w3.heap.size a0 L5 L5 g m) := HF.out w3 A3
        obtain ⟨q1, q2, q3⟩ := hq.out w3 A3
        generalize L.length = nl at q1
        clear HG HF hq A A3
        go_wp2_with fail
        generalize hW5 : (World.setCell _ _ _).alloc _ = w5
        rw [hW5] at A4
        have A5 : Hid (PMid w w5 p M q w3.heap.size a0 L5 L5 g m) := A4
        clear A4 hW5 q1 q2 q3 hn
        generalize w3.heap.size = R5 at A5
        have HL : Hid (Calls Try.prog 13 #[.pointer (some ⟨p, 0, none⟩)] w5 fun e w' => e = .returned (.int .i64 ((L5).length - nTrue (L5))) ∧ PMid w w' p M q R5 a0 (L5) (L5) g m) := A5.out.left
        have HRf : Hid (∀ w6, PMid w w6 p M q R5 a0 (L5) (L5) g m → Calls Try.prog 14 #[.pointer (some ⟨q, 0, none⟩)] w6 fun e w' => e = .returned (.int .i64 ((L5).length - nTrue (L5))) ∧ PMid w w' p M q R5 a0 (L5) (L5) g m) := fun w6 h => h.rleft
        clear A5
        generalize (((L5).length : Int) - nTrue (L5)) = le at HL HRf
        go_wp2_with fail
        refine HL.out.mono ?_
        rintro e w6 ⟨rfl, M6⟩
        have HR6 := HRf.out w6 M6
        have HR6' : Hid (Calls Try.prog 14 #[.pointer (some ⟨q, 0, none⟩)] w6 fun e w' => e = .returned (.int .i64 le) ∧ PMid w w' p M q R5 a0 (L5) (L5) g m) := HR6
        clear HL HRf M6 HR6
        go_wp2_with fail
        refine HR6'.out.mono ?_
        rintro e w7 ⟨rfl, M7⟩
        have M7' : Hid (PMid w w7 p M q R5 a0 (L5) (L5) g m) := M7
        clear HR6' M7
        go_wp2_with fail
        go_roundw
        case rel => exact ⟨k + 1, g, m, by omega, by omega, rfl, by go_num, by go_num, by omega, by omega, by omega, by omega, L5, R5, M7'.out, n5.out⟩
        case measure => simp [intOf]; omega
      · have t0 : (kd == 0) = false := by simpa using e0
        have t1 : (kd == 1) = false := by simpa using e1
        have t2 : (kd == 2) = false := by simpa using e2
        clear e0 e1 e2
        have n5 : Hid (L.length = n) := hn
        have A5 : Hid (PMid w wr p M q R a0 L L g m) := A
        generalize hw5 : wr = w5 at A5 d0 d1 A
        clear A hn
        have HL : Hid (Calls Try.prog 13 #[.pointer (some ⟨p, 0, none⟩)] w5 fun e w' => e = .returned (.int .i64 ((L).length - nTrue (L))) ∧ PMid w w' p M q R a0 (L) (L) g m) := A5.out.left
        have HRf : Hid (∀ w6, PMid w w6 p M q R a0 (L) (L) g m → Calls Try.prog 14 #[.pointer (some ⟨q, 0, none⟩)] w6 fun e w' => e = .returned (.int .i64 ((L).length - nTrue (L))) ∧ PMid w w' p M q R a0 (L) (L) g m) := fun w6 h => h.rleft
        clear A5
        generalize (((L).length : Int) - nTrue (L)) = le at HL HRf
        go_wp2_with fail
        refine HL.out.mono ?_
        rintro e w6 ⟨rfl, M6⟩
        have HR6 := HRf.out w6 M6
        have HR6' : Hid (Calls Try.prog 14 #[.pointer (some ⟨q, 0, none⟩)] w6 fun e w' => e = .returned (.int .i64 le) ∧ PMid w w' p M q R a0 (L) (L) g m) := HR6
        clear HL HRf M6 HR6
        go_wp2_with fail
        refine HR6'.out.mono ?_
        rintro e w7 ⟨rfl, M7⟩
        have M7' : Hid (PMid w w7 p M q R a0 (L) (L) g m) := M7
        clear HR6' M7
        go_wp2_with fail
        go_roundw
        case rel => exact ⟨k + 1, g, m, by omega, by omega, rfl, by go_num, by go_num, by omega, by omega, by omega, by omega, L, R, M7'.out, n5.out⟩
        case measure => simp [intOf]; omega
    · have HC : Hid (Calls Try.prog 15 #[.pointer (some ⟨p, 0, none⟩)] wr fun e w' => e = .returned (.tuple #[.int .i64 g, .int .i64 m]) ∧ PMid w w' p M q R a0 L L g m) := A.out.counts
      clear A KW
      rcases (by omega : ¬ (k : Int) < len2 ∨ ((k : Int) < len2 ∧ ¬ (k : Int) < 150)) with hq | ⟨hq, hq'⟩
      all_goals
        clear hend
        go_wp2_with fail
        refine HC.out.mono ?_
        rintro e w6 ⟨rfl, A6⟩
        have K6 : Hid (Kep w w6) := A6.kep
        clear HC A6
        go_wp2_with fail
        refine (HW.out _).mono ?_
        rintro e w7 ⟨rfl, K7⟩
        go_wp2_with fail
        go_ret
        exact ⟨rfl, kep_trans K6.out K7⟩

set_option maxRecDepth 100000 in
theorem lifted (os : Os) (started : os.Started) (H : Type) (enc : TypeId × Value → H) :
    ReturnsInHanded {} Try.checked os 3 .any (Rows.poolPlaysSpec.pre6 enc Try.prog Try.f3 Rows.poolPlaysRow.domain false) (Rows.poolPlaysSpec.post enc Try.prog Try.f3 false true false false) := by
  refine returnsInHanded_of_change (C := Try.checked) own started (by kernel_rfl) Try.func3
    (ChangeSpec.witness6 (enc := enc) (C := Try.checked) false ⟨#[], #[.int .u8 0, .int .u8 0, .slice none 0 0], []⟩ 8 (by kernel_rfl) (by kernel_rfl) (by kernel_rfl) (by kernel_rfl)) ?_
  intro W base args ds gs before hval0 hW hcnd _
  have hval : ∀ (j : Nat) t v, Try.f3.params[j]? = some t → args[j]? = some v → Value.okWide Try.prog W .any base t v := hval0
  have hW' := hW
  obtain ⟨p, q, hA0, hV, rfl, hfz, hnd⟩ := hW
  have hA : DataW.TrodAll enc Try.prog W 0 (fun _ => true) true Try.f3.params.toList args.toList ds p := hA0
  rw [Try.params3] at hA hval
  obtain ⟨v0, vs0, d0, ds0, p0, q0, hargs, rfl, rfl, h0, r0⟩ := trodAll_cons hA
  obtain ⟨v1, vs1, d1, ds1, p1, q1, rfl, rfl, rfl, h1, r1⟩ := trodAll_cons r0
  obtain ⟨v2, vs2, d2, ds2, p2, q2, rfl, rfl, rfl, h2, r2⟩ := trodAll_cons r1
  obtain ⟨rfl, rfl, rfl⟩ := trodAll_nil r2
  obtain rfl : args = #[v0, v1, v2] := by cases args; simp_all
  obtain ⟨rfl, rfl⟩ := trodVars_none hV
  have k0 := h0
  have lt0 : ∀ x ∈ p0, x.block < W.heap.size := by obtain ⟨m, hm⟩ := k0; exact DataW.trod_lt m _ _ _ hm
  obtain ⟨a0, rfl, rfl, rfl, w0⟩ := open_int Try.underlying5 (hval 0 5 v0 rfl rfl) h0
  have k1 := h1
  have lt1 : ∀ x ∈ p1, x.block < W.heap.size := by obtain ⟨m, hm⟩ := k1; exact DataW.trod_lt m _ _ _ hm
  obtain ⟨a1, rfl, rfl, rfl, w1⟩ := open_int Try.underlying5 (hval 1 5 v1 rfl rfl) h1
  have k2 := h2
  have lt2 : ∀ x ∈ p2, x.block < W.heap.size := by obtain ⟨m, hm⟩ := k2; exact DataW.trod_lt m _ _ _ hm
  obtain ⟨x2, len2, cap2, rfl⟩ := okWide_slice Try.underlying22 (hval 2 22 v2 rfl rfl)
  obtain ⟨z2, w2⟩ : ∃ zs, PstRow W x2 len2 cap2 zs := by
    obtain ⟨fuel, hf⟩ := h2
    exact psts_of hf
  clear hA0 hval0
  refine (walk a0 w0 a1 w1 x2 len2 cap2 z2 W w2).mono fun e W' ⟨he, bel0⟩ => ?_
  have bel : Below W.heap.size W W' := bel0
  subst he
  exact ⟨_, rfl, _, _, _, [], _, [], hW', trodAll_mk1 (shut_bool Try.underlying4 _), (trodAll_cons_mk (Below.trod laidOut (by kernel_rfl) (of_decide_eq_true (by kernel_rfl)) k0 bel lt0) (trodAll_cons_mk (Below.trod laidOut (by kernel_rfl) (of_decide_eq_true (by kernel_rfl)) k1 bel lt1) (trodAll_cons_mk (Below.trod laidOut (by kernel_rfl) (of_decide_eq_true (by kernel_rfl)) k2 bel lt2) trodAll_mk0))), rfl, bel.frame _, fun h => by cases h⟩

theorem over : Rows.poolPlaysRow.holds Try.pinned (OpenSpec.ofChange Rows.poolPlaysSpec) :=
  OpenClaim.holds_of_wide 3 Try.f3 rfl rfl rfl rfl rfl rfl rfl ⟨rfl, rfl, rfl, rfl, rfl⟩ rfl rfl rfl rfl rfl (by kernel_rfl) Try.func3 (by kernel_rfl)
    (of_decide_eq_true (by kernel_rfl)) (by unfold Func.isWrapper; first | (rw [if_pos (by decide +kernel)]; kernel_rfl) | (rw [if_neg (by decide +kernel)]; exact ⟨rfl, rfl⟩))
    (fun os started H enc _ => lifted os started H enc)
end Go.Proofs.Ytjigjhmimocahaa.poolPlays
namespace Go.Proofs.Ytjigjhmimocahaa

theorem poolPlays_holds : Rows.PoolPlaysSaid := poolPlays.over
#print axioms poolPlays_holds
end Go.Proofs.Ytjigjhmimocahaa
