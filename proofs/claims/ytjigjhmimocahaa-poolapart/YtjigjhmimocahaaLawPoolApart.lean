/- For every first frame, number and row of bytes, the law PoolApart returns true: no frame is lent twice at one time, and each is one of the pool's. -/
import Derived.Test.YtjigjhmimocahaaRows
import Derived.Test.YtjigjhmimocahaaPlapart
import Derived.WalkKit
import Derived.ProofKit
import Derived.OpenShut
import Derived.ShutString
import Derived.ChangeOld
import Derived.Below
import Derived.Lib.SmallJoins
namespace Go.Proofs.Ytjigjhmimocahaa.poolApart
open Go.ChangeShapes Go.WideShapes Go.ChangeAt Go.RowKit
set_option linter.unusedVariables false
set_option linter.unusedSimpArgs false

theorem own : ownKnob Try.prog.godebug = none := by kernel_rfl
theorem laidOut : laidOutB Try.prog = true := by kernel_rfl

set_option maxHeartbeats 8000000 in
set_option maxRecDepth 100000 in
theorem walk (a0 : Int) (w0 : (Lit.int .u8 a0).wf = true) (a1 : Int) (w1 : (Lit.int .u8 a1).wf = true) (x2 : Option Addr) (len2 cap2 : Nat) (z2 : List Int) (w : World) (w2 : IsRow .u8 w x2 len2 cap2 z2) :
    Calls Try.prog 5 #[.int .u8 a0, .int .u8 a1, .slice x2 len2 cap2] w fun e w' => e = .returned (.bool true) ∧ Kep w w' := by
  have b0 : 0 ≤ a0 ∧ a0 < 256 := by simp [Lit.wf, IntKind.min, IntKind.max, IntKind.signed, IntKind.bits] at w0; omega
  have b1 : 0 ≤ a1 ∧ a1 < 256 := by simp [Lit.wf, IntKind.min, IntKind.max, IntKind.signed, IntKind.bits] at w1; omega
  have hI : Hid (IsRow .u8 w x2 len2 cap2 z2) := w2
  have hlen := w2.max
  have HW : Hid (∀ w, Calls Try.prog 16 #[] w fun e w' => e = .returned (.bool true) ∧ Kep w w') := works14_any
  clear w0 w1 w2
  obtain ⟨n, rfl⟩ : ∃ n : Nat, a1 = n := ⟨a1.toNat, by omega⟩
  have HN : Hid (Calls Try.prog 7 #[.int .i64 a0, .int .i64 n] w fun e w' => e = .returned (.tuple #[.pointer (some ⟨w.heap.size + 1, 0, none⟩), .int .i64 0]) ∧ Kep w w' ∧ PoolAt w' (w.heap.size + 1) w.heap.size a0 (List.replicate n false) 0 0) := pnew_any w a0 n b0.1 (by omega)
  have mb : ∀ w, Sem.run Try.prog (Instr.makeSlice 28 (.int .i64 600) (.int .i64 600)) w = .ok (.slice (some ⟨w.heap.size, 0, none⟩) 600 600) (w.alloc (.cells (bools (List.replicate 600 false)).toArray 4)) := make_bools 600 (by omega)
  have hX' : Hid (bools (List.replicate 600 false) = bools (outL a0 (List.replicate n false))) := by rw [Hid, outL_none]
  generalize bools (List.replicate 600 false) = X at mb hX'
  go_enter Try.func5, Try.ntmps5
  go_wp2_with fail
  refine HN.out.mono ?_
  rintro e w1 ⟨rfl, K1, P1⟩
  have M1 : Hid (PAp w (w1.alloc (.cells X.toArray 4)) (w.heap.size + 1) w.heap.size w1.heap.size a0 (List.replicate n false) (List.replicate n false) 0 0) := by
    have hs := K1.size
    have k : Kep w1 (w1.alloc (.cells X.toArray 4)) := (Kep.refl _).alloc _
    refine ⟨P1.kep k, ?_, kep_trans K1 k, by omega⟩
    rw [hX'.out]; exact hat _ _ _ rfl
  have N1 : Hid ((List.replicate n false).length = n ∧ nTrue (List.replicate n false) = 0) := ⟨by simp, nTrue_none n⟩
  clear HN K1 P1 hX'
  go_wp2_with fail
  generalize hW1 : w1.alloc _ = W1
  rw [hW1] at M1
  generalize w1.heap.size = R at M1
  generalize w.heap.size + 1 = p at M1
  generalize w.heap.size = M at M1
  clear hW1 mb
  go_loopw [11, 12] (fun sv i wr => ∃ (k s : Nat) (g m : Int), (k : Int) ≤ 300 ∧ i = .int .i64 k ∧ sv = .int .i64 s ∧ (s : Int) ≤ n ∧ 0 ≤ g ∧ g ≤ k ∧ 0 ≤ m ∧ m ≤ k ∧ Hid (∃ L, PAp w wr p M R a0 L L g m ∧ L.length = n ∧ nTrue L = s)) (fun _ i _ => 300 - (intOf i).toNat)
  case atStart => exact ⟨0, 0, 0, 0, by omega, rfl, rfl, by omega, by omega, by omega, by omega, by omega, _, M1.out, N1.out⟩
  case round =>
    obtain ⟨k, s, g, m, hk1, rfl, rfl, hs, g0, g1, m0, m1, hP⟩ := hrel
    obtain ⟨L, A0, hn0, hs0⟩ := hP.out
    have A : Hid (PAp w wr p M R a0 L L g m) := A0
    have hn : Hid (L.length = n) := hn0
    have hsL : Hid (nTrue L = s) := hs0
    have KW : Kep w wr := A0.kep
    clear hP A0 hn0 hs0 M1 N1
    by_cases hend : (k : Int) < 300
    · by_cases hback : ∃ (b off : Nat) (z : Int), x2 = some ⟨b, off, none⟩ ∧ (k : Int) < len2 ∧ (len2 : Int) ≤ cap2 ∧ b < w.heap.size ∧ w.cell? ⟨b, off + k, none⟩ = some (.int .u8 z) ∧ 0 ≤ z ∧ z < 256 ∧ z % 3 = 0
      · obtain ⟨b, off, z, rfl, hl, hcap, lb, q0, z0, z1, hz⟩ := hback
        have d0 := (KW.cell lb).trans q0
        have hz' : z.tmod 3 = 0 := by rw [Int.tmod_eq_emod_of_nonneg z0]; exact hz
        obtain ⟨j, hj⟩ : ∃ j : Nat, a0 + z = j := ⟨(a0 + z).toNat, by omega⟩
        have hj6 : (j : Int) < 600 := by omega
        have HG : Hid (∀ w6, PAp w w6 p M R a0 L L g m → Calls Try.prog 10 #[.pointer (some ⟨p, 0, none⟩), .int .i64 j] w6 fun e w' => e = .returned (.bool (lentF a0 L j)) ∧ PAp w w' p M R a0 (giveL a0 L j) L g m) := fun w6 h => h.give j (by unfold I6; omega)
        have HS : Hid (∀ w6, PAp w w6 p M R a0 (giveL a0 L j) L g m → PAp w (w6.setCell ⟨R, j, none⟩ (.bool false)) p M R a0 (giveL a0 L j) (giveL a0 L j) g m) := fun w6 h => h.set j false (outL_give a0 L j)
        have n5 : Hid ((giveL a0 L j).length = n) := by rw [Hid, giveL_len]; exact hn.out
        have s5 : Hid ((nTrue (giveL a0 L j) : Int) = s - (bif lentF a0 L j then 1 else 0)) := by rw [Hid, nTrue_give, hsL.out]
        have hrow : Hid (∀ w6 L1, PAp w w6 p M R a0 L1 L g m → w6.cell? ⟨R, j, none⟩ = some (.bool (lentF a0 L j)) ∧ w6.frozen? ⟨R, j, none⟩ = false) := fun w6 L1 h => ⟨h.at (by omega), h.frz j⟩
        have hrow0 := (hrow.out wr _ A.out).1
        generalize giveL a0 L j = L5 at HG HS n5 s5
        generalize lentF a0 L j = lj at HG s5 hrow hrow0
        clear hn hsL q0 KW hI
        go_wp2_with fail
        go_region_held3 (fun w' => w'.cell? ⟨R, j, none⟩ = some (.bool lj)) (first | assumption | (go_keep; done)) (
          (go_at_call 10; refine (HG.out _ (A.out.kp (Kep.refl _).drew)).mono ?_; rintro e wa ⟨rfl, A3⟩; have q1 := (hrow.out _ _ A3).1; have q2 := (hrow.out _ _ A3).2; have A3' : Hid (PAp w wa p M R a0 L5 L g m) := A3; clear A3))
        all_goals
          have A4 : Hid (PAp w (wa.setCell ⟨R, j, none⟩ (.bool false)) p M R a0 L5 L5 g m) := HS.out _ A3'.out
          clear HG HS hrow A A3' hrow0
          cases lj
          · go_wp2_with fail
            go_roundw
            case rel => exact ⟨k + 1, s, g, m, by omega, by go_num, rfl, by omega, by omega, by omega, by omega, by omega, L5, A4.out, n5.out, by have := s5.out; simp at this; omega⟩
            case measure => simp [intOf]; omega
          · go_wp2_with fail
            go_roundw
            case rel => exact ⟨k + 1, nTrue L5, g, m, by omega, by go_num, by have := s5.out; simp at this; rw [this], by have := s5.out; simp at this; omega, by omega, by omega, by omega, by omega, L5, A4.out, n5.out, rfl⟩
            case measure => simp [intOf]; omega
      · have HT : Hid (Calls Try.prog 8 #[.pointer (some ⟨p, 0, none⟩)] wr fun e w' => e = .returned (leastR a0 L) ∧ (if leastL L < L.length then PAp w w' p M R a0 (takeL L) L (g + 1) m else PAp w w' p M R a0 L L g (m + 1))) := A.out.take (by omega) (by omega)
        have hcase : ¬ (k : Int) < len2 ∨ ∃ (b off : Nat) (z : Int), x2 = some ⟨b, off, none⟩ ∧ (k : Int) < len2 ∧ (len2 : Int) ≤ cap2 ∧ wr.cell? ⟨b, off + k, none⟩ = some (.int .u8 z) ∧ 0 ≤ z ∧ z < 256 ∧ (z % 3 == 0) = false := by
          by_cases hl : (k : Int) < len2
          · right
            obtain ⟨b, off, z, hx, hcap, lb, q0, qz⟩ := hI.out.at (i := k) (by omega)
            have bz : 0 ≤ z ∧ z < 256 := by simp [Lit.wf, IntKind.min, IntKind.max, IntKind.signed, IntKind.bits] at qz; omega
            refine ⟨b, off, z, hx, hl, by omega, (KW.cell lb).trans q0, bz.1, bz.2, ?_⟩
            simp only [beq_eq_false_iff_ne]
            intro hz
            exact hback ⟨b, off, z, hx, hl, by omega, lb, q0, bz.1, bz.2, hz⟩
          · exact .inl hl
        clear hback hI KW
        by_cases hl : leastL L < L.length
        · simp only [if_pos hl, leastR_yes rfl hl] at HT
          have hs1 : (s : Int) < n := by have := leastL_full.1 hl; have := hn.out; have := hsL.out; omega
          have hA := A.out.pool.rng
          have hno := leastL_at hl
          have hlen2 := hn.out
          obtain ⟨j, hj⟩ : ∃ j : Nat, a0 + (leastL L : Nat) = j := ⟨(a0 + (leastL L : Nat)).toNat, by omega⟩
          have hlj : lentF a0 L j = false := by rw [← hj, lentF_at]; exact hno
          have n5 : Hid ((takeL L).length = n) := by rw [Hid, takeL, List.length_set]; exact hn.out
          have s5 : Hid (nTrue (takeL L) = s + 1) := by rw [Hid, takeL, nTrue_ins hl hno, hsL.out]
          have HS : Hid (∀ w6, PAp w w6 p M R a0 (takeL L) L (g + 1) m → PAp w (w6.setCell ⟨R, j, none⟩ (.bool true)) p M R a0 (takeL L) (takeL L) (g + 1) m) := fun w6 h => h.set j true (outL_take hl hj)
          have hrow : Hid (∀ w6 L1, PAp w w6 p M R a0 L1 L (g + 1) m → w6.cell? ⟨R, j, none⟩ = some (.bool false) ∧ w6.frozen? ⟨R, j, none⟩ = false) := fun w6 L1 h => ⟨by rw [h.at (by omega), hlj], h.frz j⟩
          have j0 : ¬ (j : Int) < a0 := by omega
          have j1 : ¬ a0 + (n : Int) ≤ j := by omega
          have j2 : (j : Int) < 600 := by omega
          rw [hj] at HT
          generalize takeL L = L5 at HT n5 s5 HS
          clear hno hlj hj hl hA hlen2 hn hsL A
          rcases hcase with hq | ⟨b, off, z, rfl, hk2, hcap, d0, z0, z1, hz⟩
          all_goals
            try have hz' : (z.tmod 3 == 0) = false := by rw [Int.tmod_eq_emod_of_nonneg z0]; exact hz
            go_wp2_with fail
            refine HT.out.mono ?_
            rintro e w3 ⟨rfl, A3⟩
            have q1 := (hrow.out _ _ A3).1
            have q2 := (hrow.out _ _ A3).2
            have A4 : Hid (PAp w (w3.setCell ⟨R, j, none⟩ (.bool true)) p M R a0 L5 L5 (g + 1) m) := HS.out _ A3
            clear HT HS hrow A3
            go_wp2_with fail
            go_roundw
            case rel => exact ⟨k + 1, s + 1, g + 1, m, by omega, by go_num, by go_num, by omega, by omega, by omega, by omega, by omega, L5, A4.out, n5.out, s5.out⟩
            case measure => simp [intOf]; omega
        · have hl2 : leastL L = L.length := Nat.le_antisymm (leastL_le L) (Nat.le_of_not_lt hl)
          simp only [if_neg hl, leastR_no hl2] at HT
          have hs1 : ¬ (s : Int) < n := by
            intro h
            exact hl (leastL_full.2 (by have := hn.out; have := hsL.out; omega))
          clear hl hl2 A
          rcases hcase with hq | ⟨b, off, z, rfl, hk2, hcap, d0, z0, z1, hz⟩
          all_goals
            try have hz' : (z.tmod 3 == 0) = false := by rw [Int.tmod_eq_emod_of_nonneg z0]; exact hz
            go_wp2_with fail
            refine HT.out.mono ?_
            rintro e w3 ⟨rfl, A3⟩
            have A4 : Hid (PAp w w3 p M R a0 L L g (m + 1)) := A3
            clear HT A3
            go_wp2_with fail
            go_roundw
            case rel => exact ⟨k + 1, s, g, m + 1, by omega, by go_num, rfl, by omega, by omega, by omega, by omega, by omega, L, A4.out, hn.out, hsL.out⟩
            case measure => simp [intOf]; omega
    · have HL : Hid (Calls Try.prog 13 #[.pointer (some ⟨p, 0, none⟩)] wr fun e w' => e = .returned (.int .i64 (n - s)) ∧ Kep w w') := by
        refine (A.out.left).mono ?_
        rintro e w' ⟨rfl, h⟩
        exact ⟨by rw [hn.out, hsL.out], h.kep⟩
      clear A KW hn hsL
      go_wp2_with fail
      refine HL.out.mono ?_
      rintro e w6 ⟨rfl, K6⟩
      have K6' : Hid (Kep w w6) := K6
      clear HL K6
      go_wp2_with fail
      refine (HW.out _).mono ?_
      rintro e w7 ⟨rfl, K7⟩
      go_wp2_with fail
      go_ret
      exact ⟨rfl, kep_trans K6'.out K7⟩

set_option maxRecDepth 100000 in
theorem lifted (os : Os) (started : os.Started) (H : Type) (enc : TypeId × Value → H) :
    ReturnsInHanded {} Try.checked os 5 .any (Rows.poolApartSpec.pre6 enc Try.prog Try.f5 Rows.poolApartRow.domain false) (Rows.poolApartSpec.post enc Try.prog Try.f5 false true false false) := by
  refine returnsInHanded_of_change (C := Try.checked) own started (by kernel_rfl) Try.func5
    (ChangeSpec.witness6 (enc := enc) (C := Try.checked) false ⟨#[], #[.int .u8 0, .int .u8 0, .slice none 0 0], []⟩ 8 (by kernel_rfl) (by kernel_rfl) (by kernel_rfl) (by kernel_rfl)) ?_
  intro W base args ds gs before hval0 hW hcnd _
  have hval : ∀ (j : Nat) t v, Try.f5.params[j]? = some t → args[j]? = some v → Value.okWide Try.prog W .any base t v := hval0
  have hW' := hW
  obtain ⟨p, q, hA0, hV, rfl, hfz, hnd⟩ := hW
  have hA : DataW.TrodAll enc Try.prog W 0 (fun _ => true) true Try.f5.params.toList args.toList ds p := hA0
  rw [Try.params5] at hA hval
  obtain ⟨v0, vs0, d0, ds0, p0, q0, hargs, rfl, rfl, h0, r0⟩ := trodAll_cons hA
  obtain ⟨v1, vs1, d1, ds1, p1, q1, rfl, rfl, rfl, h1, r1⟩ := trodAll_cons r0
  obtain ⟨v2, vs2, d2, ds2, p2, q2, rfl, rfl, rfl, h2, r2⟩ := trodAll_cons r1
  obtain ⟨rfl, rfl, rfl⟩ := trodAll_nil r2
  obtain rfl : args = #[v0, v1, v2] := by cases args; simp_all
  obtain ⟨rfl, rfl⟩ := trodVars_none hV
  have k0 := h0
  have lt0 : ∀ x ∈ p0, x.block < W.heap.size := by obtain ⟨m, hm⟩ := k0; exact DataW.trod_lt m _ _ _ hm
  obtain ⟨a0, rfl, rfl, rfl, w0⟩ := open_int Try.underlying5 (hval 0 5 v0 rfl rfl) h0
  have k1 := h1
  have lt1 : ∀ x ∈ p1, x.block < W.heap.size := by obtain ⟨m, hm⟩ := k1; exact DataW.trod_lt m _ _ _ hm
  obtain ⟨a1, rfl, rfl, rfl, w1⟩ := open_int Try.underlying5 (hval 1 5 v1 rfl rfl) h1
  have k2 := h2
  have lt2 : ∀ x ∈ p2, x.block < W.heap.size := by obtain ⟨m, hm⟩ := k2; exact DataW.trod_lt m _ _ _ hm
  obtain ⟨x2, len2, cap2, rfl⟩ := okWide_slice Try.underlying42 (hval 2 42 v2 rfl rfl)
  obtain ⟨z2, w2⟩ : ∃ zs, IsRow .u8 W x2 len2 cap2 zs := by
    obtain ⟨fuel, hf⟩ := h2
    rcases open_ints Try.underlying42 Try.underlying5 (by kernel_rfl) hf with ⟨hcs, _⟩ | ⟨x, l, c, zs, hcs, _, hl, hm, hz, _, hcell, hwz⟩
    · simp [Value.cells] at hcs
      obtain ⟨rfl, rfl, rfl⟩ := hcs
      exact ⟨[], .inl ⟨rfl, rfl, rfl, rfl⟩⟩
    · simp [Value.cells] at hcs
      obtain ⟨rfl, rfl, rfl⟩ := hcs
      exact ⟨zs, .inr ⟨_, rfl, hl, hm, by simpa using hz, hcell, hwz⟩⟩
  clear hA0 hval0
  refine (walk a0 w0 a1 w1 x2 len2 cap2 z2 W w2).mono fun e W' ⟨he, bel0⟩ => ?_
  have bel : Below W.heap.size W W' := bel0
  subst he
  exact ⟨_, rfl, _, _, _, [], _, [], hW', trodAll_mk1 (shut_bool Try.underlying4 _), (trodAll_cons_mk (Below.trod laidOut (by kernel_rfl) (of_decide_eq_true (by kernel_rfl)) k0 bel lt0) (trodAll_cons_mk (Below.trod laidOut (by kernel_rfl) (of_decide_eq_true (by kernel_rfl)) k1 bel lt1) (trodAll_cons_mk (Below.trod laidOut (by kernel_rfl) (of_decide_eq_true (by kernel_rfl)) k2 bel lt2) trodAll_mk0))), rfl, bel.frame _, fun h => by cases h⟩

theorem over : Rows.poolApartRow.holds Try.pinned (OpenSpec.ofChange Rows.poolApartSpec) :=
  OpenClaim.holds_of_wide 5 Try.f5 rfl rfl rfl rfl rfl rfl rfl ⟨rfl, rfl, rfl, rfl, rfl⟩ rfl rfl rfl rfl rfl (by kernel_rfl) Try.func5 (by kernel_rfl)
    (of_decide_eq_true (by kernel_rfl)) (by unfold Func.isWrapper; first | (rw [if_pos (by decide +kernel)]; kernel_rfl) | (rw [if_neg (by decide +kernel)]; exact ⟨rfl, rfl⟩))
    (fun os started H enc _ => lifted os started H enc)
end Go.Proofs.Ytjigjhmimocahaa.poolApart
namespace Go.Proofs.Ytjigjhmimocahaa

theorem poolApart_holds : Rows.PoolApartSaid := poolApart.over
#print axioms poolApart_holds
end Go.Proofs.Ytjigjhmimocahaa
