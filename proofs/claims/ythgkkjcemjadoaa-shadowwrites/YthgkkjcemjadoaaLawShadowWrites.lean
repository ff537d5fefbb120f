/- For every number of frames and every row of steps, the law ShadowWrites returns true: only the directory's frames and the pool's are written. -/
import Derived.Test.YthgkkjcemjadoaaRows
import Derived.Test.YthgkkjcemjadoaaSdfin
import Derived.WalkKit
import Derived.ProofKit
import Derived.OpenShut
import Derived.ShutString
import Derived.ChangeOld
import Derived.Below
import Derived.Lib.SmallJoins
namespace Go.Proofs.Ythgkkjcemjadoaa.shadowWrites
open Go.ChangeShapes Go.WideShapes Go.ChangeAt Go.RowKit
set_option linter.unusedVariables false
set_option linter.unusedSimpArgs false

theorem own : ownKnob Try.prog.godebug = none := by kernel_rfl
theorem laidOut : laidOutB Try.prog = true := by kernel_rfl

set_option maxHeartbeats 4000000 in
set_option maxRecDepth 100000 in
theorem walk (a0 : Int) (w0 : (Lit.int .u8 a0).wf = true) (x1 : Option Addr) (len1 cap1 : Nat) (z1 : List Hst) (w : World) (w1 : HstRow w x1 len1 cap1 z1) :
    Calls Try.prog 4 #[.int .u8 a0, .slice x1 len1 cap1] w fun e w' => e = .returned (.bool true) ∧ Kep w w' := by
  have b0 : 0 ≤ a0 ∧ a0 < 256 := by simp [Lit.wf, IntKind.min, IntKind.max, IntKind.signed, IntKind.bits] at w0; omega
  have HW : Hid (∀ w, Calls Try.prog 18 #[] w fun e w' => e = .returned (.bool true) ∧ Kep w w') := works16_any
  have HROW : Hid (HstRow w x1 len1 cap1 z1) := w1
  have hlen := w1.max
  clear w0 w1
  obtain ⟨most, rfl⟩ : ∃ n : Nat, a0 = n := ⟨a0.toNat, by omega⟩
  have hmb : most < 256 := by omega
  have HM : Hid (∀ w, Calls Try.prog 8 #[.int .u8 most] w fun e w' => ∃ pv p q R M B, e = .returned (.tuple #[.pointer (some ⟨pv, 0, none⟩), .pointer (some ⟨p, 0, none⟩), .pointer (some ⟨q, 0, none⟩)]) ∧
      ShW w' p pv R 40 8 20 q M Z5 sd0 B (List.replicate (most % 13) false) 0 0 [] ∧ DInv 8 sd0 B ∧ Kep w w' ∧ Late w p R q M) := fun w => made16_any w most hmb
  obtain ⟨n, hn, hnb, hn12⟩ : ∃ n : Nat, Hid (most % 13 = n) ∧ (n : Int) ≤ 12 ∧ n ≤ 12 := ⟨_, rfl, by omega, by omega⟩
  have hmn : (most : Int).tmod 13 = n := by have := hn.out; rw [Int.tmod_eq_emod_of_nonneg (by omega)]; omega
  rw [hn.out] at HM
  clear hmb
  go_enter Try.func4, Try.ntmps4
  go_wp2_with fail
  refine (HM.out _).mono ?_
  rintro e w1 ⟨pv, p, q, R, M, B, rfl, S1, D1, K1, LT⟩
  have I1 : Hid (DR w (w1.alloc (.cells #[.int .i64 40, .slice none 0 0, .slice none 0 0, .int .i64 n] 32)) p pv R q M w1.heap.size w1.heap.size n [] [] 0) := DR.begin S1 D1 K1 LT
  clear S1 D1 K1 LT HM
  go_wp2_with fail
  generalize w1.alloc (.cells #[.int .i64 40, .slice none 0 0, .slice none 0 0, .int .i64 n] 32) = W1 at I1 ⊢
  generalize w1.heap.size = r at I1 ⊢
  go_loopw [9] (fun i wr => ∃ k : Nat, (k : Int) ≤ len1 ∧ (k : Int) ≤ 60 ∧ i = .int .i64 k ∧ Hid (DR w wr p pv R q M r r n [] [] k)) (fun i _ => 60 - (intOf i).toNat)
  case atStart => exact ⟨0, by omega, by omega, rfl, I1⟩
  case round =>
    obtain ⟨k, hkl, hk60, rfl, hI⟩ := hrel
    by_cases hlt : (k : Int) < len1 ∧ (k : Int) < 60
    · obtain ⟨hl, h60⟩ := hlt
      obtain ⟨b, off, st, hst, hok, hx1, hle, hbl, d0, d1, d2, d3⟩ := (HROW.out.kep hI.out.kep).at (k := k) (by omega)
      subst hx1
      have hle' : (len1 : Int) ≤ cap1 := by omega
      obtain ⟨sk, sp, sf, sb⟩ := st
      simp only at d0 d1 d2 d3
      have HDO : Hid (Calls Try.prog 9 #[.pointer (some ⟨p, 0, none⟩), .pointer (some ⟨r, 0, none⟩), .agg #[.int .i64 sk, .int .u32 sp, .int .i64 sf, .int .u32 sb]] wr fun e w' => e = .returned (.bool true) ∧ DR w w' p pv R q M r r n [] [] (k + 1)) := do16_any w wr p pv R q M r r n [] k hI.out (by omega) hn12 sk sp sf sb hok
      clear hok hle hbl hst hI
      go_wp2_with (go_at_call 9; refine HDO.out.mono ?_; rintro e w5 ⟨rfl, I5⟩)
      go_roundw
      case rel => exact ⟨k + 1, by omega, by omega, by go_num, I5⟩
      case measure => simp [intOf]; omega
    · have hI2 : Hid (DR w wr p pv R q M r r n [] [] k) := hI
      have hend : ¬ (k : Int) < len1 ∨ ((k : Int) < len1 ∧ ¬ (k : Int) < 60) := by omega
      clear hI hlt I1
      rcases hend with hq | ⟨hq, hq'⟩
      all_goals
        go_wp2_with fail
        go_loopw [11] (fun i wr => ∃ j : Nat, (j : Int) ≤ 40 ∧ i = .int .i64 j ∧ Hid (DR w wr p pv R q M r r n [] [] k)) (fun i _ => 40 - (intOf i).toNat)
        case atStart => exact ⟨0, by omega, rfl, hI2⟩
        case round =>
          obtain ⟨j, hj, rfl, hJ⟩ := hrel
          clear hI2 hq
          by_cases h40 : (j : Int) < 40
          · by_cases g8 : j = 8
            · have q8 : ((j : Int) == 8) = true := by simp [g8]
              clear g8
              go_wp2_with fail
              go_roundw
              case rel => exact ⟨j + 1, by omega, by go_num, hJ⟩
              case measure => simp [intOf]; omega
            have q8 : ((j : Int) == 8) = false := by simp; omega
            by_cases g9 : j = 9
            · have q9 : ((j : Int) == 9) = true := by simp [g9]
              clear g8 g9
              go_wp2_with fail
              go_roundw
              case rel => exact ⟨j + 1, by omega, by go_num, hJ⟩
              case measure => simp [intOf]; omega
            have q9 : ((j : Int) == 9) = false := by simp; omega
            by_cases gp : 20 ≤ j ∧ j < 20 + n
            · have p1 : (20 : Int) ≤ j := by omega
              have p2 : (j : Int) < 20 + n := by omega
              clear g8 g9 gp
              go_wp2_with fail
              go_roundw
              case rel => exact ⟨j + 1, by omega, by go_num, hJ⟩
              case measure => simp [intOf]; omega
            have HF : Hid (Calls Try.prog 19 #[.pointer (some ⟨pv, 0, none⟩), .int .i64 j] wr fun e w' => e = .returned (.slice (some ⟨wr.heap.size, 0, none⟩) 64 64) ∧ Kep wr w' ∧ ∀ w'', Kep w' w'' → ∀ j : Nat, j < 64 → w''.cell? ⟨wr.heap.size, j, none⟩ = some (.int .u8 165)) := hJ.out.frame (by omega) g8 g9 gp
            rcases (by omega : ¬ (20 : Int) ≤ j ∨ ((20 : Int) ≤ j ∧ ¬ (j : Int) < 20 + n)) with p1 | ⟨p1, p2⟩
            · clear g8 g9 gp
              go_wp2_with (go_at_call 19; refine HF.out.mono ?_; rintro e w6 ⟨rfl, K6, c6⟩)
              have C6 : Hid (∀ w'', Kep w6 w'' → ∀ j : Nat, j < 64 → w''.cell? ⟨wr.heap.size, j, none⟩ = some (.int .u8 165)) := c6
              have D6 : Hid (DR w w6 p pv R q M r r n [] [] k) := hJ.out.kp K6
              generalize wr.heap.size = fb at C6 ⊢
              clear HF K6 c6 q8 q9
              go_loopw [13] (fun x wr => ∃ y : Nat, (y : Int) ≤ 64 ∧ x = .int .i64 y ∧ Hid (Kep w6 wr)) (fun x _ => 64 - (intOf x).toNat)
              case atStart => exact ⟨0, by omega, rfl, Kep.refl _⟩
              case round =>
                obtain ⟨y, hy, rfl, hY⟩ := hrel
                by_cases h64 : (y : Int) < 64
                · have d0 := C6.out wr hY.out y (by omega)
                  go_wp2_with fail
                  go_roundw
                  case rel => exact ⟨y + 1, by omega, by go_num, hY⟩
                  case measure => simp [intOf]; omega
                · have D7 : Hid (DR w wr p pv R q M r r n [] [] k) := D6.out.kp hY.out
                  go_wp2_with fail
                  go_roundw
                  case rel => exact ⟨j + 1, by omega, by go_num, D7⟩
                  case measure => simp [intOf]; omega
            · clear g8 g9 gp
              go_wp2_with (go_at_call 19; refine HF.out.mono ?_; rintro e w6 ⟨rfl, K6, c6⟩)
              have C6 : Hid (∀ w'', Kep w6 w'' → ∀ j : Nat, j < 64 → w''.cell? ⟨wr.heap.size, j, none⟩ = some (.int .u8 165)) := c6
              have D6 : Hid (DR w w6 p pv R q M r r n [] [] k) := hJ.out.kp K6
              generalize wr.heap.size = fb at C6 ⊢
              clear HF K6 c6 q8 q9
              go_loopw [13] (fun x wr => ∃ y : Nat, (y : Int) ≤ 64 ∧ x = .int .i64 y ∧ Hid (Kep w6 wr)) (fun x _ => 64 - (intOf x).toNat)
              case atStart => exact ⟨0, by omega, rfl, Kep.refl _⟩
              case round =>
                obtain ⟨y, hy, rfl, hY⟩ := hrel
                by_cases h64 : (y : Int) < 64
                · have d0 := C6.out wr hY.out y (by omega)
                  go_wp2_with fail
                  go_roundw
                  case rel => exact ⟨y + 1, by omega, by go_num, hY⟩
                  case measure => simp [intOf]; omega
                · have D7 : Hid (DR w wr p pv R q M r r n [] [] k) := D6.out.kp hY.out
                  go_wp2_with fail
                  go_roundw
                  case rel => exact ⟨j + 1, by omega, by go_num, D7⟩
                  case measure => simp [intOf]; omega
          · have HK : Hid (Kep w wr) := hJ.out.kep
            clear hJ
            go_wp2_with fail
            refine (HW.out _).mono ?_
            rintro e w8 ⟨rfl, K8⟩
            go_wp2_with fail
            go_ret
            exact ⟨rfl, kep_trans HK.out K8⟩

set_option maxRecDepth 100000 in
theorem lifted (os : Os) (started : os.Started) (H : Type) (enc : TypeId × Value → H) :
    ReturnsInHanded {} Try.checked os 4 .any (Rows.shadowWritesSpec.pre6 enc Try.prog Try.f4 Rows.shadowWritesRow.domain false) (Rows.shadowWritesSpec.post enc Try.prog Try.f4 false true false false) := by
  refine returnsInHanded_of_change (C := Try.checked) own started (by kernel_rfl) Try.func4
    (ChangeSpec.witness6 (enc := enc) (C := Try.checked) false ⟨#[], #[.int .u8 0, .slice none 0 0], []⟩ 8 (by kernel_rfl) (by kernel_rfl) (by kernel_rfl) (by kernel_rfl)) ?_
  intro W base args ds gs before hval0 hW hcnd _
  have hval : ∀ (j : Nat) t v, Try.f4.params[j]? = some t → args[j]? = some v → Value.okWide Try.prog W .any base t v := hval0
  have hW' := hW
  obtain ⟨p, q, hA0, hV, rfl, hfz, hnd⟩ := hW
  have hA : DataW.TrodAll enc Try.prog W 0 (fun _ => true) true Try.f4.params.toList args.toList ds p := hA0
  rw [Try.params4] at hA hval
  obtain ⟨v0, vs0, d0, ds0, p0, q0, hargs, rfl, rfl, h0, r0⟩ := trodAll_cons hA
  obtain ⟨v1, vs1, d1, ds1, p1, q1, rfl, rfl, rfl, h1, r1⟩ := trodAll_cons r0
  obtain ⟨rfl, rfl, rfl⟩ := trodAll_nil r1
  obtain rfl : args = #[v0, v1] := by cases args; simp_all
  obtain ⟨rfl, rfl⟩ := trodVars_none hV
  have k0 := h0
  have lt0 : ∀ x ∈ p0, x.block < W.heap.size := by obtain ⟨m, hm⟩ := k0; exact DataW.trod_lt m _ _ _ hm
  obtain ⟨a0, rfl, rfl, rfl, w0⟩ := open_int Try.underlying5 (hval 0 5 v0 rfl rfl) h0
  have k1 := h1
  have lt1 : ∀ x ∈ p1, x.block < W.heap.size := by obtain ⟨m, hm⟩ := k1; exact DataW.trod_lt m _ _ _ hm
  obtain ⟨x1, len1, cap1, rfl⟩ := okWide_slice Try.underlying22 (hval 1 22 v1 rfl rfl)
  obtain ⟨z1, w1⟩ : ∃ zs, HstRow W x1 len1 cap1 zs := by
    obtain ⟨fuel, hf⟩ := h1
    exact hsts_of hf
  clear hA0 hval0
  refine (walk a0 w0 x1 len1 cap1 z1 W w1).mono fun e W' ⟨he, bel0⟩ => ?_
  have bel : Below W.heap.size W W' := bel0
  subst he
  exact ⟨_, rfl, _, _, _, [], _, [], hW', trodAll_mk1 (shut_bool Try.underlying4 _), (trodAll_cons_mk (Below.trod laidOut (by kernel_rfl) (of_decide_eq_true (by kernel_rfl)) k0 bel lt0) (trodAll_cons_mk (Below.trod laidOut (by kernel_rfl) (of_decide_eq_true (by kernel_rfl)) k1 bel lt1) trodAll_mk0)), rfl, bel.frame _, fun h => by cases h⟩

theorem over : Rows.shadowWritesRow.holds Try.pinned (OpenSpec.ofChange Rows.shadowWritesSpec) :=
  OpenClaim.holds_of_wide 4 Try.f4 rfl rfl rfl rfl rfl rfl rfl ⟨rfl, rfl, rfl, rfl, rfl⟩ rfl rfl rfl rfl rfl (by kernel_rfl) Try.func4 (by kernel_rfl)
    (of_decide_eq_true (by kernel_rfl)) (by unfold Func.isWrapper; first | (rw [if_pos (by decide +kernel)]; kernel_rfl) | (rw [if_neg (by decide +kernel)]; exact ⟨rfl, rfl⟩))
    (fun os started H enc _ => lifted os started H enc)
end Go.Proofs.Ythgkkjcemjadoaa.shadowWrites
namespace Go.Proofs.Ythgkkjcemjadoaa

theorem shadowWrites_holds : Rows.ShadowWritesSaid := shadowWrites.over
#print axioms shadowWrites_holds
end Go.Proofs.Ythgkkjcemjadoaa
