/- For every block and two frames, the law DevBlocks returns true: a frame that was written to a block is read back as it was. -/
import Derived.Test.YtpieeefeicdfgaaRows
import Derived.Test.YtpieeefeicdfgaaVbkd
import Derived.Test.YtpieeefeicdfgaaMbsl
import Derived.WalkKit
import Derived.ProofKit
import Derived.OpenShut
import Derived.ShutString
import Derived.ChangeOld
import Derived.Below
import Derived.Lib.SmallJoins
namespace Go.Proofs.Ytpieeefeicdfgaa.devBlocks
open Go.ChangeShapes Go.WideShapes Go.ChangeAt Go.RowKit
set_option linter.unusedVariables false
set_option linter.unusedSimpArgs false

theorem own : ownKnob Try.prog.godebug = none := by kernel_rfl
theorem laidOut : laidOutB Try.prog = true := by kernel_rfl

theorem evB (w : World) : Lies (w.alloc (.cells #[.int .i64 1, .int .i64 2, .int .u8 0, .int .i64 2, .int .i64 2, .int .u8 0] 74)) (some ⟨w.heap.size, 0, none⟩) (evs [(1, 2, 0), (2, 2, 0)]) := by
  refine .inr ⟨w.heap.size, 0, rfl, by simp, fun j u hj => ?_⟩
  rw [Nat.zero_add, cell_of_block (heap_alloc_new w _)]
  simpa [evs, evV] using hj
theorem rowB (w : World) : Lies (w.alloc (.cells (byt zD).toArray 5)) (some ⟨w.heap.size, 0, none⟩) (byt zD) := by
  refine .inr ⟨w.heap.size, 0, rfl, by simp, fun j u hj => ?_⟩
  rw [Nat.zero_add, cell_of_block (heap_alloc_new w _), List.getElem?_toArray]
  exact hj
theorem errB : errI [(1, 2, 0), (2, 2, 0)] zD = 0 := by
  unfold errI
  rw [zD_len]
  decide

set_option maxHeartbeats 8000000 in
set_option maxRecDepth 100000 in
theorem walk (a0 : Int) (w0 : (Lit.int .u8 a0).wf = true) (a1 : Int) (w1 : (Lit.int .u8 a1).wf = true) (a2 : Int) (w2 : (Lit.int .u8 a2).wf = true) (w : World)  :
    Calls Try.prog 8 #[.int .u8 a0, .int .u8 a1, .int .u8 a2] w fun e w' => e = .returned (.bool true) ∧ Kep w w' := by
  have hM : Hid (∀ w, Calls Try.prog 11 #[] w fun e w' => e = .returned (.bool true) ∧ Kep w w') := works11_any
  have hMem : Hid (∀ w, Calls Try.prog 12 #[] w fun e w' => ∃ (p R Rb : Nat) (B : List Int), e = .returned (.tuple #[.pointer (some ⟨p, 0, none⟩), refV (some ⟨Rb, 0, none⟩) (64 * 5)]) ∧ Two w' (.pointer (some ⟨p, 0, none⟩)) R 5 (some ⟨Rb, 0, none⟩) Rb B ∧ Kep w w' ∧ w.heap.size ≤ R ∧ w.heap.size ≤ Rb) := memory_any
  have mk : ∀ w, Sem.run Try.prog (Instr.makeSlice 23 (.int .i64 512) (.int .i64 512)) w = .ok (.slice (some ⟨w.heap.size, 0, none⟩) 512 512) (w.alloc (.cells (byt zD).toArray 5)) := fun w => make_row 512 (by decide) w
  obtain ⟨b, hb, hb8⟩ : ∃ b : Nat, a0 % 8 = b ∧ b < 8 := ⟨(a0 % 8).toNat, by omega, by omega⟩
  obtain ⟨f, hf, hf5⟩ : ∃ f : Nat, a1 % 5 = f ∧ f < 5 := ⟨(a1 % 5).toNat, by omega, by omega⟩
  obtain ⟨t, ht, ht5⟩ : ∃ t : Nat, a2 % 5 = t ∧ t < 5 := ⟨(a2 % 5).toNat, by omega, by omega⟩
  have q0 : 0 ≤ a0 ∧ a0 < 256 := by simp [Lit.wf, IntKind.min, IntKind.max, IntKind.signed, IntKind.bits] at w0; omega
  have q1 : 0 ≤ a1 ∧ a1 < 256 := by simp [Lit.wf, IntKind.min, IntKind.max, IntKind.signed, IntKind.bits] at w1; omega
  have q2 : 0 ≤ a2 ∧ a2 < 256 := by simp [Lit.wf, IntKind.min, IntKind.max, IntKind.signed, IntKind.bits] at w2; omega
  have hb8' : (b : Int) < 8 := by omega
  have hf5' : (f : Int) < 5 := by omega
  have ht5' : (t : Int) < 5 := by omega
  clear w0 w1 w2
  obtain ⟨W1, hW1⟩ : ∃ W1, Hid (W1 = (w.alloc (.cells #[.int .i64 1, .int .i64 2, .int .u8 0, .int .i64 2, .int .i64 2, .int .u8 0] 74)).alloc (.cells (byt zD).toArray 5)) := ⟨_, rfl⟩
  have HN : Hid (Calls Try.prog 9 #[.slice (some ⟨w.heap.size, 0, none⟩) 2 2, .slice (some ⟨w.heap.size + 1, 0, none⟩) 512 512] W1 fun e w' => ∃ p F, e = .returned (.tuple #[.pointer (some ⟨p, 0, none⟩), .int .i64 0]) ∧ Dev w' p (ds0 [(1, 2, 0), (2, 2, 0)] zD) F ∧ Kep W1 w' ∧ ∀ g ∈ F, W1.heap.size ≤ g) := by
    rw [hW1.out]
    refine vnew_ok _ _ 2 2 [(1, 2, 0), (2, 2, 0)] rfl (by decide) ((evB w).kep ((Kep.refl _).alloc _)) _ 512 512 zD zD_len (by decide) (by decide) ?_ errB
    have := rowB (w.alloc (.cells #[.int .i64 1, .int .i64 2, .int .u8 0, .int .i64 2, .int .i64 2, .int .u8 0] 74))
    rw [World.size_alloc] at this; exact this
  have KW1 : Hid (Kep w W1) := by unfold Hid; rw [hW1.out]; exact ((Kep.refl _).alloc _).alloc _
  have okD : Hid (ds0 [(1, 2, 0), (2, 2, 0)] zD).Ok := ds0_ok errB (by decide) (fun x hx => by have := (List.mem_replicate.1 hx).2; subst this; decide)
  go_enter Try.func8, Try.ntmps8
  go_wp2_with fail
  rw [← hW1.out]
  refine HN.out.mono ?_
  rintro e w3 ⟨p, F, rfl, d3, k3, f3⟩
  have D3 : Hid (Dev w3 p (ds0 [(1, 2, 0), (2, 2, 0)] zD) F) := d3
  have K3 : Hid (Kep w w3) := kep_trans KW1.out k3
  have F3 : Hid (∀ g ∈ F, w.heap.size ≤ g) := fun g hg => Nat.le_trans KW1.out.size (f3 g hg)
  clear d3 k3 f3 HN hW1 KW1
  go_wp2_with fail
  refine (hMem.out _).mono ?_
  rintro e w4 ⟨pr, R, Rb, B, rfl, T4, k4, r4, rb4⟩
  have A4 : Hid (BK w p (ds0 [(1, 2, 0), (2, 2, 0)] zD) pr R B Rb w4.heap.size B (w4.alloc (.cells #[.slice (some ⟨Rb, 0, none⟩) 320 320] 33))) := by
    have hl := D3.out.lt
    have d4 := D3.out.kep k4
    have lB : B.length = 320 := T4.len
    have kA : Kep w4 (w4.alloc (.cells #[.slice (some ⟨Rb, 0, none⟩) 320 320] 33)) := (Kep.refl _).alloc _
    have lR := T4.lR
    have lRb := T4.lRb
    have s4 := k4.size
    refine ⟨F, d4.kep kA, okD.out, (MemS.kep (.inr ⟨ne320 lB, ⟨T4.ram, T4.row, fits_range T4.len, T4.byts, by decide⟩, ⟨d4.off T4.ram, fun hm => by have := hl R hm; omega⟩⟩) kA), lB, T4.byts, T4.ref.row.kep kA, lB, hat _ _ _ rfl, fun x hx => ⟨F3.out x hx, by have := hl x hx; omega, by have := hl x hx; omega⟩, T4.ne, by omega, by have := K3.out.size; omega, kep_trans (kep_trans K3.out k4) kA⟩
  clear T4 k4 r4 rb4 D3 K3 F3 okD
  go_wp2_with fail
  generalize w4.alloc (.cells #[.slice (some ⟨Rb, 0, none⟩) 320 320] 33) = W5 at A4 ⊢
  generalize w4.heap.size = g at A4 ⊢
  refine (A4.out.write rfl 2 (b : Int) ⟨by omega, by omega⟩ (s' := bs0 0 zD b 0 0 0 0 0 [(1, 2, 0), (2, 2, 0)]) (by first | rfl | (simp [writeS, bs0, ds0]))).mono ?_
  rintro e w5 ⟨rfl, a5⟩
  have A5 : Hid (BK w p (bs0 0 zD b 0 0 0 0 0 [(1, 2, 0), (2, 2, 0)]) pr R B Rb g B w5) := a5
  clear a5 A4
  go_wp2_with fail
  refine (A5.out.write rfl 3 (64 * (f : Int)) ⟨by omega, by omega⟩ (s' := bs0 0 zD b ((64 * f : Nat) : Int) 0 0 0 0 [(1, 2, 0), (2, 2, 0)]) (by first | rfl | (simp [writeS, bs0, ds0]))).mono ?_
  rintro e w6 ⟨rfl, a6⟩
  have A6 : Hid (BK w p (bs0 0 zD b ((64 * f : Nat) : Int) 0 0 0 0 [(1, 2, 0), (2, 2, 0)]) pr R B Rb g B w6) := a6
  clear a6 A5
  go_wp2_with fail
  refine (A6.out.write rfl 4 2 (by decide) (s' := bs0 0 zD b ((64 * f : Nat) : Int) 1 2 b ((64 * f : Nat) : Int) [(1, 2, 0), (2, 2, 0)]) (by first | rfl | (simp [writeS, bs0, ds0]))).mono ?_
  rintro e w7 ⟨rfl, a7⟩
  have A7 : Hid (BK w p (bs0 0 zD b ((64 * f : Nat) : Int) 1 2 b ((64 * f : Nat) : Int) [(1, 2, 0), (2, 2, 0)]) pr R B Rb g B w7) := a7
  clear a7 A6
  go_wp2_with fail
  refine (A7.out.come (by show (2 : Nat) ≤ 64; omega) 1 (blk1 b f hb8 hf5 B)).mono ?_
  rintro e w8 ⟨vc, xw, cw, rfl, _, _, _, a8⟩
  obtain ⟨D1, hD1⟩ : ∃ D1, D1 = splice zD (64 * b) (frameL B f) := ⟨_, rfl⟩
  have lB : B.length = 320 := by obtain ⟨_, _, _, _, lB, _⟩ := a8; exact lB
  have hfl : (frameL B f).length = 64 := frameL_len (by omega)
  have hD1l : Hid (D1.length = 512) := by unfold Hid; rw [hD1, length_splice _ _ _ (by rw [zD_len, hfl]; omega), zD_len]
  have hD1b : Hid (frameL D1 b = frameL B f) := by unfold Hid; rw [hD1, frame_splice _ _ _ _ hfl (by rw [zD_len]; omega), if_pos rfl]
  rw [← hD1] at a8
  have A8 : Hid (BK w p (bs0 4 D1 b ((64 * f : Nat) : Int) 0 0 0 0 [(2, 2, 0)]) pr R B Rb g B w8) := a8
  have HlB : Hid (B.length = 320) := lB
  have Hfl : Hid ((frameL B f).length = 64) := hfl
  clear a8 A7 hD1 lB hfl
  simp only [List.length_nil]
  go_wp2_with fail
  refine (A8.out.write rfl 3 (64 * (t : Int)) ⟨by omega, by omega⟩ (s' := bs0 4 D1 b ((64 * t : Nat) : Int) 0 0 0 0 [(2, 2, 0)]) (by first | rfl | (simp [writeS, bs0, ds0]))).mono ?_
  rintro e w9 ⟨rfl, a9⟩
  have A9 : Hid (BK w p (bs0 4 D1 b ((64 * t : Nat) : Int) 0 0 0 0 [(2, 2, 0)]) pr R B Rb g B w9) := a9
  clear a9 A8
  go_wp2_with fail
  refine (A9.out.write rfl 4 1 (by decide) (s' := bs0 4 D1 b ((64 * t : Nat) : Int) 1 1 b ((64 * t : Nat) : Int) [(2, 2, 0)]) (by first | rfl | (simp [writeS, bs0, ds0]))).mono ?_
  rintro e w10 ⟨rfl, a10⟩
  have A10 : Hid (BK w p (bs0 4 D1 b ((64 * t : Nat) : Int) 1 1 b ((64 * t : Nat) : Int) [(2, 2, 0)]) pr R B Rb g B w10) := a10
  clear a10 A9
  have HI : Hid (Calls Try.prog 15 #[.pointer (some ⟨p, 0, none⟩), .int .i64 4] w10 fun e W' => e = .returned (.int .u32 1) ∧ W' = w10) := A10.out.in 4 rfl
  go_wp2_with (go_at_call 15; refine HI.out.mono ?_; rintro e w11 ⟨rfl, rfl⟩)
  refine (A10.out.come (by show (1 : Nat) ≤ 64; omega) 2 (blk2 b f t hb8 ht5 D1 B hD1l.out HlB.out)).mono ?_
  rintro e w12 ⟨vc2, xw2, cw2, rfl, hcw1, hcw2, lw2, a12⟩
  rw [hD1b.out] at a12
  obtain ⟨B2, hB2⟩ : ∃ B2, B2 = splice B (64 * t) (frameL B f) := ⟨_, rfl⟩
  have HB2 : Hid (∀ k, frameL B2 k = if k = t then frameL B f else frameL B k) := fun k => by rw [hB2]; exact frame_splice _ _ _ _ Hfl.out (by have := HlB.out; omega)
  rw [← hB2] at a12
  have A12 : Hid (BK w p (bs0 4 D1 b ((64 * t : Nat) : Int) 0 0 0 0 []) pr R B2 Rb g B w12) := a12
  have HI4 : Hid (Calls Try.prog 15 #[.pointer (some ⟨p, 0, none⟩), .int .i64 4] w12 fun e W' => e = .returned (.int .u32 0) ∧ W' = w12) := a12.in 4 rfl
  have HI6 : Hid (Calls Try.prog 15 #[.pointer (some ⟨p, 0, none⟩), .int .i64 6] w12 fun e W' => e = .returned (.int .u32 4) ∧ W' = w12) := a12.in 6 rfl
  obtain ⟨qw, ow, hqw, cq⟩ : ∃ q o : Nat, xw2 = some ⟨q, o, none⟩ ∧ w12.cell? ⟨q, o, none⟩ = some (.int .i64 t) := by
    rcases lw2 with h0 | ⟨q, o, e, _, hc⟩
    · simp at h0
    · exact ⟨q, o, e, hc 0 _ rfl⟩
  subst hqw
  simp only [List.length_cons, List.length_nil] at hcw1 ⊢
  clear a12 A10 hB2 lw2 HI
  go_wp2_with (first
    | (go_at_call_of 15 (Value.int .i64 4); refine HI4.out.mono ?_; rintro e w13 ⟨rfl, rfl⟩)
    | (go_at_call_of 15 (Value.int .i64 6); refine HI6.out.mono ?_; rintro e w14 ⟨rfl, rfl⟩))
  clear HI4 HI6 cq hcw1 hcw2 HlB Hfl hMem mk
  go_loopw [18] (fun i wr => ∃ k : Nat, (k : Int) ≤ 5 ∧ i = .int .i64 k ∧ Hid (BK w p (bs0 4 D1 b ((64 * t : Nat) : Int) 0 0 0 0 []) pr R B2 Rb g B wr)) (fun i _ => 10 - (intOf i).toNat)
  case atStart => exact ⟨0, by omega, rfl, A12⟩
  case round =>
    obtain ⟨k, hk, rfl, A⟩ := hrel
    clear A12
    have c0 := A.out.box
    by_cases hlt : (k : Int) < 5
    · have hk5 : k < 5 := by omega
      have G1 : Hid (∀ w', Kep wr w' → Calls Try.prog 27 #[refV (some ⟨Rb, 0, none⟩) 320, .int .i64 k] w' fun e w'' => ∃ u : Value, e = .returned u ∧ Str w'' u (strL (frameL B k)) ∧ Kep w' w'') := fun w' K => (A.out.kep K).rframe k hk5
      have G2 : Hid (∀ w', Kep wr w' → Calls Try.prog 27 #[refV (some ⟨Rb, 0, none⟩) 320, .int .i64 f] w' fun e w'' => ∃ u : Value, e = .returned u ∧ Str w'' u (strL (frameL B f)) ∧ Kep w' w'') := fun w' K => (A.out.kep K).rframe f hf5
      have G3 : Hid (∀ w', Kep wr w' → Calls Try.prog 28 #[.pointer (some ⟨pr, 0, none⟩), .int .i64 k] w' fun e w'' => ∃ u : Value, e = .returned u ∧ Str w'' u (strL (if k = t then frameL B f else frameL B k)) ∧ Kep w' w'') := fun w' K => by
        have := (A.out.kep K).frame k hk5
        rw [HB2.out k] at this; exact this
      have lg : Hid (∀ w', Kep wr w' → w'.cell? ⟨g, 0, none⟩ = some (.slice (some ⟨Rb, 0, none⟩) 320 320)) := fun w' K => (A.out.kep K).box
      clear HB2
      go_wp2_with fail
      refine (G1.out _ (Kep.refl _)).mono ?_
      rintro e wa ⟨u1, rfl, s1, k1⟩
      have S1 : Hid (Str wa u1 (strL (frameL B k))) := s1
      have K1 : Hid (Kep wr wa) := k1
      have c1 := lg.out _ K1.out
      clear s1 k1 c0
      by_cases hkt : k = t
      · rw [if_pos hkt] at G3
        have he : ((k : Int) == (t : Int)) = true := by simp [hkt]
        clear hkt
        go_wp2_with fail
        refine (G2.out _ K1.out).mono ?_
        rintro e wb ⟨u2, rfl, s2, k2⟩
        have S2 : Hid (Str wb u2 (strL (frameL B f))) := s2
        have K2 : Hid (Kep wr wb) := kep_trans K1.out k2
        clear s2 k2 c1
        generalize strL (frameL B f) = st at S2 G3
        have KD : Hid (Kep wr wb.drew) := K2.out.drew
        have y0 := S2.out _ ((Kep.refl wb).drew)
        go_wp2_with fail
        go_region_held (fun w' => Sem.run Try.prog (convert 23 9 u2) w' = .ok (.string st) w') (assumption) ((go_at_call 28; refine (G3.out _ KD.out).mono ?_; rintro e wc ⟨u3, rfl, s3, k3⟩; have K3 : Hid (Kep wr wc) := kep_trans KD.out k3; have y1 := s3 wc (Kep.refl _); have y2 := S2.out wc (kep_trans ((Kep.refl wb).drew) k3); clear s3 k3))
        all_goals
          go_wp2_with fail
          go_roundw
          case rel => exact ⟨k + 1, by omega, by go_num, A.out.kep K3.out⟩
          case measure => simp [intOf]; omega
      · rw [if_neg hkt] at G3
        have he : ((k : Int) == (t : Int)) = false := by simp; omega
        clear hkt
        generalize strL (frameL B k) = st at S1 G3
        have KD : Hid (Kep wr wa.drew) := K1.out.drew
        have y0 := S1.out _ ((Kep.refl wa).drew)
        clear c1
        go_wp2_with fail
        go_region_held (fun w' => Sem.run Try.prog (convert 23 9 u1) w' = .ok (.string st) w') (assumption) ((go_at_call 28; refine (G3.out _ KD.out).mono ?_; rintro e wc ⟨u3, rfl, s3, k3⟩; have K3 : Hid (Kep wr wc) := kep_trans KD.out k3; have y1 := s3 wc (Kep.refl _); have y2 := S1.out wc (kep_trans ((Kep.refl wa).drew) k3); clear s3 k3))
        all_goals
          go_wp2_with fail
          go_roundw
          case rel => exact ⟨k + 1, by omega, by go_num, A.out.kep K3.out⟩
          case measure => simp [intOf]; omega
    · obtain rfl : k = 5 := by omega
      have G2 : Hid (∀ w', Kep wr w' → Calls Try.prog 27 #[refV (some ⟨Rb, 0, none⟩) 320, .int .i64 f] w' fun e w'' => ∃ u : Value, e = .returned u ∧ Str w'' u (strL (frameL B f)) ∧ Kep w' w'') := fun w' K => (A.out.kep K).rframe f hf5
      obtain ⟨lo, hlo⟩ : ∃ lo : Nat, Hid (lo = 64 * b) := ⟨_, rfl⟩
      obtain ⟨hi, hhi⟩ : ∃ hi : Nat, Hid (hi = 64 * b + 64) := ⟨_, rfl⟩
      have G4 : Hid (∀ w', Kep wr w' → Calls Try.prog 18 #[.pointer (some ⟨p, 0, none⟩)] w' fun e w'' => ∃ (q off cap : Nat), e = .returned (.slice (some ⟨q, off, none⟩) 512 cap) ∧ (hi ≤ cap ∧ (cap = lo) = False ∧ (hi : Int) ≤ cap) ∧ (∀ w, (Instr.slice 23 (.slice (some ⟨q, off, none⟩) 512 cap) (some (.int .u32 (lo : Int))) (some (.int .u32 (hi : Int))) none).run Try.prog w = .ok (.slice (some ⟨q, off + lo, none⟩) 64 (cap - lo)) w) ∧ Str w'' (.slice (some ⟨q, off + lo, none⟩) 64 (cap - lo)) (strL (frameL B f)) ∧ Kep w' w'') := fun w' K => by
        refine ((A.out.kep K).disk hD1l.out).mono ?_
        rintro e w'' ⟨q, off, cap, rfl, h1, h2, hl, k''⟩
        have h3 := cut_mid q off cap b hb8 h1
        have h4 := mid_str (D := D1) (cap := cap - 64 * b) hl hD1l.out hb8
        rw [hD1b.out] at h4
        rw [hlo.out, hhi.out]
        refine ⟨q, off, cap, rfl, ⟨by omega, eq_false (by omega), by omega⟩, ?_, ?_, k''⟩
        · intro w; have := h3 w; rw [show ((64 * b : Nat) : Int) = 64 * (b : Int) by omega, show ((64 * b + 64 : Nat) : Int) = 64 * (b : Int) + 64 by omega]; exact this
        · exact h4
      have lg : Hid (∀ w', Kep wr w' → w'.cell? ⟨g, 0, none⟩ = some (.slice (some ⟨Rb, 0, none⟩) 320 320)) := fun w' K => (A.out.kep K).box
      have KA : Hid (Kep w wr) := A.out.world
      generalize strL (frameL B f) = st at G2 G4
      have KD : Hid (Kep wr wr.drew) := (Kep.refl _).drew
      have y0 := lg.out _ KD.out
      have b1 : 64 * (b : Int) = (lo : Int) := by have := hlo.out; omega
      have b2 : (lo : Int) + 64 = (hi : Int) := by have := hlo.out; have := hhi.out; omega
      have b3 : (hi : Int) ≤ 512 := by have := hhi.out; omega
      have b4 : lo ≤ hi := by have := hlo.out; have := hhi.out; omega
      have b5 : (lo : Int) ≤ 448 := by have := hlo.out; omega
      have b6 : IntKind.u32.wrap (lo : Int) = lo := by rw [IntKind.wrap_u32]; omega
      have b7 : IntKind.u32.wrap (hi : Int) = hi := by rw [IntKind.wrap_u32]; omega
      have b10 : (lo : Int) ≤ hi := by omega
      have b11 : IntKind.i64.wrap (f : Int) = f := by rw [IntKind.wrap_i64]; omega
      clear c0 HB2 hD1l hD1b A hlt hk hlo hhi
      go_wp2_with fail
      go_region_held (fun w' => w'.cell? ⟨g, 0, none⟩ = some (.slice (some ⟨Rb, 0, none⟩) 320 320)) (assumption) (first
        | (go_at_call 18; refine (G4.out _ KD.out).mono ?_; rintro e wa ⟨q, off, cap, rfl, ⟨hc1, hc2, hc3⟩, hsl, s1, k1⟩; have K1 : Hid (Kep wr wa) := kep_trans KD.out k1; have S1 : Hid (Str wa (.slice (some ⟨q, off + lo, none⟩) 64 (cap - lo)) st) := s1; have x1 := s1 wa (Kep.refl _); have y1 := lg.out _ K1.out; clear s1 k1)
        | (go_at_call 27; refine (G2.out _ K1.out).mono ?_; rintro e wb ⟨u2, rfl, s2, k2⟩; have K2 : Hid (Kep wr wb) := kep_trans K1.out k2; have x2 := s2 wb (Kep.refl _); have x3 := S1.out wb k2; have y2 := lg.out _ K2.out; clear s2 k2)
        | (go_at_call 11; refine (hM.out _).mono ?_; rintro e wc ⟨rfl, k3⟩; have K3 : Hid (Kep wr wc) := kep_trans K2.out k3; have y3 := lg.out _ K3.out; clear k3))
      all_goals
        go_wp2_with fail
        go_ret
        exact ⟨rfl, kep_trans KA.out K3.out⟩

set_option maxRecDepth 100000 in
theorem lifted (os : Os) (started : os.Started) (H : Type) (enc : TypeId × Value → H) :
    ReturnsInHanded {} Try.checked os 8 .any (Rows.devBlocksSpec.pre6 enc Try.prog Try.f8 Rows.devBlocksRow.domain false) (Rows.devBlocksSpec.post enc Try.prog Try.f8 false true false false) := by
  refine returnsInHanded_of_change (C := Try.checked) own started (by kernel_rfl) Try.func8
    (ChangeSpec.witness6 (enc := enc) (C := Try.checked) false ⟨#[], #[.int .u8 0, .int .u8 0, .int .u8 0], []⟩ 8 (by kernel_rfl) (by kernel_rfl) (by kernel_rfl) (by kernel_rfl)) ?_
  intro W base args ds gs before hval0 hW hcnd _
  have hval : ∀ (j : Nat) t v, Try.f8.params[j]? = some t → args[j]? = some v → Value.okWide Try.prog W .any base t v := hval0
  have hW' := hW
  obtain ⟨p, q, hA0, hV, rfl, hfz, hnd⟩ := hW
  have hA : DataW.TrodAll enc Try.prog W 0 (fun _ => true) true Try.f8.params.toList args.toList ds p := hA0
  rw [Try.params8] at hA hval
  obtain ⟨v0, vs0, d0, ds0, p0, q0, hargs, rfl, rfl, h0, r0⟩ := trodAll_cons hA
  obtain ⟨v1, vs1, d1, ds1, p1, q1, rfl, rfl, rfl, h1, r1⟩ := trodAll_cons r0
  obtain ⟨v2, vs2, d2, ds2, p2, q2, rfl, rfl, rfl, h2, r2⟩ := trodAll_cons r1
  obtain ⟨rfl, rfl, rfl⟩ := trodAll_nil r2
  obtain rfl : args = #[v0, v1, v2] := by cases args; simp_all
  obtain ⟨rfl, rfl⟩ := trodVars_none hV
  have k0 := h0
  have lt0 : ∀ x ∈ p0, x.block < W.heap.size := by obtain ⟨m, hm⟩ := k0; exact DataW.trod_lt m _ _ _ hm
  obtain ⟨a0, rfl, rfl, rfl, w0⟩ := open_int Try.underlying5 (hval 0 5 v0 rfl rfl) h0
  have k1 := h1
  have lt1 : ∀ x ∈ p1, x.block < W.heap.size := by obtain ⟨m, hm⟩ := k1; exact DataW.trod_lt m _ _ _ hm
  obtain ⟨a1, rfl, rfl, rfl, w1⟩ := open_int Try.underlying5 (hval 1 5 v1 rfl rfl) h1
  have k2 := h2
  have lt2 : ∀ x ∈ p2, x.block < W.heap.size := by obtain ⟨m, hm⟩ := k2; exact DataW.trod_lt m _ _ _ hm
  obtain ⟨a2, rfl, rfl, rfl, w2⟩ := open_int Try.underlying5 (hval 2 5 v2 rfl rfl) h2
  clear hA0 hval0
  refine (walk a0 w0 a1 w1 a2 w2 W ).mono fun e W' ⟨he, bel0⟩ => ?_
  have bel : Below W.heap.size W W' := bel0
  subst he
  exact ⟨_, rfl, _, _, _, [], _, [], hW', trodAll_mk1 (shut_bool Try.underlying4 _), (trodAll_cons_mk (Below.trod laidOut (by kernel_rfl) (of_decide_eq_true (by kernel_rfl)) k0 bel lt0) (trodAll_cons_mk (Below.trod laidOut (by kernel_rfl) (of_decide_eq_true (by kernel_rfl)) k1 bel lt1) (trodAll_cons_mk (Below.trod laidOut (by kernel_rfl) (of_decide_eq_true (by kernel_rfl)) k2 bel lt2) trodAll_mk0))), rfl, bel.frame _, fun h => by cases h⟩

theorem over : Rows.devBlocksRow.holds Try.pinned (OpenSpec.ofChange Rows.devBlocksSpec) :=
  OpenClaim.holds_of_wide 8 Try.f8 rfl rfl rfl rfl rfl rfl rfl ⟨rfl, rfl, rfl, rfl, rfl⟩ rfl rfl rfl rfl rfl (by kernel_rfl) Try.func8 (by kernel_rfl)
    (of_decide_eq_true (by kernel_rfl)) (by unfold Func.isWrapper; first | (rw [if_pos (by decide +kernel)]; kernel_rfl) | (rw [if_neg (by decide +kernel)]; exact ⟨rfl, rfl⟩))
    (fun os started H enc _ => lifted os started H enc)
end Go.Proofs.Ytpieeefeicdfgaa.devBlocks
namespace Go.Proofs.Ytpieeefeicdfgaa

theorem devBlocks_holds : Rows.DevBlocksSaid := devBlocks.over
#print axioms devBlocks_holds
end Go.Proofs.Ytpieeefeicdfgaa
