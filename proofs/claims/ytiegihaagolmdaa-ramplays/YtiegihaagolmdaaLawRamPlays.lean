/- For every number of frames and every row of steps, the law RamPlays returns true: whatever is laid and asked, in whatever order, a memory answers as the document's does; a copy is one of its own. -/
import Derived.Test.YtiegihaagolmdaaRows
import Derived.Test.YtiegihaagolmdaaMopen
import Derived.WalkKit
import Derived.ProofKit
import Derived.OpenShut
import Derived.ShutString
import Derived.ChangeOld
import Derived.Below
import Derived.Lib.SmallJoins
namespace Go.Proofs.Ytiegihaagolmdaa.ramPlays
open Go.ChangeShapes Go.WideShapes Go.ChangeAt Go.RowKit
set_option linter.unusedVariables false

theorem own : ownKnob Try.prog.godebug = none := by kernel_rfl
theorem laidOut : laidOutB Try.prog = true := by kernel_rfl

theorem two_own {w w' : World} {v c : Value} {R n : Nat} {x : Option Addr} {Rb R' : Nat} {B : List Int} (T : Two w v R n x Rb B) (O : Own w w' c R' n B) : Two w' c R' n x Rb B := by
  have hne : B ≠ [] := by intro e; have := T.len; have := O.pos; rw [e] at *; simp at *; omega
  have r := (T.kep O.kep).ref
  exact ⟨O.ram, O.row, r, O.len, O.byts, fun e => by have := T.lRb; have := O.ge; omega, O.le, off_of O.ram r.row hne, O.row.lt hne, r.row.lt hne⟩
theorem lay_byte (w : World) (c : Value) (R n : Nat) (C : List Int) (hr : Ram w c R (List.range n)) (hn : n ≤ 512) (hw : RowB w R C) (hl : C.length = 64 * n) (a : Nat) (ha : (a : Int) < 4294967296) (b : Int) :
    Calls Try.prog 12 #[c, .int .u32 a, .int .u8 b] w fun e w' => ∃ ok : Bool, e = .returned (.bool ok) ∧ Put [R] w w' ∧ ∃ D, RowB w' R D ∧ D.length = 64 * n := by
  refine (setByte_put w c R _ C hr (by simp; omega) hw (fits_range hl) a ha b).mono ?_
  rintro e w' ⟨rfl, P, W⟩
  exact ⟨_, rfl, P, _, W, by split <;> simp [hl]⟩
theorem lay_word (w : World) (c : Value) (R n : Nat) (C : List Int) (hr : Ram w c R (List.range n)) (hn : n ≤ 512) (hw : RowB w R C) (hl : C.length = 64 * n) (a : Nat) (ha : (a : Int) < 4294967296) (b : Int) (b0 : 0 ≤ b) (b1 : b < 4294967296) :
    Calls Try.prog 13 #[c, .int .u32 a, .int .u32 b] w fun e w' => ∃ ok : Bool, e = .returned (.bool ok) ∧ Put [R] w w' := by
  refine (setWord_put w c R _ C hr (by simp; omega) hw (fits_range hl) a ha b b0 b1).mono ?_
  rintro e w' ⟨rfl, P, W⟩
  exact ⟨_, rfl, P⟩

set_option maxHeartbeats 4000000 in
set_option maxRecDepth 100000 in
theorem walk (a0 : Int) (w0 : (Lit.int .i64 a0).wf = true) (x1 : Option Addr) (len1 cap1 : Nat) (w : World) (w1 : StepRow w x1 len1 cap1) :
    Calls Try.prog 3 #[.int .i64 a0, .slice x1 len1 cap1] w fun e w' => e = .returned (.bool true) ∧ Kep w w' := by
  have b0 := i64_of w0
  have hM : Hid (Calls Try.prog 9 #[.int .i64 a0] w _) := made_any w a0 b0.1 b0.2
  have hI : Hid (StepRow w x1 len1 cap1) := w1
  have hlen : (len1 : Int) ≤ 9223372036854775807 := by
    rcases w1 with h | ⟨_, _, _, h1, h2, _⟩
    · omega
    · unfold maxLen at h2; omega
  clear w0 w1 b0
  go_enter Try.func3, Try.ntmps3
  go_wp2_with fail
  refine hM.out.mono ?_
  rintro e w1 ⟨n, p, R, Rb, rfl, hn1, hn2, T, K1, gR, gRb⟩
  have T1 : Hid (Two w1 (.pointer (some ⟨p, 0, none⟩)) R n (some ⟨Rb, 0, none⟩) Rb (List.replicate (64 * n) 0)) := T
  have K1' : Hid (Kep w w1) := K1
  clear T K1 hM
  go_wp2_with fail
  go_loopw [7] (fun i wr => ∃ k : Nat, (k : Int) ≤ len1 ∧ (k : Int) ≤ 100 ∧ i = .int .i64 k ∧ Hid (Put [R, Rb] (w1.alloc (.cells #[.slice (some ⟨Rb, 0, none⟩) (64 * n) (64 * n)] 26)) wr ∧ ∃ B, Two wr (.pointer (some ⟨p, 0, none⟩)) R n (some ⟨Rb, 0, none⟩) Rb B)) (fun i _ => 200 - (intOf i).toNat)
  case atStart => exact ⟨0, by omega, by omega, rfl, Put.refl _, _, T1.out.kep ((Kep.refl _).alloc _)⟩
  case round =>
    obtain ⟨k, hk1, hk2, rfl, hP⟩ := hrel
    obtain ⟨P, B, T⟩ := hP.out
    have bx : wr.heap[w1.heap.size]? = some (.cells #[.slice (some ⟨Rb, 0, none⟩) (64 * n) (64 * n)] 26 (0, 0)) := P.keeps (hat _ _ _ rfl) (nm2 (by have := T1.out.lR; omega) (by have := T1.out.lRb; omega))
    have cx : wr.cell? ⟨w1.heap.size, 0, none⟩ = some (.slice (some ⟨Rb, 0, none⟩) (64 * n) (64 * n)) := by rw [cell_of_block bx]; rfl
    have lx := block_lt bx
    have KW : Hid (Kep w wr) := (K1'.out.alloc _).put P (by simp; omega)
    have T' : Hid (Two wr (.pointer (some ⟨p, 0, none⟩)) R n (some ⟨Rb, 0, none⟩) Rb B) := T
    have P' : Hid (Put [R, Rb] (w1.alloc (.cells #[.slice (some ⟨Rb, 0, none⟩) (64 * n) (64 * n)] 26)) wr) := P
    have hBl : Hid (B.length = 64 * n) := T.len
    have xR : w1.heap.size ≠ R := by have := T1.out.lR; omega
    have xRb : w1.heap.size ≠ Rb := by have := T1.out.lRb; omega
    clear hP T P bx
    by_cases hend : (k : Int) < len1 ∧ (k : Int) < 100
    · obtain ⟨hl, h100⟩ := hend
      rcases hI.out with h0 | ⟨b, off, hx, g1, g2, g3, g4⟩
      · omega
      obtain ⟨kd, a, z, sx, l, c, m, zs, hcells, st⟩ := g4 k (by omega)
      subst hx
      have hcap : (len1 : Int) ≤ cap1 := by omega
      have m0 : w.cell? ⟨b, off + k * 5, none⟩ = some (.int .i64 kd) := hcells 0 (by omega)
      have m1 : w.cell? ⟨b, off + k * 5 + 1, none⟩ = some (.int .u32 a) := hcells 1 (by omega)
      have m2 : w.cell? ⟨b, off + k * 5 + 2, none⟩ = some (.int .u32 z) := hcells 2 (by omega)
      have m3 : w.cell? ⟨b, off + k * 5 + 3, none⟩ = some (.slice sx l c) := hcells 3 (by omega)
      have m4 : w.cell? ⟨b, off + k * 5 + 4, none⟩ = some (.int .i64 m) := hcells 4 (by omega)
      have x0 := (KW.out.cell g3).trans m0
      have x1 := (KW.out.cell g3).trans m1
      have x2 := (KW.out.cell g3).trans m2
      have x3 := (KW.out.cell g3).trans m3
      have x4 := (KW.out.cell g3).trans m4
      have lb : b < wr.heap.size := KW.out.lt g3
      have bR : b ≠ R := by omega
      have bRb : b ≠ Rb := by omega
      have st' : Hid (IsStep w kd a z sx l c m zs) := st
      clear g4 hcells m0 m1 m2 m3 m4 st
      by_cases hkd : kd = 6
      · subst hkd
        have hne : List.range n ≠ [] := by intro e; have := congrArg List.length e; simp at this; omega
        have HC : Hid (Calls Try.prog 10 #[.pointer (some ⟨p, 0, none⟩)] wr fun e w' => ∃ p' : Nat, e = .returned (.pointer (some ⟨p', 0, none⟩)) ∧ Own wr w' (.pointer (some ⟨p', 0, none⟩)) wr.heap.size n B) := by
          have := copy_any wr _ R _ B T'.out.ram hne (by simp; omega) T'.out.row (fits_range T'.out.len) T'.out.byts
          rw [view_all T'.out.len, List.length_range] at this
          exact this
        go_wp2_with fail
        refine HC.out.mono ?_
        rintro e w4 ⟨p', rfl, O⟩
        have O4 : Hid (Own wr w4 (.pointer (some ⟨p', 0, none⟩)) wr.heap.size n B) := O
        have T4 : Hid (Two w4 (.pointer (some ⟨p', 0, none⟩)) wr.heap.size n (some ⟨Rb, 0, none⟩) Rb B) := two_own T'.out O
        have HE : Hid (Calls Try.prog 11 #[.pointer (some ⟨p', 0, none⟩), .agg #[.slice (some ⟨Rb, 0, none⟩) (64 * n) (64 * n)]] w4 fun e w' => e = .returned (.bool true) ∧ Kep w4 w') := by
          have := same_any w4 _ _ n _ Rb B T4.out
          rw [hBl.out] at this
          exact this
        have v0 := (O.kep.cell (o := 0) lx).trans cx
        have v2 := (O.kep.cell (o := off + k * 5 + 2) lb).trans x2
        clear O HC cx x0 x1 x2 x3 x4
        go_wp2_with fail
        refine HE.out.mono ?_
        rintro e w5 ⟨rfl, k5⟩
        have K5 : Hid (Kep wr w5) := kep_trans O4.out.kep k5
        have T5 : Hid (Two w5 (.pointer (some ⟨p', 0, none⟩)) wr.heap.size n (some ⟨Rb, 0, none⟩) Rb B) := T4.out.kep k5
        have v2' := (k5.cell (o := off + k * 5 + 2) (O4.out.kep.lt lb)).trans v2
        have hz0 := st'.out.z0
        have hz1 := st'.out.z1
        have HB : Hid (∀ b : Int, Calls Try.prog 12 #[.pointer (some ⟨p', 0, none⟩), .int .u32 0, .int .u8 b] w5 fun e w' => ∃ ok : Bool, e = .returned (.bool ok) ∧ Put [wr.heap.size] w5 w' ∧ ∃ D, RowB w' wr.heap.size D ∧ D.length = 64 * n) := fun b => lay_byte w5 _ _ n B T5.out.ram T5.out.le T5.out.row T5.out.len 0 (by decide) b
        clear k5 HE v0 v2
        go_wp2_with fail
        refine (HB.out _).mono ?_
        rintro e w6 ⟨ok6, rfl, p6, D, r6, l6⟩
        have P6 : Hid (Put [wr.heap.size] w5 w6) := p6
        have HWd : Hid (Calls Try.prog 13 #[.pointer (some ⟨p', 0, none⟩), .int .u32 60, .int .u32 z] w6 fun e w' => ∃ ok : Bool, e = .returned (.bool ok) ∧ Put [wr.heap.size] w6 w') := lay_word w6 _ _ n D (T5.out.ram.put p6) T5.out.le r6 l6 60 (by decide) z hz0 hz1
        have v2'' := (p6.cell (o := off + k * 5 + 2) (K5.out.lt lb) (by simp; omega)).trans v2'
        clear p6 r6 l6 HB v2'
        go_wp2_with fail
        refine HWd.out.mono ?_
        rintro e w7 ⟨ok7, rfl, p7⟩
        have K7 : Hid (Kep wr w7) := (K5.out.put P6.out (by simp)).put p7 (by simp)
        clear p7 HWd v2''
        go_wp2_with fail
        go_roundw
        case rel => exact ⟨k + 1, by omega, by omega, by go_num, P'.out.trans (Put.of_kep K7.out), B, T'.out.kep K7.out⟩
        case measure => simp [intOf]; omega
      · have hk6 : (kd == 6) = false := by simpa using hkd
        have HT : Hid (Calls Try.prog 14 #[.pointer (some ⟨p, 0, none⟩), .agg #[.slice (some ⟨Rb, 0, none⟩) (64 * n) (64 * n)], .agg #[.int .i64 kd, .int .u32 a, .int .u32 z, .slice sx l c, .int .i64 m]] wr.drew fun e w' => e = .returned (.bool true) ∧ ∃ C, Two w' (.pointer (some ⟨p, 0, none⟩)) R n (some ⟨Rb, 0, none⟩) Rb C ∧ Put [R, Rb] wr.drew w') := by
          have s := st'.out
          have hs : Src wr.drew sx zs [R, Rb] := (s.sl.2.2.2.1.more (l := [R, Rb]) (by simp; omega)).put (Put.of_kep KW.out.drew)
          have := step_any wr.drew _ R n _ Rb B (T'.out.kep (Kep.refl _).drew) kd a z m s.a0 s.a1 s.z0 s.z1 sx l c zs s.sl.1 s.sl.2.1 s.sl.2.2.1 hs s.sl.2.2.2.2
          rw [hBl.out] at this
          exact this
        go_wp2_with fail
        go_region_held3 (fun w' => w'.cell? ⟨w1.heap.size, 0, none⟩ = some (.slice (some ⟨Rb, 0, none⟩) (64 * n) (64 * n)) ∧ w'.cell? ⟨b, off + k * 5, none⟩ = some (.int .i64 kd) ∧ w'.cell? ⟨b, off + k * 5 + 1, none⟩ = some (.int .u32 a) ∧ w'.cell? ⟨b, off + k * 5 + 2, none⟩ = some (.int .u32 z) ∧ w'.cell? ⟨b, off + k * 5 + 3, none⟩ = some (.slice sx l c) ∧ w'.cell? ⟨b, off + k * 5 + 4, none⟩ = some (.int .i64 m)) (first | assumption | (go_keep; done)) (first
          | (go_at_call 14; refine HT.out.mono ?_; rintro e w4 ⟨rfl, C, T4, P4⟩; have q0 := (P4.cell (o := 0) lx (nm2 xR xRb)).trans cx; have y0 := (P4.cell (o := off + k * 5) lb (nm2 bR bRb)).trans x0; have y1 := (P4.cell (o := off + k * 5 + 1) lb (nm2 bR bRb)).trans x1; have y2 := (P4.cell (o := off + k * 5 + 2) lb (nm2 bR bRb)).trans x2; have y3 := (P4.cell (o := off + k * 5 + 3) lb (nm2 bR bRb)).trans x3; have y4 := (P4.cell (o := off + k * 5 + 4) lb (nm2 bR bRb)).trans x4; have Q4 : Hid (Two w4 (.pointer (some ⟨p, 0, none⟩)) R n (some ⟨Rb, 0, none⟩) Rb C ∧ Put [R, Rb] wr.drew w4) := ⟨T4, P4⟩; clear T4 P4))
        all_goals
          go_wp2_with fail
          go_roundw
          case rel => exact ⟨k + 1, by omega, by omega, by go_num, (P'.out.trans (Put.of_kep (Kep.refl _).drew)).trans Q4.out.2, C, Q4.out.1⟩
          case measure => simp [intOf]; omega
    · have HE : Hid (Calls Try.prog 11 #[.pointer (some ⟨p, 0, none⟩), .agg #[.slice (some ⟨Rb, 0, none⟩) (64 * n) (64 * n)]] wr fun e w' => e = .returned (.bool true) ∧ Kep wr w') := by
        have := same_any wr _ R n _ Rb B T'.out
        rw [hBl.out] at this
        exact this
      rcases (by omega : ¬ (k : Int) < len1 ∨ ((k : Int) < len1 ∧ ¬ (k : Int) < 100)) with hq | ⟨hq, hq'⟩
      all_goals
        go_wp2_with fail
        refine HE.out.mono ?_
        rintro e w5 ⟨rfl, k5⟩
        have K5 : Hid (Kep w w5) := kep_trans KW.out k5
        clear k5
        go_wp2_with fail
        go_ret
        exact ⟨rfl, K5.out⟩

set_option maxRecDepth 100000 in
theorem lifted (os : Os) (started : os.Started) (H : Type) (enc : TypeId × Value → H) :
    ReturnsInHanded {} Try.checked os 3 .any (Rows.ramPlaysSpec.pre6 enc Try.prog Try.f3 Rows.ramPlaysRow.domain false) (Rows.ramPlaysSpec.post enc Try.prog Try.f3 false true false false) := by
  refine returnsInHanded_of_change (C := Try.checked) own started (by kernel_rfl) Try.func3
    (ChangeSpec.witness6 (enc := enc) (C := Try.checked) false ⟨#[], #[.int .i64 0, .slice none 0 0], []⟩ 8 (by kernel_rfl) (by kernel_rfl) (by kernel_rfl) (by kernel_rfl)) ?_
  intro W base args ds gs before hval0 hW hcnd _
  have hval : ∀ (j : Nat) t v, Try.f3.params[j]? = some t → args[j]? = some v → Value.okWide Try.prog W .any base t v := hval0
  have hW' := hW
  obtain ⟨p, q, hA0, hV, rfl, hfz, hnd⟩ := hW
  have hA : DataW.TrodAll enc Try.prog W 0 (fun _ => true) true Try.f3.params.toList args.toList ds p := hA0
  rw [Try.params3] at hA hval
  obtain ⟨v0, vs0, d0, ds0, p0, q0, hargs, rfl, rfl, h0, r0⟩ := trodAll_cons hA
  obtain ⟨v1, vs1, d1, ds1, p1, q1, rfl, rfl, rfl, h1, r1⟩ := trodAll_cons r0
  obtain ⟨rfl, rfl, rfl⟩ := trodAll_nil r1
  obtain rfl : args = #[v0, v1] := by cases args; simp_all
  obtain ⟨rfl, rfl⟩ := trodVars_none hV
  have k0 := h0
  have lt0 : ∀ x ∈ p0, x.block < W.heap.size := by obtain ⟨m, hm⟩ := k0; exact DataW.trod_lt m _ _ _ hm
  obtain ⟨a0, rfl, rfl, rfl, w0⟩ := open_int Try.underlying3 (hval 0 3 v0 rfl rfl) h0
  have k1 := h1
  have lt1 : ∀ x ∈ p1, x.block < W.heap.size := by obtain ⟨m, hm⟩ := k1; exact DataW.trod_lt m _ _ _ hm
  obtain ⟨x1, len1, cap1, rfl⟩ := okWide_slice Try.underlying22 (hval 1 22 v1 rfl rfl)
  have w1 : StepRow W x1 len1 cap1 := by
    obtain ⟨fuel, hf⟩ := h1
    exact steps_of hf
  clear hA0 hval0
  refine (walk a0 w0 x1 len1 cap1 W w1).mono fun e W' ⟨he, bel0⟩ => ?_
  have bel : Below W.heap.size W W' := bel0
  subst he
  exact ⟨_, rfl, _, _, _, [], _, [], hW', trodAll_mk1 (shut_bool Try.underlying4 _), (trodAll_cons_mk (Below.trod laidOut (by kernel_rfl) (of_decide_eq_true (by kernel_rfl)) k0 bel lt0) (trodAll_cons_mk (Below.trod laidOut (by kernel_rfl) (of_decide_eq_true (by kernel_rfl)) k1 bel lt1) trodAll_mk0)), rfl, bel.frame _, fun h => by cases h⟩

theorem over : Rows.ramPlaysRow.holds Try.pinned (OpenSpec.ofChange Rows.ramPlaysSpec) :=
  OpenClaim.holds_of_wide 3 Try.f3 rfl rfl rfl rfl rfl rfl rfl ⟨rfl, rfl, rfl, rfl, rfl⟩ rfl rfl rfl rfl rfl (by kernel_rfl) Try.func3 (by kernel_rfl)
    (of_decide_eq_true (by kernel_rfl)) (by unfold Func.isWrapper; first | (rw [if_pos (by decide +kernel)]; kernel_rfl) | (rw [if_neg (by decide +kernel)]; exact ⟨rfl, rfl⟩))
    (fun os started H enc _ => lifted os started H enc)
end Go.Proofs.Ytiegihaagolmdaa.ramPlays
namespace Go.Proofs.Ytiegihaagolmdaa

theorem ramPlays_holds : Rows.RamPlaysSaid := ramPlays.over
#print axioms ramPlays_holds
end Go.Proofs.Ytiegihaagolmdaa
