/- For every number of slots and every row of steps, the law TlbPlays returns true: whatever is put, dropped, flushed and looked up, a TLB answers and counts as the document says. -/
import Derived.Test.YtekcknkfpecppaaRows
import Derived.Test.YtekcknkfpecppaaUplay
import Derived.WalkKit
import Derived.ProofKit
import Derived.OpenShut
import Derived.ShutString
import Derived.ChangeOld
import Derived.Below
import Derived.Lib.SmallJoins
namespace Go.Proofs.Ytekcknkfpecppaa.tlbPlays
open Go.ChangeShapes Go.WideShapes Go.ChangeAt Go.RowKit
set_option linter.unusedVariables false

theorem own : ownKnob Try.prog.godebug = none := by kernel_rfl
theorem laidOut : laidOutB Try.prog = true := by kernel_rfl

set_option maxHeartbeats 4000000 in
set_option maxRecDepth 100000 in
theorem walk (a0 : Int) (w0 : (Lit.int .i64 a0).wf = true) (x1 : Option Addr) (len1 cap1 : Nat) (z1 : List St) (w : World) (w1 : StRow w x1 len1 cap1 z1) :
    Calls Try.prog 3 #[.int .i64 a0, .slice x1 len1 cap1] w fun e w' => e = .returned (.bool true) ∧ Kep w w' := by
  have b0 := i64_of w0
  have hM : Hid (Calls Try.prog 8 #[.int .i64 a0] w _) := made_own w a0 b0.1 b0.2
  have hI : Hid (StRow w x1 len1 cap1 z1) := w1
  have hlen : (len1 : Int) ≤ 9223372036854775807 := by
    obtain ⟨h1, _, h3⟩ := w1
    rcases h3 with rfl | ⟨_, _, _, h4, h5, _⟩
    · simp at h1; omega
    · unfold maxLen at h5; omega
  obtain ⟨i5, hi5, hz0, hz1, hz2⟩ := info_parts info_done
  clear w0 w1 b0
  go_enter Try.func3, Try.ntmps3
  go_wp2_with fail
  refine hM.out.mono ?_
  rintro e w1 ⟨n, p, R, rfl, hn1, hn9, k1, t1, gp, gR⟩
  have M1 : Hid (Mid w1 w1 p R n (.slice none 0 0) (List.replicate n none) [] 0 0) := ⟨Put.refl _, .none _, t1, by simp, fun page => by rw [lookS_none]; rfl, by simp, World.ownsRow_nil _ _ _ _, block_lt t1.box, block_lt t1.row⟩
  have K1 : Hid (Kep w w1 ∧ w.heap.size ≤ p ∧ w.heap.size ≤ R) := ⟨k1, gp, gR⟩
  have gn : (n : Int) ≤ 9 := by omega
  have hn : Hid (1 ≤ n) := hn1
  clear hM t1 k1 gp gR hn1 hn9
  go_wp2_with fail
  go_loopw [7, 8, 9, 10] (fun v hv mv i wr => ∃ (k : Nat) (h m : Int), (k : Int) ≤ len1 ∧ (k : Int) ≤ 100 ∧ hv = .int .i64 h ∧ mv = .int .i64 m ∧ i = .int .i64 k ∧ 0 ≤ h ∧ h ≤ k ∧ 0 ≤ m ∧ m ≤ k ∧ Hid (∃ S D, Mid w1 wr p R n v S D h m ∧ D.length ≤ k)) (fun _ _ _ i _ => 200 - (intOf i).toNat)
  case atStart => exact ⟨0, 0, 0, by omega, by omega, rfl, rfl, rfl, by omega, by omega, by omega, by omega, _, _, M1.out, by simp⟩
  case round =>
    obtain ⟨k, h, m, hk1, hk2, rfl, rfl, rfl, h0, h1, m0, m1, hP⟩ := hrel
    obtain ⟨S, D, M0, hDk⟩ := hP.out
    have M : Hid (Mid w1 wr p R n u7 S D h m) := M0
    have KW : Kep w wr := K1.out.1.put M0.put (by have := K1.out.2; simp; omega)
    have KW' : Hid (Kep w wr) := KW
    have hD : Hid (D.length ≤ k) := hDk
    clear hP M1 hDk
    by_cases hend : (k : Int) < len1 ∧ (k : Int) < 100
    · obtain ⟨hl, h100⟩ := hend
      obtain ⟨b, off, ⟨kd, xp, xb, xf⟩, _, hxp, hx, hcap0, lb, q0, q1, q2, q3⟩ := hI.out.at (k := k) (by omega)
      subst hx
      have hcap : (len1 : Int) ≤ cap1 := by omega
      simp only at q0 q1 q2 q3 hxp
      have x0 := (KW.cell lb).trans q0
      have x1 := (KW.cell lb).trans q1
      have x2 := (KW.cell lb).trans q2
      have x3 := (KW.cell lb).trans q3
      have N1 : Hid (w1.heap.size ≤ wr.heap.size) := M0.put.size
      clear q0 q1 q2 q3 KW hcap0 M0
      go_wp2_with fail
      refine (do_any (M.out.tlb.kep ((Kep.refl _).alloc _)) M.out.ok kd xp hxp xb xf).mono ?_
      rintro e w3 ⟨rfl, p3, t3⟩
      have hlR := M.out.lR
      have c : ∀ j, w3.cell? ⟨wr.heap.size, j, none⟩ = _ := fun j => (p3.cell (o := j) (by simp) (by have := N1.out; simp; omega)).trans (cell_of_block (hat _ _ _ rfl))
      have c0 := c 0
      have c1 := c 1
      have c2 := c 2
      have c3 := c 3
      simp at c0 c1 c2 c3
      have l3 : wr.heap.size < w3.heap.size := World.block_lt_of_cell? _ _ c0
      have P3 : Hid (Put [R] wr w3 ∧ Tlb w3 p R (stepS S kd xp xb xf) h m) := ⟨(Put.of_kep ((Kep.refl _).alloc _)).trans p3, t3⟩
      clear c p3 t3 x0 x1 x2 x3 hlR
      by_cases hin : 0 ≤ kd ∧ kd ≤ 2
      · obtain ⟨hin1, hin2⟩ := hin
        have HA : Hid (∀ v5 w5, w5.ownsRow w1.heap.size 31 4 v5 (D.length + 1) (D.flatMap stC ++ stC ⟨kd, xp, xb, xf⟩) → (w3.alloc (.cells #[.int .i64 kd, .int .u32 (xp : Int), .int .u32 xb, .int .i64 xf] 31)).grownBy w5 u7.ownBlock →
            w5.cell? ⟨wr.heap.size, 1, none⟩ = some (.int .u32 xp) ∧ ∃ xx ll cc, v5 = .slice xx ll cc ∧ Hid (Mid w1 w5 p R n (.slice xx ll cc) (stepS S kd xp xb xf) (D ++ [⟨kd, xp, xb, xf⟩]) h m)) := by
          intro v5 w5 ho hg
          obtain ⟨M5, hc⟩ := M.out.more hn.out ⟨kd, xp, xb, xf⟩ hxp P3.out.1 P3.out.2 ((Kep.refl _).alloc _) ho hg
          refine ⟨(hc _ _ (by simp; omega) (fun e => ?_)).trans ((cell_old l3).trans c1), ?_⟩
          · have := (M.out.own.lt _ e).2
            omega
          · obtain ⟨x, cp, e, _⟩ := own_row M5.own M5.hp
            subst e
            exact ⟨_, _, _, rfl, M5⟩
        have hO : Hid (∀ o, ((w3.alloc o).ownsRow w1.heap.size 31 4 u7 D.length (D.flatMap stC)) ∧ w1.heap.size ≤ (w3.alloc o).heap.size) := fun o => by
          have l1 := N1.out
          have hlR := M.out.lR
          refine ⟨(own_put M.out.own P3.out.1 (by simpa using hlR)).alloc _, by simp; omega⟩
        have hml : D.length + 1 ≤ maxLen := by have := hD.out; unfold maxLen; omega
        have hmb : (D.length + 1) * 24 ≤ 140737488355328 := by have := hD.out; omega
        have n4 : Hid (∀ j u, (stC ⟨kd, xp, xb, xf⟩)[j]? = some u → (w3.alloc (.cells #[.int .i64 kd, .int .u32 (xp : Int), .int .u32 xb, .int .i64 xf] 31)).cell? ((⟨w3.heap.size, 0, none⟩ : Addr).add j) = some u) := new4 w3 ⟨kd, xp, xb, xf⟩
        go_wp2_with (at_builtin; (refine wpList_append_own _ rfl _ _ 26 rfl w1.heap.size 31 i5 (.agg #[.int .i64 0, .int .u32 0, .int .u32 0, .int .i64 0]) 4 24 Try.underlying26 hi5 hz0 hz1 hz2 rfl (by decide) u7 D.length (D.flatMap stC) rfl (hO.out _).1 ⟨w3.heap.size, 0, none⟩ 1 1 (stC ⟨kd, xp, xb, xf⟩) rfl rfl n4.out (new4c _) hml hmb (hO.out _).2 ?_); (intro v5 w5 hown5 hgrow5 _; obtain ⟨c5, xx, ll, cc, rfl, M5⟩ := HA.out v5 w5 hown5 hgrow5; clear hown5 hgrow5 c0 c1 c2 c3 HA hO n4))
        have c1 := c5
        have L5 : Hid ((D ++ [(⟨kd, xp, xb, xf⟩ : St)]).length ≤ k + 1) := by have := hD.out; unfold Hid; simp; omega
        generalize stepS S kd xp xb xf = S5 at M5
        generalize D ++ [(⟨kd, xp, xb, xf⟩ : St)] = D5 at M5 L5
        clear c5 P3 l3 M hD hml hmb
        have HL : Hid (Calls Try.prog 10 #[.pointer (some ⟨p, 0, none⟩), .int .u32 xp] w5 fun e w' => e = .returned (.tuple (lookR (lookS S5 xp))) ∧ Mid w1 w' p R n (.slice xx ll cc) S5 D5 (h + hitN (lookS S5 xp)) (m + missN (lookS S5 xp)) ∧ w'.cell? ⟨wr.heap.size, 1, none⟩ = some (.int .u32 xp)) := by
          refine (look_any M5.out.tlb M5.out.ok (by omega) (by omega) (by omega) (by omega) xp hxp).mono ?_
          rintro e w' ⟨rfl, p6, t6⟩
          have hlp := M5.out.lp
          exact ⟨rfl, M5.out.turn (p6.mono (by simp)) t6 M5.out.ok M5.out.len M5.out.look, (p6.cell (World.block_lt_of_cell? _ _ c1) (by have := N1.out; simp; omega)).trans c1⟩
        have HRf : Hid (∀ w6 h' m', Mid w1 w6 p R n (.slice xx ll cc) S5 D5 h' m' → Calls Try.prog 11 #[.int .i64 n, .slice xx ll cc, .int .u32 xp] w6 fun e w' => e = .returned (.tuple (lookR (lookS S5 xp))) ∧ Mid w1 w' p R n (.slice xx ll cc) S5 D5 h' m') := by
          intro w6 h' m' M6
          obtain ⟨r6, l6⟩ := own_row2 M6.own M6.hp
          refine (rlook_any w6 n hn.out (by have := gn; omega) xx ll cc D5 r6 (by have := L5.out; omega) xp hxp).mono ?_
          rintro e w' ⟨rfl, k7⟩
          exact ⟨by rw [M6.look xp], M6.kep k7⟩
        clear M5
        generalize lookS S5 xp = r at HL HRf
        go_wp2_with fail
        refine HL.out.mono ?_
        rintro e w6 ⟨rfl, M6, c6⟩
        have HR6 : Hid (Calls Try.prog 11 #[.int .i64 n, .slice xx ll cc, .int .u32 xp] w6 fun e w' => e = .returned (.tuple (lookR r)) ∧ Mid w1 w' p R n (.slice xx ll cc) S5 D5 (h + hitN r) (m + missN r)) := HRf.out w6 _ _ M6
        clear HL HRf M6 c1
        cases r with
        | none =>
          simp only [lookR, hitN, missN, Int.add_zero] at HR6 ⊢
          go_wp2_with fail
          refine HR6.out.mono ?_
          rintro e w7 ⟨rfl, M7⟩
          have M7' : Hid (Mid w1 w7 p R n (.slice xx ll cc) S5 D5 h (m + 1)) := M7
          clear HR6 M7 c6
          go_wp2_with fail
          go_roundw
          case rel => exact ⟨k + 1, h, m + 1, by omega, by omega, rfl, by go_num, by go_num, by omega, by omega, by omega, by omega, S5, D5, M7'.out, by have := L5.out; omega⟩
          case measure => simp [intOf]; omega
        | some y =>
          obtain ⟨yb, yf⟩ := y
          simp only [lookR, hitN, missN, Int.add_zero] at HR6 ⊢
          go_wp2_with fail
          refine HR6.out.mono ?_
          rintro e w7 ⟨rfl, M7⟩
          have M7' : Hid (Mid w1 w7 p R n (.slice xx ll cc) S5 D5 (h + 1) m) := M7
          clear HR6 M7 c6
          go_wp2_with fail
          go_roundw
          case rel => exact ⟨k + 1, h + 1, m, by omega, by omega, by go_num, rfl, by go_num, by omega, by omega, by omega, by omega, S5, D5, M7'.out, by have := L5.out; omega⟩
          case measure => simp [intOf]; omega
      · have hst : stepS S kd xp xb xf = S := by
          unfold stepS
          rw [if_neg (by omega), if_neg (by omega), if_neg (by omega)]
        have M5 : Hid (Mid w1 w3 p R n u7 S D h m) := M.out.turn (P3.out.1.mono (by simp)) (by have := P3.out.2; rw [hst] at this; exact this) M.out.ok M.out.len M.out.look
        obtain ⟨xx, cc, e, hxr⟩ := own_row M.out.own M.out.hp
        subst e
        have L5 : Hid (D.length ≤ k + 1) := Nat.le_succ_of_le hD.out
        clear hst P3 M hD
        generalize hll : D.length = ll at M5
        clear hll
        clear hxr c2 c3
        obtain ⟨g, g'⟩ | ⟨g, g'⟩ : (¬ 0 ≤ kd ∧ decide (0 ≤ kd) = false) ∨ ((0 ≤ kd ∧ ¬ kd ≤ 2) ∧ decide (kd ≤ 2) = false) := by
          rcases (by omega : ¬ 0 ≤ kd ∨ (0 ≤ kd ∧ ¬ kd ≤ 2)) with g | g
          · exact .inl ⟨g, decide_eq_false g⟩
          · exact .inr ⟨g, decide_eq_false g.2⟩
        all_goals
          clear hin
          have HL : Hid (Calls Try.prog 10 #[.pointer (some ⟨p, 0, none⟩), .int .u32 xp] w3 fun e w' => e = .returned (.tuple (lookR (lookS S xp))) ∧ Mid w1 w' p R n (.slice xx ll cc) S D (h + hitN (lookS S xp)) (m + missN (lookS S xp)) ∧ w'.cell? ⟨wr.heap.size, 1, none⟩ = some (.int .u32 xp)) := by
            refine (look_any M5.out.tlb M5.out.ok (by omega) (by omega) (by omega) (by omega) xp hxp).mono ?_
            rintro e w' ⟨rfl, p6, t6⟩
            have hlp := M5.out.lp
            exact ⟨rfl, M5.out.turn (p6.mono (by simp)) t6 M5.out.ok M5.out.len M5.out.look, (p6.cell (World.block_lt_of_cell? _ _ c1) (by have := N1.out; simp; omega)).trans c1⟩
          have HRf : Hid (∀ w6 h' m', Mid w1 w6 p R n (.slice xx ll cc) S D h' m' → Calls Try.prog 11 #[.int .i64 n, .slice xx ll cc, .int .u32 xp] w6 fun e w' => e = .returned (.tuple (lookR (lookS S xp))) ∧ Mid w1 w' p R n (.slice xx ll cc) S D h' m') := by
            intro w6 h' m' M6
            obtain ⟨r6, l6⟩ := own_row2 M6.own M6.hp
            refine (rlook_any w6 n hn.out (by have := gn; omega) xx ll cc D r6 (by have := L5.out; omega) xp hxp).mono ?_
            rintro e w' ⟨rfl, k7⟩
            exact ⟨by rw [M6.look xp], M6.kep k7⟩
          clear M5
          generalize lookS S xp = r at HL HRf
          go_wp2_with fail
          refine HL.out.mono ?_
          rintro e w6 ⟨rfl, M6, c6⟩
          have HR6 : Hid (Calls Try.prog 11 #[.int .i64 n, .slice xx ll cc, .int .u32 xp] w6 fun e w' => e = .returned (.tuple (lookR r)) ∧ Mid w1 w' p R n (.slice xx ll cc) S D (h + hitN r) (m + missN r)) := HRf.out w6 _ _ M6
          clear HL HRf M6 c1
          cases r with
          | none =>
            simp only [lookR, hitN, missN, Int.add_zero] at HR6 ⊢
            go_wp2_with fail
            refine HR6.out.mono ?_
            rintro e w7 ⟨rfl, M7⟩
            have M7' : Hid (Mid w1 w7 p R n (.slice xx ll cc) S D h (m + 1)) := M7
            clear HR6 M7 c6
            go_wp2_with fail
            go_roundw
            case rel => exact ⟨k + 1, h, m + 1, by omega, by omega, rfl, by go_num, by go_num, by omega, by omega, by omega, by omega, S, D, M7'.out, by have := L5.out; omega⟩
            case measure => simp [intOf]; omega
          | some y =>
            obtain ⟨yb, yf⟩ := y
            simp only [lookR, hitN, missN, Int.add_zero] at HR6 ⊢
            go_wp2_with fail
            refine HR6.out.mono ?_
            rintro e w7 ⟨rfl, M7⟩
            have M7' : Hid (Mid w1 w7 p R n (.slice xx ll cc) S D (h + 1) m) := M7
            clear HR6 M7 c6
            go_wp2_with fail
            go_roundw
            case rel => exact ⟨k + 1, h + 1, m, by omega, by omega, by go_num, rfl, by go_num, by omega, by omega, by omega, by omega, S, D, M7'.out, by have := L5.out; omega⟩
            case measure => simp [intOf]; omega
    · have HC : Hid (Calls Try.prog 12 #[.pointer (some ⟨p, 0, none⟩)] wr fun e w' => e = .returned (.tuple #[.int .i64 h, .int .i64 m]) ∧ Kep wr w') := counts_any wr p R S h m M.out.tlb
      rcases (by omega : ¬ (k : Int) < len1 ∨ ((k : Int) < len1 ∧ ¬ (k : Int) < 100)) with hq | ⟨hq, hq'⟩
      all_goals
        clear hend
        go_wp2_with fail
        refine HC.out.mono ?_
        rintro e w5 ⟨rfl, k5⟩
        have K5 : Hid (Kep w w5) := kep_trans KW'.out k5
        clear k5 HC
        go_wp2_with fail
        go_ret
        exact ⟨rfl, K5.out⟩

set_option maxRecDepth 100000 in
theorem lifted (os : Os) (started : os.Started) (H : Type) (enc : TypeId × Value → H) :
    ReturnsInHanded {} Try.checked os 3 .any (Rows.tlbPlaysSpec.pre6 enc Try.prog Try.f3 Rows.tlbPlaysRow.domain false) (Rows.tlbPlaysSpec.post enc Try.prog Try.f3 false true false false) := by
  refine returnsInHanded_of_change (C := Try.checked) own started (by kernel_rfl) Try.func3
    (ChangeSpec.witness6 (enc := enc) (C := Try.checked) false ⟨#[], #[.int .i64 0, .slice none 0 0], []⟩ 8 (by kernel_rfl) (by kernel_rfl) (by kernel_rfl) (by kernel_rfl)) ?_
  intro W base args ds gs before hval0 hW hcnd _
  have hval : ∀ (j : Nat) t v, Try.f3.params[j]? = some t → args[j]? = some v → Value.okWide Try.prog W .any base t v := hval0
  have hW' := hW
  obtain ⟨p, q, hA0, hV, rfl, hfz, hnd⟩ := hW
  have hA : DataW.TrodAll enc Try.prog W 0 (fun _ => true) true Try.f3.params.toList args.toList ds p := hA0
  rw [Try.params3] at hA hval
  obtain ⟨v0, vs0, d0, ds0, p0, q0, hargs, rfl, rfl, h0, r0⟩ := trodAll_cons hA
  obtain ⟨v1, vs1, d1, ds1, p1, q1, rfl, rfl, rfl, h1, r1⟩ := trodAll_cons r0
  obtain ⟨rfl, rfl, rfl⟩ := trodAll_nil r1
  obtain rfl : args = #[v0, v1] := by cases args; simp_all
  obtain ⟨rfl, rfl⟩ := trodVars_none hV
  have k0 := h0
  have lt0 : ∀ x ∈ p0, x.block < W.heap.size := by obtain ⟨m, hm⟩ := k0; exact DataW.trod_lt m _ _ _ hm
  obtain ⟨a0, rfl, rfl, rfl, w0⟩ := open_int Try.underlying3 (hval 0 3 v0 rfl rfl) h0
  have k1 := h1
  have lt1 : ∀ x ∈ p1, x.block < W.heap.size := by obtain ⟨m, hm⟩ := k1; exact DataW.trod_lt m _ _ _ hm
  obtain ⟨x1, len1, cap1, rfl⟩ := okWide_slice Try.underlying22 (hval 1 22 v1 rfl rfl)
  obtain ⟨z1, w1⟩ : ∃ zs, StRow W x1 len1 cap1 zs := by
    obtain ⟨fuel, hf⟩ := h1
    exact sts_of hf
  clear hA0 hval0
  refine (walk a0 w0 x1 len1 cap1 z1 W w1).mono fun e W' ⟨he, bel0⟩ => ?_
  have bel : Below W.heap.size W W' := bel0
  subst he
  exact ⟨_, rfl, _, _, _, [], _, [], hW', trodAll_mk1 (shut_bool Try.underlying4 _), (trodAll_cons_mk (Below.trod laidOut (by kernel_rfl) (of_decide_eq_true (by kernel_rfl)) k0 bel lt0) (trodAll_cons_mk (Below.trod laidOut (by kernel_rfl) (of_decide_eq_true (by kernel_rfl)) k1 bel lt1) trodAll_mk0)), rfl, bel.frame _, fun h => by cases h⟩

theorem over : Rows.tlbPlaysRow.holds Try.pinned (OpenSpec.ofChange Rows.tlbPlaysSpec) :=
  OpenClaim.holds_of_wide 3 Try.f3 rfl rfl rfl rfl rfl rfl rfl ⟨rfl, rfl, rfl, rfl, rfl⟩ rfl rfl rfl rfl rfl (by kernel_rfl) Try.func3 (by kernel_rfl)
    (of_decide_eq_true (by kernel_rfl)) (by unfold Func.isWrapper; first | (rw [if_pos (by decide +kernel)]; kernel_rfl) | (rw [if_neg (by decide +kernel)]; exact ⟨rfl, rfl⟩))
    (fun os started H enc _ => lifted os started H enc)
end Go.Proofs.Ytekcknkfpecppaa.tlbPlays
namespace Go.Proofs.Ytekcknkfpecppaa

theorem tlbPlays_holds : Rows.TlbPlaysSaid := tlbPlays.over
#print axioms tlbPlays_holds
end Go.Proofs.Ytekcknkfpecppaa
