/- For every number of frames, every row of entries and every root, address, place and word, the law WalkHangs returns true: what is laid in another frame than a way's two of entries changes nothing of that way. -/
import Derived.Test.YtahnmppnfoeffaaRows
import Derived.Test.YtahnmppnfoeffaaWpage
import Derived.Test.YtahnmppnfoeffaaWworks
import Derived.WalkKit
import Derived.ProofKit
import Derived.OpenShut
import Derived.ShutString
import Derived.ChangeOld
import Derived.Below
import Derived.Lib.SmallJoins
namespace Go.Proofs.Ytahnmppnfoeffaa.walkHangs
open Go.ChangeShapes Go.WideShapes Go.ChangeAt Go.RowKit
set_option linter.unusedVariables false

theorem own : ownKnob Try.prog.godebug = none := by kernel_rfl
theorem laidOut : laidOutB Try.prog = true := by kernel_rfl

set_option maxHeartbeats 4000000 in
set_option maxRecDepth 100000 in
theorem walk (a0 : Int) (w0 : (Lit.int .u8 a0).wf = true) (x1 : Option Addr) (len1 cap1 : Nat) (z1 : List Ent) (a2f0 : Int) (w2f0 : (Lit.int .u32 a2f0).wf = true) (a2f1 : Int) (w2f1 : (Lit.int .u32 a2f1).wf = true) (a2f2 : Int) (w2f2 : (Lit.int .u32 a2f2).wf = true) (a2f3 : Int) (w2f3 : (Lit.int .u32 a2f3).wf = true) (w : World) (w1 : EntRow w x1 len1 cap1 z1) :
    Calls Try.prog 8 #[.int .u8 a0, .slice x1 len1 cap1, .agg #[.int .u32 a2f0, .int .u32 a2f1, .int .u32 a2f2, .int .u32 a2f3]] w fun e w' => e = .returned (.bool true) ∧ Kep w w' := by
  have b0 := u8_of w0
  have q0 := u32_of w2f0
  have q1 := u32_of w2f1
  have q2 := u32_of w2f2
  have q3 := u32_of w2f3
  clear w0 w2f0 w2f1 w2f2 w2f3
  obtain ⟨root, rfl⟩ : ∃ x : Nat, a2f0 = x := ⟨a2f0.toNat, by omega⟩
  obtain ⟨va, rfl⟩ : ∃ x : Nat, a2f1 = x := ⟨a2f1.toNat, by omega⟩
  have hM : Hid (∀ o, Calls Try.prog 9 #[.int .u8 a0, .slice x1 len1 cap1] (w.alloc o) fun e w' => ∃ (p R n Rb : Nat) (B : List Int), e = .returned (.tuple #[.pointer (some ⟨p, 0, none⟩), .agg #[.slice (some ⟨Rb, 0, none⟩) (64 * n) (64 * n)], .bool true]) ∧
      Two w' (.pointer (some ⟨p, 0, none⟩)) R n (some ⟨Rb, 0, none⟩) Rb B ∧ (4 : Int) ≤ n ∧ (n : Int) ≤ 10 ∧ w.heap.size < R ∧ Kep (w.alloc o) w') := by
    intro o
    refine (made6_any (w.alloc o) a0 b0.1 b0.2 x1 len1 cap1 z1 (w1.kep ((Kep.refl _).alloc o))).mono ?_
    rintro e w' ⟨n, p, R, Rb, hn, rfl, T, K, gR, _⟩
    exact ⟨p, R, n, Rb, _, rfl, T, by omega, by omega, by simp at gR; omega, K⟩
  have h3 : Hid (∀ w, Calls Try.prog 12 #[] w fun e w' => e = .returned (.bool true) ∧ Kep w w') := works6_any
  clear w1 b0
  go_enter Try.func8, Try.ntmps8
  go_wp2_with fail
  refine (hM.out _).mono ?_
  rintro e w1 ⟨p, R, n, Rb, B, rfl, T, hn4, hn, gR, k1⟩
  have K1 : Hid (Kep w w1) := kep_trans ((Kep.refl _).alloc _) k1
  have bx : Hid (w1.heap[w.heap.size]? = some (.cells #[.int .u32 root, .int .u32 va, .int .u32 a2f2, .int .u32 a2f3] 46 (0, 0))) := k1.block (hat _ _ _ rfl)
  have lx : w.heap.size < w1.heap.size := block_lt bx.out
  have c0 : w1.cell? ⟨w.heap.size, 0, none⟩ = some (.int .u32 root) := cell_of_block bx.out
  have c1 : w1.cell? ⟨w.heap.size, 1, none⟩ = some (.int .u32 va) := cell_of_block bx.out
  have c2 : w1.cell? ⟨w.heap.size, 2, none⟩ = some (.int .u32 a2f2) := cell_of_block bx.out
  have c3 : w1.cell? ⟨w.heap.size, 3, none⟩ = some (.int .u32 a2f3) := cell_of_block bx.out
  obtain ⟨r, hr⟩ : ∃ r, Hid (lookF (wdF B (List.range n)) (64 * n) root 16 va = r) := ⟨_, rfl⟩
  have HL : Hid (∀ w', Kep w1 w' → Calls Try.prog 10 #[.pointer (some ⟨p, 0, none⟩), .int .u32 root, .int .i64 16, .int .u32 va] w' fun e w'' => e = .returned (.tuple (wyR r)) ∧ Kep w' w'') := fun w' k => by
    have T2 := T.kep k
    have := look_ram T2.ram (by simp; omega) T2.row (fits_range T2.len) T2.byts root 16 va q0.2 q1.2
    rw [List.length_range, hr.out] at this
    exact this
  have T' : Hid (Two w1 (.pointer (some ⟨p, 0, none⟩)) R n (some ⟨Rb, 0, none⟩) Rb B) := T
  have lR := T.lR
  clear k1 T hM
  obtain ⟨A, hA, hA0, hA1⟩ : ∃ A : Nat, Hid (a2f2 % (64 * (n : Int)) = A) ∧ Hid (A < 64 * n) ∧ (A : Int) < 640 := by
    have h1 := Int.emod_nonneg a2f2 (b := 64 * (n : Int)) (by omega)
    have h2 := Int.emod_lt_of_pos a2f2 (b := 64 * (n : Int)) (by omega)
    exact ⟨(a2f2 % (64 * (n : Int))).toNat, by unfold Hid; omega, by unfold Hid; omega, by omega⟩
  have t1 : a2f2.tmod (64 * (n : Int)) = A := by rw [Int.tmod_eq_emod_of_nonneg q2.1]; exact hA.out
  have t2 : a2f2 % (64 * (n : Int)) = A := hA.out
  have t3 : a2f2.tmod ((64 * n : Nat) : Int) = A := by rw [← t1]; rfl
  have t4 : (64 * (n : Int) == 0) = false := by simp; omega
  go_wp2_with fail
  refine (HL.out _ ((Kep.refl _).alloc _)).mono ?_
  rintro e w2 ⟨rfl, k2⟩
  have K2 : Hid (Kep w1 w2) := kep_trans ((Kep.refl _).alloc _) k2
  have d0 := (K2.out.cell lx).trans c0
  have d1 := (K2.out.cell lx).trans c1
  have d2 := (K2.out.cell lx).trans c2
  have d3 := (K2.out.cell lx).trans c3
  have by2 : Hid (w2.heap[w1.heap.size]? = some (.cells #[.slice (some ⟨Rb, 0, none⟩) (64 * n) (64 * n)] 28 (0, 0))) := k2.block (hat _ _ _ rfl)
  have c6 : w2.cell? ⟨w1.heap.size, 0, none⟩ = some (.slice (some ⟨Rb, 0, none⟩) (64 * n) (64 * n)) := cell_of_block by2.out
  have l2 : w.heap.size < w2.heap.size := K2.out.lt lx
  have l3 : w1.heap.size < w2.heap.size := block_lt by2.out
  obtain ⟨AA, hAA, hAB⟩ : ∃ AA : Nat, (A : Int) - (A : Int) % 4 = AA ∧ AA = A - A % 4 := ⟨A - A % 4, by omega, rfl⟩
  have ha4 : Hid (AA % 4 = 0 ∧ AA < 64 * n) := by have := hA0.out; unfold Hid; omega
  have hAA1 : Hid ((AA : Int) < 640) := by unfold Hid; omega
  clear k2 c0 c1 c2 c3 HL hAB
  rcases r with _ | ⟨yb, ya, ye, yd, yt, yp⟩
  · simp only [wyR]
    go_wp2_with (go_at_call 12; refine (h3.out _).mono ?_; rintro e w4 ⟨rfl, k4⟩; have K4 : Hid (Kep w w4) := kep_trans (kep_trans K1.out (K2.out.alloc _)) k4; clear k4)
    go_ret
    exact ⟨rfl, K4.out⟩
  · simp only [wyR]
    obtain ⟨v1, v2, v3, v4, v5, v6⟩ := way_fits (fun a x => wdF_lt T'.out.byts a x) hr.out
    simp only at v1 v2 v3 v4 v5 v6
    by_cases hg1 : AA / 64 = yd
    · have g1 : ((AA : Int) / 64 == (yd : Int)) = true := by simp; omega
      go_wp2_with (go_at_call 12; refine (h3.out _).mono ?_; rintro e w4 ⟨rfl, k4⟩; have K4 : Hid (Kep w w4) := kep_trans (kep_trans K1.out (K2.out.alloc _)) k4; clear k4)
      go_ret
      exact ⟨rfl, K4.out⟩
    have g1 : ((AA : Int) / 64 == (yd : Int)) = false := by simp; omega
    by_cases hg2 : AA / 64 = yt
    · have g2 : ((AA : Int) / 64 == (yt : Int)) = true := by simp; omega
      go_wp2_with (go_at_call 12; refine (h3.out _).mono ?_; rintro e w4 ⟨rfl, k4⟩; have K4 : Hid (Kep w w4) := kep_trans (kep_trans K1.out (K2.out.alloc _)) k4; clear k4)
      go_ret
      exact ⟨rfl, K4.out⟩
    have g2 : ((AA : Int) / 64 == (yt : Int)) = false := by simp; omega
    have hh := look_hangs (x := a2f3) T'.out.byts hr.out ha4.out.1 ha4.out.2 hg1 hg2
    have HS : Hid (∀ o, Calls Try.prog 17 #[.pointer (some ⟨p, 0, none⟩), .int .u32 AA, .int .u32 a2f3] (w2.alloc o) fun e w' => e = .returned (.bool true) ∧ Put [R] (w2.alloc o) w' ∧ RowB w' R (setW B AA a2f3)) := by
      intro o
      have T2 := T'.out.kep (K2.out.alloc o)
      have := setWord_put (w2.alloc o) _ R _ B T2.ram (by simp; omega) T2.row (fits_range T2.len) AA (by have := hAA1.out; omega) a2f3 q3.1 q3.2
      rw [List.length_range, if_pos ha4.out, decide_eq_true ha4.out, pos_range ha4.out.2] at this
      exact this
    have HL2 : Hid (∀ o w', Put [R] (w2.alloc o) w' → RowB w' R (setW B AA a2f3) → Calls Try.prog 10 #[.pointer (some ⟨p, 0, none⟩), .int .u32 root, .int .i64 16, .int .u32 va] w' fun e w'' => e = .returned (.tuple #[.agg (wayV yb ya ye yd yt yp), .bool true]) ∧ Kep w' w'') := by
      intro o w' P r'
      have T2 := T'.out.kep (K2.out.alloc o)
      have := look_ram (T2.ram.put P) (by simp; omega) r' (fits_range (by rw [setW_len]; exact T2.len)) (T2.byts.setW _ _) root 16 va q0.2 q1.2
      rw [List.length_range, hh] at this
      exact this
    have hsm := way_same yb ya ye yd yt yp ⟨wf_u32 (by omega), wf_u32 v2, wf_u32 v3, wf_i64 (by omega), wf_i64 (by omega), wf_i64 (by omega)⟩
    have hr' : Hid (w.heap.size ≠ R ∧ w2.heap.size ≠ R ∧ w.heap.size ≤ R) := by unfold Hid; omega
    clear hh v1 v2 v3 v4 v5 v6 hg1 hg2 hr
    go_wp2_with fail
    refine (HS.out _).mono ?_
    rintro e w3 ⟨rfl, P3, R3⟩
    have f0 := (P3.cell (k := w.heap.size) (o := 0) (by simp; omega) (by simpa using hr'.out.1)).trans ((cell_old l2).trans d0)
    have f1 := (P3.cell (k := w.heap.size) (o := 1) (by simp; omega) (by simpa using hr'.out.1)).trans ((cell_old l2).trans d1)
    have bw : Hid (w3.heap[w2.heap.size]? = some (.cells (wayV yb ya ye yd yt yp) 32 (0, 0))) := P3.keeps (hat _ _ _ rfl) (by simpa using hr'.out.2.1)
    have HL3 : Hid (Calls Try.prog 10 #[.pointer (some ⟨p, 0, none⟩), .int .u32 root, .int .i64 16, .int .u32 va] w3 fun e w'' => e = .returned (.tuple #[.agg (wayV yb ya ye yd yt yp), .bool true]) ∧ Kep w3 w'') := HL2.out _ _ P3 R3
    have K3 : Hid (Kep w w3) := (kep_trans K1.out (K2.out.alloc _)).put P3 (by simpa using hr'.out.2.2)
    clear P3 R3 HS HL2 d0 d1 d2 d3 c6
    go_wp2_with fail
    refine HL3.out.mono ?_
    rintro e w4 ⟨rfl, k4⟩
    obtain ⟨e0, e1, e2, e3, e4, e5, _⟩ := way_cells (k4.block bw.out)
    have l4 : w2.heap.size < w4.heap.size := block_lt (k4.block bw.out)
    have K4 : Hid (Kep w w4) := kep_trans K3.out k4
    clear k4 HL3 f0 f1
    go_wp2_with (go_at_call 12; refine (h3.out _).mono ?_; rintro e w5 ⟨rfl, k5⟩; have K5 : Hid (Kep w w5) := kep_trans (K4.out.alloc _) k5; clear k5)
    go_ret
    exact ⟨rfl, K5.out⟩

set_option maxRecDepth 100000 in
theorem lifted (os : Os) (started : os.Started) (H : Type) (enc : TypeId × Value → H) :
    ReturnsInHanded {} Try.checked os 8 .any (Rows.walkHangsSpec.pre6 enc Try.prog Try.f8 Rows.walkHangsRow.domain false) (Rows.walkHangsSpec.post enc Try.prog Try.f8 false true false false) := by
  refine returnsInHanded_of_change (C := Try.checked) own started (by kernel_rfl) Try.func8
    (ChangeSpec.witness6 (enc := enc) (C := Try.checked) false ⟨#[], #[.int .u8 0, .slice none 0 0, .agg #[.int .u32 0, .int .u32 0, .int .u32 0, .int .u32 0]], []⟩ 8 (by kernel_rfl) (by kernel_rfl) (by kernel_rfl) (by kernel_rfl)) ?_
  intro W base args ds gs before hval0 hW hcnd _
  have hval : ∀ (j : Nat) t v, Try.f8.params[j]? = some t → args[j]? = some v → Value.okWide Try.prog W .any base t v := hval0
  have hW' := hW
  obtain ⟨p, q, hA0, hV, rfl, hfz, hnd⟩ := hW
  have hA : DataW.TrodAll enc Try.prog W 0 (fun _ => true) true Try.f8.params.toList args.toList ds p := hA0
  rw [Try.params8] at hA hval
  obtain ⟨v0, vs0, d0, ds0, p0, q0, hargs, rfl, rfl, h0, r0⟩ := trodAll_cons hA
  obtain ⟨v1, vs1, d1, ds1, p1, q1, rfl, rfl, rfl, h1, r1⟩ := trodAll_cons r0
  obtain ⟨v2, vs2, d2, ds2, p2, q2, rfl, rfl, rfl, h2, r2⟩ := trodAll_cons r1
  obtain ⟨rfl, rfl, rfl⟩ := trodAll_nil r2
  obtain rfl : args = #[v0, v1, v2] := by cases args; simp_all
  obtain ⟨rfl, rfl⟩ := trodVars_none hV
  have k0 := h0
  have lt0 : ∀ x ∈ p0, x.block < W.heap.size := by obtain ⟨m, hm⟩ := k0; exact DataW.trod_lt m _ _ _ hm
  obtain ⟨a0, rfl, rfl, rfl, w0⟩ := open_int Try.underlying5 (hval 0 5 v0 rfl rfl) h0
  have k1 := h1
  have lt1 : ∀ x ∈ p1, x.block < W.heap.size := by obtain ⟨m, hm⟩ := k1; exact DataW.trod_lt m _ _ _ hm
  obtain ⟨x1, len1, cap1, rfl⟩ := okWide_slice Try.underlying22 (hval 1 22 v1 rfl rfl)
  obtain ⟨z1, w1⟩ : ∃ zs, EntRow W x1 len1 cap1 zs := by
    obtain ⟨fuel, hf⟩ := h1
    exact ents_of hf
  have k2 := h2
  have lt2 : ∀ x ∈ p2, x.block < W.heap.size := by obtain ⟨m, hm⟩ := k2; exact DataW.trod_lt m _ _ _ hm
  obtain ⟨zs2, hl2, rfl, hw2⟩ := open_arr Try.underlying46 Try.underlying23 (by kernel_rfl) (by kernel_rfl) (hval 2 46 v2 rfl rfl) h2
  obtain ⟨a2f0, a2f1, a2f2, a2f3, rfl⟩ := list4 zs2 hl2
  clear hA0 hval0
  refine (walk a0 w0 x1 len1 cap1 z1 a2f0 (hw2 _ (by simp)) a2f1 (hw2 _ (by simp)) a2f2 (hw2 _ (by simp)) a2f3 (hw2 _ (by simp)) W w1).mono fun e W' ⟨he, bel0⟩ => ?_
  have bel : Below W.heap.size W W' := bel0
  subst he
  exact ⟨_, rfl, _, _, _, [], _, [], hW', trodAll_mk1 (shut_bool Try.underlying4 _), (trodAll_cons_mk (Below.trod laidOut (by kernel_rfl) (of_decide_eq_true (by kernel_rfl)) k0 bel lt0) (trodAll_cons_mk (Below.trod laidOut (by kernel_rfl) (of_decide_eq_true (by kernel_rfl)) k1 bel lt1) (trodAll_cons_mk (Below.trod laidOut (by kernel_rfl) (of_decide_eq_true (by kernel_rfl)) k2 bel lt2) trodAll_mk0))), rfl, bel.frame _, fun h => by cases h⟩

theorem over : Rows.walkHangsRow.holds Try.pinned (OpenSpec.ofChange Rows.walkHangsSpec) :=
  OpenClaim.holds_of_wide 8 Try.f8 rfl rfl rfl rfl rfl rfl rfl ⟨rfl, rfl, rfl, rfl, rfl⟩ rfl rfl rfl rfl rfl (by kernel_rfl) Try.func8 (by kernel_rfl)
    (of_decide_eq_true (by kernel_rfl)) (by unfold Func.isWrapper; first | (rw [if_pos (by decide +kernel)]; kernel_rfl) | (rw [if_neg (by decide +kernel)]; exact ⟨rfl, rfl⟩))
    (fun os started H enc _ => lifted os started H enc)
end Go.Proofs.Ytahnmppnfoeffaa.walkHangs
namespace Go.Proofs.Ytahnmppnfoeffaa

theorem walkHangs_holds : Rows.WalkHangsSaid := walkHangs.over
#print axioms walkHangs_holds
end Go.Proofs.Ytahnmppnfoeffaa
