/- For every number of frames, every row of entries and every root, status, address and kind, the law WalkComes returns true: any access, with paging or without, comes to where the document says. -/
import Derived.Test.YtahnmppnfoeffaaRows
import Derived.Test.YtahnmppnfoeffaaWrtob
import Derived.Test.YtahnmppnfoeffaaWworks
import Derived.WalkKit
import Derived.ProofKit
import Derived.OpenShut
import Derived.ShutString
import Derived.ChangeOld
import Derived.Below
import Derived.Lib.SmallJoins
namespace Go.Proofs.Ytahnmppnfoeffaa.walkComes
open Go.ChangeShapes Go.WideShapes Go.ChangeAt Go.RowKit
set_option linter.unusedVariables false

theorem own : ownKnob Try.prog.godebug = none := by kernel_rfl
theorem laidOut : laidOutB Try.prog = true := by kernel_rfl

set_option maxHeartbeats 4000000 in
set_option maxRecDepth 100000 in
theorem walk (a0 : Int) (w0 : (Lit.int .u8 a0).wf = true) (x1 : Option Addr) (len1 cap1 : Nat) (z1 : List Ent) (a2f0 : Int) (w2f0 : (Lit.int .u32 a2f0).wf = true) (a2f1 : Int) (w2f1 : (Lit.int .u32 a2f1).wf = true) (a2f2 : Int) (w2f2 : (Lit.int .u32 a2f2).wf = true) (a2f3 : Int) (w2f3 : (Lit.int .u32 a2f3).wf = true) (a2f4 : Int) (w2f4 : (Lit.int .u32 a2f4).wf = true) (w : World) (w1 : EntRow w x1 len1 cap1 z1) :
    Calls Try.prog 5 #[.int .u8 a0, .slice x1 len1 cap1, .agg #[.int .u32 a2f0, .int .u32 a2f1, .int .u32 a2f2, .int .u32 a2f3, .int .u32 a2f4]] w fun e w' => e = .returned (.bool true) ∧ Kep w w' := by
  have b0 := u8_of w0
  have q0 := u32_of w2f0
  have q1 := u32_of w2f1
  have q2 := u32_of w2f2
  have q3 := u32_of w2f3
  clear w0 w2f0 w2f1 w2f2 w2f3 w2f4
  obtain ⟨root, rfl⟩ : ∃ x : Nat, a2f0 = x := ⟨a2f0.toNat, by omega⟩
  obtain ⟨ps, rfl⟩ : ∃ x : Nat, a2f1 = x := ⟨a2f1.toNat, by omega⟩
  obtain ⟨va, rfl⟩ : ∃ x : Nat, a2f2 = x := ⟨a2f2.toNat, by omega⟩
  have hM : Hid (∀ o, Calls Try.prog 9 #[.int .u8 a0, .slice x1 len1 cap1] (w.alloc o) fun e w' => ∃ (p R n Rb : Nat) (B : List Int), e = .returned (.tuple #[.pointer (some ⟨p, 0, none⟩), .agg #[.slice (some ⟨Rb, 0, none⟩) (64 * n) (64 * n)], .bool true]) ∧
      Two w' (.pointer (some ⟨p, 0, none⟩)) R n (some ⟨Rb, 0, none⟩) Rb B ∧ n ≤ 10 ∧ Kep (w.alloc o) w') := by
    intro o
    refine (made6_any (w.alloc o) a0 b0.1 b0.2 x1 len1 cap1 z1 (w1.kep ((Kep.refl _).alloc o))).mono ?_
    rintro e w' ⟨n, p, R, Rb, hn, rfl, T, K, _, _⟩
    exact ⟨p, R, n, Rb, _, rfl, T, by omega, K⟩
  have h3 : Hid (∀ w, Calls Try.prog 12 #[] w fun e w' => e = .returned (.bool true) ∧ Kep w w') := works6_any
  have hdr : 0 ≤ a2f3 % 5 ∧ a2f3 % 5 < 5 := by omega
  clear w1 b0
  go_enter Try.func5, Try.ntmps5
  go_wp2_with fail
  refine (hM.out _).mono ?_
  rintro e w1 ⟨p, R, n, Rb, B, rfl, T, hn, k1⟩
  have K1 : Hid (Kep w w1) := kep_trans ((Kep.refl _).alloc _) k1
  have bx : Hid (w1.heap[w.heap.size]? = some (.cells #[.int .u32 root, .int .u32 ps, .int .u32 va, .int .u32 a2f3, .int .u32 a2f4] 41 (0, 0))) := k1.block (hat _ _ _ rfl)
  have lx : w.heap.size < w1.heap.size := block_lt bx.out
  have c0 : w1.cell? ⟨w.heap.size, 0, none⟩ = some (.int .u32 root) := cell_of_block bx.out
  have c1 : w1.cell? ⟨w.heap.size, 1, none⟩ = some (.int .u32 ps) := cell_of_block bx.out
  have c2 : w1.cell? ⟨w.heap.size, 2, none⟩ = some (.int .u32 va) := cell_of_block bx.out
  have c3 : w1.cell? ⟨w.heap.size, 3, none⟩ = some (.int .u32 a2f3) := cell_of_block bx.out
  obtain ⟨r, hr⟩ : ∃ r, Hid (toF (wdF B (List.range n)) (64 * n) root 16 ps va (a2f3 % 5) = r) := ⟨_, rfl⟩
  have HL : Hid (∀ w', Kep w1 w' → Calls Try.prog 15 #[.pointer (some ⟨p, 0, none⟩), .int .u32 root, .int .i64 16, .int .u32 ps, .int .u32 va, .int .i64 (a2f3 % 5)] w' fun e w'' => e = .returned (.tuple (toR r)) ∧ Kep w' w'') := fun w' k => by
    have T2 := T.kep k
    have := to_ram T2.ram (by simp; omega) T2.row (fits_range T2.len) T2.byts root 16 ps va (a2f3 % 5) q0.2 (by omega) q2.2
    rw [List.length_range, hr.out] at this
    exact this
  have HR : Hid (∀ w', Kep w1 w' → Calls Try.prog 16 #[.agg #[.slice (some ⟨Rb, 0, none⟩) (64 * n) (64 * n)], .int .u32 root, .int .i64 16, .int .u32 ps, .int .u32 va, .int .i64 (a2f3 % 5)] w' fun e w'' => e = .returned (.tuple (toR r)) ∧ Kep w' w'') := fun w' k => by
    have T2 := T.kep k
    have h4 := T2.len
    have := rto_ref T2.ref T2.byts (by omega) root 16 ps va (a2f3 % 5) q0.2 q1.2 q2.2
    have e : wdF B (List.range n) = wdD B := funext fun a => wdD_range T2.len a
    rw [← e, h4, hr.out] at this
    exact this
  clear k1 T hM hr
  obtain ⟨ya, is, hy⟩ : ∃ (ya : Int) (is : Bool), Hid (toR r = #[.int .u32 ya, .bool is]) := by
    rcases r with _ | y
    · exact ⟨0, false, rfl⟩
    · exact ⟨y, true, rfl⟩
  rw [hy.out] at HL HR
  clear hy
  go_wp2_with fail
  refine (HL.out _ ((Kep.refl _).alloc _)).mono ?_
  rintro e w2 ⟨rfl, k2⟩
  have K2 : Hid (Kep w1 w2) := kep_trans ((Kep.refl _).alloc _) k2
  have d0 := (K2.out.cell lx).trans c0
  have d1 := (K2.out.cell lx).trans c1
  have d2 := (K2.out.cell lx).trans c2
  have d3 := (K2.out.cell lx).trans c3
  have by2 : Hid (w2.heap[w1.heap.size]? = some (.cells #[.slice (some ⟨Rb, 0, none⟩) (64 * n) (64 * n)] 28 (0, 0))) := k2.block (hat _ _ _ rfl)
  have c6 : w2.cell? ⟨w1.heap.size, 0, none⟩ = some (.slice (some ⟨Rb, 0, none⟩) (64 * n) (64 * n)) := cell_of_block by2.out
  clear k2 c0 c1 c2 c3 HL
  go_wp2_with fail
  refine (HR.out _ K2.out).mono ?_
  rintro e w3 ⟨rfl, k3⟩
  have K3 : Hid (Kep w w3) := kep_trans K1.out (kep_trans K2.out k3)
  clear k3 HR d0 d1 d2 d3 c6
  go_wp2_with (go_at_call 12; refine (h3.out _).mono ?_; rintro e w4 ⟨rfl, k4⟩; have K4 : Hid (Kep w w4) := kep_trans K3.out k4; clear k4)
  go_ret
  exact ⟨rfl, K4.out⟩

set_option maxRecDepth 100000 in
theorem lifted (os : Os) (started : os.Started) (H : Type) (enc : TypeId × Value → H) :
    ReturnsInHanded {} Try.checked os 5 .any (Rows.walkComesSpec.pre6 enc Try.prog Try.f5 Rows.walkComesRow.domain false) (Rows.walkComesSpec.post enc Try.prog Try.f5 false true false false) := by
  refine returnsInHanded_of_change (C := Try.checked) own started (by kernel_rfl) Try.func5
    (ChangeSpec.witness6 (enc := enc) (C := Try.checked) false ⟨#[], #[.int .u8 0, .slice none 0 0, .agg #[.int .u32 0, .int .u32 0, .int .u32 0, .int .u32 0, .int .u32 0]], []⟩ 8 (by kernel_rfl) (by kernel_rfl) (by kernel_rfl) (by kernel_rfl)) ?_
  intro W base args ds gs before hval0 hW hcnd _
  have hval : ∀ (j : Nat) t v, Try.f5.params[j]? = some t → args[j]? = some v → Value.okWide Try.prog W .any base t v := hval0
  have hW' := hW
  obtain ⟨p, q, hA0, hV, rfl, hfz, hnd⟩ := hW
  have hA : DataW.TrodAll enc Try.prog W 0 (fun _ => true) true Try.f5.params.toList args.toList ds p := hA0
  rw [Try.params5] at hA hval
  obtain ⟨v0, vs0, d0, ds0, p0, q0, hargs, rfl, rfl, h0, r0⟩ := trodAll_cons hA
  obtain ⟨v1, vs1, d1, ds1, p1, q1, rfl, rfl, rfl, h1, r1⟩ := trodAll_cons r0
  obtain ⟨v2, vs2, d2, ds2, p2, q2, rfl, rfl, rfl, h2, r2⟩ := trodAll_cons r1
  obtain ⟨rfl, rfl, rfl⟩ := trodAll_nil r2
  obtain rfl : args = #[v0, v1, v2] := by cases args; simp_all
  obtain ⟨rfl, rfl⟩ := trodVars_none hV
  have k0 := h0
  have lt0 : ∀ x ∈ p0, x.block < W.heap.size := by obtain ⟨m, hm⟩ := k0; exact DataW.trod_lt m _ _ _ hm
  obtain ⟨a0, rfl, rfl, rfl, w0⟩ := open_int Try.underlying5 (hval 0 5 v0 rfl rfl) h0
  have k1 := h1
  have lt1 : ∀ x ∈ p1, x.block < W.heap.size := by obtain ⟨m, hm⟩ := k1; exact DataW.trod_lt m _ _ _ hm
  obtain ⟨x1, len1, cap1, rfl⟩ := okWide_slice Try.underlying22 (hval 1 22 v1 rfl rfl)
  obtain ⟨z1, w1⟩ : ∃ zs, EntRow W x1 len1 cap1 zs := by
    obtain ⟨fuel, hf⟩ := h1
    exact ents_of hf
  have k2 := h2
  have lt2 : ∀ x ∈ p2, x.block < W.heap.size := by obtain ⟨m, hm⟩ := k2; exact DataW.trod_lt m _ _ _ hm
  obtain ⟨zs2, hl2, rfl, hw2⟩ := open_arr Try.underlying41 Try.underlying23 (by kernel_rfl) (by kernel_rfl) (hval 2 41 v2 rfl rfl) h2
  obtain ⟨a2f0, a2f1, a2f2, a2f3, a2f4, rfl⟩ := list5 zs2 hl2
  clear hA0 hval0
  refine (walk a0 w0 x1 len1 cap1 z1 a2f0 (hw2 _ (by simp)) a2f1 (hw2 _ (by simp)) a2f2 (hw2 _ (by simp)) a2f3 (hw2 _ (by simp)) a2f4 (hw2 _ (by simp)) W w1).mono fun e W' ⟨he, bel0⟩ => ?_
  have bel : Below W.heap.size W W' := bel0
  subst he
  exact ⟨_, rfl, _, _, _, [], _, [], hW', trodAll_mk1 (shut_bool Try.underlying4 _), (trodAll_cons_mk (Below.trod laidOut (by kernel_rfl) (of_decide_eq_true (by kernel_rfl)) k0 bel lt0) (trodAll_cons_mk (Below.trod laidOut (by kernel_rfl) (of_decide_eq_true (by kernel_rfl)) k1 bel lt1) (trodAll_cons_mk (Below.trod laidOut (by kernel_rfl) (of_decide_eq_true (by kernel_rfl)) k2 bel lt2) trodAll_mk0))), rfl, bel.frame _, fun h => by cases h⟩

theorem over : Rows.walkComesRow.holds Try.pinned (OpenSpec.ofChange Rows.walkComesSpec) :=
  OpenClaim.holds_of_wide 5 Try.f5 rfl rfl rfl rfl rfl rfl rfl ⟨rfl, rfl, rfl, rfl, rfl⟩ rfl rfl rfl rfl rfl (by kernel_rfl) Try.func5 (by kernel_rfl)
    (of_decide_eq_true (by kernel_rfl)) (by unfold Func.isWrapper; first | (rw [if_pos (by decide +kernel)]; kernel_rfl) | (rw [if_neg (by decide +kernel)]; exact ⟨rfl, rfl⟩))
    (fun os started H enc _ => lifted os started H enc)
end Go.Proofs.Ytahnmppnfoeffaa.walkComes
namespace Go.Proofs.Ytahnmppnfoeffaa

theorem walkComes_holds : Rows.WalkComesSaid := walkComes.over
#print axioms walkComes_holds
end Go.Proofs.Ytahnmppnfoeffaa
