/- For every number of frames, every row of entries and every root, address and place, the law WalkPages returns true: one page's addresses lead to one frame, place by place. -/
import Derived.Test.YtahnmppnfoeffaaRows
import Derived.Test.YtahnmppnfoeffaaWpage
import Derived.Test.YtahnmppnfoeffaaWworks
import Derived.WalkKit
import Derived.ProofKit
import Derived.OpenShut
import Derived.ShutString
import Derived.ChangeOld
import Derived.Below
import Derived.Lib.SmallJoins
namespace Go.Proofs.Ytahnmppnfoeffaa.walkPages
open Go.ChangeShapes Go.WideShapes Go.ChangeAt Go.RowKit
set_option linter.unusedVariables false

theorem own : ownKnob Try.prog.godebug = none := by kernel_rfl
theorem laidOut : laidOutB Try.prog = true := by kernel_rfl

set_option maxHeartbeats 4000000 in
set_option maxRecDepth 100000 in
theorem walk (a0 : Int) (w0 : (Lit.int .u8 a0).wf = true) (x1 : Option Addr) (len1 cap1 : Nat) (z1 : List Ent) (a2f0 : Int) (w2f0 : (Lit.int .u32 a2f0).wf = true) (a2f1 : Int) (w2f1 : (Lit.int .u32 a2f1).wf = true) (a2f2 : Int) (w2f2 : (Lit.int .u32 a2f2).wf = true) (w : World) (w1 : EntRow w x1 len1 cap1 z1) :
    Calls Try.prog 7 #[.int .u8 a0, .slice x1 len1 cap1, .agg #[.int .u32 a2f0, .int .u32 a2f1, .int .u32 a2f2]] w fun e w' => e = .returned (.bool true) ∧ Kep w w' := by
  have b0 := u8_of w0
  have q0 := u32_of w2f0
  have q1 := u32_of w2f1
  have q2 := u32_of w2f2
  clear w0 w2f0 w2f1 w2f2
  obtain ⟨root, rfl⟩ : ∃ x : Nat, a2f0 = x := ⟨a2f0.toNat, by omega⟩
  obtain ⟨va, rfl⟩ : ∃ x : Nat, a2f1 = x := ⟨a2f1.toNat, by omega⟩
  obtain ⟨pl, hpl⟩ : ∃ x : Nat, a2f2 % 64 = x := ⟨(a2f2 % 64).toNat, by omega⟩
  have hpl2 : (pl : Int) < 64 := by omega
  have hM : Hid (∀ o, Calls Try.prog 9 #[.int .u8 a0, .slice x1 len1 cap1] (w.alloc o) fun e w' => ∃ (p R n Rb : Nat) (B : List Int), e = .returned (.tuple #[.pointer (some ⟨p, 0, none⟩), .agg #[.slice (some ⟨Rb, 0, none⟩) (64 * n) (64 * n)], .bool true]) ∧
      Two w' (.pointer (some ⟨p, 0, none⟩)) R n (some ⟨Rb, 0, none⟩) Rb B ∧ n ≤ 10 ∧ Kep (w.alloc o) w') := by
    intro o
    refine (made6_any (w.alloc o) a0 b0.1 b0.2 x1 len1 cap1 z1 (w1.kep ((Kep.refl _).alloc o))).mono ?_
    rintro e w' ⟨n, p, R, Rb, hn, rfl, T, K, _, _⟩
    exact ⟨p, R, n, Rb, _, rfl, T, by omega, K⟩
  have h3 : Hid (∀ w, Calls Try.prog 12 #[] w fun e w' => e = .returned (.bool true) ∧ Kep w w') := works6_any
  have ho : Hid ((va : Int) - (va : Int) % 64 + (pl : Int) = ((va - va % 64 + pl : Nat) : Int)) := by unfold Hid; omega
  have hoL : Hid (((va - va % 64 + pl : Nat) : Int) < 4294967296) := by unfold Hid; omega
  clear w1 b0
  go_enter Try.func7, Try.ntmps7
  go_wp2_with fail
  refine (hM.out _).mono ?_
  rintro e w1 ⟨p, R, n, Rb, B, rfl, T, hn, k1⟩
  have K1 : Hid (Kep w w1) := kep_trans ((Kep.refl _).alloc _) k1
  have bx : Hid (w1.heap[w.heap.size]? = some (.cells #[.int .u32 root, .int .u32 va, .int .u32 a2f2] 24 (0, 0))) := k1.block (hat _ _ _ rfl)
  have lx : w.heap.size < w1.heap.size := block_lt bx.out
  have c0 : w1.cell? ⟨w.heap.size, 0, none⟩ = some (.int .u32 root) := cell_of_block bx.out
  have c1 : w1.cell? ⟨w.heap.size, 1, none⟩ = some (.int .u32 va) := cell_of_block bx.out
  have c2 : w1.cell? ⟨w.heap.size, 2, none⟩ = some (.int .u32 a2f2) := cell_of_block bx.out
  have hpg := look_page (wdF B (List.range n)) n root 16 va pl (by omega) (fun a x => wdF_lt T.byts a x)
  obtain ⟨r1, hr1⟩ : ∃ r, lookF (wdF B (List.range n)) (64 * n) root 16 va = r := ⟨_, rfl⟩
  obtain ⟨r2, hr2⟩ : ∃ r, lookF (wdF B (List.range n)) (64 * n) root 16 (va - va % 64 + pl) = r := ⟨_, rfl⟩
  have HL : Hid (∀ w', Kep w1 w' → Calls Try.prog 10 #[.pointer (some ⟨p, 0, none⟩), .int .u32 root, .int .i64 16, .int .u32 va] w' fun e w'' => e = .returned (.tuple (wyR r1)) ∧ Kep w' w'') := fun w' k => by
    have T2 := T.kep k
    have := look_ram T2.ram (by simp; omega) T2.row (fits_range T2.len) T2.byts root 16 va q0.2 q1.2
    rw [List.length_range, hr1] at this
    exact this
  have HO : Hid (∀ w', Kep w1 w' → Calls Try.prog 10 #[.pointer (some ⟨p, 0, none⟩), .int .u32 root, .int .i64 16, .int .u32 ((va : Int) - (va : Int) % 64 + (pl : Int))] w' fun e w'' => e = .returned (.tuple (wyR r2)) ∧ Kep w' w'') := fun w' k => by
    have T2 := T.kep k
    have := look_ram T2.ram (by simp; omega) T2.row (fits_range T2.len) T2.byts root 16 (va - va % 64 + pl) q0.2 hoL.out
    rw [List.length_range, hr2] at this
    rw [ho.out]
    exact this
  rw [hr1, hr2] at hpg
  clear k1 T hM hr1 hr2 ho hoL
  rcases hpg with ⟨rfl, rfl⟩ | ⟨b, e, d, t, q, rfl, rfl, hq⟩
  · have HL' : Hid (∀ w', Kep w1 w' → Calls Try.prog 10 #[.pointer (some ⟨p, 0, none⟩), .int .u32 root, .int .i64 16, .int .u32 va] w' fun e w'' => e = .returned (.tuple #[.agg (wayV 0 0 0 0 0 0), .bool false]) ∧ Kep w' w'') := HL
    have HO' : Hid (∀ w', Kep w1 w' → Calls Try.prog 10 #[.pointer (some ⟨p, 0, none⟩), .int .u32 root, .int .i64 16, .int .u32 ((va : Int) - (va : Int) % 64 + (pl : Int))] w' fun e w'' => e = .returned (.tuple #[.agg (wayV 0 0 0 0 0 0), .bool false]) ∧ Kep w' w'') := HO
    clear HL HO
    go_wp2_with fail
    go_quiet (fail)
    go_wp2_with fail
    refine (HL'.out _ (((Kep.refl _).alloc _).drewN _)).mono ?_
    rintro e w2 ⟨rfl, k2⟩
    have K2 : Hid (Kep w1 w2) := kep_trans (((Kep.refl _).alloc _).drewN _) k2
    have c3 := (K2.out.cell lx).trans c0
    have l2 : w.heap.size < w2.heap.size := K2.out.lt lx
    clear k2 c0 c1 c2 HL'
    go_wp2_with fail
    refine (HO'.out _ (K2.out.alloc _)).mono ?_
    rintro e w3 ⟨rfl, k3⟩
    have K3 : Hid (Kep w w3) := kep_trans K1.out (kep_trans (K2.out.alloc _) k3)
    clear k3 HO' c3
    go_wp2_with (go_at_call 12; refine (h3.out _).mono ?_; rintro e w4 ⟨rfl, k4⟩; have K4 : Hid (Kep w w4) := kep_trans (K3.out.alloc _) k4; clear k4)
    go_ret
    exact ⟨rfl, K4.out⟩
  · have HL' : Hid (∀ w', Kep w1 w' → Calls Try.prog 10 #[.pointer (some ⟨p, 0, none⟩), .int .u32 root, .int .i64 16, .int .u32 va] w' fun e' w'' => e' = .returned (.tuple #[.agg (wayV b ((64 * q + va % 64 : Nat) : Int) e d t q), .bool true]) ∧ Kep w' w'') := HL
    have HO' : Hid (∀ w', Kep w1 w' → Calls Try.prog 10 #[.pointer (some ⟨p, 0, none⟩), .int .u32 root, .int .i64 16, .int .u32 ((va : Int) - (va : Int) % 64 + (pl : Int))] w' fun e' w'' => e' = .returned (.tuple #[.agg (wayV b ((64 * q + pl : Nat) : Int) e d t q), .bool true]) ∧ Kep w' w'') := HO
    obtain ⟨A, hA⟩ : ∃ A : Int, Hid (((64 * q + va % 64 : Nat) : Int) = A) := ⟨_, rfl⟩
    obtain ⟨C, hC⟩ : ∃ C : Int, Hid (((64 * q + pl : Nat) : Int) = C) := ⟨_, rfl⟩
    have a1 : A / 64 = q := by have := hA.out; omega
    have a2 : A % 64 = (va : Int) % 64 := by have := hA.out; omega
    have a3 : C / 64 = q := by have := hC.out; omega
    have a4 : C % 64 = pl := by have := hC.out; omega
    rw [hA.out] at HL'
    rw [hC.out] at HO'
    have a5 : 0 ≤ A ∧ A < 4294967296 := by have := hA.out; omega
    have a6 : 0 ≤ C ∧ C < 4294967296 := by have := hC.out; omega
    have a7 : (q : Int) < 67108864 := by omega
    clear HL HO hA hC
    go_wp2_with fail
    go_quiet (fail)
    go_wp2_with fail
    refine (HL'.out _ (((Kep.refl _).alloc _).drewN _)).mono ?_
    rintro e w2 ⟨rfl, k2⟩
    have K2 : Hid (Kep w1 w2) := kep_trans (((Kep.refl _).alloc _).drewN _) k2
    have c3 := (K2.out.cell lx).trans c0
    have l2 : w.heap.size < w2.heap.size := K2.out.lt lx
    clear k2 c0 c1 c2 HL'
    go_wp2_with fail
    refine (HO'.out _ (K2.out.alloc _)).mono ?_
    rintro e w3 ⟨rfl, k3⟩
    obtain ⟨d0, d1, d2, d3, d4, d5, _⟩ := way_cells (k3.block (hat _ _ _ rfl))
    have l4 : w2.heap.size < w3.heap.size := k3.lt (by simp)
    have K3 : Hid (Kep w w3) := kep_trans K1.out (kep_trans (K2.out.alloc _) k3)
    clear k3 HO' c3
    go_wp2_with (go_at_call 12; refine (h3.out _).mono ?_; rintro e w4 ⟨rfl, k4⟩; have K4 : Hid (Kep w w4) := kep_trans (K3.out.alloc _) k4; clear k4)
    go_ret
    exact ⟨rfl, K4.out⟩

set_option maxRecDepth 100000 in
theorem lifted (os : Os) (started : os.Started) (H : Type) (enc : TypeId × Value → H) :
    ReturnsInHanded {} Try.checked os 7 .any (Rows.walkPagesSpec.pre6 enc Try.prog Try.f7 Rows.walkPagesRow.domain false) (Rows.walkPagesSpec.post enc Try.prog Try.f7 false true false false) := by
  refine returnsInHanded_of_change (C := Try.checked) own started (by kernel_rfl) Try.func7
    (ChangeSpec.witness6 (enc := enc) (C := Try.checked) false ⟨#[], #[.int .u8 0, .slice none 0 0, .agg #[.int .u32 0, .int .u32 0, .int .u32 0]], []⟩ 8 (by kernel_rfl) (by kernel_rfl) (by kernel_rfl) (by kernel_rfl)) ?_
  intro W base args ds gs before hval0 hW hcnd _
  have hval : ∀ (j : Nat) t v, Try.f7.params[j]? = some t → args[j]? = some v → Value.okWide Try.prog W .any base t v := hval0
  have hW' := hW
  obtain ⟨p, q, hA0, hV, rfl, hfz, hnd⟩ := hW
  have hA : DataW.TrodAll enc Try.prog W 0 (fun _ => true) true Try.f7.params.toList args.toList ds p := hA0
  rw [Try.params7] at hA hval
  obtain ⟨v0, vs0, d0, ds0, p0, q0, hargs, rfl, rfl, h0, r0⟩ := trodAll_cons hA
  obtain ⟨v1, vs1, d1, ds1, p1, q1, rfl, rfl, rfl, h1, r1⟩ := trodAll_cons r0
  obtain ⟨v2, vs2, d2, ds2, p2, q2, rfl, rfl, rfl, h2, r2⟩ := trodAll_cons r1
  obtain ⟨rfl, rfl, rfl⟩ := trodAll_nil r2
  obtain rfl : args = #[v0, v1, v2] := by cases args; simp_all
  obtain ⟨rfl, rfl⟩ := trodVars_none hV
  have k0 := h0
  have lt0 : ∀ x ∈ p0, x.block < W.heap.size := by obtain ⟨m, hm⟩ := k0; exact DataW.trod_lt m _ _ _ hm
  obtain ⟨a0, rfl, rfl, rfl, w0⟩ := open_int Try.underlying5 (hval 0 5 v0 rfl rfl) h0
  have k1 := h1
  have lt1 : ∀ x ∈ p1, x.block < W.heap.size := by obtain ⟨m, hm⟩ := k1; exact DataW.trod_lt m _ _ _ hm
  obtain ⟨x1, len1, cap1, rfl⟩ := okWide_slice Try.underlying22 (hval 1 22 v1 rfl rfl)
  obtain ⟨z1, w1⟩ : ∃ zs, EntRow W x1 len1 cap1 zs := by
    obtain ⟨fuel, hf⟩ := h1
    exact ents_of hf
  have k2 := h2
  have lt2 : ∀ x ∈ p2, x.block < W.heap.size := by obtain ⟨m, hm⟩ := k2; exact DataW.trod_lt m _ _ _ hm
  obtain ⟨zs2, hl2, rfl, hw2⟩ := open_arr Try.underlying24 Try.underlying23 (by kernel_rfl) (by kernel_rfl) (hval 2 24 v2 rfl rfl) h2
  obtain ⟨a2f0, a2f1, a2f2, rfl⟩ := list3 zs2 hl2
  clear hA0 hval0
  refine (walk a0 w0 x1 len1 cap1 z1 a2f0 (hw2 _ (by simp)) a2f1 (hw2 _ (by simp)) a2f2 (hw2 _ (by simp)) W w1).mono fun e W' ⟨he, bel0⟩ => ?_
  have bel : Below W.heap.size W W' := bel0
  subst he
  exact ⟨_, rfl, _, _, _, [], _, [], hW', trodAll_mk1 (shut_bool Try.underlying4 _), (trodAll_cons_mk (Below.trod laidOut (by kernel_rfl) (of_decide_eq_true (by kernel_rfl)) k0 bel lt0) (trodAll_cons_mk (Below.trod laidOut (by kernel_rfl) (of_decide_eq_true (by kernel_rfl)) k1 bel lt1) (trodAll_cons_mk (Below.trod laidOut (by kernel_rfl) (of_decide_eq_true (by kernel_rfl)) k2 bel lt2) trodAll_mk0))), rfl, bel.frame _, fun h => by cases h⟩

theorem over : Rows.walkPagesRow.holds Try.pinned (OpenSpec.ofChange Rows.walkPagesSpec) :=
  OpenClaim.holds_of_wide 7 Try.f7 rfl rfl rfl rfl rfl rfl rfl ⟨rfl, rfl, rfl, rfl, rfl⟩ rfl rfl rfl rfl rfl (by kernel_rfl) Try.func7 (by kernel_rfl)
    (of_decide_eq_true (by kernel_rfl)) (by unfold Func.isWrapper; first | (rw [if_pos (by decide +kernel)]; kernel_rfl) | (rw [if_neg (by decide +kernel)]; exact ⟨rfl, rfl⟩))
    (fun os started H enc _ => lifted os started H enc)
end Go.Proofs.Ytahnmppnfoeffaa.walkPages
namespace Go.Proofs.Ytahnmppnfoeffaa

theorem walkPages_holds : Rows.WalkPagesSaid := walkPages.over
#print axioms walkPages_holds
end Go.Proofs.Ytahnmppnfoeffaa
