/- Part of a proof. -/
import Derived.Test.YtnignfloedcmlaaGreatDoorJ46
namespace Go.Proofs.YtnignfloedcmlaaGreatDoor
open Go.RowKit
set_option linter.unusedVariables false
set_option linter.unusedSimpArgs false
theorem cut_frame (Rb N k : Nat) (h : 64 * k + 64 ≤ N) (w : World) : (Instr.slice 22 (.slice (some ⟨Rb, 0, none⟩) N N) (some (.int .i64 (64 * (k : Int)))) (some (.int .i64 (64 * (k : Int) + 64))) none).run Tryz.prog w = .ok (.slice (some ⟨Rb, 64 * k, none⟩) 64 (N - 64 * k)) w := by
  have hs : (sizeOf (Tryz.prog.elem 22)).run Tryz.prog w = .ok 1 w := by kernel_rfl
  rw [run_slice_lh (P := Tryz.prog) w 22 _ N N (by kernel_rfl) .i64 .i64 _ _ (by omega) (by omega) (by omega), hs]
  have e1 : (64 * (k : Int)).toNat = 64 * k := by omega
  have e2 : (64 * (k : Int) + 64).toNat = 64 * k + 64 := by omega
  have e3 : ¬ N = 64 * k := by omega
  simp [sliced, Result.andThen, e1, e2, e3, Addr.add_lit]
set_option maxHeartbeats 8000000 in
set_option maxRecDepth 100000 in
theorem same12_any {w : World} {p pm R : Nat} {n : Nat} {x : MS} {G : List Nat} (H : Mach w p pm R (List.range n) x G) {q Rb : Nat} {vS : Value} {E0 : List Ev} {G2 : List Nat} (Q : RMach w q Rb x vS E0 G2) (ok : x.Ok) (hB : x.B.length = 64 * n) (hn : n ≤ 64) (hO : (x.d.O.length : Int) ≤ 900000) (hNt : (x.N.length : Int) ≤ 900000) :
    Calls Tryz.prog 7 #[mpt p, mpt q] w fun e w' => e = .returned (.bool true) ∧ Kep w w' := by
  obtain ⟨d, vn, Fd, Fn, M, _⟩ := Q
  obtain ⟨N, hN0⟩ : ∃ N, N = x.B.length := ⟨_, rfl⟩
  have HB := M.box
  rw [← hN0] at HB
  have hrow := M.row
  obtain ⟨xn, cn, rfl, LN0, _⟩ := M.nts.lies
  obtain ⟨cc, kk, ff, tt, vq, vo, vd, Fq, Fo, Fd2, D, _⟩ := M.dev
  obtain ⟨xo, co, rfl, LO0, _⟩ := D.o.lies
  obtain ⟨xd, cd, rfl, LD0, _⟩ := D.d.lies
  have DB := D.box
  clear D M
  have HQ : Hid (∀ W, Kep w W → RBx W q (mpt d) (rsl Rb N) x.s x.n (.slice xn x.N.length cn)) := fun W k => HB.kep k
  have HD : Hid (∀ W, Kep w W → W.heap[d]? = some (.cells (rdC x.d vS cc kk ff tt vq (.slice xo x.d.O.length co) (.slice xd x.d.D.length cd)) 56 (0, 0))) := fun W k => k.block DB
  have LO := hidd LO0
  have LD := hidd LD0
  have LN := hidd LN0
  have hN := hidd hNt
  have K0 := hidd (Kep.refl w)
  have HM1 : Hid (∀ W, Kep w W → Calls Tryz.prog 16 #[mpt p] W fun e w' => e = .returned (.agg x.s.v) ∧ Kep W w') := fun W k => mstate_any (H.kep k)
  have HM2 : Hid (∀ W, Kep w W → Calls Tryz.prog 17 #[mpt p] W fun e w' => e = .returned (.int .i64 x.n) ∧ w' = W) := fun W k => msteps_any (H.kep k)
  have HM3 : Hid (∀ W, Kep w W → Calls Tryz.prog 15 #[mpt p] W fun e w' => ∃ v, e = .returned v ∧ OwnB W w' v x.d.O ∧ Kep W w') := fun W k => moutput_any (H.kep k) (by omega)
  have HM4 : Hid (∀ W, Kep w W → Calls Tryz.prog 18 #[mpt p] W fun e w' => ∃ v, e = .returned v ∧ OwnB W w' v x.d.D ∧ Kep W w') := fun W k => mdisk_any (H.kep k) ok
  have HM5 : Hid (∀ W, Kep w W → Calls Tryz.prog 20 #[mpt p] W fun e w' => ∃ v, e = .returned v ∧ OwnT W w' v x.N ∧ Kep W w') := fun W k => mnotes_any (H.kep k) (by omega)
  have HMR : Hid (∀ W, Kep w W → Calls Tryz.prog 21 #[mpt p] W fun e w' => e = .returned (mpt pm) ∧ w' = W) := fun W k => mram_any (H.kep k)
  have hNn : N = 64 * n := by rw [hN0, hB]
  have HM6 : Hid (∀ W, Kep w W → Calls Tryz.prog 22 #[mpt pm] W fun e w' => e = .returned (.int .u32 (N : Int)) ∧ w' = W) := fun W k => by
    obtain ⟨_, _, _, _, a, _⟩ := H.kep k
    have := msize_any W (mpt pm) R (List.range n) a.mem.ram (by simp; omega)
    have e : (64 * ((List.range n).length : Int)) = (N : Int) := by simp; omega
    rw [e] at this
    exact this
  have HM7 : Hid (∀ W (k : Nat), k < n → Kep w W → Calls Tryz.prog 23 #[mpt pm, .int .i64 k] W fun e w' => ∃ y, e = .returned (.slice y 64 64) ∧ Str w' (.slice y 64 64) (strL (frameL x.B k)) ∧ Kep W w') := fun W k hk kw => by
    obtain ⟨_, _, _, _, a, _⟩ := H.kep kw
    refine (frame_yes W (mpt pm) R (List.range n) x.B a.mem.ram a.mem.row a.mem.fits k (by simpa using hk)).mono ?_
    rintro e w' ⟨rfl, k', hb⟩
    have e1 : (List.range n).getD k 0 = k := by simp [List.getD, hk]
    rw [e1] at hb
    have hl : (frameL x.B k).length = 64 := frameL_len (by omega)
    refine ⟨_, rfl, ?_, k'⟩
    have := (Lies.strAny (cap := 64) (.inr ⟨_, 0, rfl, block_lt hb, fun j u hj => by rw [Nat.zero_add, cell_of_block hb]; simpa using hj⟩ : Lies w' (some ⟨W.heap.size, 0, none⟩) (byt (frameL x.B k))))
    rwa [hl] at this
  have HS0 : Hid (∀ W (k : Nat), k < n → Kep w W → Sem.run Tryz.prog (convert 22 9 (.slice (some ⟨Rb, 64 * k, none⟩) 64 (N - 64 * k))) W = .ok (.string (strL (frameL x.B k))) W) := fun W k hk kw => by
    have hl : (frameL x.B k).length = 64 := frameL_len (by omega)
    have := (Lies.strAny (cap := N - 64 * k) (.inr ⟨Rb, 64 * k, rfl, (hrow.kep kw).lt ok.B, fun j u hj => by have := cells_row (hrow.kep kw) (64 * k) 64 (by omega) j u hj; rwa [Addr.add_lit] at this⟩ : Lies W (some ⟨Rb, 64 * k, none⟩) (byt (frameL x.B k)))) W (Kep.refl _)
    rwa [hl] at this
  have hss : ∀ w, Sem.run Tryz.prog (Op.equalIn 10000 26 (.agg x.s.v) (.agg x.s.v)) w = .ok true w := fun w => sta_same x.s w
  have hcl : ∀ (k : Nat), k < n → ∀ w, (Instr.slice 22 (.slice (some ⟨Rb, 0, none⟩) N N) (some (.int .i64 (64 * (k : Int)))) (some (.int .i64 (64 * (k : Int) + 64))) none).run Tryz.prog w = .ok (.slice (some ⟨Rb, 64 * k, none⟩) 64 (N - 64 * k)) w := fun k hk => cut_frame Rb N k (by omega)
  have HCL := hidd hcl
  have hNi : (N : Int) = 64 * (n : Int) := by omega
  have hN4 : (N : Int) ≤ 4096 := by omega
  have hNw : IntKind.u32.wrap (N : Int) = N := by unfold IntKind.wrap; simp [IntKind.signed, IntKind.bits]; omega
  have hNq : (N : Int).tdiv 64 = n := by rw [Int.tdiv_eq_ediv_of_nonneg (by omega)]; omega
  have hn' : (n : Int) ≤ 64 := by omega
  clear hNi hcl H HB hrow DB LN0 LO0 LD0 ok hB hN0 hNn hO hNt hn
  go_enter Tryz.func7, Tryz.ntmps7
  go_upto_region 1 with fail
  refine wp_region_held_drew (S := fun w' => Kep w w') (by kernel_rfl) ((Kep.refl _).drew) (fun hH => ?_)
  refine wpAnyH_take (i := 0) (v := mpt p) rfl (by kernel_rfl) (by kernel_rfl) (by kernel_rfl) (fun _ _ _ h => h) (.inl ⟨by rfl, by intro w hS; go_simp⟩) hH ?_
  (try simp only [jA, jB, jC, Act.put, jD, jE, jF])
  refine wpAnyH_take (i := 2) (v := mpt q) rfl (by kernel_rfl) (by kernel_rfl) (by kernel_rfl) (fun _ _ _ h => h) (.inl ⟨by rfl, by intro w hS; go_simp⟩) hH ?_
  (try simp only [jA, jB, jC, Act.put, jD, jE, jF])
  refine wpAnyH_take (i := 3) (v := mpt q) rfl (by kernel_rfl) (by kernel_rfl) (by kernel_rfl) (fun _ _ _ h => h) (.inl ⟨by rfl, by intro w hS; go_simp⟩) hH ?_
  (try simp only [jA, jB, jC, Act.put, jD, jE, jF])
  refine wpAnyH_take (i := 4) (v := .pointer (some ⟨q, 2, none⟩)) rfl (by kernel_rfl) (by kernel_rfl) (by kernel_rfl) (fun _ _ _ h => h) (.inl ⟨by rfl, by intro w hS; go_simp⟩) hH ?_
  (try simp only [jA, jB, jC, Act.put, jD, jE, jF])
  refine wpAnyH_take (i := 5) (v := .agg x.s.v) rfl (by kernel_rfl) (by kernel_rfl) (by kernel_rfl) (fun _ _ _ h => h) (yields_st rfl _ rfl q 2 rfl x.s (fun w hS => (HQ.out w (kep_trans K0.out hS)).st)) hH ?_
  (try simp only [jA, jB, jC, Act.put, jD, jE, jF])
  refine wpAnyH_ready (rs := [1]) (by kernel_rfl) (by simp) ?_
  refine AllReadyH.cons rfl (fun K hK => ?_) AllReadyH.nil
  rw [if_pos (by rfl)]
  go_simp
  refine (HM1.out _ (Kep.refl w).drew).mono ?_
  rintro e w8 ⟨rfl, k8⟩
  refine hK.out _ _ (kep_trans hH k8) (fun hH => ?_)
  refine wpAnyH_to (S' := fun w' => Kep w8 w') (fun w' h => kep_trans hH h) ?_
  have hH : Kep w8 w8 := Kep.refl _
  have K8 := hidd (kep_trans (Kep.refl w).drew k8)
  clear k8
  clear hK K
  (try simp only [jA, jB, jC, Act.put, jD, jE, jF])
  refine wpAnyH_take (i := 6) (v := .bool false) rfl (by kernel_rfl) (by kernel_rfl) (by kernel_rfl) (fun _ _ _ h => h) (.inl ⟨by rfl, by intro w hS; go_simp⟩) hH ?_
  (try simp only [jA, jB, jC, Act.put, jD, jE, jF])
  refine wpAnyH_take (i := 7) (v := .bool false) rfl (by kernel_rfl) (by kernel_rfl) (by kernel_rfl) (fun _ _ _ h => h) (.inl ⟨by rfl, by intro w hS; go_simp⟩) hH ?_
  (try simp only [jA, jB, jC, Act.put, jD, jE, jF])
  refine wpAnyH_take (i := 8) (v := mpt p) rfl (by kernel_rfl) (by kernel_rfl) (by kernel_rfl) (fun _ _ _ h => h) (.inl ⟨by rfl, by intro w hS; go_simp⟩) hH ?_
  (try simp only [jA, jB, jC, Act.put, jD, jE, jF])
  refine wpAnyH_take (i := 10) (v := mpt q) rfl (by kernel_rfl) (by kernel_rfl) (by kernel_rfl) (fun _ _ _ h => h) (.inl ⟨by rfl, by intro w hS; go_simp⟩) hH ?_
  (try simp only [jA, jB, jC, Act.put, jD, jE, jF])
  refine wpAnyH_take (i := 11) (v := mpt q) rfl (by kernel_rfl) (by kernel_rfl) (by kernel_rfl) (fun _ _ _ h => h) (.inl ⟨by rfl, by intro w hS; go_simp⟩) hH ?_
  (try simp only [jA, jB, jC, Act.put, jD, jE, jF])
  refine wpAnyH_take (i := 12) (v := .pointer (some ⟨q, 21, none⟩)) rfl (by kernel_rfl) (by kernel_rfl) (by kernel_rfl) (fun _ _ _ h => h) (.inl ⟨by rfl, by intro w hS; go_simp⟩) hH ?_
  (try simp only [jA, jB, jC, Act.put, jD, jE, jF])
  refine wpAnyH_take (i := 13) (v := .int .i64 x.n) rfl (by kernel_rfl) (by kernel_rfl) (by kernel_rfl) (fun _ _ _ h => h) (.inl ⟨by rfl, by intro w hS; have c1 : w.cell? ⟨q, 21, none⟩ = some (.int .i64 x.n) := (HQ.out w (kep_trans K8.out hS)).cn; clear hS; go_simp⟩) hH ?_
  (try simp only [jA, jB, jC, Act.put, jD, jE, jF])
  refine wpAnyH_ready (rs := [9]) (by kernel_rfl) (by simp) ?_
  refine AllReadyH.cons rfl (fun K hK => ?_) AllReadyH.nil
  rw [if_pos (by rfl)]
  go_simp
  refine (HM2.out _ K8.out).mono ?_
  rintro e w10 ⟨rfl, hw10⟩
  rw [hw10]
  clear hw10 w10
  refine hK.out _ _ hH (fun hH => ?_)
  clear hK K
  (try simp only [jA, jB, jC, Act.put, jD, jE, jF])
  refine wpAnyH_take (i := 14) (v := .bool false) rfl (by kernel_rfl) (by kernel_rfl) (by kernel_rfl) (fun _ _ _ h => h) (.inl ⟨by rfl, by intro w hS; go_simp⟩) hH ?_
  (try simp only [jA, jB, jC, Act.put, jD, jE, jF])
  refine wpAnyH_take (i := 15) (v := .bool false) rfl (by kernel_rfl) (by kernel_rfl) (by kernel_rfl) (fun _ _ _ h => h) (.inl ⟨by rfl, by intro w hS; go_simp⟩) hH ?_
  (try simp only [jA, jB, jC, Act.put, jD, jE, jF])
  refine wpAnyH_take (i := 16) (v := .bool false) rfl (by kernel_rfl) (by kernel_rfl) (by kernel_rfl) (fun _ _ _ h => h) (.inl ⟨by rfl, by intro w hS; go_simp⟩) hH ?_
  (try simp only [jA, jB, jC, Act.put, jD, jE, jF])
  refine wpAnyH_take (i := 17) (v := mpt p) rfl (by kernel_rfl) (by kernel_rfl) (by kernel_rfl) (fun _ _ _ h => h) (.inl ⟨by rfl, by intro w hS; go_simp⟩) hH ?_
  (try simp only [jA, jB, jC, Act.put, jD, jE, jF])
  refine wpAnyH_take (i := 20) (v := mpt q) rfl (by kernel_rfl) (by kernel_rfl) (by kernel_rfl) (fun _ _ _ h => h) (.inl ⟨by rfl, by intro w hS; go_simp⟩) hH ?_
  (try simp only [jA, jB, jC, Act.put, jD, jE, jF])
  refine wpAnyH_take (i := 21) (v := mpt q) rfl (by kernel_rfl) (by kernel_rfl) (by kernel_rfl) (fun _ _ _ h => h) (.inl ⟨by rfl, by intro w hS; go_simp⟩) hH ?_
  (try simp only [jA, jB, jC, Act.put, jD, jE, jF])
  refine wpAnyH_take (i := 22) (v := .pointer (some ⟨q, 0, none⟩)) rfl (by kernel_rfl) (by kernel_rfl) (by kernel_rfl) (fun _ _ _ h => h) (.inl ⟨by rfl, by intro w hS; go_simp⟩) hH ?_
  (try simp only [jA, jB, jC, Act.put, jD, jE, jF])
  refine wpAnyH_take (i := 23) (v := mpt d) rfl (by kernel_rfl) (by kernel_rfl) (by kernel_rfl) (fun _ _ _ h => h) (.inl ⟨by rfl, by intro w hS; have c1 : w.cell? ⟨q, 0, none⟩ = some (mpt d) := (HQ.out w (kep_trans K8.out hS)).cd; clear hS; go_simp⟩) hH ?_
  (try simp only [jA, jB, jC, Act.put, jD, jE, jF])
  refine wpAnyH_take (i := 24) (v := mpt d) rfl (by kernel_rfl) (by kernel_rfl) (by kernel_rfl) (fun _ _ _ h => h) (.inl ⟨by rfl, by intro w hS; go_simp⟩) hH ?_
  (try simp only [jA, jB, jC, Act.put, jD, jE, jF])
  refine wpAnyH_take (i := 25) (v := .pointer (some ⟨d, 5, none⟩)) rfl (by kernel_rfl) (by kernel_rfl) (by kernel_rfl) (fun _ _ _ h => h) (.inl ⟨by rfl, by intro w hS; go_simp⟩) hH ?_
  (try simp only [jA, jB, jC, Act.put, jD, jE, jF])
  refine wpAnyH_take (i := 26) (v := .slice xo x.d.O.length co) rfl (by kernel_rfl) (by kernel_rfl) (by kernel_rfl) (fun _ _ _ h => h) (.inl ⟨by rfl, by intro w hS; have c1 : w.cell? ⟨d, 5, none⟩ = some (.slice xo x.d.O.length co) := (cell_of_block (HD.out w (kep_trans K8.out hS))).trans rfl; clear hS; go_simp⟩) hH ?_
  (try simp only [jA, jB, jC, Act.put, jD, jE, jF])
  refine wpAnyH_take (i := 27) (v := .string (strL x.d.O)) rfl (by kernel_rfl) (by kernel_rfl) (by kernel_rfl) (fun _ _ _ h => h) (.inl ⟨by rfl, by intro w hS; have hc := (LO.out.strAny (cap := co)) w (kep_trans K8.out hS); clear hS; go_simp⟩) hH ?_
  (try simp only [jA, jB, jC, Act.put, jD, jE, jF])
  refine wpAnyH_ready (rs := [18]) (by kernel_rfl) (by simp) ?_
  refine AllReadyH.cons rfl (fun K hK => ?_) AllReadyH.nil
  rw [if_pos (by rfl)]
  go_simp
  refine (HM3.out _ K8.out).mono ?_
  rintro e w13 ⟨v13, rfl, ⟨F13, sl13, _⟩, k13⟩
  obtain ⟨x13, c13, rfl, L13, _⟩ := sl13.lies
  have L13 := hidd L13
  clear sl13
  refine hK.out _ _ (kep_trans hH k13) (fun hH => ?_)
  refine wpAnyH_to (S' := fun w' => Kep w13 w') (fun w' h => kep_trans hH h) ?_
  have hH : Kep w13 w13 := Kep.refl _
  have K13 := hidd (kep_trans K8.out k13)
  clear k13
  clear hK K
  (try simp only [jA, jB, jC, Act.put, jD, jE, jF])
  refine wpAnyH_take (i := 19) (v := .string (strL x.d.O)) rfl (by kernel_rfl) (by kernel_rfl) (by kernel_rfl) (fun _ _ _ h => h) (.inl ⟨by rfl, by intro w hS; have hc := (L13.out.strAny (cap := c13)) w hS; clear hS; go_simp⟩) hH ?_
  (try simp only [jA, jB, jC, Act.put, jD, jE, jF])
  refine wpAnyH_take (i := 28) (v := .bool false) rfl (by kernel_rfl) (by kernel_rfl) (by kernel_rfl) (fun _ _ _ h => h) (.inl ⟨by rfl, by intro w hS; go_simp⟩) hH ?_
  (try simp only [jA, jB, jC, Act.put, jD, jE, jF])
  refine wpAnyH_take (i := 29) (v := .bool false) rfl (by kernel_rfl) (by kernel_rfl) (by kernel_rfl) (fun _ _ _ h => h) (.inl ⟨by rfl, by intro w hS; go_simp⟩) hH ?_
  (try simp only [jA, jB, jC, Act.put, jD, jE, jF])
  refine wpAnyH_take (i := 30) (v := .bool false) rfl (by kernel_rfl) (by kernel_rfl) (by kernel_rfl) (fun _ _ _ h => h) (.inl ⟨by rfl, by intro w hS; go_simp⟩) hH ?_
  (try simp only [jA, jB, jC, Act.put, jD, jE, jF])
  refine wpAnyH_take (i := 31) (v := mpt p) rfl (by kernel_rfl) (by kernel_rfl) (by kernel_rfl) (fun _ _ _ h => h) (.inl ⟨by rfl, by intro w hS; go_simp⟩) hH ?_
  (try simp only [jA, jB, jC, Act.put, jD, jE, jF])
  refine wpAnyH_take (i := 34) (v := mpt q) rfl (by kernel_rfl) (by kernel_rfl) (by kernel_rfl) (fun _ _ _ h => h) (.inl ⟨by rfl, by intro w hS; go_simp⟩) hH ?_
  (try simp only [jA, jB, jC, Act.put, jD, jE, jF])
  refine wpAnyH_take (i := 35) (v := mpt q) rfl (by kernel_rfl) (by kernel_rfl) (by kernel_rfl) (fun _ _ _ h => h) (.inl ⟨by rfl, by intro w hS; go_simp⟩) hH ?_
  (try simp only [jA, jB, jC, Act.put, jD, jE, jF])
  refine wpAnyH_take (i := 36) (v := .pointer (some ⟨q, 0, none⟩)) rfl (by kernel_rfl) (by kernel_rfl) (by kernel_rfl) (fun _ _ _ h => h) (.inl ⟨by rfl, by intro w hS; go_simp⟩) hH ?_
  (try simp only [jA, jB, jC, Act.put, jD, jE, jF])
  refine wpAnyH_take (i := 37) (v := mpt d) rfl (by kernel_rfl) (by kernel_rfl) (by kernel_rfl) (fun _ _ _ h => h) (.inl ⟨by rfl, by intro w hS; have c1 : w.cell? ⟨q, 0, none⟩ = some (mpt d) := (HQ.out w (kep_trans K13.out hS)).cd; clear hS; go_simp⟩) hH ?_
  (try simp only [jA, jB, jC, Act.put, jD, jE, jF])
  refine wpAnyH_take (i := 38) (v := mpt d) rfl (by kernel_rfl) (by kernel_rfl) (by kernel_rfl) (fun _ _ _ h => h) (.inl ⟨by rfl, by intro w hS; go_simp⟩) hH ?_
  (try simp only [jA, jB, jC, Act.put, jD, jE, jF])
  refine wpAnyH_take (i := 39) (v := .pointer (some ⟨d, 6, none⟩)) rfl (by kernel_rfl) (by kernel_rfl) (by kernel_rfl) (fun _ _ _ h => h) (.inl ⟨by rfl, by intro w hS; go_simp⟩) hH ?_
  (try simp only [jA, jB, jC, Act.put, jD, jE, jF])
  refine wpAnyH_take (i := 40) (v := .slice xd x.d.D.length cd) rfl (by kernel_rfl) (by kernel_rfl) (by kernel_rfl) (fun _ _ _ h => h) (.inl ⟨by rfl, by intro w hS; have c1 : w.cell? ⟨d, 6, none⟩ = some (.slice xd x.d.D.length cd) := (cell_of_block (HD.out w (kep_trans K13.out hS))).trans rfl; clear hS; go_simp⟩) hH ?_
  (try simp only [jA, jB, jC, Act.put, jD, jE, jF])
  refine wpAnyH_take (i := 41) (v := .string (strL x.d.D)) rfl (by kernel_rfl) (by kernel_rfl) (by kernel_rfl) (fun _ _ _ h => h) (.inl ⟨by rfl, by intro w hS; have hc := (LD.out.strAny (cap := cd)) w (kep_trans K13.out hS); clear hS; go_simp⟩) hH ?_
  (try simp only [jA, jB, jC, Act.put, jD, jE, jF])
  refine wpAnyH_ready (rs := [32]) (by kernel_rfl) (by simp) ?_
  refine AllReadyH.cons rfl (fun K hK => ?_) AllReadyH.nil
  rw [if_pos (by rfl)]
  go_simp
  refine (HM4.out _ K13.out).mono ?_
  rintro e w14 ⟨v14, rfl, ⟨F14, sl14, _⟩, k14⟩
  obtain ⟨x14, c14, rfl, L14, _⟩ := sl14.lies
  have L14 := hidd L14
  clear sl14
  refine hK.out _ _ (kep_trans hH k14) (fun hH => ?_)
  refine wpAnyH_to (S' := fun w' => Kep w14 w') (fun w' h => kep_trans hH h) ?_
  have hH : Kep w14 w14 := Kep.refl _
  have K14 := hidd (kep_trans K13.out k14)
  clear k14
  clear hK K
  (try simp only [jA, jB, jC, Act.put, jD, jE, jF])
  refine wpAnyH_take (i := 33) (v := .string (strL x.d.D)) rfl (by kernel_rfl) (by kernel_rfl) (by kernel_rfl) (fun _ _ _ h => h) (.inl ⟨by rfl, by intro w hS; have hc := (L14.out.strAny (cap := c14)) w hS; clear hS; go_simp⟩) hH ?_
  (try simp only [jA, jB, jC, Act.put, jD, jE, jF])
  refine wpAnyH_take (i := 42) (v := .bool false) rfl (by kernel_rfl) (by kernel_rfl) (by kernel_rfl) (fun _ _ _ h => h) (.inl ⟨by rfl, by intro w hS; go_simp⟩) hH ?_
  (try simp only [jA, jB, jC, Act.put, jD, jE, jF])
  refine wpAnyH_take (i := 43) (v := .bool false) rfl (by kernel_rfl) (by kernel_rfl) (by kernel_rfl) (fun _ _ _ h => h) (.inl ⟨by rfl, by intro w hS; go_simp⟩) hH ?_
  (try simp only [jA, jB, jC, Act.put, jD, jE, jF])
  refine wpAnyH_take (i := 44) (v := .bool false) rfl (by kernel_rfl) (by kernel_rfl) (by kernel_rfl) (fun _ _ _ h => h) (.inl ⟨by rfl, by intro w hS; go_simp⟩) hH ?_
  (try simp only [jA, jB, jC, Act.put, jD, jE, jF])
  refine wpAnyH_take (i := 45) (v := mpt p) rfl (by kernel_rfl) (by kernel_rfl) (by kernel_rfl) (fun _ _ _ h => h) (.inl ⟨by rfl, by intro w hS; go_simp⟩) hH ?_
  (try simp only [jA, jB, jC, Act.put, jD, jE, jF])
  refine wpAnyH_take (i := 47) (v := mpt q) rfl (by kernel_rfl) (by kernel_rfl) (by kernel_rfl) (fun _ _ _ h => h) (.inl ⟨by rfl, by intro w hS; go_simp⟩) hH ?_
  (try simp only [jA, jB, jC, Act.put, jD, jE, jF])
  refine wpAnyH_take (i := 48) (v := mpt q) rfl (by kernel_rfl) (by kernel_rfl) (by kernel_rfl) (fun _ _ _ h => h) (.inl ⟨by rfl, by intro w hS; go_simp⟩) hH ?_
  (try simp only [jA, jB, jC, Act.put, jD, jE, jF])
  refine wpAnyH_take (i := 49) (v := .pointer (some ⟨q, 22, none⟩)) rfl (by kernel_rfl) (by kernel_rfl) (by kernel_rfl) (fun _ _ _ h => h) (.inl ⟨by rfl, by intro w hS; go_simp⟩) hH ?_
  (try simp only [jA, jB, jC, Act.put, jD, jE, jF])
  refine wpAnyH_take (i := 50) (v := .slice xn x.N.length cn) rfl (by kernel_rfl) (by kernel_rfl) (by kernel_rfl) (fun _ _ _ h => h) (.inl ⟨by rfl, by intro w hS; have c1 : w.cell? ⟨q, 22, none⟩ = some (.slice xn x.N.length cn) := (HQ.out w (kep_trans K14.out hS)).cN; clear hS; go_simp⟩) hH ?_
  (try simp only [jA, jB, jC, Act.put, jD, jE, jF])
  refine wpAnyH_ready (rs := [46]) (by kernel_rfl) (by simp) ?_
  refine AllReadyH.cons rfl (fun K hK => ?_) AllReadyH.nil
  rw [if_pos (by rfl)]
  go_simp
  refine (HM5.out _ K14.out).mono ?_
  rintro e w15 ⟨v15, rfl, ⟨F15, sl15, _⟩, k15⟩
  obtain ⟨x15, c15, rfl, L15, _⟩ := sl15.lies
  have L15 := hidd L15
  clear sl15
  refine hK.out _ _ (kep_trans hH k15) (fun hH => ?_)
  refine wpAnyH_to (S' := fun w' => Kep w15 w') (fun w' h => kep_trans hH h) ?_
  have hH : Kep w15 w15 := Kep.refl _
  have K15 := hidd (kep_trans K14.out k15)
  clear k15
  clear hK K
  (try simp only [jA, jB, jC, Act.put, jD, jE, jF])
  refine wpAnyH_ready (rs := [51]) (by kernel_rfl) (by simp) ?_
  refine AllReadyH.cons rfl (fun K hK => ?_) AllReadyH.nil
  rw [if_pos (by rfl)]
  go_simp
  refine (notes12_same w15 x15 xn c15 cn x.N hN.out L15.out (LN.out.kep K15.out)).mono ?_
  rintro e w16 ⟨rfl, k16⟩
  refine hK.out _ _ (kep_trans hH k16) (fun hH => ?_)
  refine wpAnyH_to (S' := fun w' => Kep w16 w') (fun w' h => kep_trans hH h) ?_
  have hH : Kep w16 w16 := Kep.refl _
  have K16 := hidd (kep_trans K15.out k16)
  clear k16
  clear hK K
  (try simp only [jA, jB, jC, Act.put, jD, jE, jF])
  refine wpAnyH_take (i := 52) (v := .bool false) rfl (by kernel_rfl) (by kernel_rfl) (by kernel_rfl) (fun _ _ _ h => h) (.inl ⟨by rfl, by intro w hS; go_simp⟩) hH ?_
  (try simp only [jA, jB, jC, Act.put, jD, jE, jF])
  refine wpAnyH_take (i := 53) (v := .bool false) rfl (by kernel_rfl) (by kernel_rfl) (by kernel_rfl) (fun _ _ _ h => h) (.inl ⟨by rfl, by intro w hS; go_simp⟩) hH ?_
  (try simp only [jA, jB, jC, Act.put, jD, jE, jF])
  refine wpAnyH_done (by kernel_rfl) ?_ _
  go_upto_region 4 with (go_at_call 21; refine (HMR.out _ K16.out).mono ?_; rintro e w18 ⟨rfl, hq18⟩; rw [hq18]; clear hq18 w18)
  refine wp_region_held_drew (S := fun w' => Kep w16 w') (by kernel_rfl) ((Kep.refl _).drew) (fun hH => ?_)
  refine wpAnyH_take (i := 0) (v := mpt pm) rfl (by kernel_rfl) (by kernel_rfl) (by kernel_rfl) (fun _ _ _ h => h) (.inl ⟨by rfl, by intro w hS; go_simp⟩) hH ?_
  (try simp only [jA, jB, jC, Act.put, jD, jE, jF])
  refine wpAnyH_take (i := 1) (v := .bool false) rfl (by kernel_rfl) (by kernel_rfl) (by kernel_rfl) (fun _ _ _ h => h) (.inl ⟨by rfl, by intro w hS; go_simp⟩) hH ?_
  (try simp only [jA, jB, jC, Act.put, jD, jE, jF])
  refine wpAnyH_take (i := 2) (v := .bool false) rfl (by kernel_rfl) (by kernel_rfl) (by kernel_rfl) (fun _ _ _ h => h) (.inl ⟨by rfl, by intro w hS; go_simp⟩) hH ?_
  (try simp only [jA, jB, jC, Act.put, jD, jE, jF])
  refine wpAnyH_take (i := 3) (v := mpt pm) rfl (by kernel_rfl) (by kernel_rfl) (by kernel_rfl) (fun _ _ _ h => h) (.inl ⟨by rfl, by intro w hS; go_simp⟩) hH ?_
  (try simp only [jA, jB, jC, Act.put, jD, jE, jF])
  refine wpAnyH_take (i := 5) (v := mpt q) rfl (by kernel_rfl) (by kernel_rfl) (by kernel_rfl) (fun _ _ _ h => h) (.inl ⟨by rfl, by intro w hS; go_simp⟩) hH ?_
  (try simp only [jA, jB, jC, Act.put, jD, jE, jF])
  refine wpAnyH_take (i := 6) (v := mpt q) rfl (by kernel_rfl) (by kernel_rfl) (by kernel_rfl) (fun _ _ _ h => h) (.inl ⟨by rfl, by intro w hS; go_simp⟩) hH ?_
  (try simp only [jA, jB, jC, Act.put, jD, jE, jF])
  refine wpAnyH_take (i := 7) (v := .pointer (some ⟨q, 1, none⟩)) rfl (by kernel_rfl) (by kernel_rfl) (by kernel_rfl) (fun _ _ _ h => h) (.inl ⟨by rfl, by intro w hS; go_simp⟩) hH ?_
  (try simp only [jA, jB, jC, Act.put, jD, jE, jF])
  refine wpAnyH_take (i := 8) (v := .pointer (some ⟨q, 1, none⟩)) rfl (by kernel_rfl) (by kernel_rfl) (by kernel_rfl) (fun _ _ _ h => h) (.inl ⟨by rfl, by intro w hS; go_simp⟩) hH ?_
  (try simp only [jA, jB, jC, Act.put, jD, jE, jF])
  refine wpAnyH_take (i := 9) (v := rsl Rb N) rfl (by kernel_rfl) (by kernel_rfl) (by kernel_rfl) (fun _ _ _ h => h) (.inl ⟨by rfl, by intro w hS; have c1 : w.cell? ⟨q, 1, none⟩ = some (rsl Rb N) := (HQ.out w (kep_trans K16.out hS)).cr; clear hS; go_simp⟩) hH ?_
  (try simp only [jA, jB, jC, Act.put, jD, jE, jF])
  refine wpAnyH_take (i := 10) (v := .int .i64 (N : Int)) rfl (by kernel_rfl) (by kernel_rfl) (by kernel_rfl) (fun _ _ _ h => h) (.inl ⟨by rfl, by intro w hS; go_simp⟩) hH ?_
  (try simp only [jA, jB, jC, Act.put, jD, jE, jF])
  refine wpAnyH_take (i := 11) (v := .int .u32 (N : Int)) rfl (by kernel_rfl) (by kernel_rfl) (by kernel_rfl) (fun _ _ _ h => h) (.inl ⟨by rfl, by intro w hS; go_simp⟩) hH ?_
  (try simp only [jA, jB, jC, Act.put, jD, jE, jF])
  refine wpAnyH_ready (rs := [4]) (by kernel_rfl) (by simp) ?_
  refine AllReadyH.cons rfl (fun K hK => ?_) AllReadyH.nil
  rw [if_pos (by rfl)]
  go_simp
  refine (HM6.out _ (kep_trans K16.out (Kep.refl _).drew)).mono ?_
  rintro e w17 ⟨rfl, hw17⟩
  rw [hw17]
  clear hw17 w17
  refine hK.out _ _ hH (fun hH => ?_)
  clear hK K
  (try simp only [jA, jB, jC, Act.put, jD, jE, jF])
  refine wpAnyH_take (i := 12) (v := .bool false) rfl (by kernel_rfl) (by kernel_rfl) (by kernel_rfl) (fun _ _ _ h => h) (.inl ⟨by rfl, by intro w hS; go_simp⟩) hH ?_
  (try simp only [jA, jB, jC, Act.put, jD, jE, jF])
  refine wpAnyH_take (i := 13) (v := .bool false) rfl (by kernel_rfl) (by kernel_rfl) (by kernel_rfl) (fun _ _ _ h => h) (.inl ⟨by rfl, by intro w hS; go_simp⟩) hH ?_
  (try simp only [jA, jB, jC, Act.put, jD, jE, jF])
  refine wpAnyH_done (by kernel_rfl) ?_ _
  have KD := hidd (kep_trans K16.out (Kep.refl w16).drew)
  generalize w16.drew = wd at KD ⊢
  go_wp2_with fail
  go_loopw [6] (fun i wr => ∃ k : Nat, (k : Int) ≤ n ∧ i = .int .i64 k ∧ Hid (Kep w wr)) (fun i _ => 100 - (intOf i).toNat)
  case atStart => exact ⟨0, by omega, rfl, KD.out⟩
  case round =>
    obtain ⟨k, hk, rfl, KR⟩ := hrel
    have c1 : wr.cell? ⟨q, 1, none⟩ = some (rsl Rb N) := (HQ.out wr KR.out).cr
    by_cases hlt : k < n
    · have hlt' : (k : Int) < n := by omega
      have hsl := HCL.out k hlt
      have HS2 := hidd (fun (W : World) (kw : Kep w W) => HS0.out W k hlt kw)
      have hw1 : IntKind.i64.wrap (64 * (k : Int)) = 64 * (k : Int) := by rw [IntKind.wrap_i64]; omega
      have hw2 : IntKind.i64.wrap (64 * (k : Int) + 64) = 64 * (k : Int) + 64 := by rw [IntKind.wrap_i64]; omega
      go_upto_region 9 with fail
      clear c1
      refine wp_region_held_drew (S := fun w' => Kep wr w') (by kernel_rfl) ((Kep.refl _).drew) (fun hH => ?_)
      refine wpAnyH_take (i := 0) (v := mpt pm) rfl (by kernel_rfl) (by kernel_rfl) (by kernel_rfl) (fun _ _ _ h => h) (.inl ⟨by rfl, by intro w hS; go_simp⟩) hH ?_
      (try simp only [jA, jB, jC, Act.put, jD, jE, jF])
      refine wpAnyH_take (i := 1) (v := .int .i64 (k : Int)) rfl (by kernel_rfl) (by kernel_rfl) (by kernel_rfl) (fun _ _ _ h => h) (.inl ⟨by rfl, by intro w hS; go_simp⟩) hH ?_
      (try simp only [jA, jB, jC, Act.put, jD, jE, jF])
      refine wpAnyH_take (i := 4) (v := mpt q) rfl (by kernel_rfl) (by kernel_rfl) (by kernel_rfl) (fun _ _ _ h => h) (.inl ⟨by rfl, by intro w hS; go_simp⟩) hH ?_
      (try simp only [jA, jB, jC, Act.put, jD, jE, jF])
      refine wpAnyH_take (i := 5) (v := mpt q) rfl (by kernel_rfl) (by kernel_rfl) (by kernel_rfl) (fun _ _ _ h => h) (.inl ⟨by rfl, by intro w hS; go_simp⟩) hH ?_
      (try simp only [jA, jB, jC, Act.put, jD, jE, jF])
      refine wpAnyH_take (i := 6) (v := .pointer (some ⟨q, 1, none⟩)) rfl (by kernel_rfl) (by kernel_rfl) (by kernel_rfl) (fun _ _ _ h => h) (.inl ⟨by rfl, by intro w hS; go_simp⟩) hH ?_
      (try simp only [jA, jB, jC, Act.put, jD, jE, jF])
      refine wpAnyH_take (i := 7) (v := .pointer (some ⟨q, 1, none⟩)) rfl (by kernel_rfl) (by kernel_rfl) (by kernel_rfl) (fun _ _ _ h => h) (.inl ⟨by rfl, by intro w hS; go_simp⟩) hH ?_
      (try simp only [jA, jB, jC, Act.put, jD, jE, jF])
      refine wpAnyH_take (i := 8) (v := rsl Rb N) rfl (by kernel_rfl) (by kernel_rfl) (by kernel_rfl) (fun _ _ _ h => h) (.inl ⟨by rfl, by intro w hS; have c1 : w.cell? ⟨q, 1, none⟩ = some (rsl Rb N) := (HQ.out w (kep_trans KR.out hS)).cr; clear hS; go_simp⟩) hH ?_
      (try simp only [jA, jB, jC, Act.put, jD, jE, jF])
      refine wpAnyH_take (i := 9) (v := .int .i64 (k : Int)) rfl (by kernel_rfl) (by kernel_rfl) (by kernel_rfl) (fun _ _ _ h => h) (.inl ⟨by rfl, by intro w hS; go_simp⟩) hH ?_
      (try simp only [jA, jB, jC, Act.put, jD, jE, jF])
      refine wpAnyH_take (i := 10) (v := .int .i64 (64 * (k : Int))) rfl (by kernel_rfl) (by kernel_rfl) (by kernel_rfl) (fun _ _ _ h => h) (.inl ⟨by rfl, by intro w hS; go_simp⟩) hH ?_
      (try simp only [jA, jB, jC, Act.put, jD, jE, jF])
      refine wpAnyH_take (i := 11) (v := .int .i64 (k : Int)) rfl (by kernel_rfl) (by kernel_rfl) (by kernel_rfl) (fun _ _ _ h => h) (.inl ⟨by rfl, by intro w hS; go_simp⟩) hH ?_
      (try simp only [jA, jB, jC, Act.put, jD, jE, jF])
      refine wpAnyH_take (i := 12) (v := .int .i64 (64 * (k : Int))) rfl (by kernel_rfl) (by kernel_rfl) (by kernel_rfl) (fun _ _ _ h => h) (.inl ⟨by rfl, by intro w hS; go_simp⟩) hH ?_
      (try simp only [jA, jB, jC, Act.put, jD, jE, jF])
      refine wpAnyH_take (i := 13) (v := .int .i64 (64 * (k : Int) + 64)) rfl (by kernel_rfl) (by kernel_rfl) (by kernel_rfl) (fun _ _ _ h => h) (.inl ⟨by rfl, by intro w hS; go_simp⟩) hH ?_
      (try simp only [jA, jB, jC, Act.put, jD, jE, jF])
      refine wpAnyH_take (i := 14) (v := .slice (some ⟨Rb, 64 * k, none⟩) 64 (N - 64 * k)) rfl (by kernel_rfl) (by kernel_rfl) (by kernel_rfl) (fun _ _ _ h => h) (.inl ⟨by rfl, by intro w hS; have hc := hsl w; clear hS; go_simp⟩) hH ?_
      (try simp only [jA, jB, jC, Act.put, jD, jE, jF])
      refine wpAnyH_take (i := 15) (v := .string (strL (frameL x.B k))) rfl (by kernel_rfl) (by kernel_rfl) (by kernel_rfl) (fun _ _ _ h => h) (.inl ⟨by rfl, by intro w hS; have hc := HS2.out w (kep_trans KR.out hS); clear hS; go_simp⟩) hH ?_
      (try simp only [jA, jB, jC, Act.put, jD, jE, jF])
      refine wpAnyH_ready (rs := [2]) (by kernel_rfl) (by simp) ?_
      refine AllReadyH.cons rfl (fun K hK => ?_) AllReadyH.nil
      rw [if_pos (by rfl)]
      go_simp
      refine (HM7.out _ k hlt (kep_trans KR.out (Kep.refl _).drew)).mono ?_
      rintro e w20 ⟨x20, rfl, L20, k20⟩
      have L20 := hidd L20
      refine hK.out _ _ (kep_trans hH k20) (fun hH => ?_)
      refine wpAnyH_to (S' := fun w' => Kep w20 w') (fun w' h => kep_trans hH h) ?_
      have hH : Kep w20 w20 := Kep.refl _
      have K20 := hidd (kep_trans (kep_trans KR.out (Kep.refl _).drew) k20)
      clear k20
      clear hK K
      (try simp only [jA, jB, jC, Act.put, jD, jE, jF])
      refine wpAnyH_take (i := 3) (v := .string (strL (frameL x.B k))) rfl (by kernel_rfl) (by kernel_rfl) (by kernel_rfl) (fun _ _ _ h => h) (.inl ⟨by rfl, by intro w hS; have hc := L20.out w hS; clear hS; go_simp⟩) hH ?_
      (try simp only [jA, jB, jC, Act.put, jD, jE, jF])
      refine wpAnyH_take (i := 16) (v := .bool false) rfl (by kernel_rfl) (by kernel_rfl) (by kernel_rfl) (fun _ _ _ h => h) (.inl ⟨by rfl, by intro w hS; go_simp⟩) hH ?_
      (try simp only [jA, jB, jC, Act.put, jD, jE, jF])
      refine wpAnyH_done (by kernel_rfl) ?_ _
      go_wp2_with fail
      go_roundw
      case rel => exact ⟨k + 1, by omega, by go_num, K20.out⟩
      case measure => simp [intOf]; omega
    · obtain rfl : k = n := by omega
      go_wp2_with fail
      go_ret
      exact ⟨rfl, KR.out⟩
end Go.Proofs.YtnignfloedcmlaaGreatDoor
