/- For every guest and two numbers, the law MachineParts returns true: a run of some steps, and of some more, is one of both together. -/
import Derived.Test.YtojoobonienhnaaGreatDoorRows
import Derived.Test.YtojoobonienhnaaGreatDoorTie
import Derived.Test.YtojoobonienhnaaGreatDoorCards
import Derived.WalkKit
import Derived.ProofKit
import Derived.OpenShut
import Derived.ShutString
import Derived.ChangeOld
import Derived.Below
import Derived.Lib.SmallJoins
import Derived.Lay
import Derived.SevenTiedAt
import Derived.Stop.Joined
import Derived.Test.YtojoobonienhnaaGreatDoorJ92
namespace Go.Proofs.YtojoobonienhnaaGreatDoor.machineParts
open Go.ChangeShapes Go.WideShapes Go.ChangeAt Go.RowKit
set_option linter.unusedVariables false
set_option linter.unusedSimpArgs false
theorem own : ownKnob Tryz.prog.godebug = none := by kernel_rfl
theorem laidOut : laidOutB Tryz.prog = true := by kernel_rfl
abbrev laidL : List (String × DataW Unit) := [("mummer/isa.forms", Rows.laid_mummer_isa_forms), ("mummer/isa.spans", Rows.laid_mummer_isa_spans)]
theorem gst_size (fr : Int) (vi vc : Value) (en : Int) (s : Sta) (vs vd : Value) : (Tryz.prog.info? 41).map (·.size) = some (gstV fr vi vc en s vs vd).size := by kernel_rfl
theorem room_of {k : Nat} {x : MS} (hN : x.N = []) (hn : x.n = 0) (hO : x.d.O = []) (hk : k ≤ 900000) : Room k x := ⟨by rw [hN]; simpa using hk, by rw [hO]; simpa using hk, by rw [hn]; omega⟩
set_option maxHeartbeats 8000000 in
set_option maxRecDepth 100000 in
theorem walk (fr : Int) (xi : Option Addr) (li ci : Nat) (Z : List Int) (xc : Option Addr) (lc cc : Nat) (C : List In4) (en : Int) (s : Sta) (xs : Option Addr) (ls cs : Nat) (E : List Ev) (xd : Option Addr) (ld cd : Nat) (D : List Int) (hfr : -9223372036854775808 ≤ fr ∧ fr ≤ 9223372036854775807) (a1 : Int) (w1 : (Lit.int .u8 a1).wf = true) (a2 : Int) (w2 : (Lit.int .u8 a2).wf = true) (w : World) (w0 : GstIn w fr xi li ci Z xc lc cc C en s xs ls cs E xd ld cd D) (hT : Tabs w) :
    Calls Tryz.prog 4 #[.agg (gstV fr (.slice xi li ci) (.slice xc lc cc) en s (.slice xs ls cs) (.slice xd ld cd)), .int .u8 a1, .int .u8 a2] w fun e w' => e = .returned (.bool true) ∧ Kep w w' := by
  have I' := hidd w0
  have T' := hidd hT
  have F' := hidd hfr
  obtain ⟨V, hV⟩ : ∃ V, Hid (gstV fr (.slice xi li ci) (.slice xc lc cc) en s (.slice xs ls cs) (.slice xd ld cd) = V) := ⟨_, rfl⟩
  obtain ⟨n, hn⟩ : ∃ n : Nat, a1 % 100 = (n : Int) ∧ n < 100 := ⟨(a1 % 100).toNat, by omega, by omega⟩
  obtain ⟨k, hk⟩ : ∃ k : Nat, a2 % 100 = (k : Int) ∧ k < 100 := ⟨(a2 % 100).toNat, by omega, by omega⟩
  obtain ⟨eqn, hn⟩ := hn
  obtain ⟨eqk, hk⟩ := hk
  have g1 := gu8_of w1
  have g2 := gu8_of w2
  have HM : Hid (∀ w', Kep w w' → Calls Tryz.prog 14 #[.agg V] w' (MadeP w' (nFr fr) (gstX fr Z C en s E D) (.slice xs ls cs) E D)) := fun w' k => by rw [← hV.out]; exact made12_any (I'.out.kep k) F'.out (T'.out.grown k)
  have HW : Hid (∀ w', Kep w w' → Calls Tryz.prog 11 #[] w' fun e w'' => e = .returned (.bool true) ∧ Kep w' w'') := fun w' k => works12_any w' (T'.out.grown k)
  rw [hV.out]
  have hsz : Hid ((Tryz.prog.info? 41).map (·.size) = some V.size) := by rw [Hid, ← hV.out]; exact gst_size _ _ _ _ _ _ _
  have HN := hidd hn
  have HK := hidd hk
  clear w0 hfr hT w1 w2 hn hk
  go_enter Tryz.func4, Tryz.ntmps4
  go_upto_region 1 with fail
  obtain ⟨i1, q1⟩ : ∃ i1, Hid (i1 = w.heap.size) := ⟨_, rfl⟩
  rw [← q1.out]
  have B1 := hidd (show (w.alloc (.cells V 41)).heap[i1]? = some (.cells V 41 (0, 0)) by rw [q1.out]; exact hat _ _ _ rfl)
  have K1 := hidd ((Kep.refl w).alloc (.cells V 41))
  generalize w.alloc (.cells V 41) = W1 at B1 K1 ⊢
  refine wp_region_lit ?_
  refine wpList_load_row (by rfl) 41 _ (by rfl) i1 (by rfl) 41 _ (0, 0) _ B1.out Tryz.underlying41 rfl hsz.out ?_
  go_wp2_with fail
  refine (HM.out W1 K1.out).mono ?_
  rintro e w3 (⟨he, rfl, k3⟩ | ⟨he, p, pm, R, G, q, Rb, G2, rfl, P⟩)
  · have B3 := hidd (k3.block B1.out)
    have K3 := hidd (kep_trans K1.out k3)
    clear k3 B1 K1
    go_upto_region 2 with fail
    refine wp_region_lit ?_
    refine wpList_load_row (by rfl) 41 _ (by rfl) i1 (by rfl) 41 _ (0, 0) _ B3.out Tryz.underlying41 rfl hsz.out ?_
    go_wp2_with fail
    refine (HM.out w3 K3.out).mono ?_
    rintro e w4 (⟨_, rfl, k4⟩ | ⟨he', _⟩)
    · go_wp2_with fail
      go_ret
      exact ⟨rfl, kep_trans K3.out k4⟩
    · exact absurd he' he
  obtain ⟨x, hx⟩ : ∃ x, Hid (gstX fr Z C en s E D = x) := ⟨_, rfl⟩
  have xn : Hid (x.n = 0) := by rw [Hid, ← hx.out]; rfl
  have xN : Hid (x.N = []) := by rw [Hid, ← hx.out]; rfl
  have xO : Hid (x.d.O = []) := by rw [Hid, ← hx.out]; rfl
  have xB : Hid (x.B ≠ []) := by
    rw [Hid, ← hx.out]
    intro e
    have h1 := gstL_len fr Z C en
    have h2 := nFr_range fr
    rw [show gstL fr Z C en = [] from e] at h1
    simp at h1; omega
  have okx : Hid x.Ok := by
    rw [Hid, ← hx.out]
    exact ms0_ok (ds0_ok he I'.out.ev I'.out.db) (errI_small he).1 (msk_ok I'.out.so) (by have h := xB.out; rw [← hx.out] at h; exact h)
  obtain ⟨ix, hix⟩ : ∃ ix, Hid (List.range (nFr fr) = ix) := ⟨_, rfl⟩
  rw [hx.out] at HM
  have A3 : Hid (Mach w3 p pm R ix x G) := by rw [Hid, ← hix.out, ← hx.out]; exact P.mch
  have K3 := hidd (kep_trans K1.out P.kep)
  have B3 := hidd (P.kep.block B1.out)
  have N3 : Hid (∀ g ∈ R :: G, w.heap.size ≤ g) := fun g hg => by have := P.new g hg; have := K1.out.size; omega
  have he' := hidd he
  clear P he B1 K1
  go_upto_region 2 with fail
  refine wp_region_lit ?_
  refine wpList_load_row (by rfl) 41 _ (by rfl) i1 (by rfl) 41 _ (0, 0) _ B3.out Tryz.underlying41 rfl hsz.out ?_
  go_wp2_with fail
  refine (HM.out w3 K3.out).mono ?_
  rintro e w4 (⟨he2, _⟩ | ⟨_, p', pm', R', G', q', Rb', G2', rfl, P⟩)
  · exact absurd he'.out he2
  have T4 : Hid (Twin w p pm R ix x p' pm' R' ix x G G' w4) := Twin.of A3.out xB.out K3.out N3.out (by rw [← hix.out]; exact P.mch) xB.out P.kep P.new
  have by3 : Hid (Byts x.B ∧ Fits x.B ix) := by obtain ⟨_, _, _, _, m, _⟩ := A3.out; exact ⟨m.mem.byts, m.mem.fits⟩
  clear P A3 K3 B3 N3 HM
  have rm0 : Hid (Room 200 x) := room_of xN.out xn.out xO.out (by omega)
  have R1 := hidd (run_ok (m := 200 - n) n okx.out by3.out.1 by3.out.2 (rm0.out.less (by have := HN.out; omega)))
  have hX : Hid (runX ix (n + k) x = runX ix k (runX ix n x)) := runX_add ix n k x
  have hC : Hid (((runN ix (n + k) x : Nat) : Int) = (runN ix n x : Int) + (runN ix k (runX ix n x) : Int)) := by rw [Hid, runN_add]; simp
  have hXn : Hid ((runX ix (n + k) x).n = (runN ix n x : Int) + (runN ix k (runX ix n x) : Int)) := by rw [Hid, run_n, xn.out, Int.zero_add]; exact hC.out
  have okX := hidd (run_ok (m := 0) (n + k) okx.out by3.out.1 by3.out.2 (rm0.out.less (by have := HN.out; have := HK.out; omega)))
  have la := runN_le ix n x
  have lb := runN_le ix k (runX ix n x)
  have ru1 : Hid (∀ w', Twin w p pm R ix x p' pm' R' ix x G G' w' → Calls Tryz.prog 15 #[.pointer (some ⟨p, 0, none⟩), .int .i64 n] w' fun e w'' => e = .returned (.int .i64 (runN ix n x)) ∧ ∃ G1, Twin w p pm R ix (runX ix n x) p' pm' R' ix x G1 G' w'') := fun w' t => t.run okx.out xB.out T'.out n (by have := HN.out; omega) (rm0.out.less (by have := HN.out; omega))
  have ru2 : Hid (∀ w' G1, Twin w p pm R ix (runX ix n x) p' pm' R' ix x G1 G' w' → Calls Tryz.prog 15 #[.pointer (some ⟨p, 0, none⟩), .int .i64 k] w' fun e w'' => e = .returned (.int .i64 (runN ix k (runX ix n x))) ∧ ∃ G1, Twin w p pm R ix (runX ix (n + k) x) p' pm' R' ix x G1 G' w'') := fun w' G1 t => by rw [hX.out]; exact t.run R1.out.1 xB.out T'.out k (by have := HK.out; omega) (R1.out.2.2.2.less (by have := HK.out; have := HN.out; omega))
  have ru3 : Hid (∀ w' G1, Twin w p' pm' R' ix x p pm R ix (runX ix (n + k) x) G' G1 w' → Calls Tryz.prog 15 #[.pointer (some ⟨p', 0, none⟩), .int .i64 ((n : Int) + k)] w' fun e w'' => e = .returned (.int .i64 ((runN ix n x : Int) + (runN ix k (runX ix n x) : Int))) ∧ ∃ G2, Twin w p' pm' R' ix (runX ix (n + k) x) p pm R ix (runX ix (n + k) x) G2 G1 w'') := fun w' G1 t => by
    have h := t.run okx.out okX.out.1.B T'.out (n + k) (by have := HN.out; have := HK.out; omega) (rm0.out.less (by have := HN.out; have := HK.out; omega))
    rw [hC.out] at h
    rw [← Int.natCast_add]
    exact h
  clear hX hC R1
  generalize runX ix (n + k) x = X at ru2 ru3 hXn okX
  generalize runX ix n x = Y at ru1 ru2 ru3 hXn lb
  generalize runN ix k Y = b at ru2 ru3 hXn lb
  generalize runN ix n x = a at ru1 ru3 hXn la
  have ia : (a : Int) ≤ 100 := by have := HN.out; omega
  have ib : (b : Int) ≤ 100 := by have := HK.out; omega
  have in_ : (n : Int) < 100 := by have := HN.out; omega
  have ik_ : (k : Int) < 100 := by have := HK.out; omega
  clear la lb
  go_upto_region 6 with fail
  go_upto_region 7 with (go_at_call 15; refine (ru1.out _ T4.out).mono ?_; rintro e w5 ⟨rfl, G5, t5⟩)
  have T5 := hidd t5
  clear t5 T4
  go_upto_region 8 with (go_at_call 15; refine (ru2.out _ _ T5.out).mono ?_; rintro e w6 ⟨rfl, G6, t6⟩)
  have T6 := hidd t6.swap
  clear t6 T5
  go_upto_region 9 with (go_at_call 15; refine (ru3.out _ _ T6.out).mono ?_; rintro e w7 ⟨rfl, G7, t7⟩)
  have T7 := hidd t7
  have K7 := hidd t7.kep
  clear t7 T6 ru1 ru2 ru3
  have hss : ∀ w, Sem.run Tryz.prog (Op.equalIn 10000 26 (.agg X.s.v) (.agg X.s.v)) w = .ok true w := fun w => sta_same X.s w
  have wr1 : IntKind.i64.wrap ((a : Int) + (b : Int)) = (a : Int) + (b : Int) := by unfold IntKind.wrap; simp [IntKind.signed, IntKind.bits]; omega
  have Oc : Hid ((X.d.O.length : Int) ≤ 900000) := by have := okX.out.2.2.2.O; unfold Hid; omega
  have Nc : Hid ((X.N.length : Int) ≤ 900000) := by have := okX.out.2.2.2.N; unfold Hid; omega
  have T7d := hidd (T7.out.kept (Kep.refl w7).drew)
  refine wp_region_held_drew (S := fun w' => Kep w7.drew w') (by kernel_rfl) (Kep.refl _) (fun hH => ?_)
  refine wpAnyH_take (i := 0) (v := .int .i64 (a : Int)) rfl (by kernel_rfl) (by kernel_rfl) (by kernel_rfl) (fun _ _ _ h => h) (.inl ⟨by rfl, by intro w hS; go_simp⟩) hH ?_
  (try dsimp only [Act.put]); (try simp only [jA, jB, jC, Act.put, jD, jE, jF])
  refine wpAnyH_take (i := 1) (v := .int .i64 (b : Int)) rfl (by kernel_rfl) (by kernel_rfl) (by kernel_rfl) (fun _ _ _ h => h) (.inl ⟨by rfl, by intro w hS; go_simp⟩) hH ?_
  (try dsimp only [Act.put]); (try simp only [jA, jB, jC, Act.put, jD, jE, jF])
  refine wpAnyH_take (i := 2) (v := .int .i64 ((a : Int) + (b : Int))) rfl (by kernel_rfl) (by kernel_rfl) (by kernel_rfl) (fun _ _ _ h => h) (.inl ⟨by rfl, by intro w hS; go_simp⟩) hH ?_
  (try dsimp only [Act.put]); (try simp only [jA, jB, jC, Act.put, jD, jE, jF])
  refine wpAnyH_take (i := 3) (v := .int .i64 ((a : Int) + (b : Int))) rfl (by kernel_rfl) (by kernel_rfl) (by kernel_rfl) (fun _ _ _ h => h) (.inl ⟨by rfl, by intro w hS; go_simp⟩) hH ?_
  (try dsimp only [Act.put]); (try simp only [jA, jB, jC, Act.put, jD, jE, jF])
  refine wpAnyH_take (i := 4) (v := .bool true) rfl (by kernel_rfl) (by kernel_rfl) (by kernel_rfl) (fun _ _ _ h => h) (.inl ⟨by rfl, by intro w hS; go_simp⟩) hH ?_
  (try dsimp only [Act.put]); (try simp only [jA, jB, jC, Act.put, jD, jE, jF])
  refine wpAnyH_take (i := 5) (v := .bool true) rfl (by kernel_rfl) (by kernel_rfl) (by kernel_rfl) (fun _ _ _ h => h) (.inl ⟨by rfl, by intro w hS; go_simp⟩) hH ?_
  (try dsimp only [Act.put]); (try simp only [jA, jB, jC, Act.put, jD, jE, jF])
  refine wpAnyH_take (i := 6) (v := mpt p) rfl (by kernel_rfl) (by kernel_rfl) (by kernel_rfl) (fun _ _ _ h => h) (.inl ⟨by rfl, by intro w hS; go_simp⟩) hH ?_
  (try dsimp only [Act.put]); (try simp only [jA, jB, jC, Act.put, jD, jE, jF])
  refine wpAnyH_take (i := 8) (v := mpt p') rfl (by kernel_rfl) (by kernel_rfl) (by kernel_rfl) (fun _ _ _ h => h) (.inl ⟨by rfl, by intro w hS; go_simp⟩) hH ?_
  (try dsimp only [Act.put]); (try simp only [jA, jB, jC, Act.put, jD, jE, jF])
  refine wpAnyH_ready (rs := [7]) (by kernel_rfl) (by simp) ?_
  refine AllReadyH.cons rfl (fun K hK => ?_) AllReadyH.nil
  rw [if_pos (by rfl)]
  go_simp
  refine (mstate_any T7d.out.b).mono ?_
  rintro e w8 ⟨rfl, k8⟩
  refine hK.out _ _ (kep_trans hH k8) (fun hH => ?_)
  refine wpAnyH_to (S' := fun w' => Kep w8 w') (fun w' h => kep_trans hH h) ?_
  have hH : Kep w8 w8 := Kep.refl _
  have T8 := hidd (T7d.out.kept k8)
  clear k8
  clear hK K
  (try dsimp only [Act.put]); (try simp only [jA, jB, jC, Act.put, jD, jE, jF])
  refine wpAnyH_ready (rs := [9]) (by kernel_rfl) (by simp) ?_
  refine AllReadyH.cons rfl (fun K hK => ?_) AllReadyH.nil
  rw [if_pos (by rfl)]
  go_simp
  refine (mstate_any T8.out.a).mono ?_
  rintro e w9 ⟨rfl, k9⟩
  refine hK.out _ _ (kep_trans hH k9) (fun hH => ?_)
  refine wpAnyH_to (S' := fun w' => Kep w9 w') (fun w' h => kep_trans hH h) ?_
  have hH : Kep w9 w9 := Kep.refl _
  have T9 := hidd (T8.out.kept k9)
  clear k9
  clear hK K
  (try dsimp only [Act.put]); (try simp only [jA, jB, jC, Act.put, jD, jE, jF])
  refine wpAnyH_take (i := 10) (v := .bool true) rfl (by kernel_rfl) (by kernel_rfl) (by kernel_rfl) (fun _ _ _ h => h) (.inl ⟨by rfl, by intro w hS; go_simp⟩) hH ?_
  (try dsimp only [Act.put]); (try simp only [jA, jB, jC, Act.put, jD, jE, jF])
  refine wpAnyH_take (i := 11) (v := .bool true) rfl (by kernel_rfl) (by kernel_rfl) (by kernel_rfl) (fun _ _ _ h => h) (.inl ⟨by rfl, by intro w hS; go_simp⟩) hH ?_
  (try dsimp only [Act.put]); (try simp only [jA, jB, jC, Act.put, jD, jE, jF])
  refine wpAnyH_take (i := 12) (v := .bool true) rfl (by kernel_rfl) (by kernel_rfl) (by kernel_rfl) (fun _ _ _ h => h) (.inl ⟨by rfl, by intro w hS; go_simp⟩) hH ?_
  (try dsimp only [Act.put]); (try simp only [jA, jB, jC, Act.put, jD, jE, jF])
  refine wpAnyH_take (i := 13) (v := mpt p) rfl (by kernel_rfl) (by kernel_rfl) (by kernel_rfl) (fun _ _ _ h => h) (.inl ⟨by rfl, by intro w hS; go_simp⟩) hH ?_
  (try dsimp only [Act.put]); (try simp only [jA, jB, jC, Act.put, jD, jE, jF])
  refine wpAnyH_take (i := 15) (v := mpt p') rfl (by kernel_rfl) (by kernel_rfl) (by kernel_rfl) (fun _ _ _ h => h) (.inl ⟨by rfl, by intro w hS; go_simp⟩) hH ?_
  (try dsimp only [Act.put]); (try simp only [jA, jB, jC, Act.put, jD, jE, jF])
  refine wpAnyH_ready (rs := [14]) (by kernel_rfl) (by simp) ?_
  refine AllReadyH.cons rfl (fun K hK => ?_) AllReadyH.nil
  rw [if_pos (by rfl)]
  go_simp
  refine (msteps_any T9.out.b).mono ?_
  rintro e w10 ⟨rfl, hw10⟩
  rw [hw10, hXn.out]
  clear hw10 w10
  refine hK.out _ _ hH (fun hH => ?_)
  clear hK K
  (try dsimp only [Act.put]); (try simp only [jA, jB, jC, Act.put, jD, jE, jF])
  refine wpAnyH_ready (rs := [16]) (by kernel_rfl) (by simp) ?_
  refine AllReadyH.cons rfl (fun K hK => ?_) AllReadyH.nil
  rw [if_pos (by rfl)]
  go_simp
  refine (msteps_any T9.out.a).mono ?_
  rintro e w11 ⟨rfl, hw11⟩
  rw [hw11, hXn.out]
  clear hw11 w11
  refine hK.out _ _ hH (fun hH => ?_)
  clear hK K
  (try dsimp only [Act.put]); (try simp only [jA, jB, jC, Act.put, jD, jE, jF])
  refine wpAnyH_take (i := 17) (v := .bool true) rfl (by kernel_rfl) (by kernel_rfl) (by kernel_rfl) (fun _ _ _ h => h) (.inl ⟨by rfl, by intro w hS; go_simp⟩) hH ?_
  (try dsimp only [Act.put]); (try simp only [jA, jB, jC, Act.put, jD, jE, jF])
  refine wpAnyH_take (i := 18) (v := .bool true) rfl (by kernel_rfl) (by kernel_rfl) (by kernel_rfl) (fun _ _ _ h => h) (.inl ⟨by rfl, by intro w hS; go_simp⟩) hH ?_
  (try dsimp only [Act.put]); (try simp only [jA, jB, jC, Act.put, jD, jE, jF])
  refine wpAnyH_take (i := 19) (v := .bool true) rfl (by kernel_rfl) (by kernel_rfl) (by kernel_rfl) (fun _ _ _ h => h) (.inl ⟨by rfl, by intro w hS; go_simp⟩) hH ?_
  (try dsimp only [Act.put]); (try simp only [jA, jB, jC, Act.put, jD, jE, jF])
  refine wpAnyH_take (i := 20) (v := mpt p) rfl (by kernel_rfl) (by kernel_rfl) (by kernel_rfl) (fun _ _ _ h => h) (.inl ⟨by rfl, by intro w hS; go_simp⟩) hH ?_
  (try dsimp only [Act.put]); (try simp only [jA, jB, jC, Act.put, jD, jE, jF])
  refine wpAnyH_take (i := 22) (v := .int .i64 ((a : Int) + (b : Int))) rfl (by kernel_rfl) (by kernel_rfl) (by kernel_rfl) (fun _ _ _ h => h) (.inl ⟨by rfl, by intro w hS; go_simp⟩) hH ?_
  (try dsimp only [Act.put]); (try simp only [jA, jB, jC, Act.put, jD, jE, jF])
  refine wpAnyH_ready (rs := [21]) (by kernel_rfl) (by simp) ?_
  refine AllReadyH.cons rfl (fun K hK => ?_) AllReadyH.nil
  rw [if_pos (by rfl)]
  go_simp
  refine (msteps_any T9.out.b).mono ?_
  rintro e w12 ⟨rfl, hw12⟩
  rw [hw12, hXn.out]
  clear hw12 w12
  refine hK.out _ _ hH (fun hH => ?_)
  clear hK K
  (try dsimp only [Act.put]); (try simp only [jA, jB, jC, Act.put, jD, jE, jF])
  refine wpAnyH_take (i := 23) (v := .bool true) rfl (by kernel_rfl) (by kernel_rfl) (by kernel_rfl) (fun _ _ _ h => h) (.inl ⟨by rfl, by intro w hS; go_simp⟩) hH ?_
  (try dsimp only [Act.put]); (try simp only [jA, jB, jC, Act.put, jD, jE, jF])
  refine wpAnyH_take (i := 24) (v := .bool true) rfl (by kernel_rfl) (by kernel_rfl) (by kernel_rfl) (fun _ _ _ h => h) (.inl ⟨by rfl, by intro w hS; go_simp⟩) hH ?_
  (try dsimp only [Act.put]); (try simp only [jA, jB, jC, Act.put, jD, jE, jF])
  refine wpAnyH_take (i := 25) (v := .bool true) rfl (by kernel_rfl) (by kernel_rfl) (by kernel_rfl) (fun _ _ _ h => h) (.inl ⟨by rfl, by intro w hS; go_simp⟩) hH ?_
  (try dsimp only [Act.put]); (try simp only [jA, jB, jC, Act.put, jD, jE, jF])
  refine wpAnyH_take (i := 26) (v := mpt p) rfl (by kernel_rfl) (by kernel_rfl) (by kernel_rfl) (fun _ _ _ h => h) (.inl ⟨by rfl, by intro w hS; go_simp⟩) hH ?_
  (try dsimp only [Act.put]); (try simp only [jA, jB, jC, Act.put, jD, jE, jF])
  refine wpAnyH_take (i := 29) (v := mpt p') rfl (by kernel_rfl) (by kernel_rfl) (by kernel_rfl) (fun _ _ _ h => h) (.inl ⟨by rfl, by intro w hS; go_simp⟩) hH ?_
  (try dsimp only [Act.put]); (try simp only [jA, jB, jC, Act.put, jD, jE, jF])
  refine wpAnyH_ready (rs := [27]) (by kernel_rfl) (by simp) ?_
  refine AllReadyH.cons rfl (fun K hK => ?_) AllReadyH.nil
  rw [if_pos (by rfl)]
  go_simp
  refine (moutput_any T9.out.b (by have := Oc.out; omega)).mono ?_
  rintro e w13 ⟨v13, rfl, ⟨F13, sl13, _⟩, k13⟩
  obtain ⟨x13, c13, rfl, L13, _⟩ := sl13.lies
  have L13 := hidd L13
  clear sl13
  refine hK.out _ _ (kep_trans hH k13) (fun hH => ?_)
  refine wpAnyH_to (S' := fun w' => Kep w13 w') (fun w' h => kep_trans hH h) ?_
  have hH : Kep w13 w13 := Kep.refl _
  have T13 := hidd (T9.out.kept k13)
  clear k13
  clear hK K
  (try dsimp only [Act.put]); (try simp only [jA, jB, jC, Act.put, jD, jE, jF])
  refine wpAnyH_take (i := 28) (v := .string (strL X.d.O)) rfl (by kernel_rfl) (by kernel_rfl) (by kernel_rfl) (fun _ _ _ h => h) (.inl ⟨by rfl, by intro w hS; have hc := (L13.out.strAny (cap := c13)) w hS; clear hS; go_simp⟩) hH ?_
  (try dsimp only [Act.put]); (try simp only [jA, jB, jC, Act.put, jD, jE, jF])
  refine wpAnyH_ready (rs := [30]) (by kernel_rfl) (by simp) ?_
  refine AllReadyH.cons rfl (fun K hK => ?_) AllReadyH.nil
  rw [if_pos (by rfl)]
  go_simp
  refine (moutput_any T13.out.a (by have := Oc.out; omega)).mono ?_
  rintro e w14 ⟨v14, rfl, ⟨F14, sl14, _⟩, k14⟩
  obtain ⟨x14, c14, rfl, L14, _⟩ := sl14.lies
  have L14 := hidd L14
  clear sl14
  refine hK.out _ _ (kep_trans hH k14) (fun hH => ?_)
  refine wpAnyH_to (S' := fun w' => Kep w14 w') (fun w' h => kep_trans hH h) ?_
  have hH : Kep w14 w14 := Kep.refl _
  have T14 := hidd (T13.out.kept k14)
  clear k14
  clear hK K
  (try dsimp only [Act.put]); (try simp only [jA, jB, jC, Act.put, jD, jE, jF])
  refine wpAnyH_take (i := 31) (v := .string (strL X.d.O)) rfl (by kernel_rfl) (by kernel_rfl) (by kernel_rfl) (fun _ _ _ h => h) (.inl ⟨by rfl, by intro w hS; have hc := (L14.out.strAny (cap := c14)) w hS; clear hS; go_simp⟩) hH ?_
  (try dsimp only [Act.put]); (try simp only [jA, jB, jC, Act.put, jD, jE, jF])
  refine wpAnyH_take (i := 32) (v := .bool true) rfl (by kernel_rfl) (by kernel_rfl) (by kernel_rfl) (fun _ _ _ h => h) (.inl ⟨by rfl, by intro w hS; go_simp⟩) hH ?_
  (try dsimp only [Act.put]); (try simp only [jA, jB, jC, Act.put, jD, jE, jF])
  refine wpAnyH_take (i := 33) (v := .bool true) rfl (by kernel_rfl) (by kernel_rfl) (by kernel_rfl) (fun _ _ _ h => h) (.inl ⟨by rfl, by intro w hS; go_simp⟩) hH ?_
  (try dsimp only [Act.put]); (try simp only [jA, jB, jC, Act.put, jD, jE, jF])
  refine wpAnyH_take (i := 34) (v := .bool true) rfl (by kernel_rfl) (by kernel_rfl) (by kernel_rfl) (fun _ _ _ h => h) (.inl ⟨by rfl, by intro w hS; go_simp⟩) hH ?_
  (try dsimp only [Act.put]); (try simp only [jA, jB, jC, Act.put, jD, jE, jF])
  refine wpAnyH_take (i := 35) (v := mpt p) rfl (by kernel_rfl) (by kernel_rfl) (by kernel_rfl) (fun _ _ _ h => h) (.inl ⟨by rfl, by intro w hS; go_simp⟩) hH ?_
  (try dsimp only [Act.put]); (try simp only [jA, jB, jC, Act.put, jD, jE, jF])
  refine wpAnyH_take (i := 37) (v := mpt p') rfl (by kernel_rfl) (by kernel_rfl) (by kernel_rfl) (fun _ _ _ h => h) (.inl ⟨by rfl, by intro w hS; go_simp⟩) hH ?_
  (try dsimp only [Act.put]); (try simp only [jA, jB, jC, Act.put, jD, jE, jF])
  refine wpAnyH_ready (rs := [36]) (by kernel_rfl) (by simp) ?_
  refine AllReadyH.cons rfl (fun K hK => ?_) AllReadyH.nil
  rw [if_pos (by rfl)]
  go_simp
  refine (mnotes_any T14.out.b (by have := Nc.out; omega)).mono ?_
  rintro e w15 ⟨v15, rfl, ⟨F15, sl15, _⟩, k15⟩
  obtain ⟨x15, c15, rfl, L15, _⟩ := sl15.lies
  have L15 := hidd L15
  clear sl15
  refine hK.out _ _ (kep_trans hH k15) (fun hH => ?_)
  refine wpAnyH_to (S' := fun w' => Kep w15 w') (fun w' h => kep_trans hH h) ?_
  have hH : Kep w15 w15 := Kep.refl _
  have T15 := hidd (T14.out.kept k15)
  clear k15
  clear hK K
  (try dsimp only [Act.put]); (try simp only [jA, jB, jC, Act.put, jD, jE, jF])
  refine wpAnyH_ready (rs := [38]) (by kernel_rfl) (by simp) ?_
  refine AllReadyH.cons rfl (fun K hK => ?_) AllReadyH.nil
  rw [if_pos (by rfl)]
  go_simp
  refine (mnotes_any T15.out.a (by have := Nc.out; omega)).mono ?_
  rintro e w16 ⟨v16, rfl, ⟨F16, sl16, _⟩, k16⟩
  obtain ⟨x16, c16, rfl, L16, _⟩ := sl16.lies
  have L16 := hidd L16
  clear sl16
  have K16 := hidd k16
  refine hK.out _ _ (kep_trans hH k16) (fun hH => ?_)
  refine wpAnyH_to (S' := fun w' => Kep w16 w') (fun w' h => kep_trans hH h) ?_
  have hH : Kep w16 w16 := Kep.refl _
  have T16 := hidd (T15.out.kept k16)
  clear k16
  clear hK K
  (try dsimp only [Act.put]); (try simp only [jA, jB, jC, Act.put, jD, jE, jF])
  refine wpAnyH_ready (rs := [39]) (by kernel_rfl) (by simp) ?_
  refine AllReadyH.cons rfl (fun K hK => ?_) AllReadyH.nil
  rw [if_pos (by rfl)]
  go_simp
  refine (notes12_same w16 x15 x16 c15 c16 X.N Nc.out (L15.out.kep K16.out) L16.out).mono ?_
  rintro e w17 ⟨rfl, k17⟩
  refine hK.out _ _ (kep_trans hH k17) (fun hH => ?_)
  refine wpAnyH_to (S' := fun w' => Kep w17 w') (fun w' h => kep_trans hH h) ?_
  have hH : Kep w17 w17 := Kep.refl _
  have T17 := hidd (T16.out.kept k17)
  clear k17
  clear hK K
  (try dsimp only [Act.put]); (try simp only [jA, jB, jC, Act.put, jD, jE, jF])
  refine wpAnyH_take (i := 40) (v := .bool true) rfl (by kernel_rfl) (by kernel_rfl) (by kernel_rfl) (fun _ _ _ h => h) (.inl ⟨by rfl, by intro w hS; go_simp⟩) hH ?_
  (try dsimp only [Act.put]); (try simp only [jA, jB, jC, Act.put, jD, jE, jF])
  refine wpAnyH_take (i := 41) (v := .bool true) rfl (by kernel_rfl) (by kernel_rfl) (by kernel_rfl) (fun _ _ _ h => h) (.inl ⟨by rfl, by intro w hS; go_simp⟩) hH ?_
  (try dsimp only [Act.put]); (try simp only [jA, jB, jC, Act.put, jD, jE, jF])
  refine wpAnyH_ready (rs := [42]) (by kernel_rfl) (by simp) ?_
  refine AllReadyH.cons rfl (fun K hK => ?_) AllReadyH.nil
  rw [if_pos (by rfl)]
  go_simp
  refine (HW.out _ T17.out.kep).mono ?_
  rintro e w18 ⟨rfl, k18⟩
  refine hK.out _ _ (kep_trans hH k18) (fun hH => ?_)
  refine wpAnyH_to (S' := fun w' => Kep w18 w') (fun w' h => kep_trans hH h) ?_
  have hH : Kep w18 w18 := Kep.refl _
  have T18 := hidd (T17.out.kept k18)
  clear k18
  clear hK K
  (try dsimp only [Act.put]); (try simp only [jA, jB, jC, Act.put, jD, jE, jF])
  refine wpAnyH_take (i := 43) (v := .bool true) rfl (by kernel_rfl) (by kernel_rfl) (by kernel_rfl) (fun _ _ _ h => h) (.inl ⟨by rfl, by intro w hS; go_simp⟩) hH ?_
  (try dsimp only [Act.put]); (try simp only [jA, jB, jC, Act.put, jD, jE, jF])
  refine wpAnyH_take (i := 44) (v := .bool true) rfl (by kernel_rfl) (by kernel_rfl) (by kernel_rfl) (fun _ _ _ h => h) (.inl ⟨by rfl, by intro w hS; go_simp⟩) hH ?_
  (try dsimp only [Act.put]); (try simp only [jA, jB, jC, Act.put, jD, jE, jF])
  refine wpAnyH_done (by kernel_rfl) ?_ _
  go_wp2_with fail
  go_ret
  exact ⟨rfl, T18.out.kep⟩
set_option maxRecDepth 100000 in
theorem lifted (os : Os) (started : os.Started) (H : Type) (enc : TypeId × Value → H) :
    ReturnsInHanded {} Tryz.checked os 4 .any (fun w args => (Rows.machinePartsSpec.pre enc Tryz.prog Tryz.f4 Rows.machinePartsRow.domain false w args ∧ laidMetH Tryz.prog laidL w) ∧ sizedMet enc Tryz.prog Tryz.f4 (OpenSpec.ofChange Rows.machinePartsSpec) false w args)
      (Rows.machinePartsSpec.post enc Tryz.prog Tryz.f4 false true false false) := by
  refine returnsInHanded_of_change_and (C := Tryz.checked) (X := fun w _ => laidMetH Tryz.prog laidL w) (fun _ _ _ hh h => h.of_heap hh) own started (by kernel_rfl) Tryz.func4
    (ChangeSpec.witness_shaped (enc := enc) (C := Tryz.checked) (os := os) (X := fun w _ => laidMetH Tryz.prog laidL w) false (World.laidAll Tryz.prog os laidL) #[.agg #[.int .i64 0, .slice none 0 0, .slice none 0 0, .int .u16 0, .int .u32 0, .int .u32 0, .int .u32 0, .int .u32 0, .int .u32 0, .int .u32 0, .int .u32 0, .int .u32 0, .int .u32 0, .int .u32 0, .int .u32 0, .int .u32 0, .int .u32 0, .int .u32 0, .int .u32 0, .int .u32 0, .int .u32 0, .int .u32 0, .bool false, .slice none 0 0, .slice none 0 0], .int .u8 0, .int .u8 0] 8 (World.laidAll_os _ _ _)
      (World.shaped_of_ZipB (by kernel_rfl) (by kernel_rfl)) (by kernel_rfl) (by kernel_rfl) (by kernel_rfl)
      (by rw [MakeChecks.laidMetH_plain _ _ _ (by kernel_rfl)]; exact laidMet_laidAll _ (by kernel_rfl) (by kernel_rfl))) ?_
  intro W base args ds gs before hval0 hW hcnd hsz0 hL _
  have hval : ∀ (j : Nat) t v, Tryz.f4.params[j]? = some t → args[j]? = some v → Value.okWide Tryz.prog W .any base t v := hval0
  have hW' := hW
  obtain ⟨p, q, hA0, hV, rfl, hfz, hnd⟩ := hW
  have hA : DataW.TrodAll enc Tryz.prog W 0 (fun _ => true) true Tryz.f4.params.toList args.toList ds p := hA0
  rw [Tryz.params4] at hA hval
  obtain ⟨v0, vs0, d0, ds0, p0, q0, hargs, rfl, rfl, h0, r0⟩ := trodAll_cons hA
  obtain ⟨v1, vs1, d1, ds1, p1, q1, rfl, rfl, rfl, h1, r1⟩ := trodAll_cons r0
  obtain ⟨v2, vs2, d2, ds2, p2, q2, rfl, rfl, rfl, h2, r2⟩ := trodAll_cons r1
  obtain ⟨rfl, rfl, rfl⟩ := trodAll_nil r2
  obtain rfl : args = #[v0, v1, v2] := by cases args; simp_all
  obtain ⟨rfl, rfl⟩ := trodVars_none hV
  have k0 := h0
  have lt0 : ∀ x ∈ p0, x.block < W.heap.size := by obtain ⟨m, hm⟩ := k0; exact DataW.trod_lt m _ _ _ hm
  obtain ⟨fr, xi, li, ci, Z, xc, lc, cc, C, en, s, xs, ls, cs, E, xd, ld, cd, D, rfl, hfr, w0⟩ := open_gst (hval 0 41 v0 rfl rfl) h0
  have k1 := h1
  have lt1 : ∀ x ∈ p1, x.block < W.heap.size := by obtain ⟨m, hm⟩ := k1; exact DataW.trod_lt m _ _ _ hm
  obtain ⟨a1, rfl, rfl, rfl, w1⟩ := open_int Tryz.underlying5 (hval 1 5 v1 rfl rfl) h1
  have k2 := h2
  have lt2 : ∀ x ∈ p2, x.block < W.heap.size := by obtain ⟨m, hm⟩ := k2; exact DataW.trod_lt m _ _ _ hm
  obtain ⟨a2, rfl, rfl, rfl, w2⟩ := open_int Tryz.underlying5 (hval 2 5 v2 rfl rfl) h2
  clear hA0 hval0
  refine (walk fr xi li ci Z xc lc cc C en s xs ls cs E xd ld cd D hfr a1 w1 a2 w2 W w0 (tabs_of_laid hL)).mono fun e W' ⟨he, bel0⟩ => ?_
  have bel : Below W.heap.size W W' := bel0
  subst he
  exact ⟨_, rfl, _, _, _, [], _, [], hW', trodAll_mk1 (shut_bool Tryz.underlying4 _), (trodAll_cons_mk (Below.trod laidOut (by kernel_rfl) (of_decide_eq_true (by kernel_rfl)) k0 bel lt0) (trodAll_cons_mk (Below.trod laidOut (by kernel_rfl) (of_decide_eq_true (by kernel_rfl)) k1 bel lt1) (trodAll_cons_mk (Below.trod laidOut (by kernel_rfl) (of_decide_eq_true (by kernel_rfl)) k2 bel lt2) trodAll_mk0))), rfl, bel.frame _, fun h => by cases h⟩
theorem over : Rows.machinePartsRow.holds Tryz.pinned (OpenSpec.ofChange Rows.machinePartsSpec) :=
  OpenClaim.holds_of_wide 4 Tryz.f4 rfl rfl rfl rfl rfl rfl rfl ⟨rfl, rfl, rfl, rfl, rfl⟩ rfl rfl rfl rfl rfl (by kernel_rfl) Tryz.func4 (by kernel_rfl)
    (of_decide_eq_true (by kernel_rfl)) (by unfold Func.isWrapper; first | (rw [if_pos (by decide +kernel)]; kernel_rfl) | (rw [if_neg (by decide +kernel)]; exact ⟨rfl, rfl⟩))
    (fun os started H enc _ => lifted os started H enc)
end Go.Proofs.YtojoobonienhnaaGreatDoor.machineParts
namespace Go.Proofs.YtojoobonienhnaaGreatDoor
theorem machineParts_holds : Rows.MachinePartsCardSaid :=
  Claim7.holds_tied_plain_at .later [] [.data, .data] true (true, "5cbbd589b00704533d2a2cabec6c6acf0dc199b8b5d7e9fd7a5c8c054a7fc604") true machineParts.over (fun _ h => by cases h) (by kernel_rfl) (fun _ h => by cases h) machineParts_row_tie rfl ⟨rfl, rfl⟩ (by kernel_rfl) rfl
    (fun f fn hf hfn => by
      obtain rfl : f = 4 := Option.some.inj ((show Tryz.prog.funcNamed "mummer/mummerlaw12.MachineParts" = some 4 by kernel_rfl).symm.trans hf) |>.symm
      obtain rfl : fn = Tryz.f4 := (Option.some.inj (Tryz.func4.symm.trans hfn)).symm
      exact ⟨by kernel_rfl, fun j t ht => by
        rw [Tryz.params4] at ht
        have hm : t ∈ [41, 5, 5] := by simpa using Array.mem_of_getElem? ht
        have hall : ([41, 5, 5].all fun u => !Tryz.prog.wantsStandIn u) = true := by kernel_rfl
        exact (show Tryz.prog.wantsStandIn t = false by simpa using List.all_eq_true.1 hall t hm)⟩)
    (by kernel_rfl)
#print axioms machineParts_holds
end Go.Proofs.YtojoobonienhnaaGreatDoor
