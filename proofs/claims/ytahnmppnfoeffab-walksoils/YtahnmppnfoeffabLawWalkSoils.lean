/- For every number of frames, every row of entries and every root, address and place, the law WalkSoils returns true: an entry is soiled as the document says; and that changes nothing of a way, but that it says so. -/
import Derived.Test.YtahnmppnfoeffabRows
import Derived.Test.YtahnmppnfoeffabWrsoil
import Derived.Test.YtahnmppnfoeffabMsame
import Derived.WalkKit
import Derived.ProofKit
import Derived.OpenShut
import Derived.ShutString
import Derived.ChangeOld
import Derived.Below
import Derived.Lib.SmallJoins
namespace Go.Proofs.Ytahnmppnfoeffab.walkSoils
open Go.ChangeShapes Go.WideShapes Go.ChangeAt Go.RowKit
set_option linter.unusedVariables false

theorem own : ownKnob Try.prog.godebug = none := by kernel_rfl
theorem laidOut : laidOutB Try.prog = true := by kernel_rfl

theorem way_cell_alloc {w : World} {b a e d t p : Int} : (w.alloc (.cells (wayV b a e d t p) 35)).heap[w.heap.size]? = some (.cells (wayV b a e d t p) 35 (0, 0)) := hat _ _ _ rfl
set_option maxHeartbeats 8000000 in
set_option maxRecDepth 100000 in
theorem walk (a0 : Int) (w0 : (Lit.int .u8 a0).wf = true) (x1 : Option Addr) (len1 cap1 : Nat) (z1 : List Ent) (a2f0 : Int) (w2f0 : (Lit.int .u32 a2f0).wf = true) (a2f1 : Int) (w2f1 : (Lit.int .u32 a2f1).wf = true) (a2f2 : Int) (w2f2 : (Lit.int .u32 a2f2).wf = true) (w : World) (w1 : EntRow w x1 len1 cap1 z1) :
    Calls Try.prog 4 #[.int .u8 a0, .slice x1 len1 cap1, .agg #[.int .u32 a2f0, .int .u32 a2f1, .int .u32 a2f2]] w fun e w' => e = .returned (.bool true) ∧ Kep w w' := by
  have b0 := u8_of w0
  have q0 := u32_of w2f0
  have q1 := u32_of w2f1
  have q2 := u32_of w2f2
  clear w0 w2f0 w2f1 w2f2
  obtain ⟨root, rfl⟩ : ∃ x : Nat, a2f0 = x := ⟨a2f0.toNat, by omega⟩
  obtain ⟨va, rfl⟩ : ∃ x : Nat, a2f1 = x := ⟨a2f1.toNat, by omega⟩
  have hM : Hid (∀ o, Calls Try.prog 7 #[.int .u8 a0, .slice x1 len1 cap1] (w.alloc o) fun e w' => ∃ (p R n Rb : Nat) (B : List Int), e = .returned (.tuple #[.pointer (some ⟨p, 0, none⟩), .agg #[.slice (some ⟨Rb, 0, none⟩) (64 * n) (64 * n)], .bool true]) ∧
      Two w' (.pointer (some ⟨p, 0, none⟩)) R n (some ⟨Rb, 0, none⟩) Rb B ∧ (4 : Int) ≤ n ∧ (n : Int) ≤ 10 ∧ w.heap.size < R ∧ w.heap.size < Rb ∧ Kep (w.alloc o) w') := by
    intro o
    refine (made6_any (w.alloc o) a0 b0.1 b0.2 x1 len1 cap1 z1 (w1.kep ((Kep.refl _).alloc o))).mono ?_
    rintro e w' ⟨n, p, R, Rb, hn, rfl, T, K, gR, gRb⟩
    exact ⟨p, R, n, Rb, _, rfl, T, by omega, by omega, by simp at gR; omega, by simp at gRb; omega, K⟩
  have h3 : Hid (∀ w, Calls Try.prog 6 #[] w fun e w' => e = .returned (.bool true) ∧ Kep w w') := works6_any
  clear w1 b0
  go_enter Try.func4, Try.ntmps4
  go_wp2_with fail
  refine (hM.out _).mono ?_
  rintro e w1 ⟨p, R, n, Rb, B, rfl, T, hn4, hn, gR, gRb, k1⟩
  have K1 : Hid (Kep w w1) := kep_trans ((Kep.refl _).alloc _) k1
  have bx : Hid (w1.heap[w.heap.size]? = some (.cells #[.int .u32 root, .int .u32 va, .int .u32 a2f2] 27 (0, 0))) := k1.block (hat _ _ _ rfl)
  have lx : w.heap.size < w1.heap.size := block_lt bx.out
  have c0 : w1.cell? ⟨w.heap.size, 0, none⟩ = some (.int .u32 root) := cell_of_block bx.out
  have c1 : w1.cell? ⟨w.heap.size, 1, none⟩ = some (.int .u32 va) := cell_of_block bx.out
  have c2 : w1.cell? ⟨w.heap.size, 2, none⟩ = some (.int .u32 a2f2) := cell_of_block bx.out
  obtain ⟨r, hr⟩ : ∃ r, Hid (lookF (wdF B (List.range n)) (64 * n) root 16 va = r) := ⟨_, rfl⟩
  have HL : Hid (∀ w', Kep w1 w' → Calls Try.prog 8 #[.pointer (some ⟨p, 0, none⟩), .int .u32 root, .int .i64 16, .int .u32 va] w' fun e w'' => e = .returned (.tuple (wyR r)) ∧ Kep w' w'') := fun w' k => by
    have T2 := T.kep k
    have := look_ram T2.ram (by simp; omega) T2.row (fits_range T2.len) T2.byts root 16 va q0.2 q1.2
    rw [List.length_range, hr.out] at this
    exact this
  have T' : Hid (Two w1 (.pointer (some ⟨p, 0, none⟩)) R n (some ⟨Rb, 0, none⟩) Rb B) := T
  clear k1 T hM
  obtain ⟨yb, ya, ye, yd, yt, yp, is, hy, hfit⟩ : ∃ (yb ya ye yd yt yp : Nat) (is : Bool), Hid (wyR r = #[.agg (wayV yb ya ye yd yt yp), .bool is] ∧ (is = true → r = some ⟨yb, ya, ye, yd, yt, yp⟩) ∧ (is = false → r = none ∧ yb = 0 ∧ ya = 0 ∧ ye = 0 ∧ yd = 0 ∧ yt = 0 ∧ yp = 0)) ∧ Hid (yb < 32 ∧ ya < 4294967296 ∧ ye < 4294967296 ∧ yd < 67108864 ∧ yt < 67108864 ∧ yp < 67108864) := by
    rcases hrr : r with _ | ⟨y1, y2, y3, y4, y5, y6⟩
    · exact ⟨0, 0, 0, 0, 0, 0, false, ⟨rfl, (fun h => by cases h), fun _ => ⟨rfl, rfl, rfl, rfl, rfl, rfl, rfl⟩⟩, by unfold Hid; omega⟩
    · refine ⟨y1, y2, y3, y4, y5, y6, true, ⟨rfl, fun _ => rfl, (fun h => by cases h)⟩, ?_⟩
      have := way_fits (fun a x => wdF_lt T'.out.byts a x) (hr.out.trans hrr)
      simp only at this
      exact this
  rw [hy.out.1] at HL
  go_wp2_with fail
  refine (HL.out _ ((Kep.refl _).alloc _)).mono ?_
  rintro e w2 ⟨rfl, k2⟩
  have K2 : Hid (Kep w1 w2) := kep_trans ((Kep.refl _).alloc _) k2
  have d0 := (K2.out.cell lx).trans c0
  have d1 := (K2.out.cell lx).trans c1
  have d2 := (K2.out.cell lx).trans c2
  have by2 : Hid (w2.heap[w1.heap.size]? = some (.cells #[.slice (some ⟨Rb, 0, none⟩) (64 * n) (64 * n)] 31 (0, 0))) := k2.block (hat _ _ _ rfl)
  have c6 : w2.cell? ⟨w1.heap.size, 0, none⟩ = some (.slice (some ⟨Rb, 0, none⟩) (64 * n) (64 * n)) := cell_of_block by2.out
  have l2 : w.heap.size < w2.heap.size := K2.out.lt lx
  have l3 : w1.heap.size < w2.heap.size := block_lt by2.out
  obtain ⟨C, hC⟩ : ∃ C, Hid (C = ((a2f2 % 2 == 0) && is)) := ⟨_, rfl⟩
  obtain ⟨X, hX, hX1⟩ : ∃ X : Nat, a2f2 % 700 = X ∧ (X : Int) < 700 := ⟨(a2f2 % 700).toNat, by omega, by omega⟩
  obtain ⟨AT, hAT, hAT1⟩ : ∃ AT : Nat, Hid ((bif C then (ye : Int) else (X : Int)) = AT) ∧ Hid ((AT : Int) < 4294967296) := by
    have := hfit.out
    cases C
    · exact ⟨X, rfl, by unfold Hid; omega⟩
    · exact ⟨ye, rfl, by unfold Hid; omega⟩
  obtain ⟨E, hE⟩ : ∃ E, Hid (E = (a2f2 % 2 == 0)) := ⟨_, rfl⟩
  have hE' : (a2f2 % 2 == 0) = E := hE.out.symm
  have hX' : Hid (a2f2 % 700 = (X : Int)) := hX
  clear k2 c0 c1 c2 HL
  go_upto_region 8 with fail
  go_cut [45] from 39 to 45 (fun s wx => s = .bool C ∧ wx = w2.alloc (.cells (wayV yb ya ye yd yt yp) 35))
  case first =>
    have hCE : Hid (C = (E && is)) := by rw [Hid, hC.out, hE.out]
    cases E
    · go_wp2_with fail
      go_meet
      exact ⟨by rw [hCE.out]; rfl, rfl⟩
    · go_wp2_with fail
      go_meet
      exact ⟨by rw [hCE.out]; rfl, rfl⟩
  case rest =>
  obtain ⟨rfl, rfl⟩ := hcut
  clear hE hE'
  go_upto_if 45 with fail
  go_cut [12] from 46 to 47 (fun s wx => s = .int .u32 (bif C then (ye : Int) else (X : Int)) ∧ wx = w2.alloc (.cells (wayV yb ya ye yd yt yp) 35))
  case first =>
    cases C
    · go_wp2_with fail
      go_meet
      exact ⟨by rw [hX'.out]; rfl, rfl⟩
    · go_wp2_with fail
      go_meet
      exact ⟨rfl, rfl⟩
  case rest =>
  obtain ⟨rfl, rfl⟩ := hcut
  rw [hAT.out]
  clear hX hX1 hC
  obtain ⟨D, hD⟩ : ∃ D, Hid (soilL B (List.range n) AT = D) := ⟨_, rfl⟩
  obtain ⟨S, hS⟩ : ∃ S, Hid (soilOk B (List.range n) AT = S) := ⟨_, rfl⟩
  have hDl : Hid (D.length = B.length ∧ Byts D) := by rw [← hD.out]; exact ⟨soilL_len _ _ _, soilL_byts T'.out.byts _ _⟩
  have e1 : Hid (w.heap.size ≠ R ∧ w.heap.size ≠ Rb ∧ w1.heap.size ≠ R ∧ w1.heap.size ≠ Rb ∧ w2.heap.size ≠ R ∧ w2.heap.size ≠ Rb ∧ w.heap.size ≤ R ∧ w.heap.size ≤ Rb ∧ w.heap.size ≤ w2.heap.size) := by
    have := T'.out.lR
    have := T'.out.lRb
    unfold Hid
    omega
  have bw : Hid ((w2.alloc (.cells (wayV yb ya ye yd yt yp) 35)).heap[w2.heap.size]? = some (.cells (wayV yb ya ye yd yt yp) 35 (0, 0))) := hat _ _ _ rfl
  have br : Hid ((w2.alloc (.cells (wayV yb ya ye yd yt yp) 35)).heap[w1.heap.size]? = some (.cells #[.slice (some ⟨Rb, 0, none⟩) (64 * n) (64 * n)] 31 (0, 0))) := (hsk _ _ _ l3).trans by2.out
  have ba : Hid ((w2.alloc (.cells (wayV yb ya ye yd yt yp) 35)).heap[w.heap.size]? = some (.cells #[.int .u32 root, .int .u32 va, .int .u32 a2f2] 27 (0, 0))) := (hsk _ _ _ l2).trans (K2.out.block bx.out)
  have K3 : Hid (Kep w1 (w2.alloc (.cells (wayV yb ya ye yd yt yp) 35))) := K2.out.alloc _
  generalize w2.alloc (.cells (wayV yb ya ye yd yt yp) 35) = w3 at bw br ba K3 ⊢
  have T3 : Hid (Two w3 (.pointer (some ⟨p, 0, none⟩)) R n (some ⟨Rb, 0, none⟩) Rb B) := T'.out.kep K3.out
  have cr : w3.cell? ⟨w1.heap.size, 0, none⟩ = some (.slice (some ⟨Rb, 0, none⟩) (64 * n) (64 * n)) := cell_of_block br.out
  have lr : w1.heap.size < w3.heap.size := block_lt br.out
  have HS : Hid (Calls Try.prog 9 #[.pointer (some ⟨p, 0, none⟩), .int .u32 AT] w3.drew fun e w' => e = .returned (.bool S) ∧ Put [R] w3.drew w' ∧ RowB w' R D) := by
    have T4 := T3.out.kep (Kep.refl w3).drew
    have := soil_any T4.ram (by simp; omega) T4.row (fits_range T4.len) T4.byts AT (by have := hAT1.out; omega)
    rw [hD.out, hS.out] at this
    exact this
  have HR : Hid (∀ w', Put [R] w3.drew w' → Calls Try.prog 10 #[.agg #[.slice (some ⟨Rb, 0, none⟩) (64 * n) (64 * n)], .int .u32 AT] w' fun e w'' => e = .returned (.bool S) ∧ Put [Rb] w' w'' ∧ RowB w'' Rb D) := by
    intro w' P
    have T4 := T3.out.kep (Kep.refl w3).drew
    have := rsoil_any (n := n) (T4.ref.put P (by have := T4.ne; simp; omega)) T4.byts T4.len AT hAT1.out
    rw [hD.out, hS.out] at this
    exact this
  have hSS : (S != S) = false := by simp
  clear d0 d1 d2 c6 l2 l3 lx hX' T' bx by2 K2
  go_upto_region 10 with fail
  go_region_held3 (fun w' => w'.cell? ⟨w1.heap.size, 0, none⟩ = some (.slice (some ⟨Rb, 0, none⟩) (64 * n) (64 * n))) (first | assumption | (go_keep; done)) (first
    | (go_at_call 9; refine HS.out.mono ?_; rintro e wa ⟨rfl, P1, R1⟩; have s1 := (P1.cell (k := w1.heap.size) (o := 0) lr (by have := e1.out; simp; omega)).trans cr; have Q1 : Hid (Put [R] w3.drew wa ∧ RowB wa R D) := ⟨P1, R1⟩; clear P1 R1)
    | (go_at_call 10; refine (HR.out _ Q1.out.1).mono ?_; rintro e wb ⟨rfl, P2, R2⟩; have s2 := (P2.cell (k := w1.heap.size) (o := 0) (Nat.lt_of_lt_of_le lr Q1.out.1.size) (by have := e1.out; simp; omega)).trans s1; have Q2 : Hid (Put [Rb] wa wb ∧ RowB wb Rb D) := ⟨P2, R2⟩; clear P2 R2))
  have PP : Hid (Put [R, Rb] w3 wb) := (Put.of_kep (Kep.refl w3).drew).trans ((Q1.out.1.mono (by simp)).trans (Q2.out.1.mono (by simp)))
  have T5 : Hid (Two wb (.pointer (some ⟨p, 0, none⟩)) R n (some ⟨Rb, 0, none⟩) Rb D) := T3.out.put PP.out (Q1.out.2.put Q2.out.1 (by have := T3.out.ne; simp; omega)) Q2.out.2 hDl.out.1 hDl.out.2
  have bw5 : Hid (wb.heap[w2.heap.size]? = some (.cells (wayV yb ya ye yd yt yp) 35 (0, 0))) := PP.out.keeps bw.out (nm2 e1.out.2.2.2.2.1 e1.out.2.2.2.2.2.1)
  have br5 : Hid (wb.heap[w1.heap.size]? = some (.cells #[.slice (some ⟨Rb, 0, none⟩) (64 * n) (64 * n)] 31 (0, 0))) := PP.out.keeps br.out (nm2 e1.out.2.2.1 e1.out.2.2.2.1)
  have ba5 : Hid (wb.heap[w.heap.size]? = some (.cells #[.int .u32 root, .int .u32 va, .int .u32 a2f2] 27 (0, 0))) := PP.out.keeps ba.out (nm2 e1.out.1 e1.out.2.1)
  have K5 : Hid (Kep w wb) := (kep_trans K1.out K3.out).put PP.out (by have := e1.out; simp; omega)
  clear Q1 Q2 HS HR s1 s2 cr lr hSS
  go_wp2_with fail
  have hq : Hid ((root : Int) < 4294967296 ∧ (va : Int) < 4294967296) := ⟨q0.2, q1.2⟩
  clear q0 q1 q2
  have g4 : ((64 * n : Nat) : Int) / 64 = n := by omega
  have g5 : (64 * (n : Int)) / 64 = n := by omega
  go_loopw [13] (fun i wr => ∃ k : Nat, (k : Int) ≤ n ∧ i = .int .i64 k ∧ Hid (Kep wb wr)) (fun i _ => n - (intOf i).toNat)
  case atStart => exact ⟨0, by omega, rfl, Kep.refl _⟩
  case round =>
    obtain ⟨k, hk, rfl, KR⟩ := hrel
    have hbr := KR.out.block br5.out
    have c0 : wr.cell? ⟨w1.heap.size, 0, none⟩ = some (.slice (some ⟨Rb, 0, none⟩) (64 * n) (64 * n)) := cell_of_block hbr
    have lw := block_lt hbr
    have T6 : Hid (Two wr (.pointer (some ⟨p, 0, none⟩)) R n (some ⟨Rb, 0, none⟩) Rb D) := T5.out.kep KR.out
    by_cases hlt : k < n
    · have hlt' : (k : Int) < n := by omega
      have G1 : Hid (∀ w', Kep wr w' → Calls Try.prog 11 #[.pointer (some ⟨p, 0, none⟩), .int .i64 k] w' fun e w'' => ∃ u : Value, e = .returned u ∧ Str w'' u (strL (frameL D k)) ∧ Kep w' w'') := fun w' K' => frame_str w' _ R n _ Rb D (T6.out.kep K') k hlt
      have G2 : Hid (∀ w', Kep wr w' → Calls Try.prog 12 #[.agg #[.slice (some ⟨Rb, 0, none⟩) (64 * n) (64 * n)], .int .i64 k] w' fun e w'' => ∃ u : Value, e = .returned u ∧ Str w'' u (strL (frameL D k)) ∧ Kep w' w'') := fun w' K' => by
        have := refFrame_str w' _ R n _ Rb D (T6.out.kep K') k hlt
        rw [T6.out.len] at this
        exact this
      generalize strL (frameL D k) = s at G1 G2
      have hlt2 : Hid (k < n) := hlt
      have hk10 : (k : Int) < 10 := by omega
      clear hbr
      have K1' : Hid (Kep wr wr.drew) := (Kep.refl _).drew
      go_wp2_with fail
      go_region_held (fun w' => w'.cell? ⟨w1.heap.size, 0, none⟩ = some (.slice (some ⟨Rb, 0, none⟩) (64 * n) (64 * n))) (first | assumption | (go_keep; done)) (first
        | (go_at_call 11; refine (G1.out _ K1'.out).mono ?_; rintro e wc ⟨u1, rfl, s1, k1⟩; have j1 : Hid (Kep wr wc) := kep_trans K1'.out k1; have z1 := s1 wc (Kep.refl _); have z0 := (j1.out.cell (o := 0) lw).trans c0; have s1' : Hid (Str wc u1 s) := s1; clear s1 k1)
        | (go_at_call 12; refine (G2.out _ j1.out).mono ?_; rintro e wd ⟨u2, rfl, s2, k2⟩; have z2 := s2 wd (Kep.refl _); have z3 := s1'.out wd k2; have z4 := (k2.cell (o := 0) (j1.out.lt lw)).trans z0; have j2 : Hid (Kep wr wd) := kep_trans j1.out k2; clear s2 k2))
      all_goals
        clear hlt hlt' hk hn hn4 g4 g5
        go_wp2_with fail
        go_roundw
        case rel => exact ⟨k + 1, by have := hlt2.out; omega, by go_num, kep_trans KR.out j2.out⟩
        case measure => have := hlt2.out; simp [intOf]; omega
    · obtain rfl : k = n := by omega
      obtain ⟨yb', hy'⟩ : ∃ yb' : Nat, Hid (wyR (lookF (wdF D (List.range k)) (64 * k) root 16 va) = #[.agg (wayV yb' ya ye yd yt yp), .bool is] ∧ yb' < 32 ∧ yb' - 16 * (yb' / 16 % 2) = yb - 16 * (yb / 16 % 2) ∧ (is = true → ye = AT → yb' / 16 % 2 = 1)) := by
        have hs := look_soil B k root 16 va AT T3.out.byts T3.out.len
        rw [hD.out, hr.out] at hs
        cases is
        · obtain ⟨hr0, rfl, rfl, rfl, rfl, rfl, rfl⟩ := hy.out.2.2 rfl
          rcases hs with ⟨_, h2⟩ | ⟨b, b', at_, e, d, t, q, h1, _⟩
          · rw [h2]
            exact ⟨0, rfl, by decide, rfl, (fun h => by cases h)⟩
          · rw [hr0] at h1; cases h1
        · have hr0 := hy.out.2.1 rfl
          rcases hs with ⟨h1, _⟩ | ⟨b, b', at_, e, d, t, q, h1, h2, h3, h4⟩
          · rw [hr0] at h1; cases h1
          · rw [hr0] at h1
            have h5 := Option.some.inj h1
            simp only [Wy.mk.injEq] at h5
            obtain ⟨rfl, rfl, rfl, rfl, rfl, rfl⟩ := h5
            rw [h2]
            exact ⟨b', rfl, lookF_bits h2, h3, fun _ he => h4 he⟩
      have HL2 : Hid (Calls Try.prog 8 #[.pointer (some ⟨p, 0, none⟩), .int .u32 root, .int .i64 16, .int .u32 va] wr fun e w'' => e = .returned (.tuple #[.agg (wayV yb' ya ye yd yt yp), .bool is]) ∧ Kep wr w'') := by
        have := look_ram T6.out.ram (by simp; omega) T6.out.row (fits_range T6.out.len) T6.out.byts root 16 va hq.out.1 hq.out.2
        rw [List.length_range, hy'.out.1] at this
        exact this
      obtain ⟨c, hc⟩ : ∃ c : Nat, Hid (yb - 16 * (yb / 16 % 2) = c) := ⟨_, rfl⟩
      have n1 : bits .andNot .u32 (yb : Int) 16 = (c : Int) := by rw [not16 yb hfit.out.1, hc.out]
      have n2 : bits .andNot .u32 (yb' : Int) 16 = (c : Int) := by rw [not16 yb' hy'.out.2.1, hy'.out.2.2.1, hc.out]
      have hsm := way_same c ya ye yd yt yp ⟨wf_u32 (by have := hc.out; have := hfit.out; omega), wf_u32 hfit.out.2.1, wf_u32 hfit.out.2.2.1, wf_i64 (by have := hfit.out; omega), wf_i64 (by have := hfit.out; omega), wf_i64 (by have := hfit.out; omega)⟩
      have f0 : wr.cell? ⟨w.heap.size, 0, none⟩ = some (.int .u32 root) := cell_of_block (KR.out.block ba5.out)
      have f1 : wr.cell? ⟨w.heap.size, 1, none⟩ = some (.int .u32 va) := cell_of_block (KR.out.block ba5.out)
      have hand : Hid (bits .and .u32 (yb' : Int) 16 = ((16 * (yb' / 16 % 2) : Nat) : Int)) := and16 yb' (by have := hy'.out.2.1; omega)
      go_wp2_with fail
      refine HL2.out.mono ?_
      rintro e w6 ⟨rfl, k6⟩
      have bw6 : Hid (w6.heap[w2.heap.size]? = some (.cells (wayV yb ya ye yd yt yp) 35 (0, 0))) := k6.block (KR.out.block bw5.out)
      have lw6 : w2.heap.size < w6.heap.size := block_lt bw6.out
      obtain ⟨y0, y1, y2, y3, y4, y5, fz⟩ := way_cells bw6.out
      have K6 : Hid (Kep w w6) := kep_trans K5.out (kep_trans KR.out k6)
      have gw2 : Hid (w.heap.size ≤ w2.heap.size) := e1.out.2.2.2.2.2.2.2.2
      clear k6 HL2 f0 f1 c0 lw hbr g4 g5 hk hlt hn hn4
      cases is
      · go_wp2_with (go_at_call 6; refine (h3.out _).mono ?_; rintro e w7 ⟨rfl, k7⟩; have K7 : Hid (Kep w w7) := kep_trans (by repeat (first | exact K6.out | refine Kep.setCell ?_ gw2.out _ | refine Kep.alloc ?_ _)) k7; clear k7)
        go_ret
        exact ⟨rfl, K7.out⟩
      · by_cases hae : ye = AT
        · have hb16 : bits .and .u32 (yb' : Int) 16 = 16 := by rw [hand.out, hy'.out.2.2.2 rfl hae]; rfl
          have gae : ((AT : Int) == (ye : Int)) = true := by simp; omega
          clear hae
          go_wp2_with (go_at_call 6; refine (h3.out _).mono ?_; rintro e w7 ⟨rfl, k7⟩; have K7 : Hid (Kep w w7) := kep_trans (by repeat (first | exact K6.out | refine Kep.setCell ?_ gw2.out _ | refine Kep.alloc ?_ _)) k7; clear k7)
          go_ret
          exact ⟨rfl, K7.out⟩
        · have gae : ((AT : Int) == (ye : Int)) = false := by simp; omega
          clear hae
          go_wp2_with (go_at_call 6; refine (h3.out _).mono ?_; rintro e w7 ⟨rfl, k7⟩; have K7 : Hid (Kep w w7) := kep_trans (by repeat (first | exact K6.out | refine Kep.setCell ?_ gw2.out _ | refine Kep.alloc ?_ _)) k7; clear k7)
          go_ret
          exact ⟨rfl, K7.out⟩

set_option maxRecDepth 100000 in
theorem lifted (os : Os) (started : os.Started) (H : Type) (enc : TypeId × Value → H) :
    ReturnsInHanded {} Try.checked os 4 .any (Rows.walkSoilsSpec.pre6 enc Try.prog Try.f4 Rows.walkSoilsRow.domain false) (Rows.walkSoilsSpec.post enc Try.prog Try.f4 false true false false) := by
  refine returnsInHanded_of_change (C := Try.checked) own started (by kernel_rfl) Try.func4
    (ChangeSpec.witness6 (enc := enc) (C := Try.checked) false ⟨#[], #[.int .u8 0, .slice none 0 0, .agg #[.int .u32 0, .int .u32 0, .int .u32 0]], []⟩ 8 (by kernel_rfl) (by kernel_rfl) (by kernel_rfl) (by kernel_rfl)) ?_
  intro W base args ds gs before hval0 hW hcnd _
  have hval : ∀ (j : Nat) t v, Try.f4.params[j]? = some t → args[j]? = some v → Value.okWide Try.prog W .any base t v := hval0
  have hW' := hW
  obtain ⟨p, q, hA0, hV, rfl, hfz, hnd⟩ := hW
  have hA : DataW.TrodAll enc Try.prog W 0 (fun _ => true) true Try.f4.params.toList args.toList ds p := hA0
  rw [Try.params4] at hA hval
  obtain ⟨v0, vs0, d0, ds0, p0, q0, hargs, rfl, rfl, h0, r0⟩ := trodAll_cons hA
  obtain ⟨v1, vs1, d1, ds1, p1, q1, rfl, rfl, rfl, h1, r1⟩ := trodAll_cons r0
  obtain ⟨v2, vs2, d2, ds2, p2, q2, rfl, rfl, rfl, h2, r2⟩ := trodAll_cons r1
  obtain ⟨rfl, rfl, rfl⟩ := trodAll_nil r2
  obtain rfl : args = #[v0, v1, v2] := by cases args; simp_all
  obtain ⟨rfl, rfl⟩ := trodVars_none hV
  have k0 := h0
  have lt0 : ∀ x ∈ p0, x.block < W.heap.size := by obtain ⟨m, hm⟩ := k0; exact DataW.trod_lt m _ _ _ hm
  obtain ⟨a0, rfl, rfl, rfl, w0⟩ := open_int Try.underlying5 (hval 0 5 v0 rfl rfl) h0
  have k1 := h1
  have lt1 : ∀ x ∈ p1, x.block < W.heap.size := by obtain ⟨m, hm⟩ := k1; exact DataW.trod_lt m _ _ _ hm
  obtain ⟨x1, len1, cap1, rfl⟩ := okWide_slice Try.underlying26 (hval 1 26 v1 rfl rfl)
  obtain ⟨z1, w1⟩ : ∃ zs, EntRow W x1 len1 cap1 zs := by
    obtain ⟨fuel, hf⟩ := h1
    exact ents_of hf
  have k2 := h2
  have lt2 : ∀ x ∈ p2, x.block < W.heap.size := by obtain ⟨m, hm⟩ := k2; exact DataW.trod_lt m _ _ _ hm
  obtain ⟨zs2, hl2, rfl, hw2⟩ := open_arr Try.underlying27 Try.underlying22 (by kernel_rfl) (by kernel_rfl) (hval 2 27 v2 rfl rfl) h2
  obtain ⟨a2f0, a2f1, a2f2, rfl⟩ := list3 zs2 hl2
  clear hA0 hval0
  refine (walk a0 w0 x1 len1 cap1 z1 a2f0 (hw2 _ (by simp)) a2f1 (hw2 _ (by simp)) a2f2 (hw2 _ (by simp)) W w1).mono fun e W' ⟨he, bel0⟩ => ?_
  have bel : Below W.heap.size W W' := bel0
  subst he
  exact ⟨_, rfl, _, _, _, [], _, [], hW', trodAll_mk1 (shut_bool Try.underlying4 _), (trodAll_cons_mk (Below.trod laidOut (by kernel_rfl) (of_decide_eq_true (by kernel_rfl)) k0 bel lt0) (trodAll_cons_mk (Below.trod laidOut (by kernel_rfl) (of_decide_eq_true (by kernel_rfl)) k1 bel lt1) (trodAll_cons_mk (Below.trod laidOut (by kernel_rfl) (of_decide_eq_true (by kernel_rfl)) k2 bel lt2) trodAll_mk0))), rfl, bel.frame _, fun h => by cases h⟩

theorem over : Rows.walkSoilsRow.holds Try.pinned (OpenSpec.ofChange Rows.walkSoilsSpec) :=
  OpenClaim.holds_of_wide 4 Try.f4 rfl rfl rfl rfl rfl rfl rfl ⟨rfl, rfl, rfl, rfl, rfl⟩ rfl rfl rfl rfl rfl (by kernel_rfl) Try.func4 (by kernel_rfl)
    (of_decide_eq_true (by kernel_rfl)) (by unfold Func.isWrapper; first | (rw [if_pos (by decide +kernel)]; kernel_rfl) | (rw [if_neg (by decide +kernel)]; exact ⟨rfl, rfl⟩))
    (fun os started H enc _ => lifted os started H enc)
end Go.Proofs.Ytahnmppnfoeffab.walkSoils
namespace Go.Proofs.Ytahnmppnfoeffab

theorem walkSoils_holds : Rows.WalkSoilsSaid := walkSoils.over
#print axioms walkSoils_holds
end Go.Proofs.Ytahnmppnfoeffab
