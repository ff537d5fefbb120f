/- For every guest and any two numbers, the law ScanHangs returns true: with a lower bound a block is the beginning of what it is with a greater one. -/
import Derived.Test.YtamffningddgbaaGreatDoorRows
import Derived.Test.YtamffningddgbaaGreatDoorTie
import Derived.Test.YtamffningddgbaaGreatDoorCards
import Derived.WalkKit
import Derived.ProofKit
import Derived.OpenShut
import Derived.ShutString
import Derived.ChangeOld
import Derived.Below
import Derived.Lib.SmallJoins
import Derived.Lay
import Derived.SevenTiedAt
import Derived.Stop.Joined
import Derived.Test.YtamffningddgbaaGreatDoorJ91
namespace Go.Proofs.YtamffningddgbaaGreatDoor.scanHangs
open Go.ChangeShapes Go.WideShapes Go.ChangeAt Go.RowKit
set_option linter.unusedVariables false
set_option linter.unusedSimpArgs false
theorem own : ownKnob Tryz.prog.godebug = none := by kernel_rfl
theorem laidOut : laidOutB Tryz.prog = true := by kernel_rfl
abbrev laidL : List (String × DataW Unit) := [("mummer/isa.forms", Rows.laid_mummer_isa_forms), ("mummer/isa.spans", Rows.laid_mummer_isa_spans)]
theorem sta_mid {w : World} {g : Nat} {fr : Int} {vi vc : Value} {en : Int} {s : Sta} {vs vd : Value} (h : w.heap[g]? = some (.cells (gstV fr vi vc en s vs vd) 31 (0, 0))) : w.rangeAt g 4 s.v.toList := fun j v hv => by
  have hj : j < 19 := (List.getElem?_eq_some_iff.1 hv).1
  rw [cell_of_block h]
  have e : (gstV fr vi vc en s vs vd).toList = [.int .i64 fr, vi, vc, .int .u16 en] ++ (s.v.toList ++ [vs, vd]) := rfl
  rw [← Array.getElem?_toList, e, List.getElem?_append_right (by simp), List.getElem?_append_left (by show 4 + j - 4 < 19; omega)]
  show s.v.toList[4 + j - 4]? = some v
  rw [Nat.add_sub_cancel_left]; exact hv
theorem load_sta18 {ops : Array Oper} {rest : List Oper} {op : Oper} {a : Act} {w : World} {Q : Exit → Act → World → Prop} (hgd : op.guard = none) (x : Operand) (ho : op.op = .load 28 x)
    (b o : Nat) (hx : a.eval x = .pointer (some ⟨b, o, none⟩)) (s : Sta) (hc : w.rangeAt b o s.v.toList)
    (h : wpList Tryz.prog ops Q rest (a.put op.dst (.agg s.v)) w) : wpList Tryz.prog ops Q (op :: rest) a w :=
  wpList_load_mid hgd 28 x ho b o hx s.v.toList _ hc Tryz.underlying28 rfl size_sta h
theorem quiet_mid18 {P : Program} {ops : Array Oper} {C : World → Prop} {Q : Act → Prop} {a : Act} {o : Oper} {rest : List Oper} (ty : TypeId) (x : Operand) (ho : o.op = .load ty x) (b k : Nat) (hx : a.eval x = .pointer (some ⟨b, k, none⟩)) (hw : Region.wanted o (yielded ops a.tmps) = true)
    (cs : List Value) (d : TypeDesc) (hC : ∀ w, C w → w.rangeAt b k cs) (hu : P.underlying ty = some d) (hd : d.isRow = true) (hi : (P.info? ty).map (·.size) = some cs.length)
    (h : wpQuiet P ops C Q rest (a.put o.dst (.agg cs.toArray))) : wpQuiet P ops C Q (o :: rest) a :=
  wpQuiet_step fun K hK => by
    rw [if_pos hw]
    refine ⟨.agg cs.toArray, fun w hc => ?_, hK _ h⟩
    unfold Oper.quietAt execOp
    simp only [ho, hx, Instr.loadAt, Instr.sureAddr, Sem.run_bind, Sem.run_pure, Result.andThen_ok, run_loadVar_mid w b k ty cs d (hC w hc) hu hd hi]
    exact ⟨rfl, rfl⟩
theorem kcell18 {W w' : World} (h : Kep W w') {b o : Nat} {v : Value} (hc : W.cell? ⟨b, o, none⟩ = some v) : w'.cell? ⟨b, o, none⟩ = some v := (h.cell (World.block_lt_of_cell? W _ hc)).trans hc
theorem lies_ins {w : World} {x : Option Addr} {C : List In4} (h : Lies w x (inss C)) {k : Nat} {e : In4} (he : C[k]? = some e) : ∃ b off : Nat, x = some ⟨b, off, none⟩ ∧ w.rangeAt b (off + k * 4) (inV e) := by
  rcases h with h | ⟨b, off, rfl, _, hc⟩
  · have := inss_at C k e he 0 (by decide)
    rw [h] at this; simp [inV] at this
  · refine ⟨b, off, rfl, fun j v hv => ?_⟩
    have hj : j < 4 := (List.getElem?_eq_some_iff.1 hv).1
    rw [Nat.add_assoc]
    exact hc (k * 4 + j) v ((inss_at C k e he j hj).trans hv)
theorem lies_num {w : World} {x : Option Addr} {kd : IntKind} {L : List Int} (h : Lies w x (num kd L)) {k : Nat} {v : Int} (he : L[k]? = some v) : ∃ b off : Nat, x = some ⟨b, off, none⟩ ∧ w.cell? ⟨b, off + k, none⟩ = some (.int kd v) := by
  have hn : (num kd L)[k]? = some (.int kd v) := by unfold num; rw [List.getElem?_map, he]; rfl
  rcases h with h | ⟨b, off, rfl, _, hc⟩
  · rw [h] at hn; simp at hn
  · exact ⟨b, off, rfl, hc k _ hn⟩
theorem pre_at {α : Type} {l m : List α} (h : l <+: m) {k : Nat} {e : α} (he : l[k]? = some e) : m[k]? = some e := by
  obtain ⟨t, rfl⟩ := h
  rw [List.getElem?_append_left (List.getElem?_eq_some_iff.1 he).1]; exact he
theorem Two.mem18 {w : World} {p R n : Nat} {x : Option Addr} {Rb : Nat} {B : List Int} (T : Two w (mpt p) R n x Rb B) : Mem w (mpt p) R (List.range n) B := ⟨T.ram, T.row, fits_range T.len, T.byts, by rw [List.length_range]; have := T.le; omega⟩
theorem rowb_ne {w : World} {R b off : Nat} {B : List Int} (h : RowB w R B) (hB : B ≠ []) {k : Nat} {v : Value} (hv : w.cell? ⟨b, off + k, none⟩ = some v) (hn : ∀ z : Int, v ≠ Value.int IntKind.u8 z) : b ≠ R := by
  rintro rfl
  have hb := h hB
  rw [cell_of_block hb] at hv
  simp [byt] at hv
  obtain ⟨z, _, e⟩ := hv
  exact hn z e.symm
theorem lies_put_b {w w' : World} {x : Option Addr} {zs : List Value} {R : Nat} {B : List Int} (h : Lies w x zs) (hz : zs = [] ∨ ∃ (k : Nat) (v : Value), zs[k]? = some v ∧ ∀ z : Int, v ≠ Value.int IntKind.u8 z) (hr : RowB w R B) (hB : B ≠ []) (k : Put [R] w w') : Lies w' x zs := by
  rcases h with h | ⟨b, off, e, hb, hc⟩
  · exact .inl h
  rcases hz with hz | ⟨k0, v, hk, hn⟩
  · exact .inl hz
  have hne := rowb_ne hr hB (hc k0 v hk) hn
  exact .inr ⟨b, off, e, Nat.lt_of_lt_of_le hb k.size, fun j u hj => (k.cell hb (by simpa using hne)).trans (hc j u hj)⟩
theorem num_not8 {kd : IntKind} (hk : kd ≠ .u8) : ∀ L : List Int, num kd L = [] ∨ ∃ (k : Nat) (v : Value), (num kd L)[k]? = some v ∧ ∀ z : Int, v ≠ Value.int IntKind.u8 z
  | [] => .inl rfl
  | a :: L => .inr ⟨0, _, rfl, fun z e => by injection e with e1 _; exact hk e1⟩
theorem inss_not8 : ∀ L : List In4, inss L = [] ∨ ∃ (k : Nat) (v : Value), (inss L)[k]? = some v ∧ ∀ z : Int, v ≠ Value.int IntKind.u8 z
  | [] => .inl rfl
  | a :: L => .inr ⟨3, _, rfl, fun z e => by injection e with e1 _; cases e1⟩
theorem scU_byte {B : List Int} {n q : Nat} {v : Int} {s : Sta} (hb : Byts B) (hx : (n : Int) ≤ 512) (ok : s.Ok) (m : Int) (h : (fetF B (List.range n) s).1 = 0)
    (hF : ∀ z ∈ scF B (List.range n) s m, z ≠ ((q / 64 : Nat) : Int)) (hT : ∀ z ∈ scT B (List.range n) s m, z ≠ ((q / 64 : Nat) : Int)) :
    (fetF (B.set q v) (List.range n) s).1 = 0 ∧ (scU B (List.range n) s m).I <+: (scU (B.set q v) (List.range n) s m).I ∧ (scU B (List.range n) s m).A <+: (scU (B.set q v) (List.range n) s m).A := by
  unfold scF at hF
  unfold scT at hT
  rw [if_pos h] at hF hT
  have H := scn_byte (v := v) hb hx ok m h hF hT
  unfold scU
  rw [if_pos h, if_pos H.1]
  exact H
set_option maxHeartbeats 8000000 in
set_option maxRecDepth 100000 in
theorem walk (fr : Int) (xi : Option Addr) (li ci : Nat) (Z : List Int) (xc : Option Addr) (lc cc : Nat) (C : List In4) (en : Int) (s : Sta) (xs : Option Addr) (ls cs : Nat) (E : List Ev) (xd : Option Addr) (ld cd : Nat) (D : List Int) (hfr : -9223372036854775808 ≤ fr ∧ fr ≤ 9223372036854775807) (a1 : Int) (w1 : (Lit.int .u8 a1).wf = true) (a2f0 : Int) (w2f0 : (Lit.int .u32 a2f0).wf = true) (a2f1 : Int) (w2f1 : (Lit.int .u32 a2f1).wf = true) (w : World) (w0 : GstIn w fr xi li ci Z xc lc cc C en s xs ls cs E xd ld cd D) (hT : Tabs w) :
    Calls Tryz.prog 6 #[.agg (gstV fr (.slice xi li ci) (.slice xc lc cc) en s (.slice xs ls cs) (.slice xd ld cd)), .int .u8 a1, .agg #[.int .u32 a2f0, .int .u32 a2f1]] w fun e w' => e = .returned (.bool true) ∧ Kep w w' := by
  have I' := hidd w0
  have T' := hidd hT
  have F' := hidd hfr
  have SO : Hid s.Ok := ⟨w0.so.r, w0.so.pc, w0.so.ps, w0.so.c⟩
  have BL : Hid ((gstL fr Z C en).length = 64 * nFr fr) := gstL_len fr Z C en
  have NR : Hid (1 ≤ nFr fr ∧ nFr fr ≤ 24) := nFr_range fr
  have BN : Hid (gstL fr Z C en ≠ []) := by
    intro e
    have h1 := BL.out
    have h2 := NR.out
    rw [e] at h1
    simp at h1; omega
  obtain ⟨V, hV⟩ : ∃ V, Hid (gstV fr (.slice xi li ci) (.slice xc lc cc) en s (.slice xs ls cs) (.slice xd ld cd) = V) := ⟨_, rfl⟩
  have VZ : Hid ((Tryz.prog.info? 31).map (·.size) = some V.size) := by rw [Hid, ← hV.out]; kernel_rfl
  have RA : Hid (∀ (w' : World) (g : Nat), w'.heap[g]? = some (.cells V 31 (0, 0)) → w'.rangeAt g 4 s.v.toList) := fun w' g h => by rw [← hV.out] at h; exact sta_mid h
  have HM : Hid (∀ w', Kep w w' → Calls Tryz.prog 7 #[.agg V] w' fun e w'' => ∃ p R Rb : Nat, e = .returned (.tuple #[.pointer (some ⟨p, 0, none⟩), refV (some ⟨Rb, 0, none⟩) (64 * nFr fr)]) ∧
      Two w'' (.pointer (some ⟨p, 0, none⟩)) R (nFr fr) (some ⟨Rb, 0, none⟩) Rb (gstL fr Z C en) ∧ Kep w' w'' ∧ w'.heap.size ≤ R ∧ w'.heap.size ≤ Rb) := fun w' k => by rw [← hV.out]; exact made18_any (I'.out.kep k) F'.out
  obtain ⟨n1, hn1⟩ : ∃ n : Nat, a1 = (n : Int) ∧ n < 256 := by
    have := gu8_of w1
    exact ⟨a1.toNat, by omega, by omega⟩
  obtain ⟨rfl, hn1⟩ := hn1
  have N1 := hidd hn1
  have hx0 := u32_of w2f0
  have hx1 := u32_of w2f1
  have HW : Hid (∀ w', Kep w w' → Calls Tryz.prog 11 #[] w' fun e w'' => e = .returned (.bool true) ∧ Kep w' w'') := fun w' k => works18_any w' (T'.out.grown k)
  rw [hV.out]
  clear w0 hfr hT w1 hn1 w2f0 w2f1
  generalize nFr fr = n at *
  generalize gstL fr Z C en = B at *
  obtain ⟨N, hN⟩ : ∃ N, Hid (64 * n = N) := ⟨_, rfl⟩
  have HM' := HM.out
  rw [hN.out] at HM'
  have HM2 := hidd HM'
  have N0 : 1 ≤ N ∧ N ≤ 1536 := by have := hN.out; have := NR.out; omega
  have N64 : Hid (N = 64 * n) := hN.out.symm
  have NZ : ((N : Int) == 0) = false := by simp; omega
  obtain ⟨qn, hq⟩ : ∃ q : Nat, Hid (a2f0 % (N : Int) = (q : Int)) := ⟨(a2f0 % (N : Int)).toNat, by have := Int.emod_nonneg a2f0 (show (N : Int) ≠ 0 by omega); show _ = _; omega⟩
  have QN : Hid (qn < N) := by
    have := Int.emod_lt_of_pos a2f0 (show (0 : Int) < N by omega)
    have h2 := hq.out
    show qn < N
    omega
  obtain ⟨vb, hvb⟩ : ∃ v, Hid (a2f1 % 256 = v) := ⟨_, rfl⟩
  clear HM HM'
  go_enter Tryz.func6, Tryz.ntmps6
  go_upto_region 1 with fail
  obtain ⟨i1, q1⟩ : ∃ i1, Hid (i1 = w.heap.size) := ⟨_, rfl⟩
  obtain ⟨i2, q2⟩ : ∃ i2, Hid (i2 = w.heap.size + 1) := ⟨_, rfl⟩
  rw [← q2.out, ← q1.out]
  have B1 := hidd (show ((w.alloc (.cells V 31)).alloc (.cells #[.int .u32 a2f0, .int .u32 a2f1] 55)).heap[i1]? = some (.cells V 31 (0, 0)) by rw [q1.out]; exact ((Kep.refl _).alloc _).block (hat _ _ _ rfl))
  have B2 := hidd (show ((w.alloc (.cells V 31)).alloc (.cells #[.int .u32 a2f0, .int .u32 a2f1] 55)).heap[i2]? = some (.cells #[.int .u32 a2f0, .int .u32 a2f1] 55 (0, 0)) by rw [q2.out]; exact hat _ _ _ (by simp))
  have K1 := hidd (((Kep.refl w).alloc (.cells V 31)).alloc (.cells #[.int .u32 a2f0, .int .u32 a2f1] 55))
  generalize (w.alloc (.cells V 31)).alloc (.cells #[.int .u32 a2f0, .int .u32 a2f1] 55) = W1 at B1 B2 K1 ⊢
  refine wp_region_lit ?_
  refine wpList_load_row (by rfl) 31 _ (by rfl) i1 (by rfl) 31 _ (0, 0) _ B1.out Tryz.underlying31 rfl VZ.out ?_
  go_wp2_with fail
  refine (HM2.out W1 K1.out).mono ?_
  rintro e w3 ⟨p, R, Rb, rfl, T2, k3, lR, lRb⟩
  have K3 := hidd (kep_trans K1.out k3)
  have B3 := hidd (k3.block B1.out)
  have D3 := hidd (k3.block B2.out)
  have M3 := hidd (Two.mem18 T2)
  have RL : Hid (R < w3.heap.size) := T2.lR
  have RW : Hid (w.heap.size ≤ R) := Nat.le_trans K1.out.size lR
  have R2 : Hid (i1 ≠ R ∧ i2 ≠ R) := by have h1 := block_lt B1.out; have h2 := block_lt B2.out; exact ⟨by omega, by omega⟩
  have HS : Hid (∀ w', Kep w3 w' → ∀ m, Calls Tryz.prog 8 #[.pointer (some ⟨p, 0, none⟩), .agg s.v, .int .i64 m] w' fun e w'' => ∃ vI vA vF vT, e = .returned (.tuple #[.agg (blkC vI vA (scU B (List.range n) s m).n (scU B (List.range n) s m).t (scU B (List.range n) s m).e vF vT), .agg #[.int .i64 (fetF B (List.range n) s).1, .int .u32 (fetF B (List.range n) s).2]]) ∧ BlkV w'' B (List.range n) s m vI vA vF vT ∧ Kep w' w'') := fun w' k m =>
    scan_all (M3.out.kep k) BN.out SO.out (T'.out.grown (kep_trans K3.out k)) m
  clear HM2 T2 k3 lR lRb B1 B2 K1
  obtain ⟨fc, fd, fq⟩ : ∃ c d, Hid (fetF B (List.range n) s = (c, d)) := ⟨_, _, rfl⟩
  obtain ⟨Ua, ua⟩ : ∃ U, Hid (scU B (List.range n) s ((n1 : Int) % 40) = U) := ⟨_, rfl⟩
  obtain ⟨Fa, sfa⟩ : ∃ F, Hid (scF B (List.range n) s ((n1 : Int) % 40) = F) := ⟨_, rfl⟩
  obtain ⟨Ta, sta⟩ : ∃ T, Hid (scT B (List.range n) s ((n1 : Int) % 40) = T) := ⟨_, rfl⟩
  have HB : Hid (fc = 0 → (∀ z ∈ Fa, z ≠ ((qn / 64 : Nat) : Int)) → (∀ z ∈ Ta, z ≠ ((qn / 64 : Nat) : Int)) → (fetF (B.set qn vb) (List.range n) s).1 = 0 ∧ Ua.I <+: (scU (B.set qn vb) (List.range n) s ((n1 : Int) % 40)).I ∧ Ua.A <+: (scU (B.set qn vb) (List.range n) s ((n1 : Int) % 40)).A) := fun h0 h1 h2 => by
    have := scU_byte (n := n) (q := qn) (v := vb) M3.out.byts (by have := NR.out; omega) SO.out ((n1 : Int) % 40) (by rw [fq.out]; exact h0) (by rw [sfa.out]; exact h1) (by rw [sta.out]; exact h2)
    rw [ua.out] at this
    exact this
  have SA := hidd (scU_same B (List.range n) s ((n1 : Int) % 40))
  rw [ua.out] at SA
  go_upto_region 4 with fail
  obtain ⟨i8, q8⟩ : ∃ i8, Hid (i8 = w3.heap.size) := ⟨_, rfl⟩
  rw [← q8.out]
  have K4 := hidd ((Kep.refl w3).alloc (.cells #[.slice (some ⟨Rb, 0, none⟩) N N] 34))
  have B4 := hidd (K4.out.block B3.out)
  have D4 := hidd (K4.out.block D3.out)
  have E4 : Hid ((w3.alloc (.cells #[.slice (some ⟨Rb, 0, none⟩) N N] 34)).heap[i8]? = some (.cells #[.slice (some ⟨Rb, 0, none⟩) N N] 34 (0, 0))) := hat _ _ _ q8.out
  generalize w3.alloc (.cells #[.slice (some ⟨Rb, 0, none⟩) N N] 34) = W4 at K4 B4 D4 E4 ⊢
  refine wp_region_lit ?_
  go_wp2_with (refine load_sta18 (by rfl) _ (by rfl) i1 4 (by rfl) s (RA.out _ _ B4.out) ?_)
  refine (HS.out W4 K4.out ((n1 : Int) % 40)).mono ?_
  rintro e wa ⟨vI, vA, vF, vT, he, ⟨⟨xia, cia, rfl, i1a, i2a, i3a⟩, ⟨xaa, caa, rfl, a1a, a2a, a3a⟩, ⟨xfa, cfa, rfl, f1a, f2a, f3a⟩, ⟨xta, cta, rfl, t1a, t2a, t3a⟩⟩, ka⟩
  have LIa := hidd (And.intro i1a (And.intro i2a i3a))
  have LAa := hidd (And.intro a1a (And.intro a2a a3a))
  have LFa := hidd (And.intro f1a (And.intro f2a f3a))
  have LTa := hidd (And.intro t1a (And.intro t2a t3a))
  clear i1a i2a i3a a1a a2a a3a f1a f2a f3a t1a t2a t3a
  rw [fq.out] at he
  rw [sfa.out] at he LFa
  rw [sta.out] at he LTa
  obtain ⟨Va, hVa⟩ : ∃ V, Hid (blkC (.slice xia Ua.I.length cia) (.slice xaa Ua.A.length caa) Ua.n Ua.t Ua.e (.slice xfa Fa.length cfa) (.slice xta Ta.length cta) = V) := ⟨_, rfl⟩
  have VZa : Hid ((Tryz.prog.info? 40).map (·.size) = some Va.size) := by rw [Hid, ← hVa.out]; exact size_blk
  have VSa : Hid (7 = Va.size) := by rw [Hid, ← hVa.out]; rfl
  have VOa : Hid (Va.all Value.oneCell' = true) := by rw [Hid, ← hVa.out]; simp [Value.oneCell']
  have V0a : Hid (Va[0]? = some (.slice xia Ua.I.length cia)) := by rw [Hid, ← hVa.out]; rfl
  have V1a : Hid (Va[1]? = some (.slice xaa Ua.A.length caa)) := by rw [Hid, ← hVa.out]; rfl
  have V5a : Hid (Va[5]? = some (.slice xfa Fa.length cfa)) := by rw [Hid, ← hVa.out]; rfl
  have V6a : Hid (Va[6]? = some (.slice xta Ta.length cta)) := by rw [Hid, ← hVa.out]; rfl
  rw [ua.out, hVa.out] at he
  rw [ua.out] at LIa LAa
  obtain rfl := he
  have Ka := hidd (kep_trans K4.out ka)
  have Kca := hidd ka
  clear ka
  obtain ⟨Ya, hYa⟩ : ∃ W, Hid ((wa.alloc (.cells #[.slice none 0 0, .slice none 0 0, .int .u32 0, .int .u32 0, .int .i64 0, .slice none 0 0, .slice none 0 0] 40)).alloc (.cells #[.int .i64 0, .int .u32 0] 42) = W) := ⟨_, rfl⟩
  obtain ⟨ia, qia⟩ : ∃ i, Hid (i = wa.heap.size) := ⟨_, rfl⟩
  obtain ⟨fa, qfa⟩ : ∃ i, Hid (i = wa.heap.size + 1) := ⟨_, rfl⟩
  have BIa : Hid (Ya.heap[ia]? = some (.cells #[.slice none 0 0, .slice none 0 0, .int .u32 0, .int .u32 0, .int .i64 0, .slice none 0 0, .slice none 0 0] 40 (0, 0))) := by rw [← hYa.out, qia.out]; exact ((Kep.refl _).alloc _).block (hat _ _ _ rfl)
  have BFa : Hid (Ya.heap[fa]? = some (.cells #[.int .i64 0, .int .u32 0] 42 (0, 0))) := by rw [← hYa.out, qfa.out]; exact hat _ _ _ (by simp)
  have KYa : Hid (Kep wa Ya) := by rw [← hYa.out]; exact ((Kep.refl _).alloc _).alloc _
  have NEa : Hid (ia ≠ fa) := by rw [qia.out, qfa.out]; exact Nat.ne_of_lt (Nat.lt_succ_self _)
  have BGa := hidd ((setRow_other Ya ia fa Va (Ne.symm NEa.out)).trans BFa.out)
  have Pa : Hid (Put [ia, fa] Ya ((Ya.setRow ia Va).setRow fa #[.int .i64 fc, .int .u32 fd])) := ((Put.refl _).setRow (by simp) _).setRow (by simp) _
  obtain ⟨Xa, hXa⟩ : ∃ W, Hid ((Ya.setRow ia Va).setRow fa #[.int .i64 fc, .int .u32 fd] = W) := ⟨_, rfl⟩
  have CIa : Hid (Xa.heap[ia]? = some (.cells Va 40 (0, 0))) := by rw [← hXa.out]; exact (setRow_other _ _ _ _ NEa.out).trans (setRow_heap _ _ _ _ _ _ BIa.out)
  have CFa : Hid (Xa.heap[fa]? = some (.cells #[.int .i64 fc, .int .u32 fd] 42 (0, 0))) := by rw [← hXa.out]; exact setRow_heap _ _ _ _ _ _ BGa.out
  have KXa : Hid (Kep wa Xa) := by rw [← hXa.out]; exact KYa.out.put Pa.out (by have := qia.out; have := qfa.out; simp; omega)
  go_upto_region 5 with (first
    | (rw [hYa.out, ← qfa.out, ← qia.out]; refine wpList_store_row (by rfl) 40 _ _ (by rfl) ia Va (by rfl) (by rfl) 40 #[.slice none 0 0, .slice none 0 0, .int .u32 0, .int .u32 0, .int .i64 0, .slice none 0 0, .slice none 0 0] BIa.out (by exact VZa.out) (by exact VSa.out) VOa.out ?_)
    | (refine wpList_store_row (by rfl) 42 _ _ (by rfl) fa #[.int .i64 fc, .int .u32 fd] (by rfl) (by rfl) 42 #[.int .i64 0, .int .u32 0] BGa.out (by exact size_flt) (by rfl) (by simp [Value.oneCell']) ?_; rw [hXa.out]))
  have K5 := hidd (kep_trans Ka.out KXa.out)
  have KV := hidd (kep_trans Kca.out KXa.out)
  have B5 := hidd (KV.out.block B4.out)
  have D5 := hidd (KV.out.block D4.out)
  have E5 := hidd (KV.out.block E4.out)
  have LI5 := hidd (And.intro LIa.out.1 (And.intro LIa.out.2.1 (LIa.out.2.2.kep KXa.out)))
  have LA5 := hidd (And.intro LAa.out.1 (And.intro LAa.out.2.1 (LAa.out.2.2.kep KXa.out)))
  have LF5 := hidd (And.intro LFa.out.1 (And.intro LFa.out.2.1 (LFa.out.2.2.kep KXa.out)))
  have LT5 := hidd (And.intro LTa.out.1 (And.intro LTa.out.2.1 (LTa.out.2.2.kep KXa.out)))
  have IR : Hid (ia ≠ R ∧ fa ≠ R) := by have := qia.out; have := qfa.out; have := RL.out; have := Ka.out.size; exact ⟨by omega, by omega⟩
  clear hVa VZa VSa VOa hYa BIa BFa KYa NEa BGa Pa hXa KXa Ka Kca K4 B4 D4 E4 LIa LAa LFa LTa qia qfa KV
  have d0 : Xa.cell? ⟨i2, 0, none⟩ = some (.int .u32 a2f0) := cell_of_block D5.out
  have e0 : Xa.cell? ⟨i8, 0, none⟩ = some (.slice (some ⟨Rb, 0, none⟩) N N) := cell_of_block E5.out
  have ca5 : Xa.cell? ⟨ia, 5, none⟩ = some (.slice xfa Fa.length cfa) := (cell_of_block CIa.out).trans V5a.out
  have ca6 : Xa.cell? ⟨ia, 6, none⟩ = some (.slice xta Ta.length cta) := (cell_of_block CIa.out).trans V6a.out
  have cf0 : Xa.cell? ⟨fa, 0, none⟩ = some (.int .i64 fc) := cell_of_block CFa.out
  have KW5 := hidd (kep_trans K3.out K5.out)
  go_upto_region 6 with fail
  rw [hq.out]
  clear d0 e0
  have QB : (0 : Int) ≤ qn ∧ (qn : Int) < 4294967296 := by have := QN.out; omega
  go_wp2_with fail
  go_loopw [12] (fun i wr => ∃ k : Nat, (k : Int) ≤ Fa.length ∧ i = .int .i64 k ∧ Hid (∀ j z, Fa[j]? = some z → j < k → z ≠ ((qn / 64 : Nat) : Int)) ∧ wr = Xa) (fun i _ => Fa.length - (intOf i).toNat)
  case atStart => exact ⟨0, by omega, rfl, fun j z _ h => absurd h (Nat.not_lt_zero j), rfl⟩
  case round =>
    obtain ⟨k, hk, rfl, hA, hwr⟩ := hrel
    rw [hwr]
    clear hwr wr
    have hmax : (Fa.length : Int) ≤ 9223372036854775807 := by have h1 := LF5.out.1; have h2 := LF5.out.2.1; simp [maxLen] at h2; omega
    by_cases hlt : k < Fa.length
    · obtain ⟨z, hz⟩ : ∃ z, Fa[k]? = some z := ⟨_, List.getElem?_eq_getElem hlt⟩
      obtain ⟨b1, o1, rfl, ga⟩ := lies_num LF5.out.2.2 hz
      have hz' := hidd hz
      clear hz
      by_cases he : z = ((qn / 64 : Nat) : Int)
      · have he' : (z == (qn : Int) / 64) = true := by simp; omega
        go_wp2_with fail
        refine (HW.out _ KW5.out).mono ?_
        rintro e w9 ⟨rfl, k9⟩
        go_wp2_with fail
        go_ret
        exact ⟨rfl, kep_trans KW5.out k9⟩
      · have he' : (z == (qn : Int) / 64) = false := by simp; omega
        have he2 := hidd he
        clear he
        go_wp2_with fail
        go_roundw
        case rel => exact ⟨k + 1, by omega, by go_num, fun j y hy hj => by
          rcases Nat.lt_or_ge j k with h | h
          · exact hA.out j y hy h
          · obtain rfl : j = k := by omega
            rw [hz'.out] at hy; cases hy; exact he2.out, (by trivial)⟩
        case measure => simp [intOf]; omega
    · obtain rfl : k = Fa.length := by omega
      have HF0 : Hid (∀ z ∈ Fa, z ≠ ((qn / 64 : Nat) : Int)) := fun z hz => by
        obtain ⟨j, hj, rfl⟩ := List.mem_iff_getElem.1 hz
        exact hA.out j _ (List.getElem?_eq_getElem hj) hj
      clear hA hlt hk
      go_upto_region 11 with fail
      clear ca5 hmax
      go_wp2_with fail
      go_loopw [13] (fun i wr => ∃ k : Nat, (k : Int) ≤ Ta.length ∧ i = .int .i64 k ∧ Hid (∀ j z, Ta[j]? = some z → j < k → z ≠ ((qn / 64 : Nat) : Int)) ∧ wr = Xa) (fun i _ => Ta.length - (intOf i).toNat)
      case atStart => exact ⟨0, by omega, rfl, fun j z _ h => absurd h (Nat.not_lt_zero j), rfl⟩
      case round =>
        obtain ⟨k, hk, rfl, hA, hwr⟩ := hrel
        rw [hwr]
        clear hwr wr
        have hmax : (Ta.length : Int) ≤ 9223372036854775807 := by have h1 := LT5.out.1; have h2 := LT5.out.2.1; simp [maxLen] at h2; omega
        by_cases hlt : k < Ta.length
        · obtain ⟨z, hz⟩ : ∃ z, Ta[k]? = some z := ⟨_, List.getElem?_eq_getElem hlt⟩
          obtain ⟨b1, o1, rfl, ga⟩ := lies_num LT5.out.2.2 hz
          have hz' := hidd hz
          clear hz
          by_cases he : z = ((qn / 64 : Nat) : Int)
          · have he' : (z == (qn : Int) / 64) = true := by simp; omega
            go_wp2_with fail
            refine (HW.out _ KW5.out).mono ?_
            rintro e w9 ⟨rfl, k9⟩
            go_wp2_with fail
            go_ret
            exact ⟨rfl, kep_trans KW5.out k9⟩
          · have he' : (z == (qn : Int) / 64) = false := by simp; omega
            have he2 := hidd he
            clear he
            go_wp2_with fail
            go_roundw
            case rel => exact ⟨k + 1, by omega, by go_num, fun j y hy hj => by
              rcases Nat.lt_or_ge j k with h | h
              · exact hA.out j y hy h
              · obtain rfl : j = k := by omega
                rw [hz'.out] at hy; cases hy; exact he2.out, (by trivial)⟩
            case measure => simp [intOf]; omega
        · obtain rfl : k = Ta.length := by omega
          have HT0 : Hid (∀ z ∈ Ta, z ≠ ((qn / 64 : Nat) : Int)) := fun z hz => by
            obtain ⟨j, hj, rfl⟩ := List.mem_iff_getElem.1 hz
            exact hA.out j _ (List.getElem?_eq_getElem hj) hj
          clear hA hlt hk
          go_upto_region 16 with fail
          clear ca6 hmax
          by_cases h0 : fc = 0
          · have hn0 : (fc != 0) = false := by simpa using h0
            have H := hidd (HB.out h0 HF0.out HT0.out)
            have HSB : Hid (Calls Tryz.prog 14 #[.pointer (some ⟨p, 0, none⟩), .int .u32 (qn : Int), .int .u8 (a2f1 % 256)] Xa fun e w' => e = .returned (.bool true) ∧ Put [R] Xa w' ∧ RowB w' R (B.set qn vb)) := by
              have M5 := M3.out.kep K5.out
              have h := setByte_put Xa (mpt p) R (List.range n) B M5.ram M5.max M5.row M5.fits qn QB.2 (a2f1 % 256)
              have hl : qn < 64 * (List.range n).length := by rw [List.length_range, hN.out]; exact QN.out
              rw [if_pos hl, decide_eq_true hl, pos_range (by rw [hN.out]; exact QN.out), hvb.out] at h
              rw [hvb.out]
              exact h
            have d1 : Xa.cell? ⟨i2, 1, none⟩ = some (.int .u32 a2f1) := cell_of_block D5.out
            clear h0 HB HF0 HT0
            go_wp2_with fail
            refine Calls.mono HSB.out ?_
            rintro e w6 ⟨rfl, P6, RB6⟩
            obtain ⟨Bt, hBt⟩ : ∃ b, Hid (B.set qn vb = b) := ⟨_, rfl⟩
            rw [hBt.out] at RB6
            have hH := H.out
            rw [hBt.out] at hH
            have BNt : Hid (Bt ≠ []) := by
              rw [← hBt.out]
              intro e
              have h1 := congrArg List.length e
              rw [List.length_set, BL.out, hN.out] at h1
              simp at h1; omega
            have hvr : Hid (0 ≤ vb ∧ vb < 256) := by have := hvb.out; show _ ∧ _; omega
            have M5 := hidd (M3.out.kep K5.out)
            have M6 : Hid (Mem w6 (mpt p) R (List.range n) Bt) := ⟨M5.out.ram.put P6, RB6, by rw [← hBt.out]; exact M5.out.fits.len (by simp), by rw [← hBt.out]; exact M5.out.byts.set _ hvr.out.1 hvr.out.2, M5.out.max⟩
            have B6 := hidd (P6.keeps B5.out (by have := R2.out.1; simpa using this))
            have CI6 := hidd (P6.keeps CIa.out (by have := IR.out.1; simpa using this))
            have LI6 := hidd (And.intro LI5.out.1 (And.intro LI5.out.2.1 (lies_put_b LI5.out.2.2 (inss_not8 _) M5.out.row BN.out P6)))
            have LA6 := hidd (And.intro LA5.out.1 (And.intro LA5.out.2.1 (lies_put_b LA5.out.2.2 (num_not8 (by decide) _) M5.out.row BN.out P6)))
            have KW6 : Hid (Kep w w6) := KW5.out.put P6 (by have := RW.out; simpa using this)
            have K60 := hidd (Kep.refl w6)
            have HS2 : Hid (∀ w', Kep w6 w' → ∀ m, Calls Tryz.prog 8 #[.pointer (some ⟨p, 0, none⟩), .agg s.v, .int .i64 m] w' fun e w'' => ∃ vI vA vF vT, e = .returned (.tuple #[.agg (blkC vI vA (scU Bt (List.range n) s m).n (scU Bt (List.range n) s m).t (scU Bt (List.range n) s m).e vF vT), .agg #[.int .i64 (fetF Bt (List.range n) s).1, .int .u32 (fetF Bt (List.range n) s).2]]) ∧ BlkV w'' Bt (List.range n) s m vI vA vF vT ∧ Kep w' w'') := fun w' k m =>
              scan_all (M6.out.kep k) BNt.out SO.out (T'.out.grown (kep_trans KW6.out k)) m
            obtain ⟨gc, gd, gq⟩ : ∃ c d, Hid (fetF Bt (List.range n) s = (c, d)) := ⟨_, _, rfl⟩
            rw [gq.out] at hH
            obtain ⟨Ub, ub⟩ : ∃ U, Hid (scU Bt (List.range n) s ((n1 : Int) % 40) = U) := ⟨_, rfl⟩
            obtain ⟨Fb, sfb⟩ : ∃ F, Hid (scF Bt (List.range n) s ((n1 : Int) % 40) = F) := ⟨_, rfl⟩
            obtain ⟨Tb_, stb⟩ : ∃ T, Hid (scT Bt (List.range n) s ((n1 : Int) % 40) = T) := ⟨_, rfl⟩
            have SB_ := hidd (scU_same Bt (List.range n) s ((n1 : Int) % 40))
            rw [ub.out] at hH SB_
            obtain ⟨hg0, hp1, hp2⟩ := hH
            have LE := hidd (And.intro hp1 hp2)
            have ng0 : (gc != 0) = false := by simpa using hg0
            clear hp1 hp2 hg0 P6 RB6 H HSB HS B5 D5 E5 d1 CIa cf0 CFa LI5 LA5 LF5 LT5 M5 B3 D3 M3 hn0
            go_upto_region 18 with fail
            refine wp_region_lit ?_
            go_wp2_with (refine load_sta18 (by rfl) _ (by rfl) i1 4 (by rfl) s (RA.out _ _ B6.out) ?_)
            refine (HS2.out w6 K60.out ((n1 : Int) % 40)).mono ?_
            rintro e wb ⟨vI, vA, vF, vT, he, ⟨⟨xib, cib, rfl, i1b, i2b, i3b⟩, ⟨xab, cab, rfl, a1b, a2b, a3b⟩, ⟨xfb, cfb, rfl, f1b, f2b, f3b⟩, ⟨xtb, ctb, rfl, t1b, t2b, t3b⟩⟩, kb⟩
            have LIb := hidd (And.intro i1b (And.intro i2b i3b))
            have LAb := hidd (And.intro a1b (And.intro a2b a3b))
            have LFb := hidd (And.intro f1b (And.intro f2b f3b))
            have LTb := hidd (And.intro t1b (And.intro t2b t3b))
            clear i1b i2b i3b a1b a2b a3b f1b f2b f3b t1b t2b t3b
            rw [gq.out] at he
            rw [sfb.out] at he LFb
            rw [stb.out] at he LTb
            obtain ⟨Vb, hVb⟩ : ∃ V, Hid (blkC (.slice xib Ub.I.length cib) (.slice xab Ub.A.length cab) Ub.n Ub.t Ub.e (.slice xfb Fb.length cfb) (.slice xtb Tb_.length ctb) = V) := ⟨_, rfl⟩
            have VZb : Hid ((Tryz.prog.info? 40).map (·.size) = some Vb.size) := by rw [Hid, ← hVb.out]; exact size_blk
            have VSb : Hid (7 = Vb.size) := by rw [Hid, ← hVb.out]; rfl
            have VOb : Hid (Vb.all Value.oneCell' = true) := by rw [Hid, ← hVb.out]; simp [Value.oneCell']
            have V0b : Hid (Vb[0]? = some (.slice xib Ub.I.length cib)) := by rw [Hid, ← hVb.out]; rfl
            have V1b : Hid (Vb[1]? = some (.slice xab Ub.A.length cab)) := by rw [Hid, ← hVb.out]; rfl
            have V5b : Hid (Vb[5]? = some (.slice xfb Fb.length cfb)) := by rw [Hid, ← hVb.out]; rfl
            have V6b : Hid (Vb[6]? = some (.slice xtb Tb_.length ctb)) := by rw [Hid, ← hVb.out]; rfl
            rw [ub.out, hVb.out] at he
            rw [ub.out] at LIb LAb
            obtain rfl := he
            have Kb := hidd (kep_trans K60.out kb)
            have Kcb := hidd kb
            clear kb
            obtain ⟨Yb, hYb⟩ : ∃ W, Hid ((wb.alloc (.cells #[.slice none 0 0, .slice none 0 0, .int .u32 0, .int .u32 0, .int .i64 0, .slice none 0 0, .slice none 0 0] 40)).alloc (.cells #[.int .i64 0, .int .u32 0] 42) = W) := ⟨_, rfl⟩
            obtain ⟨ib, qib⟩ : ∃ i, Hid (i = wb.heap.size) := ⟨_, rfl⟩
            obtain ⟨fb, qfb⟩ : ∃ i, Hid (i = wb.heap.size + 1) := ⟨_, rfl⟩
            have BIb : Hid (Yb.heap[ib]? = some (.cells #[.slice none 0 0, .slice none 0 0, .int .u32 0, .int .u32 0, .int .i64 0, .slice none 0 0, .slice none 0 0] 40 (0, 0))) := by rw [← hYb.out, qib.out]; exact ((Kep.refl _).alloc _).block (hat _ _ _ rfl)
            have BFb : Hid (Yb.heap[fb]? = some (.cells #[.int .i64 0, .int .u32 0] 42 (0, 0))) := by rw [← hYb.out, qfb.out]; exact hat _ _ _ (by simp)
            have KYb : Hid (Kep wb Yb) := by rw [← hYb.out]; exact ((Kep.refl _).alloc _).alloc _
            have NEb : Hid (ib ≠ fb) := by rw [qib.out, qfb.out]; exact Nat.ne_of_lt (Nat.lt_succ_self _)
            have BGb := hidd ((setRow_other Yb ib fb Vb (Ne.symm NEb.out)).trans BFb.out)
            have Pb : Hid (Put [ib, fb] Yb ((Yb.setRow ib Vb).setRow fb #[.int .i64 gc, .int .u32 gd])) := ((Put.refl _).setRow (by simp) _).setRow (by simp) _
            obtain ⟨Xb, hXb⟩ : ∃ W, Hid ((Yb.setRow ib Vb).setRow fb #[.int .i64 gc, .int .u32 gd] = W) := ⟨_, rfl⟩
            have CIb : Hid (Xb.heap[ib]? = some (.cells Vb 40 (0, 0))) := by rw [← hXb.out]; exact (setRow_other _ _ _ _ NEb.out).trans (setRow_heap _ _ _ _ _ _ BIb.out)
            have CFb : Hid (Xb.heap[fb]? = some (.cells #[.int .i64 gc, .int .u32 gd] 42 (0, 0))) := by rw [← hXb.out]; exact setRow_heap _ _ _ _ _ _ BGb.out
            have KXb : Hid (Kep wb Xb) := by rw [← hXb.out]; exact KYb.out.put Pb.out (by have := qib.out; have := qfb.out; simp; omega)
            go_upto_region 19 with (first
              | (rw [hYb.out, ← qfb.out, ← qib.out]; refine wpList_store_row (by rfl) 40 _ _ (by rfl) ib Vb (by rfl) (by rfl) 40 #[.slice none 0 0, .slice none 0 0, .int .u32 0, .int .u32 0, .int .i64 0, .slice none 0 0, .slice none 0 0] BIb.out (by exact VZb.out) (by exact VSb.out) VOb.out ?_)
              | (refine wpList_store_row (by rfl) 42 _ _ (by rfl) fb #[.int .i64 gc, .int .u32 gd] (by rfl) (by rfl) 42 #[.int .i64 0, .int .u32 0] BGb.out (by exact size_flt) (by rfl) (by simp [Value.oneCell']) ?_; rw [hXb.out]))
            have KB := hidd (kep_trans Kcb.out KXb.out)
            have KWB := hidd (kep_trans KW6.out KB.out)
            have CIaB := hidd (KB.out.block CI6.out)
            have LIaB := hidd (And.intro LI6.out.1 (And.intro LI6.out.2.1 (LI6.out.2.2.kep KB.out)))
            have LAaB := hidd (And.intro LA6.out.1 (And.intro LA6.out.2.1 (LA6.out.2.2.kep KB.out)))
            have LIbB := hidd (And.intro LIb.out.1 (And.intro LIb.out.2.1 (LIb.out.2.2.kep KXb.out)))
            have LAbB := hidd (And.intro LAb.out.1 (And.intro LAb.out.2.1 (LAb.out.2.2.kep KXb.out)))
            clear hVb VZb VSb VOb hYb BIb BFb KYb NEb BGb Pb hXb KXb Kb Kcb LIb LAb qib qfb LI6 LA6 CI6 B6 HS2 M6 K60
            have ca0 : Xb.cell? ⟨ia, 0, none⟩ = some (.slice xia Ua.I.length cia) := (cell_of_block CIaB.out).trans V0a.out
            have ca1 : Xb.cell? ⟨ia, 1, none⟩ = some (.slice xaa Ua.A.length caa) := (cell_of_block CIaB.out).trans V1a.out
            have cb0 : Xb.cell? ⟨ib, 0, none⟩ = some (.slice xib Ub.I.length cib) := (cell_of_block CIb.out).trans V0b.out
            have cb1 : Xb.cell? ⟨ib, 1, none⟩ = some (.slice xab Ub.A.length cab) := (cell_of_block CIb.out).trans V1b.out
            have cfb : Xb.cell? ⟨fb, 0, none⟩ = some (.int .i64 gc) := cell_of_block CFb.out
            have eaa : Ua.A.length = Ua.I.length := SA.out.symm
            have ebb : Ub.A.length = Ub.I.length := SB_.out.symm
            rw [eaa] at ca1
            rw [ebb] at cb1
            clear eaa ebb
            have ngt : ¬ (Ub.I.length : Int) < Ua.I.length := by have := LE.out.1.length_le; omega
            go_upto_region 21 with fail
            clear cfb ng0 ngt
            go_wp2_with fail
            go_loopw [16] (fun i wr => ∃ k : Nat, (k : Int) ≤ Ua.I.length ∧ i = .int .i64 k ∧ Hid (Kep Xb wr)) (fun i _ => Ua.I.length - (intOf i).toNat)
            case atStart => exact ⟨0, by omega, rfl, Kep.refl _⟩
            case round =>
              obtain ⟨k, hk, rfl, hK⟩ := hrel
              have hmax : (Ua.I.length : Int) ≤ 9223372036854775807 := by have h1 := LIaB.out.1; have h2 := LIaB.out.2.1; simp [maxLen] at h2; omega
              have ka0 : wr.cell? ⟨ia, 0, none⟩ = some (.slice xia Ua.I.length cia) := kcell18 hK.out ca0
              by_cases hlt : k < Ua.I.length
              · have ka1 : wr.cell? ⟨ia, 1, none⟩ = some (.slice xaa Ua.I.length caa) := kcell18 hK.out ca1
                have kb0 : wr.cell? ⟨ib, 0, none⟩ = some (.slice xib Ub.I.length cib) := kcell18 hK.out cb0
                have kb1 : wr.cell? ⟨ib, 1, none⟩ = some (.slice xab Ub.I.length cab) := kcell18 hK.out cb1
                obtain ⟨e, he⟩ : ∃ e, Ua.I[k]? = some e := ⟨_, List.getElem?_eq_getElem hlt⟩
                have heb := pre_at LE.out.1 he
                obtain ⟨g, hg⟩ : ∃ g, Ua.A[k]? = some g := ⟨_, List.getElem?_eq_getElem (by rw [← SA.out]; exact hlt)⟩
                have hgb := pre_at LE.out.2 hg
                have hltb : k < Ub.I.length := (List.getElem?_eq_some_iff.1 heb).1
                obtain ⟨b1, o1, rfl, ra⟩ := lies_ins (LIaB.out.2.2.kep hK.out) he
                obtain ⟨b2, o2, rfl, rb⟩ := lies_ins (LIbB.out.2.2.kep hK.out) heb
                obtain ⟨b3, o3, rfl, ga⟩ := lies_num (LAaB.out.2.2.kep hK.out) hg
                obtain ⟨b4, o4, rfl, gb⟩ := lies_num (LAbB.out.2.2.kep hK.out) hgb
                have RA1 := hidd ra
                have RB1 := hidd rb
                clear ra rb he heb hg hgb ca0 ca1 cb0 cb1 hk
                obtain ⟨eo, ea, eb, em⟩ := e
                go_upto_region 24 with fail
                refine wp_region_quiet_lit (by kernel_rfl) (by kernel_rfl) ?_
                repeat (first
                  | (refine quiet_mid18 53 _ (by rfl) b1 (o1 + k * 4) (by rfl) (by rfl) [.int .u8 eo, .int .u8 ea, .int .u8 eb, .int .i32 em] _ (fun w h => by obtain ⟨n, rfl⟩ := h; exact RA1.out) Tryz.underlying53 rfl (by kernel_rfl) ?_)
                  | (refine quiet_mid18 53 _ (by rfl) b2 (o2 + k * 4) (by rfl) (by rfl) [.int .u8 eo, .int .u8 ea, .int .u8 eb, .int .i32 em] _ (fun w h => by obtain ⟨n, rfl⟩ := h; exact RB1.out) Tryz.underlying53 rfl (by kernel_rfl) ?_)
                  | quiet_step (fail))
                refine wpQuiet_nil ?_
                intro _ hw'
                obtain ⟨nq, hw''⟩ := hw'
                subst hw''
                have KQ : Hid (Kep Xb (wr.drewN nq)) := hK.out.drewN nq
                clear ka0 ka1 kb0 kb1 ga gb hK RA1 RB1
                go_wp2_with fail
                go_roundw
                case rel => exact ⟨k + 1, by omega, by go_num, KQ⟩
                case measure => simp [intOf]; omega
              · have e0 : k = Ua.I.length := by omega
                subst e0
                have KE := hidd hK.out
                clear hK ca0 ca1 cb0 cb1 hlt hk
                go_wp2_with fail
                refine (HW.out _ (kep_trans KWB.out KE.out)).mono ?_
                rintro e w14 ⟨rfl, k14⟩
                go_wp2_with fail
                go_ret
                exact ⟨rfl, kep_trans (kep_trans KWB.out KE.out) k14⟩
          · have hn0 : (fc != 0) = true := by simpa using h0
            clear h0 HB
            go_wp2_with fail
            refine (HW.out _ KW5.out).mono ?_
            rintro e w9 ⟨rfl, k9⟩
            go_wp2_with fail
            go_ret
            exact ⟨rfl, kep_trans KW5.out k9⟩
set_option maxRecDepth 100000 in
theorem lifted (os : Os) (started : os.Started) (H : Type) (enc : TypeId × Value → H) :
    ReturnsInHanded {} Tryz.checked os 6 .any (fun w args => (Rows.scanHangsSpec.pre enc Tryz.prog Tryz.f6 Rows.scanHangsRow.domain false w args ∧ laidMetH Tryz.prog laidL w) ∧ sizedMet enc Tryz.prog Tryz.f6 (OpenSpec.ofChange Rows.scanHangsSpec) false w args)
      (Rows.scanHangsSpec.post enc Tryz.prog Tryz.f6 false true false false) := by
  refine returnsInHanded_of_change_and (C := Tryz.checked) (X := fun w _ => laidMetH Tryz.prog laidL w) (fun _ _ _ hh h => h.of_heap hh) own started (by kernel_rfl) Tryz.func6
    (ChangeSpec.witness_shaped (enc := enc) (C := Tryz.checked) (os := os) (X := fun w _ => laidMetH Tryz.prog laidL w) false (World.laidAll Tryz.prog os laidL) #[.agg #[.int .i64 0, .slice none 0 0, .slice none 0 0, .int .u16 0, .int .u32 0, .int .u32 0, .int .u32 0, .int .u32 0, .int .u32 0, .int .u32 0, .int .u32 0, .int .u32 0, .int .u32 0, .int .u32 0, .int .u32 0, .int .u32 0, .int .u32 0, .int .u32 0, .int .u32 0, .int .u32 0, .int .u32 0, .int .u32 0, .bool false, .slice none 0 0, .slice none 0 0], .int .u8 0, .agg #[.int .u32 0, .int .u32 0]] 8 (World.laidAll_os _ _ _)
      (World.shaped_of_ZipB (by kernel_rfl) (by kernel_rfl)) (by kernel_rfl) (by kernel_rfl) (by kernel_rfl)
      (by rw [MakeChecks.laidMetH_plain _ _ _ (by kernel_rfl)]; exact laidMet_laidAll _ (by kernel_rfl) (by kernel_rfl))) ?_
  intro W base args ds gs before hval0 hW hcnd hsz0 hL _
  have hval : ∀ (j : Nat) t v, Tryz.f6.params[j]? = some t → args[j]? = some v → Value.okWide Tryz.prog W .any base t v := hval0
  have hW' := hW
  obtain ⟨p, q, hA0, hV, rfl, hfz, hnd⟩ := hW
  have hA : DataW.TrodAll enc Tryz.prog W 0 (fun _ => true) true Tryz.f6.params.toList args.toList ds p := hA0
  rw [Tryz.params6] at hA hval
  obtain ⟨v0, vs0, d0, ds0, p0, q0, hargs, rfl, rfl, h0, r0⟩ := trodAll_cons hA
  obtain ⟨v1, vs1, d1, ds1, p1, q1, rfl, rfl, rfl, h1, r1⟩ := trodAll_cons r0
  obtain ⟨v2, vs2, d2, ds2, p2, q2, rfl, rfl, rfl, h2, r2⟩ := trodAll_cons r1
  obtain ⟨rfl, rfl, rfl⟩ := trodAll_nil r2
  obtain rfl : args = #[v0, v1, v2] := by cases args; simp_all
  obtain ⟨rfl, rfl⟩ := trodVars_none hV
  have k0 := h0
  have lt0 : ∀ x ∈ p0, x.block < W.heap.size := by obtain ⟨m, hm⟩ := k0; exact DataW.trod_lt m _ _ _ hm
  obtain ⟨fr, xi, li, ci, Z, xc, lc, cc, C, en, s, xs, ls, cs, E, xd, ld, cd, D, rfl, hfr, w0⟩ := open_gst (hval 0 31 v0 rfl rfl) h0
  have k1 := h1
  have lt1 : ∀ x ∈ p1, x.block < W.heap.size := by obtain ⟨m, hm⟩ := k1; exact DataW.trod_lt m _ _ _ hm
  obtain ⟨a1, rfl, rfl, rfl, w1⟩ := open_int Tryz.underlying5 (hval 1 5 v1 rfl rfl) h1
  have k2 := h2
  have lt2 : ∀ x ∈ p2, x.block < W.heap.size := by obtain ⟨m, hm⟩ := k2; exact DataW.trod_lt m _ _ _ hm
  obtain ⟨zs2, hl2, rfl, hw2⟩ := open_arr Tryz.underlying55 Tryz.underlying25 (by kernel_rfl) (by kernel_rfl) (hval 2 55 v2 rfl rfl) h2
  obtain ⟨a2f0, a2f1, rfl⟩ := list2 zs2 hl2
  clear hA0 hval0
  refine (walk fr xi li ci Z xc lc cc C en s xs ls cs E xd ld cd D hfr a1 w1 a2f0 (hw2 _ (by simp)) a2f1 (hw2 _ (by simp)) W w0 (tabs_of_laid hL)).mono fun e W' ⟨he, bel0⟩ => ?_
  have bel : Below W.heap.size W W' := bel0
  subst he
  exact ⟨_, rfl, _, _, _, [], _, [], hW', trodAll_mk1 (shut_bool Tryz.underlying4 _), (trodAll_cons_mk (Below.trod laidOut (by kernel_rfl) (of_decide_eq_true (by kernel_rfl)) k0 bel lt0) (trodAll_cons_mk (Below.trod laidOut (by kernel_rfl) (of_decide_eq_true (by kernel_rfl)) k1 bel lt1) (trodAll_cons_mk (Below.trod laidOut (by kernel_rfl) (of_decide_eq_true (by kernel_rfl)) k2 bel lt2) trodAll_mk0))), rfl, bel.frame _, fun h => by cases h⟩
theorem over : Rows.scanHangsRow.holds Tryz.pinned (OpenSpec.ofChange Rows.scanHangsSpec) :=
  OpenClaim.holds_of_wide 6 Tryz.f6 rfl rfl rfl rfl rfl rfl rfl ⟨rfl, rfl, rfl, rfl, rfl⟩ rfl rfl rfl rfl rfl (by kernel_rfl) Tryz.func6 (by kernel_rfl)
    (of_decide_eq_true (by kernel_rfl)) (by unfold Func.isWrapper; first | (rw [if_pos (by decide +kernel)]; kernel_rfl) | (rw [if_neg (by decide +kernel)]; exact ⟨rfl, rfl⟩))
    (fun os started H enc _ => lifted os started H enc)
end Go.Proofs.YtamffningddgbaaGreatDoor.scanHangs
namespace Go.Proofs.YtamffningddgbaaGreatDoor
theorem scanHangs_holds : Rows.ScanHangsCardSaid :=
  Claim7.holds_tied_plain_at .later [] [.data, .data] true (true, "7fa92bc0b72429e4af1d2cd01e9a8d1e088acfc86bc952062cfda82cc5830e59") false scanHangs.over (fun _ h => by cases h) (by kernel_rfl) (fun _ h => by cases h) scanHangs_row_tie rfl ⟨rfl, rfl⟩ (by kernel_rfl) rfl
    (fun f fn hf hfn => by
      obtain rfl : f = 6 := Option.some.inj ((show Tryz.prog.funcNamed "mummer/mummerlaw18.ScanHangs" = some 6 by kernel_rfl).symm.trans hf) |>.symm
      obtain rfl : fn = Tryz.f6 := (Option.some.inj (Tryz.func6.symm.trans hfn)).symm
      exact ⟨by kernel_rfl, fun j t ht => by
        rw [Tryz.params6] at ht
        have hm : t ∈ [31, 5, 55] := by simpa using Array.mem_of_getElem? ht
        have hall : ([31, 5, 55].all fun u => !Tryz.prog.wantsStandIn u) = true := by kernel_rfl
        exact (show Tryz.prog.wantsStandIn t = false by simpa using List.all_eq_true.1 hall t hm)⟩)
    (by kernel_rfl)
#print axioms scanHangs_holds
end Go.Proofs.YtamffningddgbaaGreatDoor
