/- For every guest and any two numbers, the law ScanLess returns true: with a lower bound a block is the beginning of what it is with a greater one. -/
import Derived.Test.YtamffningddgbaaGreatDoorRows
import Derived.Test.YtamffningddgbaaGreatDoorTie
import Derived.Test.YtamffningddgbaaGreatDoorCards
import Derived.WalkKit
import Derived.ProofKit
import Derived.OpenShut
import Derived.ShutString
import Derived.ChangeOld
import Derived.Below
import Derived.Lib.SmallJoins
import Derived.Lay
import Derived.SevenTiedAt
import Derived.Stop.Joined
import Derived.Test.YtamffningddgbaaGreatDoorJ20
namespace Go.Proofs.YtamffningddgbaaGreatDoor.scanLess
open Go.ChangeShapes Go.WideShapes Go.ChangeAt Go.RowKit
set_option linter.unusedVariables false
set_option linter.unusedSimpArgs false
theorem own : ownKnob Tryz.prog.godebug = none := by kernel_rfl
theorem laidOut : laidOutB Tryz.prog = true := by kernel_rfl
abbrev laidL : List (String × DataW Unit) := [("mummer/isa.forms", Rows.laid_mummer_isa_forms), ("mummer/isa.spans", Rows.laid_mummer_isa_spans)]
theorem sta_mid {w : World} {g : Nat} {fr : Int} {vi vc : Value} {en : Int} {s : Sta} {vs vd : Value} (h : w.heap[g]? = some (.cells (gstV fr vi vc en s vs vd) 31 (0, 0))) : w.rangeAt g 4 s.v.toList := fun j v hv => by
  have hj : j < 19 := (List.getElem?_eq_some_iff.1 hv).1
  rw [cell_of_block h]
  have e : (gstV fr vi vc en s vs vd).toList = [.int .i64 fr, vi, vc, .int .u16 en] ++ (s.v.toList ++ [vs, vd]) := rfl
  rw [← Array.getElem?_toList, e, List.getElem?_append_right (by simp), List.getElem?_append_left (by show 4 + j - 4 < 19; omega)]
  show s.v.toList[4 + j - 4]? = some v
  rw [Nat.add_sub_cancel_left]; exact hv
theorem load_sta18 {ops : Array Oper} {rest : List Oper} {op : Oper} {a : Act} {w : World} {Q : Exit → Act → World → Prop} (hgd : op.guard = none) (x : Operand) (ho : op.op = .load 28 x)
    (b o : Nat) (hx : a.eval x = .pointer (some ⟨b, o, none⟩)) (s : Sta) (hc : w.rangeAt b o s.v.toList)
    (h : wpList Tryz.prog ops Q rest (a.put op.dst (.agg s.v)) w) : wpList Tryz.prog ops Q (op :: rest) a w :=
  wpList_load_mid hgd 28 x ho b o hx s.v.toList _ hc Tryz.underlying28 rfl size_sta h
theorem quiet_mid18 {P : Program} {ops : Array Oper} {C : World → Prop} {Q : Act → Prop} {a : Act} {o : Oper} {rest : List Oper} (ty : TypeId) (x : Operand) (ho : o.op = .load ty x) (b k : Nat) (hx : a.eval x = .pointer (some ⟨b, k, none⟩)) (hw : Region.wanted o (yielded ops a.tmps) = true)
    (cs : List Value) (d : TypeDesc) (hC : ∀ w, C w → w.rangeAt b k cs) (hu : P.underlying ty = some d) (hd : d.isRow = true) (hi : (P.info? ty).map (·.size) = some cs.length)
    (h : wpQuiet P ops C Q rest (a.put o.dst (.agg cs.toArray))) : wpQuiet P ops C Q (o :: rest) a :=
  wpQuiet_step fun K hK => by
    rw [if_pos hw]
    refine ⟨.agg cs.toArray, fun w hc => ?_, hK _ h⟩
    unfold Oper.quietAt execOp
    simp only [ho, hx, Instr.loadAt, Instr.sureAddr, Sem.run_bind, Sem.run_pure, Result.andThen_ok, run_loadVar_mid w b k ty cs d (hC w hc) hu hd hi]
    exact ⟨rfl, rfl⟩
theorem kcell18 {W w' : World} (h : Kep W w') {b o : Nat} {v : Value} (hc : W.cell? ⟨b, o, none⟩ = some v) : w'.cell? ⟨b, o, none⟩ = some v := (h.cell (World.block_lt_of_cell? W _ hc)).trans hc
theorem lies_ins {w : World} {x : Option Addr} {C : List In4} (h : Lies w x (inss C)) {k : Nat} {e : In4} (he : C[k]? = some e) : ∃ b off : Nat, x = some ⟨b, off, none⟩ ∧ w.rangeAt b (off + k * 4) (inV e) := by
  rcases h with h | ⟨b, off, rfl, _, hc⟩
  · have := inss_at C k e he 0 (by decide)
    rw [h] at this; simp [inV] at this
  · refine ⟨b, off, rfl, fun j v hv => ?_⟩
    have hj : j < 4 := (List.getElem?_eq_some_iff.1 hv).1
    rw [Nat.add_assoc]
    exact hc (k * 4 + j) v ((inss_at C k e he j hj).trans hv)
theorem lies_num {w : World} {x : Option Addr} {kd : IntKind} {L : List Int} (h : Lies w x (num kd L)) {k : Nat} {v : Int} (he : L[k]? = some v) : ∃ b off : Nat, x = some ⟨b, off, none⟩ ∧ w.cell? ⟨b, off + k, none⟩ = some (.int kd v) := by
  have hn : (num kd L)[k]? = some (.int kd v) := by unfold num; rw [List.getElem?_map, he]; rfl
  rcases h with h | ⟨b, off, rfl, _, hc⟩
  · rw [h] at hn; simp at hn
  · exact ⟨b, off, rfl, hc k _ hn⟩
theorem pre_at {α : Type} {l m : List α} (h : l <+: m) {k : Nat} {e : α} (he : l[k]? = some e) : m[k]? = some e := by
  obtain ⟨t, rfl⟩ := h
  rw [List.getElem?_append_left (List.getElem?_eq_some_iff.1 he).1]; exact he
theorem Two.mem18 {w : World} {p R n : Nat} {x : Option Addr} {Rb : Nat} {B : List Int} (T : Two w (mpt p) R n x Rb B) : Mem w (mpt p) R (List.range n) B := ⟨T.ram, T.row, fits_range T.len, T.byts, by rw [List.length_range]; have := T.le; omega⟩
set_option maxHeartbeats 8000000 in
set_option maxRecDepth 100000 in
theorem walk (fr : Int) (xi : Option Addr) (li ci : Nat) (Z : List Int) (xc : Option Addr) (lc cc : Nat) (C : List In4) (en : Int) (s : Sta) (xs : Option Addr) (ls cs : Nat) (E : List Ev) (xd : Option Addr) (ld cd : Nat) (D : List Int) (hfr : -9223372036854775808 ≤ fr ∧ fr ≤ 9223372036854775807) (a1 : Int) (w1 : (Lit.int .u8 a1).wf = true) (a2 : Int) (w2 : (Lit.int .u8 a2).wf = true) (w : World) (w0 : GstIn w fr xi li ci Z xc lc cc C en s xs ls cs E xd ld cd D) (hT : Tabs w) :
    Calls Tryz.prog 5 #[.agg (gstV fr (.slice xi li ci) (.slice xc lc cc) en s (.slice xs ls cs) (.slice xd ld cd)), .int .u8 a1, .int .u8 a2] w fun e w' => e = .returned (.bool true) ∧ Kep w w' := by
  have I' := hidd w0
  have T' := hidd hT
  have F' := hidd hfr
  have SO : Hid s.Ok := ⟨w0.so.r, w0.so.pc, w0.so.ps, w0.so.c⟩
  have BN : Hid (gstL fr Z C en ≠ []) := by
    intro e
    have h1 := gstL_len fr Z C en
    have h2 := nFr_range fr
    rw [e] at h1
    simp at h1; omega
  obtain ⟨V, hV⟩ : ∃ V, Hid (gstV fr (.slice xi li ci) (.slice xc lc cc) en s (.slice xs ls cs) (.slice xd ld cd) = V) := ⟨_, rfl⟩
  have VZ : Hid ((Tryz.prog.info? 31).map (·.size) = some V.size) := by rw [Hid, ← hV.out]; kernel_rfl
  have RA : Hid (∀ (w' : World) (g : Nat), w'.heap[g]? = some (.cells V 31 (0, 0)) → w'.rangeAt g 4 s.v.toList) := fun w' g h => by rw [← hV.out] at h; exact sta_mid h
  have HM : Hid (∀ w', Kep w w' → Calls Tryz.prog 7 #[.agg V] w' fun e w'' => ∃ p R Rb : Nat, e = .returned (.tuple #[.pointer (some ⟨p, 0, none⟩), refV (some ⟨Rb, 0, none⟩) (64 * nFr fr)]) ∧
      Two w'' (.pointer (some ⟨p, 0, none⟩)) R (nFr fr) (some ⟨Rb, 0, none⟩) Rb (gstL fr Z C en) ∧ Kep w' w'' ∧ w'.heap.size ≤ R ∧ w'.heap.size ≤ Rb) := fun w' k => by rw [← hV.out]; exact made18_any (I'.out.kep k) F'.out
  obtain ⟨n1, hn1⟩ : ∃ n : Nat, a1 = (n : Int) ∧ n < 256 := by
    have := gu8_of w1
    exact ⟨a1.toNat, by omega, by omega⟩
  obtain ⟨rfl, hn1⟩ := hn1
  have N1 := hidd hn1
  obtain ⟨n2, hn2⟩ : ∃ n : Nat, a2 = (n : Int) ∧ n < 256 := by
    have := gu8_of w2
    exact ⟨a2.toNat, by omega, by omega⟩
  obtain ⟨rfl, hn2⟩ := hn2
  have N2 := hidd hn2
  have HW : Hid (∀ w', Kep w w' → Calls Tryz.prog 11 #[] w' fun e w'' => e = .returned (.bool true) ∧ Kep w' w'') := fun w' k => works18_any w' (T'.out.grown k)
  rw [hV.out]
  clear w0 hfr hT w1 hn1 w2 hn2
  generalize nFr fr = n at *
  generalize gstL fr Z C en = B at *
  go_enter Tryz.func5, Tryz.ntmps5
  go_upto_region 1 with fail
  obtain ⟨i1, q1⟩ : ∃ i1, Hid (i1 = w.heap.size) := ⟨_, rfl⟩
  rw [← q1.out]
  have B1 := hidd (show (w.alloc (.cells V 31)).heap[i1]? = some (.cells V 31 (0, 0)) by rw [q1.out]; exact hat _ _ _ rfl)
  have K1 := hidd ((Kep.refl w).alloc (.cells V 31))
  generalize w.alloc (.cells V 31) = W1 at B1 K1 ⊢
  refine wp_region_lit ?_
  refine wpList_load_row (by rfl) 31 _ (by rfl) i1 (by rfl) 31 _ (0, 0) _ B1.out Tryz.underlying31 rfl VZ.out ?_
  go_wp2_with fail
  refine (HM.out W1 K1.out).mono ?_
  rintro e w3 ⟨p, R, Rb, rfl, T2, k3, lR, lRb⟩
  have K3 := hidd (kep_trans K1.out k3)
  have B3 := hidd (k3.block B1.out)
  have M3 := hidd (Two.mem18 T2)
  have HS : Hid (∀ w', Kep w3 w' → ∀ m, Calls Tryz.prog 8 #[.pointer (some ⟨p, 0, none⟩), .agg s.v, .int .i64 m] w' fun e w'' => ∃ vI vA vF vT, e = .returned (.tuple #[.agg (blkC vI vA (scU B (List.range n) s m).n (scU B (List.range n) s m).t (scU B (List.range n) s m).e vF vT), .agg #[.int .i64 (fetF B (List.range n) s).1, .int .u32 (fetF B (List.range n) s).2]]) ∧ BlkV w'' B (List.range n) s m vI vA vF vT ∧ Kep w' w'') := fun w' k m =>
    scan_all (M3.out.kep k) BN.out SO.out (T'.out.grown (kep_trans K3.out k)) m
  clear HM T2 k3 lR lRb B1 K1
  obtain ⟨fc, fd, fq⟩ : ∃ c d, Hid (fetF B (List.range n) s = (c, d)) := ⟨_, _, rfl⟩
  obtain ⟨mx, qx⟩ : ∃ m : Int, Hid (m = 1 + (n1 : Int) % 32) := ⟨_, rfl⟩
  obtain ⟨my, qy⟩ : ∃ m : Int, Hid (m = mx + (n2 : Int) % 32) := ⟨_, rfl⟩
  have hm : Hid (1 ≤ mx ∧ mx ≤ 32 ∧ mx ≤ my) := by have := qx.out; have := qy.out; exact ⟨by omega, by omega, by omega⟩
  obtain ⟨Ua, ua⟩ : ∃ U, Hid (scU B (List.range n) s mx = U) := ⟨_, rfl⟩
  obtain ⟨Ub, ub⟩ : ∃ U, Hid (scU B (List.range n) s my = U) := ⟨_, rfl⟩
  have LE := hidd (scU_less B (List.range n) s mx my hm.out.1 hm.out.2.1 hm.out.2.2)
  have SA := hidd (scU_same B (List.range n) s mx)
  have SB_ := hidd (scU_same B (List.range n) s my)
  rw [ua.out, ub.out] at LE
  rw [ua.out] at SA
  rw [ub.out] at SB_
  go_upto_region 6 with fail
  rw [← qx.out, ← qy.out]
  have K4 := hidd ((Kep.refl w3).alloc (.cells #[.slice (some ⟨Rb, 0, none⟩) (64 * n) (64 * n)] 34))
  have B4 := hidd (K4.out.block B3.out)
  generalize w3.alloc (.cells #[.slice (some ⟨Rb, 0, none⟩) (64 * n) (64 * n)] 34) = W4 at K4 B4 ⊢
  refine wp_region_lit ?_
  go_wp2_with (refine load_sta18 (by rfl) _ (by rfl) i1 4 (by rfl) s (RA.out _ _ B4.out) ?_)
  refine (HS.out W4 K4.out mx).mono ?_
  rintro e wa ⟨vI, vA, vF, vT, he, ⟨⟨xia, cia, rfl, i1a, i2a, i3a⟩, ⟨xaa, caa, rfl, a1a, a2a, a3a⟩, ⟨xfa, cfa, rfl, _, _, _⟩, ⟨xta, cta, rfl, _, _, _⟩⟩, ka⟩
  have LIa := hidd (And.intro i1a (And.intro i2a i3a))
  have LAa := hidd (And.intro a1a (And.intro a2a a3a))
  clear i1a i2a i3a a1a a2a a3a
  rw [fq.out] at he
  obtain ⟨Va, hVa⟩ : ∃ V, Hid (blkC (.slice xia Ua.I.length cia) (.slice xaa Ua.A.length caa) Ua.n Ua.t Ua.e (.slice xfa (scF B (List.range n) s mx).length cfa) (.slice xta (scT B (List.range n) s mx).length cta) = V) := ⟨_, rfl⟩
  have VZa : Hid ((Tryz.prog.info? 40).map (·.size) = some Va.size) := by rw [Hid, ← hVa.out]; exact size_blk
  have VSa : Hid (7 = Va.size) := by rw [Hid, ← hVa.out]; rfl
  have VOa : Hid (Va.all Value.oneCell' = true) := by rw [Hid, ← hVa.out]; simp [Value.oneCell']
  have V0a : Hid (Va[0]? = some (.slice xia Ua.I.length cia)) := by rw [Hid, ← hVa.out]; rfl
  have V1a : Hid (Va[1]? = some (.slice xaa Ua.A.length caa)) := by rw [Hid, ← hVa.out]; rfl
  have V2a : Hid (Va[2]? = some (.int .u32 Ua.n)) := by rw [Hid, ← hVa.out]; rfl
  have V4a : Hid (Va[4]? = some (.int .i64 Ua.e)) := by rw [Hid, ← hVa.out]; rfl
  rw [ua.out, hVa.out] at he
  rw [ua.out] at LIa LAa
  obtain rfl := he
  have Ka := hidd (kep_trans K4.out ka)
  have Kca := hidd ka
  clear ka
  obtain ⟨Ya, hYa⟩ : ∃ W, Hid ((wa.alloc (.cells #[.slice none 0 0, .slice none 0 0, .int .u32 0, .int .u32 0, .int .i64 0, .slice none 0 0, .slice none 0 0] 40)).alloc (.cells #[.int .i64 0, .int .u32 0] 42) = W) := ⟨_, rfl⟩
  obtain ⟨ia, qia⟩ : ∃ i, Hid (i = wa.heap.size) := ⟨_, rfl⟩
  obtain ⟨fa, qfa⟩ : ∃ i, Hid (i = wa.heap.size + 1) := ⟨_, rfl⟩
  have BIa : Hid (Ya.heap[ia]? = some (.cells #[.slice none 0 0, .slice none 0 0, .int .u32 0, .int .u32 0, .int .i64 0, .slice none 0 0, .slice none 0 0] 40 (0, 0))) := by rw [← hYa.out, qia.out]; exact ((Kep.refl _).alloc _).block (hat _ _ _ rfl)
  have BFa : Hid (Ya.heap[fa]? = some (.cells #[.int .i64 0, .int .u32 0] 42 (0, 0))) := by rw [← hYa.out, qfa.out]; exact hat _ _ _ (by simp)
  have KYa : Hid (Kep wa Ya) := by rw [← hYa.out]; exact ((Kep.refl _).alloc _).alloc _
  have NEa : Hid (ia ≠ fa) := by rw [qia.out, qfa.out]; exact Nat.ne_of_lt (Nat.lt_succ_self _)
  have BGa := hidd ((setRow_other Ya ia fa Va (Ne.symm NEa.out)).trans BFa.out)
  have Pa : Hid (Put [ia, fa] Ya ((Ya.setRow ia Va).setRow fa #[.int .i64 fc, .int .u32 fd])) := ((Put.refl _).setRow (by simp) _).setRow (by simp) _
  obtain ⟨Xa, hXa⟩ : ∃ W, Hid ((Ya.setRow ia Va).setRow fa #[.int .i64 fc, .int .u32 fd] = W) := ⟨_, rfl⟩
  have CIa : Hid (Xa.heap[ia]? = some (.cells Va 40 (0, 0))) := by rw [← hXa.out]; exact (setRow_other _ _ _ _ NEa.out).trans (setRow_heap _ _ _ _ _ _ BIa.out)
  have CFa : Hid (Xa.heap[fa]? = some (.cells #[.int .i64 fc, .int .u32 fd] 42 (0, 0))) := by rw [← hXa.out]; exact setRow_heap _ _ _ _ _ _ BGa.out
  have KXa : Hid (Kep wa Xa) := by rw [← hXa.out]; exact KYa.out.put Pa.out (by have := qia.out; have := qfa.out; simp; omega)
  go_upto_region 7 with (first
    | (rw [hYa.out, ← qfa.out, ← qia.out]; refine wpList_store_row (by rfl) 40 _ _ (by rfl) ia Va (by rfl) (by rfl) 40 #[.slice none 0 0, .slice none 0 0, .int .u32 0, .int .u32 0, .int .i64 0, .slice none 0 0, .slice none 0 0] BIa.out (by exact VZa.out) (by exact VSa.out) VOa.out ?_)
    | (refine wpList_store_row (by rfl) 42 _ _ (by rfl) fa #[.int .i64 fc, .int .u32 fd] (by rfl) (by rfl) 42 #[.int .i64 0, .int .u32 0] BGa.out (by exact size_flt) (by rfl) (by simp [Value.oneCell']) ?_; rw [hXa.out]))
  have K5 := hidd (kep_trans Ka.out KXa.out)
  have B5 := hidd (KXa.out.block (Kca.out.block B4.out))
  have LIa5 := hidd (And.intro LIa.out.1 (And.intro LIa.out.2.1 (LIa.out.2.2.kep KXa.out)))
  have LAa5 := hidd (And.intro LAa.out.1 (And.intro LAa.out.2.1 (LAa.out.2.2.kep KXa.out)))
  clear hVa VZa VSa VOa hYa BIa BFa KYa NEa BGa Pa hXa KXa Ka Kca K4 B4 LIa LAa qia qfa
  refine wp_region_lit ?_
  go_wp2_with (refine load_sta18 (by rfl) _ (by rfl) i1 4 (by rfl) s (RA.out _ _ B5.out) ?_)
  refine (HS.out Xa K5.out my).mono ?_
  rintro e wb ⟨vI, vA, vF, vT, he, ⟨⟨xib, cib, rfl, i1b, i2b, i3b⟩, ⟨xab, cab, rfl, a1b, a2b, a3b⟩, ⟨xfb, cfb, rfl, _, _, _⟩, ⟨xtb, ctb, rfl, _, _, _⟩⟩, kb⟩
  have LIb := hidd (And.intro i1b (And.intro i2b i3b))
  have LAb := hidd (And.intro a1b (And.intro a2b a3b))
  clear i1b i2b i3b a1b a2b a3b
  rw [fq.out] at he
  obtain ⟨Vb, hVb⟩ : ∃ V, Hid (blkC (.slice xib Ub.I.length cib) (.slice xab Ub.A.length cab) Ub.n Ub.t Ub.e (.slice xfb (scF B (List.range n) s my).length cfb) (.slice xtb (scT B (List.range n) s my).length ctb) = V) := ⟨_, rfl⟩
  have VZb : Hid ((Tryz.prog.info? 40).map (·.size) = some Vb.size) := by rw [Hid, ← hVb.out]; exact size_blk
  have VSb : Hid (7 = Vb.size) := by rw [Hid, ← hVb.out]; rfl
  have VOb : Hid (Vb.all Value.oneCell' = true) := by rw [Hid, ← hVb.out]; simp [Value.oneCell']
  have V0b : Hid (Vb[0]? = some (.slice xib Ub.I.length cib)) := by rw [Hid, ← hVb.out]; rfl
  have V1b : Hid (Vb[1]? = some (.slice xab Ub.A.length cab)) := by rw [Hid, ← hVb.out]; rfl
  have V2b : Hid (Vb[2]? = some (.int .u32 Ub.n)) := by rw [Hid, ← hVb.out]; rfl
  have V4b : Hid (Vb[4]? = some (.int .i64 Ub.e)) := by rw [Hid, ← hVb.out]; rfl
  rw [ub.out, hVb.out] at he
  rw [ub.out] at LIb LAb
  obtain rfl := he
  have Kb := hidd (kep_trans K5.out kb)
  have Kcb := hidd kb
  clear kb
  obtain ⟨Yb, hYb⟩ : ∃ W, Hid ((wb.alloc (.cells #[.slice none 0 0, .slice none 0 0, .int .u32 0, .int .u32 0, .int .i64 0, .slice none 0 0, .slice none 0 0] 40)).alloc (.cells #[.int .i64 0, .int .u32 0] 42) = W) := ⟨_, rfl⟩
  obtain ⟨ib, qib⟩ : ∃ i, Hid (i = wb.heap.size) := ⟨_, rfl⟩
  obtain ⟨fb, qfb⟩ : ∃ i, Hid (i = wb.heap.size + 1) := ⟨_, rfl⟩
  have BIb : Hid (Yb.heap[ib]? = some (.cells #[.slice none 0 0, .slice none 0 0, .int .u32 0, .int .u32 0, .int .i64 0, .slice none 0 0, .slice none 0 0] 40 (0, 0))) := by rw [← hYb.out, qib.out]; exact ((Kep.refl _).alloc _).block (hat _ _ _ rfl)
  have BFb : Hid (Yb.heap[fb]? = some (.cells #[.int .i64 0, .int .u32 0] 42 (0, 0))) := by rw [← hYb.out, qfb.out]; exact hat _ _ _ (by simp)
  have KYb : Hid (Kep wb Yb) := by rw [← hYb.out]; exact ((Kep.refl _).alloc _).alloc _
  have NEb : Hid (ib ≠ fb) := by rw [qib.out, qfb.out]; exact Nat.ne_of_lt (Nat.lt_succ_self _)
  have BGb := hidd ((setRow_other Yb ib fb Vb (Ne.symm NEb.out)).trans BFb.out)
  have Pb : Hid (Put [ib, fb] Yb ((Yb.setRow ib Vb).setRow fb #[.int .i64 fc, .int .u32 fd])) := ((Put.refl _).setRow (by simp) _).setRow (by simp) _
  obtain ⟨Xb, hXb⟩ : ∃ W, Hid ((Yb.setRow ib Vb).setRow fb #[.int .i64 fc, .int .u32 fd] = W) := ⟨_, rfl⟩
  have CIb : Hid (Xb.heap[ib]? = some (.cells Vb 40 (0, 0))) := by rw [← hXb.out]; exact (setRow_other _ _ _ _ NEb.out).trans (setRow_heap _ _ _ _ _ _ BIb.out)
  have CFb : Hid (Xb.heap[fb]? = some (.cells #[.int .i64 fc, .int .u32 fd] 42 (0, 0))) := by rw [← hXb.out]; exact setRow_heap _ _ _ _ _ _ BGb.out
  have KXb : Hid (Kep wb Xb) := by rw [← hXb.out]; exact KYb.out.put Pb.out (by have := qib.out; have := qfb.out; simp; omega)
  go_upto_region 8 with (first
    | (rw [hYb.out, ← qfb.out, ← qib.out]; refine wpList_store_row (by rfl) 40 _ _ (by rfl) ib Vb (by rfl) (by rfl) 40 #[.slice none 0 0, .slice none 0 0, .int .u32 0, .int .u32 0, .int .i64 0, .slice none 0 0, .slice none 0 0] BIb.out (by exact VZb.out) (by exact VSb.out) VOb.out ?_)
    | (refine wpList_store_row (by rfl) 42 _ _ (by rfl) fb #[.int .i64 fc, .int .u32 fd] (by rfl) (by rfl) 42 #[.int .i64 0, .int .u32 0] BGb.out (by exact size_flt) (by rfl) (by simp [Value.oneCell']) ?_; rw [hXb.out]))
  have KB := hidd (kep_trans Kcb.out KXb.out)
  have K6 := hidd (kep_trans Kb.out KXb.out)
  have KW6 := hidd (kep_trans K3.out K6.out)
  have CIa6 := hidd (KB.out.block CIa.out)
  have CFa6 := hidd (KB.out.block CFa.out)
  have LIa6 := hidd (And.intro LIa5.out.1 (And.intro LIa5.out.2.1 (LIa5.out.2.2.kep KB.out)))
  have LAa6 := hidd (And.intro LAa5.out.1 (And.intro LAa5.out.2.1 (LAa5.out.2.2.kep KB.out)))
  have LIb6 := hidd (And.intro LIb.out.1 (And.intro LIb.out.2.1 (LIb.out.2.2.kep KXb.out)))
  have LAb6 := hidd (And.intro LAb.out.1 (And.intro LAb.out.2.1 (LAb.out.2.2.kep KXb.out)))
  clear hVb VZb VSb VOb hYb BIb BFb KYb NEb BGb Pb hXb KXb Kb Kcb KB LIb LAb qib qfb K5 B5 K6 K3 B3 CIa CFa LIa5 LAa5 HS M3 RA VZ hV I'
  have ca0 : Xb.cell? ⟨ia, 0, none⟩ = some (.slice xia Ua.I.length cia) := (cell_of_block CIa6.out).trans V0a.out
  have ca1 : Xb.cell? ⟨ia, 1, none⟩ = some (.slice xaa Ua.A.length caa) := (cell_of_block CIa6.out).trans V1a.out
  have ca2 : Xb.cell? ⟨ia, 2, none⟩ = some (.int .u32 Ua.n) := (cell_of_block CIa6.out).trans V2a.out
  have ca4 : Xb.cell? ⟨ia, 4, none⟩ = some (.int .i64 Ua.e) := (cell_of_block CIa6.out).trans V4a.out
  have cb0 : Xb.cell? ⟨ib, 0, none⟩ = some (.slice xib Ub.I.length cib) := (cell_of_block CIb.out).trans V0b.out
  have cb1 : Xb.cell? ⟨ib, 1, none⟩ = some (.slice xab Ub.A.length cab) := (cell_of_block CIb.out).trans V1b.out
  have eaa : Ua.A.length = Ua.I.length := SA.out.symm
  have ebb : Ub.A.length = Ub.I.length := SB_.out.symm
  rw [eaa] at ca1
  rw [ebb] at cb1
  clear eaa ebb
  have ngt : ¬ (Ub.I.length : Int) < Ua.I.length := by have := LE.out.1.length_le; omega
  refine wp_region_lit ?_
  refine wpList_load_row (by rfl) 42 _ (by rfl) fa (by rfl) 42 #[.int .i64 fc, .int .u32 fd] (0, 0) _ CFa6.out Tryz.underlying42 rfl (by exact size_flt) ?_
  refine wpList_load_row (by rfl) 42 _ (by rfl) fb (by rfl) 42 #[.int .i64 fc, .int .u32 fd] (0, 0) _ CFb.out Tryz.underlying42 rfl (by exact size_flt) ?_
  go_upto_region 10 with fail
  go_wp2_with fail
  go_loopw [15] (fun i wr => ∃ k : Nat, (k : Int) ≤ Ua.I.length ∧ i = .int .i64 k ∧ Hid (Kep Xb wr)) (fun i _ => Ua.I.length - (intOf i).toNat)
  case atStart => exact ⟨0, by omega, rfl, Kep.refl _⟩
  case round =>
    obtain ⟨k, hk, rfl, hK⟩ := hrel
    have hmax : (Ua.I.length : Int) ≤ 9223372036854775807 := by have h1 := LIa6.out.1; have h2 := LIa6.out.2.1; simp [maxLen] at h2; omega
    have ka0 : wr.cell? ⟨ia, 0, none⟩ = some (.slice xia Ua.I.length cia) := kcell18 hK.out ca0
    have ka1 : wr.cell? ⟨ia, 1, none⟩ = some (.slice xaa Ua.I.length caa) := kcell18 hK.out ca1
    have kb0 : wr.cell? ⟨ib, 0, none⟩ = some (.slice xib Ub.I.length cib) := kcell18 hK.out cb0
    have kb1 : wr.cell? ⟨ib, 1, none⟩ = some (.slice xab Ub.I.length cab) := kcell18 hK.out cb1
    by_cases hlt : k < Ua.I.length
    · obtain ⟨e, he⟩ : ∃ e, Ua.I[k]? = some e := ⟨_, List.getElem?_eq_getElem hlt⟩
      have heb := pre_at LE.out.1 he
      obtain ⟨g, hg⟩ : ∃ g, Ua.A[k]? = some g := ⟨_, List.getElem?_eq_getElem (by rw [← SA.out]; exact hlt)⟩
      have hgb := pre_at LE.out.2.1 hg
      have hltb : k < Ub.I.length := (List.getElem?_eq_some_iff.1 heb).1
      obtain ⟨b1, o1, rfl, ra⟩ := lies_ins (LIa6.out.2.2.kep hK.out) he
      obtain ⟨b2, o2, rfl, rb⟩ := lies_ins (LIb6.out.2.2.kep hK.out) heb
      obtain ⟨b3, o3, rfl, ga⟩ := lies_num (LAa6.out.2.2.kep hK.out) hg
      obtain ⟨b4, o4, rfl, gb⟩ := lies_num (LAb6.out.2.2.kep hK.out) hgb
      have RA1 := hidd ra
      have RB1 := hidd rb
      clear ra rb he heb hg hgb ca0 ca1 cb0 cb1 ca2 ca4 hk
      obtain ⟨eo, ea, eb, em⟩ := e
      go_upto_region 13 with fail
      refine wp_region_quiet_lit (by kernel_rfl) (by kernel_rfl) ?_
      repeat (first
        | (refine quiet_mid18 53 _ (by rfl) b1 (o1 + k * 4) (by rfl) (by rfl) [.int .u8 eo, .int .u8 ea, .int .u8 eb, .int .i32 em] _ (fun w h => by obtain ⟨n, rfl⟩ := h; exact RA1.out) Tryz.underlying53 rfl (by kernel_rfl) ?_)
        | (refine quiet_mid18 53 _ (by rfl) b2 (o2 + k * 4) (by rfl) (by rfl) [.int .u8 eo, .int .u8 ea, .int .u8 eb, .int .i32 em] _ (fun w h => by obtain ⟨n, rfl⟩ := h; exact RB1.out) Tryz.underlying53 rfl (by kernel_rfl) ?_)
        | quiet_step (fail))
      refine wpQuiet_nil ?_
      intro _ hw'
      obtain ⟨nq, hw''⟩ := hw'
      subst hw''
      have KQ : Hid (Kep Xb (wr.drewN nq)) := hK.out.drewN nq
      clear ka0 ka1 kb0 kb1 ga gb hK RA1 RB1
      go_wp2_with fail
      go_roundw
      case rel => exact ⟨k + 1, by omega, by go_num, KQ⟩
      case measure => simp [intOf]; omega
    · have e0 : k = Ua.I.length := by omega
      subst e0
      have KE := hidd hK.out
      clear hK ca0 ca1 cb0 cb1 hlt hk
      by_cases hl : Ua.I.length = Ub.I.length
      · rw [← hl] at kb0 kb1
        clear hl ca2 ca4
        go_upto_region 15 with fail
        refine wp_region_held_drew (S := fun w' => Kep wr w') (by kernel_rfl) ((Kep.refl _).drew) (fun hH => ?_)
        refine wpAnyH_take (i := 0) (v := .pointer (some ⟨ia, 0, none⟩)) rfl (by kernel_rfl) (by kernel_rfl) (by kernel_rfl) (fun _ _ _ h => h) (.inl ⟨by rfl, by intro w hS; go_simp⟩) hH ?_
        (try dsimp only [Act.put]); (try simp only [jA, jB, jC, Act.put, jD, jE, jF])
        refine wpAnyH_take (i := 1) (v := .slice xia Ua.I.length cia) rfl (by kernel_rfl) (by kernel_rfl) (by kernel_rfl) (fun _ _ _ h => h) (.inl ⟨by rfl, by intro w hS; have c1 : w.cell? ⟨ia, 0, none⟩ = some (.slice xia Ua.I.length cia) := kcell18 hS ka0; clear hS; go_simp⟩) hH ?_
        (try dsimp only [Act.put]); (try simp only [jA, jB, jC, Act.put, jD, jE, jF])
        refine wpAnyH_take (i := 2) (v := .int .i64 Ua.I.length) rfl (by kernel_rfl) (by kernel_rfl) (by kernel_rfl) (fun _ _ _ h => h) (.inl ⟨by rfl, by intro w hS; go_simp⟩) hH ?_
        (try dsimp only [Act.put]); (try simp only [jA, jB, jC, Act.put, jD, jE, jF])
        refine wpAnyH_take (i := 3) (v := .pointer (some ⟨ib, 0, none⟩)) rfl (by kernel_rfl) (by kernel_rfl) (by kernel_rfl) (fun _ _ _ h => h) (.inl ⟨by rfl, by intro w hS; go_simp⟩) hH ?_
        (try dsimp only [Act.put]); (try simp only [jA, jB, jC, Act.put, jD, jE, jF])
        refine wpAnyH_take (i := 4) (v := .slice xib Ua.I.length cib) rfl (by kernel_rfl) (by kernel_rfl) (by kernel_rfl) (fun _ _ _ h => h) (.inl ⟨by rfl, by intro w hS; have c1 : w.cell? ⟨ib, 0, none⟩ = some (.slice xib Ua.I.length cib) := kcell18 hS kb0; clear hS; go_simp⟩) hH ?_
        (try dsimp only [Act.put]); (try simp only [jA, jB, jC, Act.put, jD, jE, jF])
        refine wpAnyH_take (i := 5) (v := .int .i64 Ua.I.length) rfl (by kernel_rfl) (by kernel_rfl) (by kernel_rfl) (fun _ _ _ h => h) (.inl ⟨by rfl, by intro w hS; go_simp⟩) hH ?_
        (try dsimp only [Act.put]); (try simp only [jA, jB, jC, Act.put, jD, jE, jF])
        refine wpAnyH_take (i := 6) (v := .bool true) rfl (by kernel_rfl) (by kernel_rfl) (by kernel_rfl) (fun _ _ _ h => h) (.inl ⟨by rfl, by intro w hS; go_simp⟩) hH ?_
        (try dsimp only [Act.put]); (try simp only [jA, jB, jC, Act.put, jD, jE, jF])
        refine wpAnyH_take (i := 7) (v := .bool true) rfl (by kernel_rfl) (by kernel_rfl) (by kernel_rfl) (fun _ _ _ h => h) (.inl ⟨by rfl, by intro w hS; go_simp⟩) hH ?_
        (try dsimp only [Act.put]); (try simp only [jA, jB, jC, Act.put, jD, jE, jF])
        refine wpAnyH_take (i := 8) (v := undef) rfl (by kernel_rfl) (by kernel_rfl) (by kernel_rfl) (fun _ _ _ h => h) (.inr ⟨by rfl, rfl⟩) hH ?_
        (try dsimp only [Act.put]); (try simp only [jA, jB, jC, Act.put, jD, jE, jF])
        refine wpAnyH_take (i := 9) (v := undef) rfl (by kernel_rfl) (by kernel_rfl) (by kernel_rfl) (fun _ _ _ h => h) (.inr ⟨by rfl, rfl⟩) hH ?_
        (try dsimp only [Act.put]); (try simp only [jA, jB, jC, Act.put, jD, jE, jF])
        refine wpAnyH_take (i := 10) (v := undef) rfl (by kernel_rfl) (by kernel_rfl) (by kernel_rfl) (fun _ _ _ h => h) (.inr ⟨by rfl, rfl⟩) hH ?_
        (try dsimp only [Act.put]); (try simp only [jA, jB, jC, Act.put, jD, jE, jF])
        refine wpAnyH_take (i := 11) (v := undef) rfl (by kernel_rfl) (by kernel_rfl) (by kernel_rfl) (fun _ _ _ h => h) (.inr ⟨by rfl, rfl⟩) hH ?_
        (try dsimp only [Act.put]); (try simp only [jA, jB, jC, Act.put, jD, jE, jF])
        refine wpAnyH_take (i := 12) (v := undef) rfl (by kernel_rfl) (by kernel_rfl) (by kernel_rfl) (fun _ _ _ h => h) (.inr ⟨by rfl, rfl⟩) hH ?_
        (try dsimp only [Act.put]); (try simp only [jA, jB, jC, Act.put, jD, jE, jF])
        refine wpAnyH_take (i := 13) (v := undef) rfl (by kernel_rfl) (by kernel_rfl) (by kernel_rfl) (fun _ _ _ h => h) (.inr ⟨by rfl, rfl⟩) hH ?_
        (try dsimp only [Act.put]); (try simp only [jA, jB, jC, Act.put, jD, jE, jF])
        refine wpAnyH_take (i := 14) (v := undef) rfl (by kernel_rfl) (by kernel_rfl) (by kernel_rfl) (fun _ _ _ h => h) (.inr ⟨by rfl, rfl⟩) hH ?_
        (try dsimp only [Act.put]); (try simp only [jA, jB, jC, Act.put, jD, jE, jF])
        refine wpAnyH_take (i := 15) (v := undef) rfl (by kernel_rfl) (by kernel_rfl) (by kernel_rfl) (fun _ _ _ h => h) (.inr ⟨by rfl, rfl⟩) hH ?_
        (try dsimp only [Act.put]); (try simp only [jA, jB, jC, Act.put, jD, jE, jF])
        refine wpAnyH_take (i := 16) (v := undef) rfl (by kernel_rfl) (by kernel_rfl) (by kernel_rfl) (fun _ _ _ h => h) (.inr ⟨by rfl, rfl⟩) hH ?_
        (try dsimp only [Act.put]); (try simp only [jA, jB, jC, Act.put, jD, jE, jF])
        refine wpAnyH_take (i := 17) (v := undef) rfl (by kernel_rfl) (by kernel_rfl) (by kernel_rfl) (fun _ _ _ h => h) (.inr ⟨by rfl, rfl⟩) hH ?_
        (try dsimp only [Act.put]); (try simp only [jA, jB, jC, Act.put, jD, jE, jF])
        refine wpAnyH_take (i := 18) (v := undef) rfl (by kernel_rfl) (by kernel_rfl) (by kernel_rfl) (fun _ _ _ h => h) (.inr ⟨by rfl, rfl⟩) hH ?_
        (try dsimp only [Act.put]); (try simp only [jA, jB, jC, Act.put, jD, jE, jF])
        refine wpAnyH_take (i := 19) (v := undef) rfl (by kernel_rfl) (by kernel_rfl) (by kernel_rfl) (fun _ _ _ h => h) (.inr ⟨by rfl, rfl⟩) hH ?_
        (try dsimp only [Act.put]); (try simp only [jA, jB, jC, Act.put, jD, jE, jF])
        refine wpAnyH_take (i := 20) (v := undef) rfl (by kernel_rfl) (by kernel_rfl) (by kernel_rfl) (fun _ _ _ h => h) (.inr ⟨by rfl, rfl⟩) hH ?_
        (try dsimp only [Act.put]); (try simp only [jA, jB, jC, Act.put, jD, jE, jF])
        refine wpAnyH_take (i := 21) (v := undef) rfl (by kernel_rfl) (by kernel_rfl) (by kernel_rfl) (fun _ _ _ h => h) (.inr ⟨by rfl, rfl⟩) hH ?_
        (try dsimp only [Act.put]); (try simp only [jA, jB, jC, Act.put, jD, jE, jF])
        refine wpAnyH_take (i := 22) (v := undef) rfl (by kernel_rfl) (by kernel_rfl) (by kernel_rfl) (fun _ _ _ h => h) (.inr ⟨by rfl, rfl⟩) hH ?_
        (try dsimp only [Act.put]); (try simp only [jA, jB, jC, Act.put, jD, jE, jF])
        refine wpAnyH_take (i := 23) (v := undef) rfl (by kernel_rfl) (by kernel_rfl) (by kernel_rfl) (fun _ _ _ h => h) (.inr ⟨by rfl, rfl⟩) hH ?_
        (try dsimp only [Act.put]); (try simp only [jA, jB, jC, Act.put, jD, jE, jF])
        refine wpAnyH_take (i := 24) (v := undef) rfl (by kernel_rfl) (by kernel_rfl) (by kernel_rfl) (fun _ _ _ h => h) (.inr ⟨by rfl, rfl⟩) hH ?_
        (try dsimp only [Act.put]); (try simp only [jA, jB, jC, Act.put, jD, jE, jF])
        refine wpAnyH_take (i := 25) (v := undef) rfl (by kernel_rfl) (by kernel_rfl) (by kernel_rfl) (fun _ _ _ h => h) (.inr ⟨by rfl, rfl⟩) hH ?_
        (try dsimp only [Act.put]); (try simp only [jA, jB, jC, Act.put, jD, jE, jF])
        refine wpAnyH_take (i := 26) (v := undef) rfl (by kernel_rfl) (by kernel_rfl) (by kernel_rfl) (fun _ _ _ h => h) (.inr ⟨by rfl, rfl⟩) hH ?_
        (try dsimp only [Act.put]); (try simp only [jA, jB, jC, Act.put, jD, jE, jF])
        refine wpAnyH_take (i := 27) (v := undef) rfl (by kernel_rfl) (by kernel_rfl) (by kernel_rfl) (fun _ _ _ h => h) (.inr ⟨by rfl, rfl⟩) hH ?_
        (try dsimp only [Act.put]); (try simp only [jA, jB, jC, Act.put, jD, jE, jF])
        refine wpAnyH_take (i := 28) (v := .bool true) rfl (by kernel_rfl) (by kernel_rfl) (by kernel_rfl) (fun _ _ _ h => h) (.inl ⟨by rfl, by intro w hS; go_simp⟩) hH ?_
        (try dsimp only [Act.put]); (try simp only [jA, jB, jC, Act.put, jD, jE, jF])
        refine wpAnyH_take (i := 29) (v := .bool true) rfl (by kernel_rfl) (by kernel_rfl) (by kernel_rfl) (fun _ _ _ h => h) (.inl ⟨by rfl, by intro w hS; go_simp⟩) hH ?_
        (try dsimp only [Act.put]); (try simp only [jA, jB, jC, Act.put, jD, jE, jF])
        refine wpAnyH_ready (rs := [30]) (by kernel_rfl) (by simp) ?_
        refine AllReadyH.cons rfl (fun K hK => ?_) AllReadyH.nil
        rw [if_pos (by rfl)]
        go_simp
        refine (HW.out _ (kep_trans (kep_trans KW6.out KE.out) hH)).mono ?_
        rintro e w14 ⟨rfl, k14⟩
        refine hK.out _ _ (kep_trans hH k14) (fun hH => ?_)
        clear k14
        clear hK K
        (try dsimp only [Act.put]); (try simp only [jA, jB, jC, Act.put, jD, jE, jF])
        refine wpAnyH_take (i := 31) (v := .bool true) rfl (by kernel_rfl) (by kernel_rfl) (by kernel_rfl) (fun _ _ _ h => h) (.inl ⟨by rfl, by intro w hS; go_simp⟩) hH ?_
        (try dsimp only [Act.put]); (try simp only [jA, jB, jC, Act.put, jD, jE, jF])
        refine wpAnyH_take (i := 32) (v := .bool true) rfl (by kernel_rfl) (by kernel_rfl) (by kernel_rfl) (fun _ _ _ h => h) (.inl ⟨by rfl, by intro w hS; go_simp⟩) hH ?_
        (try dsimp only [Act.put]); (try simp only [jA, jB, jC, Act.put, jD, jE, jF])
        refine wpAnyH_done (by kernel_rfl) ?_ _
        go_wp2_with fail
        go_ret
        exact ⟨rfl, kep_trans (kep_trans KW6.out KE.out) hH⟩
      · obtain ⟨hL, he, hA⟩ := LE.out.2.2.resolve_left hl
        rw [he] at ca4
        rw [← hL, Int.toNat_natCast] at hA
        obtain ⟨b4, o4, rfl, gb⟩ := lies_num (LAb6.out.2.2.kep KE.out) hA
        have ka2 := kcell18 KE.out ca2
        have ka4 := kcell18 KE.out ca4
        have hix : Ua.I.length < Ub.I.length := by have := LE.out.1.length_le; omega
        clear hA he ca2 ca4
        subst hL
        go_upto_region 15 with fail
        refine wp_region_held_drew (S := fun w' => Kep wr w') (by kernel_rfl) ((Kep.refl _).drew) (fun hH => ?_)
        refine wpAnyH_take (i := 0) (v := .pointer (some ⟨ia, 0, none⟩)) rfl (by kernel_rfl) (by kernel_rfl) (by kernel_rfl) (fun _ _ _ h => h) (.inl ⟨by rfl, by intro w hS; go_simp⟩) hH ?_
        (try dsimp only [Act.put]); (try simp only [jA, jB, jC, Act.put, jD, jE, jF])
        refine wpAnyH_take (i := 1) (v := .slice xia Ua.I.length cia) rfl (by kernel_rfl) (by kernel_rfl) (by kernel_rfl) (fun _ _ _ h => h) (.inl ⟨by rfl, by intro w hS; have c1 : w.cell? ⟨ia, 0, none⟩ = some (.slice xia Ua.I.length cia) := kcell18 hS ka0; clear hS; go_simp⟩) hH ?_
        (try dsimp only [Act.put]); (try simp only [jA, jB, jC, Act.put, jD, jE, jF])
        refine wpAnyH_take (i := 2) (v := .int .i64 Ua.I.length) rfl (by kernel_rfl) (by kernel_rfl) (by kernel_rfl) (fun _ _ _ h => h) (.inl ⟨by rfl, by intro w hS; go_simp⟩) hH ?_
        (try dsimp only [Act.put]); (try simp only [jA, jB, jC, Act.put, jD, jE, jF])
        refine wpAnyH_take (i := 3) (v := .pointer (some ⟨ib, 0, none⟩)) rfl (by kernel_rfl) (by kernel_rfl) (by kernel_rfl) (fun _ _ _ h => h) (.inl ⟨by rfl, by intro w hS; go_simp⟩) hH ?_
        (try dsimp only [Act.put]); (try simp only [jA, jB, jC, Act.put, jD, jE, jF])
        refine wpAnyH_take (i := 4) (v := .slice xib Ub.I.length cib) rfl (by kernel_rfl) (by kernel_rfl) (by kernel_rfl) (fun _ _ _ h => h) (.inl ⟨by rfl, by intro w hS; have c1 : w.cell? ⟨ib, 0, none⟩ = some (.slice xib Ub.I.length cib) := kcell18 hS kb0; clear hS; go_simp⟩) hH ?_
        (try dsimp only [Act.put]); (try simp only [jA, jB, jC, Act.put, jD, jE, jF])
        refine wpAnyH_take (i := 5) (v := .int .i64 Ub.I.length) rfl (by kernel_rfl) (by kernel_rfl) (by kernel_rfl) (fun _ _ _ h => h) (.inl ⟨by rfl, by intro w hS; go_simp⟩) hH ?_
        (try dsimp only [Act.put]); (try simp only [jA, jB, jC, Act.put, jD, jE, jF])
        refine wpAnyH_take (i := 6) (v := .bool false) rfl (by kernel_rfl) (by kernel_rfl) (by kernel_rfl) (fun _ _ _ h => h) (.inl ⟨by rfl, by intro w hS; go_simp; omega⟩) hH ?_
        (try dsimp only [Act.put]); (try simp only [jA, jB, jC, Act.put, jD, jE, jF])
        refine wpAnyH_take (i := 7) (v := .bool false) rfl (by kernel_rfl) (by kernel_rfl) (by kernel_rfl) (fun _ _ _ h => h) (.inl ⟨by rfl, by intro w hS; go_simp⟩) hH ?_
        (try dsimp only [Act.put]); (try simp only [jA, jB, jC, Act.put, jD, jE, jF])
        refine wpAnyH_take (i := 8) (v := .pointer (some ⟨ia, 0, none⟩)) rfl (by kernel_rfl) (by kernel_rfl) (by kernel_rfl) (fun _ _ _ h => h) (.inl ⟨by rfl, by intro w hS; go_simp⟩) hH ?_
        (try dsimp only [Act.put]); (try simp only [jA, jB, jC, Act.put, jD, jE, jF])
        refine wpAnyH_take (i := 9) (v := .slice xia Ua.I.length cia) rfl (by kernel_rfl) (by kernel_rfl) (by kernel_rfl) (fun _ _ _ h => h) (.inl ⟨by rfl, by intro w hS; have c1 : w.cell? ⟨ia, 0, none⟩ = some (.slice xia Ua.I.length cia) := kcell18 hS ka0; clear hS; go_simp⟩) hH ?_
        (try dsimp only [Act.put]); (try simp only [jA, jB, jC, Act.put, jD, jE, jF])
        refine wpAnyH_take (i := 10) (v := .int .i64 Ua.I.length) rfl (by kernel_rfl) (by kernel_rfl) (by kernel_rfl) (fun _ _ _ h => h) (.inl ⟨by rfl, by intro w hS; go_simp⟩) hH ?_
        (try dsimp only [Act.put]); (try simp only [jA, jB, jC, Act.put, jD, jE, jF])
        refine wpAnyH_take (i := 11) (v := .int .i64 Ua.I.length) rfl (by kernel_rfl) (by kernel_rfl) (by kernel_rfl) (fun _ _ _ h => h) (.inl ⟨by rfl, by intro w hS; go_simp⟩) hH ?_
        (try dsimp only [Act.put]); (try simp only [jA, jB, jC, Act.put, jD, jE, jF])
        refine wpAnyH_take (i := 12) (v := .bool true) rfl (by kernel_rfl) (by kernel_rfl) (by kernel_rfl) (fun _ _ _ h => h) (.inl ⟨by rfl, by intro w hS; go_simp⟩) hH ?_
        (try dsimp only [Act.put]); (try simp only [jA, jB, jC, Act.put, jD, jE, jF])
        refine wpAnyH_take (i := 13) (v := .bool true) rfl (by kernel_rfl) (by kernel_rfl) (by kernel_rfl) (fun _ _ _ h => h) (.inl ⟨by rfl, by intro w hS; go_simp⟩) hH ?_
        (try dsimp only [Act.put]); (try simp only [jA, jB, jC, Act.put, jD, jE, jF])
        refine wpAnyH_take (i := 14) (v := .pointer (some ⟨ia, 4, none⟩)) rfl (by kernel_rfl) (by kernel_rfl) (by kernel_rfl) (fun _ _ _ h => h) (.inl ⟨by rfl, by intro w hS; go_simp⟩) hH ?_
        (try dsimp only [Act.put]); (try simp only [jA, jB, jC, Act.put, jD, jE, jF])
        refine wpAnyH_take (i := 15) (v := .int .i64 1) rfl (by kernel_rfl) (by kernel_rfl) (by kernel_rfl) (fun _ _ _ h => h) (.inl ⟨by rfl, by intro w hS; have c1 : w.cell? ⟨ia, 4, none⟩ = some (.int .i64 1) := kcell18 hS ka4; clear hS; go_simp⟩) hH ?_
        (try dsimp only [Act.put]); (try simp only [jA, jB, jC, Act.put, jD, jE, jF])
        refine wpAnyH_take (i := 16) (v := .bool true) rfl (by kernel_rfl) (by kernel_rfl) (by kernel_rfl) (fun _ _ _ h => h) (.inl ⟨by rfl, by intro w hS; go_simp⟩) hH ?_
        (try dsimp only [Act.put]); (try simp only [jA, jB, jC, Act.put, jD, jE, jF])
        refine wpAnyH_take (i := 17) (v := .bool true) rfl (by kernel_rfl) (by kernel_rfl) (by kernel_rfl) (fun _ _ _ h => h) (.inl ⟨by rfl, by intro w hS; go_simp⟩) hH ?_
        (try dsimp only [Act.put]); (try simp only [jA, jB, jC, Act.put, jD, jE, jF])
        refine wpAnyH_take (i := 18) (v := .bool true) rfl (by kernel_rfl) (by kernel_rfl) (by kernel_rfl) (fun _ _ _ h => h) (.inl ⟨by rfl, by intro w hS; go_simp⟩) hH ?_
        (try dsimp only [Act.put]); (try simp only [jA, jB, jC, Act.put, jD, jE, jF])
        refine wpAnyH_take (i := 19) (v := .pointer (some ⟨ia, 2, none⟩)) rfl (by kernel_rfl) (by kernel_rfl) (by kernel_rfl) (fun _ _ _ h => h) (.inl ⟨by rfl, by intro w hS; go_simp⟩) hH ?_
        (try dsimp only [Act.put]); (try simp only [jA, jB, jC, Act.put, jD, jE, jF])
        refine wpAnyH_take (i := 20) (v := .int .u32 Ua.n) rfl (by kernel_rfl) (by kernel_rfl) (by kernel_rfl) (fun _ _ _ h => h) (.inl ⟨by rfl, by intro w hS; have c1 : w.cell? ⟨ia, 2, none⟩ = some (.int .u32 Ua.n) := kcell18 hS ka2; clear hS; go_simp⟩) hH ?_
        (try dsimp only [Act.put]); (try simp only [jA, jB, jC, Act.put, jD, jE, jF])
        refine wpAnyH_take (i := 21) (v := .pointer (some ⟨ib, 1, none⟩)) rfl (by kernel_rfl) (by kernel_rfl) (by kernel_rfl) (fun _ _ _ h => h) (.inl ⟨by rfl, by intro w hS; go_simp⟩) hH ?_
        (try dsimp only [Act.put]); (try simp only [jA, jB, jC, Act.put, jD, jE, jF])
        refine wpAnyH_take (i := 22) (v := .slice (some ⟨b4, o4, none⟩) Ub.I.length cab) rfl (by kernel_rfl) (by kernel_rfl) (by kernel_rfl) (fun _ _ _ h => h) (.inl ⟨by rfl, by intro w hS; have c1 : w.cell? ⟨ib, 1, none⟩ = some (.slice (some ⟨b4, o4, none⟩) Ub.I.length cab) := kcell18 hS kb1; clear hS; go_simp⟩) hH ?_
        (try dsimp only [Act.put]); (try simp only [jA, jB, jC, Act.put, jD, jE, jF])
        refine wpAnyH_take (i := 23) (v := .int .i64 Ua.I.length) rfl (by kernel_rfl) (by kernel_rfl) (by kernel_rfl) (fun _ _ _ h => h) (.inl ⟨by rfl, by intro w hS; go_simp⟩) hH ?_
        (try dsimp only [Act.put]); (try simp only [jA, jB, jC, Act.put, jD, jE, jF])
        refine wpAnyH_take (i := 24) (v := .pointer (some ⟨b4, o4 + Ua.I.length, none⟩)) rfl (by kernel_rfl) (by kernel_rfl) (by kernel_rfl) (fun _ _ _ h => h) (.inl ⟨by rfl, by intro w hS; go_simp⟩) hH ?_
        (try dsimp only [Act.put]); (try simp only [jA, jB, jC, Act.put, jD, jE, jF])
        refine wpAnyH_take (i := 25) (v := .int .u32 Ua.n) rfl (by kernel_rfl) (by kernel_rfl) (by kernel_rfl) (fun _ _ _ h => h) (.inl ⟨by rfl, by intro w hS; have c1 : w.cell? ⟨b4, o4 + Ua.I.length, none⟩ = some (.int .u32 Ua.n) := kcell18 hS gb; clear hS; go_simp⟩) hH ?_
        (try dsimp only [Act.put]); (try simp only [jA, jB, jC, Act.put, jD, jE, jF])
        refine wpAnyH_take (i := 26) (v := .bool true) rfl (by kernel_rfl) (by kernel_rfl) (by kernel_rfl) (fun _ _ _ h => h) (.inl ⟨by rfl, by intro w hS; go_simp⟩) hH ?_
        (try dsimp only [Act.put]); (try simp only [jA, jB, jC, Act.put, jD, jE, jF])
        refine wpAnyH_take (i := 27) (v := .bool true) rfl (by kernel_rfl) (by kernel_rfl) (by kernel_rfl) (fun _ _ _ h => h) (.inl ⟨by rfl, by intro w hS; go_simp⟩) hH ?_
        (try dsimp only [Act.put]); (try simp only [jA, jB, jC, Act.put, jD, jE, jF])
        refine wpAnyH_take (i := 28) (v := .bool true) rfl (by kernel_rfl) (by kernel_rfl) (by kernel_rfl) (fun _ _ _ h => h) (.inl ⟨by rfl, by intro w hS; go_simp⟩) hH ?_
        (try dsimp only [Act.put]); (try simp only [jA, jB, jC, Act.put, jD, jE, jF])
        refine wpAnyH_take (i := 29) (v := .bool true) rfl (by kernel_rfl) (by kernel_rfl) (by kernel_rfl) (fun _ _ _ h => h) (.inl ⟨by rfl, by intro w hS; go_simp⟩) hH ?_
        (try dsimp only [Act.put]); (try simp only [jA, jB, jC, Act.put, jD, jE, jF])
        refine wpAnyH_ready (rs := [30]) (by kernel_rfl) (by simp) ?_
        refine AllReadyH.cons rfl (fun K hK => ?_) AllReadyH.nil
        rw [if_pos (by rfl)]
        go_simp
        refine (HW.out _ (kep_trans (kep_trans KW6.out KE.out) hH)).mono ?_
        rintro e w14 ⟨rfl, k14⟩
        refine hK.out _ _ (kep_trans hH k14) (fun hH => ?_)
        clear k14
        clear hK K
        (try dsimp only [Act.put]); (try simp only [jA, jB, jC, Act.put, jD, jE, jF])
        refine wpAnyH_take (i := 31) (v := .bool true) rfl (by kernel_rfl) (by kernel_rfl) (by kernel_rfl) (fun _ _ _ h => h) (.inl ⟨by rfl, by intro w hS; go_simp⟩) hH ?_
        (try dsimp only [Act.put]); (try simp only [jA, jB, jC, Act.put, jD, jE, jF])
        refine wpAnyH_take (i := 32) (v := .bool true) rfl (by kernel_rfl) (by kernel_rfl) (by kernel_rfl) (fun _ _ _ h => h) (.inl ⟨by rfl, by intro w hS; go_simp⟩) hH ?_
        (try dsimp only [Act.put]); (try simp only [jA, jB, jC, Act.put, jD, jE, jF])
        refine wpAnyH_done (by kernel_rfl) ?_ _
        go_wp2_with fail
        go_ret
        exact ⟨rfl, kep_trans (kep_trans KW6.out KE.out) hH⟩
set_option maxRecDepth 100000 in
theorem lifted (os : Os) (started : os.Started) (H : Type) (enc : TypeId × Value → H) :
    ReturnsInHanded {} Tryz.checked os 5 .any (fun w args => (Rows.scanLessSpec.pre enc Tryz.prog Tryz.f5 Rows.scanLessRow.domain false w args ∧ laidMetH Tryz.prog laidL w) ∧ sizedMet enc Tryz.prog Tryz.f5 (OpenSpec.ofChange Rows.scanLessSpec) false w args)
      (Rows.scanLessSpec.post enc Tryz.prog Tryz.f5 false true false false) := by
  refine returnsInHanded_of_change_and (C := Tryz.checked) (X := fun w _ => laidMetH Tryz.prog laidL w) (fun _ _ _ hh h => h.of_heap hh) own started (by kernel_rfl) Tryz.func5
    (ChangeSpec.witness_shaped (enc := enc) (C := Tryz.checked) (os := os) (X := fun w _ => laidMetH Tryz.prog laidL w) false (World.laidAll Tryz.prog os laidL) #[.agg #[.int .i64 0, .slice none 0 0, .slice none 0 0, .int .u16 0, .int .u32 0, .int .u32 0, .int .u32 0, .int .u32 0, .int .u32 0, .int .u32 0, .int .u32 0, .int .u32 0, .int .u32 0, .int .u32 0, .int .u32 0, .int .u32 0, .int .u32 0, .int .u32 0, .int .u32 0, .int .u32 0, .int .u32 0, .int .u32 0, .bool false, .slice none 0 0, .slice none 0 0], .int .u8 0, .int .u8 0] 8 (World.laidAll_os _ _ _)
      (World.shaped_of_ZipB (by kernel_rfl) (by kernel_rfl)) (by kernel_rfl) (by kernel_rfl) (by kernel_rfl)
      (by rw [MakeChecks.laidMetH_plain _ _ _ (by kernel_rfl)]; exact laidMet_laidAll _ (by kernel_rfl) (by kernel_rfl))) ?_
  intro W base args ds gs before hval0 hW hcnd hsz0 hL _
  have hval : ∀ (j : Nat) t v, Tryz.f5.params[j]? = some t → args[j]? = some v → Value.okWide Tryz.prog W .any base t v := hval0
  have hW' := hW
  obtain ⟨p, q, hA0, hV, rfl, hfz, hnd⟩ := hW
  have hA : DataW.TrodAll enc Tryz.prog W 0 (fun _ => true) true Tryz.f5.params.toList args.toList ds p := hA0
  rw [Tryz.params5] at hA hval
  obtain ⟨v0, vs0, d0, ds0, p0, q0, hargs, rfl, rfl, h0, r0⟩ := trodAll_cons hA
  obtain ⟨v1, vs1, d1, ds1, p1, q1, rfl, rfl, rfl, h1, r1⟩ := trodAll_cons r0
  obtain ⟨v2, vs2, d2, ds2, p2, q2, rfl, rfl, rfl, h2, r2⟩ := trodAll_cons r1
  obtain ⟨rfl, rfl, rfl⟩ := trodAll_nil r2
  obtain rfl : args = #[v0, v1, v2] := by cases args; simp_all
  obtain ⟨rfl, rfl⟩ := trodVars_none hV
  have k0 := h0
  have lt0 : ∀ x ∈ p0, x.block < W.heap.size := by obtain ⟨m, hm⟩ := k0; exact DataW.trod_lt m _ _ _ hm
  obtain ⟨fr, xi, li, ci, Z, xc, lc, cc, C, en, s, xs, ls, cs, E, xd, ld, cd, D, rfl, hfr, w0⟩ := open_gst (hval 0 31 v0 rfl rfl) h0
  have k1 := h1
  have lt1 : ∀ x ∈ p1, x.block < W.heap.size := by obtain ⟨m, hm⟩ := k1; exact DataW.trod_lt m _ _ _ hm
  obtain ⟨a1, rfl, rfl, rfl, w1⟩ := open_int Tryz.underlying5 (hval 1 5 v1 rfl rfl) h1
  have k2 := h2
  have lt2 : ∀ x ∈ p2, x.block < W.heap.size := by obtain ⟨m, hm⟩ := k2; exact DataW.trod_lt m _ _ _ hm
  obtain ⟨a2, rfl, rfl, rfl, w2⟩ := open_int Tryz.underlying5 (hval 2 5 v2 rfl rfl) h2
  clear hA0 hval0
  refine (walk fr xi li ci Z xc lc cc C en s xs ls cs E xd ld cd D hfr a1 w1 a2 w2 W w0 (tabs_of_laid hL)).mono fun e W' ⟨he, bel0⟩ => ?_
  have bel : Below W.heap.size W W' := bel0
  subst he
  exact ⟨_, rfl, _, _, _, [], _, [], hW', trodAll_mk1 (shut_bool Tryz.underlying4 _), (trodAll_cons_mk (Below.trod laidOut (by kernel_rfl) (of_decide_eq_true (by kernel_rfl)) k0 bel lt0) (trodAll_cons_mk (Below.trod laidOut (by kernel_rfl) (of_decide_eq_true (by kernel_rfl)) k1 bel lt1) (trodAll_cons_mk (Below.trod laidOut (by kernel_rfl) (of_decide_eq_true (by kernel_rfl)) k2 bel lt2) trodAll_mk0))), rfl, bel.frame _, fun h => by cases h⟩
theorem over : Rows.scanLessRow.holds Tryz.pinned (OpenSpec.ofChange Rows.scanLessSpec) :=
  OpenClaim.holds_of_wide 5 Tryz.f5 rfl rfl rfl rfl rfl rfl rfl ⟨rfl, rfl, rfl, rfl, rfl⟩ rfl rfl rfl rfl rfl (by kernel_rfl) Tryz.func5 (by kernel_rfl)
    (of_decide_eq_true (by kernel_rfl)) (by unfold Func.isWrapper; first | (rw [if_pos (by decide +kernel)]; kernel_rfl) | (rw [if_neg (by decide +kernel)]; exact ⟨rfl, rfl⟩))
    (fun os started H enc _ => lifted os started H enc)
end Go.Proofs.YtamffningddgbaaGreatDoor.scanLess
namespace Go.Proofs.YtamffningddgbaaGreatDoor
theorem scanLess_holds : Rows.ScanLessCardSaid :=
  Claim7.holds_tied_plain_at .later [] [.data, .data] true (true, "7fa92bc0b72429e4af1d2cd01e9a8d1e088acfc86bc952062cfda82cc5830e59") false scanLess.over (fun _ h => by cases h) (by kernel_rfl) (fun _ h => by cases h) scanLess_row_tie rfl ⟨rfl, rfl⟩ (by kernel_rfl) rfl
    (fun f fn hf hfn => by
      obtain rfl : f = 5 := Option.some.inj ((show Tryz.prog.funcNamed "mummer/mummerlaw18.ScanLess" = some 5 by kernel_rfl).symm.trans hf) |>.symm
      obtain rfl : fn = Tryz.f5 := (Option.some.inj (Tryz.func5.symm.trans hfn)).symm
      exact ⟨by kernel_rfl, fun j t ht => by
        rw [Tryz.params5] at ht
        have hm : t ∈ [31, 5, 5] := by simpa using Array.mem_of_getElem? ht
        have hall : ([31, 5, 5].all fun u => !Tryz.prog.wantsStandIn u) = true := by kernel_rfl
        exact (show Tryz.prog.wantsStandIn t = false by simpa using List.all_eq_true.1 hall t hm)⟩)
    (by kernel_rfl)
#print axioms scanLess_holds
end Go.Proofs.YtamffningddgbaaGreatDoor
