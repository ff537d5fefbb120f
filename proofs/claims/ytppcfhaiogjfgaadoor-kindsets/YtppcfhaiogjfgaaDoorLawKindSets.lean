/- For every instruction, the law KindSets returns true: the code's table says just the registers that the document says are read and written; the code's two tables of forms hold what its text lays. -/
import Derived.Test.YtppcfhaiogjfgaaDoorRows
import Derived.Test.YtppcfhaiogjfgaaDoorTie
import Derived.Test.YtppcfhaiogjfgaaDoorCards
import Derived.Test.YtppcfhaiogjfgaaDoorTab
import Derived.Test.YtppcfhaiogjfgaaDoorWord
import Derived.Test.YtppcfhaiogjfgaaDoorKsets
import Derived.Test.YtppcfhaiogjfgaaDoorKref
import Derived.Test.YtppcfhaiogjfgaaDoorKrset
import Derived.Test.YtppcfhaiogjfgaaDoorRefmay
import Derived.WalkKit
import Derived.ProofKit
import Derived.OpenShut
import Derived.ShutString
import Derived.ChangeOld
import Derived.Below
import Derived.Lib.SmallJoins
import Derived.Lay
import Derived.SevenTiedAt
import Derived.Stop.Joined
namespace Go.Proofs.YtppcfhaiogjfgaaDoor.kindSets
open Go.ChangeShapes Go.WideShapes Go.ChangeAt Go.RowKit
set_option linter.unusedVariables false

theorem own : ownKnob Tryd.prog.godebug = none := by kernel_rfl
theorem laidOut : laidOutB Tryd.prog = true := by kernel_rfl

abbrev laidL : List (String × DataW Unit) := [("mummer/isa.forms", Rows.laid_mummer_isa_forms), ("mummer/isa.spans", Rows.laid_mummer_isa_spans)]

theorem c0 : gC (tabF 0) = 1 := by decide +kernel
/-- What the code and the document say of an operation's places. -/
def agree (op : Int) : Bool :=
  let x := rfRow op; let g := tabF op
  decide (x.ra = gRa g ∧ x.rb = gRb g ∧ x.wa = gWa g ∧ gWb g = false ∧ gRi g = (if x.sd then 128 else 0) ∧ gWi g = (if x.lk then 64 else 0) + (if x.st then 128 else 0))
def comboB (ra rb wa lk sd st : Bool) : Bool :=
  [(false, false, false, false, false, false), (false, true, true, false, false, false), (true, true, true, false, false, false), (true, true, false, false, false, false), (false, false, true, false, false, false), (true, false, true, false, false, false),
   (true, false, false, false, true, true), (false, false, true, false, true, true), (false, false, false, true, false, false), (true, false, false, false, false, false), (true, false, false, true, false, false)].contains (ra, rb, wa, lk, sd, st)
def combo (x : Rf) : Bool := comboB x.ra x.rb x.wa x.lk x.sd x.st
theorem agree_all (op : Int) (h0 : 0 ≤ op) (h1 : op < 256) : agree op = true ∧ combo (rfRow op) = true := by
  have := byte_all (p := fun op => agree op && combo (rfRow op)) (by decide +kernel) op h0 h1
  simpa using this
def bools : List Bool := [false, true]
theorem bools_all (b : Bool) : b ∈ bools := by cases b <;> simp [bools]
/-- The two ways to come to a set of registers agree. -/
theorem arith : ((List.range 8).all fun a => (List.range 8).all fun b => bools.all fun ra => bools.all fun rb => bools.all fun sd => decide (orB ra rb (if sd then 128 else 0) a b = sR ra rb sd ((a : Int) != b) (pwr a) (pwr b))) = true := by decide +kernel
theorem arithW : ((List.range 8).all fun a => (List.range 8).all fun b => bools.all fun wa => bools.all fun lk => bools.all fun st => (wa && lk) || decide (orB wa false ((if lk then 64 else 0) + (if st then 128 else 0)) a b = sW wa lk st (pwr a))) = true := by decide +kernel
theorem or_sR (a b : Int) (h0 : 0 ≤ a) (h7 : a ≤ 7) (k0 : 0 ≤ b) (k7 : b ≤ 7) (ra rb sd : Bool) : orB ra rb (if sd then 128 else 0) a b = sR ra rb sd (a != b) (pwr a) (pwr b) := by
  obtain ⟨m, rfl⟩ := Int.eq_ofNat_of_zero_le h0
  obtain ⟨n, rfl⟩ := Int.eq_ofNat_of_zero_le k0
  have := arith
  simp only [List.all_eq_true, decide_eq_true_eq] at this
  exact this m (by simp; omega) n (by simp; omega) ra (bools_all _) rb (bools_all _) sd (bools_all _)
theorem or_sW (a b : Int) (h0 : 0 ≤ a) (h7 : a ≤ 7) (k0 : 0 ≤ b) (k7 : b ≤ 7) (wa lk st : Bool) (hx : (wa && lk) = false) : orB wa false ((if lk then 64 else 0) + (if st then 128 else 0)) a b = sW wa lk st (pwr a) := by
  obtain ⟨m, rfl⟩ := Int.eq_ofNat_of_zero_le h0
  obtain ⟨n, rfl⟩ := Int.eq_ofNat_of_zero_le k0
  have := arithW
  simp only [List.all_eq_true, Bool.or_eq_true, decide_eq_true_eq] at this
  rcases this m (by simp; omega) n (by simp; omega) wa (bools_all _) lk (bools_all _) st (bools_all _) with q | q
  · rw [hx] at q; cases q
  · exact q

theorem combo_b : ∀ ra rb wa lk sd st : Bool, comboB ra rb wa lk sd st = true → (wa && lk) = false := by decide
theorem combo_xl (x : Rf) (h : combo x = true) : (x.wa && x.lk) = false := combo_b _ _ _ _ _ _ h

theorem sets_yes (op a b imm : Int) (h0 : 0 ≤ op) (h1 : op < 256) (h2 : -2147483648 ≤ imm) (h3 : imm ≤ 2147483647) (ha : 0 ≤ a) (hb : 0 ≤ b) (hm : mayB (rowOf op true) a b imm = true) (w : World) :
    Calls Tryd.prog 7 #[.agg (insA op a b imm)] w fun e w' => e = .returned (.tuple #[.int .u8 (sR (rfRow op).ra (rfRow op).rb (rfRow op).sd (a != b) (pwr a) (pwr b)), .int .u8 (sW (rfRow op).wa (rfRow op).lk (rfRow op).st (pwr a))]) ∧ Kep w w' := by
  obtain ⟨q1, q2⟩ := may_seven _ (rowOf_lt _ _) a b imm hm
  have hM : Hid (∀ w, Calls Tryd.prog 20 #[.agg (insA op a b imm), .bool true] w fun e w' => e = .returned (.bool true) ∧ Kep w w') := fun w => by
    have h := refMay_any op a b imm true w ha hb h2 h3
    rw [hm] at h
    exact h
  have hO : Hid (∀ w, Calls Tryd.prog 21 #[.int .u8 op] w fun e w' => e = .returned (.agg (rfA (rfRow op) (rfE (rfRow op)))) ∧ Kep w w') := fun w => refOf3_any op h0 h1 w
  have hPa : Hid (∀ w, Calls Tryd.prog 22 #[.int .u8 a] w fun e w' => e = .returned (.int .u8 (pwr a)) ∧ w' = w) := fun w => power_any a ha q1 w
  have hPb : Hid (∀ w, Calls Tryd.prog 22 #[.int .u8 b] w fun e w' => e = .returned (.int .u8 (pwr b)) ∧ w' = w) := fun w => power_any b hb q2 w
  have pa := pwr_ok a ha q1
  have pb := pwr_ok b hb q2
  have hs : (a != b) = true → pwr a + pwr b < 256 := fun h => pwr_sum a b ha q1 hb q2 (by simpa using h)
  have hc := (agree_all op h0 h1).2
  generalize rfE (rfRow op) = E at hO
  generalize rfRow op = X at hO hc ⊢
  obtain ⟨c, ra, rb, wa, lk, sd, st, t, f, s⟩ := X
  simp only [combo] at hc
  simp only
  unfold rfA at hO
  simp only at hO
  revert hc hO
  cases ra <;> cases rb <;> cases wa <;> cases lk <;> cases sd <;> cases st <;> intro hO hc
  · exact sets_0 op a b imm _ _ c t f s E _ w rfl pa.1 pa.2 pb.1 pb.2 hs hM hO hPa hPb
  · exact absurd hc (by decide)
  · exact absurd hc (by decide)
  · exact absurd hc (by decide)
  · exact sets_8 op a b imm _ _ c t f s E _ w rfl pa.1 pa.2 pb.1 pb.2 hs hM hO hPa hPb
  · exact absurd hc (by decide)
  · exact absurd hc (by decide)
  · exact absurd hc (by decide)
  · exact sets_4 op a b imm _ _ c t f s E _ w rfl pa.1 pa.2 pb.1 pb.2 hs hM hO hPa hPb
  · exact absurd hc (by decide)
  · exact absurd hc (by decide)
  · exact sets_7 op a b imm _ _ c t f s E _ w rfl pa.1 pa.2 pb.1 pb.2 hs hM hO hPa hPb
  · exact absurd hc (by decide)
  · exact absurd hc (by decide)
  · exact absurd hc (by decide)
  · exact absurd hc (by decide)
  · exact absurd hc (by decide)
  · exact absurd hc (by decide)
  · exact absurd hc (by decide)
  · exact absurd hc (by decide)
  · exact absurd hc (by decide)
  · exact absurd hc (by decide)
  · exact absurd hc (by decide)
  · exact absurd hc (by decide)
  · exact sets_1 op a b imm _ _ c t f s E _ w rfl pa.1 pa.2 pb.1 pb.2 hs hM hO hPa hPb
  · exact absurd hc (by decide)
  · exact absurd hc (by decide)
  · exact absurd hc (by decide)
  · exact absurd hc (by decide)
  · exact absurd hc (by decide)
  · exact absurd hc (by decide)
  · exact absurd hc (by decide)
  · exact sets_9 op a b imm _ _ c t f s E _ w rfl pa.1 pa.2 pb.1 pb.2 hs hM hO hPa hPb
  · exact absurd hc (by decide)
  · exact absurd hc (by decide)
  · exact sets_6 op a b imm _ _ c t f s E _ w rfl pa.1 pa.2 pb.1 pb.2 hs hM hO hPa hPb
  · exact sets_10 op a b imm _ _ c t f s E _ w rfl pa.1 pa.2 pb.1 pb.2 hs hM hO hPa hPb
  · exact absurd hc (by decide)
  · exact absurd hc (by decide)
  · exact absurd hc (by decide)
  · exact sets_5 op a b imm _ _ c t f s E _ w rfl pa.1 pa.2 pb.1 pb.2 hs hM hO hPa hPb
  · exact absurd hc (by decide)
  · exact absurd hc (by decide)
  · exact absurd hc (by decide)
  · exact absurd hc (by decide)
  · exact absurd hc (by decide)
  · exact absurd hc (by decide)
  · exact absurd hc (by decide)
  · exact sets_3 op a b imm _ _ c t f s E _ w rfl pa.1 pa.2 pb.1 pb.2 hs hM hO hPa hPb
  · exact absurd hc (by decide)
  · exact absurd hc (by decide)
  · exact absurd hc (by decide)
  · exact absurd hc (by decide)
  · exact absurd hc (by decide)
  · exact absurd hc (by decide)
  · exact absurd hc (by decide)
  · exact sets_2 op a b imm _ _ c t f s E _ w rfl pa.1 pa.2 pb.1 pb.2 hs hM hO hPa hPb
  · exact absurd hc (by decide)
  · exact absurd hc (by decide)
  · exact absurd hc (by decide)
  · exact absurd hc (by decide)
  · exact absurd hc (by decide)
  · exact absurd hc (by decide)
  · exact absurd hc (by decide)

set_option maxHeartbeats 1000000 in
theorem sets_no (op a b imm : Int) (h2 : -2147483648 ≤ imm) (h3 : imm ≤ 2147483647) (ha : 0 ≤ a) (hb : 0 ≤ b) (hm : mayB (rowOf op true) a b imm = false) (w : World) :
    Calls Tryd.prog 7 #[.agg (insA op a b imm)] w fun e w' => e = .returned (.tuple #[.int .u8 0, .int .u8 0]) ∧ Kep w w' := by
  have hnot : ∀ (x : Bool) (w : World), (Op.unary .not (.bool x)).run Tryd.prog w = .ok (.bool (!x)) w := fun _ _ => rfl
  have hM : Hid (∀ w, Calls Tryd.prog 20 #[.agg (insA op a b imm), .bool true] w fun e w' => e = .returned (.bool false) ∧ Kep w w') := fun w => by
    have h := refMay_any op a b imm true w ha hb h2 h3
    rw [hm] at h
    exact h
  clear h2 h3 ha hb hm
  go_enter Tryd.func7, Tryd.ntmps7
  go_wp2_with fail
  refine (hM.out _).mono ?_
  rintro e w1 ⟨rfl, g1⟩
  have K1 : Hid (Kep w w1) := kep_trans ((Kep.refl _).alloc _) g1
  clear g1
  go_wp2_with fail
  go_ret2
  exact ⟨rfl, K1⟩

theorem sets_any (op a b imm : Int) (h0 : 0 ≤ op) (h1 : op < 256) (h2 : -2147483648 ≤ imm) (h3 : imm ≤ 2147483647) (ha : 0 ≤ a) (hb : 0 ≤ b) (w : World) :
    Calls Tryd.prog 7 #[.agg (insA op a b imm)] w fun e w' => e = .returned (.tuple #[.int .u8 (setB (mayB (rowOf op true) a b imm) (gRa (tabF op)) (gRb (tabF op)) (gRi (tabF op)) a b), .int .u8 (setB (mayB (rowOf op true) a b imm) (gWa (tabF op)) (gWb (tabF op)) (gWi (tabF op)) a b)]) ∧ Kep w w' := by
  obtain ⟨hag, hcb⟩ := agree_all op h0 h1
  have hx := combo_xl _ hcb
  simp only [agree, decide_eq_true_eq] at hag
  obtain ⟨e1, e2, e3, e4, e5, e6⟩ := hag
  unfold setB
  cases hm : mayB (rowOf op true) a b imm
  · simpa using sets_no op a b imm h2 h3 ha hb hm w
  · obtain ⟨q1, q2⟩ := may_seven _ (rowOf_lt _ _) a b imm hm
    have h := sets_yes op a b imm h0 h1 h2 h3 ha hb hm w
    rw [← or_sR a b ha q1 hb q2, ← or_sW a b ha q1 hb q2 _ _ _ hx, e1, e2, e3, ← e5, ← e6] at h
    rw [e4]
    simpa using h

set_option maxHeartbeats 2000000 in
theorem walk (a0f0 : Int) (w0f0 : (Lit.int .u8 a0f0).wf = true) (a0f1 : Int) (w0f1 : (Lit.int .u8 a0f1).wf = true) (a0f2 : Int) (w0f2 : (Lit.int .u8 a0f2).wf = true) (a0f3 : Int) (w0f3 : (Lit.int .i32 a0f3).wf = true) (w : World) (hT : Tabs w) :
    Calls Tryd.prog 3 #[.agg #[.int .u8 a0f0, .int .u8 a0f1, .int .u8 a0f2, .int .i32 a0f3]] w fun e w' => e = .returned (.bool true) ∧ Kep w w' := by
  have hw0 := word8 w0f0
  have hw1 := word8 w0f1
  have hw2 := word8 w0f2
  have hw3 := word32 w0f3
  have hS : Hid (∀ w, Calls Tryd.prog 7 #[.agg (insA a0f0 a0f1 a0f2 a0f3)] w fun e w' => e = .returned (.tuple #[.int .u8 (setB (mayB (rowOf a0f0 true) a0f1 a0f2 a0f3) (gRa (tabF a0f0)) (gRb (tabF a0f0)) (gRi (tabF a0f0)) a0f1 a0f2), .int .u8 (setB (mayB (rowOf a0f0 true) a0f1 a0f2 a0f3) (gWa (tabF a0f0)) (gWb (tabF a0f0)) (gWi (tabF a0f0)) a0f1 a0f2)]) ∧ Kep w w') := fun w => sets_any a0f0 a0f1 a0f2 a0f3 hw0.1 hw0.2 hw3.1 hw3.2 hw1.1 hw2.1 w
  have hR : Hid (∀ w2 p o kb, Tb w w2 p o kb → Calls Tryd.prog 8 #[.pointer (some ⟨p, 0, none⟩), .agg (insA a0f0 a0f1 a0f2 a0f3)] w2 fun e w' => e = .returned (.int .u8 (setB (mayB (rowOf a0f0 true) a0f1 a0f2 a0f3) (gRa (tabF a0f0)) (gRb (tabF a0f0)) (gRi (tabF a0f0)) a0f1 a0f2)) ∧ Tb w w' p o kb ∧ Stp o kb w2 w') := fun w2 p o kb h => reads_any a0f0 a0f1 a0f2 a0f3 hw0.1 hw0.2 hw3.1 hw3.2 hw1.1 hw2.1 w w2 p o kb hT h
  have hW : Hid (∀ w2 p o kb, Tb w w2 p o kb → Calls Tryd.prog 9 #[.pointer (some ⟨p, 0, none⟩), .agg (insA a0f0 a0f1 a0f2 a0f3)] w2 fun e w' => e = .returned (.int .u8 (setB (mayB (rowOf a0f0 true) a0f1 a0f2 a0f3) (gWa (tabF a0f0)) (gWb (tabF a0f0)) (gWi (tabF a0f0)) a0f1 a0f2)) ∧ Tb w w' p o kb ∧ Stp o kb w2 w') := fun w2 p o kb h => writes_any a0f0 a0f1 a0f2 a0f3 hw0.1 hw0.2 hw3.1 hw3.2 hw1.1 hw2.1 w w2 p o kb hT h
  generalize setB (mayB (rowOf a0f0 true) a0f1 a0f2 a0f3) (gRa (tabF a0f0)) (gRb (tabF a0f0)) (gRi (tabF a0f0)) a0f1 a0f2 = R at hS hR
  generalize setB (mayB (rowOf a0f0 true) a0f1 a0f2 a0f3) (gWa (tabF a0f0)) (gWb (tabF a0f0)) (gWi (tabF a0f0)) a0f1 a0f2 = V at hS hW
  clear hw0 hw1 hw2 hw3 hT
  have hC : Hid (∀ w2 p o kb, Tb w w2 p o kb → Calls Tryd.prog 10 #[.pointer (some ⟨p, 0, none⟩), .int .u8 0] w2 fun e w' => e = .returned (.int .i64 1) ∧ Tb w w' p o kb ∧ Stp o kb w2 w') := fun w2 p o kb h => c0 ▸ class_any 0 (by decide) (by decide) w w2 p o kb h
  go_enter Tryd.func3, Tryd.ntmps3
  go_wp2_with fail
  refine (new_call _).mono ?_
  rintro e w1 ⟨p, o, kb, rfl, T1⟩
  have k1 : Kep (w.alloc (.cells (insA a0f0 a0f1 a0f2 a0f3) 23)) w1 := T1.out.kep
  have T1' : Tb w w1 p o kb := ⟨T1.out.tab, T1.out.asked, T1.out.po, T1.out.pk, kep_trans ((Kep.refl _).alloc _) T1.out.kep, by have := T1.out.go; simp at this; omega, by have := T1.out.gk; simp at this; omega⟩
  have go1 : w.heap.size + 1 ≤ o := by have := T1.out.go; simpa using this
  have gk1 : w.heap.size + 1 ≤ kb := by have := T1.out.gk; simpa using this
  have T1h : Hid (Tb w w1 p o kb) := T1'
  have s1 : w.heap.size < w1.heap.size := k1.lt (by simp)
  have b1 : Hid (w1.heap[w.heap.size]? = some (.cells (insA a0f0 a0f1 a0f2 a0f3) 23 (0, 0))) := k1.block (heap_alloc_new _ _)
  clear T1 k1 T1'
  have d0 : w1.cell? ⟨w.heap.size, 0, none⟩ = some (.int .u8 a0f0) := cell_of_block b1.out
  have d1 : w1.cell? ⟨w.heap.size, 1, none⟩ = some (.int .u8 a0f1) := cell_of_block b1.out
  have d2 : w1.cell? ⟨w.heap.size, 2, none⟩ = some (.int .u8 a0f2) := cell_of_block b1.out
  have d3 : w1.cell? ⟨w.heap.size, 3, none⟩ = some (.int .i32 a0f3) := cell_of_block b1.out
  go_wp2_with fail
  refine (hS.out _).mono ?_
  rintro e w2 ⟨rfl, g2⟩
  have T2 : Hid (Tb w w2 p o kb) := T1h.out.kp g2
  have b2 : Hid (w2.heap[w.heap.size]? = some (.cells (insA a0f0 a0f1 a0f2 a0f3) 23 (0, 0))) := g2.block b1.out
  clear g2 d0 d1 d2 d3
  have d0 : w2.cell? ⟨w.heap.size, 0, none⟩ = some (.int .u8 a0f0) := cell_of_block b2.out
  have d1 : w2.cell? ⟨w.heap.size, 1, none⟩ = some (.int .u8 a0f1) := cell_of_block b2.out
  have d2 : w2.cell? ⟨w.heap.size, 2, none⟩ = some (.int .u8 a0f2) := cell_of_block b2.out
  have d3 : w2.cell? ⟨w.heap.size, 3, none⟩ = some (.int .i32 a0f3) := cell_of_block b2.out
  go_wp2_with fail
  refine (hR.out _ _ _ _ T2.out).mono ?_
  rintro e w3 ⟨rfl, t3, s3⟩
  have T3 : Hid (Tb w w3 p o kb) := t3
  have b3 : Hid (w3.heap[w.heap.size]? = some (.cells (insA a0f0 a0f1 a0f2 a0f3) 23 (0, 0))) := (s3.block _ (block_ge b2.out) (by omega) (by omega)).trans b2.out
  clear t3 s3 d0 d1 d2 d3
  have d0 : w3.cell? ⟨w.heap.size, 0, none⟩ = some (.int .u8 a0f0) := cell_of_block b3.out
  have d1 : w3.cell? ⟨w.heap.size, 1, none⟩ = some (.int .u8 a0f1) := cell_of_block b3.out
  have d2 : w3.cell? ⟨w.heap.size, 2, none⟩ = some (.int .u8 a0f2) := cell_of_block b3.out
  have d3 : w3.cell? ⟨w.heap.size, 3, none⟩ = some (.int .i32 a0f3) := cell_of_block b3.out
  go_wp2_with fail
  refine (hW.out _ _ _ _ T3.out).mono ?_
  rintro e w4 ⟨rfl, t4, _⟩
  have T4 : Hid (Tb w w4 p o kb) := t4
  clear t4 d0 d1 d2 d3
  go_wp2_with fail
  refine (hC.out _ _ _ _ T4.out).mono ?_
  rintro e w5 ⟨rfl, t5, _⟩
  have T5 : Hid (Kep w w5) := t5.kep
  clear t5
  go_wp2_with fail
  go_ret
  exact ⟨rfl, T5.out⟩

set_option maxRecDepth 100000 in
theorem lifted (os : Os) (started : os.Started) (H : Type) (enc : TypeId × Value → H) :
    ReturnsInHanded {} Tryd.checked os 3 .any (fun w args => (Rows.kindSetsSpec.pre enc Tryd.prog Tryd.f3 Rows.kindSetsRow.domain false w args ∧ laidMetH Tryd.prog laidL w) ∧ sizedMet enc Tryd.prog Tryd.f3 (OpenSpec.ofChange Rows.kindSetsSpec) false w args)
      (Rows.kindSetsSpec.post enc Tryd.prog Tryd.f3 false true false false) := by
  refine returnsInHanded_of_change_and (C := Tryd.checked) (X := fun w _ => laidMetH Tryd.prog laidL w) (fun _ _ _ hh h => h.of_heap hh) own started (by kernel_rfl) Tryd.func3
    (ChangeSpec.witness_shaped (enc := enc) (C := Tryd.checked) (os := os) (X := fun w _ => laidMetH Tryd.prog laidL w) false (World.laidAll Tryd.prog os laidL) #[.agg #[.int .u8 0, .int .u8 0, .int .u8 0, .int .i32 0]] 8 (World.laidAll_os _ _ _)
      (World.shaped_of_ZipB (by kernel_rfl) (by kernel_rfl)) (by kernel_rfl) (by kernel_rfl) (by kernel_rfl)
      (by rw [MakeChecks.laidMetH_plain _ _ _ (by kernel_rfl)]; exact laidMet_laidAll _ (by kernel_rfl) (by kernel_rfl))) ?_
  intro W base args ds gs before hval0 hW hcnd _ hL _
  have hval : ∀ (j : Nat) t v, Tryd.f3.params[j]? = some t → args[j]? = some v → Value.okWide Tryd.prog W .any base t v := hval0
  have hW' := hW
  obtain ⟨p, q, hA0, hV, rfl, hfz, hnd⟩ := hW
  have hA : DataW.TrodAll enc Tryd.prog W 0 (fun _ => true) true Tryd.f3.params.toList args.toList ds p := hA0
  rw [Tryd.params3] at hA hval
  obtain ⟨v0, vs0, d0, ds0, p0, q0, hargs, rfl, rfl, h0, r0⟩ := trodAll_cons hA
  obtain ⟨rfl, rfl, rfl⟩ := trodAll_nil r0
  obtain rfl : args = #[v0] := by cases args; simp_all
  obtain ⟨rfl, rfl⟩ := trodVars_none hV
  have k0 := h0
  have lt0 : ∀ x ∈ p0, x.block < W.heap.size := by obtain ⟨m, hm⟩ := k0; exact DataW.trod_lt m _ _ _ hm
  obtain ⟨c0f0, c0f1, c0f2, c0f3, y0f0, y0f1, y0f2, y0f3, m0, rfl, _, _, e0f0, e0f1, e0f2, e0f3⟩ := Joins.open_agg4 Tryd.underlying23 (by kernel_rfl) (show Tryd.prog.cellsOf 23 = 4 by kernel_rfl) (hval 0 23 v0 rfl rfl) h0
  obtain ⟨a0f0, q0f0, _, w0f0⟩ := DataW.trod_int Tryd.underlying5 e0f0
  obtain rfl : c0f0 = .int .u8 a0f0 := by simpa using q0f0
  obtain ⟨a0f1, q0f1, _, w0f1⟩ := DataW.trod_int Tryd.underlying5 e0f1
  obtain rfl : c0f1 = .int .u8 a0f1 := by simpa using q0f1
  obtain ⟨a0f2, q0f2, _, w0f2⟩ := DataW.trod_int Tryd.underlying5 e0f2
  obtain rfl : c0f2 = .int .u8 a0f2 := by simpa using q0f2
  obtain ⟨a0f3, q0f3, _, w0f3⟩ := DataW.trod_int Tryd.underlying21 e0f3
  obtain rfl : c0f3 = .int .i32 a0f3 := by simpa using q0f3
  clear hA0 hval0
  refine (walk a0f0 w0f0 a0f1 w0f1 a0f2 w0f2 a0f3 w0f3 W  (tabs_of_laid hL)).mono fun e W' ⟨he, bel0⟩ => ?_
  have bel : Below W.heap.size W W' := bel0
  subst he
  exact ⟨_, rfl, _, _, _, [], _, [], hW', trodAll_mk1 (shut_bool Tryd.underlying4 _), (trodAll_cons_mk (Below.trod laidOut (by kernel_rfl) (of_decide_eq_true (by kernel_rfl)) k0 bel lt0) trodAll_mk0), rfl, bel.frame _, fun h => by cases h⟩

theorem over : Rows.kindSetsRow.holds Tryd.pinned (OpenSpec.ofChange Rows.kindSetsSpec) :=
  OpenClaim.holds_of_wide 3 Tryd.f3 rfl rfl rfl rfl rfl rfl rfl ⟨rfl, rfl, rfl, rfl, rfl⟩ rfl rfl rfl rfl rfl (by kernel_rfl) Tryd.func3 (by kernel_rfl)
    (of_decide_eq_true (by kernel_rfl)) (by unfold Func.isWrapper; first | (rw [if_pos (by decide +kernel)]; kernel_rfl) | (rw [if_neg (by decide +kernel)]; exact ⟨rfl, rfl⟩))
    (fun os started H enc _ => lifted os started H enc)
end Go.Proofs.YtppcfhaiogjfgaaDoor.kindSets
namespace Go.Proofs.YtppcfhaiogjfgaaDoor

theorem kindSets_holds : Rows.KindSetsCardSaid :=
  Claim7.holds_tied_plain_at .later [] [.data, .data] true (true, "dcc5c0a8c2621bee4e9d18ea5a38d5e75f9257e1f8a7fff92252ec11809eac3a") false kindSets.over (fun _ h => by cases h) (by kernel_rfl) (fun _ h => by cases h) kindSets_row_tie rfl ⟨rfl, rfl⟩ (by kernel_rfl) rfl
    (fun f fn hf hfn => by
      obtain rfl : f = 3 := Option.some.inj ((show Tryd.prog.funcNamed "mummer/mummerlaw03.KindSets" = some 3 by kernel_rfl).symm.trans hf) |>.symm
      obtain rfl : fn = Tryd.f3 := (Option.some.inj (Tryd.func3.symm.trans hfn)).symm
      exact ⟨by kernel_rfl, fun j t ht => by
        rw [Tryd.params3] at ht
        have hm : t ∈ [23] := by simpa using Array.mem_of_getElem? ht
        have hall : ([23].all fun u => !Tryd.prog.wantsStandIn u) = true := by kernel_rfl
        exact (show Tryd.prog.wantsStandIn t = false by simpa using List.all_eq_true.1 hall t hm)⟩)
    (by kernel_rfl)
#print axioms kindSets_holds
end Go.Proofs.YtppcfhaiogjfgaaDoor
