/- Part of a proof. -/
import Derived.OwnWalk
import Derived.Test.YtojoobonienhnaaGreatDoorJ49
namespace Go.Proofs.YtojoobonienhnaaGreatDoor
open Go.RowKit
set_option linter.unusedVariables false
set_option linter.unusedSimpArgs false
theorem size_rr : (Tryz.prog.info? 84).map (·.size) = some 1 := by kernel_rfl
set_option maxHeartbeats 8000000 in
set_option maxRecDepth 100000 in
theorem rnew12_any {w : World} (n : Nat) (h1 : 1 ≤ n) (h2 : n ≤ 64) {xi : Option Addr} {Z : List Int} {li ci : Nat} (hl : Z.length = li) (hlc : li ≤ ci) (hmax : (ci : Int) ≤ 9223372036854775807) (hli : li ≤ 64 * n) (hi : Lies w xi (byt Z)) (s : Sta) {x : Option Addr} {ne cap : Nat} {E : List Ev} {y : Option Addr} {m c : Nat} {D : List Int} (I : ScrD w x ne cap E y m c D) (hm : m ≤ 2048) (hw : 2 ≤ w.heap.size) :
    Calls Tryz.prog 13 #[.int .i64 n, .slice xi li ci, .agg s.v, .slice x ne cap, .slice y m c] w fun e w' => ∃ q Rb G, e = .returned (mpt q) ∧ RMach w' q Rb (ms0 E D (imgL n Z) s) (.slice x ne cap) E G ∧ Kep w w' ∧ ∀ g ∈ Rb :: G, w.heap.size ≤ g := by
  have h1' : (1 : Int) ≤ n := by omega
  have h2' : (n : Int) ≤ 64 := by omega
  have HR : Hid (∀ w', Calls Tryz.prog 40 #[.int .i64 n] w' fun e w'' => e = .returned (refV (some ⟨w'.heap.size + 1, 0, none⟩) (64 * n)) ∧ Kep w' w'' ∧ w''.heap[w'.heap.size + 1]? = some (.cells (byt (List.replicate (64 * n) 0)).toArray 5 (0, 0))) := fun w' => refNew_any w' n h1' (by omega)
  have HF : Hid (∀ w' Rb, Kep w w' → w.heap.size ≤ Rb → w'.heap[Rb]? = some (.cells (byt (List.replicate (64 * n) 0)).toArray 5 (0, 0)) → Calls Tryz.prog 41 #[refV (some ⟨Rb, 0, none⟩) (64 * n), .int .u32 0, .slice xi li ci] w' fun e w'' => (∃ b, e = .returned (.bool b)) ∧ Put [Rb] w' w'' ∧ RowB w'' Rb (imgL n Z)) := fun w' Rb k hR h => by
    have h0 : (List.replicate (64 * n) (0 : Int)).length = 64 * n := by simp
    have R0 : Refd w' (some ⟨Rb, 0, none⟩) Rb (List.replicate (64 * n) 0) := ⟨fun _ => h, fun _ => rfl, by rw [h0]; omega⟩
    have := refFill_any w' _ Rb _ R0 0 (by omega) xi Z li ci hl hlc hmax (src_of hi k hR)
    rw [h0, if_pos (by omega), ← layL_range Z _ 0 h0 (by omega)] at this
    refine this.mono ?_
    rintro e w'' ⟨rfl, p, r⟩
    exact ⟨⟨_, rfl⟩, p, r⟩
  have HN : Hid (∀ w', Kep w w' → Calls Tryz.prog 42 #[.slice x ne cap, .slice y m c] w' fun e w'' => ∃ p F, e = .returned (mpt p) ∧ RDv w'' p (ds0 E D) (.slice x ne cap) E F ∧ Kep w' w'' ∧ ∀ g ∈ F, w'.heap.size ≤ g) := fun w' k => by
    have J := I.kep k
    have := rnew11_any w' x cap E y c D (by have := J.zl; omega) (by have := J.zl; have := J.zc; omega) J.zi
    rw [J.el, J.zl] at this
    exact this
  have wh := hidd hw
  have n1 := hidd h1
  have n2 := hidd h2
  clear hl hlc hmax hli hi I hm hw h1' h2' h1 h2
  obtain ⟨sb, qs⟩ : ∃ sb, Hid (sb = w.heap.size) := ⟨_, rfl⟩
  obtain ⟨W, hW⟩ : ∃ W, Hid (w.alloc (.cells s.v 26) = W) := ⟨_, rfl⟩
  have KW : Hid (Kep w W) := by rw [Hid, ← hW.out]; exact (Kep.refl w).alloc _
  have SW : Hid (W.heap[sb]? = some (.cells s.v 26 (0, 0))) := by rw [Hid, ← hW.out, qs.out]; exact hat _ _ _ rfl
  go_enter Tryz.func13, Tryz.ntmps13
  go_upto_region 1 with fail
  rw [hW.out, ← qs.out]
  go_upto_region 2 with (go_at_call 40; refine (HR.out _).mono ?_; rintro e w1 ⟨rfl, k1, r1⟩)
  have K1 := hidd (kep_trans KW.out k1)
  have S1 := hidd (k1.block SW.out)
  obtain ⟨rb, qr⟩ : ∃ rb, Hid (rb = W.heap.size + 1) := ⟨_, rfl⟩
  rw [← qr.out] at r1 ⊢
  have R1 := hidd r1
  have zr : Hid (w.heap.size ≤ rb ∧ sb < rb) := by have := KW.out.size; have := qr.out; have := block_lt SW.out; show _ ∧ _; omega
  clear k1 r1
  have K2 := hidd (K1.out.alloc (.cells #[rsl rb (64 * n)] 84))
  obtain ⟨hb, qh⟩ : ∃ hb, Hid (hb = w1.heap.size) := ⟨_, rfl⟩
  have H2 := hidd (show (w1.alloc (.cells #[rsl rb (64 * n)] 84)).heap[hb]? = some (.cells #[rsl rb (64 * n)] 84 (0, 0)) by rw [qh.out]; exact hat _ _ _ rfl)
  have S2 := hidd (((Kep.refl w1).alloc (.cells #[rsl rb (64 * n)] 84)).block S1.out)
  have R2 := hidd (((Kep.refl w1).alloc (.cells #[rsl rb (64 * n)] 84)).block R1.out)
  have zh : Hid (rb < hb) := by have := block_lt R1.out; have := qh.out; show _ < _; omega
  rw [← qh.out]
  generalize w1.alloc (.cells #[rsl rb (64 * n)] 84) = w2 at K2 H2 S2 R2 ⊢
  have c2 : w2.cell? ⟨hb, 0, none⟩ = some (rsl rb (64 * n)) := cell_of_block H2.out
  go_upto_region 3 with (go_at_call 41; refine (HF.out w2 rb K2.out zr.out.1 R2.out).mono ?_; rintro e V ⟨⟨b, rfl⟩, p3, r3⟩)
  have KV := hidd (K2.out.put p3 (by have := zr.out.1; simpa using this))
  have SV := hidd (p3.keeps S2.out (by have := zr.out.2; simp; omega))
  have HV := hidd (p3.keeps H2.out (by have := zh.out; simp; omega))
  have RV := hidd r3
  clear p3 r3 c2 H2 S2 R2
  refine wp_region_held_drew (S := fun w' => Kep V w') (by kernel_rfl) ((Kep.refl V).drew) (fun hH => ?_)
  refine wpAnyH_take (i := 0) (v := .slice x ne cap) rfl (by kernel_rfl) (by kernel_rfl) (by kernel_rfl) (fun _ _ _ h => h) (.inl ⟨by rfl, by intro w hS; go_simp⟩) hH ?_
  (try simp only [jA, jB, jC, Act.put, jD, jE, jF])
  refine wpAnyH_take (i := 1) (v := .slice y m c) rfl (by kernel_rfl) (by kernel_rfl) (by kernel_rfl) (fun _ _ _ h => h) (.inl ⟨by rfl, by intro w hS; go_simp⟩) hH ?_
  (try simp only [jA, jB, jC, Act.put, jD, jE, jF])
  refine wpAnyH_take (i := 3) (v := .agg #[rsl rb (64 * n)]) rfl (by kernel_rfl) (by kernel_rfl) (by kernel_rfl) (fun _ _ _ h => h) ((yields_row rfl 84 _ rfl hb rfl 84 _ (0, 0) _ (fun w hS => hS.block HV.out) Tryz.underlying84 rfl size_rr)) hH ?_
  (try simp only [jA, jB, jC, Act.put, jD, jE, jF])
  refine wpAnyH_take (i := 4) (v := .agg s.v) rfl (by kernel_rfl) (by kernel_rfl) (by kernel_rfl) (fun _ _ _ h => h) ((yields_row rfl 26 _ rfl sb rfl 26 _ (0, 0) _ (fun w hS => hS.block SV.out) Tryz.underlying26 rfl size_sta)) hH ?_
  (try simp only [jA, jB, jC, Act.put, jD, jE, jF])
  refine wpAnyH_ready (rs := [2]) (by kernel_rfl) (by simp) ?_
  refine AllReadyH.cons rfl (fun K hK => ?_) AllReadyH.nil
  rw [if_pos (by rfl)]
  go_simp
  refine (HN.out _ (kep_trans KV.out hH)).mono ?_
  rintro e w4 ⟨d, F, rfl, d4, k4, f4⟩
  refine hK.out _ _ (kep_trans hH k4) (fun hH2 => ?_)
  clear hK K
  (try simp only [jA, jB, jC, Act.put, jD, jE, jF])
  have D4 := hidd d4
  have F4 : Hid (∀ g ∈ F, V.heap.size ≤ g) := fun g hg => by have := f4 g hg; have := hH.size; omega
  clear d4 f4 k4
  have hH4 := hidd hH2
  have hH := hH2
  clear hH2
  refine wpAnyH_take (i := 5) (v := .agg (mchV (mpt d) (rsl rb (64 * n)) s 0 (.slice none 0 0))) rfl (by kernel_rfl) (by kernel_rfl) (by kernel_rfl) (fun _ _ _ h => h) (.inl ⟨by rfl, by intro w hS; kernel_rfl⟩) hH ?_
  (try simp only [jA, jB, jC, Act.put, jD, jE, jF])
  obtain ⟨VM, hVM⟩ : ∃ VM, Hid (mchV (mpt d) (rsl rb (64 * n)) s 0 (.slice none 0 0) = VM) := ⟨_, rfl⟩
  rw [hVM.out]
  refine wpAnyH_ready (rs := [6]) (by kernel_rfl) (by simp) ?_
  refine AllReadyH.cons rfl (fun K hK => ?_) AllReadyH.nil
  rw [if_pos (by rfl)]
  go_simp
  refine hK.out _ _ (hH.alloc _) (fun hH => ?_)
  clear hK K
  (try simp only [jA, jB, jC, Act.put, jD, jE, jF])
  refine wpAnyH_take (i := 7) (v := mpt w4.heap.size) rfl (by kernel_rfl) (by kernel_rfl) (by kernel_rfl) (fun _ _ _ h => h) (.inl ⟨by rfl, by intro w hS; go_simp⟩) hH ?_
  (try simp only [jA, jB, jC, Act.put, jD, jE, jF])
  refine wpAnyH_done (by kernel_rfl) ?_ _
  have B5 := hidd (hat w4 (.cells VM 86) w4.heap.size rfl)
  have k5 := hidd ((Kep.refl w4).alloc (.cells VM 86))
  rw [← hVM.out] at B5 k5 hH ⊢
  have z4 : Hid (V.heap.size ≤ w4.heap.size) := hH4.out.size
  generalize w4.alloc (.cells (mchV (mpt d) (rsl rb (64 * n)) s 0 (.slice none 0 0)) 86) = w5 at B5 k5 hH ⊢
  go_wp2_with fail
  go_ret
  have zV := KV.out.size
  have zb := block_lt (show V.heap[rb]? = some _ from RV.out (fun e => by have := imgL_len n Z; rw [e] at this; simp at this; have := n1.out; omega))
  have eB : (imgL n Z).length = 64 * n := imgL_len n Z
  have low : ∀ g ∈ w4.heap.size :: (F ++ []), V.heap.size ≤ g := fun g hg => by
    simp only [List.append_nil, List.mem_cons] at hg
    rcases hg with rfl | hg
    · exact z4.out
    · exact F4.out g hg
  refine ⟨w4.heap.size, rb, w4.heap.size :: (F ++ []), rfl, ⟨d, .slice none 0 0, F, [], ⟨?_, D4.out.kep k5.out, Sli.nil _ _ _, RV.out.kep hH, ?_, fun hm => ?_, fun hm => ?_, by simp, by simp, fun g hg => ?_⟩, rfl⟩, kep_trans KV.out hH, fun g hg => ?_⟩
  · show RBx w5 _ _ (rsl rb (imgL n Z).length) _ _ _
    rw [eB]; exact B5.out
  · show ((imgL n Z).length : Int) ≤ 32768
    have := n2.out; omega
  · have := low rb hm; omega
  · have := D4.out.lt _ hm; omega
  · have := wh.out
    rcases List.mem_cons.1 hg with rfl | hg
    · have := zr.out.1; omega
    · have := low g hg; omega
  · rcases List.mem_cons.1 hg with rfl | hg
    · exact zr.out.1
    · have := low g hg; omega
theorem enc_byts (r : Nat) (op a b imm : Int) (h0 : 0 ≤ op ∧ op < 256) (ha : 0 ≤ a ∧ a ≤ 7) (hb : 0 ≤ b ∧ b ≤ 7) : Byts (encL r op a b imm) := by
  intro n hn
  unfold encL preL at hn
  rw [List.mem_append] at hn
  rcases hn with hn | hn
  · split at hn
    · simp only [List.mem_cons, List.not_mem_nil, or_false] at hn
      rcases hn with rfl | rfl <;> omega
    · simp only [List.mem_cons, List.not_mem_nil, or_false] at hn
      subst hn; omega
  · obtain ⟨j, _, rfl⟩ := List.mem_map.1 hn
    unfold byteAt; omega
theorem codL_byts : ∀ (C : List In4) (x : List Int × Nat), (∀ i ∈ C, In4.Ok i) → Byts x.1 → Byts (codL C x).1
  | [], x, _, h => h
  | i :: r, x, hC, h => by
    have hi := hC i (by simp)
    refine codL_byts r (codS x i) (fun j hj => hC j (by simp [hj])) ?_
    unfold codS
    split
    · rename_i hm
      obtain ⟨h0, h1, h2⟩ := may3 hm
      obtain ⟨f1, f2⟩ := f12_le (rowOf_lt i.1 false)
      obtain ⟨o, a, b, _⟩ := hi
      exact layE_byts _ _ _ h (enc_byts _ _ _ _ _ o ⟨a.1, by omega⟩ ⟨b.1, by omega⟩)
    · exact h
theorem gstL_byts {fr : Int} {Z : List Int} {C : List In4} {en : Int} (hZ : Byts Z) (hC : ∀ i ∈ C, In4.Ok i) : Byts (gstL fr Z C en) := by
  unfold gstL
  refine codL_byts _ _ (fun i hi => hC i (List.mem_of_mem_take hi)) ?_
  intro n hn
  unfold cpyL at hn
  rcases List.mem_append.1 hn with hn | hn
  · exact hZ n (List.mem_of_mem_take (List.mem_of_mem_take hn))
  · have := List.eq_of_mem_replicate hn; omega
theorem imgL_all {n : Nat} {Z : List Int} (h : Z.length = 64 * n) : imgL n Z = Z := by
  unfold imgL
  rw [layL_range Z _ 0 (by simp) (by omega)]
  unfold splice
  simp [h]
theorem lies_row {w : World} {rb : Nat} {B : List Int} (h : RowB w rb B) (hB : B ≠ []) : Lies w (some ⟨rb, 0, none⟩) (byt B) := by
  refine .inr ⟨rb, 0, rfl, h.lt hB, fun j u hj => ?_⟩
  rw [Nat.zero_add, cell_of_block (h hB), ← hj]
  simp
theorem errI_small {E : List Ev} {D : List Int} (h : errI E D = 0) : E.length ≤ 64 ∧ D.length ≤ 2048 := by
  unfold errI at h
  split at h
  · simp at h
  · omega
theorem psB_msk (x : Int) (h : 0 ≤ x ∧ x < 4294967296) : psB (mskI x) = true := by unfold psB mskI; simp; omega
theorem msk_ok {s : Sta} (h : s.Ok) : (s.mark (mskI s.ps)).Ok := ⟨h.r, h.pc, msk_range _ h.ps, h.c⟩
def gstX (fr : Int) (Z : List Int) (C : List In4) (en : Int) (s : Sta) (E : List Ev) (D : List Int) : MS := ms0 E D (gstL fr Z C en) (s.mark (mskI s.ps))
structure Pair (w w' : World) (n : Nat) (x : MS) (vS : Value) (E : List Ev) (p pm R : Nat) (G : List Nat) (q Rb : Nat) (G2 : List Nat) : Prop where
  mch : Mach w' p pm R (List.range n) x G
  ref : RMach w' q Rb x vS E G2
  kep : Kep w w'
  new : ∀ g ∈ R :: G, w.heap.size ≤ g
  rnew : ∀ g ∈ Rb :: G2, w.heap.size ≤ g
  far : ∀ g ∈ Rb :: G2, g ∉ R :: G
  off : Off w' (mpt pm) (Rb :: G2)
def MadeP (w : World) (n : Nat) (x : MS) (vS : Value) (E : List Ev) (D : List Int) (e : Ending) (w' : World) : Prop :=
  (errI E D ≠ 0 ∧ e = .returned (.tuple #[.pointer none, .pointer none, .bool true]) ∧ Kep w w') ∨
  (errI E D = 0 ∧ ∃ p pm R G q Rb G2, e = .returned (.tuple #[mpt p, mpt q, .bool true]) ∧ Pair w w' n x vS E p pm R G q Rb G2)
theorem off_new {w : World} {v : Value} {R : Nat} {ix l : List Nat} (hr : Ram w v R ix) (h : ∀ g ∈ l, w.heap.size ≤ g) : Off w v l := by
  intro p e
  rcases hr with ⟨_, hn⟩ | ⟨_, q, eq, hq, _⟩ | ⟨q, F, eq, hq, hF, _, _, _⟩
  · rw [e] at hn; cases hn
  · rw [eq] at e; cases e
    refine ⟨fun hm => by have := h _ hm; have := block_lt hq; omega, fun F n c hc => ?_⟩
    rw [cell_of_block hq] at hc; cases hc
  · rw [eq] at e; cases e
    refine ⟨fun hm => by have := h _ hm; have := block_lt hq; omega, fun F' n c hc hm => ?_⟩
    rw [cell_of_block hq] at hc; cases hc
    have := h _ hm; have := block_lt hF; omega
theorem Mach.ram {w : World} {p pm R : Nat} {ix : List Nat} {x : MS} {G : List Nat} (h : Mach w p pm R ix x G) : Ram w (mpt pm) R ix := by
  obtain ⟨_, _, _, _, h, _⟩ := h
  exact h.mem.ram
theorem Mach.below {w : World} {p pm R : Nat} {ix : List Nat} {x : MS} {G : List Nat} (h : Mach w p pm R ix x G) (hB : x.B ≠ []) : ∀ g ∈ R :: G, g < w.heap.size := by
  obtain ⟨q, vn, Fd, Fn, h, rfl⟩ := h
  intro g hg
  simp only [List.mem_cons, List.mem_append] at hg
  rcases hg with rfl | rfl | hg | hg
  · exact h.mem.row.lt hB
  · exact h.box.lt
  · exact h.dev.lt g hg
  · exact h.nts.lt g hg
set_option maxHeartbeats 16000000 in
set_option maxRecDepth 100000 in
theorem made12_any {w : World} {fr : Int} {xi : Option Addr} {li ci : Nat} {Z : List Int} {xc : Option Addr} {lc cc : Nat} {C : List In4} {en : Int} {s : Sta} {xs : Option Addr} {ls cs : Nat} {E : List Ev} {xd : Option Addr} {ld cd : Nat} {D : List Int} (I : GstIn w fr xi li ci Z xc lc cc C en s xs ls cs E xd ld cd D) (hfr : -9223372036854775808 ≤ fr ∧ fr ≤ 9223372036854775807) (hT : Tabs w) :
    Calls Tryz.prog 14 #[.agg (gstV fr (.slice xi li ci) (.slice xc lc cc) en s (.slice xs ls cs) (.slice xd ld cd))] w (MadeP w (nFr fr) (gstX fr Z C en s E D) (.slice xs ls cs) E D) := by
  have I' := hidd I
  have T' := hidd hT
  have F' := hidd hfr
  obtain ⟨V, hV⟩ : ∃ V, Hid (gstV fr (.slice xi li ci) (.slice xc lc cc) en s (.slice xs ls cs) (.slice xd ld cd) = V) := ⟨_, rfl⟩
  have HL : Hid (∀ w', Kep w w' → Calls Tryz.prog 43 #[.agg V] w' fun e w'' => ∃ rb, e = .returned (.tuple #[.slice (some ⟨rb, 0, none⟩) (64 * nFr fr) (64 * nFr fr), .int .i64 (nFr fr)]) ∧ RowB w'' rb (gstL fr Z C en) ∧ Kep w' w'' ∧ w'.heap.size ≤ rb) := fun w' k => by rw [← hV.out]; exact laid_any (I'.out.kep k) F'.out
  rw [hV.out]
  have CV : Hid (∀ (w' : World) g, w'.heap[g]? = some (.cells V 41 (0, 0)) → w'.cell? ⟨g, 23, none⟩ = some (.slice xs ls cs) ∧ w'.cell? ⟨g, 24, none⟩ = some (.slice xd ld cd) ∧ w'.rangeAt g 4 s.v.toList) := fun w' g h => by
    rw [← hV.out] at h
    obtain ⟨_, _, _, _, a, b⟩ := gst_cells h
    refine ⟨a, b, fun j v hv => ?_⟩
    have hj : j < s.v.toList.length := (List.getElem?_eq_some_iff.1 hv).1
    rw [cell_of_block h, ← Array.getElem?_toList, show (gstV fr (.slice xi li ci) (.slice xc lc cc) en s (.slice xs ls cs) (.slice xd ld cd)).toList = [.int .i64 fr, .slice xi li ci, .slice xc lc cc, .int .u16 en] ++ (s.v.toList ++ [.slice xs ls cs, .slice xd ld cd]) from rfl, List.getElem?_append_right (by simp), List.getElem?_append_left (by simpa using hj), ← hv]
    congr 1
    simp
  clear I hT hfr
  go_enter Tryz.func14, Tryz.ntmps14
  go_upto_region 1 with fail
  obtain ⟨i1, q1⟩ : ∃ i1, Hid (i1 = w.heap.size) := ⟨_, rfl⟩
  rw [← q1.out]
  have B1 := hidd (show (w.alloc (.cells V 41)).heap[i1]? = some (.cells V 41 (0, 0)) by rw [q1.out]; exact hat _ _ _ rfl)
  have K1 := hidd ((Kep.refl w).alloc (.cells V 41))
  generalize w.alloc (.cells V 41) = W at B1 K1 ⊢
  refine wp_region_lit ?_
  refine wpList_load_row (by rfl) 41 _ (by rfl) i1 (by rfl) 41 _ (0, 0) _ B1.out Tryz.underlying41 rfl (by rw [← hV.out]; kernel_rfl) ?_
  go_upto_region 2 with (go_at_call 43; refine (HL.out W K1.out).mono ?_; rintro e w1 ⟨rb, rfl, r1, k1, z1⟩)
  have hZl := hidd (gstL_len fr Z C en)
  have hZb := hidd (gstL_byts (fr := fr) (en := en) I'.out.ib I'.out.ko)
  have nr := hidd (nFr_range fr)
  have K2 := hidd (kep_trans K1.out k1)
  have B2 := hidd (k1.block B1.out)
  have R2 := hidd r1
  have Z2 := hidd (show w.heap.size ≤ rb by have := K1.out.size; omega)
  have L2 := hidd (CV.out w1 i1 B2.out).2.2
  clear r1 k1 z1 B1 K1 HL
  go_upto_region 3 with (first
    | (refine load_sta (by rfl) _ (by rfl) i1 4 (by rfl) s L2.out ?_)
    | (refine wpList_store_row (by rfl) 26 _ _ (by rfl) w1.heap.size s.v (by rfl) (by rfl) 26 z19 (hat _ _ _ rfl) (by exact size_sta) (by rfl) (v_one _) ?_))
  obtain ⟨i2, q2⟩ : ∃ i2, Hid (i2 = w1.heap.size) := ⟨_, rfl⟩
  rw [← q2.out]
  have A3 : Hid (At ((w1.alloc (.cells z19 26)).setRow i2 s.v) i2 s) := by rw [q2.out]; exact setRow_heap _ _ _ _ _ _ (hat _ _ _ rfl)
  have k3 : Hid (Kep w1 ((w1.alloc (.cells z19 26)).setRow i2 s.v)) := ((Kep.refl w1).alloc _).setRow _ _ (by rw [q2.out]; exact Nat.le_refl _)
  generalize (w1.alloc (.cells z19 26)).setRow i2 s.v = W3 at A3 k3 ⊢
  have ps3 : W3.cell? ⟨i2, 9, none⟩ = some (.int .u32 s.ps) := A3.out.ps
  have nf3 : W3.frozen? ⟨i2, 9, none⟩ = false := frozen_of_row _ _ _ _ _ A3.out
  have okps := I'.out.so.ps
  have mi := msk_is s.ps okps
  go_upto_region 4 with fail
  (try rw [mi])
  have A4 := hidd (A3.out.setPs (mskI s.ps))
  have k4 : Hid (Kep w1 (W3.setCell ⟨i2, 9, none⟩ (.int .u32 (mskI s.ps)))) := k3.out.setCell (by rw [q2.out]; exact Nat.le_refl _) _
  generalize W3.setCell ⟨i2, 9, none⟩ (.int .u32 (mskI s.ps)) = W4 at A4 k4 ⊢
  have K4 := hidd (kep_trans K2.out k4.out)
  have B4 := hidd (k4.out.block B2.out)
  have R4 := hidd (R2.out.kep k4.out)
  obtain ⟨cs4, cd4, _⟩ := CV.out W4 i1 B4.out
  obtain ⟨T, hT⟩ : ∃ T, Hid (s.mark (mskI s.ps) = T) := ⟨_, rfl⟩
  have okT : Hid T.Ok := by rw [Hid, ← hT.out]; exact msk_ok I'.out.so
  have psT : Hid (psB T.ps = true) := by rw [Hid, ← hT.out]; exact psB_msk _ okps
  obtain ⟨B, hB⟩ : ∃ B, Hid (gstL fr Z C en = B) := ⟨_, rfl⟩
  obtain ⟨n, hn⟩ : ∃ n, Hid (nFr fr = n) := ⟨_, rfl⟩
  have eX : Hid (gstX fr Z C en s E D = ms0 E D B T) := by rw [Hid, ← hB.out, ← hT.out]; rfl
  rw [hT.out] at A4
  rw [eX.out]
  simp only [hB.out, hn.out] at R4 hZl hZb nr ⊢
  clear A3 k3 ps3 nf3 mi K2 R2 L2
  have bne : Hid (B ≠ []) := fun e => by have := hZl.out; rw [e] at this; simp at this; have := nr.out.1; omega
  have LB := hidd (lies_row R4.out bne.out)
  have SD := hidd (I'.out.sd.kep K4.out)
  have HE : Hid (∀ w', Kep W4 w' → Calls Tryz.prog 10 #[.int .i64 n, .slice (some ⟨rb, 0, none⟩) (64 * n) (64 * n), .agg T.v, .slice xs ls cs, .slice xd ld cd] w' fun e w'' => e = .returned (.int .i64 (errI E D)) ∧ Kep w' w'') := fun w' k => by
    have h := rerr_any (w := w') (n : Int) (xi := some ⟨rb, 0, none⟩) (li := 64 * n) (ci := 64 * n) (Nat.le_refl _) (by have := nr.out.2; omega) T okT.out (SD.out.kep k) I'.out.ev
    have e1 : errM n (64 * n : Nat) T.ps E D = errI E D := by
      have := nr.out
      unfold errM
      rw [if_neg (by omega), if_neg (by omega), if_neg (by rw [psT.out]; simp)]
    rw [e1] at h
    exact h
  by_cases he : errI E D = 0
  · have HN : Hid (Calls Tryz.prog 9 #[.int .i64 n, .slice (some ⟨rb, 0, none⟩) (64 * n) (64 * n), .agg T.v, .slice xs ls cs, .slice xd ld cd] W4 fun e w' => ∃ p pm R G, e = .returned (.tuple #[mpt p, .int .i64 0]) ∧ Mach w' p pm R (List.range n) (ms0 E D B T) G ∧ Kep W4 w' ∧ ∀ g ∈ R :: G, W4.heap.size ≤ g) := by
      have h := mnew_ok (w := W4) n nr.out.1 (by have := nr.out.2; omega) (xi := some ⟨rb, 0, none⟩) (Z := B) (li := 64 * n) (ci := 64 * n) hZl.out (Nat.le_refl _) (by have := nr.out.2; omega) hZb.out (Nat.le_refl _) LB.out T okT.out psT.out SD.out he (T'.out.grown K4.out)
      rw [imgL_all hZl.out] at h
      exact h
    have HR : Hid (∀ w', Kep W4 w' → Calls Tryz.prog 13 #[.int .i64 n, .slice (some ⟨rb, 0, none⟩) (64 * n) (64 * n), .agg T.v, .slice xs ls cs, .slice xd ld cd] w' fun e w'' => ∃ q Rb G, e = .returned (mpt q) ∧ RMach w'' q Rb (ms0 E D B T) (.slice xs ls cs) E G ∧ Kep w' w'' ∧ ∀ g ∈ Rb :: G, w'.heap.size ≤ g) := fun w' k => by
      have h := rnew12_any (w := w') n nr.out.1 (by have := nr.out.2; omega) (xi := some ⟨rb, 0, none⟩) (Z := B) (li := 64 * n) (ci := 64 * n) hZl.out (Nat.le_refl _) (by have := nr.out.2; omega) (Nat.le_refl _) (LB.out.kep k) T (SD.out.kep k) (by have := (errI_small he).2; have := SD.out.zl; omega) (by have := (tabs_size T'.out).2; have := K4.out.size; have := k.size; omega)
      rw [imgL_all hZl.out] at h
      exact h
    go_upto_region 5 with (first
      | (refine wpList_load_row (by rfl) 26 _ (by rfl) i2 (by rfl) 26 _ (0, 0) _ A4.out Tryz.underlying26 rfl (by exact size_sta) ?_)
      | (go_at_call 9; refine HN.out.mono ?_; rintro e w5 ⟨p, pm, R, G, rfl, m5, k5, f5⟩))
    have K5 := hidd k5
    have M5 := hidd m5
    have F5 := hidd f5
    have A5 := hidd (A4.out.kep k5)
    obtain ⟨cs5, cd5, _⟩ := CV.out w5 i1 (k5.block B4.out)
    clear k5 m5 f5 HN cs4 cd4 A4
    go_upto_region 6 with (first
      | (refine wpList_load_row (by rfl) 26 _ (by rfl) i2 (by rfl) 26 _ (0, 0) _ A5.out Tryz.underlying26 rfl (by exact size_sta) ?_)
      | (go_at_call 10; refine (HE.out _ K5.out).mono ?_; rintro e w6 ⟨rfl, k6⟩))
    (try rw [he])
    have K6 := hidd (kep_trans K5.out k6)
    have M6 := hidd (M5.out.kep k6)
    have F6 := hidd F5.out
    have A6 := hidd (A5.out.kep k6)
    obtain ⟨cs6, cd6, _⟩ := CV.out w6 i1 (K6.out.block B4.out)
    clear k6 M5 F5 A5 cs5 cd5 HE K5
    go_wp2_with (first
      | (refine wpList_load_row (by rfl) 26 _ (by rfl) i2 (by rfl) 26 _ (0, 0) _ A6.out Tryz.underlying26 rfl (by exact size_sta) ?_)
      | (go_at_call 13; refine (HR.out _ K6.out).mono ?_; rintro e w7 ⟨q, Rb, G2, rfl, m7, k7, f7⟩))
    go_ret3
    have m6b := M6.out.below bne.out
    have f6 := F6.out
    have z4 := K4.out.size
    have z6 := K6.out.size
    refine .inr ⟨he, p, pm, R, G, q, Rb, G2, rfl, ⟨by rw [hn.out, eX.out]; exact M6.out.kep k7, by rw [eX.out]; exact m7, kep_trans (kep_trans K4.out K6.out) k7, fun g hg => ?_, fun g hg => ?_, fun g hg hm => ?_, ?_⟩⟩
    · have := f6 g hg; omega
    · have := f7 g hg; omega
    · have := f7 g hg; have := m6b g hm; omega
    · exact Off.stay (m := []) M6.out.ram (off_new M6.out.ram f7) (Put.of_kep k7) (fun p e => ⟨by simp, by simp⟩)
  · have HN : Hid (Calls Tryz.prog 9 #[.int .i64 n, .slice (some ⟨rb, 0, none⟩) (64 * n) (64 * n), .agg T.v, .slice xs ls cs, .slice xd ld cd] W4 fun e w' => e = .returned (.tuple #[.pointer none, .int .i64 (errI E D)]) ∧ Kep W4 w') := by
      have h := mnew_no (w := W4) n nr.out.1 (by have := nr.out.2; omega) (xi := some ⟨rb, 0, none⟩) (Z := B) (li := 64 * n) (ci := 64 * n) hZl.out (Nat.le_refl _) (by have := nr.out.2; omega) hZb.out (Nat.le_refl _) LB.out T okT.out SD.out (.inr he)
      rw [if_neg (by rw [psT.out]; simp)] at h
      exact h
    have HW : Hid (∀ w', Kep W4 w' → Calls Tryz.prog 11 #[] w' fun e w'' => e = .returned (.bool true) ∧ Kep w' w'') := fun w' k => works12_any w' (T'.out.grown (kep_trans K4.out k))
    obtain ⟨ei, hei⟩ : ∃ ei, Hid (errI E D = ei) := ⟨_, rfl⟩
    simp only [hei.out] at HN HE he
    go_upto_region 5 with (first
      | (refine wpList_load_row (by rfl) 26 _ (by rfl) i2 (by rfl) 26 _ (0, 0) _ A4.out Tryz.underlying26 rfl (by exact size_sta) ?_)
      | (go_at_call 9; refine HN.out.mono ?_; rintro e w5 ⟨rfl, k5⟩))
    have K5 := hidd k5
    have A5 := hidd (A4.out.kep k5)
    obtain ⟨cs5, cd5, _⟩ := CV.out w5 i1 (k5.block B4.out)
    clear k5 HN cs4 cd4 A4
    go_upto_region 6 with (first
      | (refine wpList_load_row (by rfl) 26 _ (by rfl) i2 (by rfl) 26 _ (0, 0) _ A5.out Tryz.underlying26 rfl (by exact size_sta) ?_)
      | (go_at_call 10; refine (HE.out _ K5.out).mono ?_; rintro e w6 ⟨rfl, k6⟩))
    have K6 := hidd (kep_trans K5.out k6)
    clear k6 A5 cs5 cd5 HE K5
    have hne : (ei == 0) = false := by simpa using he
    go_wp2_with (first
      | (go_at_call 11; refine (HW.out _ K6.out).mono ?_; rintro e w7 ⟨rfl, k7⟩))
    go_ret3
    exact .inl ⟨by rw [hei.out]; exact he, rfl, kep_trans (kep_trans K4.out K6.out) k7⟩
end Go.Proofs.YtojoobonienhnaaGreatDoor
