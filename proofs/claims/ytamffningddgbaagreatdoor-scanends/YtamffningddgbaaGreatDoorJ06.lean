/- Part of a proof. -/
import Derived.Laws.Slices
import Derived.Test.YtamffningddgbaaGreatDoorJ05
namespace Go.Proofs.YtamffningddgbaaGreatDoor
open Go.RowKit
set_option linter.unusedVariables false
set_option linter.unusedSimpArgs false
def gstV (fr : Int) (vi vc : Value) (en : Int) (s : Sta) (vs vd : Value) : Array Value := #[.int .i64 fr, vi, vc, .int .u16 en,
  .int .u32 (s.r 0), .int .u32 (s.r 1), .int .u32 (s.r 2), .int .u32 (s.r 3), .int .u32 (s.r 4), .int .u32 (s.r 5), .int .u32 (s.r 6), .int .u32 (s.r 7), .int .u32 s.pc, .int .u32 s.ps,
  .int .u32 (s.c 0), .int .u32 (s.c 1), .int .u32 (s.c 2), .int .u32 (s.c 3), .int .u32 (s.c 4), .int .u32 (s.c 5), .int .u32 (s.c 6), .int .u32 (s.c 7), .bool s.h, vs, vd]
structure GstIn (w : World) (fr : Int) (xi : Option Addr) (li ci : Nat) (Z : List Int) (xc : Option Addr) (lc cc : Nat) (C : List In4) (en : Int) (s : Sta) (xs : Option Addr) (ls cs : Nat) (E : List Ev) (xd : Option Addr) (ld cd : Nat) (D : List Int) : Prop where
  il : Z.length = li
  ic : li ≤ ci
  im : (ci : Int) ≤ 9223372036854775807
  ii : Lies w xi (byt Z)
  ib : Byts Z
  kl : C.length = lc
  kc : lc ≤ cc
  km : (cc : Int) ≤ 9223372036854775807
  ki : Lies w xc (inss C)
  ko : ∀ i ∈ C, In4.Ok i
  eo : 0 ≤ en ∧ en < 65536
  so : s.Ok
  sd : ScrD w xs ls cs E xd ld cd D
  ev : ∀ e ∈ E, 0 ≤ e.2.2 ∧ e.2.2 < 256
  db : Byts D
theorem GstIn.kep {w w' : World} {fr : Int} {xi : Option Addr} {li ci : Nat} {Z : List Int} {xc : Option Addr} {lc cc : Nat} {C : List In4} {en : Int} {s : Sta} {xs : Option Addr} {ls cs : Nat} {E : List Ev} {xd : Option Addr} {ld cd : Nat} {D : List Int} (h : GstIn w fr xi li ci Z xc lc cc C en s xs ls cs E xd ld cd D) (k : Kep w w') : GstIn w' fr xi li ci Z xc lc cc C en s xs ls cs E xd ld cd D :=
  ⟨h.il, h.ic, h.im, h.ii.kep k, h.ib, h.kl, h.kc, h.km, h.ki.kep k, h.ko, h.eo, h.so, h.sd.kep k, h.ev, h.db⟩
theorem gst_cells {w : World} {g : Nat} {fr : Int} {vi vc : Value} {en : Int} {s : Sta} {vs vd : Value} (h : w.heap[g]? = some (.cells (gstV fr vi vc en s vs vd) 31 (0, 0))) :
    w.cell? ⟨g, 0, none⟩ = some (.int .i64 fr) ∧ w.cell? ⟨g, 1, none⟩ = some vi ∧ w.cell? ⟨g, 2, none⟩ = some vc ∧ w.cell? ⟨g, 3, none⟩ = some (.int .u16 en) ∧ w.cell? ⟨g, 23, none⟩ = some vs ∧ w.cell? ⟨g, 24, none⟩ = some vd :=
  ⟨cell_of_block h, cell_of_block h, cell_of_block h, cell_of_block h, cell_of_block h, cell_of_block h⟩
theorem cpy_end {n : Nat} {Z : List Int} {k : Nat} (h : k = Z.length ∨ (k = n ∧ n ≤ Z.length)) : cpyL n Z k = cpyL n Z Z.length := by
  rcases h with rfl | ⟨rfl, h⟩
  · rfl
  · unfold cpyL
    rw [List.take_take, Nat.min_self, List.take_length]
    have e1 : k - min k Z.length = 0 := by omega
    have e2 : k - min Z.length Z.length = 0 := by omega
    rw [e1, e2]
theorem f12_le {r : Nat} (hr : r < 10) : f1 r ≤ 7 ∧ f2 r ≤ 7 := by
  refine ten (p := fun r => f1 r ≤ 7 ∧ f2 r ≤ 7) r hr ?_ ?_ ?_ ?_ ?_ ?_ ?_ ?_ ?_ ?_ <;> decide
theorem may3 {r : Nat} {a b imm : Int} (h : mayB r a b imm = true) : r ≠ 0 ∧ a ≤ f1 r ∧ b ≤ f2 r := by
  unfold mayB at h
  simp at h
  exact ⟨h.1, h.2.1.1.1, h.2.1.1.2⟩
theorem encL_le {r : Nat} (hr : r < 10) (op a b imm : Int) : (encL r op a b imm).length ≤ 8 := by
  have := f3_range r hr
  unfold encL preL
  simp only [List.length_append, List.length_map, List.length_range]
  split <;> simp <;> omega
theorem frm_is (fr : Int) : wrap64 (1 + wrap64 ((IntKind.u64.wrap fr).tmod 24)) = (nFr fr : Int) := by
  have e : IntKind.u64.wrap fr = fr % 18446744073709551616 := by simp [IntKind.wrap, IntKind.bits, IntKind.signed]
  have h0 : 0 ≤ fr % 18446744073709551616 := by omega
  rw [e, Int.tmod_eq_emod_of_nonneg h0]
  unfold nFr wrap64
  omega
def LI (W : World) (rb : Nat) (B : List Int) (wr : World) : Prop := Put [rb] W wr ∧ wr.heap[rb]? = some (.cells (byt B).toArray 5 (0, 0))
theorem LI.set {W wr : World} {rb : Nat} {B : List Int} (h : LI W rb B wr) (k : Nat) (z : Int) : LI W rb (B.set k z) (wr.setCell ⟨rb, k, none⟩ (.int .u8 z)) := by
  refine ⟨h.1.setCell (by simp) _, ?_⟩
  rw [heap_setCell_row h.2, ← byt_set]
  simp
theorem LI.kep {W wr w' : World} {rb : Nat} {B : List Int} (h : LI W rb B wr) (k : Kep wr w') : LI W rb B w' := ⟨h.1.trans (Put.of_kep k), k.block h.2⟩
set_option maxHeartbeats 16000000 in
set_option maxRecDepth 100000 in
theorem laid_any {w : World} {fr : Int} {xi : Option Addr} {li ci : Nat} {Z : List Int} {xc : Option Addr} {lc cc : Nat} {C : List In4} {en : Int} {s : Sta} {xs : Option Addr} {ls cs : Nat} {E : List Ev} {xd : Option Addr} {ld cd : Nat} {D : List Int} (I : GstIn w fr xi li ci Z xc lc cc C en s xs ls cs E xd ld cd D) (hfr : -9223372036854775808 ≤ fr ∧ fr ≤ 9223372036854775807) :
    Calls Tryz.prog 15 #[.agg (gstV fr (.slice xi li ci) (.slice xc lc cc) en s (.slice xs ls cs) (.slice xd ld cd))] w fun e w' => ∃ rb, e = .returned (.tuple #[.slice (some ⟨rb, 0, none⟩) (64 * nFr fr) (64 * nFr fr), .int .i64 (nFr fr)]) ∧ RowB w' rb (gstL fr Z C en) ∧ Kep w w' ∧ w.heap.size ≤ rb := by
  have I' := hidd I
  obtain ⟨V, hV⟩ : ∃ V, Hid (gstV fr (.slice xi li ci) (.slice xc lc cc) en s (.slice xs ls cs) (.slice xd ld cd) = V) := ⟨_, rfl⟩
  rw [hV.out]
  have CV : Hid (∀ (w' : World) g, w'.heap[g]? = some (.cells V 31 (0, 0)) → w'.cell? ⟨g, 0, none⟩ = some (.int .i64 fr) ∧ w'.cell? ⟨g, 1, none⟩ = some (.slice xi li ci) ∧ w'.cell? ⟨g, 2, none⟩ = some (.slice xc lc cc) ∧ w'.cell? ⟨g, 3, none⟩ = some (.int .u16 en)) := fun w' g h => by
    rw [← hV.out] at h
    obtain ⟨a, b, c, d, _⟩ := gst_cells h
    exact ⟨a, b, c, d⟩
  have hn : Hid (nFr fr = 1 + (fr % 18446744073709551616 % 24).toNat) := rfl
  obtain ⟨n, hnn⟩ : ∃ n, Hid (nFr fr = n) := ⟨_, rfl⟩
  have hr := nFr_range fr
  rw [hnn.out] at hr ⊢
  have hn1 : (1 : Int) ≤ n := by omega
  have hn2 : (n : Int) ≤ 24 := by omega
  have hm : (n * 64 : Nat) ≤ 140737488355328 := by omega
  have mk := make_row (n * 64) hm
  have hf0 : 0 ≤ fr % 18446744073709551616 % 24 ∧ fr % 18446744073709551616 % 24 < 24 := by omega
  have hf1 : Hid ((n : Int) = 1 + fr % 18446744073709551616 % 24) := by rw [Hid, ← hnn.out, hn.out]; omega
  clear hr hm hV hn
  go_enter Tryz.func15, Tryz.ntmps15
  go_upto_region 1 with fail
  obtain ⟨i1, q1⟩ : ∃ i1, Hid (i1 = w.heap.size) := ⟨_, rfl⟩
  rw [← q1.out]
  have B1 := hidd (show (w.alloc (.cells V 31)).heap[i1]? = some (.cells V 31 (0, 0)) by rw [q1.out]; exact hat _ _ _ rfl)
  have K1 := hidd ((Kep.refl w).alloc (.cells V 31))
  generalize w.alloc (.cells V 31) = W at B1 K1 ⊢
  obtain ⟨c0, c1, c2, c3⟩ := CV.out W i1 B1.out
  have fN := hidd (frm_is fr)
  rw [hnn.out] at fN
  go_upto_region 2 with fail
  rw [fN.out]
  have m64 : (n : Int) * 64 = ((n * 64 : Nat) : Int) := by omega
  have mk' : ∀ w : World, Sem.run Tryz.prog (Instr.makeSlice 22 (.int .i64 ((n : Int) * 64)) (.int .i64 ((n : Int) * 64))) w = .ok (.slice (some ⟨w.heap.size, 0, none⟩) (n * 64) (n * 64)) (w.alloc (.cells (byt (List.replicate (n * 64) 0)).toArray 5)) := by rw [m64]; exact mk
  clear mk m64
  go_upto_region 3 with fail
  obtain ⟨rb, qr⟩ : ∃ rb, Hid (rb = W.heap.size) := ⟨_, rfl⟩
  rw [← qr.out]
  have L0 := hidd (show LI (W.alloc (.cells (byt (List.replicate (n * 64) 0)).toArray 5)) rb (List.replicate (n * 64) 0) (W.alloc (.cells (byt (List.replicate (n * 64) 0)).toArray 5)) from ⟨Put.refl _, by rw [qr.out]; exact hat _ _ _ rfl⟩)
  have K2 := hidd ((Kep.refl W).alloc (.cells (byt (List.replicate (n * 64) 0)).toArray 5))
  generalize W.alloc (.cells (byt (List.replicate (n * 64) 0)).toArray 5) = X at L0 K2 ⊢
  have hrb : Hid (w.heap.size ≤ rb ∧ i1 < rb) := by have := K1.out.size; have := block_lt B1.out; have := qr.out; show _ ∧ _; omega
  have BX : Hid (∀ wr B, LI X rb B wr → wr.heap[i1]? = some (.cells V 31 (0, 0)) ∧ Kep w wr) := fun wr B h => ⟨h.1.keeps (K2.out.block B1.out) (by have := hrb.out; simp; omega), (kep_trans K1.out K2.out).put h.1 (by have := hrb.out; simp; omega)⟩
  have e64 : Hid (64 * n = n * 64) := Nat.mul_comm _ _
  clear c0 c1 c2 c3
  go_wp2_with fail
  go_loopw [6] (fun i wr => ∃ k : Nat, (k : Int) ≤ li ∧ (k : Int) ≤ n * 64 ∧ i = .int .i64 k ∧ Hid (LI X rb (cpyL (n * 64) Z k) wr)) (fun i _ => 5000 - (intOf i).toNat)
  case atStart =>
    refine ⟨0, by omega, by omega, rfl, ?_⟩
    have e : cpyL (n * 64) Z 0 = List.replicate (n * 64) 0 := by unfold cpyL; simp
    rw [e]; exact L0.out
  case round =>
    obtain ⟨k, hk1, hk2, rfl, L⟩ := hrel
    obtain ⟨bx, kw⟩ := BX.out wr _ L.out
    obtain ⟨c0, c1, c2, c3⟩ := CV.out wr i1 bx
    clear bx kw
    have hex : Hid ((k : Int) = li ∨ ((k : Int) = n * 64 ∧ (n : Int) * 64 ≤ li) → LI X rb (cpyL (n * 64) Z Z.length) wr) := fun h => by
      have e : cpyL (n * 64) Z k = cpyL (n * 64) Z Z.length := cpy_end (by have := I'.out.il; omega)
      rw [← e]; exact L.out
    by_cases hl1 : (k : Int) < li
    · by_cases hl2 : (k : Int) < n * 64
      · have hkZ : k < Z.length := by have := I'.out.il; omega
        obtain ⟨b, off, hx, hc⟩ : ∃ b off : Nat, xi = some ⟨b, off, none⟩ ∧ wr.cell? ⟨b, off + k, none⟩ = some (.int .u8 (Z.getD k 0)) := by
          obtain ⟨_, kw⟩ := BX.out wr _ L.out
          rcases I'.out.ii.kep kw with h0 | ⟨b, off, e, _, hc⟩
          · have := congrArg List.length h0; rw [byt_len] at this; simp at this; subst this; simp at hkZ
          · exact ⟨b, off, e, hc _ _ (by rw [byt_at]; simp [List.getD, hkZ])⟩
        have hS : Hid (cpyL (n * 64) Z (k + 1) = (cpyL (n * 64) Z k).set k (Z.getD k 0)) := cpyL_succ _ _ _ hkZ (by omega)
        generalize Z.getD k 0 = z at hc hS
        have co : wr.cell? ⟨rb, k, none⟩ = some (.int .u8 ((cpyL (n * 64) Z k).getD k 0)) := by
          rw [cell_of_block L.out.2]
          have : k < (cpyL (n * 64) Z k).length := by rw [cpyL_len]; omega
          simp [byt, this]
        generalize (cpyL (n * 64) Z k).getD k 0 = zo at co
        have cf := row_frozen L.out.2 k
        have hci : (li : Int) ≤ ci := by have := I'.out.ic; omega
        have hcm := I'.out.im
        have L2 := hidd (L.out.set k z)
        rw [← hS.out] at L2
        subst hx
        clear hex
        go_wp2_with fail
        go_roundw
        case rel => exact ⟨k + 1, by omega, by omega, by go_num, L2.out⟩
        case measure => simp [intOf]; omega
      · skip
        have LE := hidd (hex.out (by omega))
        clear hex L hk1 hk2 c0
        have he0 := I'.out.eo.1
        have he1 := I'.out.eo.2
        obtain ⟨e0, qe⟩ : ∃ e0 : Nat, Hid ((e0 : Int) = en) := ⟨en.toNat, by have := I'.out.eo; show ((en.toNat : Nat) : Int) = en; omega⟩
        have qe' : Hid (en.toNat = e0) := by have := qe.out; show en.toNat = e0; omega
        have LG : Hid (gstL fr Z C en = (codL (C.take 200) (cpyL (n * 64) Z Z.length, e0)).1) := by unfold Hid gstL; rw [qe'.out, hnn.out, e64.out]
        have hB0 := hidd (cpyL_len (n * 64) Z Z.length)
        generalize cpyL (n * 64) Z Z.length = B0 at LE LG hB0
        go_wp2_with fail
        rw [← qe.out]
        go_loopw [7, 8] (fun a i wr => ∃ (k at_ : Nat), (k : Int) ≤ lc ∧ (k : Int) ≤ 200 ∧ i = .int .i64 k ∧ a = .int .i64 at_ ∧ (at_ : Int) ≤ 65536 + 8 * k ∧ Hid (LI X rb (codL (C.take k) (B0, e0)).1 wr ∧ at_ = (codL (C.take k) (B0, e0)).2)) (fun _ i _ => 500 - (intOf i).toNat)
        case atStart => exact ⟨0, e0, by omega, by omega, rfl, rfl, by have := qe.out; omega, LE.out, rfl⟩
        case round =>
          obtain ⟨k, at_, hk1, hk2, rfl, rfl, hat_, L⟩ := hrel
          obtain ⟨bx, kw⟩ := BX.out wr _ L.out.1
          obtain ⟨c0, c1, c2, c3⟩ := CV.out wr i1 bx
          clear bx kw c0 c1 c3
          by_cases hl1 : (k : Int) < lc
          · by_cases hl2 : (k : Int) < 200
            · skip
              obtain ⟨i, hi⟩ : ∃ i, C[k]? = some i := ⟨_, List.getElem?_eq_getElem (by have := I'.out.kl; omega)⟩
              have hik := I'.out.ko i (List.mem_of_getElem? hi)
              obtain ⟨b, off, hx, hcell⟩ : ∃ b off : Nat, xc = some ⟨b, off, none⟩ ∧ ∀ j u, (inss C)[j]? = some u → wr.cell? ⟨b, off + j, none⟩ = some u := by
                obtain ⟨_, kw⟩ := BX.out wr _ L.out.1
                rcases I'.out.ki.kep kw with h0 | ⟨b, off, e, _, hc⟩
                · have := inss_at C k i hi 0 (by omega); rw [h0] at this; simp [inV] at this
                · exact ⟨b, off, e, hc⟩
              subst hx
              have hst : Hid (codL (C.take (k + 1)) (B0, e0) = codS (codL (C.take k) (B0, e0)) i) := by
                unfold Hid codL
                rw [List.take_add_one, hi]
                simp
              obtain ⟨io, ia, ib, im⟩ := i
              obtain ⟨ho, ha, hb, hm⟩ := hik
              have d0 : wr.cell? ⟨b, off + k * 4, none⟩ = some (.int .u8 io) := hcell _ _ (by have := inss_at C k _ hi 0 (by omega); simpa [inV] using this)
              have d1 : wr.cell? ⟨b, off + k * 4 + 1, none⟩ = some (.int .u8 ia) := by rw [Nat.add_assoc]; exact hcell _ _ (by have := inss_at C k _ hi 1 (by omega); simpa [inV] using this)
              have d2 : wr.cell? ⟨b, off + k * 4 + 2, none⟩ = some (.int .u8 ib) := by rw [Nat.add_assoc]; exact hcell _ _ (by have := inss_at C k _ hi 2 (by omega); simpa [inV] using this)
              have d3 : wr.cell? ⟨b, off + k * 4 + 3, none⟩ = some (.int .i32 im) := by rw [Nat.add_assoc]; exact hcell _ _ (by have := inss_at C k _ hi 3 (by omega); simpa [inV] using this)
              have hkc : (lc : Int) ≤ cc := by have := I'.out.kc; omega
              have hkm := I'.out.km
              have HM : Hid (∀ w', Calls Tryz.prog 42 #[.agg #[.int .u8 io, .int .u8 ia, .int .u8 ib, .int .i32 im], .bool false] w' fun e w'' => e = .returned (.bool (mayB (rowOf io false) ia ib im)) ∧ Kep w' w'') := fun w' => refMay_any io ia ib im false w' ha.1 hb.1 hm.1 hm.2
              clear hcell hi
              cases hmb : mayB (rowOf io false) ia ib im with
              | false =>
                rw [hmb] at HM
                have es : Hid (codL (C.take (k + 1)) (B0, e0) = codL (C.take k) (B0, e0)) := by rw [Hid, hst.out]; unfold codS; dsimp only; rw [hmb]; simp
                clear hmb hst
                go_wp2_with (go_at_call 42; refine (HM.out _).mono ?_; rintro e w1 ⟨rfl, k1⟩; have K1' := hidd k1; clear k1)
                go_roundw
                case rel => exact ⟨k + 1, at_, by omega, by omega, by go_num, rfl, by omega, by rw [es.out]; exact ⟨L.out.1.kep K1'.out, L.out.2⟩⟩
                case measure => simp [intOf]; omega
              | true =>
                have hr10 := rowOf_lt io false
                obtain ⟨hr0, hia, hib⟩ := may3 hmb
                obtain ⟨f17, f27⟩ := f12_le hr10
                have HE : Hid (∀ w', Calls Tryz.prog 43 #[.agg #[.int .u8 io, .int .u8 ia, .int .u8 ib, .int .i32 im], .bool false] w' fun e w'' => ∃ Cb c : Nat, e = .returned (.slice (some ⟨Cb, 0, none⟩) (encL (rowOf io false) io ia ib im).length c) ∧ w''.ownsRow w'.heap.size 5 1 (.slice (some ⟨Cb, 0, none⟩) (encL (rowOf io false) io ia ib im).length c) (encL (rowOf io false) io ia ib im).length (bs (encL (rowOf io false) io ia ib im)) ∧ Kep w' w'') := fun w' => refEnc_any (rowOf io false) hr10 hr0 io ia ib im false rfl w' ho.1 ho.2 hm.1 hm.2 ha.1 (by omega) hb.1 (by omega)
                have hl8 := encL_le hr10 io ia ib im
                have es : Hid (codL (C.take (k + 1)) (B0, e0) = (layE (codL (C.take k) (B0, e0)).1 at_ (encL (rowOf io false) io ia ib im), at_ + (encL (rowOf io false) io ia ib im).length)) := by
                  rw [Hid, hst.out]; unfold codS encI; dsimp only; rw [hmb, if_pos rfl, ← L.out.2]
                rw [hmb] at HM
                have hBl : Hid ((codL (C.take k) (B0, e0)).1.length = n * 64) := by rw [Hid, codL_len]; exact hB0.out
                generalize encL (rowOf io false) io ia ib im = EN at HE hl8 es
                have L' := hidd L.out.1
                generalize (codL (C.take k) (B0, e0)).1 = BK at L' es hBl
                clear hmb hst L hr10 hr0 hia hib f17 f27
                go_wp2_with (go_at_call 42; refine (HM.out _).mono ?_; rintro e w1 ⟨rfl, k1⟩; have K1' := hidd k1; have c2w := (k1.cell (World.block_lt_of_cell? _ _ c2)).trans c2; have d0w := (k1.cell (World.block_lt_of_cell? _ _ d0)).trans d0; have d1w := (k1.cell (World.block_lt_of_cell? _ _ d1)).trans d1; have d2w := (k1.cell (World.block_lt_of_cell? _ _ d2)).trans d2; have d3w := (k1.cell (World.block_lt_of_cell? _ _ d3)).trans d3; clear k1)
                refine (HE.out _).mono ?_
                rintro e w2 ⟨Cb, cE, rfl, ow, k2⟩
                obtain ⟨Gc, sl, gl⟩ := Sli.of_owns ow
                obtain ⟨x1, c1', hv1, hlies, hle1, hmx1, _⟩ := sl.lies
                cases hv1
                have LC : Hid (∀ j u, (byt EN)[j]? = some u → w2.cell? ⟨Cb, 0 + j, none⟩ = some u) := by
                  rcases hlies with h0 | ⟨b', off', e', _, hc'⟩
                  · intro j u hj
                    have h0' : byt EN = [] := h0
                    rw [h0'] at hj; simp at hj
                  · cases e'; exact hc'
                have nCb : Hid (Cb ≠ rb ∧ Cb < w2.heap.size) := by
                  have h1 := gl Cb (by obtain ⟨_, h | ⟨g, o, cp, cu, hv, hF, _⟩⟩ := sl; simp at h; cases hv; rw [hF]; simp)
                  have h2 := block_lt L'.out.2
                  have h3 := K1'.out.size
                  have h4 := sl.lt Cb (by obtain ⟨_, h | ⟨g, o, cp, cu, hv, hF, _⟩⟩ := sl; simp at h; cases hv; rw [hF]; simp)
                  exact ⟨by omega, h4⟩
                have L2 := hidd ((L'.out.kep K1'.out).kep k2)
                clear ow sl gl hlies k2 d0w d1w d2w d3w c2w
                unfold maxLen at hmx1
                obtain ⟨le, hle⟩ : ∃ le, Hid (EN.length = le) := ⟨_, rfl⟩
                rw [hle.out] at hle1 hl8 ⊢
                have hl8' : (le : Int) ≤ 8 := by omega
                have hlc' : (le : Int) ≤ cE := by omega
                have hcE : (cE : Int) ≤ 9223372036854775807 := by omega
                go_wp2_with fail
                go_loopw [7, 10] (fun a j wx => ∃ q : Nat, (q : Int) ≤ le ∧ j = .int .i64 q ∧ a = .int .i64 (at_ + q) ∧ Hid (LI X rb (layE BK at_ (EN.take q)) wx ∧ ∀ j u, (byt EN)[j]? = some u → wx.cell? ⟨Cb, 0 + j, none⟩ = some u)) (fun _ j _ => 100 - (intOf j).toNat)
                case atStart => exact ⟨0, by omega, rfl, by simp, L2.out, LC.out⟩
                case round =>
                  obtain ⟨q, hq, rfl, rfl, Lq⟩ := hrel
                  by_cases hql : (q : Int) < le
                  · have hqE : q < EN.length := by have := hle.out; omega
                    have cz : wr.cell? ⟨Cb, 0 + q, none⟩ = some (.int .u8 (EN.getD q 0)) := Lq.out.2 _ _ (by rw [byt_at]; simp [List.getD, hqE])
                    have hsn : Hid (layE BK at_ (EN.take (q + 1)) = if at_ + q < n * 64 then (layE BK at_ (EN.take q)).set (at_ + q) (EN.getD q 0) else layE BK at_ (EN.take q)) := by
                      have e1 : EN.take (q + 1) = EN.take q ++ [EN.getD q 0] := by rw [List.take_add_one, List.getElem?_eq_getElem hqE]; simp [List.getD, hqE]
                      have e2 : (EN.take q).length = q := by simp; omega
                      rw [Hid, e1, layE_snoc, e2, hBl.out]
                    have hLl : (layE BK at_ (EN.take q)).length = n * 64 := by rw [layE_len]; exact hBl.out
                    rw [Nat.zero_add] at cz
                    generalize EN.getD q 0 = ze at cz hsn
                    by_cases hin : (at_ : Int) + q < n * 64
                    · have hin' : at_ + q < n * 64 := by omega
                      rw [if_pos hin'] at hsn
                      have co : wr.cell? ⟨rb, at_ + q, none⟩ = some (.int .u8 ((layE BK at_ (EN.take q)).getD (at_ + q) 0)) := by
                        rw [cell_of_block Lq.out.1.2]
                        have : at_ + q < (layE BK at_ (EN.take q)).length := by omega
                        simp [byt, this]
                      generalize (layE BK at_ (EN.take q)).getD (at_ + q) 0 = zo at co
                      have cf := row_frozen Lq.out.1.2 (at_ + q)
                      have L3 := hidd (Lq.out.1.set (at_ + q) ze)
                      rw [← hsn.out] at L3
                      have C3 : Hid (∀ j u, (byt EN)[j]? = some u → (wr.setCell ⟨rb, at_ + q, none⟩ (.int .u8 ze)).cell? ⟨Cb, 0 + j, none⟩ = some u) := fun j u hj => by
                        rw [World.cell?_setCell_other _ _ _ _ (by intro e; exact nCb.out.1 (congrArg Addr.block e).symm)]
                        exact Lq.out.2 j u hj
                      have ec : Hid (((at_ + q : Nat) : Int) = (at_ : Int) + q) := by show _ = _; omega
                      go_wp2_with fail
                      go_roundw
                      case rel => exact ⟨q + 1, by omega, by go_num, by go_num, L3.out, C3.out⟩
                      case measure => simp [intOf]; omega
                    · have hin' : ¬ at_ + q < n * 64 := by omega
                      rw [if_neg hin'] at hsn
                      go_wp2_with fail
                      go_roundw
                      case rel => exact ⟨q + 1, by omega, by go_num, by go_num, by rw [hsn.out]; exact Lq.out⟩
                      case measure => simp [intOf]; omega
                  · skip
                    have eq : Hid (EN.take q = EN) := by have := hle.out; rw [Hid, List.take_of_length_le (by omega)]
                    have LF := hidd Lq.out.1
                    rw [eq.out] at LF
                    have eql : (q : Int) = le := by omega
                    have es2 : Hid (codL (C.take (k + 1)) (B0, e0) = (layE BK at_ EN, at_ + le)) := by rw [Hid, es.out, hle.out]
                    clear Lq
                    go_wp2_with fail
                    go_roundw
                    case rel => exact ⟨k + 1, at_ + le, by omega, by omega, by go_num, by rw [eql]; go_num, by omega, by rw [es2.out]; exact ⟨LF.out, rfl⟩⟩
                    case measure => simp [intOf]; omega
            · have ee : Hid (C.take 200 = C.take k) := by rw [Hid, show k = 200 by omega]
              go_wp2_with fail
              go_ret2
              refine ⟨rb, by rw [e64.out]; rfl, ?_, (BX.out _ _ L.out.1).2, hrb.out.1⟩
              rw [LG.out, ee.out]
              exact fun _ => L.out.1.2
          · have ee : Hid (C.take 200 = C.take k) := by have := I'.out.kl; rw [Hid, List.take_of_length_le (by omega), List.take_of_length_le (by omega)]
            go_wp2_with fail
            go_ret2
            refine ⟨rb, by rw [e64.out]; rfl, ?_, (BX.out _ _ L.out.1).2, hrb.out.1⟩
            rw [LG.out, ee.out]
            exact fun _ => L.out.1.2
    · skip
      have LE := hidd (hex.out (by omega))
      clear hex L hk1 hk2 c0
      have he0 := I'.out.eo.1
      have he1 := I'.out.eo.2
      obtain ⟨e0, qe⟩ : ∃ e0 : Nat, Hid ((e0 : Int) = en) := ⟨en.toNat, by have := I'.out.eo; show ((en.toNat : Nat) : Int) = en; omega⟩
      have qe' : Hid (en.toNat = e0) := by have := qe.out; show en.toNat = e0; omega
      have LG : Hid (gstL fr Z C en = (codL (C.take 200) (cpyL (n * 64) Z Z.length, e0)).1) := by unfold Hid gstL; rw [qe'.out, hnn.out, e64.out]
      have hB0 := hidd (cpyL_len (n * 64) Z Z.length)
      generalize cpyL (n * 64) Z Z.length = B0 at LE LG hB0
      go_wp2_with fail
      rw [← qe.out]
      go_loopw [7, 8] (fun a i wr => ∃ (k at_ : Nat), (k : Int) ≤ lc ∧ (k : Int) ≤ 200 ∧ i = .int .i64 k ∧ a = .int .i64 at_ ∧ (at_ : Int) ≤ 65536 + 8 * k ∧ Hid (LI X rb (codL (C.take k) (B0, e0)).1 wr ∧ at_ = (codL (C.take k) (B0, e0)).2)) (fun _ i _ => 500 - (intOf i).toNat)
      case atStart => exact ⟨0, e0, by omega, by omega, rfl, rfl, by have := qe.out; omega, LE.out, rfl⟩
      case round =>
        obtain ⟨k, at_, hk1, hk2, rfl, rfl, hat_, L⟩ := hrel
        obtain ⟨bx, kw⟩ := BX.out wr _ L.out.1
        obtain ⟨c0, c1, c2, c3⟩ := CV.out wr i1 bx
        clear bx kw c0 c1 c3
        by_cases hl1 : (k : Int) < lc
        · by_cases hl2 : (k : Int) < 200
          · skip
            obtain ⟨i, hi⟩ : ∃ i, C[k]? = some i := ⟨_, List.getElem?_eq_getElem (by have := I'.out.kl; omega)⟩
            have hik := I'.out.ko i (List.mem_of_getElem? hi)
            obtain ⟨b, off, hx, hcell⟩ : ∃ b off : Nat, xc = some ⟨b, off, none⟩ ∧ ∀ j u, (inss C)[j]? = some u → wr.cell? ⟨b, off + j, none⟩ = some u := by
              obtain ⟨_, kw⟩ := BX.out wr _ L.out.1
              rcases I'.out.ki.kep kw with h0 | ⟨b, off, e, _, hc⟩
              · have := inss_at C k i hi 0 (by omega); rw [h0] at this; simp [inV] at this
              · exact ⟨b, off, e, hc⟩
            subst hx
            have hst : Hid (codL (C.take (k + 1)) (B0, e0) = codS (codL (C.take k) (B0, e0)) i) := by
              unfold Hid codL
              rw [List.take_add_one, hi]
              simp
            obtain ⟨io, ia, ib, im⟩ := i
            obtain ⟨ho, ha, hb, hm⟩ := hik
            have d0 : wr.cell? ⟨b, off + k * 4, none⟩ = some (.int .u8 io) := hcell _ _ (by have := inss_at C k _ hi 0 (by omega); simpa [inV] using this)
            have d1 : wr.cell? ⟨b, off + k * 4 + 1, none⟩ = some (.int .u8 ia) := by rw [Nat.add_assoc]; exact hcell _ _ (by have := inss_at C k _ hi 1 (by omega); simpa [inV] using this)
            have d2 : wr.cell? ⟨b, off + k * 4 + 2, none⟩ = some (.int .u8 ib) := by rw [Nat.add_assoc]; exact hcell _ _ (by have := inss_at C k _ hi 2 (by omega); simpa [inV] using this)
            have d3 : wr.cell? ⟨b, off + k * 4 + 3, none⟩ = some (.int .i32 im) := by rw [Nat.add_assoc]; exact hcell _ _ (by have := inss_at C k _ hi 3 (by omega); simpa [inV] using this)
            have hkc : (lc : Int) ≤ cc := by have := I'.out.kc; omega
            have hkm := I'.out.km
            have HM : Hid (∀ w', Calls Tryz.prog 42 #[.agg #[.int .u8 io, .int .u8 ia, .int .u8 ib, .int .i32 im], .bool false] w' fun e w'' => e = .returned (.bool (mayB (rowOf io false) ia ib im)) ∧ Kep w' w'') := fun w' => refMay_any io ia ib im false w' ha.1 hb.1 hm.1 hm.2
            clear hcell hi
            cases hmb : mayB (rowOf io false) ia ib im with
            | false =>
              rw [hmb] at HM
              have es : Hid (codL (C.take (k + 1)) (B0, e0) = codL (C.take k) (B0, e0)) := by rw [Hid, hst.out]; unfold codS; dsimp only; rw [hmb]; simp
              clear hmb hst
              go_wp2_with (go_at_call 42; refine (HM.out _).mono ?_; rintro e w1 ⟨rfl, k1⟩; have K1' := hidd k1; clear k1)
              go_roundw
              case rel => exact ⟨k + 1, at_, by omega, by omega, by go_num, rfl, by omega, by rw [es.out]; exact ⟨L.out.1.kep K1'.out, L.out.2⟩⟩
              case measure => simp [intOf]; omega
            | true =>
              have hr10 := rowOf_lt io false
              obtain ⟨hr0, hia, hib⟩ := may3 hmb
              obtain ⟨f17, f27⟩ := f12_le hr10
              have HE : Hid (∀ w', Calls Tryz.prog 43 #[.agg #[.int .u8 io, .int .u8 ia, .int .u8 ib, .int .i32 im], .bool false] w' fun e w'' => ∃ Cb c : Nat, e = .returned (.slice (some ⟨Cb, 0, none⟩) (encL (rowOf io false) io ia ib im).length c) ∧ w''.ownsRow w'.heap.size 5 1 (.slice (some ⟨Cb, 0, none⟩) (encL (rowOf io false) io ia ib im).length c) (encL (rowOf io false) io ia ib im).length (bs (encL (rowOf io false) io ia ib im)) ∧ Kep w' w'') := fun w' => refEnc_any (rowOf io false) hr10 hr0 io ia ib im false rfl w' ho.1 ho.2 hm.1 hm.2 ha.1 (by omega) hb.1 (by omega)
              have hl8 := encL_le hr10 io ia ib im
              have es : Hid (codL (C.take (k + 1)) (B0, e0) = (layE (codL (C.take k) (B0, e0)).1 at_ (encL (rowOf io false) io ia ib im), at_ + (encL (rowOf io false) io ia ib im).length)) := by
                rw [Hid, hst.out]; unfold codS encI; dsimp only; rw [hmb, if_pos rfl, ← L.out.2]
              rw [hmb] at HM
              have hBl : Hid ((codL (C.take k) (B0, e0)).1.length = n * 64) := by rw [Hid, codL_len]; exact hB0.out
              generalize encL (rowOf io false) io ia ib im = EN at HE hl8 es
              have L' := hidd L.out.1
              generalize (codL (C.take k) (B0, e0)).1 = BK at L' es hBl
              clear hmb hst L hr10 hr0 hia hib f17 f27
              go_wp2_with (go_at_call 42; refine (HM.out _).mono ?_; rintro e w1 ⟨rfl, k1⟩; have K1' := hidd k1; have c2w := (k1.cell (World.block_lt_of_cell? _ _ c2)).trans c2; have d0w := (k1.cell (World.block_lt_of_cell? _ _ d0)).trans d0; have d1w := (k1.cell (World.block_lt_of_cell? _ _ d1)).trans d1; have d2w := (k1.cell (World.block_lt_of_cell? _ _ d2)).trans d2; have d3w := (k1.cell (World.block_lt_of_cell? _ _ d3)).trans d3; clear k1)
              refine (HE.out _).mono ?_
              rintro e w2 ⟨Cb, cE, rfl, ow, k2⟩
              obtain ⟨Gc, sl, gl⟩ := Sli.of_owns ow
              obtain ⟨x1, c1', hv1, hlies, hle1, hmx1, _⟩ := sl.lies
              cases hv1
              have LC : Hid (∀ j u, (byt EN)[j]? = some u → w2.cell? ⟨Cb, 0 + j, none⟩ = some u) := by
                rcases hlies with h0 | ⟨b', off', e', _, hc'⟩
                · intro j u hj
                  have h0' : byt EN = [] := h0
                  rw [h0'] at hj; simp at hj
                · cases e'; exact hc'
              have nCb : Hid (Cb ≠ rb ∧ Cb < w2.heap.size) := by
                have h1 := gl Cb (by obtain ⟨_, h | ⟨g, o, cp, cu, hv, hF, _⟩⟩ := sl; simp at h; cases hv; rw [hF]; simp)
                have h2 := block_lt L'.out.2
                have h3 := K1'.out.size
                have h4 := sl.lt Cb (by obtain ⟨_, h | ⟨g, o, cp, cu, hv, hF, _⟩⟩ := sl; simp at h; cases hv; rw [hF]; simp)
                exact ⟨by omega, h4⟩
              have L2 := hidd ((L'.out.kep K1'.out).kep k2)
              clear ow sl gl hlies k2 d0w d1w d2w d3w c2w
              unfold maxLen at hmx1
              obtain ⟨le, hle⟩ : ∃ le, Hid (EN.length = le) := ⟨_, rfl⟩
              rw [hle.out] at hle1 hl8 ⊢
              have hl8' : (le : Int) ≤ 8 := by omega
              have hlc' : (le : Int) ≤ cE := by omega
              have hcE : (cE : Int) ≤ 9223372036854775807 := by omega
              go_wp2_with fail
              go_loopw [7, 10] (fun a j wx => ∃ q : Nat, (q : Int) ≤ le ∧ j = .int .i64 q ∧ a = .int .i64 (at_ + q) ∧ Hid (LI X rb (layE BK at_ (EN.take q)) wx ∧ ∀ j u, (byt EN)[j]? = some u → wx.cell? ⟨Cb, 0 + j, none⟩ = some u)) (fun _ j _ => 100 - (intOf j).toNat)
              case atStart => exact ⟨0, by omega, rfl, by simp, L2.out, LC.out⟩
              case round =>
                obtain ⟨q, hq, rfl, rfl, Lq⟩ := hrel
                by_cases hql : (q : Int) < le
                · have hqE : q < EN.length := by have := hle.out; omega
                  have cz : wr.cell? ⟨Cb, 0 + q, none⟩ = some (.int .u8 (EN.getD q 0)) := Lq.out.2 _ _ (by rw [byt_at]; simp [List.getD, hqE])
                  have hsn : Hid (layE BK at_ (EN.take (q + 1)) = if at_ + q < n * 64 then (layE BK at_ (EN.take q)).set (at_ + q) (EN.getD q 0) else layE BK at_ (EN.take q)) := by
                    have e1 : EN.take (q + 1) = EN.take q ++ [EN.getD q 0] := by rw [List.take_add_one, List.getElem?_eq_getElem hqE]; simp [List.getD, hqE]
                    have e2 : (EN.take q).length = q := by simp; omega
                    rw [Hid, e1, layE_snoc, e2, hBl.out]
                  have hLl : (layE BK at_ (EN.take q)).length = n * 64 := by rw [layE_len]; exact hBl.out
                  rw [Nat.zero_add] at cz
                  generalize EN.getD q 0 = ze at cz hsn
                  by_cases hin : (at_ : Int) + q < n * 64
                  · have hin' : at_ + q < n * 64 := by omega
                    rw [if_pos hin'] at hsn
                    have co : wr.cell? ⟨rb, at_ + q, none⟩ = some (.int .u8 ((layE BK at_ (EN.take q)).getD (at_ + q) 0)) := by
                      rw [cell_of_block Lq.out.1.2]
                      have : at_ + q < (layE BK at_ (EN.take q)).length := by omega
                      simp [byt, this]
                    generalize (layE BK at_ (EN.take q)).getD (at_ + q) 0 = zo at co
                    have cf := row_frozen Lq.out.1.2 (at_ + q)
                    have L3 := hidd (Lq.out.1.set (at_ + q) ze)
                    rw [← hsn.out] at L3
                    have C3 : Hid (∀ j u, (byt EN)[j]? = some u → (wr.setCell ⟨rb, at_ + q, none⟩ (.int .u8 ze)).cell? ⟨Cb, 0 + j, none⟩ = some u) := fun j u hj => by
                      rw [World.cell?_setCell_other _ _ _ _ (by intro e; exact nCb.out.1 (congrArg Addr.block e).symm)]
                      exact Lq.out.2 j u hj
                    have ec : Hid (((at_ + q : Nat) : Int) = (at_ : Int) + q) := by show _ = _; omega
                    go_wp2_with fail
                    go_roundw
                    case rel => exact ⟨q + 1, by omega, by go_num, by go_num, L3.out, C3.out⟩
                    case measure => simp [intOf]; omega
                  · have hin' : ¬ at_ + q < n * 64 := by omega
                    rw [if_neg hin'] at hsn
                    go_wp2_with fail
                    go_roundw
                    case rel => exact ⟨q + 1, by omega, by go_num, by go_num, by rw [hsn.out]; exact Lq.out⟩
                    case measure => simp [intOf]; omega
                · skip
                  have eq : Hid (EN.take q = EN) := by have := hle.out; rw [Hid, List.take_of_length_le (by omega)]
                  have LF := hidd Lq.out.1
                  rw [eq.out] at LF
                  have eql : (q : Int) = le := by omega
                  have es2 : Hid (codL (C.take (k + 1)) (B0, e0) = (layE BK at_ EN, at_ + le)) := by rw [Hid, es.out, hle.out]
                  clear Lq
                  go_wp2_with fail
                  go_roundw
                  case rel => exact ⟨k + 1, at_ + le, by omega, by omega, by go_num, by rw [eql]; go_num, by omega, by rw [es2.out]; exact ⟨LF.out, rfl⟩⟩
                  case measure => simp [intOf]; omega
          · have ee : Hid (C.take 200 = C.take k) := by rw [Hid, show k = 200 by omega]
            go_wp2_with fail
            go_ret2
            refine ⟨rb, by rw [e64.out]; rfl, ?_, (BX.out _ _ L.out.1).2, hrb.out.1⟩
            rw [LG.out, ee.out]
            exact fun _ => L.out.1.2
        · have ee : Hid (C.take 200 = C.take k) := by have := I'.out.kl; rw [Hid, List.take_of_length_le (by omega), List.take_of_length_le (by omega)]
          go_wp2_with fail
          go_ret2
          refine ⟨rb, by rw [e64.out]; rfl, ?_, (BX.out _ _ L.out.1).2, hrb.out.1⟩
          rw [LG.out, ee.out]
          exact fun _ => L.out.1.2
theorem byt_one (B : List Int) : ∀ v ∈ byt B, v.oneCell' = true := by
  intro v hv
  obtain ⟨b, _, rfl⟩ := List.mem_map.1 hv
  rfl
theorem cut_bytes (x : Option Addr) (l c n : Nat) (hn : n ≤ l) (hc : l ≤ c) (w : World) : (Instr.slice 22 (.slice x l c) (some (.int .i64 n)) none none).run Tryz.prog w = .ok (.slice (if c = n then x else x.map (·.add n)) (l - n) (c - n)) w := by
  have hs : (sizeOf (Tryz.prog.elem 22)).run Tryz.prog w = .ok 1 w := by kernel_rfl
  rw [run_slice_l (P := Tryz.prog) w 22 x l c (by kernel_rfl) .i64 n (by omega) (by omega), hs]
  simp [sliced, Result.andThen]
end Go.Proofs.YtamffningddgbaaGreatDoor
