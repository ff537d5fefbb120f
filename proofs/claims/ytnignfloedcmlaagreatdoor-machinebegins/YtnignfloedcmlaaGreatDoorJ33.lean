/- Part of a proof. -/
import Derived.Stop.RegionWithIn
import Derived.Test.YtnignfloedcmlaaGreatDoorJ32
namespace Go.Proofs.YtnignfloedcmlaaGreatDoor
open Go.RowKit
set_option linter.unusedVariables false
set_option linter.unusedSimpArgs false
structure FI (w w' : World) (p : Nat) (i2 i3 i4 g h : Nat) (pc a : Int) : Prop where
  kep : Kep w w'
  b2 : w'.heap[i2]? = some (.cells zeroI 128 (0, 0))
  b3 : w'.heap[i3]? = some (.cells #[.int .i64 0, .int .u32 0] 100 (0, 0))
  b4 : w'.heap[i4]? = some (.cells #[.int .i64 1, .int .u32 pc] 100 (0, 0))
  bg : w'.heap[g]? = some (.cells #[.int .u32 a] 23 (0, 0))
  bh : w'.heap[h]? = some (.cells #[.pointer (some ⟨p, 0, none⟩)] 27 (0, 0))
  n2 : w.heap.size ≤ i2
  n3 : w.heap.size ≤ i3
  n23 : i2 ≠ i3
  ng : w.heap.size ≤ g
theorem FI.more {w w' w'' : World} {p i2 i3 i4 g h : Nat} {pc a : Int} (H : FI w w' p i2 i3 i4 g h pc a) (k : Kep w' w'') : FI w w'' p i2 i3 i4 g h pc a :=
  ⟨kep_trans H.kep k, k.block H.b2, k.block H.b3, k.block H.b4, k.block H.bg, k.block H.bh, H.n2, H.n3, H.n23, H.ng⟩
theorem FI.other {w w' : World} {p i2 i3 i4 g h : Nat} {pc a : Int} (H : FI w w' p i2 i3 i4 g h pc a) : i2 ≠ g ∧ i3 ≠ g ∧ i4 ≠ g ∧ h ≠ g := by
  refine ⟨?_, ?_, ?_, ?_⟩ <;> (intro e; subst e)
  · have := H.b2.symm.trans H.bg; cases this
  · have := H.b3.symm.trans H.bg; cases this
  · have := H.b4.symm.trans H.bg; cases this
  · have := H.bh.symm.trans H.bg; cases this
theorem FI.put {w w' w'' : World} {p i2 i3 i4 g h : Nat} {pc a : Int} {l : List Nat} (H : FI w w' p i2 i3 i4 g h pc a) (k : Put l w' w'') (hl : ∀ b ∈ l, w.heap.size ≤ b) (h2 : i2 ∉ l) (h3 : i3 ∉ l) (h4 : i4 ∉ l) (hg : g ∉ l) (hh : h ∉ l) : FI w w'' p i2 i3 i4 g h pc a :=
  ⟨H.kep.put k hl, k.keeps H.b2 h2, k.keeps H.b3 h3, k.keeps H.b4 h4, k.keeps H.bg hg, k.keeps H.bh hh, H.n2, H.n3, H.n23, H.ng⟩
theorem FI.hand {w w' : World} {p pm R : Nat} {ix : List Nat} {B : List Int} {vd : Value} {s : Sta} {n : Int} {vn : Value} (bx : Bx w p (mpt pm) vd s n vn) (M : Mem w (mpt pm) R ix B) (hB : B ≠ []) (ok : s.Ok) {i2 i3 i4 g h : Nat} {pc a : Int} (ha : 0 ≤ a ∧ a < 4294967296)
    (H : FI w w' p i2 i3 i4 g h pc a) :
    Calls Tryz.prog 93 #[.pointer (some ⟨g, 0, none⟩), .pointer (some ⟨h, 0, none⟩)] w' fun e w'' => e = .returned (.tuple #[.int .u8 (hndR B ix s a).1, .agg #[.int .i64 (hndR B ix s a).2.1, .int .u32 (hndR B ix s a).2.2]]) ∧ FI w w'' p i2 i3 i4 g h pc ((a + 1) % 4294967296) ∧ Put [g] w' w'' := by
  have hlow : Off w (mpt pm) [g] := M.ram.low (by intro b hb; obtain rfl : b = g := by simpa using hb
                                                  exact H.ng)
  have hoff : Off w' (mpt pm) [g] := Off.stay (m := []) M.ram hlow (Put.of_kep H.kep) (fun p e => ⟨by simp, by simp⟩)
  have hR := M.row.lt hB
  have hng := H.ng
  obtain ⟨o2, o3, o4, oh⟩ := H.other
  refine (hand_any (bx.kep H.kep) (M.kep H.kep) ok g h a ha H.bg H.bh (by omega) hoff).mono ?_
  rintro e w'' ⟨rfl, hg, k⟩
  exact ⟨rfl, ⟨H.kep.put k (by simpa using H.ng), k.keeps H.b2 (by simpa using o2), k.keeps H.b3 (by simpa using o3), k.keeps H.b4 (by simpa using o4), hg, k.keeps H.bh (by simpa using oh), H.n2, H.n3, H.n23, H.ng⟩, k⟩
def fetV (B : List Int) (ix : List Nat) (s : Sta) : Array Value := if (fetF B ix s).1 = 0 then insA (fetO B ix s) (fetA B ix s) (fetB B ix s) (fetM B ix s) else zeroI
theorem plc_next (s : Sta) (k : Nat) : (plc s k + 1) % 4294967296 = plc s (k + 1) := by unfold plc; omega
theorem plc_range (s : Sta) (k : Nat) : 0 ≤ plc s k ∧ plc s k < 4294967296 := by unfold plc; omega
theorem plc_zero {s : Sta} (ok : s.Ok) : plc s 0 = s.pc := by have := ok.pc; unfold plc; omega
theorem hnd_none {B : List Int} {ix : List Nat} {s : Sta} {k : Nat} (h : bytF B ix s k = none) : hndR B ix s (plc s k) = (0, 5, plc s k) := by
  unfold bytF at h; rw [Option.map_eq_none_iff] at h
  unfold hndR; rw [h]
theorem hnd_some {B : List Int} {ix : List Nat} {s : Sta} {k : Nat} {b : Int} (h : bytF B ix s k = some b) : hndR B ix s (plc s k) = (b, 0, 0) := by
  unfold bytF at h
  obtain ⟨q, h1, h2⟩ := Option.map_eq_some_iff.1 h
  unfold hndR; rw [h1, ← h2]
theorem byt_some_range {B : List Int} (hb : Byts B) {ix : List Nat} {s : Sta} {k : Nat} {b : Int} (h : bytF B ix s k = some b) : 0 ≤ b ∧ b < 256 := by
  unfold bytF at h
  obtain ⟨q, h1, h2⟩ := Option.map_eq_some_iff.1 h
  rw [← h2]; exact rdB_range hb ix q
theorem zsF_len (B : List Int) (ix : List Nat) (s : Sta) (n : Nat) : (zsF B ix s n).length = n := by simp [zsF]
theorem zsF_snoc {B : List Int} {ix : List Nat} {s : Sta} {n : Nat} {b : Int} (h : bytF B ix s n = some b) : zsF B ix s (n + 1) = zsF B ix s n ++ [b] := by
  unfold zsF; rw [List.range_succ, List.map_append]; simp [h]
theorem zsF_range {B : List Int} (hb : Byts B) (ix : List Nat) (s : Sta) (n : Nat) : ∀ z ∈ zsF B ix s n, 0 ≤ z ∧ z < 256 := by
  intro z hz
  unfold zsF at hz
  obtain ⟨k, _, rfl⟩ := List.mem_map.1 hz
  cases h : bytF B ix s k with
  | none => simp
  | some b => simpa using byt_some_range hb h
theorem zsF_head {B : List Int} {ix : List Nat} {s : Sta} {n : Nat} (hn : 1 ≤ n) {b : Int} (h : bytF B ix s 0 = some b) : zat (zsF B ix s n) 0 = b := by
  obtain ⟨m, rfl⟩ : ∃ m, n = m + 1 := ⟨n - 1, by omega⟩
  unfold zat zsF
  rw [List.range_succ_eq_map]
  simp [h]
theorem bad_some {B : List Int} {ix : List Nat} {s : Sta} {n k : Nat} (hk : k < n) (h : bytF B ix s k = none) (hb : ∀ j, j < k → (bytF B ix s j).isSome = true) : badF B ix s n = some k := by
  unfold badF
  rw [List.find?_range_eq_some]
  refine ⟨by simp [h], by simpa using hk, fun j hj => ?_⟩
  have := hb j hj
  cases hq : bytF B ix s j with
  | none => rw [hq] at this; simp at this
  | some b => rfl
theorem bad_none {B : List Int} {ix : List Nat} {s : Sta} {n : Nat} (hb : ∀ j, j < n → (bytF B ix s j).isSome = true) : badF B ix s n = none := by
  unfold badF
  rw [List.find?_eq_none]
  intro j hj
  have := hb j (by simpa using hj)
  cases hq : bytF B ix s j with
  | none => rw [hq] at this; simp at this
  | some b => simp
theorem sz_six {r : Nat} (hr : r < 10) : 0 ≤ sz r ∧ sz r ≤ 6 ∧ (sz r = 0 ↔ r = 0) := by
  refine ten (p := fun r => 0 ≤ sz r ∧ sz r ≤ 6 ∧ (sz r = 0 ↔ r = 0)) r hr ?_ ?_ ?_ ?_ ?_ ?_ ?_ ?_ ?_ ?_ <;> decide
theorem fetN_is {B : List Int} {ix : List Nat} {s : Sta} {op : Int} (h : bytF B ix s 0 = some op) : fetR B ix s = rowOf op false ∧ (fetN B ix s : Int) = sz (rowOf op false) ∧ fetN B ix s ≤ 6 ∧ (fetR B ix s ≠ 0 → 1 ≤ fetN B ix s) := by
  have e : fetR B ix s = rowOf op false := by unfold fetR; rw [h]; rfl
  obtain ⟨h0, h1, h2⟩ := sz_six (rowOf_lt op false)
  refine ⟨e, ?_, ?_, fun hn => ?_⟩
  · unfold fetN; rw [e]; omega
  · unfold fetN; rw [e]; omega
  · rw [e] at hn
    have : sz (rowOf op false) ≠ 0 := fun h => hn (h2.1 h)
    unfold fetN; rw [e]; omega
theorem fet_none {B : List Int} {ix : List Nat} {s : Sta} (h : bytF B ix s 0 = none) : fetF B ix s = (5, s.pc) := by unfold fetF; rw [h]; rfl
theorem fet_row {B : List Int} {ix : List Nat} {s : Sta} {op : Int} (h : bytF B ix s 0 = some op) (h0 : fetR B ix s = 0) : fetF B ix s = (1, s.pc) := by unfold fetF; rw [h, if_neg (by simp), if_pos h0]
theorem fet_bad {B : List Int} {ix : List Nat} {s : Sta} {op : Int} {k : Nat} (h : bytF B ix s 0 = some op) (h0 : fetR B ix s ≠ 0) (hb : badF B ix s (fetN B ix s) = some k) : fetF B ix s = (5, plc s k) := by unfold fetF; rw [h, if_neg (by simp), if_neg h0, hb]
theorem fet_dec {B : List Int} {ix : List Nat} {s : Sta} {op : Int} (h : bytF B ix s 0 = some op) (h0 : fetR B ix s ≠ 0) (hb : badF B ix s (fetN B ix s) = none) : fetF B ix s = if okD (fetR B ix s) (fetZ B ix s) (fetN B ix s) then (0, 0) else (1, s.pc) := by unfold fetF; rw [h, if_neg (by simp), if_neg h0, hb]
theorem FI.end {w V : World} {p i2 i3 i4 g h : Nat} {pc a : Int} (F : FI w V p i2 i3 i4 g h pc a) (u0 u1 u2 : Int) (u3 : Int) (k x : Int) :
    ((((((V.setCell ⟨i2, 0, none⟩ (.int .u8 u0)).setCell ⟨i2, 1, none⟩ (.int .u8 u1)).setCell ⟨i2, 2, none⟩ (.int .u8 u2)).setCell ⟨i2, 3, none⟩ (.int .i32 u3)).setCell ⟨i3, 0, none⟩ (.int .i64 k)).setCell ⟨i3, 1, none⟩ (.int .u32 x)).heap[i2]? = some (.cells #[.int .u8 u0, .int .u8 u1, .int .u8 u2, .int .i32 u3] 128 (0, 0)) ∧
    ((((((V.setCell ⟨i2, 0, none⟩ (.int .u8 u0)).setCell ⟨i2, 1, none⟩ (.int .u8 u1)).setCell ⟨i2, 2, none⟩ (.int .u8 u2)).setCell ⟨i2, 3, none⟩ (.int .i32 u3)).setCell ⟨i3, 0, none⟩ (.int .i64 k)).setCell ⟨i3, 1, none⟩ (.int .u32 x)).heap[i3]? = some (.cells #[.int .i64 k, .int .u32 x] 100 (0, 0)) ∧
    Kep w ((((((V.setCell ⟨i2, 0, none⟩ (.int .u8 u0)).setCell ⟨i2, 1, none⟩ (.int .u8 u1)).setCell ⟨i2, 2, none⟩ (.int .u8 u2)).setCell ⟨i2, 3, none⟩ (.int .i32 u3)).setCell ⟨i3, 0, none⟩ (.int .i64 k)).setCell ⟨i3, 1, none⟩ (.int .u32 x)) := by
  have n := F.n23
  have e2 : (((((V.setCell ⟨i2, 0, none⟩ (.int .u8 u0)).setCell ⟨i2, 1, none⟩ (.int .u8 u1)).setCell ⟨i2, 2, none⟩ (.int .u8 u2)).setCell ⟨i2, 3, none⟩ (.int .i32 u3))).heap[i2]? = some (.cells #[.int .u8 u0, .int .u8 u1, .int .u8 u2, .int .i32 u3] 128 (0, 0)) :=
    (heap_setCell_row (heap_setCell_row (heap_setCell_row (heap_setCell_row F.b2 _) _) _) _).trans rfl
  have e3 : (((((V.setCell ⟨i2, 0, none⟩ (.int .u8 u0)).setCell ⟨i2, 1, none⟩ (.int .u8 u1)).setCell ⟨i2, 2, none⟩ (.int .u8 u2)).setCell ⟨i2, 3, none⟩ (.int .i32 u3))).heap[i3]? = some (.cells #[.int .i64 0, .int .u32 0] 100 (0, 0)) :=
    (heap_setCell_other _ _ _ _ (Ne.symm n)).trans ((heap_setCell_other _ _ _ _ (Ne.symm n)).trans ((heap_setCell_other _ _ _ _ (Ne.symm n)).trans ((heap_setCell_other _ _ _ _ (Ne.symm n)).trans F.b3)))
  refine ⟨(heap_setCell_other _ _ _ _ n).trans ((heap_setCell_other _ _ _ _ n).trans e2), (heap_setCell_row (heap_setCell_row e3 _) _).trans rfl, ?_⟩
  exact (((((F.kep.setCell F.n2 _).setCell F.n2 _).setCell F.n2 _).setCell F.n2 _).setCell F.n3 _).setCell F.n3 _
theorem aOf_range {r : Nat} {zs : List Int} (hz : ∀ n ∈ zs, 0 ≤ n ∧ n < 256) : 0 ≤ aOf r zs ∧ 0 ≤ bOf r zs := by
  have := zat_range hz 1
  unfold aOf bOf
  split <;> omega
theorem cell_news1 {w : World} {o : Value} {t : TypeId} {ob : Obj} : ∀ j u, ([o] : List Value)[j]? = some u → ((w.alloc ob).alloc (.cells #[o] t)).cell? ((⟨w.heap.size + 1, 0, none⟩ : Addr).add j) = some u := by
  have h := cell_news (w := w.alloc ob) (o := o) (t := t)
  rw [World.size_alloc] at h
  exact h
def FL (w w3 : World) (p i2 i3 i4 g h : Nat) (B : List Int) (ix : List Nat) (s : Sta) (pc : Int) (k : Nat) (v : Value) (wr : World) : Prop :=
  ∃ G, FI w wr p i2 i3 i4 g h pc (plc s k) ∧ Sli wr 5 1 v k (byt (zsF B ix s k)) G ∧ (∀ b ∈ G, w3.heap.size ≤ b) ∧ w3.heap.size ≤ wr.heap.size ∧ ∀ j, j < k → (bytF B ix s j).isSome = true
set_option maxHeartbeats 16000000 in
set_option maxRecDepth 100000 in
theorem fetch_any {w : World} {p pm R : Nat} {ix : List Nat} {B : List Int} {vd : Value} {s : Sta} {n : Int} {vn : Value} (bx : Bx w p (mpt pm) vd s n vn) (M : Mem w (mpt pm) R ix B) (hB : B ≠ []) (ok : s.Ok) (hT : Tabs w) :
    Calls Tryz.prog 66 #[.pointer (some ⟨p, 0, none⟩)] w fun e w' => e = .returned (.tuple #[.agg (fetV B ix s), .agg (fltV (fetF B ix s))]) ∧ Kep w w' := by
  have HH : Hid (∀ w' i2 i3 i4 g h a, 0 ≤ a ∧ a < 4294967296 → FI w w' p i2 i3 i4 g h s.pc a → Calls Tryz.prog 93 #[.pointer (some ⟨g, 0, none⟩), .pointer (some ⟨h, 0, none⟩)] w' fun e w'' => e = .returned (.tuple #[.int .u8 (hndR B ix s a).1, .agg #[.int .i64 (hndR B ix s a).2.1, .int .u32 (hndR B ix s a).2.2]]) ∧ FI w w'' p i2 i3 i4 g h s.pc ((a + 1) % 4294967296) ∧ Put [g] w' w'') :=
    fun w' i2 i3 i4 g h a ha H => FI.hand bx M hB ok ha H
  have HO : Hid (∀ w', Kep w w' → Calls Tryz.prog 77 #[.pointer (some ⟨p, 0, none⟩)] w' fun e w'' => ∃ g h : Nat, e = .returned (.func (.func 93) #[] #[.pointer (some ⟨g, 0, none⟩), .pointer (some ⟨h, 0, none⟩)]) ∧ w''.heap[g]? = some (.cells #[.int .u32 s.pc] 23 (0, 0)) ∧ w''.heap[h]? = some (.cells #[.pointer (some ⟨p, 0, none⟩)] 27 (0, 0)) ∧ Kep w' w'' ∧ w'.heap.size ≤ g ∧ w'.heap.size ≤ h ∧ g ≠ h) := fun w' k => handOut_any (bx.kep k)
  have c := bx.pc
  have lp := bx.lt
  have hpc := ok.pc
  have hby := M.byts
  have e0 := plc_zero ok
  obtain ⟨V, hV⟩ : ∃ V, Hid (((w.alloc (.cells zeroI 128)).alloc (.cells #[.int .i64 0, .int .u32 0] 100)).alloc (.cells #[.int .i64 1, .int .u32 s.pc] 100) = V) := ⟨_, rfl⟩
  have KV : Hid (Kep w V) := by rw [Hid, ← hV.out]; exact (((Kep.refl w).alloc _).alloc _).alloc _
  have V2 : Hid (V.heap[w.heap.size]? = some (.cells zeroI 128 (0, 0))) := by rw [Hid, ← hV.out]; exact blkA
  have V3 : Hid (V.heap[w.heap.size + 1]? = some (.cells #[.int .i64 0, .int .u32 0] 100 (0, 0))) := by rw [Hid, ← hV.out]; exact blkA
  have V4 : Hid (V.heap[w.heap.size + 1 + 1]? = some (.cells #[.int .i64 1, .int .u32 s.pc] 100 (0, 0))) := by rw [Hid, ← hV.out]; exact blkA
  have E0 : Hid (plc s 0 = s.pc) := e0
  have OK : Hid s.Ok := ok
  have HB : Hid (Byts B) := hby
  clear bx M e0 ok hby
  generalize hpq : s.pc = pc at *
  go_enter Tryz.func66, Tryz.ntmps66
  go_upto_region 2 with fail
  rw [hV.out]
  obtain ⟨i4, q4⟩ : ∃ i4, Hid (i4 = w.heap.size + 1 + 1) := ⟨_, rfl⟩
  rw [← q4.out] at V4 ⊢
  obtain ⟨i3, q3⟩ : ∃ i3, Hid (i3 = w.heap.size + 1) := ⟨_, rfl⟩
  rw [← q3.out] at V3 ⊢
  obtain ⟨i2, q2⟩ : ∃ i2, Hid (i2 = w.heap.size) := ⟨_, rfl⟩
  rw [← q2.out] at V2 ⊢
  go_wp2_with fail
  refine (HO.out V KV.out).mono ?_
  rintro e w1 ⟨g, h, rfl, g1, h1, k1, lg, lh, ngh⟩
  have F1 : Hid (FI w w1 p i2 i3 i4 g h pc (plc s 0)) := by
    have a2 := q2.out; have a3 := q3.out; have a4 := KV.out.size
    refine ⟨kep_trans KV.out k1, k1.block V2.out, k1.block V3.out, k1.block V4.out, ?_, h1, by omega, by omega, by omega, by omega⟩
    rw [E0.out]; exact g1
  have hPC : Hid (s.pc = pc) := hpq
  clear g1 h1 k1 lg lh ngh V2 V3 V4 KV hV HO c lp hpq
  cases hb0 : bytF B ix s 0 with
  | none =>
    have eF : Hid (fetF B ix s = (5, plc s 0)) := by rw [Hid, fet_none hb0, hPC.out, E0.out]
    have HH0 : Hid (Calls Tryz.prog 93 #[.pointer (some ⟨g, 0, none⟩), .pointer (some ⟨h, 0, none⟩)] w1 fun e w'' => e = .returned (.tuple #[.int .u8 0, .agg #[.int .i64 5, .int .u32 (plc s 0)]]) ∧ FI w w'' p i2 i3 i4 g h pc ((plc s 0 + 1) % 4294967296) ∧ Put [g] w1 w'') := by
      have := HH.out w1 i2 i3 i4 g h (plc s 0) (plc_range s 0) F1.out
      rw [hnd_none hb0] at this; exact this
    generalize plc s 0 = a0 at HH0 eF
    clear hb0 HH
    go_wp2_with fail
    refine HH0.out.mono ?_
    rintro e w2 ⟨rfl, F2, k2⟩
    have F2' : Hid (FI w w2 p i2 i3 i4 g h pc ((a0 + 1) % 4294967296)) := F2
    clear F2 k2 HH0 F1
    go_upto_region 5 with fail
    obtain ⟨j, qj⟩ : ∃ j, Hid (j = w2.heap.size) := ⟨_, rfl⟩
    rw [← qj.out]
    have FV : Hid (FI w (w2.alloc (.cells #[.int .i64 5, .int .u32 a0] 100)) p i2 i3 i4 g h pc ((a0 + 1) % 4294967296)) := F2'.out.more ((Kep.refl _).alloc _)
    have BJ : Hid ((w2.alloc (.cells #[.int .i64 5, .int .u32 a0] 100)).heap[j]? = some (.cells #[.int .i64 5, .int .u32 a0] 100 (0, 0))) := by rw [qj.out]; exact hat _ _ _ rfl
    have n1 : j ≠ i2 := by have := block_lt F2'.out.b2; have := qj.out; omega
    have n2 : j ≠ i3 := by have := block_lt F2'.out.b3; have := qj.out; omega
    generalize w2.alloc (.cells #[.int .i64 5, .int .u32 a0] 100) = V at FV BJ ⊢
    have n3 := FV.out.n23
    have cj0 : V.cell? ⟨j, 0, none⟩ = some (.int .i64 5) := cell_of_block BJ.out
    have cj1 : V.cell? ⟨j, 1, none⟩ = some (.int .u32 a0) := cell_of_block BJ.out
    have c20 : V.cell? ⟨i2, 0, none⟩ = some (.int .u8 0) := cell_of_block FV.out.b2
    have c21 : V.cell? ⟨i2, 1, none⟩ = some (.int .u8 0) := cell_of_block FV.out.b2
    have c22 : V.cell? ⟨i2, 2, none⟩ = some (.int .u8 0) := cell_of_block FV.out.b2
    have c23 : V.cell? ⟨i2, 3, none⟩ = some (.int .i32 0) := cell_of_block FV.out.b2
    have c30 : V.cell? ⟨i3, 0, none⟩ = some (.int .i64 0) := cell_of_block FV.out.b3
    have c31 : V.cell? ⟨i3, 1, none⟩ = some (.int .u32 0) := cell_of_block FV.out.b3
    have f2 := fun k => row_frozen FV.out.b2 k
    have f3 := fun k => row_frozen FV.out.b3 k
    obtain ⟨r1, r2, r3⟩ := FV.out.end 0 0 0 0 5 a0
    have E1 := hidd r1
    have E2 := hidd r2
    have E3 := hidd r3
    clear r1 r2 r3
    go_region
    go_wp2_with fail
    refine bodyPost_ret (v := .tuple #[.agg zeroI, .agg #[.int .i64 5, .int .u32 a0]]) (resultsCC (p := 2) (q := 3) (ty := 128) (ty' := 100) rfl _ _ i2 128 zeroI (0, 0) _ i3 100 #[.int .i64 5, .int .u32 a0] (0, 0) _ rfl ((drew_heap _ _).trans E1.out) Tryz.underlying128 rfl size_ins rfl ((drew_heap _ _).trans E2.out) Tryz.underlying100 rfl size_flt) rfl ⟨?_, E3.out.drew⟩
    unfold fetV
    rw [eF.out]; rfl
  | some op =>
    obtain ⟨eR, eN, hN6, hN1⟩ := fetN_is hb0
    have hop := byt_some_range HB.out hb0
    have HS : Hid (∀ w', Kep w w' → Calls Tryz.prog 78 #[.int .u8 op, .bool false] w' fun e w'' => e = .returned (.int .i64 (fetN B ix s : Int)) ∧ Kep w' w'') := fun w' k => by
      rw [eN]; exact bytes_any op false w' hop.1 hop.2 (hT.grown k)
    have HH0 : Hid (Calls Tryz.prog 93 #[.pointer (some ⟨g, 0, none⟩), .pointer (some ⟨h, 0, none⟩)] w1 fun e w'' => e = .returned (.tuple #[.int .u8 op, .agg #[.int .i64 0, .int .u32 0]]) ∧ FI w w'' p i2 i3 i4 g h pc ((plc s 0 + 1) % 4294967296) ∧ Put [g] w1 w'') := by
      have := HH.out w1 i2 i3 i4 g h (plc s 0) (plc_range s 0) F1.out
      rw [hnd_some hb0] at this; exact this
    rw [plc_next] at HH0
    by_cases h0 : fetR B ix s = 0
    · have eF : Hid (fetF B ix s = (1, pc)) := by rw [Hid, fet_row hb0 h0, hPC.out]
      have hz : Hid ((fetN B ix s : Int) = 0) := by rw [Hid, eN, ← eR, h0]; rfl
      rw [hz.out] at HS
      generalize plc s (0 + 1) = a0 at HH0
      clear eR eN hN6 hN1 h0 hb0 HH hz
      go_wp2_with fail
      refine HH0.out.mono ?_
      rintro e w2 ⟨rfl, F2, k2⟩
      have F2' : Hid (FI w w2 p i2 i3 i4 g h pc a0) := F2
      clear F2 k2 HH0 F1
      go_upto_region 8 with (go_at_call 78; refine (HS.out _ (F2'.out.kep.alloc _)).mono ?_; rintro e V ⟨rfl, k3⟩)
      have FV : Hid (FI w V p i2 i3 i4 g h pc a0) := (F2'.out.more ((Kep.refl _).alloc _)).more k3
      obtain ⟨j, qj⟩ : ∃ j, Hid (j = i4) := ⟨_, rfl⟩
      rw [← qj.out]
      have BJ : Hid (V.heap[j]? = some (.cells #[.int .i64 1, .int .u32 pc] 100 (0, 0))) := by rw [qj.out]; exact FV.out.b4
      have n1 : j ≠ i2 := by have := q2.out; have := q4.out; have := qj.out; omega
      have n2 : j ≠ i3 := by have := q3.out; have := q4.out; have := qj.out; omega
      clear k3
      have n3 := FV.out.n23
      have cj0 : V.cell? ⟨j, 0, none⟩ = some (.int .i64 1) := cell_of_block BJ.out
      have cj1 : V.cell? ⟨j, 1, none⟩ = some (.int .u32 pc) := cell_of_block BJ.out
      have c20 : V.cell? ⟨i2, 0, none⟩ = some (.int .u8 0) := cell_of_block FV.out.b2
      have c21 : V.cell? ⟨i2, 1, none⟩ = some (.int .u8 0) := cell_of_block FV.out.b2
      have c22 : V.cell? ⟨i2, 2, none⟩ = some (.int .u8 0) := cell_of_block FV.out.b2
      have c23 : V.cell? ⟨i2, 3, none⟩ = some (.int .i32 0) := cell_of_block FV.out.b2
      have c30 : V.cell? ⟨i3, 0, none⟩ = some (.int .i64 0) := cell_of_block FV.out.b3
      have c31 : V.cell? ⟨i3, 1, none⟩ = some (.int .u32 0) := cell_of_block FV.out.b3
      have f2 := fun k => row_frozen FV.out.b2 k
      have f3 := fun k => row_frozen FV.out.b3 k
      obtain ⟨r1, r2, r3⟩ := FV.out.end 0 0 0 0 1 pc
      have E1 := hidd r1
      have E2 := hidd r2
      have E3 := hidd r3
      clear r1 r2 r3
      go_region
      go_wp2_with fail
      refine bodyPost_ret (v := .tuple #[.agg zeroI, .agg #[.int .i64 1, .int .u32 pc]]) (resultsCC (p := 2) (q := 3) (ty := 128) (ty' := 100) rfl _ _ i2 128 zeroI (0, 0) _ i3 100 #[.int .i64 1, .int .u32 pc] (0, 0) _ rfl ((drew_heap _ _).trans E1.out) Tryz.underlying128 rfl size_ins rfl ((drew_heap _ _).trans E2.out) Tryz.underlying100 rfl size_flt) rfl ⟨?_, E3.out.drew⟩
      unfold fetV
      rw [eF.out]; rfl
    · have hN1' := hN1 h0
      have h0' : Hid (fetR B ix s ≠ 0) := h0
      have eR' : Hid (fetR B ix s = rowOf op false) := eR
      have b0' : Hid (bytF B ix s 0 = some op) := hb0
      obtain ⟨N, hN⟩ : ∃ N, Hid (N = fetN B ix s) := ⟨_, rfl⟩
      rw [← hN.out] at HS hN6 hN1'
      have hNi : (1 : Int) ≤ N := by omega
      have hNz : ((N : Int) == 0) = false := by simp; omega
      have hNz' : (N == 0) = false := by simp; omega
      obtain ⟨i0, hi, hz0, hz1, hz2⟩ := info_parts vinfo_u8
      clear eR eN hN1 h0 hb0
      go_wp2_with fail
      refine HH0.out.mono ?_
      rintro e w2 ⟨rfl, F2, k2⟩
      have F2' : Hid (FI w w2 p i2 i3 i4 g h pc (plc s (0 + 1))) := F2
      clear F2 k2 HH0 F1
      go_upto_region 9 with (go_at_call 78; refine (HS.out _ (F2'.out.kep.alloc _)).mono ?_; rintro e w3 ⟨rfl, k3⟩)
      have F3 : Hid (FI w w3 p i2 i3 i4 g h pc (plc s (0 + 1))) := (F2'.out.more ((Kep.refl _).alloc _)).more k3
      have l3 : Hid (i2 < w3.heap.size ∧ i3 < w3.heap.size ∧ i4 < w3.heap.size ∧ g < w3.heap.size ∧ h < w3.heap.size) := ⟨block_lt F3.out.b2, block_lt F3.out.b3, block_lt F3.out.b4, block_lt F3.out.bg, block_lt F3.out.bh⟩
      clear k3 F2'
      go_wp2_with fail
      go_loopw [9] (fun v wr => ∃ (k : Nat) (xs : Option Addr) (cs : Nat), v = .slice xs k cs ∧ (1 : Int) ≤ k ∧ (k : Int) ≤ N ∧ (k : Int) ≤ cs ∧ (cs : Int) ≤ 9223372036854775807 ∧ Hid (FL w w3 p i2 i3 i4 g h B ix s pc k (.slice xs k cs) wr)) (fun v _ => 100 - (lenV v))
      case atStart =>
        refine ⟨1, _, 1, rfl, by omega, by omega, by omega, by omega, [w3.heap.size], F3.out.more ((Kep.refl _).alloc _), ⟨?_, .inr ⟨w3.heap.size, 0, 1, [.int .u8 op], rfl, rfl, hat _ _ _ rfl, by omega, by unfold maxLen; omega, by simp, ?_⟩⟩, by simp, by simp, fun j hj => ?_⟩
        · rw [byt_len, zsF_len]
        · have : zsF B ix s 1 = zsF B ix s 0 ++ [op] := zsF_snoc b0'.out
          rw [this]; rfl
        · obtain rfl : j = 0 := by omega
          rw [b0'.out]; rfl
      case round =>
        obtain ⟨k, xs, cs, rfl, hk1, hkN, hkc, hcm, A⟩ := hrel
        by_cases hlt : (k : Int) < N
        · have hlt' : decide (k < N) = true := decide_eq_true (by omega)
          obtain ⟨G, FA, SA, gA, zA, bA⟩ := A.out
          have FA' : Hid (FI w wr p i2 i3 i4 g h pc (plc s k)) := FA
          have SA' : Hid (Sli wr 5 1 (.slice xs k cs) k (byt (zsF B ix s k)) G) := SA
          have gA' : Hid (∀ b ∈ G, w3.heap.size ≤ b) := gA
          have zA' : Hid (w3.heap.size ≤ wr.heap.size) := zA
          have bA' : Hid (∀ j, j < k → (bytF B ix s j).isSome = true) := bA
          clear FA SA gA zA bA A
          cases hbk : bytF B ix s k with
          | none =>
            have eF : Hid (fetF B ix s = (5, plc s k)) := fet_bad b0'.out h0'.out (by rw [← hN.out]; exact bad_some (by omega) hbk bA'.out)
            have HHk : Hid (Calls Tryz.prog 93 #[.pointer (some ⟨g, 0, none⟩), .pointer (some ⟨h, 0, none⟩)] wr fun e w'' => e = .returned (.tuple #[.int .u8 0, .agg #[.int .i64 5, .int .u32 (plc s k)]]) ∧ FI w w'' p i2 i3 i4 g h pc ((plc s k + 1) % 4294967296) ∧ Put [g] wr w'') := by
              have := HH.out wr i2 i3 i4 g h (plc s k) (plc_range s k) FA'.out
              rw [hnd_none hbk] at this; exact this
            generalize plc s k = a0 at HHk eF
            clear hbk HH hi hz0 hz1 hz2
            go_wp2_with fail
            refine HHk.out.mono ?_
            rintro e w4 ⟨rfl, F4, k4⟩
            have F4' : Hid (FI w w4 p i2 i3 i4 g h pc ((a0 + 1) % 4294967296)) := F4
            clear F4 k4 HHk
            go_upto_region 13 with fail
            obtain ⟨j, qj⟩ : ∃ j, Hid (j = w4.heap.size) := ⟨_, rfl⟩
            rw [← qj.out]
            have FV : Hid (FI w (w4.alloc (.cells #[.int .i64 5, .int .u32 a0] 100)) p i2 i3 i4 g h pc ((a0 + 1) % 4294967296)) := F4'.out.more ((Kep.refl _).alloc _)
            have BJ : Hid ((w4.alloc (.cells #[.int .i64 5, .int .u32 a0] 100)).heap[j]? = some (.cells #[.int .i64 5, .int .u32 a0] 100 (0, 0))) := by rw [qj.out]; exact hat _ _ _ rfl
            have n1 : j ≠ i2 := by have := block_lt F4'.out.b2; have := qj.out; omega
            have n2 : j ≠ i3 := by have := block_lt F4'.out.b3; have := qj.out; omega
            generalize w4.alloc (.cells #[.int .i64 5, .int .u32 a0] 100) = V at FV BJ ⊢
            have n3 := FV.out.n23
            have cj0 : V.cell? ⟨j, 0, none⟩ = some (.int .i64 5) := cell_of_block BJ.out
            have cj1 : V.cell? ⟨j, 1, none⟩ = some (.int .u32 a0) := cell_of_block BJ.out
            have c20 : V.cell? ⟨i2, 0, none⟩ = some (.int .u8 0) := cell_of_block FV.out.b2
            have c21 : V.cell? ⟨i2, 1, none⟩ = some (.int .u8 0) := cell_of_block FV.out.b2
            have c22 : V.cell? ⟨i2, 2, none⟩ = some (.int .u8 0) := cell_of_block FV.out.b2
            have c23 : V.cell? ⟨i2, 3, none⟩ = some (.int .i32 0) := cell_of_block FV.out.b2
            have c30 : V.cell? ⟨i3, 0, none⟩ = some (.int .i64 0) := cell_of_block FV.out.b3
            have c31 : V.cell? ⟨i3, 1, none⟩ = some (.int .u32 0) := cell_of_block FV.out.b3
            have f2 := fun k => row_frozen FV.out.b2 k
            have f3 := fun k => row_frozen FV.out.b3 k
            obtain ⟨r1, r2, r3⟩ := FV.out.end 0 0 0 0 5 a0
            have E1 := hidd r1
            have E2 := hidd r2
            have E3 := hidd r3
            clear r1 r2 r3
            go_region
            go_wp2_with fail
            refine bodyPost_ret (v := .tuple #[.agg zeroI, .agg #[.int .i64 5, .int .u32 a0]]) (resultsCC (p := 2) (q := 3) (ty := 128) (ty' := 100) rfl _ _ i2 128 zeroI (0, 0) _ i3 100 #[.int .i64 5, .int .u32 a0] (0, 0) _ rfl ((drew_heap _ _).trans E1.out) Tryz.underlying128 rfl size_ins rfl ((drew_heap _ _).trans E2.out) Tryz.underlying100 rfl size_flt) rfl ⟨?_, E3.out.drew⟩
            unfold fetV
            rw [eF.out]; rfl
          | some b =>
            have HHk : Hid (Calls Tryz.prog 93 #[.pointer (some ⟨g, 0, none⟩), .pointer (some ⟨h, 0, none⟩)] wr fun e w'' => e = .returned (.tuple #[.int .u8 b, .agg #[.int .i64 0, .int .u32 0]]) ∧ FI w w'' p i2 i3 i4 g h pc ((plc s k + 1) % 4294967296) ∧ Put [g] wr w'') := by
              have := HH.out wr i2 i3 i4 g h (plc s k) (plc_range s k) FA'.out
              rw [hnd_some hbk] at this; exact this
            rw [plc_next] at HHk
            have hsn : Hid (zsF B ix s (k + 1) = zsF B ix s k ++ [b]) := zsF_snoc hbk
            have hbk' : Hid (bytF B ix s k = some b) := hbk
            clear hbk HH
            go_wp2_with fail
            refine HHk.out.mono ?_
            rintro e w4 ⟨rfl, F4, k4⟩
            have F4' : Hid (FI w w4 p i2 i3 i4 g h pc (plc s (k + 1))) := F4
            have K4 : Hid (Put [g] wr w4) := k4
            have S4 : Hid (Sli w4 5 1 (.slice xs k cs) k (byt (zsF B ix s k)) G) := SA'.out.put k4 (fun c hc => by have := gA'.out c hc; have := l3.out; simp; omega)
            have hsl : Sli ((w4.alloc (.cells #[.int .i64 0, .int .u32 0] 100)).alloc (.cells #[.int .u8 b] 5)) 5 1 (.slice xs k cs) k (byt (zsF B ix s k)) G := S4.out.kep (((Kep.refl _).alloc _).alloc _)
            clear F4 k4 HHk
            go_wp2_with (at_builtin; refine wpList_append_sli rfl (.tmp 55) (.tmp 57) 22 rfl 5 i0 _ 1 1 Tryz.underlying22 hi hz0 hz1 hz2 rfl (by decide) _ k (byt (zsF B ix s k)) G rfl hsl ⟨w4.heap.size + 1, 0, none⟩ 1 [.int .u8 b] rfl rfl cell_news1 (by simp [Value.oneCell']) (by unfold maxLen; omega) (by omega) ?_; intro v' w5 G1 S1 P1 H1; obtain ⟨x1, c1, hv', _, hle1, hmx1, _⟩ := S1.out.lies; subst hv')
            go_roundw
            case rel =>
              have hz4 := K4.out.size
              have hz3 := zA'.out
              have hz5 := P1.out.size
              have hl := l3.out
              simp at hz5
              refine ⟨k + 1, x1, c1, by go_num, by omega, by omega, by omega, by unfold maxLen at hmx1; omega, G1, ?_, ?_, ?_, by omega, ?_⟩
              · refine (F4'.out.more (((Kep.refl _).alloc _).alloc _)).put P1.out (fun c hc => ?_) (fun hc => ?_) (fun hc => ?_) (fun hc => ?_) (fun hc => ?_) (fun hc => ?_)
                · have := gA'.out c hc; have := F3.out.kep.size; omega
                all_goals (have := gA'.out _ hc; omega)
              · rw [hsn.out]; simpa [byt] using S1.out
              · intro c hc
                rcases H1.out c hc with h | h
                · exact gA'.out c h
                · simp at h; omega
              · intro j hj
                rcases (by omega : j < k ∨ j = k) with h | rfl
                · exact bA'.out j h
                · rw [hbk'.out]; rfl
            case measure => simp [lenV]; omega
        · have hlt' : decide (k < N) = false := decide_eq_false (by omega)
          have hkN' : Hid (k = N) := by show k = N; omega
          obtain ⟨G, FA, SA, gA, zA, bA⟩ := A.out
          have FA' : Hid (FI w wr p i2 i3 i4 g h pc (plc s k)) := FA
          have eD : Hid (fetF B ix s = if okD (fetR B ix s) (fetZ B ix s) (fetN B ix s) then (0, 0) else (1, s.pc)) := fet_dec b0'.out h0'.out (by rw [← hN.out, ← hkN'.out]; exact bad_none bA)
          obtain ⟨x1, c1, hv1, hlies, hle1, hmx1, _⟩ := SA.lies
          cases hv1
          obtain ⟨bb, off, rfl, hbb, hcell⟩ : ∃ bb off : Nat, xs = some ⟨bb, off, none⟩ ∧ bb < wr.heap.size ∧ ∀ i v, (byt (zsF B ix s k))[i]? = some v → wr.cell? ⟨bb, off + i, none⟩ = some v := by
            rcases hlies with h0 | h1
            · have := congrArg List.length h0; rw [byt_len, zsF_len] at this; simp at this; omega
            · exact h1
          have BY : Bytes wr bb off k cs (zsF B ix s k) := ⟨by omega, hmx1, fun i hi => by
            refine hcell i _ ?_
            rw [byt_at, zat, List.getD_eq_getElem?_getD]
            have : i < (zsF B ix s k).length := by rw [zsF_len]; exact hi
            rw [List.getElem?_eq_getElem this]; rfl, zsF_range HB.out ix s k, hbb⟩
          have hz0' : zat (zsF B ix s k) 0 = op := zsF_head (by omega) b0'.out
          have HD : Hid (Calls Tryz.prog 79 #[.slice (some ⟨bb, off, none⟩) k cs, .bool false] wr fun e w' => e = .returned (.tuple #[.agg (insD (fetR B ix s) (zsF B ix s k) k), .int .i64 (numD (fetR B ix s) (zsF B ix s k) k), .int .i64 (errD (fetR B ix s) (zsF B ix s k) k)]) ∧ Kep wr w') :=
            decode_any bb off k cs (zsF B ix s k) false (fetR B ix s) (by rw [hz0', eR'.out]) wr (by omega) BY (hT.grown FA.kep)
          have eZ : Hid (fetZ B ix s = zsF B ix s k) := by show zsF B ix s (fetN B ix s) = _; rw [← hN.out, ← hkN'.out]
          have hSz : Hid (sz (fetR B ix s) = (k : Int)) := by
            have h1 := (fetN_is b0'.out).2.1
            rw [Hid, eR'.out, ← h1, ← hN.out, ← hkN'.out]
          rw [eZ.out, ← hN.out, ← hkN'.out] at eD
          have h0s := h0'.out
          cases hok : okD (fetR B ix s) (zsF B ix s k) k with
          | true =>
            have eI : insD (fetR B ix s) (zsF B ix s k) k = insA (zat (zsF B ix s k) 0) (aOf (fetR B ix s) (zsF B ix s k)) (bOf (fetR B ix s) (zsF B ix s k)) (immOf (fetR B ix s) (zsF B ix s k)) := by unfold insD; rw [hok]; rfl
            have eE : errD (fetR B ix s) (zsF B ix s k) k = 0 := by unfold errD; rw [if_neg h0s, if_neg (by rw [hSz.out]; omega), hok]; rfl
            rw [eI, eE] at HD
            rw [hok] at eD
            have rA := aOf_range (r := fetR B ix s) (zsF_range HB.out ix s k)
            have eF : Hid (fetF B ix s = (0, 0)) := eD.out
            have eV : Hid (fetV B ix s = insA (zat (zsF B ix s k) 0) (aOf (fetR B ix s) (zsF B ix s k)) (bOf (fetR B ix s) (zsF B ix s k)) (immOf (fetR B ix s) (zsF B ix s k))) := by
              unfold Hid fetV fetO fetA fetB fetM
              rw [eF.out, if_pos rfl, eZ.out, Int.toNat_of_nonneg rA.1, Int.toNat_of_nonneg rA.2]
            generalize numD (fetR B ix s) (zsF B ix s k) k = nD at HD
            generalize zat (zsF B ix s k) 0 = d0 at HD eV
            generalize aOf (fetR B ix s) (zsF B ix s k) = d1 at HD eV
            generalize bOf (fetR B ix s) (zsF B ix s k) = d2 at HD eV
            generalize immOf (fetR B ix s) (zsF B ix s k) = d3 at HD eV
            clear HH hi hz0 hz1 hz2 hcell BY hlies SA gA bA hz0' h0s eI eE rA hok FA A zA
            go_wp2_with fail
            refine HD.out.mono ?_
            rintro e w4 ⟨rfl, k4⟩
            have F4 : Hid (FI w w4 p i2 i3 i4 g h pc (plc s k)) := FA'.out.more k4
            clear k4 HD
            go_upto_region 18 with fail
            obtain ⟨j, qj⟩ : ∃ j, Hid (j = w4.heap.size) := ⟨_, rfl⟩
            rw [← qj.out]
            have FV : Hid (FI w (w4.alloc (.cells (insA d0 d1 d2 d3) 128)) p i2 i3 i4 g h pc (plc s k)) := F4.out.more ((Kep.refl _).alloc _)
            have BJ : Hid ((w4.alloc (.cells (insA d0 d1 d2 d3) 128)).heap[j]? = some (.cells (insA d0 d1 d2 d3) 128 (0, 0))) := by rw [qj.out]; exact hat _ _ _ rfl
            have n1 : j ≠ i2 := by have := block_lt F4.out.b2; have := qj.out; omega
            have n2 : j ≠ i3 := by have := block_lt F4.out.b3; have := qj.out; omega
            generalize w4.alloc (.cells (insA d0 d1 d2 d3) 128) = V at FV BJ ⊢
            have n3 := FV.out.n23
            have cj0 : V.cell? ⟨j, 0, none⟩ = some (.int .u8 d0) := cell_of_block BJ.out
            have cj1 : V.cell? ⟨j, 1, none⟩ = some (.int .u8 d1) := cell_of_block BJ.out
            have cj2 : V.cell? ⟨j, 2, none⟩ = some (.int .u8 d2) := cell_of_block BJ.out
            have cj3 : V.cell? ⟨j, 3, none⟩ = some (.int .i32 d3) := cell_of_block BJ.out
            have c20 : V.cell? ⟨i2, 0, none⟩ = some (.int .u8 0) := cell_of_block FV.out.b2
            have c21 : V.cell? ⟨i2, 1, none⟩ = some (.int .u8 0) := cell_of_block FV.out.b2
            have c22 : V.cell? ⟨i2, 2, none⟩ = some (.int .u8 0) := cell_of_block FV.out.b2
            have c23 : V.cell? ⟨i2, 3, none⟩ = some (.int .i32 0) := cell_of_block FV.out.b2
            have c30 : V.cell? ⟨i3, 0, none⟩ = some (.int .i64 0) := cell_of_block FV.out.b3
            have c31 : V.cell? ⟨i3, 1, none⟩ = some (.int .u32 0) := cell_of_block FV.out.b3
            have f2 := fun k => row_frozen FV.out.b2 k
            have f3 := fun k => row_frozen FV.out.b3 k
            obtain ⟨r1, r2, r3⟩ := FV.out.end d0 d1 d2 d3 0 0
            have E1 := hidd r1
            have E2 := hidd r2
            have E3 := hidd r3
            clear r1 r2 r3
            go_wp2_with fail
            refine bodyPost_ret (v := .tuple #[.agg #[.int .u8 d0, .int .u8 d1, .int .u8 d2, .int .i32 d3], .agg #[.int .i64 0, .int .u32 0]]) (resultsCC (p := 2) (q := 3) (ty := 128) (ty' := 100) rfl _ _ i2 128 #[.int .u8 d0, .int .u8 d1, .int .u8 d2, .int .i32 d3] (0, 0) _ i3 100 #[.int .i64 0, .int .u32 0] (0, 0) _ rfl E1.out Tryz.underlying128 rfl size_ins rfl E2.out Tryz.underlying100 rfl size_flt) rfl ⟨?_, E3.out⟩
            rw [eV.out, eF.out]
          | false =>
            have eI : insD (fetR B ix s) (zsF B ix s k) k = zeroI := by unfold insD; rw [hok]; rfl
            have eE : errD (fetR B ix s) (zsF B ix s k) k = 21 := by unfold errD; rw [if_neg h0s, if_neg (by rw [hSz.out]; omega), hok]; rfl
            rw [eI, eE] at HD
            rw [hok, hPC.out] at eD
            have eF : Hid (fetF B ix s = (1, pc)) := eD.out
            generalize numD (fetR B ix s) (zsF B ix s k) k = nD at HD
            clear HH hi hz0 hz1 hz2 hcell BY hlies SA gA bA hz0' h0s eI eE hok FA A zA eD
            go_wp2_with fail
            refine HD.out.mono ?_
            rintro e w4 ⟨rfl, k4⟩
            have F4 : Hid (FI w w4 p i2 i3 i4 g h pc (plc s k)) := FA'.out.more k4
            clear k4 HD
            go_upto_region 17 with fail
            have FV : Hid (FI w (w4.alloc (.cells zeroI 128)) p i2 i3 i4 g h pc (plc s k)) := F4.out.more ((Kep.refl _).alloc _)
            generalize w4.alloc (.cells zeroI 128) = V at FV ⊢
            obtain ⟨j, qj⟩ : ∃ j, Hid (j = i4) := ⟨_, rfl⟩
            rw [← qj.out]
            have BJ : Hid (V.heap[j]? = some (.cells #[.int .i64 1, .int .u32 pc] 100 (0, 0))) := by rw [qj.out]; exact FV.out.b4
            have n1 : j ≠ i2 := by have := q2.out; have := q4.out; have := qj.out; omega
            have n2 : j ≠ i3 := by have := q3.out; have := q4.out; have := qj.out; omega
            have n3 := FV.out.n23
            have cj0 : V.cell? ⟨j, 0, none⟩ = some (.int .i64 1) := cell_of_block BJ.out
            have cj1 : V.cell? ⟨j, 1, none⟩ = some (.int .u32 pc) := cell_of_block BJ.out
            have c20 : V.cell? ⟨i2, 0, none⟩ = some (.int .u8 0) := cell_of_block FV.out.b2
            have c21 : V.cell? ⟨i2, 1, none⟩ = some (.int .u8 0) := cell_of_block FV.out.b2
            have c22 : V.cell? ⟨i2, 2, none⟩ = some (.int .u8 0) := cell_of_block FV.out.b2
            have c23 : V.cell? ⟨i2, 3, none⟩ = some (.int .i32 0) := cell_of_block FV.out.b2
            have c30 : V.cell? ⟨i3, 0, none⟩ = some (.int .i64 0) := cell_of_block FV.out.b3
            have c31 : V.cell? ⟨i3, 1, none⟩ = some (.int .u32 0) := cell_of_block FV.out.b3
            have f2 := fun k => row_frozen FV.out.b2 k
            have f3 := fun k => row_frozen FV.out.b3 k
            obtain ⟨r1, r2, r3⟩ := FV.out.end 0 0 0 0 1 pc
            have E1 := hidd r1
            have E2 := hidd r2
            have E3 := hidd r3
            clear r1 r2 r3
            go_region
            go_wp2_with fail
            refine bodyPost_ret (v := .tuple #[.agg zeroI, .agg #[.int .i64 1, .int .u32 pc]]) (resultsCC (p := 2) (q := 3) (ty := 128) (ty' := 100) rfl _ _ i2 128 zeroI (0, 0) _ i3 100 #[.int .i64 1, .int .u32 pc] (0, 0) _ rfl ((drew_heap _ _).trans E1.out) Tryz.underlying128 rfl size_ins rfl ((drew_heap _ _).trans E2.out) Tryz.underlying100 rfl size_flt) rfl ⟨?_, E3.out.drew⟩
            unfold fetV
            rw [eF.out]; rfl
end Go.Proofs.YtnignfloedcmlaaGreatDoor
