/- Part of a proof. -/
import Derived.Deep.MidRow
import Derived.Test.YtamffningddgbaaGreatDoorJ19
namespace Go.Proofs.YtamffningddgbaaGreatDoor
open Go.RowKit
set_option linter.unusedVariables false
set_option linter.unusedSimpArgs false
def scU (B : List Int) (ix : List Nat) (s : Sta) (m : Int) : SB := if (fetF B ix s).1 = 0 then scnB B ix s m else ⟨[], [], [], 0, 0, 0⟩
def scF (B : List Int) (ix : List Nat) (s : Sta) (m : Int) : List Int := if (fetF B ix s).1 = 0 then fmL (scnB B ix s m).R else []
def scT (B : List Int) (ix : List Nat) (s : Sta) (m : Int) : List Int := if (fetF B ix s).1 = 0 then scnT s (scnB B ix s m) else []
structure BlkV (w : World) (B : List Int) (ix : List Nat) (s : Sta) (m : Int) (vI vA vF vT : Value) : Prop where
  i : Rowv w vI (scU B ix s m).I.length (inss (scU B ix s m).I)
  a : Rowv w vA (scU B ix s m).A.length (num .u32 (scU B ix s m).A)
  f : Rowv w vF (scF B ix s m).length (num .i64 (scF B ix s m))
  t : Rowv w vT (scT B ix s m).length (num .i64 (scT B ix s m))
theorem scan_all {w : World} {pm R : Nat} {ix : List Nat} {B : List Int} (M : Mem w (mpt pm) R ix B) (hB : B ≠ []) {s : Sta} (ok : s.Ok) (hT : Tabs w) (m : Int) :
    Calls Tryz.prog 8 #[.pointer (some ⟨pm, 0, none⟩), .agg s.v, .int .i64 m] w fun e w' => ∃ vI vA vF vT, e = .returned (.tuple #[.agg (blkC vI vA (scU B ix s m).n (scU B ix s m).t (scU B ix s m).e vF vT), .agg #[.int .i64 (fetF B ix s).1, .int .u32 (fetF B ix s).2]]) ∧ BlkV w' B ix s m vI vA vF vT ∧ Kep w w' := by
  refine (scan_any M hB ok hT m).mono ?_
  rintro e w' ⟨k, ⟨hf, rfl⟩ | ⟨hf, vI, vA, vF, vT, rfl, h1, h2, h3, h4⟩⟩
  · have e1 : scU B ix s m = ⟨[], [], [], 0, 0, 0⟩ := if_neg hf
    have e2 : scF B ix s m = [] := if_neg hf
    have e3 : scT B ix s m = [] := if_neg hf
    refine ⟨nilS, nilS, nilS, nilS, ?_, ⟨?_, ?_, ?_, ?_⟩, k⟩
    · rw [e1]
    · rw [e1]; exact rowv_nil _
    · rw [e1]; exact rowv_nil _
    · rw [e2]; exact rowv_nil _
    · rw [e3]; exact rowv_nil _
  · have e1 : scU B ix s m = scnB B ix s m := if_pos hf
    have e2 : scF B ix s m = fmL (scnB B ix s m).R := if_pos hf
    have e3 : scT B ix s m = scnT s (scnB B ix s m) := if_pos hf
    refine ⟨vI, vA, vF, vT, ?_, ⟨?_, ?_, ?_, ?_⟩, k⟩
    · rw [e1, (fet_all hf).1]
    · rw [e1]; exact h1
    · rw [e1]; exact h2
    · rw [e2]; exact h3
    · rw [e3]; exact h4
theorem scU_same (B : List Int) (ix : List Nat) (s : Sta) (m : Int) : (scU B ix s m).I.length = (scU B ix s m).A.length := by
  unfold scU
  split
  · exact scn_same B ix s m
  · rfl
theorem scU_less (B : List Int) (ix : List Nat) (s : Sta) (m m' : Int) (h1 : 1 ≤ m) (h2 : m ≤ 32) (h : m ≤ m') :
    (scU B ix s m).I <+: (scU B ix s m').I ∧ (scU B ix s m).A <+: (scU B ix s m').A ∧
    ((scU B ix s m).I.length = (scU B ix s m').I.length ∨ (((scU B ix s m).I.length : Int) = m ∧ (scU B ix s m).e = 1 ∧ (scU B ix s m').A[m.toNat]? = some (scU B ix s m).n)) := by
  unfold scU
  split
  · exact scn_less B ix s m m' h1 h2 h
  · exact ⟨List.prefix_refl _, List.prefix_refl _, .inl rfl⟩
def s018 : Sta := ⟨fun _ => 0, 0, 0, fun _ => 0, false⟩
theorem s018_ok : s018.Ok := ⟨fun _ => ⟨Int.le_refl 0, by show (0:Int) < 4294967296; decide⟩, ⟨Int.le_refl 0, by show (0:Int) < 4294967296; decide⟩, ⟨Int.le_refl 0, by show (0:Int) < 4294967296; decide⟩, fun _ => ⟨Int.le_refl 0, by show (0:Int) < 4294967296; decide⟩⟩
def z18 : List Int := [17, 18, 32, 48, 7, 0, 0, 0, 65, 251, 255]
def B18 : List Int := z18 ++ List.replicate 53 0
theorem B18_is : layL (List.replicate (64 * 1) 0) (List.range 1) 0 z18 = B18 := by decide +kernel
theorem B18_bytes : Byts B18 := by
  have : B18.all (fun b => decide (0 ≤ b) && decide (b < 256)) = true := by decide +kernel
  intro b hb
  have := List.all_eq_true.1 this b hb
  simpa using this
theorem f18_is : (fetF B18 (List.range 1) s018).1 = 0 := by decide +kernel
theorem i18_is : (scnB B18 (List.range 1) s018 9).I.length = 3 := by decide +kernel
theorem e18_is : (scnB B18 (List.range 1) s018 9).e = 3 := by decide +kernel
theorem n18_is : (scnB B18 (List.range 1) s018 9).n = 11 := by decide +kernel
theorem t18_is : (scnB B18 (List.range 1) s018 9).t = 6 := by decide +kernel
set_option maxHeartbeats 4000000 in
set_option maxRecDepth 100000 in
theorem works18_any (w : World) (hT : Tabs w) : Calls Tryz.prog 11 #[] w fun e w' => e = .returned (.bool true) ∧ Kep w w' := by
  have HN := hidd (new_any w 1 (by decide) (by decide))
  have HS : Hid (∀ w' p R, Kep w w' → Mem w' (mpt p) R (List.range 1) B18 → Calls Tryz.prog 8 #[.pointer (some ⟨p, 0, none⟩), .agg z19, .int .i64 9] w' fun e w'' => ScnR w' B18 (List.range 1) s018 9 e w'') := fun w' p R k M =>
    scan_any M (by decide) s018_ok (hT.grown k) 9
  have HF : Hid (∀ w1 w2 p, Own w w1 (.pointer (some ⟨p, 0, none⟩)) w.heap.size 1 (List.replicate (64 * 1) 0) → Kep w1 w2 → Lies w2 (some ⟨w1.heap.size, 0, none⟩) (byt z18) → Calls Tryz.prog 19 #[.pointer (some ⟨p, 0, none⟩), .int .u32 0, .slice (some ⟨w1.heap.size, 0, none⟩) 11 11] w2 fun e w3 => e = .returned (.bool true) ∧ Kep w w3 ∧ Mem w3 (mpt p) w.heap.size (List.range 1) B18) := fun w1 w2 p O k hl => by
    have hz : (List.replicate (64 * 1) (0 : Int)).length = 64 * 1 := by simp
    have hwz : w.heap.size < w1.heap.size := O.row.lt (by decide)
    have hS : Src w2 (some ⟨w1.heap.size, 0, none⟩) z18 [w.heap.size] := by
      rcases hl with h | ⟨b, off, e, hb, hc⟩
      · exact absurd h (by decide)
      · cases e
        refine .inr ⟨w1.heap.size, 0, rfl, hb, by simp; omega, fun i hi => hc i _ ?_⟩
        simp [byt, hi, List.getD]
    have h := fill_put w2 (.pointer (some ⟨p, 0, none⟩)) w.heap.size (List.range 1) _ (O.ram.kep k) (by simp) (O.row.kep k) (fits_range hz) 0 (by decide) (some ⟨w1.heap.size, 0, none⟩) z18 11 11 rfl (Nat.le_refl _) (by decide) hS
    refine h.mono ?_
    rintro e w3 ⟨rfl, p3, r3⟩
    rw [if_pos (by decide), B18_is] at r3
    refine ⟨by simp, (kep_trans O.kep k).put p3 (by simp), (O.ram.kep k).put p3, r3, fits_range (by decide), B18_bytes, by simp⟩
  clear hT
  go_enter Tryz.func11, Tryz.ntmps11
  go_wp2_with fail
  refine HN.out.mono ?_
  rintro e w1 ⟨p, rfl, O⟩
  have O' := hidd O
  clear O HN
  go_wp2_with fail
  refine (HF.out w1 _ p O'.out ((Kep.refl _).alloc _) (.inr ⟨w1.heap.size, 0, rfl, block_lt (hat _ _ _ rfl), fun i v h => ?_⟩)).mono ?_
  · rw [cell_of_block (hat _ _ _ rfl)]
    simpa [byt, z18] using h
  rintro e w3 ⟨rfl, k3, M⟩
  have K3 := hidd k3
  have M3 := hidd M
  clear k3 M HF O'
  go_wp2_with fail
  refine (HS.out w3 p _ K3.out M3.out).mono ?_
  rintro e w4 ⟨k4, ⟨hf, _⟩ | ⟨_, vI, vA, vF, vT, he, ⟨xi, ci, hi, _, _, _⟩, ⟨xa, ca, ha, _, _, _⟩, ⟨xf, cf, hf, _, _, _⟩, ⟨xt, ct, ht, _, _, _⟩⟩⟩
  · exact absurd f18_is hf
  rw [n18_is, t18_is, e18_is, hi, i18_is] at he
  obtain ⟨na, hna⟩ : ∃ n, vA = .slice xa n ca := ⟨_, ha⟩
  obtain ⟨nf, hnf⟩ : ∃ n, vF = .slice xf n cf := ⟨_, hf⟩
  obtain ⟨nt, hnt⟩ : ∃ n, vT = .slice xt n ct := ⟨_, ht⟩
  clear hi ha hf ht
  subst hna hnf hnt
  obtain ⟨V, hV⟩ : ∃ V, Hid ((blkC (.slice xi 3 ci) (.slice xa na ca) 11 6 3 (.slice xf nf cf) (.slice xt nt ct)) = V) := ⟨_, rfl⟩
  have VZ : Hid ((Tryz.prog.info? 40).map (·.size) = some V.size) := by rw [Hid, ← hV.out]; exact size_blk
  have VS : Hid (7 = V.size) := by rw [Hid, ← hV.out]; rfl
  have VF : Hid ((Tryz.prog.info? 42).map (·.size) = some 2) := size_flt
  have VO : Hid (V.all Value.oneCell' = true) := by rw [Hid, ← hV.out]; simp [Value.oneCell']
  have V0 : Hid (V[0]? = some (.slice xi 3 ci)) := by rw [Hid, ← hV.out]; rfl
  have V2 : Hid (V[2]? = some (.int .u32 11)) := by rw [Hid, ← hV.out]; rfl
  have V3 : Hid (V[3]? = some (.int .u32 6)) := by rw [Hid, ← hV.out]; rfl
  have V4 : Hid (V[4]? = some (.int .i64 3)) := by rw [Hid, ← hV.out]; rfl
  rw [hV.out] at he
  obtain rfl := he
  have K4 := hidd (kep_trans K3.out k4)
  clear k4 HS M3
  obtain ⟨W, hW⟩ : ∃ W, Hid ((w4.alloc (.cells #[.slice none 0 0, .slice none 0 0, .int .u32 0, .int .u32 0, .int .i64 0, .slice none 0 0, .slice none 0 0] 40)).alloc (.cells #[.int .i64 0, .int .u32 0] 42) = W) := ⟨_, rfl⟩
  have B3 : Hid (W.heap[w4.heap.size]? = some (.cells #[.slice none 0 0, .slice none 0 0, .int .u32 0, .int .u32 0, .int .i64 0, .slice none 0 0, .slice none 0 0] 40 (0, 0))) := by rw [← hW.out]; exact ((Kep.refl _).alloc _).block (hat _ _ _ rfl)
  obtain ⟨i4, q4⟩ : ∃ i, Hid (i = w4.heap.size + 1) := ⟨_, rfl⟩
  have B4 : Hid (W.heap[i4]? = some (.cells #[.int .i64 0, .int .u32 0] 42 (0, 0))) := by rw [← hW.out, q4.out]; exact hat _ _ _ (by simp)
  have KW : Hid (Kep w W) := by rw [← hW.out]; exact (K4.out.alloc _).alloc _
  obtain ⟨i3, q3⟩ : ∃ i, Hid (i = w4.heap.size) := ⟨_, rfl⟩
  have L3 : Hid (w.heap.size ≤ i3 ∧ i3 ≠ i4) := ⟨by rw [q3.out]; exact K4.out.size, by rw [q3.out, q4.out]; omega⟩
  rw [← q3.out] at B3
  have B4' := hidd ((setRow_other W i3 i4 V (Ne.symm L3.out.2)).trans B4.out)
  have P : Hid (Put [i3, i4] W ((W.setRow i3 V).setRow i4 #[.int .i64 0, .int .u32 0])) := ((Put.refl _).setRow (by simp) _).setRow (by simp) _
  have C3 : Hid ((((W.setRow i3 V).setRow i4 #[.int .i64 0, .int .u32 0])).heap[i3]? = some (.cells V 40 (0, 0))) := (setRow_other _ _ _ _ L3.out.2).trans (setRow_heap _ _ _ _ _ _ B3.out)
  have C4 : Hid ((((W.setRow i3 V).setRow i4 #[.int .i64 0, .int .u32 0])).heap[i4]? = some (.cells #[.int .i64 0, .int .u32 0] 42 (0, 0))) := setRow_heap _ _ _ _ _ _ B4'.out
  have K5 : Hid (Kep w ((W.setRow i3 V).setRow i4 #[.int .i64 0, .int .u32 0])) := KW.out.put P.out (by have := L3.out; have := q4.out; have := q3.out; simp; omega)
  obtain ⟨W5, hW5⟩ : ∃ W5, Hid ((W.setRow i3 V).setRow i4 #[.int .i64 0, .int .u32 0] = W5) := ⟨_, rfl⟩
  rw [hW5.out] at C3 C4 K5
  have d4 : W5.cell? ⟨i4, 0, none⟩ = some (.int .i64 0) := cell_of_block C4.out
  have d0 : W5.cell? ⟨i3, 0, none⟩ = some (.slice xi 3 ci) := (cell_of_block C3.out).trans V0.out
  have d1 : W5.cell? ⟨i3, 4, none⟩ = some (.int .i64 3) := (cell_of_block C3.out).trans V4.out
  have d2 : W5.cell? ⟨i3, 2, none⟩ = some (.int .u32 11) := (cell_of_block C3.out).trans V2.out
  have d3 : W5.cell? ⟨i3, 3, none⟩ = some (.int .u32 6) := (cell_of_block C3.out).trans V3.out
  go_wp2_with (first
    | (rw [hW.out, ← q4.out, ← q3.out]; refine wpList_store_row (by rfl) 40 _ _ (by rfl) i3 V (by rfl) (by rfl) 40 #[.slice none 0 0, .slice none 0 0, .int .u32 0, .int .u32 0, .int .i64 0, .slice none 0 0, .slice none 0 0] B3.out (by exact VZ.out) (by exact VS.out) VO.out ?_)
    | (refine wpList_store_row (by rfl) 42 _ _ (by rfl) i4 #[.int .i64 0, .int .u32 0] (by rfl) (by rfl) 42 #[.int .i64 0, .int .u32 0] B4'.out (by exact size_flt) (by rfl) (by simp [Value.oneCell']) ?_; rw [hW5.out]))
  go_ret
  exact ⟨rfl, K5.out⟩
end Go.Proofs.YtamffningddgbaaGreatDoor
