/- Part of a proof. -/
import Derived.Handy
import Derived.Test.YtnignfloedcmlaaGreatDoorJ33
namespace Go.Proofs.YtnignfloedcmlaaGreatDoor
open Go.RowKit
set_option linter.unusedVariables false
set_option linter.unusedSimpArgs false
def rchR (B : List Int) (ix : List Nat) (s : Sta) (q : Int × Int × Int × Int) : Int × Int × Int := match rchF B ix s q with
  | some a => ((a : Int), 0, 0)
  | none => (0, if q.1 = 3 then 7 else 6, q.2.1)
set_option maxHeartbeats 4000000 in
set_option maxRecDepth 100000 in
theorem mreach_any {w : World} {p pm R : Nat} {ix : List Nat} {B : List Int} {vd : Value} {s : Sta} {n : Int} {vn : Value} (bx : Bx w p (mpt pm) vd s n vn) (M : Mem w (mpt pm) R ix B) (ok : s.Ok) (q : Int × Int × Int × Int) (ha : 0 ≤ q.2.1 ∧ q.2.1 < 4294967296) :
    Calls Tryz.prog 85 #[.pointer (some ⟨p, 0, none⟩), .agg (accV q)] w fun e w' => e = .returned (.tuple #[.int .u32 (rchR B ix s q).1, .agg (fltV (rchR B ix s q).2)]) ∧ Kep w w' := by
  obtain ⟨kd, ad, sz, vl⟩ := q
  have HL : Hid (∀ w', Kep w w' → Calls Tryz.prog 94 #[.pointer (some ⟨p, 0, none⟩), .int .u32 ad, .int .i64 kd] w' fun e w'' => e = .returned (.tuple (toR (ledF B ix s ad kd))) ∧ Kep w' w'') := fun w' k => lead_any (bx.kep k) (M.kep k) ok ad kd ha
  unfold rchR rchF
  dsimp only
  clear bx M
  by_cases h0 : sz = 0
  · subst h0
    rw [if_pos rfl]
    dsimp only
    go_enter Tryz.func85, Tryz.ntmps85
    go_wp2_with fail
    refine bodyPost_ret (v := .tuple #[.int .u32 0, .agg #[.int .i64 0, .int .u32 0]]) (resultsT1 (p := 5) (u := 4) (ty := 100) rfl _ _ (w.heap.size + 1) 100 #[.int .i64 0, .int .u32 0] (0, 0) _ rfl blkA Tryz.underlying100 rfl size_flt) rfl ⟨rfl, kepA⟩
  · rw [if_neg h0]
    have t0 : (sz == 0) = false := by simp [h0]
    clear h0
    cases hq : ledF B ix s ad kd with
    | some a =>
      rw [hq] at HL
      have HL' : Hid (∀ w', Kep w w' → Calls Tryz.prog 94 #[.pointer (some ⟨p, 0, none⟩), .int .u32 ad, .int .i64 kd] w' fun e w'' => e = .returned (.tuple #[.int .u32 a, .bool true]) ∧ Kep w' w'') := HL
      clear HL hq
      dsimp only
      go_enter Tryz.func85, Tryz.ntmps85
      go_wp2_with fail
      refine (HL'.out _ (((Kep.refl w).alloc _).alloc _)).mono ?_
      rintro e w1 ⟨rfl, k1⟩
      have A1 := hidd (k1.block ((hsk _ _ _ (by simp)).trans (hat w (.cells (accV (kd, ad, sz, vl)) 138) w.heap.size rfl)))
      have F1 := hidd (k1.block (hat (w.alloc (.cells (accV (kd, ad, sz, vl)) 138)) (.cells #[.int .i64 0, .int .u32 0] 100) (w.heap.size + 1) (by simp)))
      have K1 : Hid (Kep w w1) := kep_trans (((Kep.refl w).alloc _).alloc _) k1
      have a0 : w1.cell? ⟨w.heap.size, 0, none⟩ = some (.int .i64 kd) := cell_of_block A1.out
      have a1 : w1.cell? ⟨w.heap.size, 1, none⟩ = some (.int .u32 ad) := cell_of_block A1.out
      have z0 : w1.cell? ⟨w.heap.size + 1, 0, none⟩ = some (.int .i64 0) := cell_of_block F1.out
      have z1 : w1.cell? ⟨w.heap.size + 1, 1, none⟩ = some (.int .u32 0) := cell_of_block F1.out
      have zf := fun j => row_frozen F1.out j
      clear k1
      go_wp2_with fail
      refine bodyPost_ret (v := .tuple #[.int .u32 a, .agg #[.int .i64 0, .int .u32 0]]) (resultsT1 (p := 5) (u := 4) (ty := 100) rfl _ _ (w.heap.size + 1) 100 #[.int .i64 0, .int .u32 0] (0, 0) _ rfl (((heap_setCell_row (heap_setCell_row F1.out _) _).trans rfl)) Tryz.underlying100 rfl size_flt) rfl ⟨rfl, ?_⟩
      exact ((K1.out.setCell (by simp) _).setCell (by simp) _)
    | none =>
      rw [hq] at HL
      have HL' : Hid (∀ w', Kep w w' → Calls Tryz.prog 94 #[.pointer (some ⟨p, 0, none⟩), .int .u32 ad, .int .i64 kd] w' fun e w'' => e = .returned (.tuple #[.int .u32 0, .bool false]) ∧ Kep w' w'') := HL
      clear HL hq
      dsimp only
      by_cases h3 : kd = 3
      · rw [if_pos h3]
        subst h3
        go_enter Tryz.func85, Tryz.ntmps85
        go_wp2_with fail
        refine (HL'.out _ (((Kep.refl w).alloc _).alloc _)).mono ?_
        rintro e w1 ⟨rfl, k1⟩
        have A1 := hidd (k1.block ((hsk _ _ _ (by simp)).trans (hat w (.cells (accV (3, ad, sz, vl)) 138) w.heap.size rfl)))
        have F1 := hidd (k1.block (hat (w.alloc (.cells (accV (3, ad, sz, vl)) 138)) (.cells #[.int .i64 0, .int .u32 0] 100) (w.heap.size + 1) (by simp)))
        have K1 : Hid (Kep w w1) := kep_trans (((Kep.refl w).alloc _).alloc _) k1
        have a0 : w1.cell? ⟨w.heap.size, 0, none⟩ = some (.int .i64 3) := cell_of_block A1.out
        have a1 : w1.cell? ⟨w.heap.size, 1, none⟩ = some (.int .u32 ad) := cell_of_block A1.out
        have z0 : w1.cell? ⟨w.heap.size + 1, 0, none⟩ = some (.int .i64 0) := cell_of_block F1.out
        have z1 : w1.cell? ⟨w.heap.size + 1, 1, none⟩ = some (.int .u32 0) := cell_of_block F1.out
        have zf := fun j => row_frozen F1.out j
        clear k1
        go_upto_region 7 with fail
        go_region
        go_wp2_with fail
        refine bodyPost_ret (v := .tuple #[.int .u32 0, .agg #[.int .i64 7, .int .u32 ad]]) (resultsT1 (p := 5) (u := 4) (ty := 100) rfl _ _ (w.heap.size + 1) 100 #[.int .i64 7, .int .u32 ad] (0, 0) _ rfl ((drew_heap _ _).trans ((heap_setCell_row (heap_setCell_row F1.out _) _).trans rfl)) Tryz.underlying100 rfl size_flt) rfl ⟨rfl, ?_⟩
        exact ((K1.out.setCell (by simp) _).setCell (by simp) _).drew
      · rw [if_neg h3]
        have t3 : (kd == 3) = false := by simp [h3]
        clear h3
        go_enter Tryz.func85, Tryz.ntmps85
        go_wp2_with fail
        refine (HL'.out _ (((Kep.refl w).alloc _).alloc _)).mono ?_
        rintro e w1 ⟨rfl, k1⟩
        have A1 := hidd (k1.block ((hsk _ _ _ (by simp)).trans (hat w (.cells (accV (kd, ad, sz, vl)) 138) w.heap.size rfl)))
        have F1 := hidd (k1.block (hat (w.alloc (.cells (accV (kd, ad, sz, vl)) 138)) (.cells #[.int .i64 0, .int .u32 0] 100) (w.heap.size + 1) (by simp)))
        have K1 : Hid (Kep w w1) := kep_trans (((Kep.refl w).alloc _).alloc _) k1
        have a0 : w1.cell? ⟨w.heap.size, 0, none⟩ = some (.int .i64 kd) := cell_of_block A1.out
        have a1 : w1.cell? ⟨w.heap.size, 1, none⟩ = some (.int .u32 ad) := cell_of_block A1.out
        have z0 : w1.cell? ⟨w.heap.size + 1, 0, none⟩ = some (.int .i64 0) := cell_of_block F1.out
        have z1 : w1.cell? ⟨w.heap.size + 1, 1, none⟩ = some (.int .u32 0) := cell_of_block F1.out
        have zf := fun j => row_frozen F1.out j
        clear k1
        go_upto_region 8 with fail
        go_region
        go_wp2_with fail
        refine bodyPost_ret (v := .tuple #[.int .u32 0, .agg #[.int .i64 6, .int .u32 ad]]) (resultsT1 (p := 5) (u := 4) (ty := 100) rfl _ _ (w.heap.size + 1) 100 #[.int .i64 6, .int .u32 ad] (0, 0) _ rfl ((drew_heap _ _).trans ((heap_setCell_row (heap_setCell_row F1.out _) _).trans rfl)) Tryz.underlying100 rfl size_flt) rfl ⟨rfl, ?_⟩
        exact ((K1.out.setCell (by simp) _).setCell (by simp) _).drew
theorem rdV_range {B : List Int} (hb : Byts B) (ix : List Nat) (q : Nat) : ∀ k, 0 ≤ rdV B ix q k ∧ rdV B ix q k < 2 ^ (8 * k)
  | 0 => by simp [rdV]
  | k + 1 => by
    have h1 := rdV_range hb ix q k
    have h2 := rdB_range hb ix (q + k)
    have h3 : (2 : Int) ^ (8 * (k + 1)) = 2 ^ (8 * k) * 256 := by rw [Nat.mul_add, Int.pow_add]; rfl
    have h4 : (0 : Int) < 2 ^ (8 * k) := Int.pow_pos (by decide)
    simp only [rdV]
    rw [h3]
    generalize (2 : Int) ^ (8 * k) = P at h1 h4
    have h5 : 0 ≤ rdB B ix (q + k) * P := Int.mul_nonneg h2.1 (by omega)
    have h6 : rdB B ix (q + k) * P ≤ 255 * P := Int.mul_le_mul_of_nonneg_right (by omega) (by omega)
    omega
set_option maxHeartbeats 4000000 in
set_option maxRecDepth 100000 in
theorem mread_any {w : World} {p pm R : Nat} {ix : List Nat} {B : List Int} {vd : Value} {s : Sta} {n : Int} {vn : Value} (bx : Bx w p (mpt pm) vd s n vn) (M : Mem w (mpt pm) R ix B) (q : Nat) (hq : q ≤ 64 * ix.length) (m : Nat) (hm : m ≤ 4) :
    Calls Tryz.prog 87 #[.pointer (some ⟨p, 0, none⟩), .int .u32 q, .int .i64 m] w fun e w' => e = .returned (.int .u32 (rdV B ix q m)) ∧ w' = w := by
  have hmx := M.max
  have HB : Hid (∀ a : Nat, (a : Int) < 4294967296 → Calls Tryz.prog 95 #[.pointer (some ⟨pm, 0, none⟩), .int .u32 a] w fun e w'' => ∃ y, e = .returned (.tuple #[.int .u8 (rdB B ix a), .bool y]) ∧ w'' = w) := fun a ha => by
    refine (byte_any w (mpt pm) R ix B M.ram M.max M.row M.fits a ha).mono ?_
    rintro e w'' ⟨rfl, rfl⟩
    unfold rdB
    split
    · exact ⟨_, rfl, rfl⟩
    · exact ⟨_, rfl, rfl⟩
  have c0 := bx.cm
  have hby := hidd M.byts
  clear bx M
  have hq' : (q : Int) ≤ 32768 := by omega
  have hm' : (m : Int) ≤ 4 := by omega
  clear hq hmx
  go_enter Tryz.func87, Tryz.ntmps87
  go_wp2_with fail
  go_loopw [7, 13] (fun v i wr => ∃ k : Nat, (k : Int) ≤ m ∧ i = .int .u32 k ∧ v = .int .u32 (rdV B ix q k) ∧ wr = w) (fun _ i _ => 100 - (intOf i).toNat)
  case atStart => exact ⟨0, by omega, rfl, rfl, rfl⟩
  case round =>
    obtain ⟨k, hk, rfl, rfl, rfl⟩ := hrel
    by_cases hlt : (k : Int) < m
    · have hlt' : decide (k < m) = true := decide_eq_true (by omega)
      have HBk := hidd (HB.out (q + k) (by omega))
      have hr := rdV_range hby.out ix q k
      have hb := rdB_range hby.out ix (q + k)
      have hj := hidd (join32 (rdV B ix q k) (rdB B ix (q + k)) k (by omega) hr.1 hr.2 hb.1 hb.2)
      have hs : Hid (rdV B ix q (k + 1) = rdV B ix q k + rdB B ix (q + k) * 2 ^ (8 * k)) := rfl
      obtain ⟨v', hv2⟩ : ∃ v', Hid (v' = rdV B ix q (k + 1)) := ⟨_, rfl⟩
      rw [← hv2.out] at hs
      generalize rdV B ix q k = v at hs hj hr
      generalize rdB B ix (q + k) = b at hs hj hb HBk
      have ec : ((q + k : Nat) : Int) = (q : Int) + (k : Int) := by omega
      rw [ec] at HBk
      clear HB ec hlt hk
      have hk4 : k = 0 ∨ k = 1 ∨ k = 2 ∨ k = 3 := by have := of_decide_eq_true hlt'; omega
      rcases hk4 with rfl | rfl | rfl | rfl
      · have tl : decide ((0 : Int) < (m : Int)) = true := decide_eq_true (by have := of_decide_eq_true hlt'; omega)
        have tm : (0 : Int) < (m : Int) := of_decide_eq_true tl
        have hv : Hid (bits .or .u32 v b = v') := by
          have h1 := hj.out
          have h2 := hs.out
          unfold Hid
          rw [h2]
          simpa using h1
        clear hj hs
        go_wp2_with fail
        refine HBk.out.mono ?_
        rintro e w1 ⟨y, rfl, rfl⟩
        go_wp2_with fail
        go_roundw
        case rel => exact ⟨1, by omega, rfl, congrArg (Value.int .u32) (hv.out.trans hv2.out), by first | trivial | rfl⟩
        case measure => simp [intOf]
      · have tl : decide ((1 : Int) < (m : Int)) = true := decide_eq_true (by have := of_decide_eq_true hlt'; omega)
        have tm : (1 : Int) < (m : Int) := of_decide_eq_true tl
        have hv : Hid (bits .or .u32 v (b * 256) = v') := by
          have h1 := hj.out
          have h2 := hs.out
          unfold Hid
          rw [h2]
          simpa using h1
        clear hj hs
        go_wp2_with fail
        refine HBk.out.mono ?_
        rintro e w1 ⟨y, rfl, rfl⟩
        go_wp2_with fail
        go_roundw
        case rel => exact ⟨2, by omega, rfl, congrArg (Value.int .u32) (hv.out.trans hv2.out), by first | trivial | rfl⟩
        case measure => simp [intOf]
      · have tl : decide ((2 : Int) < (m : Int)) = true := decide_eq_true (by have := of_decide_eq_true hlt'; omega)
        have tm : (2 : Int) < (m : Int) := of_decide_eq_true tl
        have hv : Hid (bits .or .u32 v (b * 65536) = v') := by
          have h1 := hj.out
          have h2 := hs.out
          unfold Hid
          rw [h2]
          simpa using h1
        clear hj hs
        go_wp2_with fail
        refine HBk.out.mono ?_
        rintro e w1 ⟨y, rfl, rfl⟩
        go_wp2_with fail
        go_roundw
        case rel => exact ⟨3, by omega, rfl, congrArg (Value.int .u32) (hv.out.trans hv2.out), by first | trivial | rfl⟩
        case measure => simp [intOf]
      · have tl : decide ((3 : Int) < (m : Int)) = true := decide_eq_true (by have := of_decide_eq_true hlt'; omega)
        have tm : (3 : Int) < (m : Int) := of_decide_eq_true tl
        have hv : Hid (bits .or .u32 v (b * 16777216) = v') := by
          have h1 := hj.out
          have h2 := hs.out
          unfold Hid
          rw [h2]
          simpa using h1
        clear hj hs
        go_wp2_with fail
        refine HBk.out.mono ?_
        rintro e w1 ⟨y, rfl, rfl⟩
        go_wp2_with fail
        go_roundw
        case rel => exact ⟨4, by omega, rfl, congrArg (Value.int .u32) (hv.out.trans hv2.out), by first | trivial | rfl⟩
        case measure => simp [intOf]
    · have hlt' : decide (k < m) = false := decide_eq_false (by omega)
      obtain rfl : k = m := by omega
      clear HB
      go_wp2_with fail
      go_ret
      exact ⟨rfl, rfl⟩
theorem wrM_len (B : List Int) (ix : List Nat) (q : Nat) (v : Int) : ∀ k, (wrM B ix q v k).length = B.length
  | 0 => rfl
  | k + 1 => by unfold wrM; split <;> simp [wrM_len B ix q v k]
theorem wrM_byts {B : List Int} (hb : Byts B) (ix : List Nat) (q : Nat) (v : Int) : ∀ k, Byts (wrM B ix q v k)
  | 0 => hb
  | k + 1 => by
    unfold wrM; split
    · intro b hm
      rcases List.mem_or_eq_of_mem_set hm with h | h
      · exact wrM_byts hb ix q v k b h
      · subst h; omega
    · exact wrM_byts hb ix q v k
set_option maxHeartbeats 4000000 in
set_option maxRecDepth 100000 in
theorem mwrite_any {w : World} {p pm R : Nat} {ix : List Nat} {B : List Int} {vd : Value} {s : Sta} {n : Int} {vn : Value} (bx : Bx w p (mpt pm) vd s n vn) (M : Mem w (mpt pm) R ix B) (hB : B ≠ []) (hpR : p ≠ R) (q : Nat) (hq : q ≤ 64 * ix.length) (kd ad vl : Int) (hv : 0 ≤ vl ∧ vl < 4294967296) (m : Nat) (hm : m ≤ 4) :
    Calls Tryz.prog 90 #[.pointer (some ⟨p, 0, none⟩), .int .u32 q, .agg (accV (kd, ad, m, vl))] w fun e w' => e = .returned (.tuple #[]) ∧ Put [R] w w' ∧ RowB w' R (wrM B ix q vl m) := by
  have hmx := M.max
  have HS : Hid (∀ w' (C : List Int) (a : Nat) (b : Int), Put [R] w w' → RowB w' R C → C.length = B.length → (a : Int) < 4294967296 → Calls Tryz.prog 117 #[.pointer (some ⟨pm, 0, none⟩), .int .u32 a, .int .u8 b] w' fun e w'' => (∃ y, e = .returned (.bool y)) ∧ Put [R] w' w'' ∧ RowB w'' R (if a < 64 * ix.length then C.set (pos ix a) b else C)) := fun w' C a b P hC hl ha => by
    refine (setByte_put w' (mpt pm) R ix C (M.ram.put P) M.max hC (M.fits.len hl) a ha b).mono ?_
    rintro e w'' ⟨rfl, h1, h2⟩
    exact ⟨⟨_, rfl⟩, h1, h2⟩
  have lR := M.row.lt hB
  have lp := bx.lt
  have CW : Hid (∀ w', Put [R] (w.alloc (.cells (accV (kd, ad, m, vl)) 138)) w' → w'.cell? ⟨p, 0, none⟩ = some (.pointer (some ⟨pm, 0, none⟩)) ∧ w'.cell? ⟨w.heap.size, 3, none⟩ = some (.int .u32 vl)) := fun w' P => ⟨((bx.kep ((Kep.refl w).alloc _)).put P (by simpa using hpR)).cm, cell_of_block (P.keeps (hat w _ _ rfl) (by simp; omega))⟩
  have PA : Hid (Put [R] w (w.alloc (.cells (accV (kd, ad, m, vl)) 138))) := (Put.refl w).alloc _
  have RA : Hid (RowB (w.alloc (.cells (accV (kd, ad, m, vl)) 138)) R B) := M.row.kep ((Kep.refl w).alloc _)
  clear bx M
  have hq' : (q : Int) ≤ 32768 := by omega
  have hm' : (m : Int) ≤ 4 := by omega
  clear hq hmx
  go_enter Tryz.func90, Tryz.ntmps90
  go_wp2_with fail
  go_loopw [10] (fun i wr => ∃ k : Nat, (k : Int) ≤ m ∧ i = .int .u32 k ∧ Hid (Put [R] (w.alloc (.cells (accV (kd, ad, m, vl)) 138)) wr ∧ RowB wr R (wrM B ix q vl k))) (fun i _ => 100 - (intOf i).toNat)
  case atStart => exact ⟨0, by omega, rfl, Put.refl _, RA.out⟩
  case round =>
    obtain ⟨k, hk, rfl, A⟩ := hrel
    by_cases hlt : (k : Int) < m
    · have hlt' : decide (k < m) = true := decide_eq_true (by omega)
      obtain ⟨c0, c1⟩ := CW.out wr A.out.1
      have HSk := hidd (HS.out wr.drew (wrM B ix q vl k) (q + k) (vl / 2 ^ (8 * k) % 256) (PA.out.trans A.out.1).drew A.out.2 (wrM_len B ix q vl k) (by omega))
      have hs : Hid (wrM B ix q vl (k + 1) = if q + k < 64 * ix.length then (wrM B ix q vl k).set (pos ix (q + k)) (vl / 2 ^ (8 * k) % 256) else wrM B ix q vl k) := rfl
      rw [← hs.out] at HSk
      have ec : ((q + k : Nat) : Int) = (q : Int) + (k : Int) := by omega
      rw [ec] at HSk
      clear HS ec hlt hk hs RA
      have hk4 : k = 0 ∨ k = 1 ∨ k = 2 ∨ k = 3 := by have := of_decide_eq_true hlt'; omega
      rcases hk4 with rfl | rfl | rfl | rfl
      · have tl : decide ((0 : Int) < (m : Int)) = true := decide_eq_true (by have := of_decide_eq_true hlt'; omega)
        have tm : (0 : Int) < (m : Int) := of_decide_eq_true tl
        have HS' : Hid (Calls Tryz.prog 117 #[.pointer (some ⟨pm, 0, none⟩), .int .u32 (IntKind.u32.wrap (q : Int)), .int .u8 (IntKind.u8.wrap (vl / 2 ^ min (IntKind.u32.wrap 0).toNat 32))] wr.drew fun e w'' => (∃ y, e = .returned (.bool y)) ∧ Put [R] wr.drew w'' ∧ RowB w'' R (wrM B ix q vl 1)) := by
          have e1 : IntKind.u32.wrap (q : Int) = (q : Int) + ((0 : Nat) : Int) := by rw [IntKind.wrap_u32]; omega
          have e2 : IntKind.u8.wrap (vl / 2 ^ min (IntKind.u32.wrap 0).toNat 32) = vl / 2 ^ (8 * 0) % 256 := by
            have e3 : min (IntKind.u32.wrap 0).toNat 32 = 8 * 0 := by rw [IntKind.wrap_u32]; decide
            rw [e3, IntKind.wrap_u8]
          rw [e1, e2]; exact HSk.out
        clear HSk
        go_wp2_with fail
        go_region_with (go_at_call 117; refine HS'.out.mono ?_; rintro e w1 ⟨⟨y, rfl⟩, p1, r1⟩; have P1 := hidd p1; have R1 := hidd r1; clear p1 r1)
        all_goals
          go_wp2_with fail
          go_roundw
          case rel => exact ⟨1, by omega, rfl, A.out.1.drew.trans P1.out, R1.out⟩
          case measure => simp [intOf]
      · have tl : decide ((1 : Int) < (m : Int)) = true := decide_eq_true (by have := of_decide_eq_true hlt'; omega)
        have tm : (1 : Int) < (m : Int) := of_decide_eq_true tl
        have HS' : Hid (Calls Tryz.prog 117 #[.pointer (some ⟨pm, 0, none⟩), .int .u32 (IntKind.u32.wrap ((q : Int) + 1)), .int .u8 (IntKind.u8.wrap (vl / 2 ^ min (IntKind.u32.wrap 8).toNat 32))] wr.drew fun e w'' => (∃ y, e = .returned (.bool y)) ∧ Put [R] wr.drew w'' ∧ RowB w'' R (wrM B ix q vl 2)) := by
          have e1 : IntKind.u32.wrap ((q : Int) + 1) = (q : Int) + ((1 : Nat) : Int) := by rw [IntKind.wrap_u32]; omega
          have e2 : IntKind.u8.wrap (vl / 2 ^ min (IntKind.u32.wrap 8).toNat 32) = vl / 2 ^ (8 * 1) % 256 := by
            have e3 : min (IntKind.u32.wrap 8).toNat 32 = 8 * 1 := by rw [IntKind.wrap_u32]; decide
            rw [e3, IntKind.wrap_u8]
          rw [e1, e2]; exact HSk.out
        clear HSk
        go_wp2_with fail
        go_region_with (go_at_call 117; refine HS'.out.mono ?_; rintro e w1 ⟨⟨y, rfl⟩, p1, r1⟩; have P1 := hidd p1; have R1 := hidd r1; clear p1 r1)
        all_goals
          go_wp2_with fail
          go_roundw
          case rel => exact ⟨2, by omega, rfl, A.out.1.drew.trans P1.out, R1.out⟩
          case measure => simp [intOf]
      · have tl : decide ((2 : Int) < (m : Int)) = true := decide_eq_true (by have := of_decide_eq_true hlt'; omega)
        have tm : (2 : Int) < (m : Int) := of_decide_eq_true tl
        have HS' : Hid (Calls Tryz.prog 117 #[.pointer (some ⟨pm, 0, none⟩), .int .u32 (IntKind.u32.wrap ((q : Int) + 2)), .int .u8 (IntKind.u8.wrap (vl / 2 ^ min (IntKind.u32.wrap 16).toNat 32))] wr.drew fun e w'' => (∃ y, e = .returned (.bool y)) ∧ Put [R] wr.drew w'' ∧ RowB w'' R (wrM B ix q vl 3)) := by
          have e1 : IntKind.u32.wrap ((q : Int) + 2) = (q : Int) + ((2 : Nat) : Int) := by rw [IntKind.wrap_u32]; omega
          have e2 : IntKind.u8.wrap (vl / 2 ^ min (IntKind.u32.wrap 16).toNat 32) = vl / 2 ^ (8 * 2) % 256 := by
            have e3 : min (IntKind.u32.wrap 16).toNat 32 = 8 * 2 := by rw [IntKind.wrap_u32]; decide
            rw [e3, IntKind.wrap_u8]
          rw [e1, e2]; exact HSk.out
        clear HSk
        go_wp2_with fail
        go_region_with (go_at_call 117; refine HS'.out.mono ?_; rintro e w1 ⟨⟨y, rfl⟩, p1, r1⟩; have P1 := hidd p1; have R1 := hidd r1; clear p1 r1)
        all_goals
          go_wp2_with fail
          go_roundw
          case rel => exact ⟨3, by omega, rfl, A.out.1.drew.trans P1.out, R1.out⟩
          case measure => simp [intOf]
      · have tl : decide ((3 : Int) < (m : Int)) = true := decide_eq_true (by have := of_decide_eq_true hlt'; omega)
        have tm : (3 : Int) < (m : Int) := of_decide_eq_true tl
        have HS' : Hid (Calls Tryz.prog 117 #[.pointer (some ⟨pm, 0, none⟩), .int .u32 (IntKind.u32.wrap ((q : Int) + 3)), .int .u8 (IntKind.u8.wrap (vl / 2 ^ min (IntKind.u32.wrap 24).toNat 32))] wr.drew fun e w'' => (∃ y, e = .returned (.bool y)) ∧ Put [R] wr.drew w'' ∧ RowB w'' R (wrM B ix q vl 4)) := by
          have e1 : IntKind.u32.wrap ((q : Int) + 3) = (q : Int) + ((3 : Nat) : Int) := by rw [IntKind.wrap_u32]; omega
          have e2 : IntKind.u8.wrap (vl / 2 ^ min (IntKind.u32.wrap 24).toNat 32) = vl / 2 ^ (8 * 3) % 256 := by
            have e3 : min (IntKind.u32.wrap 24).toNat 32 = 8 * 3 := by rw [IntKind.wrap_u32]; decide
            rw [e3, IntKind.wrap_u8]
          rw [e1, e2]; exact HSk.out
        clear HSk
        go_wp2_with fail
        go_region_with (go_at_call 117; refine HS'.out.mono ?_; rintro e w1 ⟨⟨y, rfl⟩, p1, r1⟩; have P1 := hidd p1; have R1 := hidd r1; clear p1 r1)
        all_goals
          go_wp2_with fail
          go_roundw
          case rel => exact ⟨4, by omega, rfl, A.out.1.drew.trans P1.out, R1.out⟩
          case measure => simp [intOf]
    · have hlt' : decide (k < m) = false := decide_eq_false (by omega)
      obtain rfl : k = m := by omega
      clear HS CW RA
      go_wp2_with fail
      go_end0
      exact ⟨rfl, PA.out.trans A.out.1, A.out.2⟩
end Go.Proofs.YtnignfloedcmlaaGreatDoor
