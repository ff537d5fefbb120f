/- Part of a proof. -/
import Derived.LoopTactic
import Derived.Laws.BitsLemmas
import Derived.Deep.RegionWith
import Derived.Deep.CutRange
import Derived.Test.YtnignfloedcmlaaGreatDoorJ01
namespace Go.Proofs.YtnignfloedcmlaaGreatDoor
open Go.RowKit
set_option linter.unusedVariables false
set_option linter.unusedSimpArgs false
def sLo (k : Nat) : Int := [0, 16, 32, 33, 48, 56, 58, 64, 73, 80, 96, 98, 112, 113].getD k 0
def sHi (k : Nat) : Int := [3, 31, 32, 33, 55, 57, 58, 72, 74, 80, 97, 101, 112, 113].getD k 0
def sRow (k : Nat) : Nat := [1, 3, 9, 5, 6, 2, 3, 7, 2, 4, 2, 3, 4, 8].getD k 0
def sHost (k : Nat) : Bool := [false, false, false, false, false, false, false, false, false, false, false, false, true, true].getD k false
def f0 (r : Nat) : Int := [0, 1, 1, 1, 1, 1, 1, 1, 1, 1].getD r 0
def f1 (r : Nat) : Int := [0, 0, 7, 7, 0, 7, 7, 0, 0, 7].getD r 0
def f2 (r : Nat) : Int := [0, 0, 0, 7, 0, 0, 7, 0, 0, 0].getD r 0
def f3 (r : Nat) : Int := [0, 0, 0, 0, 1, 1, 1, 2, 2, 4].getD r 0
def f4 (r : Nat) : Int := [0, 0, 0, 0, 0, 1, 1, 1, 0, 1].getD r 0
def spanA (k : Nat) : Array Value := #[.int .u8 (sLo k), .int .u8 (sHi k), .int .u8 (sRow k), .bool (sHost k)]
def formA (r : Nat) : Array Value := #[.int .u8 (f0 r), .int .u8 (f1 r), .int .u8 (f2 r), .int .u8 (f3 r), .int .u8 (f4 r)]
def spansC : Array Value := ((List.range 14).flatMap fun k => (spanA k).toList).toArray
def formsC : Array Value := ((List.range 10).flatMap fun r => (formA r).toList).toArray
def Tabs (w : World) : Prop := (∃ t, w.heap[0]? = some (.cells formsC t (0, 0))) ∧ ∃ t, w.heap[1]? = some (.cells spansC t (0, 0))
theorem Tabs.grown {w w' : World} (h : Tabs w) (g : Kep w w') : Tabs w' := by
  obtain ⟨⟨t, h0⟩, t1, h1⟩ := h
  exact ⟨⟨t, g.block h0⟩, t1, g.block h1⟩
theorem formsC_at (r j : Nat) (hr : r < 10) (hj : j < 5) : formsC[r * 5 + j]? = (formA r)[j]? := by
  have h : ∀ r, r < 10 → ∀ j, j < 5 → formsC[r * 5 + j]? = (formA r)[j]? := by
    intro r hr j hj
    rcases (by omega : r = 0 ∨ r = 1 ∨ r = 2 ∨ r = 3 ∨ r = 4 ∨ r = 5 ∨ r = 6 ∨ r = 7 ∨ r = 8 ∨ r = 9) with rfl | rfl | rfl | rfl | rfl | rfl | rfl | rfl | rfl | rfl <;>
      rcases (by omega : j = 0 ∨ j = 1 ∨ j = 2 ∨ j = 3 ∨ j = 4) with rfl | rfl | rfl | rfl | rfl <;> rfl
  exact h r hr j hj
theorem Tabs.form {w : World} (h : Tabs w) (r : Nat) (hr : r < 10) : w.cell? ⟨0, r * 5, none⟩ = some (.int .u8 (f0 r)) ∧ w.cell? ⟨0, r * 5 + 1, none⟩ = some (.int .u8 (f1 r)) ∧
    w.cell? ⟨0, r * 5 + 2, none⟩ = some (.int .u8 (f2 r)) ∧ w.cell? ⟨0, r * 5 + 3, none⟩ = some (.int .u8 (f3 r)) ∧ w.cell? ⟨0, r * 5 + 4, none⟩ = some (.int .u8 (f4 r)) := by
  obtain ⟨⟨t, h0⟩, _⟩ := h
  refine ⟨?_, ?_, ?_, ?_, ?_⟩
  · rw [cell_of_block h0]; exact formsC_at r 0 hr (by decide)
  · rw [cell_of_block h0]; exact formsC_at r 1 hr (by decide)
  · rw [cell_of_block h0]; exact formsC_at r 2 hr (by decide)
  · rw [cell_of_block h0]; exact formsC_at r 3 hr (by decide)
  · rw [cell_of_block h0]; exact formsC_at r 4 hr (by decide)
theorem tabs_size {w : World} (h : Tabs w) : 0 < w.heap.size ∧ 1 < w.heap.size := by
  obtain ⟨⟨t, h0⟩, t1, h1⟩ := h
  have a : 0 < w.heap.size := by
    rcases Nat.lt_or_ge 0 w.heap.size with h | h
    · exact h
    · rw [Array.getElem?_eq_none h] at h0; cases h0
  have b : 1 < w.heap.size := by
    rcases Nat.lt_or_ge 1 w.heap.size with h | h
    · exact h
    · rw [Array.getElem?_eq_none h] at h1; cases h1
  omega
theorem sRow_lt : ∀ k, k < 14 → sRow k < 10 := by decide
def matchB (k : Nat) (op : Int) (host : Bool) : Bool := (decide (sLo k ≤ op) && decide (op ≤ sHi k)) && (host || !sHost k)
def rowOf (op : Int) (host : Bool) : Nat :=
  if op = 0 ∨ op = 1 ∨ op = 2 ∨ op = 3 then 1 else
  if (16 ≤ op ∧ op ≤ 31) ∨ op = 58 ∨ op = 98 ∨ op = 99 ∨ op = 100 ∨ op = 101 then 3 else
  if op = 73 ∨ op = 74 ∨ op = 56 ∨ op = 57 ∨ op = 96 ∨ op = 97 then 2 else
  if op = 80 ∨ (op = 112 ∧ host = true) then 4 else
  if op = 33 then 5 else
  if 48 ≤ op ∧ op ≤ 55 then 6 else
  if 64 ≤ op ∧ op ≤ 72 then 7 else
  if op = 113 ∧ host = true then 8 else
  if op = 32 then 9 else 0
theorem rowOf_lt (op : Int) (host : Bool) : rowOf op host < 10 := by unfold rowOf; (repeat' split) <;> decide
theorem row_hit_all : ∀ n : Nat, n < 256 → ∀ host : Bool, ∀ k : Nat, k < 14 → matchB k n host = true → rowOf n host = sRow k := by decide +kernel
theorem row_miss_all : ∀ n : Nat, n < 256 → ∀ host : Bool, (∀ k : Nat, k < 14 → matchB k n host = false) → rowOf n host = 0 := by decide +kernel
theorem row_hit (op : Int) (h0 : 0 ≤ op) (h1 : op < 256) (host : Bool) (k : Nat) (hk : k < 14) (h : matchB k op host = true) : rowOf op host = sRow k := by
  obtain ⟨n, rfl⟩ : ∃ n : Nat, op = n := ⟨op.toNat, by omega⟩
  exact row_hit_all n (by omega) host k hk h
theorem row_miss (op : Int) (h0 : 0 ≤ op) (h1 : op < 256) (host : Bool) (h : ∀ k : Nat, k < 14 → matchB k op host = false) : rowOf op host = 0 := by
  obtain ⟨n, rfl⟩ : ∃ n : Nat, op = n := ⟨op.toNat, by omega⟩
  exact row_miss_all n (by omega) host h
theorem size43 : (Tryz.prog.info? 179).map (·.size) = some 5 := by kernel_rfl
theorem form_one (r : Nat) : (formA r).all (·.oneCell') = true := by simp [formA, Value.oneCell']
theorem span_at (k : Nat) (hk : k < 14) (w : World) : (Instr.index 207 (.agg spansC) (.int .i64 k)).run Tryz.prog w = .ok (.agg (spanA k)) w := by
  rcases (by omega : k = 0 ∨ k = 1 ∨ k = 2 ∨ k = 3 ∨ k = 4 ∨ k = 5 ∨ k = 6 ∨ k = 7 ∨ k = 8 ∨ k = 9 ∨ k = 10 ∨ k = 11 ∨ k = 12 ∨ k = 13) with rfl | rfl | rfl | rfl | rfl | rfl | rfl | rfl | rfl | rfl | rfl | rfl | rfl | rfl <;> kernel_rfl
set_option maxHeartbeats 1000000 in
set_option maxRecDepth 100000 in
theorem formOf_any (op : Int) (host : Bool) (w : World) (h0 : 0 ≤ op) (h1 : op < 256) (hT : Tabs w) :
    Calls Tryz.prog 96 #[.int .u8 op, .bool host] w fun e w' => e = .returned (.agg (formA (rowOf op host))) ∧ Kep w w' := by
  obtain ⟨ts, hs⟩ := hT.2
  have hs' : (w.alloc (.cells #[.int .u8 0, .int .u8 0, .int .u8 0, .int .u8 0, .int .u8 0] 179)).heap[1]? = some (.cells spansC ts (0, 0)) := ((Kep.refl _).alloc _).block hs
  obtain ⟨M, hM⟩ : ∃ M : Nat → Bool, Hid (∀ j, M j = matchB j op host) := ⟨_, fun _ => rfl⟩
  cases host
  all_goals
    go_enter Tryz.func96, Tryz.ntmps96
    go_wp2_with (refine wpList_load_row rfl 207 _ rfl 1 rfl ts _ (0, 0) _ hs' Tryz.underlying207 rfl (by kernel_rfl) ?_)
    go_loopw [8] (fun i wr => ∃ k : Nat, k ≤ 14 ∧ i = .int .i64 k ∧ Hid (Kep (w.alloc (.cells #[.int .u8 0, .int .u8 0, .int .u8 0, .int .u8 0, .int .u8 0] 179)) wr) ∧ Hid (∀ j : Nat, j < k → M j = false)) (fun i _ => 14 - (intOf i).toNat)
    case atStart => exact ⟨0, Nat.zero_le _, rfl, Kep.refl _, fun j hj => absurd hj (Nat.not_lt_zero j)⟩
    case round =>
      obtain ⟨k, hk, rfl, hg, hm⟩ := hrel
      have hG : Hid (Kep w wr) := kep_trans ((Kep.refl _).alloc _) hg
      have hT' := hT.grown hG
      have z0 : 0 < wr.heap.size := Nat.lt_of_lt_of_le (by have := tabs_size hT; omega) hG.size
      have z1 : w.heap.size < wr.heap.size := Nat.lt_of_lt_of_le (by simp) hg.size
      have hrow : wr.heap[w.heap.size]? = some (.cells #[.int .u8 0, .int .u8 0, .int .u8 0, .int .u8 0, .int .u8 0] 179 (0, 0)) := hg.block (heap_alloc_new _ _)
      have hrow2 := ((Kep.refl wr).alloc (.cells #[.int .u8 (sLo k), .int .u8 (sHi k), .int .u8 (sRow k), .bool (sHost k)] 206)).block hrow
      clear hs hs'
      rcases Nat.lt_or_ge k 14 with h14 | h14
      · have hi := span_at k h14
        unfold spanA at hi
        have hr2 := sRow_lt k h14
        have hr0 : (0 : Int) ≤ sRow k := by omega
        have hr1 : (sRow k : Int) < 10 := by omega
        obtain ⟨c0, c1, c2, c3, c4⟩ := hT'.form (sRow k) hr2
        clear hrow
        have hb : ∃ b, Hid (sHost k = b) ∧ sHost k = b := ⟨_, rfl, rfl⟩
        obtain ⟨b, hb, hb'⟩ := hb
        rw [hb'] at hi hrow2
        clear hb'
        cases b
        all_goals go_wp2_with ((refine wpList_store_row rfl 179 _ _ rfl w.heap.size (formA (sRow k)) rfl rfl 179 _ hrow2 size43 rfl (form_one _) ?_))
        all_goals first
          | (try simp only [Exit.inBlock, Exit.then]
             refine bodyPost_ret (results_cell_row rfl _ _ w.heap.size 179 (formA (sRow k)) (0, 0) _ rfl (setRow_heap _ _ _ _ _ _ hrow2) Tryz.underlying179 rfl size43) rfl ⟨?_, ?_⟩
             · rw [row_hit op h0 h1 _ k h14 (by have hb' := hb.out; clear hi hm hM; simp_all [matchB])]
             · exact (hG.alloc _).setRow _ _ (Nat.le_refl _))
          | (go_roundw
             case rel =>
               refine ⟨k + 1, by omega, by go_num, hg.alloc _, fun j hj => ?_⟩
               rcases Nat.lt_or_ge j k with hjk | hjk
               · exact hm j hjk
               · obtain rfl : j = k := by omega
                 have hb' := hb.out
                 rw [hM.out]
                 clear hm hM
                 clear hi
                 simp_all [matchB]
                 try omega
             case measure => simp [intOf]; omega)
      · obtain rfl : k = 14 := by omega
        obtain ⟨c0, c1, c2, c3, c4⟩ := hT'.form 0 (by decide)
        clear hrow2
        go_wp2_with (refine wpList_store_row rfl 179 _ _ rfl w.heap.size (formA 0) rfl rfl 179 _ hrow size43 rfl (form_one _) ?_)
        try simp only [Exit.inBlock, Exit.then]
        refine bodyPost_ret (results_cell_row rfl _ _ w.heap.size 179 (formA 0) (0, 0) _ rfl (setRow_heap _ _ _ _ _ _ hrow) Tryz.underlying179 rfl size43) rfl ⟨?_, ?_⟩
        · rw [row_miss op h0 h1 _ (fun j hj => (hM.out j).symm.trans (hm j hj))]
        · exact hG.setRow _ _ (Nat.le_refl _)
def sz (r : Nat) : Int := [0, 1, 2, 2, 2, 3, 3, 3, 3, 6].getD r 0
def lo (r : Nat) : Int := [0, 0, 0, 0, 0, -128, -128, -32768, 0, -2147483648].getD r 0
def hi (r : Nat) : Int := [0, 0, 0, 0, 255, 127, 127, 32767, 65535, 2147483647].getD r 0
def hasA (r : Nat) : Bool := [false, false, true, true, false, true, true, false, false, true].getD r false
theorem ten {p : Nat → Prop} (r : Nat) (hr : r < 10) (h0 : p 0) (h1 : p 1) (h2 : p 2) (h3 : p 3) (h4 : p 4) (h5 : p 5) (h6 : p 6) (h7 : p 7) (h8 : p 8) (h9 : p 9) : p r := by
  rcases (by omega : r = 0 ∨ r = 1 ∨ r = 2 ∨ r = 3 ∨ r = 4 ∨ r = 5 ∨ r = 6 ∨ r = 7 ∨ r = 8 ∨ r = 9) with rfl | rfl | rfl | rfl | rfl | rfl | rfl | rfl | rfl | rfl <;> assumption
set_option maxHeartbeats 400000 in
theorem has_of (a b c d e : Int) (w : World) :
    Calls Tryz.prog 124 #[.agg #[.int .u8 a, .int .u8 b, .int .u8 c, .int .u8 d, .int .u8 e]] w fun x w' => x = .returned (.bool (decide (b > 0))) ∧ w' = w.alloc (.cells #[.int .u8 a, .int .u8 b, .int .u8 c, .int .u8 d, .int .u8 e] 179) := by
  go_enter Tryz.func124, Tryz.ntmps124
  go_wp2
  go_ret
  exact ⟨rfl, rfl⟩
theorem has_any (r : Nat) (hr : r < 10) (w : World) :
    Calls Tryz.prog 124 #[.agg (formA r)] w fun x w' => x = .returned (.bool (hasA r)) ∧ w' = w.alloc (.cells (formA r) 179) := by
  have e : hasA r = decide (f1 r > 0) := ten (p := fun r => hasA r = decide (f1 r > 0)) r hr rfl rfl rfl rfl rfl rfl rfl rfl rfl rfl
  rw [e]; exact has_of _ _ _ _ _ w
set_option maxHeartbeats 400000 in
theorem size_of (a b c d e : Int) (w : World) (h0 : 0 ≤ a) (h1 : a ≤ 1) (h2 : 0 ≤ d) (h3 : d ≤ 4) :
    Calls Tryz.prog 97 #[.agg #[.int .u8 a, .int .u8 b, .int .u8 c, .int .u8 d, .int .u8 e]] w fun x w' => x = .returned (.int .i64 (a + d + if b > 0 then 1 else 0)) ∧ w' = (w.alloc (.cells #[.int .u8 a, .int .u8 b, .int .u8 c, .int .u8 d, .int .u8 e] 179)).alloc (.cells #[.int .u8 a, .int .u8 b, .int .u8 c, .int .u8 d, .int .u8 e] 179) := by
  go_enter Tryz.func97, Tryz.ntmps97
  go_wp2_with fail
  refine (has_of _ _ _ _ _ _).mono ?_
  rintro x w1 ⟨rfl, rfl⟩
  go_wp2_with fail
  all_goals go_ret
  all_goals exact ⟨ret_int (by simp_all <;> omega), rfl⟩
theorem size_any (r : Nat) (hr : r < 10) (w : World) :
    Calls Tryz.prog 97 #[.agg (formA r)] w fun x w' => x = .returned (.int .i64 (sz r)) ∧ w' = (w.alloc (.cells (formA r) 179)).alloc (.cells (formA r) 179) := by
  have e : sz r = f0 r + f3 r + if f1 r > 0 then 1 else 0 := ten (p := fun r => sz r = f0 r + f3 r + if f1 r > 0 then 1 else 0) r hr rfl rfl rfl rfl rfl rfl rfl rfl rfl rfl
  have a0 : 0 ≤ f0 r ∧ f0 r ≤ 1 ∧ 0 ≤ f3 r ∧ f3 r ≤ 4 := by refine ten (p := fun r => 0 ≤ f0 r ∧ f0 r ≤ 1 ∧ 0 ≤ f3 r ∧ f3 r ≤ 4) r hr ?_ ?_ ?_ ?_ ?_ ?_ ?_ ?_ ?_ ?_ <;> decide
  rw [e]; exact size_of _ _ _ _ _ w a0.1 a0.2.1 a0.2.2.1 a0.2.2.2
set_option maxHeartbeats 400000 in
theorem imm_s (a b c : Int) (w : World) (d n : Int) (hd : d = 1 ∧ n = 128 ∨ d = 2 ∧ n = 32768 ∨ d = 4 ∧ n = 2147483648) :
    Calls Tryz.prog 100 #[.agg #[.int .u8 a, .int .u8 b, .int .u8 c, .int .u8 d, .int .u8 1]] w fun x w' => x = .returned (.tuple #[.int .i64 (-n), .int .i64 (n - 1)]) ∧ Kep w w' := by
  rcases hd with ⟨rfl, rfl⟩ | ⟨rfl, rfl⟩ | ⟨rfl, rfl⟩
  all_goals
    go_enter Tryz.func100, Tryz.ntmps100
    go_wp2
    go_ret2
    exact ⟨rfl, (Kep.refl _).alloc _⟩
set_option maxHeartbeats 400000 in
theorem imm_u (a b c : Int) (w : World) (d n : Int) (hd : d = 0 ∧ n = 0 ∨ d = 1 ∧ n = 255 ∨ d = 2 ∧ n = 65535) :
    Calls Tryz.prog 100 #[.agg #[.int .u8 a, .int .u8 b, .int .u8 c, .int .u8 d, .int .u8 0]] w fun x w' => x = .returned (.tuple #[.int .i64 0, .int .i64 n]) ∧ Kep w w' := by
  rcases hd with ⟨rfl, rfl⟩ | ⟨rfl, rfl⟩ | ⟨rfl, rfl⟩
  all_goals
    go_enter Tryz.func100, Tryz.ntmps100
    go_wp2
    go_ret2
    exact ⟨rfl, (Kep.refl _).alloc _⟩
theorem imm_any (r : Nat) (hr : r < 10) (w : World) :
    Calls Tryz.prog 100 #[.agg (formA r)] w fun x w' => x = .returned (.tuple #[.int .i64 (lo r), .int .i64 (hi r)]) ∧ Kep w w' :=
  ten (p := fun r => Calls Tryz.prog 100 #[.agg (formA r)] w fun x w' => x = .returned (.tuple #[.int .i64 (lo r), .int .i64 (hi r)]) ∧ Kep w w') r hr
    (imm_u 0 0 0 w 0 0 (by simp)) (imm_u 1 0 0 w 0 0 (by simp)) (imm_u 1 7 0 w 0 0 (by simp)) (imm_u 1 7 7 w 0 0 (by simp)) (imm_u 1 0 0 w 1 255 (by simp))
    (imm_s 1 7 0 w 1 128 (by simp)) (imm_s 1 7 7 w 1 128 (by simp)) (imm_s 1 0 0 w 2 32768 (by simp)) (imm_u 1 0 0 w 2 65535 (by simp)) (imm_s 1 7 0 w 4 2147483648 (by simp))
set_option maxHeartbeats 400000 in
theorem bytes_any (op : Int) (host : Bool) (w : World) (h0 : 0 ≤ op) (h1 : op < 256) (hT : Tabs w) :
    Calls Tryz.prog 78 #[.int .u8 op, .bool host] w fun e w' => e = .returned (.int .i64 (sz (rowOf op host))) ∧ Kep w w' := by
  go_enter Tryz.func78, Tryz.ntmps78
  go_wp2_with fail
  refine (formOf_any op host w h0 h1 hT).mono ?_
  rintro e w1 ⟨rfl, g1⟩
  go_wp2_with fail
  refine (size_any _ (rowOf_lt _ _) _).mono ?_
  rintro e w2 ⟨rfl, rfl⟩
  go_wp2_with fail
  go_ret
  exact ⟨rfl, (g1.alloc _).alloc _⟩
def zat (zs : List Int) (i : Nat) : Int := zs.getD i 0
def rawL (zs : List Int) (p : Nat) : Nat → Int
  | 0 => 0
  | k + 1 => rawL zs p k + zat zs (p + k) * 2 ^ (8 * k)
theorem zat_range {zs : List Int} (hz : ∀ n ∈ zs, 0 ≤ n ∧ n < 256) (i : Nat) : 0 ≤ zat zs i ∧ zat zs i < 256 := by
  unfold zat
  rw [List.getD_eq_getElem?_getD]
  cases h : zs[i]? with
  | none => simp
  | some x => exact hz x (List.mem_of_getElem? h)
theorem rawL_range {zs : List Int} (hz : ∀ n ∈ zs, 0 ≤ n ∧ n < 256) (p : Nat) : ∀ k, 0 ≤ rawL zs p k ∧ rawL zs p k < 2 ^ (8 * k)
  | 0 => by simp [rawL]
  | k + 1 => by
    have h1 := rawL_range hz p k
    have h2 := zat_range hz (p + k)
    have h3 : (2 : Int) ^ (8 * (k + 1)) = 2 ^ (8 * k) * 256 := by rw [Nat.mul_add, Int.pow_add]; rfl
    have h4 : (0 : Int) < 2 ^ (8 * k) := Int.pow_pos (by decide)
    simp only [rawL]
    rw [h3]
    generalize (2 : Int) ^ (8 * k) = P at h1 h4
    have h5 : 0 ≤ zat zs (p + k) * P := Int.mul_nonneg h2.1 (by omega)
    have h6 : zat zs (p + k) * P ≤ 255 * P := Int.mul_le_mul_of_nonneg_right (by omega) (by omega)
    omega
theorem or_comm64 (x y : Int) : bits .or .i64 x y = bits .or .i64 y x := by simp only [bits, BitVec.or_comm]
theorem join64 (raw z : Int) (k : Nat) (hk : k ≤ 3) (h0 : 0 ≤ raw) (h1 : raw < 2 ^ (8 * k)) (z0 : 0 ≤ z) (z1 : z < 256) : bits .or .i64 raw (z * 2 ^ (8 * k)) = raw + z * 2 ^ (8 * k) := by
  rw [or_comm64, bits_join .i64 40 (by decide) (by intro n h₀ h₁; rw [IntKind.wrap_i64]; omega) (8 * k) (z * 2 ^ (8 * k)) raw]
  · omega
  · exact Int.mul_nonneg z0 (Int.le_of_lt (Int.pow_pos (by decide)))
  · exact Int.mul_emod_left _ _
  · rcases (by omega : k = 0 ∨ k = 1 ∨ k = 2 ∨ k = 3) with rfl | rfl | rfl | rfl <;> simp <;> omega
  · exact h0
  · exact h1
  · rcases (by omega : k = 0 ∨ k = 1 ∨ k = 2 ∨ k = 3) with rfl | rfl | rfl | rfl <;> simp at h1 ⊢ <;> omega
set_option maxRecDepth 100000 in
theorem and15_all : ∀ n : Nat, n < 256 → bits .and .u8 (n : Int) 15 = (n : Int) % 16 := by decide +kernel
theorem and15 (x : Int) (h0 : 0 ≤ x) (h1 : x < 256) : bits .and .u8 x 15 = x % 16 := by
  obtain ⟨n, rfl⟩ : ∃ n : Nat, x = n := ⟨x.toNat, by omega⟩
  exact and15_all n (by omega)
def posI (r : Nat) : Nat := if hasA r then 2 else 1
def aOf (r : Nat) (zs : List Int) : Int := if hasA r then zat zs 1 / 16 else 0
def bOf (r : Nat) (zs : List Int) : Int := if hasA r then zat zs 1 % 16 else 0
def rawOf (r : Nat) (zs : List Int) : Int := rawL zs (posI r) (f3 r).toNat
def immOf (r : Nat) (zs : List Int) : Int := if rawOf r zs > hi r then rawOf r zs + 2 * lo r else rawOf r zs
theorem raw_hi (r : Nat) (hr : r < 10) : lo r ≤ 0 ∧ 0 ≤ hi r ∧ (2 : Int) ^ (8 * (f3 r).toNat) = (if lo r = 0 then hi r + 1 else 2 * (hi r + 1)) ∧ (lo r ≠ 0 → lo r = -(hi r + 1)) ∧ -2147483648 ≤ lo r ∧ hi r ≤ 2147483647 := by
  refine ten (p := fun r => lo r ≤ 0 ∧ 0 ≤ hi r ∧ (2 : Int) ^ (8 * (f3 r).toNat) = (if lo r = 0 then hi r + 1 else 2 * (hi r + 1)) ∧ (lo r ≠ 0 → lo r = -(hi r + 1)) ∧ -2147483648 ≤ lo r ∧ hi r ≤ 2147483647) r hr ?_ ?_ ?_ ?_ ?_ ?_ ?_ ?_ ?_ ?_ <;> decide
theorem immOf_range {zs : List Int} (hz : ∀ n ∈ zs, 0 ≤ n ∧ n < 256) (r : Nat) (hr : r < 10) : lo r ≤ immOf r zs ∧ immOf r zs ≤ hi r := by
  have h1 := rawL_range hz (posI r) (f3 r).toNat
  obtain ⟨h2, h3, h4, h5, _⟩ := raw_hi r hr
  unfold immOf
  have e : rawOf r zs = rawL zs (posI r) (f3 r).toNat := rfl
  rw [← e, h4] at h1
  split at h1 <;> split <;> omega
abbrev insA (op a b imm : Int) : Array Value := #[.int .u8 op, .int .u8 a, .int .u8 b, .int .i32 imm]
def mayB (r : Nat) (a b imm : Int) : Bool := r != 0 && (((decide (a ≤ f1 r) && decide (b ≤ f2 r)) && decide (lo r ≤ imm)) && decide (imm ≤ hi r))
theorem Tabs.form0 {w : World} (h : Tabs w) : w.cell? ⟨0, 0, none⟩ = some (.int .u8 0) ∧ w.cell? ⟨0, 1, none⟩ = some (.int .u8 0) ∧
    w.cell? ⟨0, 2, none⟩ = some (.int .u8 0) ∧ w.cell? ⟨0, 3, none⟩ = some (.int .u8 0) ∧ w.cell? ⟨0, 4, none⟩ = some (.int .u8 0) := h.form 0 (by decide)
theorem form_eq (r : Nat) (hr : r < 10) (w : World) : Sem.run Tryz.prog (Op.equalIn 10000 179 (.agg (formA r)) (.agg #[.int .u8 0, .int .u8 0, .int .u8 0, .int .u8 0, .int .u8 0])) w = .ok (r == 0) w :=
  ten (p := fun r => Sem.run Tryz.prog (Op.equalIn 10000 179 (.agg (formA r)) (.agg #[.int .u8 0, .int .u8 0, .int .u8 0, .int .u8 0, .int .u8 0])) w = .ok (r == 0) w) r hr
    (by kernel_rfl) (by kernel_rfl) (by kernel_rfl) (by kernel_rfl) (by kernel_rfl) (by kernel_rfl) (by kernel_rfl) (by kernel_rfl) (by kernel_rfl) (by kernel_rfl)
set_option maxHeartbeats 4000000 in
set_option maxRecDepth 100000 in
theorem may_row (r : Nat) (hr : r < 10) (op a b imm : Int) (host : Bool) (hrow : rowOf op host = r) (w : World) (h0 : 0 ≤ op) (h1 : op < 256) (h2 : -2147483648 ≤ imm) (h3 : imm ≤ 2147483647) (hT : Tabs w) :
    Calls Tryz.prog 80 #[.agg (insA op a b imm), .bool host] w fun e w' => e = .returned (.bool (mayB r a b imm)) ∧ Kep w w' := by
  go_enter Tryz.func80, Tryz.ntmps80
  go_wp2_with fail
  refine (formOf_any op host _ h0 h1 (hT.grown ((Kep.refl _).alloc _))).mono ?_
  rintro e w1 ⟨rfl, g1⟩
  rw [hrow]
  have G1 : Hid (Kep w w1) := kep_trans ((Kep.refl _).alloc _) g1
  have hT1 := hT.grown G1
  have z0 : 0 < w1.heap.size := by have := tabs_size hT1; omega
  obtain ⟨c0, c1, c2, c3, c4⟩ := hT1.form0
  have d0 := g1.cell (o := 0) (b := w.heap.size) (by simp)
  have d1 := g1.cell (o := 1) (b := w.heap.size) (by simp)
  have d2 := g1.cell (o := 2) (b := w.heap.size) (by simp)
  have d3 := g1.cell (o := 3) (b := w.heap.size) (by simp)
  simp at d0 d1 d2 d3
  have z1 : w.heap.size < w1.heap.size := Nat.lt_of_lt_of_le (by simp) g1.size
  have he := form_eq r hr
  unfold formA at he
  clear hrow g1 hT hT1 h0 h1
  unfold formA
  by_cases hz : r = 0
  · subst hz
    have hz : ((0 : Nat) == 0) = true := rfl
    rw [hz] at he
    go_wp2_with fail
    go_ret
    exact ⟨rfl, G1.alloc _⟩
  · have hz' : (r == 0) = false := by simpa using hz
    rw [hz'] at he
    go_wp2_with fail
    refine (imm_any r hr _).mono ?_
    rintro e w2 ⟨rfl, g2⟩
    have G2 : Hid (Kep w w2) := kep_trans (G1.alloc _) g2
    have c0' := (g2.cell (o := 0) (b := w1.heap.size) (by simp))
    have c1' := (g2.cell (o := 1) (b := w1.heap.size) (by simp))
    have c2' := (g2.cell (o := 2) (b := w1.heap.size) (by simp))
    have d0' := (g2.cell (o := 0) (b := w.heap.size) (by simp; omega)).trans ((cell_old z1).trans d0)
    have d1' := (g2.cell (o := 1) (b := w.heap.size) (by simp; omega)).trans ((cell_old z1).trans d1)
    have d2' := (g2.cell (o := 2) (b := w.heap.size) (by simp; omega)).trans ((cell_old z1).trans d2)
    have d3' := (g2.cell (o := 3) (b := w.heap.size) (by simp; omega)).trans ((cell_old z1).trans d3)
    simp at c0' c1' c2'
    clear g2 d0 d1 d2 d3 c0 c1 c2 c3 c4 he
    have hz2 : Hid ((r == 0) = false) := hz'
    clear hz' hz
    go_wp2_with fail
    all_goals go_ret
    all_goals exact ⟨ret_bool (by have hz3 := hz2.out; first | (simp_all [mayB]; done) | (simp_all [mayB]; intros; omega)), G2⟩
theorem may_any (op a b imm : Int) (host : Bool) (w : World) (h0 : 0 ≤ op) (h1 : op < 256) (h2 : -2147483648 ≤ imm) (h3 : imm ≤ 2147483647) (hT : Tabs w) :
    Calls Tryz.prog 80 #[.agg (insA op a b imm), .bool host] w fun e w' => e = .returned (.bool (mayB (rowOf op host) a b imm)) ∧ Kep w w' :=
  may_row _ (rowOf_lt _ _) op a b imm host rfl w h0 h1 h2 h3 hT
theorem sz_cases (r : Nat) (hr : r < 10) (h0 : r ≠ 0) : sz r = 1 ∨ sz r = 2 ∨ sz r = 3 ∨ sz r = 6 :=
  ten (p := fun r => r ≠ 0 → sz r = 1 ∨ sz r = 2 ∨ sz r = 3 ∨ sz r = 6) r hr (fun h => absurd rfl h) (fun _ => by decide) (fun _ => by decide) (fun _ => by decide) (fun _ => by decide) (fun _ => by decide) (fun _ => by decide) (fun _ => by decide) (fun _ => by decide) (fun _ => by decide) h0
theorem sz_is (r : Nat) (hr : r < 10) (h0 : r ≠ 0) : sz r = (if hasA r then 2 else 1) + f3 r :=
  ten (p := fun r => r ≠ 0 → sz r = (if hasA r then 2 else 1) + f3 r) r hr (fun h => absurd rfl h) (fun _ => rfl) (fun _ => rfl) (fun _ => rfl) (fun _ => rfl) (fun _ => rfl) (fun _ => rfl) (fun _ => rfl) (fun _ => rfl) (fun _ => rfl) h0
theorem f3_range (r : Nat) (hr : r < 10) : 0 ≤ f3 r ∧ f3 r ≤ 4 := by refine ten (p := fun r => 0 ≤ f3 r ∧ f3 r ≤ 4) r hr ?_ ?_ ?_ ?_ ?_ ?_ ?_ ?_ ?_ ?_ <;> decide
theorem heap_at (W : World) (o : Obj) (n : Nat) (h : n = W.heap.size) : (W.alloc o).heap[n]? = some o := by subst h; exact heap_alloc_new W o
theorem heap_skip (W : World) (o : Obj) (n : Nat) (h : n < W.heap.size) : (W.alloc o).heap[n]? = W.heap[n]? := by simp only [World.alloc, Array.getElem?_push_lt h, Array.getElem?_eq_getElem h]
end Go.Proofs.YtnignfloedcmlaaGreatDoor
