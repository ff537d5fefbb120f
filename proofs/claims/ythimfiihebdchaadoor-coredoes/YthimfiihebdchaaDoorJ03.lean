/- Part of a proof. -/
import Derived.LoopTactic
import Derived.Deep.QuietTactic
import Derived.BigQuiet
import Derived.Test.YthimfiihebdchaaDoorJ02
namespace Go.Proofs.YthimfiihebdchaaDoor
open Go.RowKit
set_option linter.unusedVariables false
set_option linter.unusedSimpArgs false
theorem size43 : (Tryd.prog.info? 89).map (·.size) = some 5 := by kernel_rfl
theorem form_one (r : Nat) : (formA r).all (·.oneCell') = true := by simp [formA, Value.oneCell']
theorem span_at (k : Nat) (hk : k < 14) (w : World) : (Instr.index 119 (.agg spansC) (.int .i64 k)).run Tryd.prog w = .ok (.agg (spanA k)) w := by
  rcases (by omega : k = 0 ∨ k = 1 ∨ k = 2 ∨ k = 3 ∨ k = 4 ∨ k = 5 ∨ k = 6 ∨ k = 7 ∨ k = 8 ∨ k = 9 ∨ k = 10 ∨ k = 11 ∨ k = 12 ∨ k = 13) with rfl | rfl | rfl | rfl | rfl | rfl | rfl | rfl | rfl | rfl | rfl | rfl | rfl | rfl <;> kernel_rfl
set_option maxHeartbeats 1000000 in
set_option maxRecDepth 100000 in
theorem formOf_any (op : Int) (host : Bool) (w : World) (h0 : 0 ≤ op) (h1 : op < 256) (hT : Tabs w) :
    Calls Tryd.prog 40 #[.int .u8 op, .bool host] w fun e w' => e = .returned (.agg (formA (rowOf op host))) ∧ Kep w w' := by
  obtain ⟨ts, hs⟩ := hT.2
  have hs' : (w.alloc (.cells #[.int .u8 0, .int .u8 0, .int .u8 0, .int .u8 0, .int .u8 0] 89)).heap[1]? = some (.cells spansC ts (0, 0)) := ((Kep.refl _).alloc _).block hs
  obtain ⟨M, hM⟩ : ∃ M : Nat → Bool, Hid (∀ j, M j = matchB j op host) := ⟨_, fun _ => rfl⟩
  cases host
  all_goals
    go_enter Tryd.func40, Tryd.ntmps40
    go_wp2_with (refine wpList_load_row rfl 119 _ rfl 1 rfl ts _ (0, 0) _ hs' Tryd.underlying119 rfl (by kernel_rfl) ?_)
    go_loopw [8] (fun i wr => ∃ k : Nat, k ≤ 14 ∧ i = .int .i64 k ∧ Hid (Kep (w.alloc (.cells #[.int .u8 0, .int .u8 0, .int .u8 0, .int .u8 0, .int .u8 0] 89)) wr) ∧ Hid (∀ j : Nat, j < k → M j = false)) (fun i _ => 14 - (intOf i).toNat)
    case atStart => exact ⟨0, Nat.zero_le _, rfl, Kep.refl _, fun j hj => absurd hj (Nat.not_lt_zero j)⟩
    case round =>
      obtain ⟨k, hk, rfl, hg, hm⟩ := hrel
      have hG : Hid (Kep w wr) := kep_trans ((Kep.refl _).alloc _) hg
      have hT' := hT.grown hG
      have z0 : 0 < wr.heap.size := Nat.lt_of_lt_of_le (by have := tabs_size hT; omega) hG.size
      have z1 : w.heap.size < wr.heap.size := Nat.lt_of_lt_of_le (by simp) hg.size
      have hrow : wr.heap[w.heap.size]? = some (.cells #[.int .u8 0, .int .u8 0, .int .u8 0, .int .u8 0, .int .u8 0] 89 (0, 0)) := hg.block (heap_alloc_new _ _)
      have hrow2 := ((Kep.refl wr).alloc (.cells #[.int .u8 (sLo k), .int .u8 (sHi k), .int .u8 (sRow k), .bool (sHost k)] 118)).block hrow
      clear hs hs'
      rcases Nat.lt_or_ge k 14 with h14 | h14
      · have hi := span_at k h14
        unfold spanA at hi
        have hr2 := sRow_lt k h14
        have hr0 : (0 : Int) ≤ sRow k := by omega
        have hr1 : (sRow k : Int) < 10 := by omega
        obtain ⟨c0, c1, c2, c3, c4⟩ := hT'.form (sRow k) hr2
        clear hrow
        have hb : ∃ b, Hid (sHost k = b) ∧ sHost k = b := ⟨_, rfl, rfl⟩
        obtain ⟨b, hb, hb'⟩ := hb
        rw [hb'] at hi hrow2
        clear hb'
        cases b
        all_goals go_wp2_with ((refine wpList_store_row rfl 89 _ _ rfl w.heap.size (formA (sRow k)) rfl rfl 89 _ hrow2 size43 rfl (form_one _) ?_))
        all_goals first
          | (try simp only [Exit.inBlock, Exit.then]
             refine bodyPost_ret (results_cell_row rfl _ _ w.heap.size 89 (formA (sRow k)) (0, 0) _ rfl (setRow_heap _ _ _ _ _ _ hrow2) Tryd.underlying89 rfl size43) rfl ⟨?_, ?_⟩
             · rw [row_hit op h0 h1 _ k h14 (by have hb' := hb.out; clear hi hm hM; simp_all [matchB])]
             · exact (hG.alloc _).setRow _ _ (Nat.le_refl _))
          | (go_roundw
             case rel =>
               refine ⟨k + 1, by omega, by go_num, hg.alloc _, fun j hj => ?_⟩
               rcases Nat.lt_or_ge j k with hjk | hjk
               · exact hm j hjk
               · obtain rfl : j = k := by omega
                 have hb' := hb.out
                 rw [hM.out]
                 clear hm hM
                 clear hi
                 simp_all [matchB]
                 try omega
             case measure => simp [intOf]; omega)
      · obtain rfl : k = 14 := by omega
        obtain ⟨c0, c1, c2, c3, c4⟩ := hT'.form 0 (by decide)
        clear hrow2
        go_wp2_with (refine wpList_store_row rfl 89 _ _ rfl w.heap.size (formA 0) rfl rfl 89 _ hrow size43 rfl (form_one _) ?_)
        try simp only [Exit.inBlock, Exit.then]
        refine bodyPost_ret (results_cell_row rfl _ _ w.heap.size 89 (formA 0) (0, 0) _ rfl (setRow_heap _ _ _ _ _ _ hrow) Tryd.underlying89 rfl size43) rfl ⟨?_, ?_⟩
        · rw [row_miss op h0 h1 _ (fun j hj => (hM.out j).symm.trans (hm j hj))]
        · exact hG.setRow _ _ (Nat.le_refl _)
def sz (r : Nat) : Int := [0, 1, 2, 2, 2, 3, 3, 3, 3, 6].getD r 0
def lo (r : Nat) : Int := [0, 0, 0, 0, 0, -128, -128, -32768, 0, -2147483648].getD r 0
def hi (r : Nat) : Int := [0, 0, 0, 0, 255, 127, 127, 32767, 65535, 2147483647].getD r 0
def hasA (r : Nat) : Bool := [false, false, true, true, false, true, true, false, false, true].getD r false
theorem ten {p : Nat → Prop} (r : Nat) (hr : r < 10) (h0 : p 0) (h1 : p 1) (h2 : p 2) (h3 : p 3) (h4 : p 4) (h5 : p 5) (h6 : p 6) (h7 : p 7) (h8 : p 8) (h9 : p 9) : p r := by
  rcases (by omega : r = 0 ∨ r = 1 ∨ r = 2 ∨ r = 3 ∨ r = 4 ∨ r = 5 ∨ r = 6 ∨ r = 7 ∨ r = 8 ∨ r = 9) with rfl | rfl | rfl | rfl | rfl | rfl | rfl | rfl | rfl | rfl <;> assumption
set_option maxHeartbeats 400000 in
theorem has_of (a b c d e : Int) (w : World) :
    Calls Tryd.prog 67 #[.agg #[.int .u8 a, .int .u8 b, .int .u8 c, .int .u8 d, .int .u8 e]] w fun x w' => x = .returned (.bool (decide (b > 0))) ∧ w' = w.alloc (.cells #[.int .u8 a, .int .u8 b, .int .u8 c, .int .u8 d, .int .u8 e] 89) := by
  go_enter Tryd.func67, Tryd.ntmps67
  go_wp2
  go_ret
  exact ⟨rfl, rfl⟩
set_option maxHeartbeats 400000 in
theorem size_of (a b c d e : Int) (w : World) (h0 : 0 ≤ a) (h1 : a ≤ 1) (h2 : 0 ≤ d) (h3 : d ≤ 4) :
    Calls Tryd.prog 41 #[.agg #[.int .u8 a, .int .u8 b, .int .u8 c, .int .u8 d, .int .u8 e]] w fun x w' => x = .returned (.int .i64 (a + d + if b > 0 then 1 else 0)) ∧ w' = (w.alloc (.cells #[.int .u8 a, .int .u8 b, .int .u8 c, .int .u8 d, .int .u8 e] 89)).alloc (.cells #[.int .u8 a, .int .u8 b, .int .u8 c, .int .u8 d, .int .u8 e] 89) := by
  go_enter Tryd.func41, Tryd.ntmps41
  go_wp2_with fail
  refine (has_of _ _ _ _ _ _).mono ?_
  rintro x w1 ⟨rfl, rfl⟩
  go_wp2_with fail
  all_goals go_ret
  all_goals exact ⟨ret_int (by simp_all <;> omega), rfl⟩
theorem size_any (r : Nat) (hr : r < 10) (w : World) :
    Calls Tryd.prog 41 #[.agg (formA r)] w fun x w' => x = .returned (.int .i64 (sz r)) ∧ w' = (w.alloc (.cells (formA r) 89)).alloc (.cells (formA r) 89) := by
  have e : sz r = f0 r + f3 r + if f1 r > 0 then 1 else 0 := ten (p := fun r => sz r = f0 r + f3 r + if f1 r > 0 then 1 else 0) r hr rfl rfl rfl rfl rfl rfl rfl rfl rfl rfl
  have a0 : 0 ≤ f0 r ∧ f0 r ≤ 1 ∧ 0 ≤ f3 r ∧ f3 r ≤ 4 := by refine ten (p := fun r => 0 ≤ f0 r ∧ f0 r ≤ 1 ∧ 0 ≤ f3 r ∧ f3 r ≤ 4) r hr ?_ ?_ ?_ ?_ ?_ ?_ ?_ ?_ ?_ ?_ <;> decide
  rw [e]; exact size_of _ _ _ _ _ w a0.1 a0.2.1 a0.2.2.1 a0.2.2.2
set_option maxHeartbeats 400000 in
theorem imm_s (a b c : Int) (w : World) (d n : Int) (hd : d = 1 ∧ n = 128 ∨ d = 2 ∧ n = 32768 ∨ d = 4 ∧ n = 2147483648) :
    Calls Tryd.prog 60 #[.agg #[.int .u8 a, .int .u8 b, .int .u8 c, .int .u8 d, .int .u8 1]] w fun x w' => x = .returned (.tuple #[.int .i64 (-n), .int .i64 (n - 1)]) ∧ Kep w w' := by
  rcases hd with ⟨rfl, rfl⟩ | ⟨rfl, rfl⟩ | ⟨rfl, rfl⟩
  all_goals
    go_enter Tryd.func60, Tryd.ntmps60
    go_wp2
    go_ret2
    exact ⟨rfl, (Kep.refl _).alloc _⟩
set_option maxHeartbeats 400000 in
theorem imm_u (a b c : Int) (w : World) (d n : Int) (hd : d = 0 ∧ n = 0 ∨ d = 1 ∧ n = 255 ∨ d = 2 ∧ n = 65535) :
    Calls Tryd.prog 60 #[.agg #[.int .u8 a, .int .u8 b, .int .u8 c, .int .u8 d, .int .u8 0]] w fun x w' => x = .returned (.tuple #[.int .i64 0, .int .i64 n]) ∧ Kep w w' := by
  rcases hd with ⟨rfl, rfl⟩ | ⟨rfl, rfl⟩ | ⟨rfl, rfl⟩
  all_goals
    go_enter Tryd.func60, Tryd.ntmps60
    go_wp2
    go_ret2
    exact ⟨rfl, (Kep.refl _).alloc _⟩
theorem imm_any (r : Nat) (hr : r < 10) (w : World) :
    Calls Tryd.prog 60 #[.agg (formA r)] w fun x w' => x = .returned (.tuple #[.int .i64 (lo r), .int .i64 (hi r)]) ∧ Kep w w' :=
  ten (p := fun r => Calls Tryd.prog 60 #[.agg (formA r)] w fun x w' => x = .returned (.tuple #[.int .i64 (lo r), .int .i64 (hi r)]) ∧ Kep w w') r hr
    (imm_u 0 0 0 w 0 0 (by simp)) (imm_u 1 0 0 w 0 0 (by simp)) (imm_u 1 7 0 w 0 0 (by simp)) (imm_u 1 7 7 w 0 0 (by simp)) (imm_u 1 0 0 w 1 255 (by simp))
    (imm_s 1 7 0 w 1 128 (by simp)) (imm_s 1 7 7 w 1 128 (by simp)) (imm_s 1 0 0 w 2 32768 (by simp)) (imm_u 1 0 0 w 2 65535 (by simp)) (imm_s 1 7 0 w 4 2147483648 (by simp))
set_option maxHeartbeats 400000 in
theorem bytes_any (op : Int) (host : Bool) (w : World) (h0 : 0 ≤ op) (h1 : op < 256) (hT : Tabs w) :
    Calls Tryd.prog 18 #[.int .u8 op, .bool host] w fun e w' => e = .returned (.int .i64 (sz (rowOf op host))) ∧ Kep w w' := by
  go_enter Tryd.func18, Tryd.ntmps18
  go_wp2_with fail
  refine (formOf_any op host w h0 h1 hT).mono ?_
  rintro e w1 ⟨rfl, g1⟩
  go_wp2_with fail
  refine (size_any _ (rowOf_lt _ _) _).mono ?_
  rintro e w2 ⟨rfl, rfl⟩
  go_wp2_with fail
  go_ret
  exact ⟨rfl, (g1.alloc _).alloc _⟩
abbrev insA (op a b imm : Int) : Array Value := #[.int .u8 op, .int .u8 a, .int .u8 b, .int .i32 imm]
def mayB (r : Nat) (a b imm : Int) : Bool := r != 0 && (((decide (a ≤ f1 r) && decide (b ≤ f2 r)) && decide (lo r ≤ imm)) && decide (imm ≤ hi r))
theorem Tabs.form0 {w : World} (h : Tabs w) : w.cell? ⟨0, 0, none⟩ = some (.int .u8 0) ∧ w.cell? ⟨0, 1, none⟩ = some (.int .u8 0) ∧
    w.cell? ⟨0, 2, none⟩ = some (.int .u8 0) ∧ w.cell? ⟨0, 3, none⟩ = some (.int .u8 0) ∧ w.cell? ⟨0, 4, none⟩ = some (.int .u8 0) := h.form 0 (by decide)
theorem form_eq (r : Nat) (hr : r < 10) (w : World) : Sem.run Tryd.prog (Op.equalIn 10000 89 (.agg (formA r)) (.agg #[.int .u8 0, .int .u8 0, .int .u8 0, .int .u8 0, .int .u8 0])) w = .ok (r == 0) w :=
  ten (p := fun r => Sem.run Tryd.prog (Op.equalIn 10000 89 (.agg (formA r)) (.agg #[.int .u8 0, .int .u8 0, .int .u8 0, .int .u8 0, .int .u8 0])) w = .ok (r == 0) w) r hr
    (by kernel_rfl) (by kernel_rfl) (by kernel_rfl) (by kernel_rfl) (by kernel_rfl) (by kernel_rfl) (by kernel_rfl) (by kernel_rfl) (by kernel_rfl) (by kernel_rfl)
set_option maxHeartbeats 4000000 in
set_option maxRecDepth 100000 in
theorem may_row (r : Nat) (hr : r < 10) (op a b imm : Int) (host : Bool) (hrow : rowOf op host = r) (w : World) (h0 : 0 ≤ op) (h1 : op < 256) (h2 : -2147483648 ≤ imm) (h3 : imm ≤ 2147483647) (hT : Tabs w) :
    Calls Tryd.prog 34 #[.agg (insA op a b imm), .bool host] w fun e w' => e = .returned (.bool (mayB r a b imm)) ∧ Kep w w' := by
  go_enter Tryd.func34, Tryd.ntmps34
  go_wp2_with fail
  refine (formOf_any op host _ h0 h1 (hT.grown ((Kep.refl _).alloc _))).mono ?_
  rintro e w1 ⟨rfl, g1⟩
  rw [hrow]
  have G1 : Hid (Kep w w1) := kep_trans ((Kep.refl _).alloc _) g1
  have hT1 := hT.grown G1
  have z0 : 0 < w1.heap.size := by have := tabs_size hT1; omega
  obtain ⟨c0, c1, c2, c3, c4⟩ := hT1.form0
  have d0 := g1.cell (o := 0) (b := w.heap.size) (by simp)
  have d1 := g1.cell (o := 1) (b := w.heap.size) (by simp)
  have d2 := g1.cell (o := 2) (b := w.heap.size) (by simp)
  have d3 := g1.cell (o := 3) (b := w.heap.size) (by simp)
  simp at d0 d1 d2 d3
  have z1 : w.heap.size < w1.heap.size := Nat.lt_of_lt_of_le (by simp) g1.size
  have he := form_eq r hr
  unfold formA at he
  clear hrow g1 hT hT1 h0 h1
  unfold formA
  by_cases hz : r = 0
  · subst hz
    have hz : ((0 : Nat) == 0) = true := rfl
    rw [hz] at he
    go_wp2_with fail
    go_ret
    exact ⟨rfl, G1.alloc _⟩
  · have hz' : (r == 0) = false := by simpa using hz
    rw [hz'] at he
    go_wp2_with fail
    refine (imm_any r hr _).mono ?_
    rintro e w2 ⟨rfl, g2⟩
    have G2 : Hid (Kep w w2) := kep_trans (G1.alloc _) g2
    have c0' := (g2.cell (o := 0) (b := w1.heap.size) (by simp))
    have c1' := (g2.cell (o := 1) (b := w1.heap.size) (by simp))
    have c2' := (g2.cell (o := 2) (b := w1.heap.size) (by simp))
    have d0' := (g2.cell (o := 0) (b := w.heap.size) (by simp; omega)).trans ((cell_old z1).trans d0)
    have d1' := (g2.cell (o := 1) (b := w.heap.size) (by simp; omega)).trans ((cell_old z1).trans d1)
    have d2' := (g2.cell (o := 2) (b := w.heap.size) (by simp; omega)).trans ((cell_old z1).trans d2)
    have d3' := (g2.cell (o := 3) (b := w.heap.size) (by simp; omega)).trans ((cell_old z1).trans d3)
    simp at c0' c1' c2'
    clear g2 d0 d1 d2 d3 c0 c1 c2 c3 c4 he
    have hz2 : Hid ((r == 0) = false) := hz'
    clear hz' hz
    go_wp2_with fail
    all_goals go_ret
    all_goals exact ⟨ret_bool (by have hz3 := hz2.out; first | (simp_all [mayB]; done) | (simp_all [mayB]; intros; omega)), G2⟩
theorem may_any (op a b imm : Int) (host : Bool) (w : World) (h0 : 0 ≤ op) (h1 : op < 256) (h2 : -2147483648 ≤ imm) (h3 : imm ≤ 2147483647) (hT : Tabs w) :
    Calls Tryd.prog 34 #[.agg (insA op a b imm), .bool host] w fun e w' => e = .returned (.bool (mayB (rowOf op host) a b imm)) ∧ Kep w w' :=
  may_row _ (rowOf_lt _ _) op a b imm host rfl w h0 h1 h2 h3 hT
def alu (op x y : Int) : Int × Int :=
  if op = 16 ∨ op = 32 then (y, 0) else
  if op = 17 ∨ op = 33 then ((x + y) % 4294967296, fl ((x + y) % 4294967296) (decide (4294967296 ≤ x + y)) (addV x y)) else
  if op = 18 ∨ op = 26 then ((x - y) % 4294967296, fl ((x - y) % 4294967296) (decide (x < y)) (subV x y)) else
  if op = 20 then (bits .or .u32 x y, fl (bits .or .u32 x y) false false) else
  if op = 21 then (bits .xor .u32 x y, fl (bits .xor .u32 x y) false false) else
  if op = 22 then (shlI x.toNat (y % 32).toNat, fl (shlI x.toNat (y % 32).toNat) (outUp x.toNat (y % 32).toNat) false) else
  if op = 23 then (shrI x.toNat (y % 32).toNat, fl (shrI x.toNat (y % 32).toNat) (outDown x.toNat (y % 32).toNat) false) else
  if op = 24 then (x * y % 4294967296, fl (x * y % 4294967296) (decide (4294967296 ≤ x * y)) false) else
  if op = 25 then (x / y, fl (x / y) false false) else
  if op = 27 then (rorI x.toNat (y % 32).toNat, fl (rorI x.toNat (y % 32).toNat) (outDown x.toNat (y % 32).toNat) false) else
  if op = 28 then (sarI x.toNat (y % 32).toNat, fl (sarI x.toNat (y % 32).toNat) (outDown x.toNat (y % 32).toNat) false) else
  if op = 29 then (x * y / 4294967296, fl (x * y / 4294967296) false false) else
  if op = 30 then (x % y, fl (x % y) false false) else
  (bits .and .u32 x y, fl (bits .and .u32 x y) false false)
def aluIs (op y : Int) : Bool := !((op == 25 || op == 30) && y == 0)
def keepsB (op : Int) : Bool := !(op == 26 || op == 31)
def turnsB (op : Int) : Bool := !(op == 16 || op == 32)
def flgI (ps f : Int) : Int := ps - ps / 16 % 16 * 16 + f
def secN (s : Sta) (op : Int) (b : Nat) (imm : Int) : Int := if op = 32 ∨ op = 33 then imm % 4294967296 else s.r b
def reckS (s : Sta) (op : Int) (a b : Nat) (imm : Int) : Sta :=
  (s.regIf (keepsB op) a (alu op (s.r a) (secN s op b imm)).1).markIf (turnsB op) (flgI s.ps (alu op (s.r a) (secN s op b imm)).2)
def rN (op : Int) : Int :=
  if op = 48 ∨ op = 57 ∨ op = 49 ∨ op = 56 ∨ op = 58 then 4 else
  if op = 52 ∨ op = 55 ∨ op = 53 then 2 else
  if op = 50 ∨ op = 54 ∨ op = 51 then 1 else 0
def rK (op : Int) : Int :=
  if op = 48 ∨ op = 57 ∨ op = 52 ∨ op = 55 ∨ op = 50 ∨ op = 54 then 2 else
  if op = 49 ∨ op = 56 ∨ op = 58 ∨ op = 53 ∨ op = 51 then 3 else 0
def adr (s : Sta) (op : Int) (b : Nat) (imm : Int) : Int :=
  if op = 56 then (s.r 7 - 4) % 4294967296 else if op = 57 then s.r 7 else (s.r b + imm % 4294967296) % 4294967296
def lowI (x n : Int) : Int := if n = 1 then x % 256 else if n = 2 then x % 65536 else x
def wantOn (op a b imm : Int) : Bool := (rN op != 0) && mayB (rowOf op false) a b imm
def wantF (s : Sta) (op : Int) (a b : Nat) (imm : Int) : Int × Int :=
  if wantOn op a b imm = true ∧ adr s op b imm % rN op ≠ 0 then (4, adr s op b imm) else (0, 0)
def wantA (s : Sta) (op : Int) (a b : Nat) (imm : Int) : Int × Int × Int × Int :=
  if wantOn op a b imm = true ∧ adr s op b imm % rN op = 0 then (rK op, adr s op b imm, rN op, if rK op = 3 then lowI (s.r a) (rN op) else 0) else (0, 0, 0, 0)
abbrev accV (q : Int × Int × Int × Int) : Array Value := #[.int .i64 q.1, .int .u32 q.2.1, .int .i64 q.2.2.1, .int .u32 q.2.2.2]
abbrev fltV (q : Int × Int) : Array Value := #[.int .i64 q.1, .int .u32 q.2]
def stackS (s : Sta) (op : Int) : Sta := if op = 56 then s.reg 7 ((s.r 7 - 4) % 4294967296) else if op = 57 then s.reg 7 ((s.r 7 + 4) % 4294967296) else s
def takes (op : Int) : Bool := op == 48 || op == 57 || op == 58 || op == 50 || op == 52 || op == 54 || op == 55
def sext (x n : Int) : Int := if x < n then x else x + 4294967296 - 2 * n
def takenV (op v : Int) : Int := if op = 50 then v % 256 else if op = 52 then v % 65536 else if op = 54 then sext (v % 256) 128 else if op = 55 then sext (v % 65536) 32768 else v
def movS (s : Sta) (op : Int) (a : Nat) (v : Int) : Sta := (stackS s op).regIf (takes op) a (takenV op v)
def jgoes (op ps : Int) : Bool := if op = 73 ∨ op = 74 then true else holdsB (if op = 72 then 0 else op - 64) ps
def jto (s : Sta) (op : Int) (a : Nat) (imm : Int) : Int := if op = 73 ∨ op = 74 then s.r a else (s.pc + imm % 4294967296) % 4294967296
def linkS (s : Sta) (op back : Int) : Sta := if op = 72 ∨ op = 74 then s.reg 6 back else s
def jmpS (s : Sta) (op : Int) (a : Nat) (imm : Int) : Sta := if jgoes op s.ps then linkS (s.go (jto s op a imm)) op s.pc else s
def cls (op : Int) : Nat := if op = 0 then 1 else if 16 ≤ op ∧ op ≤ 33 then 2 else if 48 ≤ op ∧ op ≤ 58 then 3 else if 64 ≤ op ∧ op ≤ 74 then 4 else if op = 80 then 5 else 0
def isIns (op a b imm : Int) : Bool := mayB (rowOf op false) a b imm && cls op != 0
def nextS (s : Sta) (op : Int) : Sta := s.go ((s.pc + sz (rowOf op false)) % 4294967296)
def workF (s : Sta) (op : Int) (a b : Nat) (imm : Int) : Int × Int :=
  if cls op = 2 then (if aluIs op (secN s op b imm) then (0, 0) else (3, 0)) else if cls op = 3 then wantF s op a b imm else if cls op = 5 then (8, imm % 4294967296) else (0, 0)
def workS (s : Sta) (op : Int) (a b : Nat) (imm v : Int) : Sta :=
  if cls op = 2 then reckS s op a b imm else if cls op = 3 then movS s op a v else if cls op = 4 then jmpS s op a imm else s
def doF (s : Sta) (op : Int) (a b : Nat) (imm : Int) : Int × Int := if isIns op a b imm then workF (nextS s op) op a b imm else (1, s.pc)
def doS (s : Sta) (op : Int) (a b : Nat) (imm v : Int) : Sta := if (doF s op a b imm).1 = 0 then workS (nextS s op) op a b imm v else s
theorem keep_nat (x : Nat) (hx : x < 4294967296) : x &&& 4294967055 = x - x / 16 % 16 * 16 := by
  have h1 : (x &&& 4294967055) >>> 8 = x / 256 := by
    rw [Nat.shiftRight_and_distrib, Nat.shiftRight_eq_div_pow, show 4294967055 >>> 8 = 2 ^ 24 - 1 by decide, Nat.and_two_pow_sub_one_eq_mod]
    exact Nat.mod_eq_of_lt (by omega)
  have h2 : (x &&& 4294967055) % 256 = x % 16 := by
    rw [show 256 = 2 ^ 8 by rfl, Nat.and_mod_two_pow, show 4294967055 % 2 ^ 8 = 2 ^ 4 - 1 by decide, Nat.and_two_pow_sub_one_eq_mod]
    omega
  rw [Nat.shiftRight_eq_div_pow] at h1
  have h3 := Nat.div_add_mod (x &&& 4294967055) 256
  omega
theorem or_tab : ∀ l < 16, ∀ k < 16, (l ||| (16 * k)) = l + 16 * k := by decide
theorem join_nat (z k : Nat) (hz : z % 256 < 16) (hk : k < 16) : z ||| (16 * k) = z + 16 * k := by
  have h1 : (z ||| (16 * k)) >>> 8 = z / 256 := by
    rw [Nat.shiftRight_or_distrib, Nat.shiftRight_eq_div_pow, Nat.shiftRight_eq_div_pow, show 16 * k / 2 ^ 8 = 0 by omega, Nat.or_zero]
  have h2 : (z ||| (16 * k)) % 256 = z % 256 + 16 * k := by
    rw [show 256 = 2 ^ 8 by rfl, Nat.or_mod_two_pow, show 16 * k % 2 ^ 8 = 16 * k by omega]
    exact or_tab _ hz _ hk
  rw [Nat.shiftRight_eq_div_pow] at h1
  have h3 := Nat.div_add_mod (z ||| (16 * k)) 256
  omega
theorem fl_form (r : Int) (c v : Bool) : ∃ k : Nat, k < 16 ∧ fl r c v = ((16 * k : Nat) : Int) := by
  unfold fl
  generalize (r == 0) = x
  generalize decide (2147483648 ≤ r) = y
  cases x <;> cases y <;> cases c <;> cases v
  all_goals first
    | exact ⟨0, by decide, rfl⟩
    | exact ⟨1, by decide, rfl⟩
    | exact ⟨2, by decide, rfl⟩
    | exact ⟨3, by decide, rfl⟩
    | exact ⟨4, by decide, rfl⟩
    | exact ⟨5, by decide, rfl⟩
    | exact ⟨6, by decide, rfl⟩
    | exact ⟨7, by decide, rfl⟩
    | exact ⟨8, by decide, rfl⟩
    | exact ⟨9, by decide, rfl⟩
    | exact ⟨10, by decide, rfl⟩
    | exact ⟨11, by decide, rfl⟩
    | exact ⟨12, by decide, rfl⟩
    | exact ⟨13, by decide, rfl⟩
    | exact ⟨14, by decide, rfl⟩
    | exact ⟨15, by decide, rfl⟩
theorem ite_form {p : Prop} [Decidable p] {x y : Int × Int} (hx : ∃ k : Nat, k < 16 ∧ x.2 = ((16 * k : Nat) : Int)) (hy : ∃ k : Nat, k < 16 ∧ y.2 = ((16 * k : Nat) : Int)) : ∃ k : Nat, k < 16 ∧ (if p then x else y).2 = ((16 * k : Nat) : Int) := by
  by_cases h : p
  · rw [if_pos h]; exact hx
  · rw [if_neg h]; exact hy
theorem alu_form (op x y : Int) : ∃ k : Nat, k < 16 ∧ (alu op x y).2 = ((16 * k : Nat) : Int) := by
  unfold alu
  repeat' (first | exact ⟨0, by decide, rfl⟩ | exact fl_form _ _ _ | refine ite_form ?_ ?_)
theorem flg_of (ps : Int) (k : Nat) (h0 : 0 ≤ ps) (h1 : ps < 4294967296) (hk : k < 16) : bits .or .u32 (bits .andNot .u32 ps 240) ((16 * k : Nat) : Int) = flgI ps ((16 * k : Nat) : Int) := by
  obtain ⟨n, rfl⟩ : ∃ n : Nat, ps = n := ⟨ps.toNat, by omega⟩
  rw [show (240 : Int) = ((240 : Nat) : Int) from rfl, u32_andNot_nat n 240 (by omega) (by decide), show 4294967295 - 240 = 4294967055 from rfl, keep_nat n (by omega), u32_or_nat _ _ (by omega) (by omega), join_nat _ _ (by omega) hk]
  unfold flgI
  omega
theorem flg_is (op x y ps : Int) (h0 : 0 ≤ ps) (h1 : ps < 4294967296) : bits .or .u32 (bits .andNot .u32 ps 240) (alu op x y).2 = flgI ps (alu op x y).2 := by
  obtain ⟨k, hk, e⟩ := alu_form op x y
  rw [e]; exact flg_of ps k h0 h1 hk
theorem resultsCC {P : Program} {fn : Func} {p q : Tmp} {ty ty' : TypeId} (h : fn.results = #[.cell p ty, .cell q ty']) (tmps : Array Value) (w : World) (g : Nat) (t : TypeId) (cs : Array Value) (fr : Nat × Nat) (d : TypeDesc)
    (g' : Nat) (t' : TypeId) (cs' : Array Value) (fr' : Nat × Nat) (d' : TypeDesc)
    (hp : tmps.getD p undef = .pointer (some ⟨g, 0, none⟩)) (hg : w.heap[g]? = some (.cells cs t fr))
    (hu : P.underlying ty = some d) (hd : (match d with | .struct _ | .array _ _ => true | _ => false) = true) (hi : (P.info? ty).map (·.size) = some cs.size)
    (hp' : tmps.getD q undef = .pointer (some ⟨g', 0, none⟩)) (hg' : w.heap[g']? = some (.cells cs' t' fr'))
    (hu' : P.underlying ty' = some d') (hd' : (match d' with | .struct _ | .array _ _ => true | _ => false) = true) (hi' : (P.info? ty').map (·.size) = some cs'.size) :
    (results fn tmps).run P w = .ok (.tuple #[.agg cs, .agg cs']) w := by
  have e1 : tmps[p]?.getD undef = .pointer (some ⟨g, 0, none⟩) := by simpa using hp
  have e2 : tmps[q]?.getD undef = .pointer (some ⟨g', 0, none⟩) := by simpa using hp'
  simp [results, h, e1, e2, asAddr, run_loadVar_row w g t ty cs fr d hg hu hd hi, run_loadVar_row w g' t' ty' cs' fr' d' hg' hu' hd' hi']
theorem four_blocks (w : World) (a b c d : Obj) : ((((w.alloc a).alloc b).alloc c).alloc d).heap[w.heap.size]? = some a ∧ ((((w.alloc a).alloc b).alloc c).alloc d).heap[w.heap.size + 1]? = some b ∧
    ((((w.alloc a).alloc b).alloc c).alloc d).heap[w.heap.size + 1 + 1]? = some c ∧ ((((w.alloc a).alloc b).alloc c).alloc d).heap[w.heap.size + 1 + 1 + 1]? = some d := by
  refine ⟨?_, ?_, ?_, ?_⟩
  · rw [hsk _ _ _ (by simp; omega), hsk _ _ _ (by simp; omega), hsk _ _ _ (by simp), hat _ _ _ rfl]
  · rw [hsk _ _ _ (by simp), hsk _ _ _ (by simp), hat _ _ _ (by simp)]
  · rw [hsk _ _ _ (by simp), hat _ _ _ (by simp)]
  · rw [hat _ _ _ (by simp)]
theorem ins_at {w : World} {b : Nat} {op a c imm : Int} (h : w.heap[b]? = some (.cells (insA op a c imm) 27 (0, 0))) :
    w.cell? ⟨b, 0, none⟩ = some (.int .u8 op) ∧ w.cell? ⟨b, 1, none⟩ = some (.int .u8 a) ∧ w.cell? ⟨b, 2, none⟩ = some (.int .u8 c) ∧ w.cell? ⟨b, 3, none⟩ = some (.int .i32 imm) :=
  ⟨cell_of_block h, cell_of_block h, cell_of_block h, cell_of_block h⟩
theorem five_blocks (w w' : World) (a b c d : Obj) (K : Kep ((((w.alloc a).alloc b).alloc c).alloc d) w') : w'.heap[w.heap.size]? = some a ∧ w'.heap[w.heap.size + 1]? = some b ∧ w'.heap[w.heap.size + 1 + 1]? = some c ∧ w'.heap[w.heap.size + 1 + 1 + 1]? = some d := by
  obtain ⟨h0, h1, h2, h3⟩ := four_blocks w a b c d
  exact ⟨K.block h0, K.block h1, K.block h2, K.block h3⟩
theorem size_ins : (Tryd.prog.info? 27).map (·.size) = some 4 := by kernel_rfl
theorem mem_ops {op : Int} (h : 48 ≤ op ∧ op ≤ 58) : op = 48 ∨ op = 49 ∨ op = 50 ∨ op = 51 ∨ op = 52 ∨ op = 53 ∨ op = 54 ∨ op = 55 ∨ op = 56 ∨ op = 57 ∨ op = 58 := by omega
theorem v_seven (s : Sta) : s.v[7]'(by rw [v_size]; decide) = .int .u32 (s.r 7) := rfl
set_option maxHeartbeats 800000 in
theorem reach_any (op : Int) (w : World) (h0 : 0 ≤ op) (h1 : op < 256) :
    Calls Tryd.prog 90 #[.int .u8 op] w fun e w' => e = .returned (.tuple #[.int .i64 (rK op), .int .i64 (rN op)]) ∧ w' = w := by
  by_cases m : 48 ≤ op ∧ op ≤ 58
  · rcases mem_ops m with rfl | rfl | rfl | rfl | rfl | rfl | rfl | rfl | rfl | rfl | rfl
    all_goals
      clear m h0 h1
      go_enter Tryd.func90, Tryd.ntmps90
      go_wp2
      go_ret2
      exact ⟨rfl, rfl⟩
  · have hk : rK op = 0 := by unfold rK; rw [if_neg (by omega), if_neg (by omega)]
    have hn : rN op = 0 := by unfold rN; rw [if_neg (by omega), if_neg (by omega), if_neg (by omega)]
    rw [hk, hn]
    have x0 := ne_lit (op := op) (k := 48) (by omega)
    have x1 := ne_lit (op := op) (k := 49) (by omega)
    have x2 := ne_lit (op := op) (k := 50) (by omega)
    have x3 := ne_lit (op := op) (k := 51) (by omega)
    have x4 := ne_lit (op := op) (k := 52) (by omega)
    have x5 := ne_lit (op := op) (k := 53) (by omega)
    have x6 := ne_lit (op := op) (k := 54) (by omega)
    have x7 := ne_lit (op := op) (k := 55) (by omega)
    have x8 := ne_lit (op := op) (k := 56) (by omega)
    have x9 := ne_lit (op := op) (k := 57) (by omega)
    have x10 := ne_lit (op := op) (k := 58) (by omega)
    clear m hk hn
    go_enter Tryd.func90, Tryd.ntmps90
    go_wp2
    go_ret2
    exact ⟨rfl, rfl⟩
set_option maxHeartbeats 800000 in
theorem lowest_any (x n : Int) (w : World) (h0 : 0 ≤ x) (h1 : x < 4294967296) (hn : n = 1 ∨ n = 2 ∨ n = 4) :
    Calls Tryd.prog 92 #[.int .u32 x, .int .i64 n] w fun e w' => e = .returned (.int .u32 (lowI x n)) ∧ w' = w := by
  rcases hn with rfl | rfl | rfl
  all_goals
    go_enter Tryd.func92, Tryd.ntmps92
    go_wp2
    go_ret
    exact ⟨ret_int (by simp [lowI, IntKind.wrap_u8, IntKind.wrap_u16] <;> omega), rfl⟩
set_option maxHeartbeats 800000 in
theorem address_any (s : Sta) (op : Int) (a b : Nat) (imm : Int) (w : World) (ok : s.Ok) (hb : (b : Int) < 8) (h2 : -2147483648 ≤ imm) (h3 : imm ≤ 2147483647) :
    Calls Tryd.prog 91 #[.agg s.v, .agg (insA op a b imm)] w fun e w' => e = .returned (.int .u32 (adr s op b imm)) ∧ Kep w w' := by
  have r7 := ok.r 7
  have rb := ok.r b
  have vb := v_reg s b (by omega)
  have v7 := v_seven s
  have vs := v_size s
  by_cases e1 : op = 56
  · subst e1
    go_enter Tryd.func91, Tryd.ntmps91
    go_wp2
    go_ret
    exact ⟨ret_int (by simp [adr]), ((Kep.refl _).alloc _).alloc _⟩
  by_cases e2 : op = 57
  · subst e2
    go_enter Tryd.func91, Tryd.ntmps91
    go_wp2
    go_ret
    exact ⟨ret_int (by simp [adr]), ((Kep.refl _).alloc _).alloc _⟩
  have x1 := ne_lit e1
  have x2 := ne_lit e2
  have he : adr s op b imm = (s.r b + imm % 4294967296) % 4294967296 := by unfold adr; rw [if_neg e1, if_neg e2]
  rw [he]
  clear e1 e2 he
  go_enter Tryd.func91, Tryd.ntmps91
  go_wp2
  go_quiet (fail)
  go_wp2
  go_ret
  exact ⟨ret_int (by simp [IntKind.wrap_u32]), (((Kep.refl _).alloc _).alloc _).drewN _⟩
end Go.Proofs.YthimfiihebdchaaDoor
