/- Part of a proof. -/
import Derived.Deep.QuietTactic
import Derived.BigQuiet
import Derived.OrdersHeld
import Derived.Deep.RegionHeld
import Derived.Test.YthimfiihebdchaaDoorJ06
import Derived.Test.YthimfiihebdchaaDoorJ05
namespace Go.Proofs.YthimfiihebdchaaDoor
open Go.RowKit
set_option linter.unusedVariables false
set_option linter.unusedSimpArgs false
set_option maxHeartbeats 400000 in
theorem downSigned_any (p n : Nat) (w : World) (hp : p < 4294967296) (h1 : 1 ≤ n) (h2 : n ≤ 31) :
    Calls Tryd.prog 106 #[.int .u32 p, .int .u32 n] w fun e w' => e = .returned (.tuple #[.int .u32 (sarI p n), .int .u32 (ob p (n - 1))]) ∧ w' = w := by
  by_cases hn : (p : Int) < 2147483648
  · have e1 : Hid (sarI p n = shrI p n) := sarI_below p n (by omega)
    go_enter Tryd.func106, Tryd.ntmps106
    go_wp2_with (go_at_call 103; refine (down_any _ _ _ hp h1 h2).mono ?_; rintro e w' ⟨rfl, rfl⟩)
    go_ret2
    exact ⟨ret_two e1.out.symm rfl, rfl⟩
  · have hr := shrI_range (4294967295 - p) n (by omega)
    have e1 : bits .xor .u32 IntKind.u32.max (shrI (4294967295 - p) n) = sarI p n := by rw [over_val _ hr.1 hr.2, sarI_above p n (by omega)]
    have e2 : bits .xor .u32 IntKind.u32.max (p : Int) = ((4294967295 - p : Nat) : Int) := by rw [over_val _ (by omega) (by omega)]; omega
    have e3 := ob_over p (n - 1) hp (by omega)
    have e4 := ob_range (4294967295 - p) (n - 1)
    have hq : 4294967295 - p < 4294967296 := by omega
    clear hr
    generalize 4294967295 - p = q at *
    go_enter Tryd.func106, Tryd.ntmps106
    go_wp2_with fail
    refine (down_any q n _ hq h1 h2).mono ?_
    rintro e w' ⟨rfl, rfl⟩
    go_wp2_with fail
    go_ret2
    exact ⟨rfl, rfl⟩
set_option maxHeartbeats 400000 in
theorem sar_any (a k : Nat) (n : Int) (w : World) (ha : a < 4294967296) (h0 : 0 ≤ n) (h1 : n < 4294967296) (hk : n % 32 = (k : Int)) :
    Calls Tryd.prog 86 #[.int .u32 a, .int .u32 n] w fun e w' => e = .returned (.tuple #[.int .u32 (sarI a k), .int .u32 (fl (sarI a k) (outDown a k) false)]) ∧ Kep w w' := by
  have hb : k < 32 := by omega
  by_cases hz : k = 0
  · subst hz
    have hk0 : n % 32 = 0 := hk
    clear hk
    go_enter Tryd.func86, Tryd.ntmps86
    go_wp2_with (first | (go_at_call 101; go_in) | (go_at_call 99; refine (flagged0 _ _).mono ?_; rintro e w' ⟨rfl, g1⟩))
    go_ret2
    exact ⟨by rw [sarI_zero a ha]; rfl, ‹_›⟩
  · have hk0 : ((k : Int) == 0) = false := by rw [beq_eq_false_iff_ne]; omega
    have hc : (ob a (k - 1) == 1) = outDown a k := by rw [ob_one]; unfold outDown; simp [hz]
    go_enter Tryd.func86, Tryd.ntmps86
    go_wp2_with (first | (go_at_call 101; go_in) | (go_at_call 106; refine (downSigned_any _ _ _ ha (by omega) (by omega)).mono ?_; rintro e w' ⟨rfl, rfl⟩))
    refine (flagged1 _ _ (outDown a k) _ (by simp) (by simp) (by simp)).mono ?_
    rintro e w1 ⟨rfl, g1⟩
    go_wp2_with fail
    go_ret2
    exact ⟨rfl, kep_trans ((Kep.refl _).alloc _) g1⟩
set_option maxHeartbeats 400000 in
theorem sec_any (x y : Int) (w : World) :
    Calls Tryd.prog 75 #[.int .u32 x, .int .u32 y] w fun e w' => e = .returned (.tuple #[.int .u32 y, .int .u32 0]) ∧ Kep w w' := by
  go_enter Tryd.func75, Tryd.ntmps75
  go_wp2
  go_ret2
  exact ⟨rfl, Kep.refl _⟩
set_option maxHeartbeats 1600000 in
set_option maxRecDepth 100000 in
theorem alw_any (op : Int) (hop : 16 ≤ op ∧ op ≤ 33 ∧ op ≠ 25 ∧ op ≠ 30) (x y : Int) (hx : 0 ≤ x ∧ x < 4294967296) (hy : 0 ≤ y ∧ y < 4294967296) (g : Nat) (w : World) (hc : w.cell? ⟨g, 0, none⟩ = some (fnV (fnOf op))) :
    Calls Tryd.prog 98 #[.int .u32 x, .int .u32 y, .pointer (some ⟨g, 0, none⟩)] w fun e w' => e = .returned (.tuple #[.int .u32 (alu op x y).1, .int .u32 (alu op x y).2, .bool true]) ∧ Kep w w' := by
  obtain ⟨m, rfl⟩ : ∃ m : Nat, x = m := ⟨x.toNat, by omega⟩
  have hk : y % 32 = ((y % 32).toNat : Int) := by omega
  rcases ops16 hop with rfl | rfl | rfl | rfl | rfl | rfl | rfl | rfl | rfl | rfl | rfl | rfl | rfl | rfl | rfl | rfl
  all_goals
    clear hop
    simp [fnOf] at hc
    go_enter Tryd.func98, Tryd.ntmps98
    go_wp2_with fail
    first
      | refine (sec_any _ _ _).mono ?_
      | refine (add_any _ _ _ (by omega) (by omega) (by omega) (by omega)).mono ?_
      | refine (sub_any _ _ _ (by omega) (by omega) (by omega) (by omega)).mono ?_
      | refine (and_any _ _ _).mono ?_
      | refine (or_any _ _ _).mono ?_
      | refine (xor_any _ _ _).mono ?_
      | refine (shl_any m (y % 32).toNat _ _ (by omega) (by omega) (by omega) hk).mono ?_
      | refine (shr_any m (y % 32).toNat _ _ (by omega) (by omega) (by omega) hk).mono ?_
      | refine (mul_any _ _ _ (by omega) (by omega) (by omega) (by omega)).mono ?_
      | refine (ror_any m (y % 32).toNat _ _ (by omega) (by omega) (by omega) hk).mono ?_
      | refine (sar_any m (y % 32).toNat _ _ (by omega) (by omega) (by omega) hk).mono ?_
      | refine (mulh_any _ _ _ (by omega) (by omega) (by omega) (by omega)).mono ?_
    rintro e w1 ⟨rfl, K⟩
    have K' : Hid (Kep w w1) := K
    clear K hc hk hx hy
    go_wp2_with fail
    go_ret3
    exact ⟨by rfl, K'.out⟩
structure KW (w : World) where
  val : World
  ok : Kep w val
theorem region_kw {P : Program} {id : Nat} {Q : Exit → Act → World → Prop} {a : Act} {w : World} {l : List Oper} (hm : P.follows .mixedOrders = true) (hB : Region.lexB .any l.toArray = true)
    (h : wpQuiet P l.toArray (fun w' => ∃ i : KW w, w' = i.val) (fun a' => ∀ w', (∃ i : KW w, w' = i.val) → Q .normal a' w') l a) : (Code.region id l.toArray true).wp P Q a w :=
  wp_region_quiet (C := fun w' => ∃ i : KW w, w' = i.val) hm hB ⟨⟨_, (Kep.refl w).drew⟩, rfl⟩ (by simpa using h)
theorem KW.cell {w : World} {b o : Nat} {v : Value} (h : w.cell? ⟨b, o, none⟩ = some v) (i : KW w) : i.val.cell? ⟨b, o, none⟩ = some v := (i.ok.cell (World.block_lt_of_cell? w _ h)).trans h
theorem quiet_row {P : Program} {ops : Array Oper} {C : World → Prop} {Q : Act → Prop} {a : Act} {o : Oper} {rest : List Oper} (ty : TypeId) (x : Operand) (ho : o.op = .load ty x) (g : Nat) (hx : a.eval x = .pointer (some ⟨g, 0, none⟩)) (hw : Region.wanted o (yielded ops a.tmps) = true)
    (t : TypeId) (cs : Array Value) (fr : Nat × Nat) (d : TypeDesc) (hC : ∀ w, C w → w.heap[g]? = some (.cells cs t fr)) (hu : P.underlying ty = some d) (hd : (match d with | .struct _ | .array _ _ => true | _ => false) = true) (hi : (P.info? ty).map (·.size) = some cs.size)
    (h : wpQuiet P ops C Q rest (a.put o.dst (.agg cs))) : wpQuiet P ops C Q (o :: rest) a :=
  wpQuiet_step fun K hK => by
    rw [if_pos hw]
    refine ⟨.agg cs, fun w hc => ?_, hK _ h⟩
    unfold Oper.quietAt execOp
    simp only [ho, hx, Instr.loadAt, Instr.sureAddr, Sem.run_bind, Sem.run_pure, Result.andThen_ok, run_loadVar_row w g t ty cs fr d (hC w hc) hu hd hi]
    exact ⟨rfl, rfl⟩
theorem yields_row {P : Program} {ops : Array Oper} {S : World → Prop} {o : Oper} {a : Act} (hg : o.guard = none) (ty : TypeId) (x : Operand) (ho : o.op = .load ty x) (g : Nat) (hx : a.eval x = .pointer (some ⟨g, 0, none⟩)) (t : TypeId) (cs : Array Value) (fr : Nat × Nat) (d : TypeDesc)
    (hS : ∀ w, S w → w.heap[g]? = some (.cells cs t fr)) (hu : P.underlying ty = some d) (hd : (match d with | .struct _ | .array _ _ => true | _ => false) = true) (hi : (P.info? ty).map (·.size) = some cs.size) : YieldsIf P ops S o (.agg cs) a :=
  .inl ⟨by simp [Region.wanted, hg], fun w h => by
    unfold execOp
    simp only [ho, hx, Instr.loadAt, Instr.sureAddr, Sem.run_bind, Sem.run_pure, Result.andThen_ok, run_loadVar_row w g t ty cs fr d (hS w h) hu hd hi]⟩
def rB (r : Nat) : Bool := [false, false, false, true, false, false, true, false, false, false].getD r false
def rS (r : Nat) : Bool := [false, false, false, false, false, true, true, true, false, true].getD r false
def rformA (r : Nat) : Array Value := #[.int .i64 (sz r), .bool (hasA r), .bool (rB r), .int .i64 (f3 r), .bool (rS r)]
theorem size24 : (Tryd.prog.info? 49).map (·.size) = some 5 := by kernel_rfl
theorem rform_one (r : Nat) : (rformA r).all (·.oneCell') = true := by simp [rformA, Value.oneCell']
abbrev zero24 : Array Value := #[.int .i64 0, .bool false, .bool false, .int .i64 0, .bool false]
theorem ret24 (w : World) (r : Nat) : Kep w ((w.alloc (.cells zero24 49)).setRow w.heap.size (rformA r)) := ((Kep.refl _).alloc _).setRow _ _ (Nat.le_refl _)
set_option maxHeartbeats 2000000 in
set_option maxRecDepth 100000 in
theorem ref1 (op : Int) (host : Bool) (w : World) (h : op = 0 ∨ op = 1 ∨ op = 2 ∨ op = 3) :
    Calls Tryd.prog 20 #[.int .u8 op, .bool host] w fun e w' => e = .returned (.agg (rformA 1)) ∧ Kep w w' := by
  rcases h with rfl | rfl | rfl | rfl
  all_goals
    go_enter Tryd.func20, Tryd.ntmps20
    go_wp2_with (refine wpList_store_row rfl 49 _ _ rfl w.heap.size (rformA 1) rfl rfl 49 zero24 (heap_alloc_new _ _) size24 rfl (rform_one _) ?_)
  all_goals
    try simp only [Exit.inBlock, Exit.then]
    refine bodyPost_ret (results_cell_row rfl _ _ w.heap.size 49 (rformA 1) (0, 0) _ rfl (setRow_heap _ _ _ _ _ _ (heap_alloc_new _ _)) Tryd.underlying49 rfl size24) rfl ⟨rfl, ret24 w 1⟩
set_option maxHeartbeats 2000000 in
set_option maxRecDepth 100000 in
theorem ref3a (op : Int) (host : Bool) (w : World) (h : 16 ≤ op) (h' : op ≤ 31) :
    Calls Tryd.prog 20 #[.int .u8 op, .bool host] w fun e w' => e = .returned (.agg (rformA 3)) ∧ Kep w w' := by
  have q0 : (op == 0) = false := by rw [beq_eq_false_iff_ne]; omega
  have q1 : (op == 1) = false := by rw [beq_eq_false_iff_ne]; omega
  have q2 : (op == 2) = false := by rw [beq_eq_false_iff_ne]; omega
  have q3 : (op == 3) = false := by rw [beq_eq_false_iff_ne]; omega
  all_goals
    go_enter Tryd.func20, Tryd.ntmps20
    go_wp2_with (refine wpList_store_row rfl 49 _ _ rfl w.heap.size (rformA 3) rfl rfl 49 zero24 (heap_alloc_new _ _) size24 rfl (rform_one _) ?_)
  all_goals
    try simp only [Exit.inBlock, Exit.then]
    refine bodyPost_ret (results_cell_row rfl _ _ w.heap.size 49 (rformA 3) (0, 0) _ rfl (setRow_heap _ _ _ _ _ _ (heap_alloc_new _ _)) Tryd.underlying49 rfl size24) rfl ⟨rfl, ret24 w 3⟩
set_option maxHeartbeats 2000000 in
set_option maxRecDepth 100000 in
theorem ref3b (op : Int) (host : Bool) (w : World) (h : op = 58 ∨ op = 98 ∨ op = 99 ∨ op = 100 ∨ op = 101) :
    Calls Tryd.prog 20 #[.int .u8 op, .bool host] w fun e w' => e = .returned (.agg (rformA 3)) ∧ Kep w w' := by
  rcases h with rfl | rfl | rfl | rfl | rfl
  all_goals
    go_enter Tryd.func20, Tryd.ntmps20
    go_wp2_with (refine wpList_store_row rfl 49 _ _ rfl w.heap.size (rformA 3) rfl rfl 49 zero24 (heap_alloc_new _ _) size24 rfl (rform_one _) ?_)
  all_goals
    try simp only [Exit.inBlock, Exit.then]
    refine bodyPost_ret (results_cell_row rfl _ _ w.heap.size 49 (rformA 3) (0, 0) _ rfl (setRow_heap _ _ _ _ _ _ (heap_alloc_new _ _)) Tryd.underlying49 rfl size24) rfl ⟨rfl, ret24 w 3⟩
set_option maxHeartbeats 2000000 in
set_option maxRecDepth 100000 in
theorem ref2 (op : Int) (host : Bool) (w : World) (h : op = 73 ∨ op = 74 ∨ op = 56 ∨ op = 57 ∨ op = 96 ∨ op = 97) :
    Calls Tryd.prog 20 #[.int .u8 op, .bool host] w fun e w' => e = .returned (.agg (rformA 2)) ∧ Kep w w' := by
  rcases h with rfl | rfl | rfl | rfl | rfl | rfl
  all_goals
    go_enter Tryd.func20, Tryd.ntmps20
    go_wp2_with (refine wpList_store_row rfl 49 _ _ rfl w.heap.size (rformA 2) rfl rfl 49 zero24 (heap_alloc_new _ _) size24 rfl (rform_one _) ?_)
  all_goals
    try simp only [Exit.inBlock, Exit.then]
    refine bodyPost_ret (results_cell_row rfl _ _ w.heap.size 49 (rformA 2) (0, 0) _ rfl (setRow_heap _ _ _ _ _ _ (heap_alloc_new _ _)) Tryd.underlying49 rfl size24) rfl ⟨rfl, ret24 w 2⟩
set_option maxHeartbeats 2000000 in
set_option maxRecDepth 100000 in
theorem ref4 (op : Int) (host : Bool) (w : World) (h : op = 80 ∨ (op = 112 ∧ host = true)) :
    Calls Tryd.prog 20 #[.int .u8 op, .bool host] w fun e w' => e = .returned (.agg (rformA 4)) ∧ Kep w w' := by
  rcases h with rfl | ⟨rfl, rfl⟩
  all_goals
    go_enter Tryd.func20, Tryd.ntmps20
    go_wp2_with (refine wpList_store_row rfl 49 _ _ rfl w.heap.size (rformA 4) rfl rfl 49 zero24 (heap_alloc_new _ _) size24 rfl (rform_one _) ?_)
  all_goals
    try simp only [Exit.inBlock, Exit.then]
    refine bodyPost_ret (results_cell_row rfl _ _ w.heap.size 49 (rformA 4) (0, 0) _ rfl (setRow_heap _ _ _ _ _ _ (heap_alloc_new _ _)) Tryd.underlying49 rfl size24) rfl ⟨rfl, ret24 w 4⟩
set_option maxHeartbeats 2000000 in
set_option maxRecDepth 100000 in
theorem ref5 (op : Int) (host : Bool) (w : World) (h : op = 33) :
    Calls Tryd.prog 20 #[.int .u8 op, .bool host] w fun e w' => e = .returned (.agg (rformA 5)) ∧ Kep w w' := by
  subst h
  all_goals
    go_enter Tryd.func20, Tryd.ntmps20
    go_wp2_with (refine wpList_store_row rfl 49 _ _ rfl w.heap.size (rformA 5) rfl rfl 49 zero24 (heap_alloc_new _ _) size24 rfl (rform_one _) ?_)
  all_goals
    try simp only [Exit.inBlock, Exit.then]
    refine bodyPost_ret (results_cell_row rfl _ _ w.heap.size 49 (rformA 5) (0, 0) _ rfl (setRow_heap _ _ _ _ _ _ (heap_alloc_new _ _)) Tryd.underlying49 rfl size24) rfl ⟨rfl, ret24 w 5⟩
set_option maxHeartbeats 2000000 in
set_option maxRecDepth 100000 in
theorem ref9 (op : Int) (host : Bool) (w : World) (h : op = 32) :
    Calls Tryd.prog 20 #[.int .u8 op, .bool host] w fun e w' => e = .returned (.agg (rformA 9)) ∧ Kep w w' := by
  subst h
  all_goals
    go_enter Tryd.func20, Tryd.ntmps20
    go_wp2_with (refine wpList_store_row rfl 49 _ _ rfl w.heap.size (rformA 9) rfl rfl 49 zero24 (heap_alloc_new _ _) size24 rfl (rform_one _) ?_)
  all_goals
    try simp only [Exit.inBlock, Exit.then]
    refine bodyPost_ret (results_cell_row rfl _ _ w.heap.size 49 (rformA 9) (0, 0) _ rfl (setRow_heap _ _ _ _ _ _ (heap_alloc_new _ _)) Tryd.underlying49 rfl size24) rfl ⟨rfl, ret24 w 9⟩
set_option maxHeartbeats 2000000 in
set_option maxRecDepth 100000 in
theorem ref8 (op : Int) (host : Bool) (w : World) (h : op = 113 ∧ host = true) :
    Calls Tryd.prog 20 #[.int .u8 op, .bool host] w fun e w' => e = .returned (.agg (rformA 8)) ∧ Kep w w' := by
  obtain ⟨rfl, rfl⟩ := h
  all_goals
    go_enter Tryd.func20, Tryd.ntmps20
    go_wp2_with (refine wpList_store_row rfl 49 _ _ rfl w.heap.size (rformA 8) rfl rfl 49 zero24 (heap_alloc_new _ _) size24 rfl (rform_one _) ?_)
  all_goals
    try simp only [Exit.inBlock, Exit.then]
    refine bodyPost_ret (results_cell_row rfl _ _ w.heap.size 49 (rformA 8) (0, 0) _ rfl (setRow_heap _ _ _ _ _ _ (heap_alloc_new _ _)) Tryd.underlying49 rfl size24) rfl ⟨rfl, ret24 w 8⟩
set_option maxHeartbeats 2000000 in
set_option maxRecDepth 100000 in
theorem ref6 (op : Int) (host : Bool) (w : World) (h : 48 ≤ op) (h' : op ≤ 55) :
    Calls Tryd.prog 20 #[.int .u8 op, .bool host] w fun e w' => e = .returned (.agg (rformA 6)) ∧ Kep w w' := by
  have q0 : (op == 0) = false := by rw [beq_eq_false_iff_ne]; omega
  have q1 : (op == 1) = false := by rw [beq_eq_false_iff_ne]; omega
  have q2 : (op == 2) = false := by rw [beq_eq_false_iff_ne]; omega
  have q3 : (op == 3) = false := by rw [beq_eq_false_iff_ne]; omega
  have q58 : (op == 58) = false := by rw [beq_eq_false_iff_ne]; omega
  have q98 : (op == 98) = false := by rw [beq_eq_false_iff_ne]; omega
  have q99 : (op == 99) = false := by rw [beq_eq_false_iff_ne]; omega
  have q100 : (op == 100) = false := by rw [beq_eq_false_iff_ne]; omega
  have q101 : (op == 101) = false := by rw [beq_eq_false_iff_ne]; omega
  have q73 : (op == 73) = false := by rw [beq_eq_false_iff_ne]; omega
  have q74 : (op == 74) = false := by rw [beq_eq_false_iff_ne]; omega
  have q56 : (op == 56) = false := by rw [beq_eq_false_iff_ne]; omega
  have q57 : (op == 57) = false := by rw [beq_eq_false_iff_ne]; omega
  have q96 : (op == 96) = false := by rw [beq_eq_false_iff_ne]; omega
  have q97 : (op == 97) = false := by rw [beq_eq_false_iff_ne]; omega
  have q80 : (op == 80) = false := by rw [beq_eq_false_iff_ne]; omega
  have q112 : (op == 112) = false := by rw [beq_eq_false_iff_ne]; omega
  have q33 : (op == 33) = false := by rw [beq_eq_false_iff_ne]; omega
  have r31 : decide (op ≤ 31) = false := by rw [decide_eq_false_iff_not]; omega
  all_goals
    go_enter Tryd.func20, Tryd.ntmps20
    go_wp2_with (refine wpList_store_row rfl 49 _ _ rfl w.heap.size (rformA 6) rfl rfl 49 zero24 (heap_alloc_new _ _) size24 rfl (rform_one _) ?_)
  all_goals
    try simp only [Exit.inBlock, Exit.then]
    refine bodyPost_ret (results_cell_row rfl _ _ w.heap.size 49 (rformA 6) (0, 0) _ rfl (setRow_heap _ _ _ _ _ _ (heap_alloc_new _ _)) Tryd.underlying49 rfl size24) rfl ⟨rfl, ret24 w 6⟩
set_option maxHeartbeats 2000000 in
set_option maxRecDepth 100000 in
theorem ref7 (op : Int) (host : Bool) (w : World) (h : 64 ≤ op) (h' : op ≤ 72) :
    Calls Tryd.prog 20 #[.int .u8 op, .bool host] w fun e w' => e = .returned (.agg (rformA 7)) ∧ Kep w w' := by
  have q0 : (op == 0) = false := by rw [beq_eq_false_iff_ne]; omega
  have q1 : (op == 1) = false := by rw [beq_eq_false_iff_ne]; omega
  have q2 : (op == 2) = false := by rw [beq_eq_false_iff_ne]; omega
  have q3 : (op == 3) = false := by rw [beq_eq_false_iff_ne]; omega
  have q58 : (op == 58) = false := by rw [beq_eq_false_iff_ne]; omega
  have q98 : (op == 98) = false := by rw [beq_eq_false_iff_ne]; omega
  have q99 : (op == 99) = false := by rw [beq_eq_false_iff_ne]; omega
  have q100 : (op == 100) = false := by rw [beq_eq_false_iff_ne]; omega
  have q101 : (op == 101) = false := by rw [beq_eq_false_iff_ne]; omega
  have q73 : (op == 73) = false := by rw [beq_eq_false_iff_ne]; omega
  have q74 : (op == 74) = false := by rw [beq_eq_false_iff_ne]; omega
  have q56 : (op == 56) = false := by rw [beq_eq_false_iff_ne]; omega
  have q57 : (op == 57) = false := by rw [beq_eq_false_iff_ne]; omega
  have q96 : (op == 96) = false := by rw [beq_eq_false_iff_ne]; omega
  have q97 : (op == 97) = false := by rw [beq_eq_false_iff_ne]; omega
  have q80 : (op == 80) = false := by rw [beq_eq_false_iff_ne]; omega
  have q112 : (op == 112) = false := by rw [beq_eq_false_iff_ne]; omega
  have q33 : (op == 33) = false := by rw [beq_eq_false_iff_ne]; omega
  have r31 : decide (op ≤ 31) = false := by rw [decide_eq_false_iff_not]; omega
  have r55 : decide (op ≤ 55) = false := by rw [decide_eq_false_iff_not]; omega
  all_goals
    go_enter Tryd.func20, Tryd.ntmps20
    go_wp2_with (refine wpList_store_row rfl 49 _ _ rfl w.heap.size (rformA 7) rfl rfl 49 zero24 (heap_alloc_new _ _) size24 rfl (rform_one _) ?_)
  all_goals
    try simp only [Exit.inBlock, Exit.then]
    refine bodyPost_ret (results_cell_row rfl _ _ w.heap.size 49 (rformA 7) (0, 0) _ rfl (setRow_heap _ _ _ _ _ _ (heap_alloc_new _ _)) Tryd.underlying49 rfl size24) rfl ⟨rfl, ret24 w 7⟩
set_option maxHeartbeats 2000000 in
set_option maxRecDepth 100000 in
theorem ref0h (op : Int) (host : Bool) (w : World)  (h : op = 112 ∨ op = 113) (hh : host = false) :
    Calls Tryd.prog 20 #[.int .u8 op, .bool host] w fun e w' => e = .returned (.agg (rformA 0)) ∧ Kep w w' := by
  subst hh
  rcases h with rfl | rfl
  all_goals
    go_enter Tryd.func20, Tryd.ntmps20
    go_wp2_with (refine wpList_store_row rfl 49 _ _ rfl w.heap.size (rformA 0) rfl rfl 49 zero24 (heap_alloc_new _ _) size24 rfl (rform_one _) ?_)
  all_goals
    try simp only [Exit.inBlock, Exit.then]
    refine bodyPost_ret (results_cell_row rfl _ _ w.heap.size 49 (rformA 0) (0, 0) _ rfl (setRow_heap _ _ _ _ _ _ (heap_alloc_new _ _)) Tryd.underlying49 rfl size24) rfl ⟨rfl, ret24 w 0⟩
set_option maxHeartbeats 2000000 in
set_option maxRecDepth 100000 in
theorem ref0 (op : Int) (host : Bool) (w : World) (h0 : op ≠ 0 ∧ op ≠ 1 ∧ op ≠ 2 ∧ op ≠ 3) (h1 : ¬ (16 ≤ op ∧ op ≤ 31)) (h2 : op ≠ 58 ∧ op ≠ 98 ∧ op ≠ 99 ∧ op ≠ 100 ∧ op ≠ 101) (h3 : op ≠ 73 ∧ op ≠ 74 ∧ op ≠ 56 ∧ op ≠ 57 ∧ op ≠ 96 ∧ op ≠ 97) (h4 : op ≠ 80 ∧ op ≠ 112 ∧ op ≠ 33) (h5 : ¬ (48 ≤ op ∧ op ≤ 55)) (h6 : ¬ (64 ≤ op ∧ op ≤ 72)) (h7 : op ≠ 113 ∧ op ≠ 32) :
    Calls Tryd.prog 20 #[.int .u8 op, .bool host] w fun e w' => e = .returned (.agg (rformA 0)) ∧ Kep w w' := by
  have q0 : (op == 0) = false := by rw [beq_eq_false_iff_ne]; omega
  have q1 : (op == 1) = false := by rw [beq_eq_false_iff_ne]; omega
  have q2 : (op == 2) = false := by rw [beq_eq_false_iff_ne]; omega
  have q3 : (op == 3) = false := by rw [beq_eq_false_iff_ne]; omega
  have q58 : (op == 58) = false := by rw [beq_eq_false_iff_ne]; omega
  have q98 : (op == 98) = false := by rw [beq_eq_false_iff_ne]; omega
  have q99 : (op == 99) = false := by rw [beq_eq_false_iff_ne]; omega
  have q100 : (op == 100) = false := by rw [beq_eq_false_iff_ne]; omega
  have q101 : (op == 101) = false := by rw [beq_eq_false_iff_ne]; omega
  have q73 : (op == 73) = false := by rw [beq_eq_false_iff_ne]; omega
  have q74 : (op == 74) = false := by rw [beq_eq_false_iff_ne]; omega
  have q56 : (op == 56) = false := by rw [beq_eq_false_iff_ne]; omega
  have q57 : (op == 57) = false := by rw [beq_eq_false_iff_ne]; omega
  have q96 : (op == 96) = false := by rw [beq_eq_false_iff_ne]; omega
  have q97 : (op == 97) = false := by rw [beq_eq_false_iff_ne]; omega
  have q80 : (op == 80) = false := by rw [beq_eq_false_iff_ne]; omega
  have q112 : (op == 112) = false := by rw [beq_eq_false_iff_ne]; omega
  have q33 : (op == 33) = false := by rw [beq_eq_false_iff_ne]; omega
  have q113 : (op == 113) = false := by rw [beq_eq_false_iff_ne]; omega
  have q32 : (op == 32) = false := by rw [beq_eq_false_iff_ne]; omega
  have c : (decide (op ≥ 16) = false ∧ decide (op ≥ 48) = false ∧ decide (op ≥ 64) = false) ∨ ((decide (op ≥ 16) = true ∧ decide (op ≤ 31) = false) ∧ decide (op ≥ 48) = false ∧ decide (op ≥ 64) = false) ∨
      ((decide (op ≥ 16) = true ∧ decide (op ≤ 31) = false) ∧ (decide (op ≥ 48) = true ∧ decide (op ≤ 55) = false) ∧ decide (op ≥ 64) = false) ∨
      ((decide (op ≥ 16) = true ∧ decide (op ≤ 31) = false) ∧ (decide (op ≥ 48) = true ∧ decide (op ≤ 55) = false) ∧ (decide (op ≥ 64) = true ∧ decide (op ≤ 72) = false)) := by
    simp only [decide_eq_false_iff_not, decide_eq_true_iff]; omega
  clear h0 h1 h2 h3 h4 h5 h6 h7
  rcases c with ⟨c1, c2, c3⟩ | ⟨⟨c1, c2⟩, c3, c4⟩ | ⟨⟨c1, c2⟩, ⟨c3, c4⟩, c5⟩ | ⟨⟨c1, c2⟩, ⟨c3, c4⟩, ⟨c5, c6⟩⟩
  all_goals
    go_enter Tryd.func20, Tryd.ntmps20
    go_wp2_with (refine wpList_store_row rfl 49 _ _ rfl w.heap.size (rformA 0) rfl rfl 49 zero24 (heap_alloc_new _ _) size24 rfl (rform_one _) ?_)
  all_goals
    try simp only [Exit.inBlock, Exit.then]
    refine bodyPost_ret (results_cell_row rfl _ _ w.heap.size 49 (rformA 0) (0, 0) _ rfl (setRow_heap _ _ _ _ _ _ (heap_alloc_new _ _)) Tryd.underlying49 rfl size24) rfl ⟨rfl, ret24 w 0⟩
theorem refOf_any (op : Int) (host : Bool) (w : World) :
    Calls Tryd.prog 20 #[.int .u8 op, .bool host] w fun e w' => e = .returned (.agg (rformA (rowOf op host))) ∧ Kep w w' := by
  unfold rowOf
  split
  · exact ref1 op host w (by assumption)
  split
  · rename_i h
    rcases h with h | h
    · exact ref3a op host w h.1 h.2
    · exact ref3b op host w h
  split
  · exact ref2 op host w (by assumption)
  split
  · exact ref4 op host w (by assumption)
  split
  · exact ref5 op host w (by assumption)
  split
  · rename_i h; exact ref6 op host w h.1 h.2
  split
  · rename_i h; exact ref7 op host w h.1 h.2
  split
  · exact ref8 op host w (by assumption)
  split
  · exact ref9 op host w (by assumption)
  · by_cases c : op = 112 ∨ op = 113
    · refine ref0h op host w c ?_
      cases host
      · rfl
      · exfalso; simp_all
    · apply ref0 <;> omega
theorem form_size (r : Nat) (w : World) : (Instr.field 49 (.agg (rformA r)) 0).run Tryd.prog w = .ok (.int .i64 (sz r)) w := by kernel_rfl
theorem sz_range (op : Int) : 0 ≤ sz (rowOf op false) ∧ sz (rowOf op false) ≤ 6 := by
  have hr := rowOf_lt op false
  generalize rowOf op false = r at *
  have q : ∀ r, r < 10 → 0 ≤ sz r ∧ sz r ≤ 6 := by decide
  exact q r hr
end Go.Proofs.YthimfiihebdchaaDoor
