/- Part of a proof. -/
import Derived.Deep.RegionWith
import Derived.Test.YtnignfloedcmlaaGreatDoorJ18
import Derived.Test.YtnignfloedcmlaaGreatDoorJ03
namespace Go.Proofs.YtnignfloedcmlaaGreatDoor
open Go.RowKit
set_option linter.unusedVariables false
set_option linter.unusedSimpArgs false
structure Bytes (w : World) (b off len cap : Nat) (zs : List Int) : Prop where
  le : len ≤ cap
  max : cap ≤ maxLen
  cell : ∀ i, i < len → w.cell? ⟨b, off + i, none⟩ = some (.int .u8 (zat zs i))
  fit : ∀ n ∈ zs, 0 ≤ n ∧ n < 256
  lt : b < w.heap.size
abbrev zeroI : Array Value := #[.int .u8 0, .int .u8 0, .int .u8 0, .int .i32 0]
def okD (r : Nat) (zs : List Int) (len : Nat) : Bool := r != 0 && (decide (sz r ≤ len) && (decide (aOf r zs ≤ f1 r) && decide (bOf r zs ≤ f2 r)))
def errD (r : Nat) (zs : List Int) (len : Nat) : Int := if r = 0 then 21 else if (len : Int) < sz r then 20 else if okD r zs len then 0 else 21
def insD (r : Nat) (zs : List Int) (len : Nat) : Array Value := if okD r zs len then insA (zat zs 0) (aOf r zs) (bOf r zs) (immOf r zs) else zeroI
def numD (r : Nat) (zs : List Int) (len : Nat) : Int := if okD r zs len then sz r else 0
theorem set4 {W : World} {g : Nat} {t : TypeId} {a b c d a' b' c' d' : Value} (h : W.heap[g]? = some (.cells #[a, b, c, d] t (0, 0))) :
    (((((W.setCell ⟨g, 0, none⟩ a').setCell ⟨g, 1, none⟩ b').setCell ⟨g, 2, none⟩ c').setCell ⟨g, 3, none⟩ d').drew).heap[g]? = some (.cells #[a', b', c', d'] t (0, 0)) := by
  have h1 := heap_setCell_same W g 0 _ _ a' h
  have h2 := heap_setCell_same _ g 1 _ _ b' h1
  have h3 := heap_setCell_same _ g 2 _ _ c' h2
  have h4 := heap_setCell_same _ g 3 _ _ d' h3
  exact h4
theorem frozen_old {w : World} {o : Obj} {b i : Nat} (h : b < w.heap.size) : (w.alloc o).frozen? ⟨b, i, none⟩ = w.frozen? ⟨b, i, none⟩ := World.frozen?_of_block (a := ⟨b, i, none⟩) (heap_skip _ _ _ h)
theorem results3 {P : Program} {fn : Func} {p u v : Tmp} {ty : TypeId} (h : fn.results = #[.cell p ty, .tmp u, .tmp v]) (tmps : Array Value) (w : World) (g : Nat) (t : TypeId) (cs : Array Value) (fr : Nat × Nat) (d : TypeDesc)
    (hp : tmps.getD p undef = .pointer (some ⟨g, 0, none⟩)) (hg : w.heap[g]? = some (.cells cs t fr))
    (hu : P.underlying ty = some d) (hd : (match d with | .struct _ | .array _ _ => true | _ => false) = true) (hi : (P.info? ty).map (·.size) = some cs.size) :
    (results fn tmps).run P w = .ok (.tuple #[.agg cs, tmps.getD u undef, tmps.getD v undef]) w := by
  have hp' : tmps[p]?.getD undef = .pointer (some ⟨g, 0, none⟩) := by simpa using hp
  simp [results, h, hp', asAddr, run_loadVar_row w g t ty cs fr d hg hu hd hi]
set_option maxHeartbeats 4000000 in
set_option maxRecDepth 100000 in
theorem decode_any (b off len cap : Nat) (zs : List Int) (host : Bool) (r : Nat) (hrow : rowOf (zat zs 0) host = r) (w : World) (h0 : 0 < len) (hB : Bytes w b off len cap zs) (hT : Tabs w) :
    Calls Tryz.prog 79 #[.slice (some ⟨b, off, none⟩) len cap, .bool host] w fun e w' => e = .returned (.tuple #[.agg (insD r zs len), .int .i64 (numD r zs len), .int .i64 (errD r zs len)]) ∧ Kep w w' := by
  have hr := hrow ▸ rowOf_lt (zat zs 0) host
  have hz0 := zat_range hB.fit 0
  have hc0 : w.cell? ⟨b, off, none⟩ = some (.int .u8 (zat zs 0)) := hB.cell 0 h0
  have h0' : (0 : Int) < len := by omega
  have hlm : (len : Int) ≤ 9223372036854775807 := by have h1 := hB.le; have h2 := hB.max; unfold maxLen at h2; omega
  have hbw := hB.lt
  have hl0 : ((len : Int) == 0) = false := by rw [beq_eq_false_iff_ne]; omega
  have hmf : ∀ (fn : Fn) (first cap : Array Value) (w : World), (Instr.makeFunc fn first cap).run Tryz.prog w = .ok (.func fn first cap) w := fun _ _ _ _ => rfl
  have hB' : Hid (Bytes w b off len cap zs) := hB
  have hT' : Hid (Tabs w) := hT
  clear hB hT
  go_enter Tryz.func79, Tryz.ntmps79
  go_wp2_with fail
  refine (formOf_any (zat zs 0) host _ hz0.1 hz0.2 (hT'.grown ((Kep.refl _).alloc _))).mono ?_
  rintro e w1 ⟨rfl, g1⟩
  rw [hrow]
  have G1 : Hid (Kep w w1) := kep_trans ((Kep.refl _).alloc _) g1
  have bQ : w1.heap[w.heap.size]? = some (.cells zeroI 128 (0, 0)) := g1.block (heap_at _ _ _ rfl)
  have z1 : w.heap.size < w1.heap.size := g1.lt (by simp)
  have zb : b < w1.heap.size := by omega
  have hT1 := hT'.grown G1
  have zz : 0 < w1.heap.size := by have := tabs_size hT1; omega
  obtain ⟨q0, q1, q2, q3, q4⟩ := hT1.form0
  have he := form_eq r hr
  unfold formA at he
  have bQ' : Hid (w1.heap[w.heap.size]? = some (.cells zeroI 128 (0, 0))) := bQ
  clear g1 hT1 bQ
  unfold formA
  by_cases hz : r = 0
  · subst hz
    have hz' : ((0 : Nat) == 0) = true := rfl
    rw [hz'] at he
    have hrowQ : ∀ o, (w1.alloc o).heap[w.heap.size]? = some (.cells zeroI 128 (0, 0)) := fun o => (heap_skip _ _ _ z1).trans bQ'
    go_wp2_with (refine wpList_store_row rfl 128 _ _ rfl w.heap.size zeroI rfl rfl 128 _ (hrowQ _) sizeIns rfl (ins_one _ _ _ _) ?_)
    try simp only [Exit.inBlock, Exit.then]
    refine bodyPost_ret (results3 rfl _ _ w.heap.size 128 zeroI (0, 0) _ rfl (setRow_heap _ _ _ _ _ _ (hrowQ _)) Tryz.underlying128 rfl sizeIns) rfl ⟨rfl, ?_⟩
    exact (G1.alloc _).setRow _ _ (Nat.le_refl _)
  · have hz' : (r == 0) = false := by simpa using hz
    rw [hz'] at he
    have hsz := size_any r hr
    have hok : Hid (okD r zs len = (decide (sz r ≤ len) && (decide (aOf r zs ≤ f1 r) && decide (bOf r zs ≤ f2 r)))) := by unfold Hid okD; simp [hz]
    have herr : Hid (errD r zs len = if (len : Int) < sz r then 20 else if okD r zs len then 0 else 21) := by unfold Hid errD; rw [if_neg hz]
    go_wp2_with fail
    refine (hsz _).mono ?_
    rintro e w2 ⟨rfl, rfl⟩
    unfold formA
    by_cases hlen : (len : Int) < sz r
    · have hrowQ : ∀ o1 o2 o3, (((w1.alloc o1).alloc o2).alloc o3).heap[w.heap.size]? = some (.cells zeroI 128 (0, 0)) := fun o1 o2 o3 => (heap_skip _ _ _ (by simp; omega)).trans ((heap_skip _ _ _ (by simp; omega)).trans ((heap_skip _ _ _ z1).trans bQ'))
      have hno : okD r zs len = false := by rw [hok.out]; simp; intro h; omega
      clear he hsz
      go_wp2_with (refine wpList_store_row rfl 128 _ _ rfl w.heap.size zeroI rfl rfl 128 _ (hrowQ _ _ _) sizeIns rfl (ins_one _ _ _ _) ?_)
      try simp only [Exit.inBlock, Exit.then]
      refine bodyPost_ret (results3 rfl _ _ w.heap.size 128 zeroI (0, 0) _ rfl (setRow_heap _ _ _ _ _ _ (hrowQ _ _ _)) Tryz.underlying128 rfl sizeIns) rfl ⟨?_, ?_⟩
      · rw [herr.out, if_pos hlen]; unfold insD numD; rw [hno]; rfl
      · exact (((G1.alloc _).alloc _).alloc _).setRow _ _ (Nat.le_refl _)
    · have hlen' : sz r ≤ (len : Int) := by omega
      go_wp2_with fail
      have K4 : Hid (∀ o1 o2 o3 o4, Kep w ((((w1.alloc o1).alloc o2).alloc o3).alloc o4)) := fun o1 o2 o3 o4 => (((G1.alloc _).alloc _).alloc _).alloc _
      refine (read_any r hr hz (w1.heap.size + 1 + 1 + 1) b off len cap zs _ (by omega) (by simp; omega) hB'.le hB'.max hlen' (fun i hi => ((K4.out _ _ _ _).cell hbw).trans (hB'.cell i hi)) hB'.fit ⟨some ⟨b, off, none⟩, heap_at _ _ _ (by simp), fun _ => rfl⟩).mono ?_
      rintro e w5 ⟨rfl, g5⟩
      have bQ5 : w5.heap[w.heap.size]? = some (.cells zeroI 128 (0, 0)) := gb_block g5 ((heap_skip _ _ _ (by simp; omega)).trans ((heap_skip _ _ _ (by simp; omega)).trans ((heap_skip _ _ _ (by simp; omega)).trans ((heap_skip _ _ _ z1).trans bQ')))) (by omega)
      have bF5 : w5.heap[w1.heap.size]? = some (.cells (formA r) 179 (0, 0)) := gb_block g5 ((heap_skip _ _ _ (by simp; omega)).trans ((heap_skip _ _ _ (by simp; omega)).trans ((heap_skip _ _ _ (by simp)).trans (heap_at _ _ _ rfl)))) (by omega)
      have z5 : w1.heap.size < w5.heap.size := Nat.lt_of_lt_of_le (by simp; omega) g5.size
      have z5' : w.heap.size < w5.heap.size := by omega
      have K5 : Hid (Kep w w5) := (K4.out _ _ _ _).by g5 (by intro k hk; simp at hk; omega)
      have c0 : w5.cell? ⟨w1.heap.size, 0, none⟩ = some (.int .u8 (f0 r)) := cell_of_block bF5
      have c1 : w5.cell? ⟨w1.heap.size, 1, none⟩ = some (.int .u8 (f1 r)) := cell_of_block bF5
      have c2 : w5.cell? ⟨w1.heap.size, 2, none⟩ = some (.int .u8 (f2 r)) := cell_of_block bF5
      have c3 : w5.cell? ⟨w1.heap.size, 3, none⟩ = some (.int .u8 (f3 r)) := cell_of_block bF5
      have c4 : w5.cell? ⟨w1.heap.size, 4, none⟩ = some (.int .u8 (f4 r)) := cell_of_block bF5
      have bQ5' : Hid (w5.heap[w.heap.size]? = some (.cells zeroI 128 (0, 0))) := bQ5
      clear q0 q1 q2 q3 q4 he bF5 g5 hrow hc0 zb zz hl0 h0' hlm bQ' z1 hmf hz'
      by_cases hgood : okD r zs len = true
      · have hg2 := hgood
        rw [hok.out] at hg2
        simp only [Bool.and_eq_true, decide_eq_true_eq] at hg2
        have ta : decide (aOf r zs > f1 r) = false := by rw [decide_eq_false_iff_not]; omega
        have tb : decide (bOf r zs > f2 r) = false := by rw [decide_eq_false_iff_not]; omega
        have x0 : w5.cell? ⟨w.heap.size, 0, none⟩ = some (.int .u8 0) := cell_of_block bQ5
        have x1 : w5.cell? ⟨w.heap.size, 1, none⟩ = some (.int .u8 0) := cell_of_block bQ5
        have x2 : w5.cell? ⟨w.heap.size, 2, none⟩ = some (.int .u8 0) := cell_of_block bQ5
        have x3 : w5.cell? ⟨w.heap.size, 3, none⟩ = some (.int .i32 0) := cell_of_block bQ5
        have y0 : w5.frozen? ⟨w.heap.size, 0, none⟩ = false := frozen_of_row _ _ _ _ _ bQ5
        have y1 : w5.frozen? ⟨w.heap.size, 1, none⟩ = false := frozen_of_row _ _ _ _ _ bQ5
        have y2 : w5.frozen? ⟨w.heap.size, 2, none⟩ = false := frozen_of_row _ _ _ _ _ bQ5
        have y3 : w5.frozen? ⟨w.heap.size, 3, none⟩ = false := frozen_of_row _ _ _ _ _ bQ5
        have x0a : ∀ o1, (w5.alloc o1).cell? ⟨w.heap.size, 0, none⟩ = some (.int .u8 0) := fun _ => (cell_old z5').trans x0
        have x0b : ∀ o1 o2 o3, (((w5.alloc o1).alloc o2).alloc o3).cell? ⟨w.heap.size, 0, none⟩ = some (.int .u8 0) := fun _ _ _ => (cell_old (by simp; omega)).trans ((cell_old (by simp; omega)).trans (x0a _))
        have y0a : ∀ o1, (w5.alloc o1).frozen? ⟨w.heap.size, 0, none⟩ = false := fun _ => (frozen_old z5').trans y0
        have y0b : ∀ o1 o2 o3, (((w5.alloc o1).alloc o2).alloc o3).frozen? ⟨w.heap.size, 0, none⟩ = false := fun _ _ _ => (frozen_old (by simp; omega)).trans ((frozen_old (by simp; omega)).trans (y0a _))
        have x1a : ∀ o1, (w5.alloc o1).cell? ⟨w.heap.size, 1, none⟩ = some (.int .u8 0) := fun _ => (cell_old z5').trans x1
        have x1b : ∀ o1 o2 o3, (((w5.alloc o1).alloc o2).alloc o3).cell? ⟨w.heap.size, 1, none⟩ = some (.int .u8 0) := fun _ _ _ => (cell_old (by simp; omega)).trans ((cell_old (by simp; omega)).trans (x1a _))
        have y1a : ∀ o1, (w5.alloc o1).frozen? ⟨w.heap.size, 1, none⟩ = false := fun _ => (frozen_old z5').trans y1
        have y1b : ∀ o1 o2 o3, (((w5.alloc o1).alloc o2).alloc o3).frozen? ⟨w.heap.size, 1, none⟩ = false := fun _ _ _ => (frozen_old (by simp; omega)).trans ((frozen_old (by simp; omega)).trans (y1a _))
        have x2a : ∀ o1, (w5.alloc o1).cell? ⟨w.heap.size, 2, none⟩ = some (.int .u8 0) := fun _ => (cell_old z5').trans x2
        have x2b : ∀ o1 o2 o3, (((w5.alloc o1).alloc o2).alloc o3).cell? ⟨w.heap.size, 2, none⟩ = some (.int .u8 0) := fun _ _ _ => (cell_old (by simp; omega)).trans ((cell_old (by simp; omega)).trans (x2a _))
        have y2a : ∀ o1, (w5.alloc o1).frozen? ⟨w.heap.size, 2, none⟩ = false := fun _ => (frozen_old z5').trans y2
        have y2b : ∀ o1 o2 o3, (((w5.alloc o1).alloc o2).alloc o3).frozen? ⟨w.heap.size, 2, none⟩ = false := fun _ _ _ => (frozen_old (by simp; omega)).trans ((frozen_old (by simp; omega)).trans (y2a _))
        have x3a : ∀ o1, (w5.alloc o1).cell? ⟨w.heap.size, 3, none⟩ = some (.int .i32 0) := fun _ => (cell_old z5').trans x3
        have x3b : ∀ o1 o2 o3, (((w5.alloc o1).alloc o2).alloc o3).cell? ⟨w.heap.size, 3, none⟩ = some (.int .i32 0) := fun _ _ _ => (cell_old (by simp; omega)).trans ((cell_old (by simp; omega)).trans (x3a _))
        have y3a : ∀ o1, (w5.alloc o1).frozen? ⟨w.heap.size, 3, none⟩ = false := fun _ => (frozen_old z5').trans y3
        have y3b : ∀ o1 o2 o3, (((w5.alloc o1).alloc o2).alloc o3).frozen? ⟨w.heap.size, 3, none⟩ = false := fun _ _ _ => (frozen_old (by simp; omega)).trans ((frozen_old (by simp; omega)).trans (y3a _))
        have hQ : Hid (∀ o1 o2 o3, (((w5.alloc o1).alloc o2).alloc o3).heap[w.heap.size]? = some (.cells zeroI 128 (0, 0))) := fun o1 o2 o3 => (heap_skip _ _ _ (by simp; omega)).trans ((heap_skip _ _ _ (by simp; omega)).trans ((heap_skip _ _ _ z5').trans bQ5'))
        clear bQ5 x0 x1 x2 x3 y0 y1 y2 y3
        unfold formA at hsz
        go_wp2_with fail
        go_region_with (go_at_call 97; refine (hsz _).mono ?_; rintro e w' ⟨rfl, rfl⟩)
        all_goals
          go_wp2_with fail
          try simp only [Exit.inBlock, Exit.then]
          refine bodyPost_ret (results3 rfl _ _ w.heap.size 128 (insA (zat zs 0) (aOf r zs) (bOf r zs) (immOf r zs)) (0, 0) _ rfl (set4 (hQ.out _ _ _)) Tryz.underlying128 rfl sizeIns) rfl ⟨?_, ?_⟩
          · rw [herr.out, if_neg (by omega)]; unfold insD numD; rw [hgood]; rfl
          · exact (((((((K5.alloc _).alloc _).alloc _).setCell (Nat.le_refl _) _).setCell (Nat.le_refl _) _).setCell (Nat.le_refl _) _).setCell (Nat.le_refl _) _).drew
      · have hno : okD r zs len = false := by simpa using hgood
        have hrowQ : ∀ o1, (w5.alloc o1).heap[w.heap.size]? = some (.cells zeroI 128 (0, 0)) := fun o1 => (heap_skip _ _ _ z5').trans bQ5'
        have hbad : Hid (f1 r < aOf r zs ∨ f2 r < bOf r zs) := by
          have h := hno
          rw [hok.out] at h
          simp only [Bool.and_eq_false_iff, decide_eq_false_iff_not] at h
          show f1 r < aOf r zs ∨ f2 r < bOf r zs
          omega
        clear bQ5 hsz
        go_wp2_with (refine wpList_store_row rfl 128 _ _ rfl w.heap.size zeroI rfl rfl 128 _ (hrowQ _) sizeIns rfl (ins_one _ _ _ _) ?_)
        all_goals first
          | (exfalso; have := hbad.out; omega)
          | (try simp only [Exit.inBlock, Exit.then]
             refine bodyPost_ret (results3 rfl _ _ w.heap.size 128 zeroI (0, 0) _ rfl (setRow_heap _ _ _ _ _ _ (hrowQ _)) Tryz.underlying128 rfl sizeIns) rfl ⟨?_, ?_⟩
             · rw [herr.out, if_neg (by omega)]; unfold insD numD; rw [hno]; rfl
             · exact (K5.alloc _).setRow _ _ (Nat.le_refl _))
def low (x k : Nat) : Int := ((x % 2 ^ k : Nat) : Int)
def rorN (p n : Nat) : Nat := p / 2 ^ n + p % 2 ^ n * 2 ^ (32 - n)
theorem pow_split (n : Nat) (h : n ≤ 32) : 2 ^ n * 2 ^ (32 - n) = 4294967296 := by
  rw [← Nat.pow_add, show n + (32 - n) = 32 by omega]
theorem pow_half (n : Nat) (h : 1 ≤ n) : 2 ^ n = 2 ^ (n - 1) * 2 := by
  rw [← Nat.pow_succ, show (n - 1).succ = n by omega]
theorem top_lt (p n : Nat) (hp : p < 4294967296) (h : n ≤ 32) : p / 2 ^ n < 2 ^ (32 - n) :=
  Nat.div_lt_of_lt_mul (by rw [pow_split n h]; exact hp)
theorem rorN_lt (p n : Nat) (hp : p < 4294967296) (h : n ≤ 32) : rorN p n < 4294967296 := by
  have a1 := top_lt p n hp h
  have a2 : p % 2 ^ n + 1 ≤ 2 ^ n := Nat.mod_lt _ (Nat.pow_pos (by omega))
  have a3 := Nat.mul_le_mul_right (2 ^ (32 - n)) a2
  rw [pow_split n h, Nat.add_mul] at a3
  unfold rorN; omega
theorem rorN_low (p n : Nat) (hp : p < 4294967296) (h : n ≤ 32) : rorN p n % 2 ^ (32 - n) = p / 2 ^ n := by
  unfold rorN; rw [Nat.add_mul_mod_self_right, Nat.mod_eq_of_lt (top_lt p n hp h)]
theorem rorN_high (p n : Nat) (hp : p < 4294967296) (h : n ≤ 32) : rorN p n / 2 ^ (32 - n) = p % 2 ^ n := by
  unfold rorN
  rw [Nat.add_mul_div_right _ _ (Nat.pow_pos (by omega)), Nat.div_eq_of_lt (top_lt p n hp h), Nat.zero_add]
theorem rorN_out (p n : Nat) (hp : p < 4294967296) (h1 : 1 ≤ n) (h2 : n ≤ 31) : rorN p n / 2147483648 = p / 2 ^ (n - 1) % 2 := by
  have e : 2147483648 = 2 ^ (32 - n) * 2 ^ (n - 1) := by
    rw [← Nat.pow_add, show 32 - n + (n - 1) = 31 by omega]
  rw [e, ← Nat.div_div_eq_div_mul, rorN_high p n hp (by omega), pow_half n h1, Nat.mod_mul_right_div_self]
theorem rorN_one (p n : Nat) (h2 : n ≤ 31) : rorN p n % 2 = p / 2 ^ n % 2 := by
  unfold rorN
  rw [pow_half (32 - n) (by omega), ← Nat.mul_assoc, Nat.add_mul_mod_self_right]
theorem shl_mod (p n : Nat) (h : n ≤ 32) : p * 2 ^ n % 4294967296 = p % 2 ^ (32 - n) * 2 ^ n := by
  rw [← pow_split (32 - n) (by omega), show 32 - (32 - n) = n by omega, Nat.mul_mod_mul_right]
theorem rorN_or (p n : Nat) (hp : p < 4294967296) (h : n ≤ 32) : p / 2 ^ n ||| p * 2 ^ (32 - n) % 4294967296 = rorN p n := by
  rw [shl_mod p (32 - n) (by omega), show 32 - (32 - n) = n by omega, Nat.or_comm,
    nat_join (32 - n) _ _ (Nat.mul_mod_left _ _) (top_lt p n hp h)]
  unfold rorN; omega
theorem clear_low (x n : Nat) (hx : x < 4294967296) (h : n ≤ 32) : x &&& (4294967295 - (2 ^ n - 1)) = x - x % 2 ^ n := by
  have e : x = x / 2 ^ n * 2 ^ n + x % 2 ^ n := by rw [Nat.mul_comm]; exact (Nat.div_add_mod _ _).symm
  refine Nat.eq_of_testBit_eq fun i => ?_
  have e2 : x - x % 2 ^ n = x / 2 ^ n * 2 ^ n := by omega
  rw [e2, Nat.testBit_and, Nat.testBit_mul_two_pow]
  have e3 : 4294967295 - (2 ^ n - 1) = (2 ^ (32 - n) - 1) * 2 ^ n := by
    rw [Nat.sub_mul, Nat.mul_comm, pow_split n h]; have := Nat.pow_pos (n := n) (show 0 < 2 by omega); omega
  rw [e3, Nat.testBit_mul_two_pow, Nat.testBit_two_pow_sub_one]
  by_cases hi : n ≤ i
  · have e4 : x.testBit i = (x / 2 ^ n).testBit (i - n) := by
      rw [Nat.testBit_div_two_pow, show i - n + n = i by omega]
    rw [e4]
    by_cases h32 : i < 32
    · simp [hi, show i - n < 32 - n by omega]
    · have h0 : (x / 2 ^ n).testBit (i - n) = false := by
        rw [← e4]; exact Nat.testBit_lt_two_pow (Nat.lt_of_lt_of_le hx (show 2 ^ 32 ≤ 2 ^ i from Nat.pow_le_pow_right (by omega) (by omega)))
      simp [h0]
  · simp [hi]
def rorI (p n : Nat) : Int := ((rorN p n : Nat) : Int)
def shlI (p n : Nat) : Int := ((p * 2 ^ n % 4294967296 : Nat) : Int)
def shrI (p n : Nat) : Int := ((p / 2 ^ n : Nat) : Int)
def ob (p i : Nat) : Int := ((p / 2 ^ i % 2 : Nat) : Int)
theorem ob_one (p i : Nat) : (ob p i == 1) = p.testBit i := by
  unfold ob
  rw [Nat.testBit_eq_decide_div_mod_eq, Bool.eq_iff_iff]
  generalize p / 2 ^ i = x
  simp only [beq_iff_eq, decide_eq_true_eq]
  omega
theorem rorI_range (p n : Nat) (hp : p < 4294967296) (h : n ≤ 32) : 0 ≤ rorI p n ∧ rorI p n < 4294967296 := by
  have := rorN_lt p n hp h
  unfold rorI; omega
theorem shlI_range (p n : Nat) : 0 ≤ shlI p n ∧ shlI p n < 4294967296 := by
  unfold shlI; omega
theorem shrI_range (p n : Nat) (hp : p < 4294967296) : 0 ≤ shrI p n ∧ shrI p n < 4294967296 := by
  have := Nat.div_le_self p (2 ^ n)
  unfold shrI
  generalize p / 2 ^ n = x at *
  omega
theorem cast_div (p n : Nat) : (p : Int) / 2 ^ n = ((p / 2 ^ n : Nat) : Int) := by
  rw [Int.natCast_ediv, Int.natCast_pow]; rfl
theorem cast_mul (p n : Nat) : (p : Int) * 2 ^ n % 4294967296 = ((p * 2 ^ n % 4294967296 : Nat) : Int) := by
  rw [Int.natCast_emod, Int.natCast_mul, Int.natCast_pow]; rfl
theorem cast_mask (n : Nat) (h : n ≤ 32) : ((2 : Int) ^ n - 1) % 4294967296 = ((2 ^ n - 1 : Nat) : Int) ∧ 2 ^ n - 1 < 4294967296 := by
  have h1 : 1 ≤ 2 ^ n := Nat.one_le_two_pow
  have h2 : 2 ^ n ≤ 2 ^ 32 := Nat.pow_le_pow_right (by omega) h
  have h3 : (2 : Int) ^ n = ((2 ^ n : Nat) : Int) := by rw [Int.natCast_pow]; rfl
  rw [h3]
  omega
theorem round_val (p n : Nat) (hp : p < 4294967296) (h : n ≤ 32) :
    bits .or .u32 ((p : Int) / 2 ^ n) ((p : Int) * 2 ^ (32 - n) % 4294967296) = rorI p n := by
  have h1 := Nat.div_le_self p (2 ^ n)
  rw [cast_div, cast_mul, u32_or_nat _ _ (by omega) (by omega), rorN_or p n hp h]; rfl
theorem round_out (p n : Nat) (hp : p < 4294967296) (h1 : 1 ≤ n) (h2 : n ≤ 31) : rorI p n / 2147483648 = ob p (n - 1) := by
  have := rorN_out p n hp h1 h2
  unfold rorI ob; omega
theorem down_val (p n : Nat) (hp : p < 4294967296) (h : n ≤ 32) :
    bits .and .u32 (rorI p n) (((2 : Int) ^ (32 - n) - 1) % 4294967296) = shrI p n := by
  have h1 := cast_mask (32 - n) (by omega)
  unfold rorI
  rw [h1.1, u32_and_nat _ _ (rorN_lt p n hp h) h1.2, Nat.and_two_pow_sub_one_eq_mod, rorN_low p n hp h]; rfl
theorem up_val (p n : Nat) (hp : p < 4294967296) (h : n ≤ 32) :
    bits .andNot .u32 (rorI p (32 - n)) (((2 : Int) ^ n - 1) % 4294967296) = shlI p n := by
  have h1 := cast_mask n (by omega)
  have h2 := rorN_lt p (32 - n) hp (by omega)
  unfold rorI
  rw [h1.1, u32_andNot_nat _ _ h2 h1.2, clear_low _ n h2 h]
  unfold shlI
  rw [shl_mod p n h]
  have e := rorN_low p (32 - n) hp (by omega)
  rw [show 32 - (32 - n) = n by omega] at e
  rw [e]
  unfold rorN
  rw [show 32 - (32 - n) = n by omega]
  omega
theorem up_out (p n : Nat) (hp : p < 4294967296) (h1 : 1 ≤ n) (h : n ≤ 32) :
    bits .and .u32 (rorI p (32 - n)) 1 = ob p (32 - n) := by
  have h2 := rorN_lt p (32 - n) hp (by omega)
  have e := u32_and_nat (rorN p (32 - n)) 1 h2 (by omega)
  unfold rorI
  rw [show ((1 : Int)) = ((1 : Nat) : Int) by rfl, e, nat_mask1, rorN_one p (32 - n) (by omega)]; rfl
def outUp (p k : Nat) : Bool := decide (k ≠ 0) && p.testBit (32 - k)
def outDown (p k : Nat) : Bool := decide (k ≠ 0) && p.testBit (k - 1)
theorem shlI_zero (p : Nat) (hp : p < 4294967296) : shlI p 0 = (p : Int) := by
  unfold shlI; rw [Nat.pow_zero, Nat.mul_one, Nat.mod_eq_of_lt hp]
theorem shrI_zero (p : Nat) : shrI p 0 = (p : Int) := by
  unfold shrI; rw [Nat.pow_zero, Nat.div_one]
theorem rorI_zero (p : Nat) : rorI p 0 = (p : Int) := by
  unfold rorI rorN; rw [Nat.pow_zero, Nat.div_one, Nat.mod_one, Nat.zero_mul, Nat.add_zero]
def sarN (a k : Nat) : Nat := if a < 2147483648 then a / 2 ^ k else 4294967295 - (4294967295 - a) / 2 ^ k
def sarI (a k : Nat) : Int := ((sarN a k : Nat) : Int)
theorem sarN_lt (a k : Nat) (ha : a < 4294967296) : sarN a k < 4294967296 := by
  unfold sarN
  have := Nat.div_le_self a (2 ^ k)
  split
  · omega
  · generalize (4294967295 - a) / 2 ^ k = x at *
    omega
theorem sarI_range (a k : Nat) (ha : a < 4294967296) : 0 ≤ sarI a k ∧ sarI a k < 4294967296 := by
  have := sarN_lt a k ha
  unfold sarI; omega
theorem sarI_zero (a : Nat) (ha : a < 4294967296) : sarI a 0 = (a : Int) := by
  unfold sarI sarN
  rw [Nat.pow_zero, Nat.div_one, Nat.div_one]
  split <;> omega
theorem sarI_below (a k : Nat) (h : a < 2147483648) : sarI a k = shrI a k := by
  unfold sarI sarN shrI; rw [if_pos h]
theorem sarI_above (a k : Nat) (h : 2147483648 ≤ a) : sarI a k = 4294967295 - shrI (4294967295 - a) k := by
  unfold sarI sarN shrI
  rw [if_neg (by omega)]
  have := Nat.div_le_self (4294967295 - a) (2 ^ k)
  generalize (4294967295 - a) / 2 ^ k = x at *
  omega
theorem bit_over (a i : Nat) (ha : a < 4294967296) (hi : i < 32) : (4294967295 - a).testBit i = !a.testBit i := by
  have h := Nat.testBit_two_pow_sub_succ (x := a) (n := 32) (by omega) i
  rw [show 2 ^ 32 - (a + 1) = 4294967295 - a by omega] at h
  rw [h]; simp [hi]
theorem ob_range (p i : Nat) : 0 ≤ ob p i ∧ ob p i ≤ 1 := by
  unfold ob
  generalize p / 2 ^ i = x
  omega
theorem ob_over (p i : Nat) (hp : p < 4294967296) (hi : i < 32) : 1 - ob (4294967295 - p) i = ob p i := by
  have h := bit_over p i hp hi
  have h1 := ob_one p i
  have h2 := ob_one (4294967295 - p) i
  have r1 := ob_range p i
  have r2 := ob_range (4294967295 - p) i
  rw [h] at h2
  cases hb : p.testBit i
  · rw [hb] at h1 h2
    rw [beq_eq_false_iff_ne] at h1
    simp only [Bool.not_false, beq_iff_eq] at h2
    omega
  · rw [hb] at h1 h2
    rw [beq_iff_eq] at h1
    simp only [Bool.not_true, beq_eq_false_iff_ne] at h2
    omega
theorem over_val (x : Int) (h0 : 0 ≤ x) (h1 : x < 4294967296) : bits .xor .u32 IntKind.u32.max x = 4294967295 - x := by
  obtain ⟨n, rfl⟩ := Int.eq_ofNat_of_zero_le h0
  have e : IntKind.u32.max = ((4294967295 : Nat) : Int) := by decide
  rw [e, u32_xor_nat 4294967295 n (by omega) (by omega)]
  have e2 : 4294967295 ^^^ n = 4294967295 - n := by
    refine Nat.eq_of_testBit_eq fun i => ?_
    rw [Nat.testBit_xor]
    by_cases hi : i < 32
    · rw [bit_over n i (by omega) hi, show (4294967295 : Nat) = 2 ^ 32 - 1 by rfl, Nat.testBit_two_pow_sub_one]
      simp [hi]
    · have hp : 2 ^ 32 ≤ 2 ^ i := Nat.pow_le_pow_right (by omega) (by omega)
      rw [Nat.testBit_lt_two_pow (x := 4294967295) (by omega), Nat.testBit_lt_two_pow (x := n) (by omega), Nat.testBit_lt_two_pow (x := 4294967295 - n) (by omega)]
      rfl
  rw [e2]
  omega
end Go.Proofs.YtnignfloedcmlaaGreatDoor
