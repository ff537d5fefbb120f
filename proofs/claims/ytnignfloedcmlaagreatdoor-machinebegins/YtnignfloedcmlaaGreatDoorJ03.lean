/- Part of a proof. -/
import Derived.WalkKit
import Derived.Test.YtnignfloedcmlaaGreatDoorJ02
namespace Go.Proofs.YtnignfloedcmlaaGreatDoor
open Go.RowKit
set_option linter.unusedVariables false
set_option linter.unusedSimpArgs false
structure DS where
  E : List Ev
  b : Int
  m : Int
  Q : List Int
  O : List Int
  D : List Int
  n : Int
  a : Int
  s : Int
  k : Int
  f : Int
  t : Int
abbrev devC (s : DS) (vs vq vo vb : Value) : Array Value := #[.bool true, vs, .int .u32 s.b, .int .u32 s.m, vq, vo, vb, .int .u32 s.n, .int .u32 s.a, .int .u32 s.s, .int .u32 s.k, .int .u32 s.f, .int .u32 s.t]
structure DevAt (w : World) (p : Nat) (s : DS) (vs vq vo vb : Value) (Fs Fq Fo Fb : List Nat) : Prop where
  box : w.heap[p]? = some (.cells (devC s vs vq vo vb) 95 (0, 0))
  sc : Sli w 74 3 vs s.E.length (evs s.E) Fs
  q : Sli w 5 1 vq s.Q.length (byt s.Q) Fq
  o : Sli w 5 1 vo s.O.length (byt s.O) Fo
  d : Sli w 108 64 vb (s.D.length / 64) (byt s.D) Fb
  ps : p ∉ Fs
  pq : p ∉ Fq
  po : p ∉ Fo
  pb : p ∉ Fb
  sq : ∀ g ∈ Fs, g ∉ Fq
  so : ∀ g ∈ Fs, g ∉ Fo
  sb : ∀ g ∈ Fs, g ∉ Fb
  qo : ∀ g ∈ Fq, g ∉ Fo
  qb : ∀ g ∈ Fq, g ∉ Fb
  ob : ∀ g ∈ Fo, g ∉ Fb
def Dev (w : World) (p : Nat) (s : DS) (F : List Nat) : Prop := ∃ vs vq vo vb Fs Fq Fo Fb, DevAt w p s vs vq vo vb Fs Fq Fo Fb ∧ F = p :: (Fs ++ (Fq ++ (Fo ++ Fb)))
theorem DevAt.put {w w' : World} {p : Nat} {s : DS} {vs vq vo vb : Value} {Fs Fq Fo Fb l : List Nat} (h : DevAt w p s vs vq vo vb Fs Fq Fo Fb) (k : Put l w w') (hl : ∀ g ∈ p :: (Fs ++ (Fq ++ (Fo ++ Fb))), g ∉ l) : DevAt w' p s vs vq vo vb Fs Fq Fo Fb :=
  ⟨k.keeps h.box (hl p (by simp)), h.sc.put k fun g hg => hl g (by simp [hg]), h.q.put k fun g hg => hl g (by simp [hg]), h.o.put k fun g hg => hl g (by simp [hg]), h.d.put k fun g hg => hl g (by simp [hg]), h.ps, h.pq, h.po, h.pb, h.sq, h.so, h.sb, h.qo, h.qb, h.ob⟩
theorem Dev.put {w w' : World} {p : Nat} {s : DS} {F l : List Nat} (h : Dev w p s F) (k : Put l w w') (hl : ∀ g ∈ F, g ∉ l) : Dev w' p s F := by
  obtain ⟨vs, vq, vo, vb, Fs, Fq, Fo, Fb, h, rfl⟩ := h
  exact ⟨vs, vq, vo, vb, Fs, Fq, Fo, Fb, h.put k hl, rfl⟩
theorem DevAt.kep {w w' : World} {p : Nat} {s : DS} {vs vq vo vb : Value} {Fs Fq Fo Fb : List Nat} (h : DevAt w p s vs vq vo vb Fs Fq Fo Fb) (k : Kep w w') : DevAt w' p s vs vq vo vb Fs Fq Fo Fb := h.put (l := []) (Put.of_kep k) (by simp)
theorem Dev.kep {w w' : World} {p : Nat} {s : DS} {F : List Nat} (h : Dev w p s F) (k : Kep w w') : Dev w' p s F := h.put (l := []) (Put.of_kep k) (by simp)
theorem Dev.lt {w : World} {p : Nat} {s : DS} {F : List Nat} (h : Dev w p s F) : ∀ g ∈ F, g < w.heap.size := by
  obtain ⟨vs, vq, vo, vb, Fs, Fq, Fo, Fb, h, rfl⟩ := h
  intro g hg
  simp only [List.mem_cons, List.mem_append] at hg
  rcases hg with rfl | hg | hg | hg | hg
  · exact block_lt h.box
  · exact h.sc.lt g hg
  · exact h.q.lt g hg
  · exact h.o.lt g hg
  · exact h.d.lt g hg
theorem DevAt.c {w : World} {p : Nat} {s : DS} {vs vq vo vb : Value} {Fs Fq Fo Fb : List Nat} (h : DevAt w p s vs vq vo vb Fs Fq Fo Fb) (j : Nat) : w.cell? ⟨p, j, none⟩ = (devC s vs vq vo vb)[j]? := cell_of_block h.box
theorem DevAt.fz {w : World} {p : Nat} {s : DS} {vs vq vo vb : Value} {Fs Fq Fo Fb : List Nat} (h : DevAt w p s vs vq vo vb Fs Fq Fo Fb) (j : Nat) : w.frozen? ⟨p, j, none⟩ = false := by simp [World.frozen?, h.box]
theorem box_set {w : World} {p j : Nat} {cs : Array Value} {t : TypeId} (h : w.heap[p]? = some (.cells cs t (0, 0))) (v : Value) : (w.setCell ⟨p, j, none⟩ v).heap[p]? = some (.cells (cs.setIfInBounds j v) t (0, 0)) := heap_setCell_row h v
theorem DevAt.turn {w w' : World} {p : Nat} {s s' : DS} {vs vq vo vb : Value} {Fs Fq Fo Fb : List Nat} (h : DevAt w p s vs vq vo vb Fs Fq Fo Fb) (k : Put [p] w w') (hb : w'.heap[p]? = some (.cells (devC s' vs vq vo vb) 95 (0, 0)))
    (e1 : s'.E = s.E) (e2 : s'.Q = s.Q) (e3 : s'.O = s.O) (e4 : s'.D = s.D) : DevAt w' p s' vs vq vo vb Fs Fq Fo Fb :=
  ⟨hb, by rw [e1]; exact h.sc.put k (fun g hg => by simp; rintro rfl; exact h.ps hg), by rw [e2]; exact h.q.put k (fun g hg => by simp; rintro rfl; exact h.pq hg), by rw [e3]; exact h.o.put k (fun g hg => by simp; rintro rfl; exact h.po hg), by rw [e4]; exact h.d.put k (fun g hg => by simp; rintro rfl; exact h.pb hg),
    h.ps, h.pq, h.po, h.pb, h.sq, h.so, h.sb, h.qo, h.qb, h.ob⟩
theorem vworks_yes (w : World) (p : Nat) (hc : w.cell? ⟨p, 0, none⟩ = some (.bool true)) :
    Calls Tryz.prog 46 #[.pointer (some ⟨p, 0, none⟩)] w fun e w' => e = .returned (.bool true) ∧ w' = w := by
  go_enter Tryz.func46, Tryz.ntmps46
  go_wp2
  go_ret
  exact ⟨rfl, rfl⟩
def wrongB (e : Ev) : Bool := decide (e.2.1 < 0) || decide (2 < e.2.1) || decide (e.1 < 0) || decide (1073741824 < e.1) || (decide (e.2.1 ≠ 1) && decide (e.2.2 ≠ 0))
set_option maxHeartbeats 1000000 in
theorem wrong_any (w : World) (e : Ev) : Calls Tryz.prog 39 #[.agg (evV e).toArray] w fun r w' => r = .returned (.bool (wrongB e)) ∧ Kep w w' := by
  obtain ⟨a, k, b⟩ := e
  obtain ⟨r, hr⟩ : ∃ r, Hid (r = wrongB (a, k, b)) := ⟨_, rfl⟩
  rw [← hr.out]
  show Calls Tryz.prog 39 #[.agg #[.int .i64 a, .int .i64 k, .int .u8 b]] w _
  go_enter Tryz.func39, Tryz.ntmps39
  go_wp2
  all_goals go_ret
  all_goals refine ⟨ret_bool ?_, (Kep.refl _).alloc _⟩
  all_goals rw [hr.out]; unfold wrongB
  all_goals (rw [Bool.eq_iff_iff]; simp; try omega)
set_option maxHeartbeats 1000000 in
theorem indexFunc_any (w : World) (x : Option Addr) (n cap : Nat) (E : List Ev) (hl : E.length = n) (hn : (n : Int) ≤ 64) (hc : n ≤ cap) (h : Lies w x (evs E)) :
    Calls Tryz.prog 49 #[.slice x n cap, .func (.func 39) #[] #[]] w fun e w' => ∃ r : Int, e = .returned (.int .i64 r) ∧ (decide (0 ≤ r) = E.any wrongB) ∧ Kep w w' := by
  have H : Hid (∀ w e, Calls Tryz.prog 39 #[.agg (evV e).toArray] w fun r w' => r = .returned (.bool (wrongB e)) ∧ Kep w w') := fun w e => wrong_any w e
  have h' : Hid (Lies w x (evs E)) := h
  have hl' : Hid (E.length = n) := hl
  clear h hl
  go_enter Tryz.func49, Tryz.ntmps49
  go_wp2_with fail
  go_loopw [5, 8] (fun _ i wr => ∃ k : Nat, (k : Int) ≤ n ∧ i = .int .i64 k ∧ Hid (Kep w wr) ∧ Hid ((E.take k).any wrongB = false)) (fun _ i _ => n - (intOf i).toNat)
  case atStart => exact ⟨0, by omega, rfl, Kep.refl _, by simp [Hid]⟩
  case round =>
    obtain ⟨k, hk, rfl, K, hw⟩ := hrel
    by_cases hlt : k < n
    · have hlt' : (k : Int) < n := by omega
      have hln := hl'.out
      obtain ⟨e, he⟩ : ∃ e, E[k]? = some e := ⟨_, List.getElem?_eq_getElem (by omega)⟩
      rcases (h'.out.kep K.out) with h0 | ⟨b, off, rfl, hb, hcell⟩
      · have := evs_len E; rw [h0] at this; simp at this; omega
      have c0 : wr.cell? ⟨b, off + k * 3, none⟩ = some (.int .i64 e.1) := hcell _ _ (by have := evs_at E k e he 0 (by omega); simpa [evV] using this)
      have c1 : wr.cell? ⟨b, off + k * 3 + 1, none⟩ = some (.int .i64 e.2.1) := by rw [Nat.add_assoc]; exact hcell _ _ (by have := evs_at E k e he 1 (by omega); simpa [evV] using this)
      have c2 : wr.cell? ⟨b, off + k * 3 + 2, none⟩ = some (.int .u8 e.2.2) := by rw [Nat.add_assoc]; exact hcell _ _ (by have := evs_at E k e he 2 (by omega); simpa [evV] using this)
      have hstep : Hid ((E.take (k + 1)).any wrongB = ((E.take k).any wrongB || wrongB e)) := by
        rw [Hid, List.take_add_one, he]; simp
      have hE : Hid ((E.take (k + 1)).any wrongB = true → E.any wrongB = true) := fun h1 => by
        rw [List.any_eq_true] at h1 ⊢
        obtain ⟨y, hy, h2⟩ := h1
        exact ⟨y, List.mem_of_mem_take hy, h2⟩
      have H1 : Hid (Calls Tryz.prog 39 #[.agg #[.int .i64 e.1, .int .i64 e.2.1, .int .u8 e.2.2]] wr fun r w' => r = .returned (.bool (wrongB e)) ∧ Kep wr w') := H.out wr e
      generalize wrongB e = we at H1 hstep
      generalize e.1 = e1 at c0 H1
      generalize e.2.1 = e2 at c1 H1
      generalize e.2.2 = e3 at c2 H1
      clear hcell
      cases we
      · go_wp2_with (go_at_call 39; refine H1.out.mono ?_; rintro r w1 ⟨rfl, k1⟩)
        go_roundw
        case rel => exact ⟨k + 1, by omega, by go_num, kep_trans K.out k1, by rw [Hid, hstep.out, hw.out]; rfl⟩
        case measure => simp [intOf]; omega
      · go_wp2_with (go_at_call 39; refine H1.out.mono ?_; rintro r w1 ⟨rfl, k1⟩)
        go_ret
        refine ⟨_, rfl, ?_, kep_trans K.out k1⟩
        rw [hE.out (by rw [hstep.out]; simp)]; simp
    · go_wp2_with fail
      go_ret
      refine ⟨_, rfl, ?_, K.out⟩
      have := hw.out
      rw [List.take_of_length_le (by have := hl'.out; omega)] at this
      rw [this]; rfl
theorem contains_any (w : World) (x : Option Addr) (n cap : Nat) (E : List Ev) (hl : E.length = n) (hn : (n : Int) ≤ 64) (hc : n ≤ cap) (h : Lies w x (evs E)) :
    Calls Tryz.prog 38 #[.slice x n cap, .func (.func 39) #[] #[]] w fun e w' => e = .returned (.bool (E.any wrongB)) ∧ Kep w w' := by
  have H : Hid (Calls Tryz.prog 49 #[.slice x n cap, .func (.func 39) #[] #[]] w fun e w' => ∃ r : Int, e = .returned (.int .i64 r) ∧ (decide (0 ≤ r) = E.any wrongB) ∧ Kep w w') := indexFunc_any w x n cap E hl hn hc h
  generalize E.any wrongB = b at H
  clear h hl
  go_enter Tryz.func38, Tryz.ntmps38
  go_wp2_with fail
  refine H.out.mono ?_
  rintro e w1 ⟨r, rfl, hr, k⟩
  have hr' : Hid (decide (0 ≤ r) = b) := hr
  clear hr H
  go_wp2_with fail
  go_ret
  exact ⟨ret_bool hr'.out, k⟩
def bitB (ps m : Int) : Bool := ps / m % 2 == 1
def holdsB (c ps : Int) : Bool :=
  if c = 0 then true else if c = 1 then bitB ps 16 else if c = 2 then !bitB ps 16
  else if c = 3 then !(bitB ps 32 == bitB ps 128) else if c = 4 then bitB ps 32 == bitB ps 128
  else if c = 5 then bitB ps 64 else if c = 6 then !bitB ps 64 else if c = 7 then bitB ps 128 else false
def wt (h : Bool) (f : Int) : Int := if h then f else 0
def fl (r : Int) (c v : Bool) : Int := wt (r == 0) 16 + wt (decide (2147483648 ≤ r)) 32 + (wt c 64 + wt v 128)
def sg (a : Int) : Int := if 2147483648 ≤ a then a - 4294967296 else a
def addV (a b : Int) : Bool := sg a + sg b != sg ((a + b) % 4294967296)
def subV (a b : Int) : Bool := sg a - sg b != sg ((a - b) % 4294967296)
theorem sg_wrap (a : Int) (h0 : 0 ≤ a) (h1 : a < 4294967296) : wrap64 (wrap32 a) = sg a := by
  unfold wrap64 wrap32 sg; omega
theorem sg_range (a : Int) (h0 : 0 ≤ a) (h1 : a < 4294967296) : -2147483648 ≤ sg a ∧ sg a ≤ 2147483647 := by
  unfold sg; omega
theorem bit_and (i : Nat) (ps : Int) (h0 : 0 ≤ ps) (h1 : ps < 4294967296) (hi : i < 32) :
    (bits .and .u32 ps ((2 ^ i : Nat) : Int) != 0) = bitB ps ((2 ^ i : Nat) : Int) := by
  have hp : 2 ^ i < 4294967296 := by
    have := Nat.pow_lt_pow_right (a := 2) (by omega) hi
    omega
  have hpos : 0 < 2 ^ i := Nat.pow_pos (by omega)
  obtain ⟨n, rfl⟩ := Int.eq_ofNat_of_zero_le h0
  rw [u32_and_nat n (2 ^ i) (by omega) hp, nat_bit]
  unfold bitB
  have hm : n / 2 ^ i % 2 < 2 := Nat.mod_lt _ (by omega)
  generalize 2 ^ i = p at *
  have e : ((n : Int) / (p : Int) % 2) = ((n / p % 2 : Nat) : Int) := by rw [Int.natCast_emod, Int.natCast_ediv]; rfl
  rw [e]
  generalize n / p % 2 = x at *
  have hx : x = 0 ∨ x = 1 := by omega
  rcases hx with rfl | rfl
  · simp
  · rw [Nat.one_mul]
    have h : ((p : Int) != 0) = true := by rw [bne_iff_ne]; omega
    rw [h]; rfl
theorem and16 (ps : Int) (h0 : 0 ≤ ps) (h1 : ps < 4294967296) : (bits .and .u32 ps 16 != 0) = bitB ps 16 := bit_and 4 ps h0 h1 (by omega)
theorem and32 (ps : Int) (h0 : 0 ≤ ps) (h1 : ps < 4294967296) : (bits .and .u32 ps 32 != 0) = bitB ps 32 := bit_and 5 ps h0 h1 (by omega)
theorem and64 (ps : Int) (h0 : 0 ≤ ps) (h1 : ps < 4294967296) : (bits .and .u32 ps 64 != 0) = bitB ps 64 := bit_and 6 ps h0 h1 (by omega)
theorem and128 (ps : Int) (h0 : 0 ≤ ps) (h1 : ps < 4294967296) : (bits .and .u32 ps 128 != 0) = bitB ps 128 := bit_and 7 ps h0 h1 (by omega)
def orI (b p : Int) : Int := if b / p % 2 = 1 then b else b + p
def clrI (b v : Int) : Int := b - b % 2 * (v % 2) - b / 2 % 2 * (v / 2 % 2) * 2 - b / 4 % 2 * (v / 4 % 2) * 4
theorem low8 {b : Int} (h : 0 ≤ b ∧ b ≤ 7) : b = 0 ∨ b = 1 ∨ b = 2 ∨ b = 3 ∨ b = 4 ∨ b = 5 ∨ b = 6 ∨ b = 7 := by omega
theorem or1_is {b : Int} (h : 0 ≤ b ∧ b ≤ 7) : bits .or .u32 b 1 = orI b 1 := by rcases low8 h with rfl | rfl | rfl | rfl | rfl | rfl | rfl | rfl <;> rfl
theorem or2_is {b : Int} (h : 0 ≤ b ∧ b ≤ 7) : bits .or .u32 b 2 = orI b 2 := by rcases low8 h with rfl | rfl | rfl | rfl | rfl | rfl | rfl | rfl <;> rfl
theorem or4_is {b : Int} (h : 0 ≤ b ∧ b ≤ 7) : bits .or .u32 b 4 = orI b 4 := by rcases low8 h with rfl | rfl | rfl | rfl | rfl | rfl | rfl | rfl <;> rfl
theorem or_low {b p : Int} (h : 0 ≤ b ∧ b ≤ 7) (hp : p = 1 ∨ p = 2 ∨ p = 4) : 0 ≤ orI b p ∧ orI b p ≤ 7 := by
  rcases low8 h with rfl | rfl | rfl | rfl | rfl | rfl | rfl | rfl <;> rcases hp with rfl | rfl | rfl <;> decide
theorem and_low8 (m x : Nat) (h : m < 8) : m &&& x = m &&& (x % 8) := by
  have h1 : (m &&& x) % 2 ^ 3 = (m % 2 ^ 3) &&& (x % 2 ^ 3) := Nat.and_mod_two_pow
  have h2 : m &&& x ≤ m := Nat.and_le_left
  rw [Nat.mod_eq_of_lt (show m &&& x < 2 ^ 3 by omega), Nat.mod_eq_of_lt (show m < 2 ^ 3 by omega)] at h1
  exact h1
theorem andNot_is {b v : Int} (h : 0 ≤ b ∧ b ≤ 7) (hv : 0 ≤ v ∧ v < 4294967296) : bits .andNot .u32 b v = clrI b v := by
  obtain ⟨m, rfl⟩ : ∃ m : Nat, b = m := ⟨b.toNat, by omega⟩
  obtain ⟨n, rfl⟩ : ∃ n : Nat, v = n := ⟨v.toNat, by omega⟩
  rw [u32_andNot_nat m n (by omega) (by omega), and_low8 m _ (by omega), show (4294967295 - n) % 8 = 7 - n % 8 by omega]
  have e : clrI (m : Int) (n : Int) = clrI (m : Int) ((n % 8 : Nat) : Int) := by
    unfold clrI
    rw [show ((n % 8 : Nat) : Int) % 2 = (n : Int) % 2 by omega, show ((n % 8 : Nat) : Int) / 2 % 2 = (n : Int) / 2 % 2 by omega, show ((n % 8 : Nat) : Int) / 4 % 2 = (n : Int) / 4 % 2 by omega]
  rw [e]
  have hr : n % 8 < 8 := Nat.mod_lt _ (by decide)
  generalize n % 8 = r at hr
  have hm : m < 8 := by omega
  have : ∀ m < 8, ∀ r < 8, ((m &&& (7 - r) : Nat) : Int) = clrI (m : Int) (r : Int) := by decide
  exact this m hm r hr
theorem clr_low {b v : Int} (h : 0 ≤ b ∧ b ≤ 7) : 0 ≤ clrI b v ∧ clrI b v ≤ 7 := by
  have h1 := Int.emod_two_eq v
  have h2 := Int.emod_two_eq (v / 2)
  have h3 := Int.emod_two_eq (v / 4)
  unfold clrI
  rcases low8 h with rfl | rfl | rfl | rfl | rfl | rfl | rfl | rfl <;> rcases h1 with h1 | h1 <;> rcases h2 with h2 | h2 <;> rcases h3 with h3 | h3 <;> rw [h1, h2, h3] <;> decide
theorem and7_is (x : Int) (h : 0 ≤ x ∧ x < 4294967296) : bits .and .u32 x 7 = x % 8 := by
  obtain ⟨m, rfl⟩ : ∃ m : Nat, x = m := ⟨x.toNat, by omega⟩
  rw [show (7 : Int) = ((7 : Nat) : Int) from rfl, u32_and_nat m 7 (by omega) (by decide), show (m &&& 7) = m % 8 from Nat.and_two_pow_sub_one_eq_mod m 3]
  omega
theorem hasFrame_any (w : World) (v : Value) (R : Nat) (ix : List Nat) (h : Ram w v R ix) (n : Int) :
    Calls Tryz.prog 37 #[v, .int .i64 n] w fun e w' => e = .returned (.bool (decide (0 ≤ n) && decide (n < ix.length))) ∧ w' = w := by
  have hc : Hid (∀ w, Ram w v R ix → Calls Tryz.prog 36 #[v] w fun e w' => e = .returned (.int .i64 ix.length) ∧ w' = w) := fun w h => count_any w v R ix h
  have h' : Hid (Ram w v R ix) := h
  clear h
  rcases (by omega : n < 0 ∨ 0 ≤ n) with h0 | h0
  · go_enter Tryz.func37, Tryz.ntmps37
    go_wp2_with (go_at_call 36; refine (hc.out _ h'.out).mono ?_; rintro e w1 ⟨rfl, rfl⟩)
    go_ret
    exact ⟨ret_bool (by simp; omega), rfl⟩
  · go_enter Tryz.func37, Tryz.ntmps37
    go_wp2_with (go_at_call 36; refine (hc.out _ h'.out).mono ?_; rintro e w1 ⟨rfl, rfl⟩)
    go_ret
    exact ⟨ret_bool (by simp [h0]), rfl⟩
theorem hasByte_any (w : World) (v : Value) (R : Nat) (ix : List Nat) (h : Ram w v R ix) (hix : (ix.length : Int) ≤ 512) (a : Nat) (ha : (a : Int) < 4294967296) :
    Calls Tryz.prog 123 #[v, .int .u32 a] w fun e w' => e = .returned (.bool (decide (a < 64 * ix.length))) ∧ w' = w := by
  have hc : Hid (∀ w, Ram w v R ix → Calls Tryz.prog 22 #[v] w fun e w' => e = .returned (.int .u32 (64 * ix.length)) ∧ w' = w) := fun w h => msize_any w v R ix h hix
  have h' : Hid (Ram w v R ix) := h
  clear h
  go_enter Tryz.func123, Tryz.ntmps123
  go_wp2_with (go_at_call 22; refine (hc.out _ h'.out).mono ?_; rintro e w1 ⟨rfl, rfl⟩)
  go_ret
  exact ⟨ret_bool (decide_eq_decide.2 (by omega)), rfl⟩
theorem hasWord_any (w : World) (v : Value) (R : Nat) (ix : List Nat) (h : Ram w v R ix) (hix : (ix.length : Int) ≤ 512) (a : Nat) (ha : (a : Int) < 4294967296) :
    Calls Tryz.prog 150 #[v, .int .u32 a] w fun e w' => e = .returned (.bool (decide (a % 4 = 0) && decide (a < 64 * ix.length))) ∧ w' = w := by
  have hc : Hid (∀ w, Ram w v R ix → Calls Tryz.prog 123 #[v, .int .u32 a] w fun e w' => e = .returned (.bool (decide (a < 64 * ix.length))) ∧ w' = w) := fun w h => hasByte_any w v R ix h hix a ha
  have h' : Hid (Ram w v R ix) := h
  clear h
  by_cases h4 : a % 4 = 0
  · have h5 : ((a : Int) % 4 == 0) = true := by simp; omega
    go_enter Tryz.func150, Tryz.ntmps150
    go_wp2_with (go_at_call 123; refine (hc.out _ h'.out).mono ?_; rintro e w1 ⟨rfl, rfl⟩)
    go_ret
    exact ⟨ret_bool (by simp [h4]), rfl⟩
  · have h5 : ((a : Int) % 4 == 0) = false := by simp; omega
    go_enter Tryz.func150, Tryz.ntmps150
    go_wp2_with (go_at_call 123; refine (hc.out _ h'.out).mono ?_; rintro e w1 ⟨rfl, rfl⟩)
    go_ret
    exact ⟨ret_bool (by simp [h4]), rfl⟩
def fromV (R : Nat) (ix : List Nat) (a : Nat) : Value := .slice (some ⟨R, pos ix a, none⟩) (64 - a % 64) (64 - a % 64)
theorem from_any (w : World) (v : Value) (R : Nat) (ix : List Nat) (h : Ram w v R ix) (hix : (ix.length : Int) ≤ 512) (a : Nat) (ha : a < 64 * ix.length) :
    Calls Tryz.prog 28 #[v, .int .u32 a] w fun e w' => e = .returned (fromV R ix a) ∧ w' = w := by
  rcases h with ⟨rfl, rfl⟩ | ⟨rfl, p, rfl, hp, n⟩ | ⟨p, F, rfl, hp, hF, n1, n2, hn⟩
  · simp at ha
  · simp at ha
  · have c := cell_of_block (i := 0) hp
    simp at c
    have c1 : w.cell? ⟨F, a / 64, none⟩ = some (.slice (some ⟨R, 64 * ix.getD (a / 64) 0, none⟩) 64 64) := by
      rw [cell_of_block hF]
      simp only [List.getElem?_toArray]
      exact frs_at (by omega)
    unfold fromV pos
    generalize ix.getD (a / 64) 0 = j at c1
    clear hp hF n1 n2 hn
    have ha' : (a : Int) < 64 * ix.length := by omega
    generalize ix.length = m at c ha' hix ha
    go_enter Tryz.func28, Tryz.ntmps28
    go_wp2
    go_ret
    refine ⟨?_, rfl⟩
    rfl
theorem spotByte_any (w : World) (v : Value) (R : Nat) (ix : List Nat) (h : Ram w v R ix) (hix : (ix.length : Int) ≤ 512) (a : Nat) (ha : (a : Int) < 4294967296) :
    Calls Tryz.prog 122 #[.int .u32 a, .func (.func 123) #[v] #[], .func (.func 28) #[v] #[]] w fun e w' => e = .returned (.tuple (if a < 64 * ix.length then #[fromV R ix a, .bool true] else #[.slice none 0 0, .bool false])) ∧ w' = w := by
  have hc : Hid (Calls Tryz.prog 123 #[v, .int .u32 a] w fun e w' => e = .returned (.bool (decide (a < 64 * ix.length))) ∧ w' = w) := hasByte_any w v R ix h hix a ha
  by_cases hl : a < 64 * ix.length
  · have hd : Hid (Calls Tryz.prog 28 #[v, .int .u32 a] w fun e w' => e = .returned (fromV R ix a) ∧ w' = w) := from_any w v R ix h hix a hl
    rw [decide_eq_true hl] at hc
    rw [if_pos hl]
    generalize fromV R ix a = fv at hd
    clear h hl ha
    go_enter Tryz.func122, Tryz.ntmps122
    go_wp2_with (first | (go_at_call 123; refine hc.out.mono ?_; rintro e w1 ⟨rfl, rfl⟩) | (go_at_call 28; refine hd.out.mono ?_; rintro e w1 ⟨rfl, rfl⟩))
    go_ret2
    exact ⟨rfl, rfl⟩
  · rw [decide_eq_false hl] at hc
    rw [if_neg hl]
    clear h hl ha
    go_enter Tryz.func122, Tryz.ntmps122
    go_wp2_with (go_at_call 123; refine hc.out.mono ?_; rintro e w1 ⟨rfl, rfl⟩)
    go_ret2
    exact ⟨rfl, rfl⟩
theorem spotWord_any (w : World) (v : Value) (R : Nat) (ix : List Nat) (h : Ram w v R ix) (hix : (ix.length : Int) ≤ 512) (a : Nat) (ha : (a : Int) < 4294967296) :
    Calls Tryz.prog 122 #[.int .u32 a, .func (.func 150) #[v] #[], .func (.func 28) #[v] #[]] w fun e w' => e = .returned (.tuple (if a % 4 = 0 ∧ a < 64 * ix.length then #[fromV R ix a, .bool true] else #[.slice none 0 0, .bool false])) ∧ w' = w := by
  have hc : Hid (Calls Tryz.prog 150 #[v, .int .u32 a] w fun e w' => e = .returned (.bool (decide (a % 4 = 0) && decide (a < 64 * ix.length))) ∧ w' = w) := hasWord_any w v R ix h hix a ha
  have hb : (decide (a % 4 = 0) && decide (a < 64 * ix.length)) = decide (a % 4 = 0 ∧ a < 64 * ix.length) := by simp
  rw [hb] at hc
  by_cases hl : a % 4 = 0 ∧ a < 64 * ix.length
  · have hd : Hid (Calls Tryz.prog 28 #[v, .int .u32 a] w fun e w' => e = .returned (fromV R ix a) ∧ w' = w) := from_any w v R ix h hix a hl.2
    rw [decide_eq_true hl] at hc
    rw [if_pos hl]
    generalize fromV R ix a = fv at hd
    clear h hl ha hb
    go_enter Tryz.func122, Tryz.ntmps122
    go_wp2_with (first | (go_at_call 150; refine hc.out.mono ?_; rintro e w1 ⟨rfl, rfl⟩) | (go_at_call 28; refine hd.out.mono ?_; rintro e w1 ⟨rfl, rfl⟩))
    go_ret2
    exact ⟨rfl, rfl⟩
  · rw [decide_eq_false hl] at hc
    rw [if_neg hl]
    clear h hl ha hb
    go_enter Tryz.func122, Tryz.ntmps122
    go_wp2_with (go_at_call 150; refine hc.out.mono ?_; rintro e w1 ⟨rfl, rfl⟩)
    go_ret2
    exact ⟨rfl, rfl⟩
def Fits (B : List Int) (ix : List Nat) : Prop := ∀ i ∈ ix, 64 * i + 64 ≤ B.length
theorem Fits.pos {B : List Int} {ix : List Nat} (h : Fits B ix) {a : Nat} (ha : a < 64 * ix.length) : pos ix a - a % 64 + 64 ≤ B.length ∧ pos ix a < B.length := by
  have hk : a / 64 < ix.length := by omega
  have := h (ix.getD (a / 64) 0) (by simp [List.getD, hk])
  unfold Proofs.YtnignfloedcmlaaGreatDoor.pos
  omega
theorem Fits.len {B C : List Int} {ix : List Nat} (h : Fits B ix) (e : C.length = B.length) : Fits C ix := fun i hi => by rw [e]; exact h i hi
theorem byte_any (w : World) (v : Value) (R : Nat) (ix : List Nat) (B : List Int) (h : Ram w v R ix) (hix : (ix.length : Int) ≤ 512) (hB : RowB w R B) (hf : Fits B ix) (a : Nat) (ha : (a : Int) < 4294967296) :
    Calls Tryz.prog 95 #[v, .int .u32 a] w fun e w' => e = .returned (.tuple (if a < 64 * ix.length then #[.int .u8 (B.getD (pos ix a) 0), .bool true] else #[.int .u8 0, .bool false])) ∧ w' = w := by
  have hc := spotByte_any w v R ix h hix a ha
  have hmf : ∀ (fn : Fn) (first cap : Array Value) (w : World), (Instr.makeFunc fn first cap).run Tryz.prog w = .ok (.func fn first cap) w := fun _ _ _ _ => rfl
  by_cases hl : a < 64 * ix.length
  · rw [if_pos hl] at hc ⊢
    have hp := hf.pos hl
    have c := hB.cell hp.2
    unfold fromV at hc
    generalize B.getD (pos ix a) 0 = b at c
    generalize pos ix a = q at c hc
    have hs : Hid (Calls Tryz.prog 122 #[.int .u32 a, .func (.func 123) #[v] #[], .func (.func 28) #[v] #[]] w fun e w' => e = .returned (.tuple #[.slice (some ⟨R, q, none⟩) (64 - a % 64) (64 - a % 64), .bool true]) ∧ w' = w) := hc
    clear hc h hl hp hf hB ha hix
    have hm : 1 ≤ 64 - a % 64 := by omega
    generalize 64 - a % 64 = m at hm hs
    go_enter Tryz.func95, Tryz.ntmps95
    go_wp2_with (go_at_call 122; refine hs.out.mono ?_; rintro e w1 ⟨rfl, rfl⟩)
    go_ret2
    exact ⟨rfl, rfl⟩
  · rw [if_neg hl] at hc ⊢
    have hs : Hid (Calls Tryz.prog 122 #[.int .u32 a, .func (.func 123) #[v] #[], .func (.func 28) #[v] #[]] w fun e w' => e = .returned (.tuple #[.slice none 0 0, .bool false]) ∧ w' = w) := hc
    clear hc h hl hf hB ha hix
    go_enter Tryz.func95, Tryz.ntmps95
    go_wp2_with (go_at_call 122; refine hs.out.mono ?_; rintro e w1 ⟨rfl, rfl⟩)
    go_ret2
    exact ⟨rfl, rfl⟩
theorem setByte_any (w : World) (v : Value) (R : Nat) (ix : List Nat) (B : List Int) (h : Ram w v R ix) (hix : (ix.length : Int) ≤ 512) (hB : RowB w R B) (hf : Fits B ix) (a : Nat) (ha : (a : Int) < 4294967296) (b : Int) :
    Calls Tryz.prog 117 #[v, .int .u32 a, .int .u8 b] w fun e w' => e = .returned (.bool (decide (a < 64 * ix.length))) ∧ w' = if a < 64 * ix.length then w.setCell ⟨R, pos ix a, none⟩ (.int .u8 b) else w := by
  have hc := spotByte_any w v R ix h hix a ha
  have hmf : ∀ (fn : Fn) (first cap : Array Value) (w : World), (Instr.makeFunc fn first cap).run Tryz.prog w = .ok (.func fn first cap) w := fun _ _ _ _ => rfl
  by_cases hl : a < 64 * ix.length
  · rw [if_pos hl] at hc ⊢
    rw [decide_eq_true hl]
    have hp := hf.pos hl
    have c := hB.cell hp.2
    have hfz : w.frozen? ⟨R, pos ix a, none⟩ = false := by
      have := hB (by intro e; subst e; simp at hp)
      simp [World.frozen?, this]
    unfold fromV at hc
    generalize B.getD (pos ix a) 0 = b0 at c
    generalize pos ix a = q at c hc hfz
    have hs : Hid (Calls Tryz.prog 122 #[.int .u32 a, .func (.func 123) #[v] #[], .func (.func 28) #[v] #[]] w fun e w' => e = .returned (.tuple #[.slice (some ⟨R, q, none⟩) (64 - a % 64) (64 - a % 64), .bool true]) ∧ w' = w) := hc
    clear hc h hl hp hf hB ha hix
    have hm : 1 ≤ 64 - a % 64 := by omega
    generalize 64 - a % 64 = m at hm hs
    go_enter Tryz.func117, Tryz.ntmps117
    go_wp2_with (go_at_call 122; refine hs.out.mono ?_; rintro e w1 ⟨rfl, rfl⟩)
    go_ret
    exact ⟨rfl, rfl⟩
  · rw [if_neg hl] at hc ⊢
    rw [decide_eq_false hl]
    have hs : Hid (Calls Tryz.prog 122 #[.int .u32 a, .func (.func 123) #[v] #[], .func (.func 28) #[v] #[]] w fun e w' => e = .returned (.tuple #[.slice none 0 0, .bool false]) ∧ w' = w) := hc
    clear hc h hl hf hB ha hix
    go_enter Tryz.func117, Tryz.ntmps117
    go_wp2_with (go_at_call 122; refine hs.out.mono ?_; rintro e w1 ⟨rfl, rfl⟩)
    go_ret
    exact ⟨rfl, rfl⟩
end Go.Proofs.YtnignfloedcmlaaGreatDoor
