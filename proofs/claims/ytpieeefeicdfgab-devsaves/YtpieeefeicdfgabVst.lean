/- Devices: a box of thirteen cells and four rows of their own. -/
import Derived.Test.YtpieeefeicdfgabVcl
namespace Go.Proofs.Ytpieeefeicdfgab
open Go.RowKit
set_option linter.unusedVariables false

/-- What devices have: the events that have not come, what is waiting and masked, the queue, what went out, the disk's bytes, its registers, the command that is under way. -/
structure DS where
  E : List Ev
  b : Int
  m : Int
  Q : List Int
  O : List Int
  D : List Int
  n : Int
  a : Int
  s : Int
  k : Int
  f : Int
  t : Int
/-- The cells of the box. -/
abbrev devC (s : DS) (vs vq vo vb : Value) : Array Value := #[.bool true, vs, .int .u32 s.b, .int .u32 s.m, vq, vo, vb, .int .u32 s.n, .int .u32 s.a, .int .u32 s.s, .int .u32 s.k, .int .u32 s.f, .int .u32 s.t]
structure DevAt (w : World) (p : Nat) (s : DS) (vs vq vo vb : Value) (Fs Fq Fo Fb : List Nat) : Prop where
  box : w.heap[p]? = some (.cells (devC s vs vq vo vb) 82 (0, 0))
  sc : Sli w 68 3 vs s.E.length (evs s.E) Fs
  q : Sli w 5 1 vq s.Q.length (byt s.Q) Fq
  o : Sli w 5 1 vo s.O.length (byt s.O) Fo
  d : Sli w 106 64 vb (s.D.length / 64) (byt s.D) Fb
  ps : p ∉ Fs
  pq : p ∉ Fq
  po : p ∉ Fo
  pb : p ∉ Fb
  sq : ∀ g ∈ Fs, g ∉ Fq
  so : ∀ g ∈ Fs, g ∉ Fo
  sb : ∀ g ∈ Fs, g ∉ Fb
  qo : ∀ g ∈ Fq, g ∉ Fo
  qb : ∀ g ∈ Fq, g ∉ Fb
  ob : ∀ g ∈ Fo, g ∉ Fb
/-- At p lie devices, whose own blocks are those of F. -/
def Dev (w : World) (p : Nat) (s : DS) (F : List Nat) : Prop := ∃ vs vq vo vb Fs Fq Fo Fb, DevAt w p s vs vq vo vb Fs Fq Fo Fb ∧ F = p :: (Fs ++ (Fq ++ (Fo ++ Fb)))
theorem DevAt.put {w w' : World} {p : Nat} {s : DS} {vs vq vo vb : Value} {Fs Fq Fo Fb l : List Nat} (h : DevAt w p s vs vq vo vb Fs Fq Fo Fb) (k : Put l w w') (hl : ∀ g ∈ p :: (Fs ++ (Fq ++ (Fo ++ Fb))), g ∉ l) : DevAt w' p s vs vq vo vb Fs Fq Fo Fb :=
  ⟨k.keeps h.box (hl p (by simp)), h.sc.put k fun g hg => hl g (by simp [hg]), h.q.put k fun g hg => hl g (by simp [hg]), h.o.put k fun g hg => hl g (by simp [hg]), h.d.put k fun g hg => hl g (by simp [hg]), h.ps, h.pq, h.po, h.pb, h.sq, h.so, h.sb, h.qo, h.qb, h.ob⟩
theorem Dev.put {w w' : World} {p : Nat} {s : DS} {F l : List Nat} (h : Dev w p s F) (k : Put l w w') (hl : ∀ g ∈ F, g ∉ l) : Dev w' p s F := by
  obtain ⟨vs, vq, vo, vb, Fs, Fq, Fo, Fb, h, rfl⟩ := h
  exact ⟨vs, vq, vo, vb, Fs, Fq, Fo, Fb, h.put k hl, rfl⟩
theorem DevAt.kep {w w' : World} {p : Nat} {s : DS} {vs vq vo vb : Value} {Fs Fq Fo Fb : List Nat} (h : DevAt w p s vs vq vo vb Fs Fq Fo Fb) (k : Kep w w') : DevAt w' p s vs vq vo vb Fs Fq Fo Fb := h.put (l := []) (Put.of_kep k) (by simp)
theorem Dev.kep {w w' : World} {p : Nat} {s : DS} {F : List Nat} (h : Dev w p s F) (k : Kep w w') : Dev w' p s F := h.put (l := []) (Put.of_kep k) (by simp)
theorem Dev.lt {w : World} {p : Nat} {s : DS} {F : List Nat} (h : Dev w p s F) : ∀ g ∈ F, g < w.heap.size := by
  obtain ⟨vs, vq, vo, vb, Fs, Fq, Fo, Fb, h, rfl⟩ := h
  intro g hg
  simp only [List.mem_cons, List.mem_append] at hg
  rcases hg with rfl | hg | hg | hg | hg
  · exact block_lt h.box
  · exact h.sc.lt g hg
  · exact h.q.lt g hg
  · exact h.o.lt g hg
  · exact h.d.lt g hg
theorem DevAt.c {w : World} {p : Nat} {s : DS} {vs vq vo vb : Value} {Fs Fq Fo Fb : List Nat} (h : DevAt w p s vs vq vo vb Fs Fq Fo Fb) (j : Nat) : w.cell? ⟨p, j, none⟩ = (devC s vs vq vo vb)[j]? := cell_of_block h.box
theorem DevAt.fz {w : World} {p : Nat} {s : DS} {vs vq vo vb : Value} {Fs Fq Fo Fb : List Nat} (h : DevAt w p s vs vq vo vb Fs Fq Fo Fb) (j : Nat) : w.frozen? ⟨p, j, none⟩ = false := by simp [World.frozen?, h.box]
/-- A box behind a store into it. -/
theorem box_set {w : World} {p j : Nat} {cs : Array Value} {t : TypeId} (h : w.heap[p]? = some (.cells cs t (0, 0))) (v : Value) : (w.setCell ⟨p, j, none⟩ v).heap[p]? = some (.cells (cs.setIfInBounds j v) t (0, 0)) := heap_setCell_row h v
/-- Devices of which the box alone was turned. -/
theorem DevAt.turn {w w' : World} {p : Nat} {s s' : DS} {vs vq vo vb : Value} {Fs Fq Fo Fb : List Nat} (h : DevAt w p s vs vq vo vb Fs Fq Fo Fb) (k : Put [p] w w') (hb : w'.heap[p]? = some (.cells (devC s' vs vq vo vb) 82 (0, 0)))
    (e1 : s'.E = s.E) (e2 : s'.Q = s.Q) (e3 : s'.O = s.O) (e4 : s'.D = s.D) : DevAt w' p s' vs vq vo vb Fs Fq Fo Fb :=
  ⟨hb, by rw [e1]; exact h.sc.put k (fun g hg => by simp; rintro rfl; exact h.ps hg), by rw [e2]; exact h.q.put k (fun g hg => by simp; rintro rfl; exact h.pq hg), by rw [e3]; exact h.o.put k (fun g hg => by simp; rintro rfl; exact h.po hg), by rw [e4]; exact h.d.put k (fun g hg => by simp; rintro rfl; exact h.pb hg),
    h.ps, h.pq, h.po, h.pb, h.sq, h.so, h.sb, h.qo, h.qb, h.ob⟩

/-- Devices that are not there, or that no call made. -/
def NoDev (w : World) (v : Value) : Prop := v = .pointer none ∨ ∃ p : Nat, v = .pointer (some ⟨p, 0, none⟩) ∧ w.cell? ⟨p, 0, none⟩ = some (.bool false)
theorem vworks_yes (w : World) (p : Nat) (hc : w.cell? ⟨p, 0, none⟩ = some (.bool true)) :
    Calls Try.prog 28 #[.pointer (some ⟨p, 0, none⟩)] w fun e w' => e = .returned (.bool true) ∧ w' = w := by
  go_enter Try.func28, Try.ntmps28
  go_wp2
  go_ret
  exact ⟨rfl, rfl⟩
theorem vworks_no (w : World) (v : Value) (h : NoDev w v) :
    Calls Try.prog 28 #[v] w fun e w' => e = .returned (.bool false) ∧ w' = w := by
  rcases h with rfl | ⟨p, rfl, hc⟩
  · go_enter Try.func28, Try.ntmps28
    go_wp2
    go_ret
    exact ⟨rfl, rfl⟩
  · go_enter Try.func28, Try.ntmps28
    go_wp2
    go_ret
    exact ⟨rfl, rfl⟩

/-- May an event not be in a script? -/
def wrongB (e : Ev) : Bool := decide (e.2.1 < 0) || decide (2 < e.2.1) || decide (e.1 < 0) || decide (1073741824 < e.1) || (decide (e.2.1 ≠ 1) && decide (e.2.2 ≠ 0))
set_option maxHeartbeats 1000000 in
theorem wrong_any (w : World) (e : Ev) : Calls Try.prog 24 #[.agg (evV e).toArray] w fun r w' => r = .returned (.bool (wrongB e)) ∧ Kep w w' := by
  obtain ⟨a, k, b⟩ := e
  obtain ⟨r, hr⟩ : ∃ r, Hid (r = wrongB (a, k, b)) := ⟨_, rfl⟩
  rw [← hr.out]
  show Calls Try.prog 24 #[.agg #[.int .i64 a, .int .i64 k, .int .u8 b]] w _
  go_enter Try.func24, Try.ntmps24
  go_wp2
  all_goals go_ret
  all_goals refine ⟨ret_bool ?_, (Kep.refl _).alloc _⟩
  all_goals rw [hr.out]; unfold wrongB
  all_goals (rw [Bool.eq_iff_iff]; simp; try omega)

set_option maxHeartbeats 1000000 in
theorem indexFunc_any (w : World) (x : Option Addr) (n cap : Nat) (E : List Ev) (hl : E.length = n) (hn : (n : Int) ≤ 64) (hc : n ≤ cap) (h : Lies w x (evs E)) :
    Calls Try.prog 56 #[.slice x n cap, .func (.func 24) #[] #[]] w fun e w' => ∃ r : Int, e = .returned (.int .i64 r) ∧ (decide (0 ≤ r) = E.any wrongB) ∧ Kep w w' := by
  have H : Hid (∀ w e, Calls Try.prog 24 #[.agg (evV e).toArray] w fun r w' => r = .returned (.bool (wrongB e)) ∧ Kep w w') := fun w e => wrong_any w e
  have h' : Hid (Lies w x (evs E)) := h
  have hl' : Hid (E.length = n) := hl
  clear h hl
  go_enter Try.func56, Try.ntmps56
  go_wp2_with fail
  go_loopw [5, 8] (fun _ i wr => ∃ k : Nat, (k : Int) ≤ n ∧ i = .int .i64 k ∧ Hid (Kep w wr) ∧ Hid ((E.take k).any wrongB = false)) (fun _ i _ => n - (intOf i).toNat)
  case atStart => exact ⟨0, by omega, rfl, Kep.refl _, by simp [Hid]⟩
  case round =>
    obtain ⟨k, hk, rfl, K, hw⟩ := hrel
    by_cases hlt : k < n
    · have hlt' : (k : Int) < n := by omega
      have hln := hl'.out
      obtain ⟨e, he⟩ : ∃ e, E[k]? = some e := ⟨_, List.getElem?_eq_getElem (by omega)⟩
      rcases (h'.out.kep K.out) with h0 | ⟨b, off, rfl, hb, hcell⟩
      · have := evs_len E; rw [h0] at this; simp at this; omega
      have c0 : wr.cell? ⟨b, off + k * 3, none⟩ = some (.int .i64 e.1) := hcell _ _ (by have := evs_at E k e he 0 (by omega); simpa [evV] using this)
      have c1 : wr.cell? ⟨b, off + k * 3 + 1, none⟩ = some (.int .i64 e.2.1) := by rw [Nat.add_assoc]; exact hcell _ _ (by have := evs_at E k e he 1 (by omega); simpa [evV] using this)
      have c2 : wr.cell? ⟨b, off + k * 3 + 2, none⟩ = some (.int .u8 e.2.2) := by rw [Nat.add_assoc]; exact hcell _ _ (by have := evs_at E k e he 2 (by omega); simpa [evV] using this)
      have hstep : Hid ((E.take (k + 1)).any wrongB = ((E.take k).any wrongB || wrongB e)) := by
        rw [Hid, List.take_add_one, he]; simp
      have hE : Hid ((E.take (k + 1)).any wrongB = true → E.any wrongB = true) := fun h1 => by
        rw [List.any_eq_true] at h1 ⊢
        obtain ⟨y, hy, h2⟩ := h1
        exact ⟨y, List.mem_of_mem_take hy, h2⟩
      have H1 : Hid (Calls Try.prog 24 #[.agg #[.int .i64 e.1, .int .i64 e.2.1, .int .u8 e.2.2]] wr fun r w' => r = .returned (.bool (wrongB e)) ∧ Kep wr w') := H.out wr e
      generalize wrongB e = we at H1 hstep
      generalize e.1 = e1 at c0 H1
      generalize e.2.1 = e2 at c1 H1
      generalize e.2.2 = e3 at c2 H1
      clear hcell
      cases we
      · go_wp2_with (go_at_call 24; refine H1.out.mono ?_; rintro r w1 ⟨rfl, k1⟩)
        go_roundw
        case rel => exact ⟨k + 1, by omega, by go_num, kep_trans K.out k1, by rw [Hid, hstep.out, hw.out]; rfl⟩
        case measure => simp [intOf]; omega
      · go_wp2_with (go_at_call 24; refine H1.out.mono ?_; rintro r w1 ⟨rfl, k1⟩)
        go_ret
        refine ⟨_, rfl, ?_, kep_trans K.out k1⟩
        rw [hE.out (by rw [hstep.out]; simp)]; simp
    · go_wp2_with fail
      go_ret
      refine ⟨_, rfl, ?_, K.out⟩
      have := hw.out
      rw [List.take_of_length_le (by have := hl'.out; omega)] at this
      rw [this]; rfl
theorem contains_any (w : World) (x : Option Addr) (n cap : Nat) (E : List Ev) (hl : E.length = n) (hn : (n : Int) ≤ 64) (hc : n ≤ cap) (h : Lies w x (evs E)) :
    Calls Try.prog 23 #[.slice x n cap, .func (.func 24) #[] #[]] w fun e w' => e = .returned (.bool (E.any wrongB)) ∧ Kep w w' := by
  have H : Hid (Calls Try.prog 56 #[.slice x n cap, .func (.func 24) #[] #[]] w fun e w' => ∃ r : Int, e = .returned (.int .i64 r) ∧ (decide (0 ≤ r) = E.any wrongB) ∧ Kep w w') := indexFunc_any w x n cap E hl hn hc h
  generalize E.any wrongB = b at H
  clear h hl
  go_enter Try.func23, Try.ntmps23
  go_wp2_with fail
  refine H.out.mono ?_
  rintro e w1 ⟨r, rfl, hr, k⟩
  have hr' : Hid (decide (0 ≤ r) = b) := hr
  clear hr H
  go_wp2_with fail
  go_ret
  exact ⟨ret_bool hr'.out, k⟩
end Go.Proofs.Ytpieeefeicdfgab
