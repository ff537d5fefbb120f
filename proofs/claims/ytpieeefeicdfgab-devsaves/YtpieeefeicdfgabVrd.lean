/- The document's devices: a box of thirteen cells and three rows of their own; bits of a number. -/
import Derived.Test.YtpieeefeicdfgabVmeth
import Derived.Test.YtpieeefeicdfgabVnew
import Derived.Test.YtpieeefeicdfgabXref
import Derived.Test.YtpieeefeicdfgabSkw
namespace Go.Proofs.Ytpieeefeicdfgab
open Go.RowKit
set_option linter.unusedVariables false
set_option linter.unusedSimpArgs false

/-- The cells of the box: the whole script, how many of it have come. -/
abbrev rdC (s : DS) (vS : Value) (c : Nat) (k f t : Int) (vq vo vd : Value) : Array Value := #[vS, .int .i64 c, .int .u32 s.b, .int .u32 s.m, vq, vo, vd, .int .u32 s.n, .int .u32 s.a, .int .u32 s.s, .int .u32 k, .int .u32 f, .int .u32 t]
structure RDAt (w : World) (p : Nat) (s : DS) (vS : Value) (E0 : List Ev) (c : Nat) (k f t : Int) (vq vo vd : Value) (Fq Fo Fd : List Nat) : Prop where
  box : w.heap[p]? = some (.cells (rdC s vS c k f t vq vo vd) 61 (0, 0))
  q : Sli w 5 1 vq s.Q.length (byt s.Q) Fq
  o : Sli w 5 1 vo s.O.length (byt s.O) Fo
  d : Sli w 5 1 vd s.D.length (byt s.D) Fd
  E : s.E = E0.drop c
  lc : c ≤ E0.length
  cmd : s.s = 1 → k = s.k ∧ f = s.f ∧ t = s.t
  pq : p ∉ Fq
  po : p ∉ Fo
  pd : p ∉ Fd
  qo : ∀ g ∈ Fq, g ∉ Fo
  qd : ∀ g ∈ Fq, g ∉ Fd
  od : ∀ g ∈ Fo, g ∉ Fd
/-- At p lie the document's devices, whose own blocks are those of F. -/
def RDv (w : World) (p : Nat) (s : DS) (vS : Value) (E0 : List Ev) (F : List Nat) : Prop := ∃ c k f t vq vo vd Fq Fo Fd, RDAt w p s vS E0 c k f t vq vo vd Fq Fo Fd ∧ F = p :: (Fq ++ (Fo ++ Fd))
theorem RDAt.put {w w' : World} {p : Nat} {s : DS} {vS : Value} {E0 : List Ev} {c : Nat} {k f t : Int} {vq vo vd : Value} {Fq Fo Fd l : List Nat} (h : RDAt w p s vS E0 c k f t vq vo vd Fq Fo Fd) (P : Put l w w') (hl : ∀ g ∈ p :: (Fq ++ (Fo ++ Fd)), g ∉ l) : RDAt w' p s vS E0 c k f t vq vo vd Fq Fo Fd :=
  ⟨P.keeps h.box (hl p (by simp)), h.q.put P fun g hg => hl g (by simp [hg]), h.o.put P fun g hg => hl g (by simp [hg]), h.d.put P fun g hg => hl g (by simp [hg]), h.E, h.lc, h.cmd, h.pq, h.po, h.pd, h.qo, h.qd, h.od⟩
theorem RDv.put {w w' : World} {p : Nat} {s : DS} {vS : Value} {E0 : List Ev} {F l : List Nat} (h : RDv w p s vS E0 F) (P : Put l w w') (hl : ∀ g ∈ F, g ∉ l) : RDv w' p s vS E0 F := by
  obtain ⟨c, k, f, t, vq, vo, vd, Fq, Fo, Fd, h, rfl⟩ := h
  exact ⟨c, k, f, t, vq, vo, vd, Fq, Fo, Fd, h.put P hl, rfl⟩
theorem RDAt.kep {w w' : World} {p : Nat} {s : DS} {vS : Value} {E0 : List Ev} {c : Nat} {k f t : Int} {vq vo vd : Value} {Fq Fo Fd : List Nat} (h : RDAt w p s vS E0 c k f t vq vo vd Fq Fo Fd) (K : Kep w w') : RDAt w' p s vS E0 c k f t vq vo vd Fq Fo Fd := h.put (l := []) (Put.of_kep K) (by simp)
theorem RDv.kep {w w' : World} {p : Nat} {s : DS} {vS : Value} {E0 : List Ev} {F : List Nat} (h : RDv w p s vS E0 F) (K : Kep w w') : RDv w' p s vS E0 F := h.put (l := []) (Put.of_kep K) (by simp)
theorem RDv.lt {w : World} {p : Nat} {s : DS} {vS : Value} {E0 : List Ev} {F : List Nat} (h : RDv w p s vS E0 F) : ∀ g ∈ F, g < w.heap.size := by
  obtain ⟨c, k, f, t, vq, vo, vd, Fq, Fo, Fd, h, rfl⟩ := h
  intro g hg
  simp only [List.mem_cons, List.mem_append] at hg
  rcases hg with rfl | hg | hg | hg
  · exact block_lt h.box
  · exact h.q.lt g hg
  · exact h.o.lt g hg
  · exact h.d.lt g hg
theorem RDAt.c' {w : World} {p : Nat} {s : DS} {vS : Value} {E0 : List Ev} {c : Nat} {k f t : Int} {vq vo vd : Value} {Fq Fo Fd : List Nat} (h : RDAt w p s vS E0 c k f t vq vo vd Fq Fo Fd) (j : Nat) : w.cell? ⟨p, j, none⟩ = (rdC s vS c k f t vq vo vd)[j]? := cell_of_block h.box
theorem RDAt.fz {w : World} {p : Nat} {s : DS} {vS : Value} {E0 : List Ev} {c : Nat} {k f t : Int} {vq vo vd : Value} {Fq Fo Fd : List Nat} (h : RDAt w p s vS E0 c k f t vq vo vd Fq Fo Fd) (j : Nat) : w.frozen? ⟨p, j, none⟩ = false := by simp [World.frozen?, h.box]
/-- The box turned, the rows as they were. -/
theorem RDAt.turn {w w' : World} {p : Nat} {s s' : DS} {vS : Value} {E0 : List Ev} {c c' : Nat} {k f t k' f' t' : Int} {vq vo vd : Value} {Fq Fo Fd : List Nat} (h : RDAt w p s vS E0 c k f t vq vo vd Fq Fo Fd) (P : Put [p] w w') (hb : w'.heap[p]? = some (.cells (rdC s' vS c' k' f' t' vq vo vd) 61 (0, 0)))
    (e1 : s'.E = E0.drop c') (e0 : c' ≤ E0.length) (e2 : s'.Q = s.Q) (e3 : s'.O = s.O) (e4 : s'.D = s.D) (e5 : s'.s = 1 → k' = s'.k ∧ f' = s'.f ∧ t' = s'.t) : RDAt w' p s' vS E0 c' k' f' t' vq vo vd Fq Fo Fd :=
  ⟨hb, by rw [e2]; exact h.q.put P (fun g hg => by simp; rintro rfl; exact h.pq hg), by rw [e3]; exact h.o.put P (fun g hg => by simp; rintro rfl; exact h.po hg), by rw [e4]; exact h.d.put P (fun g hg => by simp; rintro rfl; exact h.pd hg),
    e1, e0, e5, h.pq, h.po, h.pd, h.qo, h.qd, h.od⟩
/-- Another queue. -/
theorem RDAt.newq {w w1 : World} {p : Nat} {s : DS} {vS : Value} {E0 : List Ev} {c : Nat} {k f t : Int} {vq vo vd v' : Value} {Fq Fo Fd F1 : List Nat} {Q' : List Int} (A : RDAt w p s vS E0 c k f t vq vo vd Fq Fo Fd) (P1 : Put Fq w w1) (S1 : Sli w1 5 1 v' Q'.length (byt Q') F1) (H1 : ∀ g ∈ F1, g ∈ Fq ∨ w.heap.size ≤ g) :
    RDAt (w1.setCell ⟨p, 4, none⟩ v') p { s with Q := Q' } vS E0 c k f t v' vo vd F1 Fo Fd ∧ Put (p :: (Fq ++ (Fo ++ Fd))) w (w1.setCell ⟨p, 4, none⟩ v') ∧ ∀ g ∈ p :: (F1 ++ (Fo ++ Fd)), g ∈ p :: (Fq ++ (Fo ++ Fd)) ∨ w.heap.size ≤ g := by
  have k2 : Put [p] w1 (w1.setCell ⟨p, 4, none⟩ v') := (Put.refl _).setCell (by simp) _
  have lp := block_lt A.box
  have hp1 : p ∉ F1 := fun h => by
    rcases H1 p h with h1 | h1
    · exact A.pq h1
    · omega
  have np : ∀ {G : List Nat}, p ∉ G → ∀ g ∈ G, g ∉ [p] := fun hG g hg h => by simp at h; subst h; exact hG hg
  have qn : ∀ {G : List Nat}, (∀ g ∈ Fq, g ∉ G) → ∀ g ∈ G, g ∉ Fq := fun h g hg hq => h g hq hg
  refine ⟨⟨box_set (P1.keeps A.box A.pq) _, S1.put k2 (np hp1), (A.o.put P1 (qn A.qo)).put k2 (np A.po), (A.d.put P1 (qn A.qd)).put k2 (np A.pd), A.E, A.lc, A.cmd, hp1, A.po, A.pd, ?_, ?_, A.od⟩, ?_, ?_⟩
  · exact fun g hg hg' => apart_new A.o (qn A.qo) H1 g hg' hg
  · exact fun g hg hg' => apart_new A.d (qn A.qd) H1 g hg' hg
  · exact (P1.mono (by simp +contextual)).trans (k2.mono (by simp))
  · intro g hg
    simp only [List.mem_cons, List.mem_append] at hg ⊢
    rcases hg with h | h | h | h
    · exact .inl (.inl h)
    · exact (H1 g h).imp (fun h => .inr (.inl h)) id
    · exact .inl (.inr (.inr (.inl h)))
    · exact .inl (.inr (.inr (.inr h)))
/-- Another row of what went out. -/
theorem RDAt.newo {w w1 : World} {p : Nat} {s : DS} {vS : Value} {E0 : List Ev} {c : Nat} {k f t : Int} {vq vo vd v' : Value} {Fq Fo Fd F1 : List Nat} {O' : List Int} (A : RDAt w p s vS E0 c k f t vq vo vd Fq Fo Fd) (P1 : Put Fo w w1) (S1 : Sli w1 5 1 v' O'.length (byt O') F1) (H1 : ∀ g ∈ F1, g ∈ Fo ∨ w.heap.size ≤ g) :
    RDAt (w1.setCell ⟨p, 5, none⟩ v') p { s with O := O' } vS E0 c k f t vq v' vd Fq F1 Fd ∧ Put (p :: (Fq ++ (Fo ++ Fd))) w (w1.setCell ⟨p, 5, none⟩ v') ∧ ∀ g ∈ p :: (Fq ++ (F1 ++ Fd)), g ∈ p :: (Fq ++ (Fo ++ Fd)) ∨ w.heap.size ≤ g := by
  have k2 : Put [p] w1 (w1.setCell ⟨p, 5, none⟩ v') := (Put.refl _).setCell (by simp) _
  have lp := block_lt A.box
  have hp1 : p ∉ F1 := fun h => by
    rcases H1 p h with h1 | h1
    · exact A.po h1
    · omega
  have np : ∀ {G : List Nat}, p ∉ G → ∀ g ∈ G, g ∉ [p] := fun hG g hg h => by simp at h; subst h; exact hG hg
  have on : ∀ {G : List Nat}, (∀ g ∈ Fo, g ∉ G) → ∀ g ∈ G, g ∉ Fo := fun h g hg hq => h g hq hg
  refine ⟨⟨box_set (P1.keeps A.box A.po) _, (A.q.put P1 A.qo).put k2 (np A.pq), S1.put k2 (np hp1), (A.d.put P1 (on A.od)).put k2 (np A.pd), A.E, A.lc, A.cmd, A.pq, hp1, A.pd, ?_, A.qd, ?_⟩, ?_, ?_⟩
  · exact apart_new A.q A.qo H1
  · exact fun g hg hg' => apart_new A.d (on A.od) H1 g hg' hg
  · exact (P1.mono (by simp +contextual)).trans (k2.mono (by simp))
  · intro g hg
    simp only [List.mem_cons, List.mem_append] at hg ⊢
    rcases hg with h | h | h | h
    · exact .inl (.inl h)
    · exact .inl (.inr (.inl h))
    · exact (H1 g h).imp (fun h => .inr (.inr (.inl h))) id
    · exact .inl (.inr (.inr (.inr h)))
/-- The disk's row turned. -/
theorem RDAt.newd {w w1 : World} {p : Nat} {s : DS} {vS : Value} {E0 : List Ev} {c : Nat} {k f t : Int} {vq vo vd : Value} {Fq Fo Fd : List Nat} {D' : List Int} (A : RDAt w p s vS E0 c k f t vq vo vd Fq Fo Fd) (P1 : Put Fd w w1) (S1 : Sli w1 5 1 vd D'.length (byt D') Fd) : RDAt w1 p { s with D := D' } vS E0 c k f t vq vo vd Fq Fo Fd :=
  ⟨P1.keeps A.box A.pd, A.q.put P1 A.qd, A.o.put P1 A.od, S1, A.E, A.lc, A.cmd, A.pq, A.po, A.pd, A.qo, A.qd, A.od⟩

/-- A bit of a number. -/
def hasB (x p : Int) : Bool := x / p % 2 == 1
theorem rhas_bit (w : World) (x p : Int) (hx : 0 ≤ x ∧ x < 4294967296) (hp : p = 1 ∨ p = 2 ∨ p = 4) :
    Calls Try.prog 74 #[.int .u32 x, .int .u32 p] w fun e w' => e = .returned (.bool (hasB x p)) ∧ w' = w := by
  obtain ⟨hx0, hx1⟩ := hx
  unfold hasB
  rcases hp with rfl | rfl | rfl
  all_goals
    go_enter Try.func74, Try.ntmps74
    go_wp2
    go_ret
    exact ⟨ret_bool (by first | rfl | (congr 1; omega)), rfl⟩
theorem rwith_any (w : World) (b p : Int) (hb : 0 ≤ b ∧ b ≤ 7) (hp : p = 1 ∨ p = 2 ∨ p = 4) :
    Calls Try.prog 69 #[.int .u32 b, .int .u32 p] w fun e w' => e = .returned (.int .u32 (orI b p)) ∧ w' = w := by
  have H : Hid (Calls Try.prog 74 #[.int .u32 b, .int .u32 p] w fun e w' => e = .returned (.bool (hasB b p)) ∧ w' = w) := rhas_bit w b p (by omega) hp
  obtain ⟨hb0, hb1⟩ := hb
  have hp1 : 1 ≤ p ∧ p ≤ 4 := by omega
  obtain ⟨hp1, hp2⟩ := hp1
  cases hh : hasB b p with
  | true =>
    rw [hh] at H
    have e : orI b p = b := by unfold orI; unfold hasB at hh; rw [if_pos (by simpa using hh)]
    rw [e]
    clear hh e hp
    go_enter Try.func69, Try.ntmps69
    go_wp2_with (go_at_call 74; refine H.out.mono ?_; rintro e w1 ⟨rfl, rfl⟩)
    go_ret
    exact ⟨rfl, rfl⟩
  | false =>
    rw [hh] at H
    have e : orI b p = b + p := by unfold orI; unfold hasB at hh; rw [if_neg (by simpa using hh)]
    rw [e]
    clear hh e hp
    go_enter Try.func69, Try.ntmps69
    go_wp2_with (go_at_call 74; refine H.out.mono ?_; rintro e w1 ⟨rfl, rfl⟩)
    go_ret
    exact ⟨ret_int (by omega), rfl⟩

theorem clr_bit {b p : Int} (hb : 0 ≤ b ∧ b ≤ 7) (hp : p = 1 ∨ p = 2 ∨ p = 4) : clrI b p = if hasB b p = true then b - p else b := by
  rcases low8 hb with rfl | rfl | rfl | rfl | rfl | rfl | rfl | rfl <;> rcases hp with rfl | rfl | rfl <;> decide
theorem has_le {b p : Int} (hb : 0 ≤ b ∧ b ≤ 7) (hp : p = 1 ∨ p = 2 ∨ p = 4) (h : hasB b p = true) : p ≤ b := by
  unfold hasB at h
  simp only [beq_iff_eq] at h
  rcases hp with rfl | rfl | rfl <;> omega
theorem rwithout_any (w : World) (b p : Int) (hb : 0 ≤ b ∧ b ≤ 7) (hp : p = 1 ∨ p = 2 ∨ p = 4) :
    Calls Try.prog 73 #[.int .u32 b, .int .u32 p] w fun e w' => e = .returned (.int .u32 (clrI b p)) ∧ w' = w := by
  have H : Hid (Calls Try.prog 74 #[.int .u32 b, .int .u32 p] w fun e w' => e = .returned (.bool (hasB b p)) ∧ w' = w) := rhas_bit w b p (by omega) hp
  have hle := has_le hb hp
  rw [clr_bit hb hp]
  obtain ⟨hb0, hb1⟩ := hb
  have hp1 : 1 ≤ p ∧ p ≤ 4 := by omega
  obtain ⟨hp1, hp2⟩ := hp1
  cases hh : hasB b p with
  | true =>
    rw [hh] at H hle
    have hle' := hle rfl
    rw [if_pos rfl]
    clear hh hp hle
    go_enter Try.func73, Try.ntmps73
    go_wp2_with (go_at_call 74; refine H.out.mono ?_; rintro e w1 ⟨rfl, rfl⟩)
    go_ret
    exact ⟨ret_int (by omega), rfl⟩
  | false =>
    rw [hh] at H
    rw [if_neg (by simp)]
    clear hh hp hle
    go_enter Try.func73, Try.ntmps73
    go_wp2_with (go_at_call 74; refine H.out.mono ?_; rintro e w1 ⟨rfl, rfl⟩)
    go_ret
    exact ⟨rfl, rfl⟩

/-- What of a bit is waiting and not masked. -/
def askI (b m p : Int) : Int := if hasB b p = true ∧ hasB m p = false then p else 0
theorem ask_clr {b m : Int} (hb : 0 ≤ b ∧ b ≤ 7) (hm : 0 ≤ m ∧ m ≤ 7) : askI b m 1 + askI b m 2 + askI b m 4 = clrI b m := by
  rcases low8 hb with rfl | rfl | rfl | rfl | rfl | rfl | rfl | rfl <;> rcases low8 hm with rfl | rfl | rfl | rfl | rfl | rfl | rfl | rfl <;> decide
theorem ask_low {b m p : Int} (hp : p = 1 ∨ p = 2 ∨ p = 4) : 0 ≤ askI b m p ∧ askI b m p ≤ 4 := by unfold askI; split <;> omega
theorem ask_yes {b m p : Int} (h : hasB b p = true) (k : hasB m p = false) : askI b m p = p := by unfold askI; rw [if_pos ⟨h, k⟩]
theorem ask_no1 {b m p : Int} (h : hasB b p = false) : askI b m p = 0 := by unfold askI; rw [if_neg (by simp [h])]
theorem ask_no2 {b m p : Int} (h : hasB m p = true) : askI b m p = 0 := by unfold askI; rw [if_neg (by simp [h])]
/-- Between two bits. -/
def AskR (w : World) (A1 A2 A4 : Int) (n i : Value) (wr : World) : Prop := wr = w ∧ ((i = .int .u32 1 ∧ n = .int .u32 0) ∨ (i = .int .u32 2 ∧ n = .int .u32 A1) ∨ (i = .int .u32 4 ∧ n = .int .u32 (A1 + A2)) ∨ (i = .int .u32 8 ∧ n = .int .u32 (A1 + A2 + A4)))
theorem AskR.r1 {w : World} {A1 A2 A4 x : Int} (h : x = A1) : AskR w A1 A2 A4 (.int .u32 x) (.int .u32 2) w := by subst h; exact ⟨rfl, .inr (.inl ⟨rfl, rfl⟩)⟩
theorem AskR.r2 {w : World} {A1 A2 A4 x : Int} (h : x = A1 + A2) : AskR w A1 A2 A4 (.int .u32 x) (.int .u32 4) w := by subst h; exact ⟨rfl, .inr (.inr (.inl ⟨rfl, rfl⟩))⟩
theorem AskR.r4 {w : World} {A1 A2 A4 x : Int} (h : x = A1 + A2 + A4) : AskR w A1 A2 A4 (.int .u32 x) (.int .u32 8) w := by subst h; exact ⟨rfl, .inr (.inr (.inr ⟨rfl, rfl⟩))⟩
set_option maxHeartbeats 1000000 in
theorem rasked_any {w : World} {p : Nat} {b m : Int} (hb : 0 ≤ b ∧ b ≤ 7) (hm : 0 ≤ m ∧ m ≤ 7) (c2 : w.cell? ⟨p, 2, none⟩ = some (.int .u32 b)) (c3 : w.cell? ⟨p, 3, none⟩ = some (.int .u32 m)) :
    Calls Try.prog 72 #[.pointer (some ⟨p, 0, none⟩)] w fun e w' => e = .returned (.int .u32 (clrI b m)) ∧ w' = w := by
  have H : Hid (∀ x q, (x = b ∨ x = m) → (q = 1 ∨ q = 2 ∨ q = 4) → Calls Try.prog 74 #[.int .u32 x, .int .u32 q] w fun e w' => e = .returned (.bool (hasB x q)) ∧ w' = w) := fun x q hx hq => rhas_bit w x q (by rcases hx with rfl | rfl <;> omega) hq
  have hsum : Hid (askI b m 1 + askI b m 2 + askI b m 4 = clrI b m) := ask_clr hb hm
  have l1 := ask_low (b := b) (m := m) (p := 1) (by simp)
  have l2 := ask_low (b := b) (m := m) (p := 2) (by simp)
  have l4 := ask_low (b := b) (m := m) (p := 4) (by simp)
  obtain ⟨A1, h1⟩ : ∃ A, Hid (A = askI b m 1) := ⟨_, rfl⟩
  obtain ⟨A2, h2⟩ : ∃ A, Hid (A = askI b m 2) := ⟨_, rfl⟩
  obtain ⟨A4, h4⟩ : ∃ A, Hid (A = askI b m 4) := ⟨_, rfl⟩
  rw [← h1.out] at l1
  rw [← h2.out] at l2
  rw [← h4.out] at l4
  obtain ⟨l1, l1'⟩ := l1
  obtain ⟨l2, l2'⟩ := l2
  obtain ⟨l4, l4'⟩ := l4
  clear hb hm
  go_enter Try.func72, Try.ntmps72
  go_wp2_with fail
  go_loopw [3, 4] (fun n i wr => AskR w A1 A2 A4 n i wr) (fun _ i _ => 10 - (intOf i).toNat)
  case atStart => exact ⟨rfl, .inl ⟨rfl, rfl⟩⟩
  case round =>
    obtain ⟨rfl, h⟩ := hrel
    rcases h with ⟨rfl, rfl⟩ | ⟨rfl, rfl⟩ | ⟨rfl, rfl⟩ | ⟨rfl, rfl⟩
    case inl =>
      go_wp2_with (go_at_call 74; refine (H.out _ _ (by simp) (by simp)).mono ?_; rintro e w1 ⟨rfl, rfl⟩)
      all_goals
        go_roundw
        case rel =>
          refine AskR.r1 ?_
          rw [h1.out]
          unfold askI
          simp_all
        case measure => simp [intOf]
    case inr.inl =>
      go_wp2_with (go_at_call 74; refine (H.out _ _ (by simp) (by simp)).mono ?_; rintro e w1 ⟨rfl, rfl⟩)
      all_goals
        go_roundw
        case rel =>
          refine AskR.r2 ?_
          rw [h2.out]
          unfold askI
          simp_all
        case measure => simp [intOf]
    case inr.inr.inl =>
      go_wp2_with (go_at_call 74; refine (H.out _ _ (by simp) (by simp)).mono ?_; rintro e w1 ⟨rfl, rfl⟩)
      all_goals
        go_roundw
        case rel =>
          refine AskR.r4 ?_
          rw [h4.out]
          unfold askI
          simp_all
        case measure => simp [intOf]
    case inr.inr.inr =>
      go_wp2_with fail
      go_ret
      exact ⟨ret_int (by rw [h1.out, h2.out, h4.out]; exact hsum.out), rfl⟩
theorem rdwants_any {w : World} {p : Nat} {s : DS} {vS : Value} {E0 : List Ev} {F : List Nat} (h : RDv w p s vS E0 F) (ok : s.Ok) (ps : Int) (h0 : 0 ≤ ps ∧ ps < 4294967296) :
    Calls Try.prog 46 #[.pointer (some ⟨p, 0, none⟩), .int .u32 ps] w fun e w' => e = .returned (.int .i64 (wantsI ps (clrI s.b s.m))) ∧ w' = w := by
  obtain ⟨c, k, f, t, vq, vo, vd, Fq, Fo, Fd, D, _⟩ := h
  have HA : Hid (Calls Try.prog 72 #[.pointer (some ⟨p, 0, none⟩)] w fun e w' => e = .returned (.int .u32 (clrI s.b s.m)) ∧ w' = w) := rasked_any ok.b ok.m (D.c' 2) (D.c' 3)
  have hl := clr_low (v := s.m) ok.b
  have HR : Hid (Calls Try.prog 71 #[.int .u32 ps, .int .u32 (clrI s.b s.m)] w fun e w' => e = .returned (.int .i64 (wantsI ps (clrI s.b s.m))) ∧ w' = w) := rwants_any ps _ w h0 (by omega)
  generalize wantsI ps (clrI s.b s.m) = r at HR
  generalize clrI s.b s.m = n at HA HR
  clear D ok hl
  go_enter Try.func46, Try.ntmps46
  go_wp2_with (first | (go_at_call 72; refine HA.out.mono ?_; rintro e w1 ⟨rfl, rfl⟩) | (go_at_call 71; refine HR.out.mono ?_; rintro e w2 ⟨rfl, rfl⟩))
  go_ret
  exact ⟨rfl, rfl⟩

set_option maxHeartbeats 1000000 in
theorem rtaken_any {w : World} {p : Nat} {s : DS} {vS : Value} {E0 : List Ev} {F : List Nat} (h : RDv w p s vS E0 F) (ok : s.Ok) (cause : Int) :
    Calls Try.prog 47 #[.pointer (some ⟨p, 0, none⟩), .int .i64 cause] w fun e w' => e = .returned (.tuple #[]) ∧ RDv w' p (takenS s cause) vS E0 F ∧ Put F w w' := by
  obtain ⟨c, k, f, t, vq, vo, vd, Fq, Fo, Fd, D, hF⟩ := h
  have D' : Hid (RDAt w p s vS E0 c k f t vq vo vd Fq Fo Fd) := D
  have hp : Hid (p ∈ F) := by rw [Hid, hF]; simp
  have c2 : w.cell? ⟨p, 2, none⟩ = some (.int .u32 s.b) := D.c' 2
  have f2 := D.fz 2
  have H : Hid (∀ q, (q = 1 ∨ q = 2 ∨ q = 4) → Calls Try.prog 73 #[.int .u32 s.b, .int .u32 q] w fun e w' => e = .returned (.int .u32 (clrI s.b q)) ∧ w' = w) := fun q hq => rwithout_any w s.b q ok.b hq
  have T : Hid (∀ x, RDv (w.setCell ⟨p, 2, none⟩ (.int .u32 x)) p { s with b := x } vS E0 F ∧ Put F w (w.setCell ⟨p, 2, none⟩ (.int .u32 x))) := fun x => by
    have P : Put [p] w (w.setCell ⟨p, 2, none⟩ (.int .u32 x)) := (Put.refl w).setCell (by simp) _
    exact ⟨⟨c, k, f, t, vq, vo, vd, Fq, Fo, Fd, D.turn (s' := { s with b := x }) P (box_set D.box _) D.E D.lc rfl rfl rfl D.cmd, hF⟩, P.mono (by simpa using hp.out)⟩
  by_cases h9 : cause = 9
  · subst h9
    clear D ok
    go_enter Try.func47, Try.ntmps47
    go_wp2_with (go_at_call 73; refine (H.out _ (by simp)).mono ?_; rintro e w1 ⟨rfl, rfl⟩)
    go_end0
    exact ⟨rfl, T.out _⟩
  by_cases h10 : cause = 10
  · subst h10
    clear D ok h9
    go_enter Try.func47, Try.ntmps47
    go_wp2_with (go_at_call 73; refine (H.out _ (by simp)).mono ?_; rintro e w1 ⟨rfl, rfl⟩)
    go_end0
    exact ⟨rfl, T.out _⟩
  by_cases h11 : cause = 11
  · subst h11
    clear D ok h9 h10
    go_enter Try.func47, Try.ntmps47
    go_wp2_with (go_at_call 73; refine (H.out _ (by simp)).mono ?_; rintro e w1 ⟨rfl, rfl⟩)
    go_end0
    exact ⟨rfl, T.out _⟩
  have e : takenS s cause = s := by unfold takenS; rw [if_neg h9, if_neg h10, if_neg h11]
  rw [e]
  have t9 : (cause == 9) = false := by simp [h9]
  have t10 : (cause == 10) = false := by simp [h10]
  have t11 : (cause == 11) = false := by simp [h11]
  clear D ok h9 h10 h11 e
  go_enter Try.func47, Try.ntmps47
  go_wp2_with fail
  go_end0
  exact ⟨rfl, ⟨c, k, f, t, vq, vo, vd, Fq, Fo, Fd, D'.out, hF⟩, Put.refl _⟩
end Go.Proofs.Ytpieeefeicdfgab
