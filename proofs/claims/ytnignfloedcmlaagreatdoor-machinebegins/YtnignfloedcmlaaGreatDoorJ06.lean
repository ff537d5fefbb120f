/- Part of a proof. -/
import Derived.Deep.RegionHeld3
import Derived.Test.YtnignfloedcmlaaGreatDoorJ05
namespace Go.Proofs.YtnignfloedcmlaaGreatDoor
open Go.RowKit
set_option linter.unusedVariables false
set_option linter.unusedSimpArgs false
theorem wake_go (w : World) (p : Nat) (b r : Int) (c : w.cell? ⟨p, 2, none⟩ = some (.int .u32 b)) (f : w.frozen? ⟨p, 2, none⟩ = false) (k q : Int) (hk : (k = 0 ∧ q = 1) ∨ (k = 1 ∧ q = 2) ∨ (k = 2 ∧ q = 4)) (hr : bits .or .u32 b q = r) :
    Calls Tryz.prog 60 #[.pointer (some ⟨p, 2, none⟩), .int .i64 k] w fun e w' => e = .returned (.tuple #[]) ∧ w' = w.drew.setCell ⟨p, 2, none⟩ (.int .u32 r) := by
  rcases hk with ⟨rfl, rfl⟩ | ⟨rfl, rfl⟩ | ⟨rfl, rfl⟩
  all_goals
    go_enter Tryz.func60, Tryz.ntmps60
    go_wp2_with fail
    go_region
    all_goals
      go_wp2_with fail
      go_end0
      exact ⟨rfl, rfl⟩
theorem wake_any {w : World} {p : Nat} {s : DS} {vs vq vo vb : Value} {Fs Fq Fo Fb : List Nat} (h : DevAt w p s vs vq vo vb Fs Fq Fo Fb) (hb : 0 ≤ s.b ∧ s.b ≤ 7) (k q : Int) (hk : (k = 0 ∧ q = 1) ∨ (k = 1 ∧ q = 2) ∨ (k = 2 ∧ q = 4)) :
    Calls Tryz.prog 60 #[.pointer (some ⟨p, 2, none⟩), .int .i64 k] w fun e w' => e = .returned (.tuple #[]) ∧ DevAt w' p { s with b := orI s.b q } vs vq vo vb Fs Fq Fo Fb ∧ Put [p] w w' := by
  refine (wake_go w p s.b (orI s.b q) (h.c 2) (h.fz 2) k q hk ?_).mono ?_
  · rcases hk with ⟨_, rfl⟩ | ⟨_, rfl⟩ | ⟨_, rfl⟩
    · exact or1_is hb
    · exact or2_is hb
    · exact or4_is hb
  · rintro e w' ⟨rfl, rfl⟩
    have P : Put [p] w (w.drew.setCell ⟨p, 2, none⟩ (.int .u32 (orI s.b q))) := ((Put.refl w).drew).setCell (by simp) _
    exact ⟨rfl, h.turn P (box_set (w := w.drew) h.box _) rfl rfl rfl rfl, P⟩
theorem settle_any {w : World} {p : Nat} {s : DS} {vs vq vo vb : Value} {Fs Fq Fo Fb : List Nat} (h : DevAt w p s vs vq vo vb Fs Fq Fo Fb) (hb : 0 ≤ s.b ∧ s.b ≤ 7) (v : Int) (hv : 0 ≤ v ∧ v < 4294967296) :
    Calls Tryz.prog 64 #[.pointer (some ⟨p, 2, none⟩), .int .u32 v] w fun e w' => e = .returned (.tuple #[]) ∧ DevAt w' p { s with b := clrI s.b v } vs vq vo vb Fs Fq Fo Fb ∧ Put [p] w w' := by
  have h' : Hid (DevAt w p s vs vq vo vb Fs Fq Fo Fb) := h
  have c : w.cell? ⟨p, 2, none⟩ = some (.int .u32 s.b) := h.c 2
  have f := h.fz 2
  have hr : bits .andNot .u32 s.b v = clrI s.b v := andNot_is hb hv
  clear h hb hv
  go_enter Tryz.func64, Tryz.ntmps64
  go_wp2
  go_end0
  have P : Put [p] w (w.setCell ⟨p, 2, none⟩ (.int .u32 (clrI s.b v))) := (Put.refl w).setCell (by simp) _
  exact ⟨rfl, h'.out.turn P (box_set h'.out.box _) rfl rfl rfl rfl, P⟩
theorem cell_news {w : World} {o : Value} {t : TypeId} : ∀ j u, ([o] : List Value)[j]? = some u → (w.alloc (.cells #[o] t)).cell? ((⟨w.heap.size, 0, none⟩ : Addr).add j) = some u := fun j u hj => by
  rw [Addr.add_lit, Nat.zero_add, cell_of_block (heap_alloc_new w _), List.getElem?_toArray]; exact hj
theorem apart_new {w : World} {e : TypeId} {z : Nat} {v : Value} {n : Nat} {xs : List Value} {G Fq F1 : List Nat} (h : Sli w e z v n xs G) (hn : ∀ g ∈ G, g ∉ Fq) (H1 : ∀ g ∈ F1, g ∈ Fq ∨ w.heap.size ≤ g) : ∀ g ∈ G, g ∉ F1 := fun g hg h1 => by
  rcases H1 g h1 with h2 | h2
  · exact hn g hg h2
  · have := h.lt g hg; omega
theorem DevAt.newq {w w1 : World} {p : Nat} {s : DS} {vs vq vo vb v' : Value} {Fs Fq Fo Fb F1 : List Nat} {Q' : List Int} (A : DevAt w p s vs vq vo vb Fs Fq Fo Fb) (P1 : Put Fq w w1) (S1 : Sli w1 5 1 v' Q'.length (byt Q') F1) (H1 : ∀ g ∈ F1, g ∈ Fq ∨ w.heap.size ≤ g) :
    DevAt (w1.setCell ⟨p, 4, none⟩ v') p { s with Q := Q' } vs v' vo vb Fs F1 Fo Fb ∧ Put (p :: (Fs ++ (Fq ++ (Fo ++ Fb)))) w (w1.setCell ⟨p, 4, none⟩ v') ∧ ∀ g ∈ p :: (Fs ++ (F1 ++ (Fo ++ Fb))), g ∈ p :: (Fs ++ (Fq ++ (Fo ++ Fb))) ∨ w.heap.size ≤ g := by
  have k2 : Put [p] w1 (w1.setCell ⟨p, 4, none⟩ v') := (Put.refl _).setCell (by simp) _
  have lp := block_lt A.box
  have hp1 : p ∉ F1 := fun h => by
    rcases H1 p h with h1 | h1
    · exact A.pq h1
    · omega
  have np : ∀ {G : List Nat}, p ∉ G → ∀ g ∈ G, g ∉ [p] := fun hG g hg h => by simp at h; subst h; exact hG hg
  have qn : ∀ {G : List Nat}, (∀ g ∈ Fq, g ∉ G) → ∀ g ∈ G, g ∉ Fq := fun h g hg hq => h g hq hg
  refine ⟨⟨box_set (P1.keeps A.box A.pq) _, (A.sc.put P1 A.sq).put k2 (np A.ps), S1.put k2 (np hp1), (A.o.put P1 (qn A.qo)).put k2 (np A.po), (A.d.put P1 (qn A.qb)).put k2 (np A.pb), A.ps, hp1, A.po, A.pb, apart_new A.sc A.sq H1, A.so, A.sb, ?_, ?_, A.ob⟩, ?_, ?_⟩
  · exact fun g hg hg' => apart_new A.o (qn A.qo) H1 g hg' hg
  · exact fun g hg hg' => apart_new A.d (qn A.qb) H1 g hg' hg
  · exact (P1.mono (by simp +contextual)).trans (k2.mono (by simp))
  · intro g hg
    simp only [List.mem_cons, List.mem_append] at hg ⊢
    rcases hg with h | h | h | h | h
    · exact .inl (.inl h)
    · exact .inl (.inr (.inl h))
    · exact (H1 g h).imp (fun h => .inr (.inr (.inl h))) id
    · exact .inl (.inr (.inr (.inr (.inl h))))
    · exact .inl (.inr (.inr (.inr (.inr h))))
theorem DevAt.newo {w w1 : World} {p : Nat} {s : DS} {vs vq vo vb v' : Value} {Fs Fq Fo Fb F1 : List Nat} {O' : List Int} (A : DevAt w p s vs vq vo vb Fs Fq Fo Fb) (P1 : Put Fo w w1) (S1 : Sli w1 5 1 v' O'.length (byt O') F1) (H1 : ∀ g ∈ F1, g ∈ Fo ∨ w.heap.size ≤ g) :
    DevAt (w1.setCell ⟨p, 5, none⟩ v') p { s with O := O' } vs vq v' vb Fs Fq F1 Fb ∧ Put (p :: (Fs ++ (Fq ++ (Fo ++ Fb)))) w (w1.setCell ⟨p, 5, none⟩ v') ∧ ∀ g ∈ p :: (Fs ++ (Fq ++ (F1 ++ Fb))), g ∈ p :: (Fs ++ (Fq ++ (Fo ++ Fb))) ∨ w.heap.size ≤ g := by
  have k2 : Put [p] w1 (w1.setCell ⟨p, 5, none⟩ v') := (Put.refl _).setCell (by simp) _
  have lp := block_lt A.box
  have hp1 : p ∉ F1 := fun h => by
    rcases H1 p h with h1 | h1
    · exact A.po h1
    · omega
  have np : ∀ {G : List Nat}, p ∉ G → ∀ g ∈ G, g ∉ [p] := fun hG g hg h => by simp at h; subst h; exact hG hg
  have qn : ∀ {G : List Nat}, (∀ g ∈ Fo, g ∉ G) → ∀ g ∈ G, g ∉ Fo := fun h g hg hq => h g hq hg
  refine ⟨⟨box_set (P1.keeps A.box A.po) _, (A.sc.put P1 A.so).put k2 (np A.ps), (A.q.put P1 A.qo).put k2 (np A.pq), S1.put k2 (np hp1), (A.d.put P1 (qn A.ob)).put k2 (np A.pb), A.ps, A.pq, hp1, A.pb, A.sq, apart_new A.sc A.so H1, A.sb, apart_new A.q A.qo H1, A.qb, ?_⟩, ?_, ?_⟩
  · exact fun g hg hg' => apart_new A.d (qn A.ob) H1 g hg' hg
  · exact (P1.mono (by simp +contextual)).trans (k2.mono (by simp))
  · intro g hg
    simp only [List.mem_cons, List.mem_append] at hg ⊢
    rcases hg with h | h | h | h | h
    · exact .inl (.inl h)
    · exact .inl (.inr (.inl h))
    · exact .inl (.inr (.inr (.inl h)))
    · exact (H1 g h).imp (fun h => .inr (.inr (.inr (.inl h)))) id
    · exact .inl (.inr (.inr (.inr (.inr h))))
theorem DevAt.news {w : World} {p : Nat} {s : DS} {vs vq vo vb v' : Value} {Fs Fq Fo Fb : List Nat} {E' : List Ev} (A : DevAt w p s vs vq vo vb Fs Fq Fo Fb) (S1 : Sli w 74 3 v' E'.length (evs E') Fs) :
    DevAt (w.setCell ⟨p, 1, none⟩ v') p { s with E := E' } v' vq vo vb Fs Fq Fo Fb ∧ Put [p] w (w.setCell ⟨p, 1, none⟩ v') := by
  have k2 : Put [p] w (w.setCell ⟨p, 1, none⟩ v') := (Put.refl _).setCell (by simp) _
  have np : ∀ {G : List Nat}, p ∉ G → ∀ g ∈ G, g ∉ [p] := fun hG g hg h => by simp at h; subst h; exact hG hg
  exact ⟨⟨box_set A.box _, S1.put k2 (np A.ps), A.q.put k2 (np A.pq), A.o.put k2 (np A.po), A.d.put k2 (np A.pb), A.ps, A.pq, A.po, A.pb, A.sq, A.so, A.sb, A.qo, A.qb, A.ob⟩, k2⟩
theorem DevAt.newd {w w1 : World} {p : Nat} {s : DS} {vs vq vo vb : Value} {Fs Fq Fo Fb : List Nat} {D' : List Int} (A : DevAt w p s vs vq vo vb Fs Fq Fo Fb) (P1 : Put Fb w w1) (S1 : Sli w1 108 64 vb (D'.length / 64) (byt D') Fb) : DevAt w1 p { s with D := D' } vs vq vo vb Fs Fq Fo Fb :=
  ⟨P1.keeps A.box A.pb, A.sc.put P1 A.sb, A.q.put P1 A.qb, A.o.put P1 A.ob, S1, A.ps, A.pq, A.po, A.pb, A.sq, A.so, A.sb, A.qo, A.qb, A.ob⟩
theorem ck_off {w : World} {b i j : Nat} {v x : Value} (hn : i ≠ j) (h : w.cell? ⟨b, i, none⟩ = some v) : (w.setCell ⟨b, j, none⟩ x).cell? ⟨b, i, none⟩ = some v := (World.cell?_setCell_other _ ⟨b, j, none⟩ ⟨b, i, none⟩ _ (fun e => hn (congrArg Addr.off e).symm)).trans h
def queueS (s : DS) (x : Int) : DS := if s.Q.length < 32 then { s with Q := s.Q ++ [x] } else s
set_option maxHeartbeats 1000000 in
theorem queueUp_any {w : World} {p : Nat} {s : DS} {F : List Nat} (h : Dev w p s F) (x : Int) :
    Calls Tryz.prog 61 #[.pointer (some ⟨p, 4, none⟩), .int .u8 x] w fun e w' => e = .returned (.tuple #[]) ∧ ∃ F', Dev w' p (queueS s x) F' ∧ Put F w w' ∧ ∀ g ∈ F', g ∈ F ∨ w.heap.size ≤ g := by
  obtain ⟨vs, vq, vo, vb, Fs, Fq, Fo, Fb, h, rfl⟩ := h
  obtain ⟨i0, hi, hz0, hz1, hz2⟩ := info_parts vinfo_u8
  obtain ⟨xq, cq, hvq, _⟩ := h.q.lies
  have c : w.cell? ⟨p, 4, none⟩ = some vq := h.c 4
  have h' : Hid (DevAt w p s vs vq vo vb Fs Fq Fo Fb) := h
  by_cases hq : s.Q.length < 32
  · have hq' : (s.Q.length : Int) < 32 := by omega
    have t1 : decide ((s.Q.length : Int) < 32) = true := decide_eq_true hq'
    have e : queueS s x = { s with Q := s.Q ++ [x] } := by unfold queueS; rw [if_pos hq]
    rw [e]
    have hA : Hid (DevAt (w.alloc (.cells #[.int .u8 x] 5)) p s vs vq vo vb Fs Fq Fo Fb) := h.kep ((Kep.refl _).alloc _)
    have hsl := hA.out.q
    have fz' : Hid (∀ (w' : World) F0, Put F0 (w.alloc (.cells #[.int .u8 x] 5)) w' → p ∉ F0 → w'.cell? ⟨p, 4, none⟩ = some vq ∧ w'.frozen? ⟨p, 4, none⟩ = false) := fun w' F0 k hp => by
      have hb := k.keeps hA.out.box hp
      exact ⟨(cell_of_block hb).trans rfl, by simp [World.frozen?, hb]⟩
    subst hvq
    have hpq : Hid (p ∉ Fq) := h.pq
    clear h e
    go_enter Tryz.func61, Tryz.ntmps61
    go_wp2_with (at_builtin; refine wpList_append_sli rfl (.tmp 14) (.tmp 16) 22 rfl 5 i0 _ 1 1 Tryz.underlying22 hi hz0 hz1 hz2 rfl (by decide) _ s.Q.length (byt s.Q) Fq rfl hsl ⟨w.heap.size, 0, none⟩ 1 [.int .u8 x] rfl rfl cell_news (by simp [Value.oneCell']) (by unfold maxLen; omega) (by omega) ?_; intro v' w1 F1 S1 P1 H1; obtain ⟨d0, d1⟩ := fz'.out w1 Fq P1.out hpq.out; obtain ⟨x1, c1, rfl, _⟩ := S1.out.lies)
    go_end0
    obtain ⟨r1, r2, r3⟩ := hA.out.newq (Q' := s.Q ++ [x]) P1.out (by simpa [byt] using S1.out) H1.out
    refine ⟨rfl, _, ⟨_, _, _, _, _, _, _, _, r1, rfl⟩, (Put.of_kep ((Kep.refl w).alloc _)).trans r2, fun g hg => (r3 g hg).imp id fun h => by simp at h; omega⟩
  · have t1 : decide ((s.Q.length : Int) < 32) = false := decide_eq_false (by omega)
    have e : queueS s x = s := by unfold queueS; rw [if_neg hq]
    rw [e]
    subst hvq
    clear h e hq
    go_enter Tryz.func61, Tryz.ntmps61
    go_wp2_with fail
    go_end0
    exact ⟨rfl, _, ⟨_, _, _, _, _, _, _, _, h'.out, rfl⟩, Put.refl _, fun g hg => .inl hg⟩
set_option maxHeartbeats 1000000 in
theorem goOut_any {w : World} {p : Nat} {s : DS} {F : List Nat} (h : Dev w p s F) (hO : (s.O.length : Int) < 1000000) (x : Int) :
    Calls Tryz.prog 119 #[.pointer (some ⟨p, 4, none⟩), .int .u8 x] w fun e w' => e = .returned (.tuple #[]) ∧ ∃ F', Dev w' p { s with O := s.O ++ [x] } F' ∧ Put F w w' ∧ ∀ g ∈ F', g ∈ F ∨ w.heap.size ≤ g := by
  obtain ⟨vs, vq, vo, vb, Fs, Fq, Fo, Fb, h, rfl⟩ := h
  obtain ⟨i0, hi, hz0, hz1, hz2⟩ := info_parts vinfo_u8
  obtain ⟨xq, cq, hvq, _⟩ := h.o.lies
  have c : w.cell? ⟨p, 5, none⟩ = some vo := h.c 5
  have hA : Hid (DevAt (w.alloc (.cells #[.int .u8 x] 5)) p s vs vq vo vb Fs Fq Fo Fb) := h.kep ((Kep.refl _).alloc _)
  have hsl := hA.out.o
  have fz' : Hid (∀ (w' : World) F0, Put F0 (w.alloc (.cells #[.int .u8 x] 5)) w' → p ∉ F0 → w'.cell? ⟨p, 5, none⟩ = some vo ∧ w'.frozen? ⟨p, 5, none⟩ = false) := fun w' F0 k hp => by
    have hb := k.keeps hA.out.box hp
    exact ⟨(cell_of_block hb).trans rfl, by simp [World.frozen?, hb]⟩
  subst hvq
  have hpq : Hid (p ∉ Fo) := h.po
  clear h
  go_enter Tryz.func119, Tryz.ntmps119
  go_wp2_with (at_builtin; refine wpList_append_sli rfl (.tmp 8) (.tmp 10) 22 rfl 5 i0 _ 1 1 Tryz.underlying22 hi hz0 hz1 hz2 rfl (by decide) _ s.O.length (byt s.O) Fo rfl hsl ⟨w.heap.size, 0, none⟩ 1 [.int .u8 x] rfl rfl cell_news (by simp [Value.oneCell']) (by unfold maxLen; omega) (by omega) ?_; intro v' w1 F1 S1 P1 H1; obtain ⟨d0, d1⟩ := fz'.out w1 Fo P1.out hpq.out; obtain ⟨x1, c1, rfl, _⟩ := S1.out.lies)
  go_end0
  obtain ⟨r1, r2, r3⟩ := hA.out.newo (O' := s.O ++ [x]) P1.out (by simpa [byt] using S1.out) H1.out
  exact ⟨rfl, _, ⟨_, _, _, _, _, _, _, _, r1, rfl⟩, (Put.of_kep ((Kep.refl w).alloc _)).trans r2, fun g hg => (r3 g hg).imp id fun h => by simp at h; omega⟩
def firstI (Q : List Int) : Int := match Q with
  | [] => 4294967295
  | x :: _ => x
theorem first_any {w : World} {p : Nat} {s : DS} {F : List Nat} (h : Dev w p s F) (hq : Byts s.Q) :
    Calls Tryz.prog 83 #[.pointer (some ⟨p, 4, none⟩)] w fun e w' => e = .returned (.int .u32 (firstI s.Q)) ∧ w' = w := by
  obtain ⟨vs, vq, vo, vb, Fs, Fq, Fo, Fb, h, rfl⟩ := h
  have c : w.cell? ⟨p, 4, none⟩ = some vq := h.c 4
  obtain ⟨xq, cq, hvq, hl, h1, h2, _⟩ := h.q.lies
  unfold maxLen at h2
  cases hQ : s.Q with
  | nil =>
    rw [hQ] at hvq
    subst hvq
    clear h hl hQ
    go_enter Tryz.func83, Tryz.ntmps83
    go_wp2
    go_ret
    exact ⟨rfl, rfl⟩
  | cons x Q =>
    rw [hQ] at hvq hl h1
    rcases hl with hl | ⟨b, off, rfl, hb, hc⟩
    · simp [byt] at hl
    have c1 : w.cell? ⟨b, off, none⟩ = some (.int .u8 x) := hc 0 _ rfl
    have hx := hq x (by rw [hQ]; simp)
    have hx0 := hx.1
    have hx1 := hx.2
    subst hvq
    have hn : ((x :: Q).length : Int) ≤ 9223372036854775807 := by simp only [List.length_cons] at h1 ⊢; omega
    have hn1 : (1 : Int) ≤ ((x :: Q).length : Int) := by simp only [List.length_cons]; omega
    show Calls _ _ _ _ fun e w' => e = .returned (.int .u32 x) ∧ w' = w
    generalize (x :: Q).length = n at c hn hn1
    have hn0 : ((n : Int) == 0) = false := by simp; omega
    clear h hc hQ h1 h2 hq hx
    go_enter Tryz.func83, Tryz.ntmps83
    go_wp2
    go_ret
    exact ⟨ret_int (by omega), rfl⟩
theorem takeOut_any {w : World} {p : Nat} {s : DS} {F : List Nat} (h : Dev w p s F) :
    Calls Tryz.prog 118 #[.pointer (some ⟨p, 4, none⟩)] w fun e w' => e = .returned (.tuple #[]) ∧ Dev w' p { s with Q := s.Q.drop 1 } F ∧ Put F w w' := by
  obtain ⟨vs, vq, vo, vb, Fs, Fq, Fo, Fb, h, rfl⟩ := h
  have c : w.cell? ⟨p, 4, none⟩ = some vq := h.c 4
  have f := h.fz 4
  have h' : Hid (DevAt w p s vs vq vo vb Fs Fq Fo Fb) := h
  obtain ⟨xq, cq, hvq, hl, h1, h2, _⟩ := h.q.lies
  by_cases hn : s.Q.length = 0
  · have hQ := List.eq_nil_of_length_eq_zero hn
    have e : ({ s with Q := s.Q.drop 1 } : DS) = s := by rw [hQ]; cases s; simp at hQ; subst hQ; rfl
    rw [e]
    rw [hn] at hvq
    subst hvq
    clear h hl hQ e
    go_enter Tryz.func118, Tryz.ntmps118
    go_wp2
    go_end0
    exact ⟨rfl, ⟨_, _, _, _, _, _, _, _, h'.out, rfl⟩, Put.refl _⟩
  · obtain ⟨v', hs, hrun⟩ := h.q.tail (P := Tryz.prog) 22 (by omega) (by kernel_rfl) (fun w => by kernel_rfl)
    obtain ⟨x1, c1, hv', _⟩ := hs.lies
    subst hv'
    subst hvq
    have hn1 : (0 : Int) < (s.Q.length : Int) := by omega
    have t0 : (0 < s.Q.length) = True := eq_true (by omega)
    have hs' : Hid _ := hs
    clear h hl h1 h2 hs hn hn1
    go_enter Tryz.func118, Tryz.ntmps118
    go_wp2
    go_end0
    obtain ⟨r1, r2, _⟩ := h'.out.newq (Q' := s.Q.drop 1) (Put.refl w) (F1 := Fq) (by rw [show byt (s.Q.drop 1) = (byt s.Q).drop 1 by simp [byt], List.length_drop]; exact hs'.out) (fun g hg => .inl hg)
    exact ⟨rfl, ⟨_, _, _, _, _, _, _, _, r1, rfl⟩, r2⟩
theorem isCommand_any (w : World) (v : Int) : Calls Tryz.prog 142 #[.int .u32 v] w fun e w' => e = .returned (.bool (decide (v = 1 ∨ v = 2))) ∧ w' = w := by
  obtain ⟨r, hr⟩ : ∃ r, Hid (r = decide (v = 1 ∨ v = 2)) := ⟨_, rfl⟩
  rw [← hr.out]
  go_enter Tryz.func142, Tryz.ntmps142
  go_wp2
  all_goals go_ret
  all_goals refine ⟨ret_bool ?_, rfl⟩
  all_goals rw [hr.out, Bool.eq_iff_iff]; simp_all
def giveS (s : DS) (v : Int) : DS := if s.s ≠ 1 ∧ (v = 1 ∨ v = 2) then { s with k := v, f := s.n, t := s.a, s := 1 } else s
set_option maxHeartbeats 1000000 in
theorem give_any {w : World} {p : Nat} {s : DS} {vs vq vo vb : Value} {Fs Fq Fo Fb : List Nat} (h : DevAt w p s vs vq vo vb Fs Fq Fo Fb) (v : Int) :
    Calls Tryz.prog 120 #[.pointer (some ⟨p, 6, none⟩), .int .u32 v] w fun e w' => e = .returned (.tuple #[]) ∧ DevAt w' p (giveS s v) vs vq vo vb Fs Fq Fo Fb ∧ Put [p] w w' := by
  have h' : Hid (DevAt w p s vs vq vo vb Fs Fq Fo Fb) := h
  have H : Hid (∀ w, Calls Tryz.prog 142 #[.int .u32 v] w fun e w' => e = .returned (.bool (decide (v = 1 ∨ v = 2))) ∧ w' = w) := fun w => isCommand_any w v
  have c7 : w.cell? ⟨p, 7, none⟩ = some (.int .u32 s.n) := h.c 7
  have c8 : w.cell? ⟨p, 8, none⟩ = some (.int .u32 s.a) := h.c 8
  have c9 : w.cell? ⟨p, 9, none⟩ = some (.int .u32 s.s) := h.c 9
  have c10 : w.cell? ⟨p, 10, none⟩ = some (.int .u32 s.k) := h.c 10
  have c11 : w.cell? ⟨p, 11, none⟩ = some (.int .u32 s.f) := h.c 11
  have c12 : w.cell? ⟨p, 12, none⟩ = some (.int .u32 s.t) := h.c 12
  have f := h.fz
  by_cases h1 : s.s = 1
  · have t1 : (s.s != 1) = false := by simp [h1]
    have e : giveS s v = s := by unfold giveS; rw [if_neg (by simp [h1])]
    rw [e]
    clear h e h1
    go_enter Tryz.func120, Tryz.ntmps120
    go_wp2_with fail
    go_end0
    exact ⟨rfl, h'.out, Put.refl _⟩
  have t1 : (s.s != 1) = true := by simp [h1]
  by_cases h2 : v = 1 ∨ v = 2
  · have e : giveS s v = { s with k := v, f := s.n, t := s.a, s := 1 } := by unfold giveS; rw [if_pos ⟨h1, h2⟩]
    rw [e]
    rw [decide_eq_true h2] at H
    clear h e h1 h2
    go_enter Tryz.func120, Tryz.ntmps120
    go_wp2_with (go_at_call 142; refine (H.out _).mono ?_; rintro e w1 ⟨rfl, rfl⟩)
    go_region_held3 (fun w' => w'.cell? ⟨p, 7, none⟩ = some (.int .u32 s.n) ∧ w'.cell? ⟨p, 8, none⟩ = some (.int .u32 s.a)) (constructor <;> repeat (first | (with_reducible exact c7) | (with_reducible exact c8) | (with_reducible refine ck_drew ?_) | (with_reducible refine ck_off (by decide) ?_))) (fail)
    go_wp2_with fail
    go_end0
    have P : Put [p] w1 ((((w1.setCell ⟨p, 10, none⟩ (.int .u32 v)).setCell ⟨p, 11, none⟩ (.int .u32 s.n)).setCell ⟨p, 12, none⟩ (.int .u32 s.a)).drew.setCell ⟨p, 9, none⟩ (.int .u32 1)) := (((((Put.refl w1).setCell (by simp) _).setCell (by simp) _).setCell (by simp) _).drew).setCell (by simp) _
    refine ⟨rfl, h'.out.turn P ?_ rfl rfl rfl rfl, P⟩
    have b1 := box_set (j := 10) h'.out.box (.int .u32 v)
    have b2 := box_set (j := 11) b1 (.int .u32 s.n)
    have b3 := box_set (j := 12) b2 (.int .u32 s.a)
    exact box_set (j := 9) (w := (((w1.setCell ⟨p, 10, none⟩ (.int .u32 v)).setCell ⟨p, 11, none⟩ (.int .u32 s.n)).setCell ⟨p, 12, none⟩ (.int .u32 s.a)).drew) b3 (.int .u32 1)
  · have e : giveS s v = s := by unfold giveS; rw [if_neg (by simp [h2])]
    rw [e]
    rw [decide_eq_false h2] at H
    clear h e h1 h2
    go_enter Tryz.func120, Tryz.ntmps120
    go_wp2_with (go_at_call 142; refine (H.out _).mono ?_; rintro e w1 ⟨rfl, rfl⟩)
    go_end0
    exact ⟨rfl, h'.out, Put.refl _⟩
def canB (D : List Int) (nf : Nat) (f t : Int) : Bool := decide (f < (D.length / 64 : Nat)) && decide (t % 64 = 0) && decide (t < 64 * nf)
set_option maxHeartbeats 1000000 in
theorem can_any {w : World} {p : Nat} {s : DS} {vs vq vo vb : Value} {Fs Fq Fo Fb : List Nat} (h : DevAt w p s vs vq vo vb Fs Fq Fo Fb) (hD : s.D.length ≤ 2048) (v : Value) (R : Nat) (ix : List Nat) (hr : Ram w v R ix) (hix : (ix.length : Int) ≤ 512) (k f t : Int) (hf : 0 ≤ f ∧ f < 4294967296) (ht : 0 ≤ t ∧ t < 4294967296) :
    Calls Tryz.prog 73 #[.pointer (some ⟨p, 6, none⟩), .agg #[.int .u32 k, .int .u32 f, .int .u32 t], v] w fun e w' => e = .returned (.bool (canB s.D ix.length f t)) ∧ Kep w w' := by
  obtain ⟨xb, cb, hvb, _⟩ := h.d.lies
  have c : w.cell? ⟨p, 6, none⟩ = some vb := h.c 6
  have lp := block_lt h.box
  subst hvb
  have HS : Hid (∀ m, Calls Tryz.prog 22 #[v] ((w.alloc (.cells #[.int .u32 k, .int .u32 f, .int .u32 t] 87)).drewN m) fun e w' => e = .returned (.int .u32 (64 * ix.length)) ∧ w' = (w.alloc (.cells #[.int .u32 k, .int .u32 f, .int .u32 t] 87)).drewN m) := fun m => msize_any _ v R ix (hr.kep (((Kep.refl w).alloc _).drewN m)) hix
  obtain ⟨nb, hnb⟩ : ∃ nb, nb = s.D.length / 64 := ⟨_, rfl⟩
  rw [← hnb] at c
  have hnb32 : (nb : Int) ≤ 32 := by omega
  have g1 : (nb : Int) % 4294967296 = nb := by omega
  have c' : ∀ o, (w.alloc o).cell? ⟨p, 6, none⟩ = some (.slice xb nb cb) := fun o => (cell_old lp).trans c
  have hcan : Hid (canB s.D ix.length f t = (decide (f < (nb : Int)) && decide (t % 64 = 0) && decide (t < 64 * (ix.length : Int)))) := by unfold Hid canB; rw [← hnb]
  rw [hcan.out]
  obtain ⟨hf0, hf1⟩ := hf
  obtain ⟨ht0, ht1⟩ := ht
  clear h hr hnb hcan
  by_cases h1 : f < (nb : Int)
  · by_cases h2 : t % 64 = 0
    · have t1 : decide (f < (nb : Int)) = true := decide_eq_true h1
      have t2 : (t % 64 == 0) = true := by simp [h2]
      rw [t1, decide_eq_true h2]
      clear h1 h2
      go_enter Tryz.func73, Tryz.ntmps73
      go_wp2_with fail
      go_quiet ((go_at_call 22; exact (HS.out _).mono fun _ _ h => ⟨h.1, _, h.2⟩))
      go_wp2_with fail
      go_ret
      exact ⟨ret_bool (by simp), ((Kep.refl w).alloc _).drewN _⟩
    · have t1 : decide (f < (nb : Int)) = true := decide_eq_true h1
      have t2 : (t % 64 == 0) = false := by simp [h2]
      rw [t1, decide_eq_false h2]
      clear h1 h2
      go_enter Tryz.func73, Tryz.ntmps73
      go_wp2_with fail
      go_quiet ((go_at_call 22; exact (HS.out _).mono fun _ _ h => ⟨h.1, _, h.2⟩))
      go_wp2_with fail
      go_ret
      exact ⟨ret_bool (by simp), ((Kep.refl w).alloc _).drewN _⟩
  · have t1 : decide (f < (nb : Int)) = false := decide_eq_false h1
    rw [t1]
    clear h1
    go_enter Tryz.func73, Tryz.ntmps73
    go_wp2_with fail
    go_quiet ((go_at_call 22; exact (HS.out _).mono fun _ _ h => ⟨h.1, _, h.2⟩))
    go_wp2_with fail
    go_ret
    exact ⟨ret_bool (by simp), ((Kep.refl w).alloc _).drewN _⟩
end Go.Proofs.YtnignfloedcmlaaGreatDoor
