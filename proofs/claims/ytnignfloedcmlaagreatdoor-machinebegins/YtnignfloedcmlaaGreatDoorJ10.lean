/- Part of a proof. -/
import Derived.Test.YtnignfloedcmlaaGreatDoorJ09
namespace Go.Proofs.YtnignfloedcmlaaGreatDoor
open Go.RowKit
set_option linter.unusedVariables false
set_option linter.unusedSimpArgs false
theorem Put.onto {l m : List Nat} {a b c : World} (h : Put l a b) (k : Put m b c) (hm : ∀ x ∈ m, x < a.heap.size → x ∈ l) : Put l a c :=
  ⟨k.os.trans h.os, k.tape.trans h.tape, k.output.trans h.output, Nat.le_trans h.size k.size, fun i hi h1 => (k.block i (Nat.lt_of_lt_of_le hi h.size) fun h2 => h1 (hm i h2 hi)).trans (h.block i hi h1)⟩
def rwL (R : Nat) (B : List Int) : List Nat := if B = [] then [] else [R]
theorem rwL_len {R : Nat} {B C : List Int} (h : C.length = B.length) : rwL R C = rwL R B := by
  unfold rwL
  by_cases hB : B = []
  · have : C = [] := List.eq_nil_of_length_eq_zero (by rw [h, hB]; rfl)
    rw [if_pos hB, if_pos this]
  · have : C ≠ [] := fun e => hB (List.eq_nil_of_length_eq_zero (by rw [← h, e]; rfl))
    rw [if_neg hB, if_neg this]
theorem mem_rwL {R : Nat} {B : List Int} {g : Nat} (h : g ∈ rwL R B) : g = R ∧ B ≠ [] := by
  unfold rwL at h
  split at h
  · simp at h
  · rename_i hB; exact ⟨by simpa using h, hB⟩
def MemS (w : World) (v : Value) (R : Nat) (ix : List Nat) (B : List Int) (F : List Nat) : Prop := (v = .pointer none ∧ ix = [] ∧ B = []) ∨ (B ≠ [] ∧ Mem w v R ix B ∧ Far w v R F)
theorem Ram.offR {w : World} {v : Value} {R : Nat} {ix : List Nat} (h : Ram w v R ix) : Off w v [R] := by
  intro p e
  rcases h with ⟨_, e'⟩ | ⟨_, p', e', hp, hn⟩ | ⟨p', F', e', hp, _, n1, n2, _⟩
  · rw [e'] at e; cases e
  · rw [e'] at e; cases e
    refine ⟨by simpa using hn, fun F n c hc => ?_⟩
    rw [cell_of_block hp] at hc; cases hc
  · rw [e'] at e; cases e
    refine ⟨by simpa using n1, fun F n c hc => ?_⟩
    rw [cell_of_block hp] at hc; cases hc
    simpa using n2
theorem Off.cons {w : World} {v : Value} {R : Nat} {l : List Nat} (h : Off w v [R]) (k : Off w v l) : Off w v (R :: l) := fun p e =>
  ⟨fun hm => by rcases List.mem_cons.1 hm with h1 | h1; exact (h p e).1 (by simp [h1]); exact (k p e).1 h1, fun F n c hc hm => by rcases List.mem_cons.1 hm with h1 | h1; exact (h p e).2 F n c hc (by simp [h1]); exact (k p e).2 F n c hc h1⟩
theorem Ram.low {w : World} {v : Value} {R : Nat} {ix l : List Nat} (h : Ram w v R ix) (hl : ∀ g ∈ l, w.heap.size ≤ g) : Off w v l := by
  intro p e
  rcases h with ⟨_, e'⟩ | ⟨_, p', e', hp, hn⟩ | ⟨p', F', e', hp, hF, n1, n2, _⟩
  · rw [e'] at e; cases e
  · rw [e'] at e; cases e
    refine ⟨fun hm => by have := hl _ hm; have := block_lt hp; omega, fun F n c hc => ?_⟩
    rw [cell_of_block hp] at hc; cases hc
  · rw [e'] at e; cases e
    refine ⟨fun hm => by have := hl _ hm; have := block_lt hp; omega, fun F n c hc hm => ?_⟩
    rw [cell_of_block hp] at hc; cases hc
    have := hl _ hm; have := block_lt hF; omega
theorem Off.app {w : World} {v : Value} {l m : List Nat} (h : Off w v l) (k : Off w v m) : Off w v (l ++ m) := fun p e =>
  ⟨fun hm => by rcases List.mem_append.1 hm with h1 | h1; exact (h p e).1 h1; exact (k p e).1 h1, fun F n c hc hm => by rcases List.mem_append.1 hm with h1 | h1; exact (h p e).2 F n c hc h1; exact (k p e).2 F n c hc h1⟩
theorem Far.more {w : World} {v : Value} {R : Nat} {ix l m : List Nat} {B : List Int} (h : Far w v R l) (M : Mem w v R ix B) (hB : B ≠ []) (hm : ∀ g ∈ m, g ∈ l ∨ w.heap.size ≤ g) : Far w v R m := by
  have hlow := M.ram.low (l := m.filter fun g => decide (w.heap.size ≤ g)) (by simp)
  have ho := (h.off.app hlow).sub (m := m) (fun g hg => by
    rcases hm g hg with h1 | h1
    · simp [h1]
    · simp [hg, h1])
  refine ⟨ho, fun hR => ?_⟩
  rcases hm R hR with h1 | h1
  · exact h.row h1
  · have := M.row.lt hB; omega
theorem MemS.kep {w w' : World} {v : Value} {R : Nat} {ix F : List Nat} {B : List Int} (h : MemS w v R ix B F) (k : Kep w w') : MemS w' v R ix B F := by
  rcases h with h | ⟨h1, h2, h3⟩
  · exact .inl h
  · exact .inr ⟨h1, h2.kep k, h3.kep h2 k⟩
theorem MemS.put {w w' : World} {v : Value} {R : Nat} {ix F F' : List Nat} {B : List Int} (h : MemS w v R ix B F) (k : Put F w w') (hF : ∀ g ∈ F', g ∈ F ∨ w.heap.size ≤ g) : MemS w' v R ix B F' := by
  rcases h with h | ⟨h1, h2, h3⟩
  · exact .inl h
  · have h4 := h3.more h2 h1 hF
    exact .inr ⟨h1, h2.put k h3.off h3.row, ⟨Off.stay h2.ram h4.off k h3.off, h4.row⟩⟩
theorem finish_mem {w : World} {p : Nat} {s : DS} {F : List Nat} (h : Dev w p s F) (ok : s.Ok) (hs : s.s = 1) (v : Value) (R : Nat) (ix : List Nat) (B : List Int) (M : MemS w v R ix B F) :
    Calls Tryz.prog 62 #[.pointer (some ⟨p, 6, none⟩), v] w fun e w' => ∃ vf G, e = .returned vf ∧ Sli w' 3 1 vf (finF s ix.length).length ((finF s ix.length).map (Value.int .i64)) G ∧ (∀ g ∈ G, w.heap.size ≤ g) ∧ Dev w' p (finS s ix B) F ∧ Put (rwL R B ++ F) w w' ∧ MemS w' v R ix (finM s ix B) F ∧ (∀ g ∈ G, g ∉ F) := by
  have hk : s.k = 1 ∨ s.k = 2 := by rcases ok.cmd with h | h; exact h.2; omega
  rcases M with ⟨rfl, rfl, rfl⟩ | ⟨h1, h2, h3⟩
  · have M0 : Mem w (.pointer none) w.heap.size [] [] := ⟨.inl ⟨rfl, rfl⟩, RowB.nil _ _, fun i hi => by simp at hi, fun b hb => by simp at hb, by simp⟩
    have F0 : Far w (.pointer none) w.heap.size F := ⟨fun q e => (by cases e), fun hm => by have := h.lt _ hm; omega⟩
    refine (finish_any h ok.d ok.d6 (.pointer none) w.heap.size [] [] M0 F0 ok.f ok.t hk).mono ?_
    rintro e w' ⟨vf, G, rfl, r1, r2, r3, r4, r5, r6⟩
    have e0 : finM s [] [] = [] := List.eq_nil_of_length_eq_zero (finM_len _ _ _)
    refine ⟨vf, G, rfl, r1, r2, r3, ?_, .inl ⟨rfl, rfl, e0⟩, r6⟩
    simp only [rwL, if_pos, List.nil_append]
    exact r4.less (fun k hk hlt => by simp at hk; rcases hk with hk | hk; omega; exact hk)
  · refine (finish_any h ok.d ok.d6 v R ix B h2 h3 ok.f ok.t hk).mono ?_
    rintro e w' ⟨vf, G, rfl, r1, r2, r3, r4, r5, r6⟩
    have ho := h2.ram.offR.cons h3.off
    have hn : finM s ix B ≠ [] := fun e => h1 (List.eq_nil_of_length_eq_zero (by rw [← finM_len s ix B, e]; rfl))
    refine ⟨vf, G, rfl, r1, r2, r3, by simpa [rwL, h1] using r4, .inr ⟨hn, ⟨h2.ram.off r4 ho, r5, h2.fits.len (finM_len _ _ _), finM_byts ok h2.byts, h2.max⟩, ⟨Off.stay h2.ram h3.off r4 ho, h3.row⟩⟩, r6⟩
def Lo (w W : World) (v : Value) : Prop := ∀ q : Nat, v = .pointer (some ⟨q, 0, none⟩) → q < w.heap.size ∧ ∀ F n c, W.cell? ⟨q, 0, none⟩ = some (.slice (some ⟨F, 0, none⟩) n c) → F < w.heap.size
theorem Lo.off {w W : World} {v : Value} (h : Lo w W v) {l : List Nat} (hl : ∀ g ∈ l, w.heap.size ≤ g) : Off W v l := fun q e => ⟨fun hm => by have := (h q e).1; have := hl q hm; omega, fun F n c hc hm => by have := (h q e).2 F n c hc; have := hl F hm; omega⟩
theorem Ram.lo {w : World} {v : Value} {R : Nat} {ix : List Nat} (h : Ram w v R ix) : Lo w w v := by
  intro q e
  rcases h with ⟨_, e'⟩ | ⟨_, p', e', hp, hn⟩ | ⟨p', F', e', hp, hF, _⟩
  · rw [e'] at e; cases e
  · rw [e'] at e; cases e
    refine ⟨block_lt hp, fun F n c hc => ?_⟩
    rw [cell_of_block hp] at hc; cases hc
  · rw [e'] at e; cases e
    refine ⟨block_lt hp, fun F n c hc => ?_⟩
    rw [cell_of_block hp] at hc; cases hc
    exact block_lt hF
theorem Lo.put {w W W' : World} {v : Value} {R : Nat} {ix l : List Nat} (h : Lo w W v) (hr : Ram W v R ix) (k : Put l W W') (ho : Off W v l) : Lo w W' v := by
  intro q e
  refine ⟨(h q e).1, fun F n c hc => (h q e).2 F n c ?_⟩
  rcases hr with ⟨_, e'⟩ | ⟨_, p', e', hp, _⟩ | ⟨p', F', e', hp, _⟩
  · rw [e'] at e; cases e
  · rw [e'] at e; cases e
    rw [k.cell (block_lt hp) (ho _ e').1] at hc; exact hc
  · rw [e'] at e; cases e
    rw [k.cell (block_lt hp) (ho _ e').1] at hc; exact hc
theorem Lo.soft {w W W' : World} {v : Value} {R b : Nat} {ix : List Nat} (h : Lo w W v) (hr : Ram W v R ix) (k : Soft b W W') : Lo w W' v := by
  intro q e
  refine ⟨(h q e).1, fun F n c hc => (h q e).2 F n c ?_⟩
  rcases hr with ⟨_, e'⟩ | ⟨_, p', e', hp, _⟩ | ⟨p', F', e', hp, _⟩
  · rw [e'] at e; cases e
  · rw [e'] at e; cases e
    rw [cell_of_block (k.cells hp), ← cell_of_block hp] at hc; exact hc
  · rw [e'] at e; cases e
    rw [cell_of_block (k.cells hp), ← cell_of_block hp] at hc; exact hc
theorem MemS.ram {w : World} {v : Value} {R : Nat} {ix F : List Nat} {B : List Int} (h : MemS w v R ix B F) : Ram w v R ix := by
  rcases h with ⟨rfl, rfl, _⟩ | ⟨_, h, _⟩
  · exact .inl ⟨rfl, rfl⟩
  · exact h.ram
theorem MemS.off {w : World} {v : Value} {R : Nat} {ix F : List Nat} {B : List Int} (h : MemS w v R ix B F) : Off w v (rwL R B ++ F) := by
  rcases h with ⟨rfl, rfl, _⟩ | ⟨h1, h2, h3⟩
  · intro q e; cases e
  · simp only [rwL, if_neg h1]
    exact h2.ram.offR.cons h3.off
theorem MemS.else {w W W' : World} {v : Value} {R : Nat} {ix F l : List Nat} {B : List Int} (h : MemS W v R ix B F) (lo : Lo w W v) (hR : B ≠ [] → R < w.heap.size) (k : Put l W W') (hl : ∀ g ∈ l, w.heap.size ≤ g) : MemS W' v R ix B F := by
  rcases h with h | ⟨h1, h2, h3⟩
  · exact .inl h
  · have ho := lo.off hl
    exact .inr ⟨h1, h2.put k ho (fun hm => by have := hl R hm; have := hR h1; omega), ⟨Off.stay h2.ram h3.off k ho, h3.row⟩⟩
structure ComeA (w : World) (p : Nat) (F0 : List Nat) (v : Value) (R : Nat) (ix : List Nat) (step : Int) (x : CS) (W : World) (F : List Nat) (vc : Value) (Gc : List Nat) (vw : Value) (Gw : List Nat) : Prop where
  dev : Dev W p x.s F
  bd : Boxed W w.heap.size 68 (.pointer (some ⟨p, 0, none⟩))
  br : Boxed W (w.heap.size + 1) 39 v
  bc : Boxed W (w.heap.size + 2) 37 vc
  sc : Sli W 74 3 vc x.c.length (evs x.c) Gc
  bw : Boxed W (w.heap.size + 3) 96 vw
  sw : Sli W 3 1 vw x.f.length (x.f.map (Value.int .i64)) Gw
  b4 : Boxed W (w.heap.size + 4) 68 (.pointer (some ⟨p, 0, none⟩))
  b5 : Boxed W (w.heap.size + 5) 3 (.int .i64 step)
  mem : MemS W v R ix x.B F
  put : Put (rwL R x.B ++ F0) w W
  fF : ∀ g ∈ F, g ∈ F0 ∨ w.heap.size + 6 ≤ g
  gc : ∀ g ∈ Gc, w.heap.size + 6 ≤ g ∧ g ∉ F
  gw : ∀ g ∈ Gw, w.heap.size + 6 ≤ g ∧ g ∉ F ∧ g ∉ Gc
  f0 : ∀ g ∈ F0, g < w.heap.size
  r0 : x.B ≠ [] → R < w.heap.size
  ok : x.Ok ix
  len : x.c.length + x.s.E.length ≤ 64
  lenf : x.f.length ≤ x.c.length
  big : w.heap.size + 6 ≤ W.heap.size
  lo : Lo w W v
def ComeI (w : World) (p : Nat) (F0 : List Nat) (v : Value) (R : Nat) (ix : List Nat) (step : Int) (x : CS) (W : World) : Prop := ∃ F vc Gc vw Gw, ComeA w p F0 v R ix step x W F vc Gc vw Gw
theorem box_put {W W' : World} {g : Nat} {t : TypeId} {u : Value} {l : List Nat} (h : Boxed W g t u) (k : Put l W W') (hl : g ∉ l) : Boxed W' g t u := k.keeps h hl
theorem ComeA.turn {w : World} {p : Nat} {F0 : List Nat} {v : Value} {R : Nat} {ix : List Nat} {step : Int} {x : CS} {W W' : World} {F F' : List Nat} {vc : Value} {Gc : List Nat} {vw : Value} {Gw : List Nat} (A : ComeA w p F0 v R ix step x W F vc Gc vw Gw)
    (P : Put (rwL R x.B ++ F) W W') {s' : DS} {B' : List Int} (d' : Dev W' p s' F') (m' : MemS W' v R ix B' F') (hF : ∀ g ∈ F', g ∈ F ∨ W.heap.size ≤ g) (hB : B'.length = x.B.length) (ok : CS.Ok ix ⟨s', B', x.c, x.f⟩) (hl : s'.E.length ≤ x.s.E.length) :
    ComeA w p F0 v R ix step ⟨s', B', x.c, x.f⟩ W' F' vc Gc vw Gw := by
  have hbig := A.big
  have hbox : ∀ g, w.heap.size ≤ g → g < w.heap.size + 6 → g ∉ rwL R x.B ++ F := fun g h1 h2 hm => by
    rcases List.mem_append.1 hm with hm | hm
    · have := mem_rwL hm; have := A.r0 this.2; omega
    · rcases A.fF g hm with h3 | h3
      · have := A.f0 g h3; omega
      · omega
  have hg : ∀ g, w.heap.size + 6 ≤ g → g ∉ F → g ∉ rwL R x.B ++ F := fun g h1 h2 hm => by
    rcases List.mem_append.1 hm with hm | hm
    · have := mem_rwL hm; have := A.r0 this.2; omega
    · exact h2 hm
  have hn : B' ≠ [] → x.B ≠ [] := fun h e => h (List.eq_nil_of_length_eq_zero (by rw [hB, e]; rfl))
  refine ⟨d', box_put A.bd P (hbox _ (by omega) (by omega)), box_put A.br P (hbox _ (by omega) (by omega)), box_put A.bc P (hbox _ (by omega) (by omega)), A.sc.put P fun g h => hg g (A.gc g h).1 (A.gc g h).2, box_put A.bw P (hbox _ (by omega) (by omega)), A.sw.put P fun g h => hg g (A.gw g h).1 (A.gw g h).2.1, box_put A.b4 P (hbox _ (by omega) (by omega)), box_put A.b5 P (hbox _ (by omega) (by omega)), m', ?_, ?_, ?_, ?_, A.f0, fun h => A.r0 (hn h), ok, by have := A.len; simp only []; omega, A.lenf, Nat.le_trans A.big P.size, A.lo.put A.mem.ram P A.mem.off⟩
  · rw [rwL_len hB]
    refine A.put.onto P fun g hm hlt => ?_
    rcases List.mem_append.1 hm with hm | hm
    · exact List.mem_append.2 (.inl hm)
    · rcases A.fF g hm with h3 | h3
      · exact List.mem_append.2 (.inr h3)
      · omega
  · intro g h
    rcases hF g h with h1 | h1
    · exact A.fF g h1
    · exact .inr (by omega)
  · intro g h
    refine ⟨(A.gc g h).1, fun hm => ?_⟩
    rcases hF g hm with h1 | h1
    · exact (A.gc g h).2 h1
    · have := A.sc.lt g h; omega
  · intro g h
    refine ⟨(A.gw g h).1, fun hm => ?_, (A.gw g h).2.2⟩
    rcases hF g hm with h1 | h1
    · exact (A.gw g h).2.1 h1
    · have := A.sw.lt g h; omega
theorem ComeA.kep {w : World} {p : Nat} {F0 : List Nat} {v : Value} {R : Nat} {ix : List Nat} {step : Int} {x : CS} {W W' : World} {F : List Nat} {vc : Value} {Gc : List Nat} {vw : Value} {Gw : List Nat} (A : ComeA w p F0 v R ix step x W F vc Gc vw Gw) (k : Kep W W') : ComeA w p F0 v R ix step x W' F vc Gc vw Gw :=
  A.turn (Put.of_kep k) (A.dev.kep k) (A.mem.kep k) (fun g h => .inl h) rfl A.ok (Nat.le_refl _)
theorem Dev.soft {B : Nat} {W W' : World} (k : Soft B W W') {p : Nat} {s : DS} {F : List Nat} (h : Dev W p s F) : Dev W' p s F := by
  obtain ⟨vs, vq, vo, vb, Fs, Fq, Fo, Fb, h, rfl⟩ := h
  exact ⟨vs, vq, vo, vb, Fs, Fq, Fo, Fb, ⟨k.cells h.box, k.sli h.sc, k.sli h.q, k.sli h.o, k.sli h.d, h.ps, h.pq, h.po, h.pb, h.sq, h.so, h.sb, h.qo, h.qb, h.ob⟩, rfl⟩
theorem MemS.soft {b : Nat} {W W' : World} (k : Soft b W W') {v : Value} {R : Nat} {ix F : List Nat} {B : List Int} (h : MemS W v R ix B F) : MemS W' v R ix B F := by
  rcases h with h | ⟨h1, h2, h3⟩
  · exact .inl h
  refine .inr ⟨h1, ⟨?_, fun hn => k.cells (h2.row hn), h2.fits, h2.byts, h2.max⟩, ⟨?_, h3.row⟩⟩
  · rcases h2.ram with h | ⟨h, p, e, hp, n⟩ | ⟨p, F, e, hp, hF, n1, n2, hn⟩
    · exact .inl h
    · exact .inr (.inl ⟨h, p, e, k.cells hp, n⟩)
    · exact .inr (.inr ⟨p, F, e, k.cells hp, k.cells hF, n1, n2, hn⟩)
  · intro p e
    obtain ⟨g1, g2⟩ := h3.off p e
    refine ⟨g1, fun F n c hc => ?_⟩
    rcases h2.ram with ⟨_, e'⟩ | ⟨_, p', e', hp, _⟩ | ⟨p', F', e', hp, _⟩
    · rw [e'] at e; cases e
    · rw [e'] at e; cases e
      rw [cell_of_block (k.cells hp)] at hc; cases hc
    · rw [e'] at e; cases e
      rw [cell_of_block (k.cells hp), ← cell_of_block hp] at hc; exact g2 F n c hc
theorem Put.soft {b : Nat} {L : List Nat} {w W W' : World} (h : Put L w W) (k : Soft b W W') (hb : w.heap.size ≤ b) : Put L w W' := by
  obtain ⟨l, hp, hl⟩ := k
  exact h.onto hp fun g hg hlt => by have := (hl g hg).1; omega
theorem ComeA.soft {w : World} {p : Nat} {F0 : List Nat} {v : Value} {R : Nat} {ix : List Nat} {step : Int} {x : CS} {W W' : World} {F : List Nat} {vc : Value} {Gc : List Nat} {vw : Value} {Gw : List Nat} (A : ComeA w p F0 v R ix step x W F vc Gc vw Gw) {b : Nat} (k : Soft b W W') (hb : w.heap.size ≤ b) : ComeA w p F0 v R ix step x W' F vc Gc vw Gw :=
  ⟨A.dev.soft k, k.boxed A.bd, k.boxed A.br, k.boxed A.bc, k.sli A.sc, k.boxed A.bw, k.sli A.sw, k.boxed A.b4, k.boxed A.b5, A.mem.soft k, A.put.soft k hb, A.fF, A.gc, A.gw, A.f0, A.r0, A.ok, A.len, A.lenf, by obtain ⟨l, hp, _⟩ := k; exact Nat.le_trans A.big hp.size, A.lo.soft A.mem.ram k⟩
theorem box_new {W : World} {B : Nat} {t : TypeId} {v : Value} (v' : Value) (h : Boxed W B t v) : Boxed (W.setCell ⟨B, 0, none⟩ v') B t v' := Boxed.set v' h
theorem box_off {W : World} {B g : Nat} {t : TypeId} {v : Value} (h : Boxed W B t v) (hn : B ≠ g) (u : Value) : Boxed (W.setCell ⟨g, 0, none⟩ u) B t v := (heap_setCell_other _ _ _ _ (by simpa using hn)).trans h
theorem ComeA.came {w : World} {p : Nat} {F0 : List Nat} {v : Value} {R : Nat} {ix : List Nat} {step : Int} {x : CS} {W w1 : World} {F : List Nat} {vc vc' : Value} {Gc Gc' : List Nat} {vw : Value} {Gw : List Nat} {c' : List Ev} (A : ComeA w p F0 v R ix step x W F vc Gc vw Gw)
    (P : Put Gc W w1) (S : Sli w1 74 3 vc' c'.length (evs c') Gc') (H : ∀ g ∈ Gc', g ∈ Gc ∨ W.heap.size ≤ g) (hl : c'.length + x.s.E.length ≤ 64) (hl2 : x.c.length ≤ c'.length) :
    ComeA w p F0 v R ix step ⟨x.s, x.B, c', x.f⟩ (w1.setCell ⟨w.heap.size + 2, 0, none⟩ vc') F vc' Gc' vw Gw := by
  have hbig := A.big
  have k2 : Put [w.heap.size + 2] w1 (w1.setCell ⟨w.heap.size + 2, 0, none⟩ vc') := (Put.refl _).setCell (by simp) _
  have k3 : Put (Gc ++ [w.heap.size + 2]) W (w1.setCell ⟨w.heap.size + 2, 0, none⟩ vc') := (P.mono (by simp +contextual)).trans (k2.mono (by simp))
  have nb : ∀ g, g < w.heap.size + 6 → g ∉ Gc := fun g hg hm => by have := (A.gc g hm).1; omega
  have n2 : ∀ g, g ≠ w.heap.size + 2 → g ∉ [w.heap.size + 2] := fun g hg => by simpa using hg
  have fn : ∀ g ∈ F, g ≠ w.heap.size + 2 := fun g hg e => by
    rcases A.fF g hg with h | h
    · have := A.f0 g h; omega
    · omega
  have l3 : ∀ g ∈ Gc ++ [w.heap.size + 2], w.heap.size ≤ g := fun g hg => by
    rcases List.mem_append.1 hg with h | h
    · have := (A.gc g h).1; omega
    · simp at h; omega
  have hgc' : ∀ g ∈ Gc', w.heap.size + 6 ≤ g := fun g hg => by
    rcases H g hg with h | h
    · exact (A.gc g h).1
    · omega
  refine ⟨(A.dev.put P fun g hg hm => (A.gc g hm).2 hg).put k2 fun g hg => n2 g (fn g hg), box_off (box_put A.bd P (nb _ (by omega))) (by omega) _, box_off (box_put A.br P (nb _ (by omega))) (by omega) _, box_new _ (box_put A.bc P (nb _ (by omega))), S.put k2 (fun g hg => n2 g (by have := hgc' g hg; omega)), box_off (box_put A.bw P (nb _ (by omega))) (by omega) _, (A.sw.put P fun g hg => (A.gw g hg).2.2).put k2 (fun g hg => n2 g (by have := (A.gw g hg).1; omega)), box_off (box_put A.b4 P (nb _ (by omega))) (by omega) _, box_off (box_put A.b5 P (nb _ (by omega))) (by omega) _, A.mem.else A.lo A.r0 k3 l3, ?_, A.fF, ?_, ?_, A.f0, A.r0, ⟨A.ok.s, A.ok.B, A.ok.fits⟩, hl, Nat.le_trans A.lenf hl2, ?_, A.lo.put A.mem.ram k3 (A.lo.off l3)⟩
  · exact A.put.onto k3 fun g hg hlt => by have := l3 g hg; omega
  · intro g hg
    refine ⟨hgc' g hg, fun hm => ?_⟩
    rcases H g hg with h | h
    · exact (A.gc g h).2 hm
    · have := A.dev.lt g hm; omega
  · intro g hg
    refine ⟨(A.gw g hg).1, (A.gw g hg).2.1, fun hm => ?_⟩
    rcases H g hm with h | h
    · exact (A.gw g hg).2.2 h
    · have := A.sw.lt g hg; omega
  · exact Nat.le_trans A.big k3.size
theorem ComeA.wrote {w : World} {p : Nat} {F0 : List Nat} {v : Value} {R : Nat} {ix : List Nat} {step : Int} {x : CS} {W w1 : World} {F : List Nat} {vc : Value} {Gc : List Nat} {vw vw' : Value} {Gw Gw' : List Nat} {f' : List Int} (A : ComeA w p F0 v R ix step x W F vc Gc vw Gw)
    (P : Put Gw W w1) (S : Sli w1 3 1 vw' f'.length (f'.map (Value.int .i64)) Gw') (H : ∀ g ∈ Gw', g ∈ Gw ∨ W.heap.size ≤ g) (hl : f'.length ≤ x.c.length) :
    ComeA w p F0 v R ix step ⟨x.s, x.B, x.c, f'⟩ (w1.setCell ⟨w.heap.size + 3, 0, none⟩ vw') F vc Gc vw' Gw' := by
  have hbig := A.big
  have k2 : Put [w.heap.size + 3] w1 (w1.setCell ⟨w.heap.size + 3, 0, none⟩ vw') := (Put.refl _).setCell (by simp) _
  have k3 : Put (Gw ++ [w.heap.size + 3]) W (w1.setCell ⟨w.heap.size + 3, 0, none⟩ vw') := (P.mono (by simp +contextual)).trans (k2.mono (by simp))
  have nb : ∀ g, g < w.heap.size + 6 → g ∉ Gw := fun g hg hm => by have := (A.gw g hm).1; omega
  have n2 : ∀ g, g ≠ w.heap.size + 3 → g ∉ [w.heap.size + 3] := fun g hg => by simpa using hg
  have fn : ∀ g ∈ F, g ≠ w.heap.size + 3 := fun g hg e => by
    rcases A.fF g hg with h | h
    · have := A.f0 g h; omega
    · omega
  have l3 : ∀ g ∈ Gw ++ [w.heap.size + 3], w.heap.size ≤ g := fun g hg => by
    rcases List.mem_append.1 hg with h | h
    · have := (A.gw g h).1; omega
    · simp at h; omega
  have hgw' : ∀ g ∈ Gw', w.heap.size + 6 ≤ g := fun g hg => by
    rcases H g hg with h | h
    · exact (A.gw g h).1
    · omega
  refine ⟨(A.dev.put P fun g hg hm => (A.gw g hm).2.1 hg).put k2 fun g hg => n2 g (fn g hg), box_off (box_put A.bd P (nb _ (by omega))) (by omega) _, box_off (box_put A.br P (nb _ (by omega))) (by omega) _, box_off (box_put A.bc P (nb _ (by omega))) (by omega) _, (A.sc.put P fun g hg hm => (A.gw g hm).2.2 hg).put k2 (fun g hg => n2 g (by have := (A.gc g hg).1; omega)), box_new _ (box_put A.bw P (nb _ (by omega))), S.put k2 (fun g hg => n2 g (by have := hgw' g hg; omega)), box_off (box_put A.b4 P (nb _ (by omega))) (by omega) _, box_off (box_put A.b5 P (nb _ (by omega))) (by omega) _, A.mem.else A.lo A.r0 k3 l3, ?_, A.fF, A.gc, ?_, A.f0, A.r0, ⟨A.ok.s, A.ok.B, A.ok.fits⟩, A.len, hl, ?_, A.lo.put A.mem.ram k3 (A.lo.off l3)⟩
  · exact A.put.onto k3 fun g hg hlt => by have := l3 g hg; omega
  · intro g hg
    refine ⟨hgw' g hg, fun hm => ?_, fun hm => ?_⟩
    · rcases H g hg with h | h
      · exact (A.gw g h).2.1 hm
      · have := A.dev.lt g hm; omega
    · rcases H g hg with h | h
      · exact (A.gw g h).2.2 hm
      · have := A.sc.lt g hm; omega
  · exact Nat.le_trans A.big k3.size
end Go.Proofs.YtnignfloedcmlaaGreatDoor
