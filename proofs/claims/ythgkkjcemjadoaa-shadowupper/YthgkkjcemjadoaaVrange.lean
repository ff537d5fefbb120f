/- A range over a function whose rounds all end at their end, and whose iterator may turn memory that the rounds use: one invariant of both. -/
import Derived.Test.YthgkkjcemjadoaaPutl
import Derived.RangeFuncBox
import Derived.RangeFuncNested
import Derived.RangeFuncLeaves
import Derived.RangeFuncCalls
import Derived.TacticsInMore
import Derived.LoopNIn
import Derived.LoopIn
namespace Go.Proofs.Ythgkkjcemjadoaa
open Go.RowKit
set_option linter.unusedVariables false

/-- Nothing has turned but blocks from B on that are no cells; there may be new blocks. -/
def Soft (B : Nat) (W W' : World) : Prop := ∃ l, Put l W W' ∧ ∀ g ∈ l, B ≤ g ∧ ∃ o : Obj, W.heap[g]? = some o ∧ o.isCells = false
theorem Soft.of_kep {B : Nat} {W W' : World} (h : Kep W W') : Soft B W W' := ⟨[], Put.of_kep h, by simp⟩
theorem put_obj (W : World) (l : Nat) (o : Obj) : Put [l] W (W.putObj l o) :=
  ⟨rfl, rfl, rfl, by simp, fun k _ hk => World.putObj_heap_other (by simpa using hk)⟩
theorem Soft.obj {B : Nat} {W : World} {l : Nat} {o : Obj} (o' : Obj) (hl : W.heap[l]? = some o) (ho : o.isCells = false) (hB : B ≤ l) : Soft B W (W.putObj l o') :=
  ⟨[l], put_obj W l o', fun g hg => by obtain rfl : g = l := by simpa using hg
                                       exact ⟨hB, o, hl, ho⟩⟩
theorem KeepsFrom.of_put {B : Nat} {W W' : World} {l : List Nat} (h : Put l W W') (hl : ∀ g ∈ l, B ≤ g → ∃ cs t fr, W.heap[g]? = some (.cells cs t fr)) : KeepsFrom B W W' :=
  ⟨h.size, fun k o hB hk ho => by
    refine h.keeps hk fun hm => ?_
    obtain ⟨cs, t, fr, hc⟩ := hl k hm hB
    rw [hk] at hc; cases hc; cases ho⟩
/-- What a round's body is asked for. -/
def endPost (R : World → Prop) : Exit → Act → World → Prop
  | .normal, _, W => R W
  | .ret, _, _ => False
  | .exit _, _, _ => False
  | .goto _, _, _ => False
  | .panic _, _, _ => False
  | .outgrown, _, _ => False

theorem range_all {F : Fence} {n : Nat} {P : Program} {S X : Type} {g : Operand} {ps : Array Tmp} {assign body : Code} {Q : Exit → Act → World → Prop} {a : Act} {w : World}
    (hro : F.round = none) (h1 : 1 ≤ n) {gf : Nat} {lb : Array Value} (hg : a.eval g = .func (.func gf) #[] lb) (hFg : F.fn gf) (eg : ∀ args w, (callFunc gf args).run P w = .ok (.enter gf args) w)
    (encs : X → Array Value) (hps : ∀ x, (encs x).size = ps.size) (I : S → World → Prop) (M : S → X → World → Prop) (nx : S → X → S) (fin : S → Prop)
    (hI : ∀ s W W', I s W → Soft w.heap.size W W' → I s W') (s0 : S) (h0 : I s0 w)
    (hseq : ∀ (l : Nat) (J : S → World → Prop) (Jm : S → X → World → Prop) (W : World), (∀ s W, J s W → I s W) → (∀ s x W W', J s W → KeepsFrom w.heap.size W W' → M s x W' → Jm s x W') → (∀ s W W', J s W → KeepsFrom w.heap.size W W' → I s W' → J s W') →
      (∀ s x W, Jm s x W → YieldAt F (n - 1 - 1) P l (encs x) W fun e W' => e = .returned (.bool true) ∧ J (nx s x) W') → J s0 W →
      CallsIn F (n - 1) P gf (#[.func (.yield l) #[] #[]] ++ lb) W fun e W' => (∃ v, e = .returned v) ∧ ∃ s, fin s ∧ J s W')
    (hround : ∀ (l : Nat) (s : S) (x : X) (W : World), M s x W → assign.wpIn (F.inRound l) (n - 1 - 1) P (Exit.then (fun a₁ W₁ => KeepsFrom w.heap.size W W₁ ∧ ∀ W₂, Soft w.heap.size W₁ W₂ → body.wpIn (F.inRound l) (n - 1 - 1) P (endPost fun W₃ => KeepsFrom w.heap.size W₂ W₃ ∧ I (nx s x) W₃) a₁ W₂) (fun _ _ _ => False))
      { tmps := (ps.zip (encs x)).foldl (fun t (p, v) => t.setIfInBounds p v) a.tmps, defers := [] } W)
    (hdone : ∀ (D : Nat) (s : S) (W : World), w.heap.size ≤ D → fin s → I s W → W.heap[D]? = some (.deferred (some [])) → Q .normal { a with defers := { target := .collected D, args := #[] } :: a.defers } W) :
    (Code.rangeFunc g ps assign body).wpIn F n P Q a w := by
  refine wpIn_rangeFunc ?_
  intro fn hfn
  rw [hro]
  obtain ⟨rc, hrc⟩ : ∃ rc : LoopState → Option Code → Loop, rc = fun st pe => { state := st, pending := pe, fn, tmps := a.tmps, params := ps, assign, body, defers := w.heap.size } := ⟨_, rfl⟩
  obtain ⟨W1, hW1⟩ : ∃ W1, W1 = (w.alloc (.deferred (some []))).alloc (.loop (rc .ready none)) := ⟨_, rfl⟩
  have hL1 : W1.heap[w.heap.size + 1]? = some (.loop (rc .ready none)) := by rw [hW1]; exact hat _ _ _ (by simp)
  have hK1 : W1.heap[w.heap.size]? = some (.deferred (some [])) := by rw [hW1]; exact (hsk _ _ _ (by simp)).trans (hat _ _ _ rfl)
  have hI1 : I s0 W1 := hI _ _ _ h0 (Soft.of_kep (by rw [hW1]; exact ((Kep.refl _).alloc _).alloc _))
  refine ⟨w.heap.size + 1, [{ target := .collected w.heap.size, args := #[] }], W1, { target := .fn (.func gf) lb, args := #[.func (.yield (w.heap.size + 1)) #[] #[]] }, W1, gf, #[.func (.yield (w.heap.size + 1)) #[] #[]] ++ lb, W1, ?_, ?_, ?_, ?_, fun _ => h1, ?_⟩
  · rw [hW1, hrc]; exact run_enterLoop_outer _ _ _ _ _
  · simp only [resolve, hg]
    simp [go_sem]
  · intro f' hf'; simp [Target.leads] at hf'; subst hf'; exact hFg
  · simp [invoke, go_sem, eg]
  · refine (hseq (w.heap.size + 1)
      (fun s W => I s W ∧ W.heap[w.heap.size + 1]? = some (.loop (rc .ready none)) ∧ W.heap[w.heap.size]? = some (.deferred (some [])))
      (fun s x W => M s x W ∧ W.heap[w.heap.size + 1]? = some (.loop (rc .ready none)) ∧ W.heap[w.heap.size]? = some (.deferred (some [])))
      W1 (fun s W h => h.1) (fun s x W W' h k m => ⟨m, k.same _ _ (by omega) h.2.1 rfl, k.same _ _ (Nat.le_refl _) h.2.2 rfl⟩) (fun s W W' h k m => ⟨m, k.same _ _ (by omega) h.2.1 rfl, k.same _ _ (Nat.le_refl _) h.2.2 rfl⟩) ?_ ⟨hI1, hL1, hK1⟩).mono ?_
    · rintro s x W ⟨hm, hl, hk⟩
      have hy := run_yield (P := P) (args := encs x) hl (by rw [hrc]; exact hps x)
      rw [hrc] at hy
      refine ⟨fn, _, assign, body, hy, roundIn_of_wpIn hfn (wpIn_mono (hround _ s x W hm) ?_)⟩
      rintro e a1 V1 h
      cases e with
      | normal =>
        obtain ⟨k1, hb⟩ := h
        have hl1 := k1.same _ _ (by omega) hl rfl
        have hk1 := k1.same _ _ (Nat.le_refl _) hk rfl
        have hlt : w.heap.size + 1 < V1.heap.size := block_lt hl1
        refine ⟨_, run_beginRound hl1 (by rw [hrc]), wpIn_mono (hb _ (Soft.obj _ hl1 rfl (by omega))) ?_⟩
        have hl2 : (V1.putObj (w.heap.size + 1) (.loop { rc .ready none with state := .busy })).heap[w.heap.size + 1]? = some (.loop { rc .ready none with state := .busy }) := World.putObj_heap_same hlt
        have hk2 : (V1.putObj (w.heap.size + 1) (.loop { rc .ready none with state := .busy })).heap[w.heap.size]? = some (.deferred (some [])) := (World.putObj_heap_other (by omega)).trans hk1
        rintro e2 a2 V3 h3
        cases e2 with
        | normal =>
          obtain ⟨k3, hi3⟩ := h3
          have hl3 := k3.same _ _ (by omega) hl2 rfl
          have hk3 := k3.same _ _ (Nat.le_refl _) hk2 rfl
          have hr := run_endRound (P := P) none hl3
          have hs3 := hI _ _ _ hi3 (Soft.obj (.loop (rc .ready none)) hl3 rfl (by omega))
          rw [hrc] at hr hs3 ⊢
          exact ⟨_, _, hr, rfl, hs3, World.putObj_heap_same (block_lt hl3), (World.putObj_heap_other (by omega)).trans hk3⟩
        | ret => exact h3.elim
        | exit id => exact h3.elim
        | goto t => exact h3.elim
        | panic ch => exact h3.elim
        | outgrown => exact h3.elim
      | ret => exact h.elim
      | exit id => exact h.elim
      | goto t => exact h.elim
      | panic ch => exact h.elim
      | outgrown => exact h.elim
    · rintro e W2 ⟨⟨v, rfl⟩, s, hf, hi, hl, hk⟩
      have hr := run_endLoop (P := P) hl (by rw [hrc]; simp)
      rw [hrc] at hr
      refine ⟨none, _, hr, hdone _ s _ (Nat.le_refl _) hf (hI _ _ _ hi (Soft.obj _ hl rfl (by omega))) ((World.putObj_heap_other (by omega)).trans hk)⟩
end Go.Proofs.Ythgkkjcemjadoaa
