/- Part of a proof. -/
import Derived.RangeFuncBox
import Derived.RangeFuncNested
import Derived.RangeFuncLeaves
import Derived.RangeFuncCalls
import Derived.TacticsInMore
import Derived.LoopNIn
import Derived.LoopIn
import Derived.Shelf.Abstract
import Derived.Sort.BigQuietIn
import Derived.Stop.RegionWithIn
import Derived.OwnWalkIn
import Derived.Test.YtnignfloedcmlaaGreatDoorJ07
namespace Go.Proofs.YtnignfloedcmlaaGreatDoor
open Go.RowKit
set_option linter.unusedVariables false
set_option linter.unusedSimpArgs false
structure DS.Ok (s : DS) : Prop where
  b : 0 ≤ s.b ∧ s.b ≤ 7
  m : 0 ≤ s.m ∧ s.m ≤ 7
  q : s.Q.length ≤ 32
  qb : Byts s.Q
  d : s.D.length ≤ 2048
  d6 : s.D.length % 64 = 0
  db : Byts s.D
  n : 0 ≤ s.n ∧ s.n < 4294967296
  a : 0 ≤ s.a ∧ s.a < 4294967296
  f : 0 ≤ s.f ∧ s.f < 4294967296
  t : 0 ≤ s.t ∧ s.t < 4294967296
  cmd : (s.s = 1 ∧ (s.k = 1 ∨ s.k = 2)) ∨ ((s.s = 0 ∨ s.s = 2) ∧ s.k = 0 ∧ s.f = 0 ∧ s.t = 0)
  ev : ∀ e ∈ s.E, wrongB e = false ∧ 0 ≤ e.2.2 ∧ e.2.2 < 256
theorem Byts.splice {B C : List Int} (h : Byts B) (k : Byts C) (o : Nat) : Byts (splice B o C) := by
  intro b hb
  unfold Go.splice at hb
  simp only [List.mem_append] at hb
  rcases hb with hb | hb | hb
  · exact h b (List.take_subset _ _ hb)
  · exact k b hb
  · exact h b (List.drop_subset _ _ hb)
theorem Byts.append {B C : List Int} (h : Byts B) (k : Byts C) : Byts (B ++ C) := fun b hb => (List.mem_append.1 hb).elim (h b) (k b)
def evS (s : DS) (e : Ev) (ix : List Nat) (B : List Int) : DS :=
  if e.2.1 = 0 then { s with b := orI s.b 1 } else if e.2.1 = 1 then { queueS s e.2.2 with b := orI s.b 2 } else if s.s = 1 then { finS s ix B with b := orI s.b 4 } else s
def evM (s : DS) (e : Ev) (ix : List Nat) (B : List Int) : List Int := if e.2.1 = 0 ∨ e.2.1 = 1 ∨ s.s ≠ 1 then B else finM s ix B
def evF (s : DS) (e : Ev) (nf : Nat) : List Int := if e.2.1 = 0 ∨ e.2.1 = 1 ∨ s.s ≠ 1 then [] else finF s nf
theorem z32 : (0 : Int) ≤ 0 ∧ (0 : Int) < 4294967296 := by decide
theorem wrong_kind {e : Ev} (h : wrongB e = false) : e.2.1 = 0 ∨ e.2.1 = 1 ∨ e.2.1 = 2 := by
  unfold wrongB at h
  simp only [Bool.or_eq_false_iff, decide_eq_false_iff_not] at h
  omega
theorem finS_ok {s : DS} (h : s.Ok) {ix : List Nat} {B : List Int} (hB : Byts B) (hf : Fits B ix) (hs : s.s = 1) : (finS s ix B).Ok := by
  unfold finS
  have h0 := h.n
  split
  · rename_i hc
    split
    · unfold canB at hc
      simp only [Bool.and_eq_true, decide_eq_true_eq] at hc
      have hf0 := h.f
      have ht0 := h.t
      have hq : (s.t / 64).toNat < ix.length := by omega
      have hl := frameL_len (hf _ (show ix.getD (s.t / 64).toNat 0 ∈ ix by simp [List.getD, hq]))
      have hlen : (splice s.D (64 * s.f.toNat) (frameL B (ix.getD (s.t / 64).toNat 0))).length = s.D.length := length_splice _ _ _ (by rw [hl]; omega)
      exact ⟨h.b, h.m, h.q, h.qb, by show (splice _ _ _).length ≤ _; rw [hlen]; exact h.d, by show (splice _ _ _).length % 64 = 0; rw [hlen]; exact h.d6, h.db.splice (hB.frameL _) _, h.n, h.a, z32, z32, .inr ⟨.inl rfl, rfl, rfl, rfl⟩, h.ev⟩
    · exact ⟨h.b, h.m, h.q, h.qb, h.d, h.d6, h.db, h.n, h.a, z32, z32, .inr ⟨.inl rfl, rfl, rfl, rfl⟩, h.ev⟩
  · exact ⟨h.b, h.m, h.q, h.qb, h.d, h.d6, h.db, h.n, h.a, z32, z32, .inr ⟨.inr rfl, rfl, rfl, rfl⟩, h.ev⟩
theorem finM_len (s : DS) (ix : List Nat) (B : List Int) : (finM s ix B).length = B.length := by
  unfold finM; split
  · exact layL_len _ _ _ _
  · rfl
theorem finM_byts {s : DS} (h : s.Ok) {ix : List Nat} {B : List Int} (hB : Byts B) : Byts (finM s ix B) := by
  unfold finM; split
  · exact Byts.layL _ _ _ _ hB (h.db.frameL _)
  · exact hB
theorem evM_len (s : DS) (e : Ev) (ix : List Nat) (B : List Int) : (evM s e ix B).length = B.length := by
  unfold evM; split
  · rfl
  · exact finM_len _ _ _
theorem evM_byts {s : DS} (h : s.Ok) (e : Ev) {ix : List Nat} {B : List Int} (hB : Byts B) : Byts (evM s e ix B) := by
  unfold evM; split
  · exact hB
  · exact finM_byts h hB
theorem Ok.bits {s : DS} (h : s.Ok) {b : Int} (hb : 0 ≤ b ∧ b ≤ 7) : ({ s with b := b } : DS).Ok := ⟨hb, h.m, h.q, h.qb, h.d, h.d6, h.db, h.n, h.a, h.f, h.t, h.cmd, h.ev⟩
theorem queueS_ok {s : DS} (h : s.Ok) {x : Int} (hx : 0 ≤ x ∧ x < 256) : (queueS s x).Ok := by
  unfold queueS; split
  · exact ⟨h.b, h.m, by simp; omega, h.qb.append (fun b hb => by simp at hb; subst hb; exact hx), h.d, h.d6, h.db, h.n, h.a, h.f, h.t, h.cmd, h.ev⟩
  · exact h
theorem evS_ok {s : DS} (h : s.Ok) (e : Ev) (he : 0 ≤ e.2.2 ∧ e.2.2 < 256) {ix : List Nat} {B : List Int} (hB : Byts B) (hf : Fits B ix) : (evS s e ix B).Ok := by
  unfold evS
  split
  · exact Ok.bits h (or_low h.b (by simp))
  split
  · exact Ok.bits (queueS_ok h he) (or_low h.b (by simp))
  split
  · rename_i hs
    exact Ok.bits (finS_ok h hB hf hs) (or_low h.b (by simp))
  · exact h
theorem finS_E (s : DS) (ix : List Nat) (B : List Int) : (finS s ix B).E = s.E := by unfold finS; split; split; rfl; rfl; rfl
theorem queueS_E (s : DS) (x : Int) : (queueS s x).E = s.E := by unfold queueS; split <;> rfl
theorem evS_E (s : DS) (e : Ev) (ix : List Nat) (B : List Int) : (evS s e ix B).E = s.E := by
  unfold evS; split; rfl; split; exact queueS_E _ _; split; exact finS_E _ _ _; rfl
theorem finS_O (s : DS) (ix : List Nat) (B : List Int) : (finS s ix B).O = s.O := by unfold finS; split; split; rfl; rfl; rfl
theorem queueS_O (s : DS) (x : Int) : (queueS s x).O = s.O := by unfold queueS; split <;> rfl
theorem evS_O (s : DS) (e : Ev) (ix : List Nat) (B : List Int) : (evS s e ix B).O = s.O := by
  unfold evS; split; rfl; split; exact queueS_O _ _; split; exact finS_O _ _ _; rfl
structure CS where
  s : DS
  B : List Int
  c : List Ev
  f : List Int
def nxt (step : Int) (ix : List Nat) (x : CS) : CS := match x.s.E with
  | [] => x
  | e :: r => ⟨evS { x.s with E := r } e ix x.B, evM { x.s with E := r } e ix x.B, x.c ++ [(step, e.2.1, e.2.2)], x.f ++ evF { x.s with E := r } e ix.length⟩
def dueB (step : Int) (s : DS) : Bool := match s.E with
  | [] => false
  | e :: _ => decide (e.1 ≤ step)
def comeN (step : Int) (ix : List Nat) : Nat → CS → CS
  | 0, x => x
  | n + 1, x => if dueB step x.s = true then comeN step ix n (nxt step ix x) else x
def comeC (step : Int) (ix : List Nat) (x : CS) : CS := comeN step ix x.s.E.length x
theorem nxt_E {step : Int} {ix : List Nat} {x : CS} (h : dueB step x.s = true) : (nxt step ix x).s.E.length + 1 = x.s.E.length := by
  unfold dueB at h
  unfold nxt
  split at h
  · cases h
  · rename_i e r he
    rw [he]
    simp [evS_E]
theorem comeC_due {step : Int} {ix : List Nat} {x : CS} (h : dueB step x.s = true) : comeC step ix x = comeC step ix (nxt step ix x) := by
  have hl := nxt_E (ix := ix) h
  conv => lhs; unfold comeC
  rw [← hl]
  simp [comeN, h]
  rfl
theorem comeC_done {step : Int} {ix : List Nat} {x : CS} (h : dueB step x.s = false) : comeC step ix x = x := by
  unfold comeC
  cases x.s.E.length <;> simp [comeN, h]
structure CS.Ok (ix : List Nat) (x : CS) : Prop where
  s : x.s.Ok
  B : Byts x.B
  fits : Fits x.B ix
theorem nxt_ok {step : Int} {ix : List Nat} {x : CS} (h : x.Ok ix) : (nxt step ix x).Ok ix := by
  unfold nxt
  split
  · exact h
  · rename_i e r he
    have hs : ({ x.s with E := r } : DS).Ok := ⟨h.s.b, h.s.m, h.s.q, h.s.qb, h.s.d, h.s.d6, h.s.db, h.s.n, h.s.a, h.s.f, h.s.t, h.s.cmd, fun y hy => h.s.ev y (by rw [he]; simp [hy])⟩
    exact ⟨evS_ok hs e (h.s.ev e (by rw [he]; simp)).2 h.B h.fits, evM_byts hs e h.B, h.fits.len (evM_len _ _ _ _)⟩
def Soft (B : Nat) (W W' : World) : Prop := ∃ l, Put l W W' ∧ ∀ g ∈ l, B ≤ g ∧ ∃ o : Obj, W.heap[g]? = some o ∧ o.isCells = false
theorem Soft.of_kep {B : Nat} {W W' : World} (h : Kep W W') : Soft B W W' := ⟨[], Put.of_kep h, by simp⟩
theorem put_obj (W : World) (l : Nat) (o : Obj) : Put [l] W (W.putObj l o) :=
  ⟨rfl, rfl, rfl, by simp, fun k _ hk => World.putObj_heap_other (by simpa using hk)⟩
theorem Soft.obj {B : Nat} {W : World} {l : Nat} {o : Obj} (o' : Obj) (hl : W.heap[l]? = some o) (ho : o.isCells = false) (hB : B ≤ l) : Soft B W (W.putObj l o') :=
  ⟨[l], put_obj W l o', fun g hg => by obtain rfl : g = l := by simpa using hg
                                       exact ⟨hB, o, hl, ho⟩⟩
theorem KeepsFrom.of_put {B : Nat} {W W' : World} {l : List Nat} (h : Put l W W') (hl : ∀ g ∈ l, B ≤ g → ∃ cs t fr, W.heap[g]? = some (.cells cs t fr)) : KeepsFrom B W W' :=
  ⟨h.size, fun k o hB hk ho => by
    refine h.keeps hk fun hm => ?_
    obtain ⟨cs, t, fr, hc⟩ := hl k hm hB
    rw [hk] at hc; cases hc; cases ho⟩
def endPost (R : World → Prop) : Exit → Act → World → Prop
  | .normal, _, W => R W
  | .ret, _, _ => False
  | .exit _, _, _ => False
  | .goto _, _, _ => False
  | .panic _, _, _ => False
  | .outgrown, _, _ => False
theorem range_all {F : Fence} {n : Nat} {P : Program} {S X : Type} {g : Operand} {ps : Array Tmp} {assign body : Code} {Q : Exit → Act → World → Prop} {a : Act} {w : World}
    (hro : F.round = none) (h1 : 1 ≤ n) {gf : Nat} {lb : Array Value} (hg : a.eval g = .func (.func gf) #[] lb) (hFg : F.fn gf) (eg : ∀ args w, (callFunc gf args).run P w = .ok (.enter gf args) w)
    (encs : X → Array Value) (hps : ∀ x, (encs x).size = ps.size) (I : S → World → Prop) (M : S → X → World → Prop) (nx : S → X → S) (fin : S → Prop)
    (hI : ∀ s W W', I s W → Soft w.heap.size W W' → I s W') (s0 : S) (h0 : I s0 w)
    (hseq : ∀ (l : Nat) (J : S → World → Prop) (Jm : S → X → World → Prop) (W : World), (∀ s W, J s W → I s W) → (∀ s x W W', J s W → KeepsFrom w.heap.size W W' → M s x W' → Jm s x W') → (∀ s W W', J s W → KeepsFrom w.heap.size W W' → I s W' → J s W') →
      (∀ s x W, Jm s x W → YieldAt F (n - 1 - 1) P l (encs x) W fun e W' => e = .returned (.bool true) ∧ J (nx s x) W') → J s0 W →
      CallsIn F (n - 1) P gf (#[.func (.yield l) #[] #[]] ++ lb) W fun e W' => (∃ v, e = .returned v) ∧ ∃ s, fin s ∧ J s W')
    (hround : ∀ (l : Nat) (s : S) (x : X) (W : World), M s x W → assign.wpIn (F.inRound l) (n - 1 - 1) P (Exit.then (fun a₁ W₁ => KeepsFrom w.heap.size W W₁ ∧ ∀ W₂, Soft w.heap.size W₁ W₂ → body.wpIn (F.inRound l) (n - 1 - 1) P (endPost fun W₃ => KeepsFrom w.heap.size W₂ W₃ ∧ I (nx s x) W₃) a₁ W₂) (fun _ _ _ => False))
      { tmps := (ps.zip (encs x)).foldl (fun t (p, v) => t.setIfInBounds p v) a.tmps, defers := [] } W)
    (hdone : ∀ (D : Nat) (s : S) (W : World), w.heap.size ≤ D → fin s → I s W → W.heap[D]? = some (.deferred (some [])) → Q .normal { a with defers := { target := .collected D, args := #[] } :: a.defers } W) :
    (Code.rangeFunc g ps assign body).wpIn F n P Q a w := by
  refine wpIn_rangeFunc ?_
  intro fn hfn
  rw [hro]
  obtain ⟨rc, hrc⟩ : ∃ rc : LoopState → Option Code → Loop, rc = fun st pe => { state := st, pending := pe, fn, tmps := a.tmps, params := ps, assign, body, defers := w.heap.size } := ⟨_, rfl⟩
  obtain ⟨W1, hW1⟩ : ∃ W1, W1 = (w.alloc (.deferred (some []))).alloc (.loop (rc .ready none)) := ⟨_, rfl⟩
  have hL1 : W1.heap[w.heap.size + 1]? = some (.loop (rc .ready none)) := by rw [hW1]; exact hat _ _ _ (by simp)
  have hK1 : W1.heap[w.heap.size]? = some (.deferred (some [])) := by rw [hW1]; exact (hsk _ _ _ (by simp)).trans (hat _ _ _ rfl)
  have hI1 : I s0 W1 := hI _ _ _ h0 (Soft.of_kep (by rw [hW1]; exact ((Kep.refl _).alloc _).alloc _))
  refine ⟨w.heap.size + 1, [{ target := .collected w.heap.size, args := #[] }], W1, { target := .fn (.func gf) lb, args := #[.func (.yield (w.heap.size + 1)) #[] #[]] }, W1, gf, #[.func (.yield (w.heap.size + 1)) #[] #[]] ++ lb, W1, ?_, ?_, ?_, ?_, fun _ => h1, ?_⟩
  · rw [hW1, hrc]; exact run_enterLoop_outer _ _ _ _ _
  · simp only [resolve, hg]
    simp [go_sem]
  · intro f' hf'; simp [Target.leads] at hf'; subst hf'; exact hFg
  · simp [invoke, go_sem, eg]
  · refine (hseq (w.heap.size + 1)
      (fun s W => I s W ∧ W.heap[w.heap.size + 1]? = some (.loop (rc .ready none)) ∧ W.heap[w.heap.size]? = some (.deferred (some [])))
      (fun s x W => M s x W ∧ W.heap[w.heap.size + 1]? = some (.loop (rc .ready none)) ∧ W.heap[w.heap.size]? = some (.deferred (some [])))
      W1 (fun s W h => h.1) (fun s x W W' h k m => ⟨m, k.same _ _ (by omega) h.2.1 rfl, k.same _ _ (Nat.le_refl _) h.2.2 rfl⟩) (fun s W W' h k m => ⟨m, k.same _ _ (by omega) h.2.1 rfl, k.same _ _ (Nat.le_refl _) h.2.2 rfl⟩) ?_ ⟨hI1, hL1, hK1⟩).mono ?_
    · rintro s x W ⟨hm, hl, hk⟩
      have hy := run_yield (P := P) (args := encs x) hl (by rw [hrc]; exact hps x)
      rw [hrc] at hy
      refine ⟨fn, _, assign, body, hy, roundIn_of_wpIn hfn (wpIn_mono (hround _ s x W hm) ?_)⟩
      rintro e a1 V1 h
      cases e with
      | normal =>
        obtain ⟨k1, hb⟩ := h
        have hl1 := k1.same _ _ (by omega) hl rfl
        have hk1 := k1.same _ _ (Nat.le_refl _) hk rfl
        have hlt : w.heap.size + 1 < V1.heap.size := block_lt hl1
        refine ⟨_, run_beginRound hl1 (by rw [hrc]), wpIn_mono (hb _ (Soft.obj _ hl1 rfl (by omega))) ?_⟩
        have hl2 : (V1.putObj (w.heap.size + 1) (.loop { rc .ready none with state := .busy })).heap[w.heap.size + 1]? = some (.loop { rc .ready none with state := .busy }) := World.putObj_heap_same hlt
        have hk2 : (V1.putObj (w.heap.size + 1) (.loop { rc .ready none with state := .busy })).heap[w.heap.size]? = some (.deferred (some [])) := (World.putObj_heap_other (by omega)).trans hk1
        rintro e2 a2 V3 h3
        cases e2 with
        | normal =>
          obtain ⟨k3, hi3⟩ := h3
          have hl3 := k3.same _ _ (by omega) hl2 rfl
          have hk3 := k3.same _ _ (Nat.le_refl _) hk2 rfl
          have hr := run_endRound (P := P) none hl3
          have hs3 := hI _ _ _ hi3 (Soft.obj (.loop (rc .ready none)) hl3 rfl (by omega))
          rw [hrc] at hr hs3 ⊢
          exact ⟨_, _, hr, rfl, hs3, World.putObj_heap_same (block_lt hl3), (World.putObj_heap_other (by omega)).trans hk3⟩
        | ret => exact h3.elim
        | exit id => exact h3.elim
        | goto t => exact h3.elim
        | panic ch => exact h3.elim
        | outgrown => exact h3.elim
      | ret => exact h.elim
      | exit id => exact h.elim
      | goto t => exact h.elim
      | panic ch => exact h.elim
      | outgrown => exact h.elim
    · rintro e W2 ⟨⟨v, rfl⟩, s, hf, hi, hl, hk⟩
      have hr := run_endLoop (P := P) hl (by rw [hrc]; simp)
      rw [hrc] at hr
      refine ⟨none, _, hr, hdone _ s _ (Nat.le_refl _) hf (hI _ _ _ hi (Soft.obj _ hl rfl (by omega))) ((World.putObj_heap_other (by omega)).trans hk)⟩
end Go.Proofs.YtnignfloedcmlaaGreatDoor
namespace Go.Proofs.YtnignfloedcmlaaGreatDoor
open Go.RowKit Go.Shelf
set_option linter.unusedVariables false
attribute [local go_sem] Oper.semAt_some
theorem chunk_any (w : World) (x : Option Addr) (n cap : Nat) :
    Calls Tryz.prog 50 #[.slice x n cap, .int .i64 64] w fun e w' => e = .returned (.func (.func 58) #[] #[.pointer (some ⟨w.heap.size, 0, none⟩), .pointer (some ⟨w.heap.size + 1, 0, none⟩)]) ∧ w' = (w.alloc (.cells #[.slice x n cap] 22)).alloc (.cells #[.int .i64 64] 3) := by
  have hmf : ∀ (fn : Fn) (first cap : Array Value) (w : World), (Instr.makeFunc fn first cap).run Tryz.prog w = .ok (.func fn first cap) w := fun _ _ _ _ => rfl
  go_enter Tryz.func50, Tryz.ntmps50
  go_wp2
  go_ret
  exact ⟨rfl, rfl⟩
theorem cut3_bytes (b off n cap k : Nat) (h : 64 * k + 64 ≤ cap) (w : World) : (Instr.slice 22 (.slice (some ⟨b, off, none⟩) n cap) (some (.int .i64 (64 * (k : Int)))) (some (.int .i64 (64 * (k : Int) + 64))) (some (.int .i64 (64 * (k : Int) + 64)))).run Tryz.prog w = .ok (.slice (some ⟨b, off + 64 * k, none⟩) 64 64) w := by
  have hs : (sizeOf (Tryz.prog.elem 22)).run Tryz.prog w = .ok 1 w := by kernel_rfl
  rw [run_slice_lhm (P := Tryz.prog) w 22 _ n cap (by kernel_rfl) .i64 .i64 .i64 _ _ _ (by omega) (by omega) (by omega) (by omega), hs]
  have e1 : (64 * (k : Int)).toNat = 64 * k := by omega
  have e2 : (64 * (k : Int) + 64).toNat = 64 * k + 64 := by omega
  simp [sliced, Result.andThen, e1, e2, Addr.add_lit]
set_option maxRecDepth 100000 in
set_option maxHeartbeats 4000000 in
theorem chunk1_in (d l nb n cap b off Bs Bn B0 : Nat) (hd : 1 ≤ d) (hn : n = 64 * nb) (hnb : (nb : Int) ≤ 32) (hcap : (n : Int) ≤ cap) (hmax : (cap : Int) ≤ 9223372036854775807) (x : Option Addr) (hx : 0 < nb → x = some ⟨b, off, none⟩)
    (I : Nat → World → Prop) (hI1 : ∀ k W, I k W → W.cell? ⟨Bs, 0, none⟩ = some (.slice x n cap) ∧ W.cell? ⟨Bn, 0, none⟩ = some (.int .i64 64)) (hI2 : ∀ k W m, I k W → I k (W.drewN m))
    (J : Nat → World → Prop) (Jm : Nat → Nat → World → Prop) (W : World) (hJ : ∀ k W, J k W → I k W) (hJm : ∀ s x W W', J s W → KeepsFrom B0 W W' → (x = s ∧ s < nb ∧ I s W') → Jm s x W') (hJJ : ∀ s W W', J s W → KeepsFrom B0 W W' → I s W' → J s W')
    (hY : ∀ s x W, Jm s x W → YieldAt Fence.wide (d - 1) Tryz.prog l #[.slice (some ⟨b, off + 64 * x, none⟩) 64 64] W fun e W' => e = .returned (.bool true) ∧ J (s + 1) W') (h0 : J 0 W) :
    CallsIn Fence.wide d Tryz.prog 58 (#[.func (.yield l) #[] #[]] ++ #[.pointer (some ⟨Bs, 0, none⟩), .pointer (some ⟨Bn, 0, none⟩)]) W fun e W' => (∃ v, e = .returned v) ∧ ∃ s, s = nb ∧ J s W' := by
  have hJ' : Hid _ := hJ
  have hJm' : Hid _ := hJm
  have hJJ' : Hid _ := hJJ
  have hY' : Hid _ := hY
  have hI1' : Hid _ := hI1
  have hI2' : Hid _ := hI2
  have h0' : Hid (J 0 W) := h0
  have hn' : Hid (n = 64 * nb) := hn
  have hnn : (n : Int) = 64 * (nb : Int) := by omega
  have hx' : Hid (0 < nb → x = some ⟨b, off, none⟩) := hx
  clear hJ hJm hJJ hY hI1 hI2 h0 hx hn
  refine callsIn_of_wp Tryz.func58 rfl trivial ?_ rfl
  simp only [Tryz.ntmps58, List.size_toArray, List.length_cons, List.length_nil, Nat.reduceAdd, Nat.reduceSub, Array.replicate_succ, Array.replicate_zero, List.push_toArray, List.append_toArray, List.nil_append, List.cons_append]
  gi_wp2_with fail
  gi_loopw [4, 5] (fun i _ wr => ∃ k : Nat, (k : Int) ≤ nb ∧ i = .int .i64 (64 * (k : Int)) ∧ Hid (J k wr)) (fun i _ _ => n - (intOf i).toNat)
  case atStart => exact ⟨0, by omega, rfl, h0'⟩
  case round =>
    obtain ⟨k, hk, rfl, hJk⟩ := hrel
    obtain ⟨c0, c1⟩ := hI1'.out k wr (hJ'.out k wr hJk.out)
    by_cases hlt : k < nb
    · have hlt' : (k : Int) < nb := by omega
      have hq : 64 * (k : Int) < n := by omega
      have hxx := hx'.out (by omega)
      subst hxx
      have e1 : ((64 * k : Nat) : Int) = 64 * (k : Int) := by omega
      obtain ⟨X, s1⟩ : ∃ X, ∀ w, (Instr.slice 22 (.slice (some ⟨b, off, none⟩) n cap) (some (.int .i64 (64 * (k : Int)))) none none).run Tryz.prog w = .ok (.slice X (n - 64 * k) (cap - 64 * k)) w := by
        have := cut_bytes (some ⟨b, off, none⟩) n cap (64 * k) (by have := hn'.out; omega) (by omega)
        rw [e1] at this
        exact ⟨_, this⟩
      have s2 := cut3_bytes b off n cap k (by have := hn'.out; omega)
      obtain ⟨m, hm⟩ : ∃ m : Nat, Hid (m = n - 64 * k) := ⟨_, rfl⟩
      rw [← hm.out] at s1
      have hm1 : (64 : Int) ≤ m := by have := hm.out; have := hn'.out; omega
      have hm2 : ((m : Int) < 64) = False := by rw [eq_iff_iff]; simp; omega
      gi_wp2_with fail
      gi_big_quiet_th (fail)
      have hJd : Hid (J k (wr.drewN nq)) := hJJ'.out k wr _ hJk.out (KeepsFrom.of_put ((Put.refl (l := []) wr).drewN nq) (by simp)) (hI2'.out k wr nq (hJ'.out k wr hJk.out))
      obtain ⟨fn, tmps, assign, body, hy, hR⟩ := hY'.out k k (wr.drewN nq) (hJm'.out k k (wr.drewN nq) _ hJd.out (KeepsFrom.refl _ _) ⟨rfl, hlt, hJ'.out _ _ hJd.out⟩)
      gi_wp2_with fail
      refine hR.mono ?_
      rintro e W3 ⟨rfl, hJ3⟩
      have hJ3' : Hid (J (k + 1) W3) := hJ3
      obtain ⟨d0, d1⟩ := hI1'.out _ W3 (hJ'.out _ W3 hJ3)
      clear hJ3 c0 c1 hR hy
      gi_wp2_with fail
      go_roundw
      case rel => exact ⟨k + 1, by omega, by go_num, hJ3'⟩
      case measure => simp [intOf]; omega
    · gi_wp2_with fail
      go_end0
      obtain rfl : k = nb := by omega
      exact ⟨⟨_, rfl⟩, k, rfl, hJk.out⟩
end Go.Proofs.YtnignfloedcmlaaGreatDoor
namespace Go.Proofs.YtnignfloedcmlaaGreatDoor
open Go.RowKit
set_option linter.unusedVariables false
set_option linter.unusedSimpArgs false
theorem stepIn_buildSlice {F : Fence} {n : Nat} {P : Program} {ops : Array Oper} {o : Oper} {a : Act} {w : World} {K : Act → World → Prop} {Q : Exit → Act → World → Prop} {E : Prop} (hgd : o.guard = none) (t : TypeId) (x : Operand) (ho : o.op = .buildSlice t 1 #[(0, x)])
    (xv v : Value) (w' : World) (hx : a.eval x = xv) (hr : (Instr.buildSlice t 1 #[(0, xv)]).run P w = .ok v w') (h : K (a.put o.dst v) w') : if Region.wanted o (yielded ops a.tmps) = true then Oper.wpIn F n P o a w K Q else E := by
  rw [if_pos (by simp [Region.wanted, hgd])]
  unfold Oper.wpIn
  refine ⟨?_, ?_⟩
  · simp [Oper.about, ho]
  · rw [Oper.semAt_plain F _ _ (by rw [ho]; intro c hc'; cases hc')]
    simp only [execOp, ho, List.map_toArray, List.map_cons, List.map_nil, hx, Sem.run_bind, hr, Result.andThen_ok]
    exact h
theorem stepIn_append {F : Fence} {n : Nat} {P : Program} {ops : Array Oper} {o : Oper} {a : Act} {w : World} {K : Act → World → Prop} {Q : Exit → Act → World → Prop} {E : Prop} (hgd : o.guard = none) (s x : Operand) (t : TypeId) (ho : o.op = .call { callee := .builtin .append, args := #[s, x], argTypes := #[t, t] })
    (sv xv v : Value) (w' : World) (hs : a.eval s = sv) (hx : a.eval x = xv) (hr : (Builtin.append_ #[t, t] o.type #[sv, xv]).run P w = .ok v w') (h : K (a.put o.dst v) w') : if Region.wanted o (yielded ops a.tmps) = true then Oper.wpIn F n P o a w K Q else E := by
  rw [if_pos (by simp [Region.wanted, hgd])]
  unfold Oper.wpIn
  refine ⟨?_, ?_⟩
  · simp [Oper.about, ho, resolve, Target.leads, Sem.run_pure]
  · rw [Oper.semAt_plain F _ _ (by rw [ho]; intro c hc'; cases hc')]
    simp [execOp, ho, resolve, invoke, builtin, hs, hx, hr, Result.andThen]
    exact h
end Go.Proofs.YtnignfloedcmlaaGreatDoor
