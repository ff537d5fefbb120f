/- What comes, as plain data: one event, and all that are due. -/
import Derived.Test.YtpieeefeicdfgabVfin
namespace Go.Proofs.Ytpieeefeicdfgab
open Go.RowKit
set_option linter.unusedVariables false

/-- Devices that may be. -/
structure DS.Ok (s : DS) : Prop where
  b : 0 ≤ s.b ∧ s.b ≤ 7
  m : 0 ≤ s.m ∧ s.m ≤ 7
  q : s.Q.length ≤ 32
  qb : Byts s.Q
  d : s.D.length ≤ 2048
  d6 : s.D.length % 64 = 0
  db : Byts s.D
  n : 0 ≤ s.n ∧ s.n < 4294967296
  a : 0 ≤ s.a ∧ s.a < 4294967296
  f : 0 ≤ s.f ∧ s.f < 4294967296
  t : 0 ≤ s.t ∧ s.t < 4294967296
  cmd : (s.s = 1 ∧ (s.k = 1 ∨ s.k = 2)) ∨ ((s.s = 0 ∨ s.s = 2) ∧ s.k = 0 ∧ s.f = 0 ∧ s.t = 0)
  ev : ∀ e ∈ s.E, wrongB e = false ∧ 0 ≤ e.2.2 ∧ e.2.2 < 256
theorem Byts.splice {B C : List Int} (h : Byts B) (k : Byts C) (o : Nat) : Byts (splice B o C) := by
  intro b hb
  unfold Go.splice at hb
  simp only [List.mem_append] at hb
  rcases hb with hb | hb | hb
  · exact h b (List.take_subset _ _ hb)
  · exact k b hb
  · exact h b (List.drop_subset _ _ hb)
theorem Byts.append {B C : List Int} (h : Byts B) (k : Byts C) : Byts (B ++ C) := fun b hb => (List.mem_append.1 hb).elim (h b) (k b)

/-- Devices, a memory's row, the frames that were written, behind one event. -/
def evS (s : DS) (e : Ev) (ix : List Nat) (B : List Int) : DS :=
  if e.2.1 = 0 then { s with b := orI s.b 1 } else if e.2.1 = 1 then { queueS s e.2.2 with b := orI s.b 2 } else if s.s = 1 then { finS s ix B with b := orI s.b 4 } else s
def evM (s : DS) (e : Ev) (ix : List Nat) (B : List Int) : List Int := if e.2.1 = 0 ∨ e.2.1 = 1 ∨ s.s ≠ 1 then B else finM s ix B
def evF (s : DS) (e : Ev) (nf : Nat) : List Int := if e.2.1 = 0 ∨ e.2.1 = 1 ∨ s.s ≠ 1 then [] else finF s nf
theorem z32 : (0 : Int) ≤ 0 ∧ (0 : Int) < 4294967296 := by decide
theorem wrong_kind {e : Ev} (h : wrongB e = false) : e.2.1 = 0 ∨ e.2.1 = 1 ∨ e.2.1 = 2 := by
  unfold wrongB at h
  simp only [Bool.or_eq_false_iff, decide_eq_false_iff_not] at h
  omega
theorem finS_ok {s : DS} (h : s.Ok) {ix : List Nat} {B : List Int} (hB : Byts B) (hf : Fits B ix) (hs : s.s = 1) : (finS s ix B).Ok := by
  unfold finS
  have h0 := h.n
  split
  · rename_i hc
    split
    · unfold canB at hc
      simp only [Bool.and_eq_true, decide_eq_true_eq] at hc
      have hf0 := h.f
      have ht0 := h.t
      have hq : (s.t / 64).toNat < ix.length := by omega
      have hl := frameL_len (hf _ (show ix.getD (s.t / 64).toNat 0 ∈ ix by simp [List.getD, hq]))
      have hlen : (splice s.D (64 * s.f.toNat) (frameL B (ix.getD (s.t / 64).toNat 0))).length = s.D.length := length_splice _ _ _ (by rw [hl]; omega)
      exact ⟨h.b, h.m, h.q, h.qb, by show (splice _ _ _).length ≤ _; rw [hlen]; exact h.d, by show (splice _ _ _).length % 64 = 0; rw [hlen]; exact h.d6, h.db.splice (hB.frameL _) _, h.n, h.a, z32, z32, .inr ⟨.inl rfl, rfl, rfl, rfl⟩, h.ev⟩
    · exact ⟨h.b, h.m, h.q, h.qb, h.d, h.d6, h.db, h.n, h.a, z32, z32, .inr ⟨.inl rfl, rfl, rfl, rfl⟩, h.ev⟩
  · exact ⟨h.b, h.m, h.q, h.qb, h.d, h.d6, h.db, h.n, h.a, z32, z32, .inr ⟨.inr rfl, rfl, rfl, rfl⟩, h.ev⟩
theorem finM_len (s : DS) (ix : List Nat) (B : List Int) : (finM s ix B).length = B.length := by
  unfold finM; split
  · exact layL_len _ _ _ _
  · rfl
theorem finM_byts {s : DS} (h : s.Ok) {ix : List Nat} {B : List Int} (hB : Byts B) : Byts (finM s ix B) := by
  unfold finM; split
  · exact Byts.layL _ _ _ _ hB (h.db.frameL _)
  · exact hB
theorem evM_len (s : DS) (e : Ev) (ix : List Nat) (B : List Int) : (evM s e ix B).length = B.length := by
  unfold evM; split
  · rfl
  · exact finM_len _ _ _
theorem evM_byts {s : DS} (h : s.Ok) (e : Ev) {ix : List Nat} {B : List Int} (hB : Byts B) : Byts (evM s e ix B) := by
  unfold evM; split
  · exact hB
  · exact finM_byts h hB
theorem Ok.bits {s : DS} (h : s.Ok) {b : Int} (hb : 0 ≤ b ∧ b ≤ 7) : ({ s with b := b } : DS).Ok := ⟨hb, h.m, h.q, h.qb, h.d, h.d6, h.db, h.n, h.a, h.f, h.t, h.cmd, h.ev⟩
theorem queueS_ok {s : DS} (h : s.Ok) {x : Int} (hx : 0 ≤ x ∧ x < 256) : (queueS s x).Ok := by
  unfold queueS; split
  · exact ⟨h.b, h.m, by simp; omega, h.qb.append (fun b hb => by simp at hb; subst hb; exact hx), h.d, h.d6, h.db, h.n, h.a, h.f, h.t, h.cmd, h.ev⟩
  · exact h
theorem evS_ok {s : DS} (h : s.Ok) (e : Ev) (he : 0 ≤ e.2.2 ∧ e.2.2 < 256) {ix : List Nat} {B : List Int} (hB : Byts B) (hf : Fits B ix) : (evS s e ix B).Ok := by
  unfold evS
  split
  · exact Ok.bits h (or_low h.b (by simp))
  split
  · exact Ok.bits (queueS_ok h he) (or_low h.b (by simp))
  split
  · rename_i hs
    exact Ok.bits (finS_ok h hB hf hs) (or_low h.b (by simp))
  · exact h
theorem finS_E (s : DS) (ix : List Nat) (B : List Int) : (finS s ix B).E = s.E := by unfold finS; split; split; rfl; rfl; rfl
theorem queueS_E (s : DS) (x : Int) : (queueS s x).E = s.E := by unfold queueS; split <;> rfl
theorem evS_E (s : DS) (e : Ev) (ix : List Nat) (B : List Int) : (evS s e ix B).E = s.E := by
  unfold evS; split; rfl; split; exact queueS_E _ _; split; exact finS_E _ _ _; rfl
theorem finS_O (s : DS) (ix : List Nat) (B : List Int) : (finS s ix B).O = s.O := by unfold finS; split; split; rfl; rfl; rfl
theorem queueS_O (s : DS) (x : Int) : (queueS s x).O = s.O := by unfold queueS; split <;> rfl
theorem evS_O (s : DS) (e : Ev) (ix : List Nat) (B : List Int) : (evS s e ix B).O = s.O := by
  unfold evS; split; rfl; split; exact queueS_O _ _; split; exact finS_O _ _ _; rfl
/-- What is between two events: devices, a memory's row, what has come, the frames that were written. -/
structure CS where
  s : DS
  B : List Int
  c : List Ev
  f : List Int
/-- One event more, if it is due. -/
def nxt (step : Int) (ix : List Nat) (x : CS) : CS := match x.s.E with
  | [] => x
  | e :: r => ⟨evS { x.s with E := r } e ix x.B, evM { x.s with E := r } e ix x.B, x.c ++ [(step, e.2.1, e.2.2)], x.f ++ evF { x.s with E := r } e ix.length⟩
/-- Is the next event due? -/
def dueB (step : Int) (s : DS) : Bool := match s.E with
  | [] => false
  | e :: _ => decide (e.1 ≤ step)
/-- All that are due, of at most so many. -/
def comeN (step : Int) (ix : List Nat) : Nat → CS → CS
  | 0, x => x
  | n + 1, x => if dueB step x.s = true then comeN step ix n (nxt step ix x) else x
def comeC (step : Int) (ix : List Nat) (x : CS) : CS := comeN step ix x.s.E.length x
theorem nxt_E {step : Int} {ix : List Nat} {x : CS} (h : dueB step x.s = true) : (nxt step ix x).s.E.length + 1 = x.s.E.length := by
  unfold dueB at h
  unfold nxt
  split at h
  · cases h
  · rename_i e r he
    rw [he]
    simp [evS_E]
theorem comeN_more {step : Int} {ix : List Nat} : ∀ (n : Nat) (x : CS), x.s.E.length ≤ n → comeN step ix n x = comeC step ix x
  | 0, x, h => by unfold comeC; rw [show x.s.E.length = 0 by omega]
  | n + 1, x, h => by
    cases hd : dueB step x.s with
    | false =>
      unfold comeC
      cases hl : x.s.E.length with
      | zero => simp [comeN, hd]
      | succ k => simp [comeN, hd]
    | true =>
      have hl := nxt_E (ix := ix) hd
      have e1 : comeN step ix (n + 1) x = comeN step ix n (nxt step ix x) := by simp [comeN, hd]
      have e2 : comeC step ix x = comeN step ix (nxt step ix x).s.E.length (nxt step ix x) := by unfold comeC; rw [← hl]; simp [comeN, hd]
      rw [e1, e2, comeN_more n _ (by omega)]; rfl
theorem comeC_due {step : Int} {ix : List Nat} {x : CS} (h : dueB step x.s = true) : comeC step ix x = comeC step ix (nxt step ix x) := by
  have hl := nxt_E (ix := ix) h
  conv => lhs; unfold comeC
  rw [← hl]
  simp [comeN, h]
  rfl
theorem comeC_done {step : Int} {ix : List Nat} {x : CS} (h : dueB step x.s = false) : comeC step ix x = x := by
  unfold comeC
  cases x.s.E.length <;> simp [comeN, h]
/-- What goes on is as it may be. -/
structure CS.Ok (ix : List Nat) (x : CS) : Prop where
  s : x.s.Ok
  B : Byts x.B
  fits : Fits x.B ix
theorem nxt_ok {step : Int} {ix : List Nat} {x : CS} (h : x.Ok ix) : (nxt step ix x).Ok ix := by
  unfold nxt
  split
  · exact h
  · rename_i e r he
    have hs : ({ x.s with E := r } : DS).Ok := ⟨h.s.b, h.s.m, h.s.q, h.s.qb, h.s.d, h.s.d6, h.s.db, h.s.n, h.s.a, h.s.f, h.s.t, h.s.cmd, fun y hy => h.s.ev y (by rw [he]; simp [hy])⟩
    exact ⟨evS_ok hs e (h.s.ev e (by rw [he]; simp)).2 h.B h.fits, evM_byts hs e h.B, h.fits.len (evM_len _ _ _ _)⟩
end Go.Proofs.Ytpieeefeicdfgab
