/- A TLB beside the document's row of calls: they remember the same. -/
import Derived.Test.YtekcknkfpecppaaUref
namespace Go.Proofs.Ytekcknkfpecppaa
open Go.RowKit
set_option linter.unusedVariables false

theorem Put.next {l m : List Nat} {a b c : World} (h : Put l a b) (k : Put m b c) (hm : ∀ x ∈ m, x < a.heap.size → x ∈ l) : Put l a c :=
  ⟨k.os.trans h.os, k.tape.trans h.tape, k.output.trans h.output, Nat.le_trans h.size k.size, fun i hi h1 => (k.block i (Nat.lt_of_lt_of_le hi h.size) fun h2 => h1 (hm i h2 hi)).trans (h.block i hi h1)⟩
theorem own_row2 {w : World} {base : Nat} {x : Option Addr} {len cap : Nat} {D : List St} (h : w.ownsRow base 31 4 (.slice x len cap) D.length (D.flatMap stC)) (hp : ∀ e ∈ D, (e.p : Int) < 4294967296) : StRow w x len cap D ∧ len = D.length := by
  obtain ⟨x', c', e, r⟩ := own_row h hp
  simp only [Value.slice.injEq] at e
  obtain ⟨rfl, rfl, rfl⟩ := e
  exact ⟨r, rfl⟩
/-- The TLB at p remembers (S) what the document's row of calls v (D) says. -/
structure Mid (w1 wr : World) (p R n : Nat) (v : Value) (S : List Sl) (D : List St) (h m : Int) : Prop where
  put : Put [p, R] w1 wr
  ok : PagesOk S
  tlb : Tlb wr p R S h m
  len : S.length = n
  look : ∀ page, lookS S page = refL n D page
  hp : ∀ e ∈ D, (e.p : Int) < 4294967296
  own : wr.ownsRow w1.heap.size 31 4 v D.length (D.flatMap stC)
  lp : p < w1.heap.size
  lR : R < w1.heap.size
theorem Mid.kep {w1 wr w' : World} {p R n : Nat} {v : Value} {S : List Sl} {D : List St} {h m : Int} (M : Mid w1 wr p R n v S D h m) (k : Kep wr w') : Mid w1 w' p R n v S D h m :=
  ⟨M.put.trans (Put.of_kep k), M.ok, M.tlb.kep k, M.len, M.look, M.hp, own_put M.own (Put.of_kep (l := []) k) (by simp), M.lp, M.lR⟩
/-- A call that turns the slots alone. -/
theorem Mid.turn {w1 wr w' : World} {p R n : Nat} {v : Value} {S S' : List Sl} {D : List St} {h m h' m' : Int} (M : Mid w1 wr p R n v S D h m) (P : Put [p, R] wr w') (T : Tlb w' p R S' h' m') (ok : PagesOk S') (hl : S'.length = n) (hk : ∀ page, lookS S' page = refL n D page) : Mid w1 w' p R n v S' D h' m' :=
  ⟨M.put.trans P, ok, T, hl, hk, M.hp, own_put M.own P (by have := M.lp; have := M.lR; simp; omega), M.lp, M.lR⟩
/-- A call that counts, behind an append of it. -/
theorem Mid.more {w1 wr w3 w4 w5 : World} {p R n : Nat} {v v5 : Value} {S : List Sl} {D : List St} {h m : Int} (M : Mid w1 wr p R n v S D h m) (hn : 1 ≤ n) (s : St) (hs : (s.p : Int) < 4294967296) (P : Put [R] wr w3) (T : Tlb w3 p R (stepS S s.k s.p s.b s.f) h m)
    (k4 : Kep w3 w4) (hown : w5.ownsRow w1.heap.size 31 4 v5 (D.length + 1) (D.flatMap stC ++ stC s)) (hg : w4.grownBy w5 v.ownBlock) : Mid w1 w5 p R n v5 (stepS S s.k s.p s.b s.f) (D ++ [s]) h m ∧ ∀ b o, b < w4.heap.size → v.ownBlock ≠ some b → w5.cell? ⟨b, o, none⟩ = w4.cell? ⟨b, o, none⟩ := by
  have P5 : Put v.ownBlock.toList w4 w5 := grown_put hg _ (fun k e => by simp [e])
  have hC : ∀ C, v.ownBlock = some C → w1.heap.size ≤ C := fun C e => own_base M.own e
  have hlp := M.lp
  have hlR := M.lR
  have hno : ∀ b, b < w1.heap.size → b ∉ v.ownBlock.toList := fun b hb hm => by
    have := hC b (by simpa using hm)
    omega
  refine ⟨⟨?_, M.ok.step _ _ hs _ _, (T.kep k4).put P5 (hno _ hlp) (hno _ hlR), (stepS_len ..).trans M.len, look_ref hn M.len M.look s, ?_, ?_, hlp, hlR⟩, fun b o hb hn => ?_⟩
  · refine (((M.put.trans (P.mono (by simp))).trans (Put.of_kep k4))).next P5 ?_
    intro x hx hlt
    exact absurd hx (hno x hlt)
  · intro e he
    rcases List.mem_append.1 he with h1 | h1
    · exact M.hp e h1
    · simp at h1; subst h1; exact hs
  · have e1 : (D ++ [s]).length = D.length + 1 := by simp
    have e2 : (D ++ [s]).flatMap stC = D.flatMap stC ++ stC s := by simp
    rw [e1, e2]; exact hown
  · exact P5.cell hb (by simpa using hn)
end Go.Proofs.Ytekcknkfpecppaa
