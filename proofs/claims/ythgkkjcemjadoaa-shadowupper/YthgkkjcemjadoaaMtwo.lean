/- A memory beside the document's, with the same bytes. -/
import Derived.Test.YthgkkjcemjadoaaMrefb
namespace Go.Proofs.Ythgkkjcemjadoaa
open Go.RowKit
set_option linter.unusedVariables false

structure Two (w : World) (v : Value) (R n : Nat) (x : Option Addr) (Rb : Nat) (B : List Int) : Prop where
  ram : Ram w v R (List.range n)
  row : RowB w R B
  ref : Refd w x Rb B
  len : B.length = 64 * n
  byts : Byts B
  ne : R ≠ Rb
  le : n ≤ 512
  off : Off w v [R, Rb]
  lR : R < w.heap.size
  lRb : Rb < w.heap.size
theorem Ram.lt {w : World} {p R : Nat} {ix : List Nat} (h : Ram w (.pointer (some ⟨p, 0, none⟩)) R ix) : p < w.heap.size := by
  rcases h with ⟨_, h⟩ | ⟨_, q, e, hp, _⟩ | ⟨q, F, e, hp, _⟩
  · simp at h
  · simp at e; subst e; exact block_lt hp
  · simp at e; subst e; exact block_lt hp
theorem Off.put {w w' : World} {v : Value} {R : Nat} {ix l : List Nat} (h : Off w v l) (hr : Ram w v R ix) (k : Put l w w') : Off w' v l := by
  intro p e
  refine ⟨(h p e).1, fun F n c hc => ?_⟩
  subst e
  rw [k.cell hr.lt (h p rfl).1] at hc
  exact (h p rfl).2 F n c hc
theorem not_row {w : World} {b : Nat} {C : List Int} (h : RowB w b C) (hC : C ≠ []) {cs : Array Value} {t : TypeId} (hb : w.heap[b]? = some (.cells cs t (0, 0))) (x : Option Addr) (n c : Nat) : cs[0]? ≠ some (.slice x n c) := by
  rw [h hC] at hb
  obtain ⟨rfl, _⟩ : (byt C).toArray = cs ∧ 5 = t := by simpa using hb
  rcases C with _ | ⟨z, C⟩
  · exact absurd rfl hC
  · simp [byt]
theorem nm2 {a R Rb : Nat} (h1 : a ≠ R) (h2 : a ≠ Rb) : a ∉ [R, Rb] := by simp [h1, h2]
theorem off_of {w : World} {v : Value} {R Rb : Nat} {ix : List Nat} {C : List Int} (hr : Ram w v R ix) (hb : RowB w Rb C) (hC : C ≠ []) : Off w v [R, Rb] := by
  intro p e
  subst e
  rcases hr with ⟨_, h⟩ | ⟨_, q, e, hp, n⟩ | ⟨q, F, e, hp, hF, n1, n2, hn⟩
  · simp at h
  · simp at e; subst e
    refine ⟨nm2 n fun e => ?_, fun F a b hc => ?_⟩
    · subst e; exact not_row hb hC hp none 0 0 rfl
    · rw [cell_of_block hp] at hc; simp at hc
  · simp at e; subst e
    refine ⟨nm2 n1 fun e => ?_, fun F' a b hc => ?_⟩
    · subst e; exact not_row hb hC hp _ _ _ rfl
    · rw [cell_of_block hp] at hc
      have e2 : F = F' := by have := hc; simp at this; exact this.1
      subst e2
      refine nm2 n2 fun e => ?_
      subst e
      refine not_row hb hC hF (some ⟨R, 64 * ix.getD 0 0, none⟩) 64 64 ?_
      rcases ix with _ | ⟨i, ix⟩
      · exact absurd rfl hn
      · simp [frs]
theorem off_tag {w : World} {v : Value} {R b : Nat} {ix : List Nat} (hr : Ram w v R ix) {cs : Array Value} {t : TypeId} {fr : Nat × Nat} (hb : w.heap[b]? = some (.cells cs t fr)) (h1 : t ≠ 99) (h2 : t ≠ 52) : Off w v [b] := by
  intro p e
  subst e
  rcases hr with ⟨_, h⟩ | ⟨_, q, e, hp, n⟩ | ⟨q, F, e, hp, hF, n1, n2, hn⟩
  · simp at h
  · simp at e; subst e
    refine ⟨fun e => ?_, fun F a b hc => ?_⟩
    · simp at e; subst e; rw [hp] at hb; simp at hb; exact h1 hb.2.1.symm
    · rw [cell_of_block hp] at hc; simp at hc
  · simp at e; subst e
    refine ⟨fun e => ?_, fun F' a b hc => ?_⟩
    · simp at e; subst e; rw [hp] at hb; simp at hb; exact h1 hb.2.1.symm
    · rw [cell_of_block hp] at hc
      have e2 : F = F' := by have := hc; simp at this; exact this.1
      subst e2
      intro e
      simp at e; subst e; rw [hF] at hb; simp at hb; exact h2 hb.2.1.symm
theorem Two.put {w w' : World} {v : Value} {R n : Nat} {x : Option Addr} {Rb : Nat} {B C : List Int} (h : Two w v R n x Rb B) (k : Put [R, Rb] w w') (h1 : RowB w' R C) (h2 : RowB w' Rb C) (hl : C.length = B.length) (hb : Byts C) : Two w' v R n x Rb C := by
  refine ⟨h.ram.off k h.off, h1, ⟨h2, fun hC => h.ref.adr (fun e => hC ?_), by rw [hl]; exact h.ref.max⟩, hl.trans h.len, hb, h.ne, h.le, h.off.put h.ram k, Nat.lt_of_lt_of_le h.lR k.size, Nat.lt_of_lt_of_le h.lRb k.size⟩
  subst e
  exact List.eq_nil_of_length_eq_zero hl
theorem Two.kep {w w' : World} {v : Value} {R n : Nat} {x : Option Addr} {Rb : Nat} {B : List Int} (h : Two w v R n x Rb B) (k : Kep w w') : Two w' v R n x Rb B :=
  h.put (Put.of_kep k) (h.row.kep k) (h.ref.row.kep k) rfl h.byts

/-- Byte j of x. -/
def byteJ (x : Int) : Nat → Int
  | 0 => x % 256
  | 1 => x / 256 % 256
  | 2 => x / 65536 % 256
  | _ => x / 16777216 % 256
theorem setW_at (B : List Int) (a : Nat) (x : Int) (h : a + 3 < B.length) (j : Nat) (hj : j < 4) : (setW B a x).getD (a + j) 0 = byteJ x j := by
  unfold setW
  rcases (by omega : j = 0 ∨ j = 1 ∨ j = 2 ∨ j = 3) with rfl | rfl | rfl | rfl
  all_goals simp [byteJ, show a < B.length by omega, show a + 1 < B.length by omega, show a + 2 < B.length by omega, h]
theorem setW_word (B : List Int) (a : Nat) (x : Int) (h : a + 3 < B.length) (h0 : 0 ≤ x) (h1 : x < 4294967296) : wordAt (setW B a x) a = x := by
  have e0 := setW_at B a x h 0 (by decide)
  have e1 := setW_at B a x h 1 (by decide)
  have e2 := setW_at B a x h 2 (by decide)
  have e3 := setW_at B a x h 3 (by decide)
  simp only [Nat.add_zero] at e0
  unfold wordAt wordI
  rw [e0, e1, e2, e3]
  simp only [byteJ]
  omega

theorem results2c {P : Program} {fn : Func} {u p : Tmp} {ty : TypeId} (h : fn.results = #[.tmp u, .cell p ty]) (tmps : Array Value) (w : World) (g : Nat) (t : TypeId) (cs : Array Value) (fr : Nat × Nat) (d : TypeDesc)
    (hp : tmps.getD p undef = .pointer (some ⟨g, 0, none⟩)) (hg : w.heap[g]? = some (.cells cs t fr))
    (hu : P.underlying ty = some d) (hd : (match d with | .struct _ | .array _ _ => true | _ => false) = true) (hi : (P.info? ty).map (·.size) = some cs.size) :
    (results fn tmps).run P w = .ok (.tuple #[tmps.getD u undef, .agg cs]) w := by
  have hp' : tmps[p]?.getD undef = .pointer (some ⟨g, 0, none⟩) := by simpa using hp
  simp [results, h, hp', asAddr, run_loadVar_row w g t ty cs fr d hg hu hd hi]

end Go.Proofs.Ythgkkjcemjadoaa
