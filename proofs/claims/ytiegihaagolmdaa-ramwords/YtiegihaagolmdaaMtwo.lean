/- A memory beside the document's, with the same bytes. -/
import Derived.Test.YtiegihaagolmdaaMrefb
namespace Go.Proofs.Ytiegihaagolmdaa
open Go.RowKit
set_option linter.unusedVariables false

structure Two (w : World) (v : Value) (R n : Nat) (x : Option Addr) (Rb : Nat) (B : List Int) : Prop where
  ram : Ram w v R (List.range n)
  row : RowB w R B
  ref : Refd w x Rb B
  len : B.length = 64 * n
  byts : Byts B
  ne : R ≠ Rb
  le : n ≤ 512
  off : Off w v [R, Rb]
  lR : R < w.heap.size
  lRb : Rb < w.heap.size
theorem Ram.lt {w : World} {p R : Nat} {ix : List Nat} (h : Ram w (.pointer (some ⟨p, 0, none⟩)) R ix) : p < w.heap.size := by
  rcases h with ⟨_, h⟩ | ⟨_, q, e, hp, _⟩ | ⟨q, F, e, hp, _⟩
  · simp at h
  · simp at e; subst e; exact block_lt hp
  · simp at e; subst e; exact block_lt hp
theorem Off.put {w w' : World} {v : Value} {R : Nat} {ix l : List Nat} (h : Off w v l) (hr : Ram w v R ix) (k : Put l w w') : Off w' v l := by
  intro p e
  refine ⟨(h p e).1, fun F n c hc => ?_⟩
  subst e
  rw [k.cell hr.lt (h p rfl).1] at hc
  exact (h p rfl).2 F n c hc
theorem not_row {w : World} {b : Nat} {C : List Int} (h : RowB w b C) (hC : C ≠ []) {cs : Array Value} {t : TypeId} (hb : w.heap[b]? = some (.cells cs t (0, 0))) (x : Option Addr) (n c : Nat) : cs[0]? ≠ some (.slice x n c) := by
  rw [h hC] at hb
  obtain ⟨rfl, _⟩ : (byt C).toArray = cs ∧ 5 = t := by simpa using hb
  rcases C with _ | ⟨z, C⟩
  · exact absurd rfl hC
  · simp [byt]
theorem nm2 {a R Rb : Nat} (h1 : a ≠ R) (h2 : a ≠ Rb) : a ∉ [R, Rb] := by simp [h1, h2]
theorem off_of {w : World} {v : Value} {R Rb : Nat} {ix : List Nat} {C : List Int} (hr : Ram w v R ix) (hb : RowB w Rb C) (hC : C ≠ []) : Off w v [R, Rb] := by
  intro p e
  subst e
  rcases hr with ⟨_, h⟩ | ⟨_, q, e, hp, n⟩ | ⟨q, F, e, hp, hF, n1, n2, hn⟩
  · simp at h
  · simp at e; subst e
    refine ⟨nm2 n fun e => ?_, fun F a b hc => ?_⟩
    · subst e; exact not_row hb hC hp none 0 0 rfl
    · rw [cell_of_block hp] at hc; simp at hc
  · simp at e; subst e
    refine ⟨nm2 n1 fun e => ?_, fun F' a b hc => ?_⟩
    · subst e; exact not_row hb hC hp _ _ _ rfl
    · rw [cell_of_block hp] at hc
      have e2 : F = F' := by have := hc; simp at this; exact this.1
      subst e2
      refine nm2 n2 fun e => ?_
      subst e
      refine not_row hb hC hF (some ⟨R, 64 * ix.getD 0 0, none⟩) 64 64 ?_
      rcases ix with _ | ⟨i, ix⟩
      · exact absurd rfl hn
      · simp [frs]
theorem off_tag {w : World} {v : Value} {R b : Nat} {ix : List Nat} (hr : Ram w v R ix) {cs : Array Value} {t : TypeId} {fr : Nat × Nat} (hb : w.heap[b]? = some (.cells cs t fr)) (h1 : t ≠ 48) (h2 : t ≠ 24) : Off w v [b] := by
  intro p e
  subst e
  rcases hr with ⟨_, h⟩ | ⟨_, q, e, hp, n⟩ | ⟨q, F, e, hp, hF, n1, n2, hn⟩
  · simp at h
  · simp at e; subst e
    refine ⟨fun e => ?_, fun F a b hc => ?_⟩
    · simp at e; subst e; rw [hp] at hb; simp at hb; exact h1 hb.2.1.symm
    · rw [cell_of_block hp] at hc; simp at hc
  · simp at e; subst e
    refine ⟨fun e => ?_, fun F' a b hc => ?_⟩
    · simp at e; subst e; rw [hp] at hb; simp at hb; exact h1 hb.2.1.symm
    · rw [cell_of_block hp] at hc
      have e2 : F = F' := by have := hc; simp at this; exact this.1
      subst e2
      intro e
      simp at e; subst e; rw [hF] at hb; simp at hb; exact h2 hb.2.1.symm
theorem Two.put {w w' : World} {v : Value} {R n : Nat} {x : Option Addr} {Rb : Nat} {B C : List Int} (h : Two w v R n x Rb B) (k : Put [R, Rb] w w') (h1 : RowB w' R C) (h2 : RowB w' Rb C) (hl : C.length = B.length) (hb : Byts C) : Two w' v R n x Rb C := by
  refine ⟨h.ram.off k h.off, h1, ⟨h2, fun hC => h.ref.adr (fun e => hC ?_), by rw [hl]; exact h.ref.max⟩, hl.trans h.len, hb, h.ne, h.le, h.off.put h.ram k, Nat.lt_of_lt_of_le h.lR k.size, Nat.lt_of_lt_of_le h.lRb k.size⟩
  subst e
  exact List.eq_nil_of_length_eq_zero hl
theorem Two.kep {w w' : World} {v : Value} {R n : Nat} {x : Option Addr} {Rb : Nat} {B : List Int} (h : Two w v R n x Rb B) (k : Kep w w') : Two w' v R n x Rb B :=
  h.put (Put.of_kep k) (h.row.kep k) (h.ref.row.kep k) rfl h.byts

theorem u32_of {a : Int} (h : (Lit.int .u32 a).wf = true) : 0 ≤ a ∧ a < 4294967296 := by
  simp [Lit.wf, IntKind.min, IntKind.max, IntKind.signed, IntKind.bits] at h; omega
theorem i64_of {a : Int} (h : (Lit.int .i64 a).wf = true) : -9223372036854775808 ≤ a ∧ a ≤ 9223372036854775807 := by
  simp [Lit.wf, IntKind.min, IntKind.max, IntKind.signed, IntKind.bits] at h; omega
/-- Byte j of x. -/
def byteJ (x : Int) : Nat → Int
  | 0 => x % 256
  | 1 => x / 256 % 256
  | 2 => x / 65536 % 256
  | _ => x / 16777216 % 256
theorem setW_at (B : List Int) (a : Nat) (x : Int) (h : a + 3 < B.length) (j : Nat) (hj : j < 4) : (setW B a x).getD (a + j) 0 = byteJ x j := by
  unfold setW
  rcases (by omega : j = 0 ∨ j = 1 ∨ j = 2 ∨ j = 3) with rfl | rfl | rfl | rfl
  all_goals simp [byteJ, show a < B.length by omega, show a + 1 < B.length by omega, show a + 2 < B.length by omega, h]
theorem setW_word (B : List Int) (a : Nat) (x : Int) (h : a + 3 < B.length) (h0 : 0 ≤ x) (h1 : x < 4294967296) : wordAt (setW B a x) a = x := by
  have e0 := setW_at B a x h 0 (by decide)
  have e1 := setW_at B a x h 1 (by decide)
  have e2 := setW_at B a x h 2 (by decide)
  have e3 := setW_at B a x h 3 (by decide)
  simp only [Nat.add_zero] at e0
  unfold wordAt wordI
  rw [e0, e1, e2, e3]
  simp only [byteJ]
  omega

theorem results2c {P : Program} {fn : Func} {u p : Tmp} {ty : TypeId} (h : fn.results = #[.tmp u, .cell p ty]) (tmps : Array Value) (w : World) (g : Nat) (t : TypeId) (cs : Array Value) (fr : Nat × Nat) (d : TypeDesc)
    (hp : tmps.getD p undef = .pointer (some ⟨g, 0, none⟩)) (hg : w.heap[g]? = some (.cells cs t fr))
    (hu : P.underlying ty = some d) (hd : (match d with | .struct _ | .array _ _ => true | _ => false) = true) (hi : (P.info? ty).map (·.size) = some cs.size) :
    (results fn tmps).run P w = .ok (.tuple #[tmps.getD u undef, .agg cs]) w := by
  have hp' : tmps[p]?.getD undef = .pointer (some ⟨g, 0, none⟩) := by simpa using hp
  simp [results, h, hp', asAddr, run_loadVar_row w g t ty cs fr d hg hu hd hi]

set_option maxRecDepth 100000 in
theorem made_any (w : World) (a : Int) (h0 : -9223372036854775808 ≤ a) (h1 : a ≤ 9223372036854775807) :
    Calls Try.prog 9 #[.int .i64 a] w fun e w' => ∃ (n p R Rb : Nat), e = .returned (.tuple #[.pointer (some ⟨p, 0, none⟩), refV (some ⟨Rb, 0, none⟩) (64 * n)]) ∧ 1 ≤ n ∧ n ≤ 5 ∧ Two w' (.pointer (some ⟨p, 0, none⟩)) R n (some ⟨Rb, 0, none⟩) Rb (List.replicate (64 * n) 0) ∧ Kep w w' ∧ w.heap.size ≤ R ∧ w.heap.size ≤ Rb := by
  obtain ⟨u, hu, hu0, hu1⟩ : ∃ u : Int, IntKind.u64.wrap a = u ∧ 0 ≤ u ∧ u ≤ 18446744073709551615 := ⟨_, rfl, by rw [IntKind.wrap_u64]; omega, by rw [IntKind.wrap_u64]; omega⟩
  obtain ⟨n, hn, hn1, hn2⟩ : ∃ n : Nat, 1 + u % 5 = n ∧ (1 : Int) ≤ n ∧ (n : Int) ≤ 5 := ⟨(1 + u % 5).toNat, by omega, by omega, by omega⟩
  have hN : Hid (∀ w, Calls Try.prog 15 #[.int .i64 n] w fun e w' => ∃ p : Nat, e = .returned (.tuple #[.pointer (some ⟨p, 0, none⟩), .int .i64 0]) ∧ Own w w' (.pointer (some ⟨p, 0, none⟩)) w.heap.size n (List.replicate (64 * n) 0)) := fun w => new_any w n (by omega) (by omega)
  have hR : Hid (∀ w, Calls Try.prog 25 #[.int .i64 n] w fun e w' => e = .returned (refV (some ⟨w.heap.size + 1, 0, none⟩) (64 * n)) ∧ Kep w w' ∧ w'.heap[w.heap.size + 1]? = some (.cells (byt (List.replicate (64 * n) 0)).toArray 5 (0, 0))) := fun w => refNew_any w n hn1 (by omega)
  go_enter Try.func9, Try.ntmps9
  go_wp2_with fail
  refine (hN.out _).mono ?_
  rintro e w1 ⟨p, rfl, O⟩
  have hl : ((List.range n).length : Int) ≤ 512 := by simp; omega
  have hS : Hid (Calls Try.prog 16 #[.pointer (some ⟨p, 0, none⟩)] w1 fun e w' => e = .returned (.int .u32 (64 * n)) ∧ w' = w1) := by
    have := size_any w1 _ _ _ O.ram hl
    rw [List.length_range] at this
    exact this
  have O' : Hid (Own (w.alloc (.cells #[.slice none 0 0] 26)) w1 (.pointer (some ⟨p, 0, none⟩)) (w.alloc (.cells #[.slice none 0 0] 26)).heap.size n (List.replicate (64 * n) 0)) := O
  have hb1 : w1.heap[w.heap.size]? = some (.cells #[.slice none 0 0] 26 (0, 0)) := O.kep.block (hat _ _ _ rfl)
  have lw : w.heap.size < w1.heap.size := block_lt hb1
  clear O hN hl
  go_wp2_with (go_at_call 16; refine hS.out.mono ?_; rintro e w3 ⟨rfl, rfl⟩)
  refine (hR.out _).mono ?_
  rename World => w2
  rintro e w4 ⟨rfl, K4, B4⟩
  have hb4 : Hid (w4.heap[w.heap.size]? = some (.cells #[.slice none 0 0] 26 (0, 0))) := K4.block hb1
  have c4 : w4.cell? ⟨w.heap.size, 0, none⟩ = some (.slice none 0 0) := by rw [cell_of_block hb4.out]; rfl
  have f4 : w4.frozen? ⟨w.heap.size, 0, none⟩ = false := by simp [World.frozen?, hb4.out]
  have K4' : Hid (Kep w2 w4) := K4
  have B4' : Hid (w4.heap[w2.heap.size + 1]? = some (.cells (byt (List.replicate (64 * n) 0)).toArray 5 (0, 0))) := B4
  clear K4 B4
  go_wp2_with fail
  refine bodyPost_ret (results2c rfl _ _ w.heap.size 26 #[.slice (some ⟨w2.heap.size + 1, 0, none⟩) (64 * n) (64 * n)] (0, 0) _ rfl ?_ Try.underlying26 rfl size_ref) rfl ⟨n, p, w.heap.size + 1, w2.heap.size + 1, rfl, by omega, by omega, ?_, ?_, by omega, by omega⟩
  · exact (heap_setCell_row hb4.out _).trans (by simp)
  · have P5 : Put [w.heap.size] w4 (w4.setCell ⟨w.heap.size, 0, none⟩ (.slice (some ⟨w2.heap.size + 1, 0, none⟩) (64 * n) (64 * n))) := (Put.refl _).setCell (by simp) _
    have r4 := O'.out.ram.kep K4'.out
    have hw4 := O'.out.row.kep K4'.out
    simp only [World.size_alloc] at r4 hw4
    have hne : (List.replicate (64 * n) (0 : Int)) ≠ [] := by intro e; have := congrArg List.length e; simp at this; omega
    have r5 := r4.off P5 (off_tag r4 hb4.out (by decide) (by decide))
    have b5 := P5.keeps B4'.out (by simp; omega)
    have hw5 := hw4.put P5 (by simp)
    have hlt := O'.out.row.lt hne
    simp only [World.size_alloc] at hlt
    exact ⟨r5, hw5, ⟨fun _ => b5, fun _ => rfl, by simp; omega⟩, by simp, byts_zero _, by omega, by omega, off_of r5 (fun _ => b5) hne, hw5.lt hne, block_lt b5⟩
  · exact (kep_trans (kep_trans ((Kep.refl w).alloc _) O'.out.kep) K4'.out).setCell (by simp) _
end Go.Proofs.Ytiegihaagolmdaa
