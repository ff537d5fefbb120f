/- The disk's command is done, by the document. -/
import Derived.Test.YtpieeefeicdfgabVrdi
import Derived.Test.YtpieeefeicdfgabMref
import Derived.StillTailTactics
import Derived.Deep.RegionHeld3
namespace Go.Proofs.Ytpieeefeicdfgab
open Go.RowKit
set_option linter.unusedVariables false
set_option linter.unusedSimpArgs false

theorem region_still {P : Program} {id : Nat} {Q : Exit → Act → World → Prop} {a : Act} {w : World} {l : List Oper} (n : Nat) (hm : P.follows .mixedOrders = true) (hB : Region.lexTailB .any l.toArray n = true)
    (h : wpStill P l.toArray w.drew (fun a' => wpList P l.toArray Q (l.drop n) a' w.drew) (l.take n) a) : (Code.region id l.toArray true).wp P Q a w := wp_region_still_tail n hm hB h

theorem splice_at {α : Type} (B C : List α) (o j : Nat) (ho : o ≤ B.length) : (splice B o C)[j]? = if j < o then B[j]? else if j < o + C.length then C[j - o]? else B[j]? := by
  unfold Go.splice
  have hl : (B.take o).length = o := by simp; omega
  by_cases h1 : j < o
  · rw [if_pos h1, List.getElem?_append_left (by omega), List.getElem?_take_of_lt h1]
  · rw [if_neg h1]
    by_cases h2 : j < o + C.length
    · rw [if_pos h2, List.getElem?_append_right (by omega), List.getElem?_append_left (by omega), hl]
    · rw [if_neg h2, List.getElem?_append_right (by omega), List.getElem?_append_right (by omega), List.getElem?_drop, hl]
      congr 1; omega
theorem splice_snoc (B C : List Int) (o : Nat) (x : Int) (h : o + C.length < B.length) : splice B o (C ++ [x]) = (splice B o C).set (o + C.length) x := by
  refine List.ext_getElem? fun j => ?_
  rw [splice_at _ _ _ _ (by omega), List.getElem?_set, length_splice _ _ _ (by omega), splice_at _ _ _ _ (by omega)]
  by_cases h1 : j < o
  · rw [if_pos h1, if_neg (by omega), if_pos h1]
  · rw [if_neg h1, if_neg h1, List.length_append, List.length_singleton]
    by_cases h2 : j < o + C.length
    · rw [if_pos (by omega), if_pos h2, if_neg (by omega), List.getElem?_append_left (by omega)]
    · by_cases h3 : j = o + C.length
      · subst h3
        rw [if_pos (by omega), if_pos rfl, if_pos h]
        rw [List.getElem?_append_right (by omega)]; simp
      · rw [if_neg (by omega), if_neg (by omega), if_neg h2]
/-- What lies at o behind k bytes from a on. -/
def cpy (B D : List Int) (o a k : Nat) : List Int := splice B o ((D.drop a).take k)
theorem cpy_zero (B D : List Int) (o a : Nat) : cpy B D o a 0 = B := by unfold cpy; rw [List.take_zero]; exact splice_nil _ _
theorem cpy_len {B D : List Int} {o a k : Nat} (ho : o + k ≤ B.length) (ha : a + k ≤ D.length) : (cpy B D o a k).length = B.length := by
  unfold cpy; exact length_splice _ _ _ (by simp; omega)
theorem cpy_next {B D : List Int} {o a k : Nat} {x : Int} (ho : o + k < B.length) (ha : a + k < D.length) (hx : D[a + k]? = some x) : cpy B D o a (k + 1) = (cpy B D o a k).set (o + k) x := by
  unfold cpy
  rw [List.take_add_one, List.getElem?_drop, hx]
  have hl : ((D.drop a).take k).length = k := by simp; omega
  simp only [Option.toList]
  rw [splice_snoc _ _ _ _ (by rw [hl]; exact ho), hl]
theorem cpy_all (B D : List Int) (o f : Nat) : cpy B D o (64 * f) 64 = splice B o (frameL D f) := rfl
/-- A byte laid in a row of bytes that is one's own. -/
theorem Sli.setb {w : World} {g off n cap : Nat} {D : List Int} {F : List Nat} (h : Sli w 5 1 (.slice (some ⟨g, off, none⟩) n cap) n (byt D) F) (i : Nat) (hi : i < n) (x : Int) : Sli (w.setCell ⟨g, off + i, none⟩ (.int .u8 x)) 5 1 (.slice (some ⟨g, off, none⟩) n cap) n (byt (D.set i x)) F := by
  have hl : (byt D).length = n := by have := h.1; omega
  have := h.store i hi [.int .u8 x] rfl
  rw [Nat.mul_one] at this
  have e : (byt D).take i ++ [.int .u8 x] ++ (byt D).drop (i + 1) = byt (D.set i x) := by
    rw [← byt_set, List.set_eq_take_append_cons_drop, if_pos (by omega)]; simp
  rw [e] at this
  exact this
/-- The blocks of devices, and a memory's row that is not among them. -/
theorem RDv.put1 {w w' : World} {p : Nat} {s : DS} {vS : Value} {E0 : List Ev} {F : List Nat} {R : Nat} (h : RDv w p s vS E0 F) (P : Put [R] w w') (hR : R ∉ F) : RDv w' p s vS E0 F := h.put P (fun g hg hm => by simp at hm; subst hm; exact hR hg)
theorem can_parts {D : List Int} {nf : Nat} {f t : Int} (h : canB D nf f t = true) : f < ((D.length / 64 : Nat) : Int) ∧ t % 64 = 0 ∧ t < 64 * nf := by
  unfold canB at h; simp only [Bool.and_eq_true, decide_eq_true_eq] at h; exact ⟨h.1.1, h.1.2, h.2⟩

theorem wrap64_low {x m : Int} (h : x = m) (h0 : 0 ≤ m) (h1 : m ≤ 4294967296) : wrap64 x = m := by subst h; unfold wrap64; omega
theorem u32_low {m : Int} (h0 : 0 ≤ m) (h1 : m ≤ 32) : m % 4294967296 = m := by omega
theorem i64_same {t : Int} (h0 : 0 ≤ t) (h1 : t < 4294967296) : IntKind.i64.wrap t = t := by rw [IntKind.wrap_i64]; omega
theorem div64 {n m : Nat} (h : m = n / 64) : (n : Int) / 64 = m := by omega
theorem div32 {n m : Nat} (h : m = n / 64) (hn : n ≤ 2048) : (m : Int) ≤ 32 := by omega
set_option maxHeartbeats 2000000 in
set_option maxRecDepth 100000 in
theorem rmove_fail {w : World} {p : Nat} {s : DS} {vS : Value} {E0 : List Ev} {F : List Nat} (h : RDv w p s vS E0 F) (ok : s.Ok) (hs : s.s = 1) (x : Option Addr) (n : Nat) (hn : (n : Int) ≤ 512) (hc : canB s.D n s.f s.t = false) :
    Calls Try.prog 70 #[.pointer (some ⟨p, 0, none⟩), refV x (64 * n)] w fun e w' => e = .returned (.int .i64 (-1)) ∧ RDv w' p { s.clear with s := 2 } vS E0 F ∧ Put F w w' := by
  obtain ⟨c, k, f, t, vq, vo, vd, Fq, Fo, Fd, D, hF⟩ := h
  obtain ⟨rfl, rfl, rfl⟩ := D.cmd hs
  have D' : Hid (RDAt w p s vS E0 c s.k s.f s.t vq vo vd Fq Fo Fd) := D
  obtain ⟨xd, cd, hvd, _⟩ := D.d.lies
  have c6 : w.cell? ⟨p, 6, none⟩ = some vd := D.c' 6
  have c9 : w.cell? ⟨p, 9, none⟩ = some (.int .u32 s.s) := D.c' 9
  have c11 : w.cell? ⟨p, 11, none⟩ = some (.int .u32 s.f) := D.c' 11
  have c12 : w.cell? ⟨p, 12, none⟩ = some (.int .u32 s.t) := D.c' 12
  have lp := block_lt D.box
  obtain ⟨W, hW⟩ : ∃ W, Hid (W = w.alloc (.cells #[.slice x (64 * n) (64 * n)] 42)) := ⟨_, rfl⟩
  have KW : Kep w W := by rw [hW.out]; exact (Kep.refl _).alloc _
  have DW := D.kep KW
  have d9 : W.cell? ⟨p, 9, none⟩ = some (.int .u32 s.s) := DW.c' 9
  have d11 : W.cell? ⟨p, 11, none⟩ = some (.int .u32 s.f) := DW.c' 11
  have d12 : W.cell? ⟨p, 12, none⟩ = some (.int .u32 s.t) := DW.c' 12
  have db : W.cell? ⟨w.heap.size, 0, none⟩ = some (.slice x (64 * n) (64 * n)) := by rw [hW.out, cell_of_block (hat _ _ _ rfl)]; rfl
  have f9 := DW.fz 9
  have T : Hid (∀ m, RDv ((W.drewN m).setCell ⟨p, 9, none⟩ (.int .u32 2)) p { s.clear with s := 2 } vS E0 F ∧ Put F w ((W.drewN m).setCell ⟨p, 9, none⟩ (.int .u32 2))) := fun m => by
    have D1 := DW.kep ((Kep.refl W).drewN m)
    have P : Put [p] (W.drewN m) ((W.drewN m).setCell ⟨p, 9, none⟩ (.int .u32 2)) := (Put.refl _).setCell (by simp) _
    exact ⟨⟨_, _, _, _, _, _, _, _, _, _, D1.turn (s' := { s.clear with s := 2 }) P (box_set D1.box _) D.E D.lc rfl rfl rfl (by simp [DS.clear]), hF⟩, (Put.of_kep (KW.drewN m)).trans (P.mono (by rw [hF]; simp))⟩
  subst hvd
  have hf := ok.f
  have ht := ok.t
  have hd := ok.d
  obtain ⟨m, hm⟩ : ∃ m : Int, m = ((s.D.length / 64 : Nat) : Int) := ⟨_, rfl⟩
  have hm32 : m ≤ 32 := by omega
  have hm0 : 0 ≤ m := by omega
  have g0 : wrap64 ((s.D.length : Int) / 64) = m := wrap64_low (by omega) hm0 (Int.le_trans hm32 (by decide))
  have g2 : IntKind.i64.wrap s.t = s.t := i64_same ht.1 ht.2
  obtain ⟨hf0, hf1⟩ := hf
  obtain ⟨ht0, ht1⟩ := ht
  unfold canB at hc
  rw [← hm] at hc
  simp only [Bool.and_eq_false_iff, decide_eq_false_iff_not] at hc
  generalize s.D.length = nd at *
  generalize s.f = sf at *
  generalize s.t = st at *
  clear D DW KW c9 c11 c12
  by_cases h1 : m ≤ sf
  · have h1' : decide (m ≤ sf) = true := decide_eq_true h1
    clear hc hm hd hF ok
    go_enter Try.func70, Try.ntmps70
    go_wp2_with fail
    rw [← hW.out]
    go_quiet (fail)
    go_wp2_with fail
    go_ret
    exact ⟨rfl, T.out _⟩
  have h1' : decide (m ≤ sf) = false := decide_eq_false h1
  by_cases h2 : st % 64 = 0
  · have h3 : decide (64 * (n : Int) ≤ st) = true := decide_eq_true (by omega)
    have h2' : (st % 64 != 0) = false := by simp [h2]
    clear hc hm hd hF h1 ok h2
    go_enter Try.func70, Try.ntmps70
    go_wp2_with fail
    rw [← hW.out]
    go_quiet (fail)
    go_wp2_with fail
    go_ret
    exact ⟨rfl, T.out _⟩
  · have h2' : (st % 64 != 0) = true := by simp [h2]
    clear hc hm hd hF h1 ok h2
    go_enter Try.func70, Try.ntmps70
    go_wp2_with fail
    rw [← hW.out]
    go_quiet (fail)
    go_wp2_with fail
    go_ret
    exact ⟨rfl, T.out _⟩
end Go.Proofs.Ytpieeefeicdfgab
