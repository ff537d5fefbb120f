/- A text that is typed: its script, what comes of it, what was read of it. -/
import Derived.Test.YtpieeefeicdfgaaVord
namespace Go.Proofs.Ytpieeefeicdfgaa
open Go.RowKit
set_option linter.unusedVariables false

set_option maxRecDepth 100000 in
/-- A row of bytes that lies there, as a string. -/
theorem Lies.strAny {w : World} {x : Option Addr} {B : List Int} {cap : Nat} (h : Lies w x (byt B)) : Str w (.slice x B.length cap) (strL B) := by
  by_cases hB : B = []
  · subst hB
    cases x with
    | none => exact fun w' _ => rfl
    | some a =>
      intro w' _
      show Sem.run Try.prog (convert 23 9 (.slice (some a) 0 cap)) w' = _
      rw [run_convert_bytes_string w' 23 9 5 _ _ cap Try.underlying23 Try.underlying5 Try.underlying9]
      exact run_bytesToString w' a _ cap [] (run_loadCells_list (P := Try.prog) w' a [] (by simp))
  · rcases id h with h0 | ⟨b, off, e, hb, hc⟩
    · exfalso; have := congrArg List.length h0; rw [byt_len] at this; exact hB (List.eq_nil_of_length_eq_zero this)
    · exact h.str (fun e' => by rw [e] at e'; cases e') (fun a e' => by rw [e] at e'; cases e'; rfl)
/-- The script that types a text's first k bytes. -/
def scr (T : List Int) (k : Nat) : List Ev := (List.range k).map fun (i : Nat) => ((i : Int), 1, T.getD i 0)
theorem scr_len (T : List Int) (k : Nat) : (scr T k).length = k := by simp [scr]
theorem scr_succ (T : List Int) (k : Nat) : scr T (k + 1) = scr T k ++ [((k : Int), 1, T.getD k 0)] := by simp [scr, List.range_succ]
theorem scr_drop (T : List Int) (L k : Nat) (h : k < L) : (scr T L).drop k = ((k : Int), 1, T.getD k 0) :: (scr T L).drop (k + 1) := by
  rw [List.drop_eq_getElem_cons (by rw [scr_len]; exact h)]
  simp [scr]
theorem scr_ok (T : List Int) (L : Nat) (h : L ≤ 30) : errI (scr T L) [] = 0 := by
  unfold errI
  rw [if_neg (by rw [scr_len]; simp; omega), if_neg]
  simp only [List.length_nil, not_or, Bool.not_eq_true, List.any_eq_false]
  refine ⟨fun e he => ?_, by decide⟩
  simp only [scr, List.mem_map, List.mem_range] at he
  obtain ⟨i, hi, rfl⟩ := he
  unfold wrongB
  simp; omega
theorem scr_byte (T : List Int) (L : Nat) (hb : Byts T) : ∀ e ∈ scr T L, 0 ≤ e.2.2 ∧ e.2.2 < 256 := by
  intro e he
  simp only [scr, List.mem_map, List.mem_range] at he
  obtain ⟨i, hi, rfl⟩ := he
  show 0 ≤ T.getD i 0 ∧ T.getD i 0 < 256
  by_cases hi' : i < T.length
  · exact hb _ (by simp [List.getD, hi'])
  · simp [List.getD, List.getElem?_eq_none (Nat.le_of_not_lt hi')]
theorem take_oneMore (T : List Int) (k : Nat) : T.take (k + 1) = T.take k ++ (if k < T.length then [T.getD k 0] else []) := by
  rw [List.take_add_one]
  split
  · rename_i h; simp [List.getD, h]
  · rename_i h; simp [List.getElem?_eq_none (Nat.le_of_not_lt h)]
theorem scr_come (T : List Int) (L k : Nat) (hL : T.length = L) (s : DS) (hE : s.E = (scr T L).drop k) (hQ : s.Q.length < 32) : (comeC k [] ⟨s, [], [], []⟩).s.E = (scr T L).drop (k + 1) ∧ (comeC k [] ⟨s, [], [], []⟩).s.Q = s.Q ++ (if k < T.length then [T.getD k 0] else []) := by
  by_cases h : k < L
  · have hd := scr_drop T L k h
    rw [← hE] at hd
    have due : dueB k s = true := by unfold dueB; rw [hd]; simp
    rw [comeC_due due]
    have hn : nxt k [] ⟨s, [], [], []⟩ = ⟨evS { s with E := (scr T L).drop (k + 1) } ((k : Int), 1, T.getD k 0) [] [], evM { s with E := (scr T L).drop (k + 1) } ((k : Int), 1, T.getD k 0) [] [], [] ++ [((k : Int), 1, T.getD k 0)], [] ++ evF { s with E := (scr T L).drop (k + 1) } ((k : Int), 1, T.getD k 0) 0⟩ := by
      unfold nxt
      simp only
      rw [hd]
      rfl
    have hx : evS { s with E := (scr T L).drop (k + 1) } ((k : Int), 1, T.getD k 0) [] [] = { s with E := (scr T L).drop (k + 1), Q := s.Q ++ [T.getD k 0], b := orI s.b 2 } := by
      unfold evS queueS
      rw [if_neg (show ¬ (1 : Int) = 0 by decide), if_pos rfl, if_pos hQ]
    have nd : dueB k (nxt k [] ⟨s, [], [], []⟩).s = false := by
      rw [hn, hx]
      unfold dueB
      by_cases h2 : k + 1 < L
      · rw [scr_drop T L (k + 1) h2]; simp; omega
      · rw [List.drop_eq_nil_of_le (by rw [scr_len]; omega)]
    rw [comeC_done nd, hn, hx, if_pos (by omega)]
    exact ⟨rfl, rfl⟩
  · have hE0 : s.E = [] := by rw [hE]; exact List.drop_eq_nil_of_le (by rw [scr_len]; omega)
    have nd : dueB k s = false := by unfold dueB; rw [hE0]
    rw [comeC_done nd, if_neg (by omega)]
    exact ⟨by show s.E = _; rw [hE0, List.drop_eq_nil_of_le (by rw [scr_len]; omega)], by simp⟩

/-- Devices with these events and this queue, and what was read. -/
def GotQ (w : World) (p : Nat) (E : List Ev) (B Q : List Int) (v : Value) (wr : World) : Prop := ∃ s F G, Dev wr p s F ∧ s.Ok ∧ s.E = E ∧ s.Q = Q ∧ Sli wr 5 1 v B.length (byt B) G ∧ (∀ g ∈ F, w.heap.size ≤ g) ∧ (∀ g ∈ G, w.heap.size ≤ g) ∧ (∀ g ∈ F, g ∉ G) ∧ Kep w wr
theorem GotQ.world {w wr : World} {p : Nat} {E : List Ev} {B Q : List Int} {v : Value} (h : GotQ w p E B Q v wr) : Kep w wr := by
  obtain ⟨_, _, _, _, _, _, _, _, _, _, _, K⟩ := h; exact K
theorem GotQ.kep {w wr W : World} {p : Nat} {E : List Ev} {B Q : List Int} {v : Value} (h : GotQ w p E B Q v wr) (k : Kep wr W) : GotQ w p E B Q v W := by
  obtain ⟨s, F, G, d, ok, e, q, sl, f, g, n, K⟩ := h
  exact ⟨s, F, G, d.kep k, ok, e, q, sl.kep k, f, g, n, kep_trans K k⟩
theorem GotQ.come {w wr : World} {p : Nat} {B Q : List Int} {v : Value} {T : List Int} {L k : Nat} (hL : T.length = L) (h30 : L ≤ 30) (h : GotQ w p ((scr T L).drop k) B Q v wr) (hQ : Q.length < 32) :
    Calls Try.prog 20 #[.pointer (some ⟨p, 0, none⟩), .int .i64 k, .pointer none] wr fun e W => (∃ vc vw, e = .returned (.tuple #[vc, vw])) ∧ GotQ w p ((scr T L).drop (k + 1)) B (Q ++ (if k < T.length then [T.getD k 0] else [])) v W := by
  obtain ⟨s, F, G, d, ok, e, q, sl, f, g, n, K⟩ := h
  subst q
  refine (come_nil wr p s F d ok (by rw [e]; simp [scr_len]; omega) k).mono ?_
  obtain ⟨e1, e2⟩ := scr_come T L k hL s e hQ
  rintro e' W ⟨vc, vw, F', Gc, Gw, rfl, d', _, sc, _, k', f', _, _, ok', l', _⟩
  simp only [rwL, if_pos, List.nil_append] at k'
  refine ⟨⟨_, _, rfl⟩, _, F', G, d', ok'.s, e1, e2, sl.put k' (fun x hx hx' => n x hx' hx), ?_, g, ?_, K.put k' f⟩
  · intro x hx
    rcases f' x hx with h | h
    · exact f x h
    · have := K.size; omega
  · intro x hx hx'
    rcases f' x hx with h | h
    · exact n x h hx'
    · have := sl.lt x hx'; omega
theorem GotQ.in1 {w wr : World} {p : Nat} {E : List Ev} {B Q : List Int} {v : Value} (h : GotQ w p E B Q v wr) :
    Calls Try.prog 15 #[.pointer (some ⟨p, 0, none⟩), .int .i64 1] wr fun e W => e = .returned (.int .u32 Q.length) ∧ W = wr := by
  obtain ⟨s, F, G, d, ok, e, q, sl, f, g, n, K⟩ := h
  subst q
  have H := in_any d ok 1
  have e1 : inI s 1 = s.Q.length := by simp [inI]
  rw [e1] at H
  exact H
theorem GotQ.read {w wr : World} {p : Nat} {E : List Ev} {B Q : List Int} {v : Value} (h : GotQ w p E B Q v wr) :
    Calls Try.prog 21 #[.pointer (some ⟨p, 0, none⟩), .int .i64 0] wr fun e W => e = .returned (.int .u32 (firstI Q)) ∧ GotQ w p E B (Q.drop 1) v W := by
  obtain ⟨s, F, G, d, ok, e, q, sl, f, g, n, K⟩ := h
  subst q
  refine (read_dev d ok 0).mono ?_
  rintro e' W ⟨rfl, d', k'⟩
  refine ⟨by simp [inI], _, F, G, d', ?_, by simp [readS, e], by simp [readS], sl.put k' (fun x hx hx' => n x hx' hx), f, g, n, K.put k' f⟩
  have e0 : readS s 0 = { s with Q := s.Q.drop 1 } := by simp [readS]
  rw [e0]
  exact ⟨ok.b, ok.m, by have := ok.q; simp; omega, fun b hb => ok.qb b (List.mem_of_mem_drop hb), ok.d, ok.d6, ok.db, ok.n, ok.a, ok.f, ok.t, ok.cmd, ok.ev⟩
theorem GotQ.byts {w wr : World} {p : Nat} {E : List Ev} {B Q : List Int} {v : Value} (h : GotQ w p E B Q v wr) : Byts Q := by
  obtain ⟨s, F, G, d, ok, e, rfl, _⟩ := h; exact ok.qb
end Go.Proofs.Ytpieeefeicdfgaa
