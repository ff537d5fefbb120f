/- What went out, the disk's bytes, copies. -/
import Derived.Test.YtpieeefeicdfgabVmeth
import Derived.Test.YtpieeefeicdfgabVnew
import Derived.Test.YtpieeefeicdfgabMsame
namespace Go.Proofs.Ytpieeefeicdfgab
open Go.RowKit
set_option linter.unusedVariables false
set_option linter.unusedSimpArgs false

theorem Lies.str {w : World} {x : Option Addr} {B : List Int} {cap : Nat} (h : Lies w x (byt B)) (hx : x = none → B.length = 0 ∧ cap = 0) (hs : ∀ a, x = some a → a.spot = none) : Str w (.slice x B.length cap) (strL B) := by
  cases x with
  | none =>
    obtain ⟨h0, rfl⟩ := hx rfl
    obtain rfl := List.eq_nil_of_length_eq_zero h0
    exact fun w' _ => nil_string w'
  | some a =>
    intro w' k
    obtain ⟨g, off, sp⟩ := a
    obtain rfl : sp = none := hs _ rfl
    refine rd_string ⟨g, off, cap, rfl, fun j u hj => ?_⟩
    rcases h.kep k with h0 | ⟨b, o, e, _, hc⟩
    · rw [h0] at hj; simp at hj
    · cases e; rw [Addr.add_lit]; exact hc j u hj
set_option maxRecDepth 100000 in
/-- A row of bytes that lies there, as a string. -/
theorem Lies.strAny {w : World} {x : Option Addr} {B : List Int} {cap : Nat} (h : Lies w x (byt B)) : Str w (.slice x B.length cap) (strL B) := by
  by_cases hB : B = []
  · subst hB
    cases x with
    | none => exact fun w' _ => rfl
    | some a =>
      intro w' _
      show Sem.run Try.prog (convert 37 9 (.slice (some a) 0 cap)) w' = _
      rw [run_convert_bytes_string w' 37 9 5 _ _ cap Try.underlying37 Try.underlying5 Try.underlying9]
      exact run_bytesToString w' a _ cap [] (run_loadCells_list (P := Try.prog) w' a [] (by simp))
  · rcases id h with h0 | ⟨b, off, e, hb, hc⟩
    · exfalso; have := congrArg List.length h0; rw [byt_len] at this; exact hB (List.eq_nil_of_length_eq_zero this)
    · exact h.str (fun e' => by rw [e] at e'; cases e') (fun a e' => by rw [e] at e'; cases e'; rfl)
theorem Sli.str {w : World} {v : Value} {B : List Int} {F : List Nat} (h : Sli w 5 1 v B.length (byt B) F) : Str w v (strL B) := by
  rcases h.form with ⟨rfl, h0, _⟩ | ⟨g, off, cap, rfl, _, _, _, hg, hc, _⟩
  · obtain rfl := List.eq_nil_of_length_eq_zero h0
    exact fun w' _ => nil_string w'
  · exact Lies.str (.inr ⟨g, off, rfl, hg, hc⟩) (fun e => by cases e) (fun a e => by cases e; rfl)

/-- A slice of the caller's own. -/
def OwnB (w w' : World) (v : Value) (B : List Int) : Prop := ∃ G, Sli w' 5 1 v B.length (byt B) G ∧ ∀ g ∈ G, w.heap.size ≤ g
theorem output_any {w : World} {p : Nat} {s : DS} {F : List Nat} (h : Dev w p s F) (hO : (s.O.length : Int) ≤ 140737488355328) :
    Calls Try.prog 19 #[.pointer (some ⟨p, 0, none⟩)] w fun e w' => ∃ v, e = .returned v ∧ OwnB w w' v s.O ∧ Kep w w' := by
  have HW : (Hid (Calls Try.prog 28 #[.pointer (some ⟨p, 0, none⟩)] w fun e w' => e = .returned (.bool true) ∧ w' = w)) := h.works
  obtain ⟨vs, vq, vo, vb, Fs, Fq, Fo, Fb, D, hF⟩ := h
  have c5 : w.cell? ⟨p, 5, none⟩ = some vo := D.c 5
  obtain ⟨xo, co, hvo, hl, _⟩ := D.o.lies
  subst hvo
  have HC : Hid (Calls Try.prog 51 #[.slice xo s.O.length co] w fun e w' => ∃ v, e = .returned v ∧ w'.ownsRow w.heap.size 5 1 v s.O.length (byt s.O) ∧ Kep w w') := clone_u8 w xo s.O.length co (byt s.O) (by rw [byt_len]; omega) hl (byt_ones _) (by omega)
  clear D hl
  go_enter Try.func19, Try.ntmps19
  go_wp2_with (go_at_call 28; refine HW.out.mono ?_; rintro e w1 ⟨rfl, rfl⟩)
  refine HC.out.mono ?_
  rintro e w2 ⟨v, rfl, ho, k2⟩
  have HO : Hid _ := ho
  have K2 : Hid _ := k2
  clear ho k2
  go_wp2_with fail
  go_ret
  obtain ⟨G, s1, s2⟩ := Sli.of_owns HO.out
  exact ⟨_, rfl, ⟨G, s1, s2⟩, K2.out⟩

set_option maxHeartbeats 2000000 in
set_option maxRecDepth 100000 in
theorem bytes_any2 {w : World} {p : Nat} {s : DS} {F : List Nat} (h : Dev w p s F) (ok : s.Ok) :
    Calls Try.prog 53 #[.pointer (some ⟨p, 6, none⟩)] w fun e w' => ∃ v, e = .returned v ∧ OwnB w w' v s.D ∧ Kep w w' := by
  obtain ⟨vs, vq, vo, vb, Fs, Fq, Fo, Fb, D, hF⟩ := h
  have c6 : w.cell? ⟨p, 6, none⟩ = some vb := D.c 6
  obtain ⟨xb, cb, hvb, hl, hle, hmx, _⟩ := D.d.lies
  subst hvb
  obtain ⟨nb, hnb⟩ : ∃ nb, nb = s.D.length / 64 := ⟨_, rfl⟩
  rw [← hnb] at c6
  have h32 : (nb : Int) ≤ 32 := by have := ok.d; omega
  have hlen : s.D.length = 64 * nb := by have := ok.d6; omega
  have hmx' : (cb : Int) ≤ 9223372036854775807 := by unfold maxLen at hmx; omega
  have hle' : (nb : Int) ≤ cb := by omega
  obtain ⟨i0, hi, hz0, hz1, hz2⟩ := info_parts vinfo_u8
  have mk : ∀ w, Sem.run Try.prog (Instr.makeSlice 37 (.int .i64 0) (.int .i64 ((nb : Int) * 64))) w = .ok (.slice (some ⟨w.heap.size, 0, none⟩) 0 (nb * 64)) (w.alloc (.cells (madeCells #[.int .u8 0] (nb * 64)) 5)) := fun w => by
    obtain ⟨c, hc⟩ : ∃ c, c = nb * 64 := ⟨_, rfl⟩
    have e : ((c : Nat) : Int) = (nb : Int) * 64 := by omega
    rw [← e, ← hc]
    have := run_make (P := Try.prog) w 37 5 i0 _ Try.underlying37 hi hz0 .i64 .i64 0 c (by omega) (by omega) (by rw [hz2]; omega) (by omega)
    rw [hz1] at this
    simpa [Value.cells] using this
  have hmade : Hid (∀ w0 : World, w0.heap.size = w.heap.size → (w0.alloc (.cells (madeCells #[.int .u8 0] (nb * 64)) 5)).ownsRow w.heap.size 5 1 (.slice (some ⟨w0.heap.size, 0, none⟩) 0 (nb * 64)) 0 []) := fun w0 e => World.ownsRow_made w0 _ _ (by omega) (by unfold maxLen; omega) (by simp [madeCells])
  generalize madeCells #[.int .u8 0] (nb * 64) = Z at mk hmade
  have RG : Hid (∀ wr k, Kep w wr → k < nb → ∃ g off, xb = some ⟨g, off, none⟩ ∧ g < w.heap.size ∧ wr.rangeAt g (off + k * 64) (byt ((s.D.drop (64 * k)).take 64)) ∧ (byt ((s.D.drop (64 * k)).take 64)).length = 64) := fun wr k K hk => by
    have h1 := D.d
    rcases hl with h0 | ⟨g, off, e, hg, hc⟩
    · have := congrArg List.length h0; rw [byt_len] at this; simp only [List.length_nil] at this; omega
    · refine ⟨g, off, e, hg, fun j u hj => ?_, by rw [byt_len]; simp; omega⟩
      have hj64 : j < 64 := by have := (List.getElem?_eq_some_iff.1 hj).1; rw [byt_len] at this; simp at this; omega
      rw [byt_at, List.getElem?_take_of_lt hj64, List.getElem?_drop] at hj
      rw [K.cell hg, Nat.add_assoc]
      refine hc _ _ ?_
      rw [byt_at, Nat.mul_comm k 64]; exact hj
  have z0 := zero_blk
  have lp := block_lt D.box
  have hlen' : Hid (s.D.length = 64 * nb) := hlen
  clear D hl hle hmx ok hlen hnb
  go_enter Try.func53, Try.ntmps53
  go_wp2_with fail
  go_loopw [3, 5, 18] (fun a _ i wr => ∃ k : Nat, (k : Int) ≤ nb ∧ i = .int .i64 k ∧ Hid (Kep w wr) ∧ Hid (wr.ownsRow w.heap.size 5 1 a (64 * k) (byt (s.D.take (64 * k))))) (fun _ _ i _ => nb - (intOf i).toNat)
  case atStart => exact ⟨0, by omega, rfl, (Kep.refl w).alloc _, by have := hmade.out w rfl; rw [Hid]; simpa [byt] using this⟩
  case round =>
    obtain ⟨k, hk, rfl, K, O⟩ := hrel
    by_cases hlt : k < nb
    · have hlt' : (k : Int) < nb := by omega
      obtain ⟨g, off, rfl, hg, hr, hXl⟩ := RG.out wr k K.out hlt
      obtain ⟨xa, ca, rfl⟩ := owns_form O.out
      have hnx : Hid (byt (s.D.take (64 * (k + 1))) = byt (s.D.take (64 * k)) ++ byt ((s.D.drop (64 * k)).take 64)) := by
        rw [Hid, Nat.mul_add, Nat.mul_one, List.take_add]; simp [byt]
      have hxo : Hid (∀ u ∈ byt ((s.D.drop (64 * k)).take 64), u.oneCell' = true) := byt_one _
      generalize byt ((s.D.drop (64 * k)).take 64) = X at hr hXl hnx hxo
      have hr' : Hid (wr.rangeAt g (off + k * 64) X) := hr
      have hXl' : Hid (X.length = 64) := hXl
      have kB : Hid (Kep wr ((wr.alloc (.cells zb64 106)).setRow wr.heap.size X.toArray)) := ((Kep.refl wr).alloc _).setRow _ _ (Nat.le_refl _)
      have bB : Hid (((wr.alloc (.cells zb64 106)).setRow wr.heap.size X.toArray).heap[wr.heap.size]? = some (.cells X.toArray 106 (0, 0))) := setRow_heap _ _ _ _ _ _ (hat _ _ _ rfl)
      have oB : Hid (((wr.alloc (.cells zb64 106)).setRow wr.heap.size X.toArray).ownsRow w.heap.size 5 1 (.slice xa (64 * k) ca) (64 * k) (byt (s.D.take (64 * k)))) := (Soft.of_kep (B := 0) kB.out).owns O.out
      have nB : Hid (∀ j u, X[j]? = some u → ((wr.alloc (.cells zb64 106)).setRow wr.heap.size X.toArray).cell? ((⟨wr.heap.size, 0, none⟩ : Addr).add j) = some u) := fun j u hj => by rw [Addr.add_lit, Nat.zero_add, cell_of_block bB.out, List.getElem?_toArray]; exact hj
      have sB : Hid (w.heap.size ≤ ((wr.alloc (.cells zb64 106)).setRow wr.heap.size X.toArray).heap.size) := Nat.le_trans K.out.size kB.out.size
      clear hr hXl
      go_wp2_with (first
        | (refine wpList_load_mid rfl 106 (.tmp 20) rfl g (off + k * 64) rfl X _ hr'.out Try.underlying106 rfl (by rw [size_blk, hXl'.out]) ?_)
        | (refine wpList_store_row (by rfl) 106 (.tmp 5) (.tmp 21) (by rfl) wr.heap.size X.toArray (by rfl) (by rfl) 106 zb64 (hat _ _ _ rfl) (by rw [size_blk]; simp [hXl'.out]) (by simp [hXl'.out]; rfl) (by have := hxo.out; simpa using this) ?_)
        | (at_builtin; refine wpList_append_own _ rfl (.tmp 22) (.tmp 23) 37 rfl w.heap.size 5 i0 _ 1 1 Try.underlying37 hi hz0 hz1 hz2 rfl (by decide) _ (64 * k) (byt (s.D.take (64 * k))) rfl oB.out ⟨wr.heap.size, 0, none⟩ 64 64 X rfl (by rw [hXl'.out]) nB.out hxo.out (by unfold maxLen; omega) (by omega) sB.out ?_; intro v' w1 hown hgrow _; have hown' : Hid _ := hown; have hgrow' : Hid _ := hgrow; clear hown hgrow))
      go_roundw
      case rel =>
        refine ⟨k + 1, by omega, by go_num, (kep_trans K.out kB.out).by hgrow'.out (fun b e => (World.ownsRow.lt oB.out b e).1), ?_⟩
        rw [Hid, hnx.out, Nat.mul_add, Nat.mul_one]; exact hown'.out
      case measure => simp [intOf]; omega
    · go_wp2_with fail
      go_ret
      have hk' : k = nb := by omega
      have := O.out
      rw [List.take_of_length_le (by have := hlen'.out; omega)] at this
      obtain ⟨G, s1, s2⟩ := Sli.of_owns this
      refine ⟨_, rfl, ⟨G, ?_, s2⟩, K.out⟩
      rw [hlen'.out, ← hk']; exact s1
theorem disk_any {w : World} {p : Nat} {s : DS} {F : List Nat} (h : Dev w p s F) (ok : s.Ok) :
    Calls Try.prog 20 #[.pointer (some ⟨p, 0, none⟩)] w fun e w' => ∃ v, e = .returned v ∧ OwnB w w' v s.D ∧ Kep w w' := by
  have HW : (Hid (Calls Try.prog 28 #[.pointer (some ⟨p, 0, none⟩)] w fun e w' => e = .returned (.bool true) ∧ w' = w)) := h.works
  have HB : Hid (Calls Try.prog 53 #[.pointer (some ⟨p, 6, none⟩)] w fun e w' => ∃ v, e = .returned v ∧ OwnB w w' v s.D ∧ Kep w w') := bytes_any2 h ok
  clear h ok
  go_enter Try.func20, Try.ntmps20
  go_wp2_with (go_at_call 28; refine HW.out.mono ?_; rintro e w1 ⟨rfl, rfl⟩)
  refine HB.out.mono ?_
  rintro e w2 ⟨v, rfl, ho, k2⟩
  have HO : Hid _ := ho
  have K2 : Hid _ := k2
  clear ho k2
  go_wp2_with fail
  go_ret
  exact ⟨_, rfl, HO.out, K2.out⟩
end Go.Proofs.Ytpieeefeicdfgab
