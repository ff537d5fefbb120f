/- A memory and the document's have the same bytes: told so. -/
import Derived.Test.YtiegihaagolmdaaMtwo
import Derived.Deep.RegionWith
import Derived.Deep.RegionHeld3
namespace Go.Proofs.Ytiegihaagolmdaa
open Go.RowKit
set_option linter.unusedVariables false

def strL (l : List Int) : ByteArray := l.foldl (fun r n => r.push (UInt8.ofNat n.toNat)) ByteArray.empty
theorem rd_string {w : World} {v : Value} {B : List Int} (h : Rd w v B) : Sem.run Try.prog (convert 24 9 v) w = .ok (.string (strL B)) w := by
  obtain ⟨g, off, c, rfl, hc⟩ := h
  rw [run_convert_bytes_string w 24 9 5 _ _ c Try.underlying24 Try.underlying5 Try.underlying9]
  refine run_bytesToString w ⟨g, off, none⟩ _ c B ?_
  have := run_loadCells_list (P := Try.prog) w ⟨g, off, none⟩ (byt B) hc
  rw [byt_len] at this
  exact this
theorem nil_string (w : World) : Sem.run Try.prog (convert 24 9 (.slice none 0 0)) w = .ok (.string (strL [])) w := by kernel_rfl

/-- A frame's bytes, in a new row, as a string, in this world and in any that keeps it. -/
def Str (w : World) (v : Value) (s : ByteArray) : Prop := ∀ w', Kep w w' → Sem.run Try.prog (convert 24 9 v) w' = .ok (.string s) w'
theorem Str.kep {w w' : World} {v : Value} {s : ByteArray} (h : Str w v s) (k : Kep w w') : Str w' v s := fun w2 k2 => h w2 (kep_trans k k2)
theorem rd_str {w : World} {v : Value} {B : List Int} (h : Rd w v B) (hB : B ≠ []) : Str w v (strL B) := fun _ k => rd_string (h.kep k hB)
theorem frame_str (w : World) (v : Value) (R n : Nat) (x : Option Addr) (Rb : Nat) (B : List Int) (h : Two w v R n x Rb B) (k : Nat) (hk : k < n) :
    Calls Try.prog 18 #[v, .int .i64 k] w fun e w' => ∃ u : Value, e = .returned u ∧ Str w' u (strL (frameL B k)) ∧ Kep w w' := by
  have hl := frameL_len (B := B) (i := k) (by have := h.len; omega)
  refine (frame_yes w v R _ B h.ram h.row (fits_range h.len) k (by simpa using hk)).mono ?_
  rintro e w' ⟨rfl, K, hb⟩
  have hg : (List.range n).getD k 0 = k := by simp [List.getD, hk]
  rw [hg] at hb
  refine ⟨_, rfl, rd_str ⟨w.heap.size, 0, 64, by rw [hl], ?_⟩ (by intro e; rw [e] at hl; simp at hl), K⟩
  intro j u hu
  rw [Addr.add_lit, Nat.zero_add, cell_of_block hb]
  simpa using hu
theorem refFrame_str (w : World) (v : Value) (R n : Nat) (x : Option Addr) (Rb : Nat) (B : List Int) (h : Two w v R n x Rb B) (k : Nat) (hk : k < n) :
    Calls Try.prog 24 #[refV x B.length, .int .i64 k] w fun e w' => ∃ u : Value, e = .returned u ∧ Str w' u (strL (frameL B k)) ∧ Kep w w' := by
  have hl := frameL_len (B := B) (i := k) (by have := h.len; omega)
  refine (refFrame_yes w x Rb B h.ref n h.len k hk).mono ?_
  rintro e w' ⟨u, rfl, hr, K⟩
  exact ⟨u, rfl, rd_str hr (by intro e; rw [e] at hl; simp at hl), K⟩

set_option maxHeartbeats 4000000 in
set_option maxRecDepth 100000 in
theorem same_any (w : World) (v : Value) (R n : Nat) (x : Option Addr) (Rb : Nat) (B : List Int) (h : Two w v R n x Rb B) :
    Calls Try.prog 11 #[v, refV x B.length] w fun e w' => e = .returned (.bool true) ∧ Kep w w' := by
  have h' : Hid (Two w v R n x Rb B) := h
  have hlen := h.len
  rw [hlen]
  have hn : (n : Int) ≤ 512 := by have := h.le; omega
  have g4 : ((64 * n : Nat) : Int) / 64 = n := by omega
  have H1 : Hid (∀ w' (k : Nat), Kep w w' → k < n → Calls Try.prog 18 #[v, .int .i64 k] w' fun e w'' => ∃ u : Value, e = .returned u ∧ Str w'' u (strL (frameL B k)) ∧ Kep w' w'') := fun w' k K hk => frame_str w' v R n x Rb B (h'.out.kep K) k hk
  have H2 : Hid (∀ w' (k : Nat), Kep w w' → k < n → Calls Try.prog 24 #[refV x (64 * n), .int .i64 k] w' fun e w'' => ∃ u : Value, e = .returned u ∧ Str w'' u (strL (frameL B k)) ∧ Kep w' w'') := fun w' k K hk => by rw [← hlen]; exact refFrame_str w' v R n x Rb B (h'.out.kep K) k hk
  clear h hlen
  go_enter Try.func11, Try.ntmps11
  go_wp2_with fail
  go_loopw [6] (fun i wr => ∃ k : Nat, (k : Int) ≤ n ∧ i = .int .i64 k ∧ Hid (Kep (w.alloc (.cells #[.slice x (64 * n) (64 * n)] 26)) wr)) (fun i _ => n - (intOf i).toNat)
  case atStart => exact ⟨0, by omega, rfl, Kep.refl _⟩
  case round =>
    obtain ⟨k, hk, rfl, K⟩ := hrel
    have hbx : wr.heap[w.heap.size]? = some (.cells #[.slice x (64 * n) (64 * n)] 26 (0, 0)) := K.out.block (hat _ _ _ rfl)
    have c0 : wr.cell? ⟨w.heap.size, 0, none⟩ = some (.slice x (64 * n) (64 * n)) := by rw [cell_of_block hbx]; rfl
    have lw := block_lt hbx
    have K0 : Hid (Kep w wr) := kep_trans ((Kep.refl w).alloc _) K.out
    by_cases hlt : k < n
    · have hlt' : (k : Int) < n := by omega
      have G1 : Hid (∀ w', Kep wr w' → Calls Try.prog 18 #[v, .int .i64 k] w' fun e w'' => ∃ u : Value, e = .returned u ∧ Str w'' u (strL (frameL B k)) ∧ Kep w' w'') := fun w' K' => H1.out w' k (kep_trans K0.out K') hlt
      have G2 : Hid (∀ w', Kep wr w' → Calls Try.prog 24 #[refV x (64 * n), .int .i64 k] w' fun e w'' => ∃ u : Value, e = .returned u ∧ Str w'' u (strL (frameL B k)) ∧ Kep w' w'') := fun w' K' => H2.out w' k (kep_trans K0.out K') hlt
      generalize strL (frameL B k) = s at G1 G2
      clear hbx
      have K1 : Hid (Kep wr wr.drew) := (Kep.refl _).drew
      go_wp2_with fail
      go_region_with (first
        | (go_at_call 18; refine (G1.out _ K1.out).mono ?_; rintro e wa ⟨u1, rfl, s1, k1⟩; have j1 : Hid (Kep wr wa) := kep_trans K1.out k1; have z1 := s1 wa (Kep.refl _); have z0 := (j1.out.cell (o := 0) lw).trans c0; have s1' : Hid (Str wa u1 s) := s1; clear s1 k1)
        | (go_at_call 24; refine (G2.out _ j1.out).mono ?_; rintro e wb ⟨u2, rfl, s2, k2⟩; have z2 := s2 wb (Kep.refl _); have z3 := s1'.out wb k2; have z4 := (k2.cell (o := 0) (j1.out.lt lw)).trans z0; have j2 : Hid (Kep wr wb) := kep_trans j1.out k2; clear s2 k2))
      all_goals
        go_wp2_with fail
        go_roundw
        case rel => exact ⟨k + 1, by omega, by go_num, kep_trans K.out j2.out⟩
        case measure => simp [intOf]; omega
    · obtain rfl : k = n := by omega
      have HS : Hid (∀ m, Calls Try.prog 16 #[v] (wr.drewN m) fun e w' => e = .returned (.int .u32 (64 * k)) ∧ w' = wr.drewN m) := fun m => by
        have := size_any (wr.drewN m) v R _ (h'.out.kep (K0.out.drewN m)).ram (by simp; omega)
        rw [List.length_range] at this
        exact this
      have HF : Hid (∀ m t, (t < 0 ∨ (k : Int) ≤ t) → Calls Try.prog 18 #[v, .int .i64 t] (wr.drewN m) fun e w' => e = .returned (.slice none 0 0) ∧ w' = wr.drewN m) := fun m t ht => frame_no (wr.drewN m) v R _ (h'.out.kep (K0.out.drewN m)).ram t (by simpa using ht)
      clear hbx H1 H2
      go_wp2_with fail
      go_quiet (first | (go_at_call 16; exact (HS.out _).mono fun _ _ h => ⟨h.1, _, h.2⟩) | (go_at_call 18; exact (HF.out _ _ (by omega)).mono fun _ _ h => ⟨h.1, _, h.2⟩))
      go_wp2_with fail
      go_ret
      exact ⟨rfl, K0.out.drewN _⟩
end Go.Proofs.Ytiegihaagolmdaa
