/- A memory and the document's have the same bytes: told so. -/
import Derived.Test.YtpieeefeicdfgabMtwo
import Derived.Deep.RegionWith
import Derived.Deep.RegionHeld3
namespace Go.Proofs.Ytpieeefeicdfgab
open Go.RowKit
set_option linter.unusedVariables false

def strL (l : List Int) : ByteArray := l.foldl (fun r n => r.push (UInt8.ofNat n.toNat)) ByteArray.empty
theorem rd_string {w : World} {v : Value} {B : List Int} (h : Rd w v B) : Sem.run Try.prog (convert 37 9 v) w = .ok (.string (strL B)) w := by
  obtain ⟨g, off, c, rfl, hc⟩ := h
  rw [run_convert_bytes_string w 37 9 5 _ _ c Try.underlying37 Try.underlying5 Try.underlying9]
  refine run_bytesToString w ⟨g, off, none⟩ _ c B ?_
  have := run_loadCells_list (P := Try.prog) w ⟨g, off, none⟩ (byt B) hc
  rw [byt_len] at this
  exact this
theorem nil_string (w : World) : Sem.run Try.prog (convert 37 9 (.slice none 0 0)) w = .ok (.string (strL [])) w := by kernel_rfl

/-- A frame's bytes, in a new row, as a string, in this world and in any that keeps it. -/
def Str (w : World) (v : Value) (s : ByteArray) : Prop := ∀ w', Kep w w' → Sem.run Try.prog (convert 37 9 v) w' = .ok (.string s) w'
theorem Str.kep {w w' : World} {v : Value} {s : ByteArray} (h : Str w v s) (k : Kep w w') : Str w' v s := fun w2 k2 => h w2 (kep_trans k k2)
theorem rd_str {w : World} {v : Value} {B : List Int} (h : Rd w v B) (hB : B ≠ []) : Str w v (strL B) := fun _ k => rd_string (h.kep k hB)
theorem frame_str (w : World) (v : Value) (R n : Nat) (x : Option Addr) (Rb : Nat) (B : List Int) (h : Two w v R n x Rb B) (k : Nat) (hk : k < n) :
    Calls Try.prog 54 #[v, .int .i64 k] w fun e w' => ∃ u : Value, e = .returned u ∧ Str w' u (strL (frameL B k)) ∧ Kep w w' := by
  have hl := frameL_len (B := B) (i := k) (by have := h.len; omega)
  refine (frame_yes w v R _ B h.ram h.row (fits_range h.len) k (by simpa using hk)).mono ?_
  rintro e w' ⟨rfl, K, hb⟩
  have hg : (List.range n).getD k 0 = k := by simp [List.getD, hk]
  rw [hg] at hb
  refine ⟨_, rfl, rd_str ⟨w.heap.size, 0, 64, by rw [hl], ?_⟩ (by intro e; rw [e] at hl; simp at hl), K⟩
  intro j u hu
  rw [Addr.add_lit, Nat.zero_add, cell_of_block hb]
  simpa using hu
theorem refFrame_str (w : World) (v : Value) (R n : Nat) (x : Option Addr) (Rb : Nat) (B : List Int) (h : Two w v R n x Rb B) (k : Nat) (hk : k < n) :
    Calls Try.prog 55 #[refV x B.length, .int .i64 k] w fun e w' => ∃ u : Value, e = .returned u ∧ Str w' u (strL (frameL B k)) ∧ Kep w w' := by
  have hl := frameL_len (B := B) (i := k) (by have := h.len; omega)
  refine (refFrame_yes w x Rb B h.ref n h.len k hk).mono ?_
  rintro e w' ⟨u, rfl, hr, K⟩
  exact ⟨u, rfl, rd_str hr (by intro e; rw [e] at hl; simp at hl), K⟩

end Go.Proofs.Ytpieeefeicdfgab
