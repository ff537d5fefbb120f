/- A byte is typed and read: told so. -/
import Derived.Test.YtpieeefeicdfgabVout
namespace Go.Proofs.Ytpieeefeicdfgab
open Go.RowKit
set_option linter.unusedVariables false
set_option linter.unusedSimpArgs false

theorem byts_nil : Byts [] := fun b hb => by simp at hb
theorem z7 : (0 : Int) ≤ 0 ∧ (0 : Int) ≤ 7 := by decide
theorem ds0_ok {E : List Ev} {Z : List Int} (h : errI E Z = 0) (hE : ∀ e ∈ E, 0 ≤ e.2.2 ∧ e.2.2 < 256) (hZ : Byts Z) : (ds0 E Z).Ok := by
  obtain ⟨h1, h2, h3, h4⟩ := errI_ok h
  refine ⟨z7, z7, by simp [ds0], byts_nil, h2, h4, hZ, z32, z32, z32, z32, .inr ⟨.inl rfl, rfl, rfl, rfl⟩, fun e he => ⟨?_, hE e he⟩⟩
  cases hw : wrongB e with
  | false => rfl
  | true => rw [List.any_eq_false] at h3; exact absurd hw (h3 e he)
theorem mem0 (w : World) (R : Nat) (F : List Nat) : MemS w (.pointer none) R [] [] F := .inl ⟨rfl, rfl, rfl⟩
theorem fits0 : Fits [] [] := fun i hi => by simp at hi
/-- A Come with no memory. -/
theorem come_nil (w : World) (p : Nat) (s : DS) (F : List Nat) (h : Dev w p s F) (ok : s.Ok) (hE : s.E.length ≤ 64) (step : Int) :
    Calls Try.prog 8 #[.pointer (some ⟨p, 0, none⟩), .int .i64 step, .pointer none] w (ComeP w p F (.pointer none) 0 [] [] (comeC step [] ⟨s, [], [], []⟩)) := come_any w p s F h ok hE none 0 [] [] (mem0 w 0 F) byts_nil fits0 step

abbrev evW : List Ev := [(3, 1, 65)]
theorem errW : errI evW [] = 0 := by decide
theorem comeW2 : comeC 2 [] ⟨ds0 evW [], [], [], []⟩ = ⟨ds0 evW [], [], [], []⟩ := comeC_done rfl
theorem comeW3 : comeC 3 [] ⟨ds0 evW [], [], [], []⟩ = ⟨{ ds0 [] [] with b := 2, Q := [65] }, [], [(3, 1, 65)], []⟩ := by
  rw [comeC_due rfl, comeC_done rfl]
  rfl
set_option maxHeartbeats 2000000 in
theorem works11_any (w : World) : Calls Try.prog 7 #[] w fun e w' => e = .returned (.bool true) ∧ Kep w w' := by
  have okW : Hid (ds0 evW []).Ok := ds0_ok errW (by decide) byts_nil
  have HN : Hid (Calls Try.prog 6 #[.slice (some ⟨w.heap.size, 0, none⟩) 1 1, .slice none 0 0] (w.alloc (.cells #[.int .i64 3, .int .i64 1, .int .u8 65] 68)) fun e w' => ∃ p F, e = .returned (.tuple #[.pointer (some ⟨p, 0, none⟩), .int .i64 0]) ∧ Dev w' p (ds0 evW []) F ∧ Kep (w.alloc (.cells #[.int .i64 3, .int .i64 1, .int .u8 65] 68)) w' ∧ ∀ g ∈ F, (w.alloc (.cells #[.int .i64 3, .int .i64 1, .int .u8 65] 68)).heap.size ≤ g) := by
    refine vnew_ok _ _ 1 1 evW rfl (Nat.le_refl _) (.inr ⟨w.heap.size, 0, rfl, by simp, fun j u hj => ?_⟩) none 0 0 [] rfl (Nat.le_refl _) (by decide) (.inl rfl) errW
    rw [Nat.zero_add, cell_of_block (heap_alloc_new w _)]
    simpa [evs, evV] using hj
  go_enter Try.func7, Try.ntmps7
  go_wp2_with fail
  refine HN.out.mono ?_
  rintro e w1 ⟨p, F, rfl, d1, k1, f1⟩
  have D1 : Hid (Dev w1 p (ds0 evW []) F) := d1
  have K1 : Hid (Kep w w1) := kep_trans ((Kep.refl w).alloc _) k1
  have F1 : Hid (∀ g ∈ F, w.heap.size ≤ g) := fun g hg => by have := f1 g hg; simp at this; omega
  clear d1 k1 f1 HN
  go_wp2_with fail
  refine (come_nil w1 p _ F D1.out okW.out (by decide) 2).mono ?_
  rw [comeW2]
  rintro e w2 ⟨vc, vw, F2, Gc, Gw, rfl, d2, _, sc, sw, k2, f2, _, _, _, _, _⟩
  obtain ⟨xc, cc, rfl, _⟩ := sc.lies
  obtain ⟨xw, cw, rfl, _⟩ := sw.lies
  have D2 : Hid (Dev w2 p (ds0 evW []) F2) := d2
  have K2 : Hid (Kep w w2) := K1.out.put k2 (fun g hg => by simp [rwL] at hg; exact F1.out g hg)
  have F2' : Hid (∀ g ∈ F2, w.heap.size ≤ g) := fun g hg => by
    rcases f2 g hg with h | h
    · exact F1.out g h
    · have := K1.out.size; omega
  clear d2 k2 f2 sc sw
  simp only [List.length_nil]
  go_wp2_with fail
  refine (come_nil w2 p _ F2 D2.out okW.out (by decide) 3).mono ?_
  rw [comeW3]
  rintro e w3 ⟨vc3, vw3, F3, Gc3, Gw3, rfl, d3, _, sc3, sw3, k3, f3, _, _, ok3, _, _⟩
  obtain ⟨xc3, cc3, rfl, _⟩ := sc3.lies
  obtain ⟨xw3, cw3, rfl, _⟩ := sw3.lies
  have D3 : Hid (Dev w3 p _ F3) := d3
  have K3 : Hid (Kep w w3) := K2.out.put k3 (fun g hg => by simp [rwL] at hg; exact F2'.out g hg)
  have F3' : Hid (∀ g ∈ F3, w.heap.size ≤ g) := fun g hg => by
    rcases f3 g hg with h | h
    · exact F2'.out g h
    · have := K2.out.size; omega
  have HR : Hid (Calls Try.prog 27 #[.pointer (some ⟨p, 0, none⟩), .int .i64 0] w3 fun e w' => e = .returned (.int .u32 65) ∧ Kep w w') := (read_dev d3 ok3.s 0).mono (by rintro e w' ⟨rfl, _, k⟩; exact ⟨rfl, K3.out.put k F3'.out⟩)
  clear d3 k3 f3 sc3 sw3 ok3
  simp only [List.length_cons, List.length_nil]
  go_wp2_with (go_at_call 27; refine HR.out.mono ?_; rintro e w4 ⟨rfl, k4⟩)
  go_ret
  exact ⟨rfl, k4⟩
end Go.Proofs.Ytpieeefeicdfgab
