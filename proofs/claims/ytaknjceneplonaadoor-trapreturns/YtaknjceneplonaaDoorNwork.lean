/- What each of the nine does to the deed. -/
import Derived.Test.YtaknjceneplonaaDoorNmeth
import Derived.Deep.RegionHeld3
import Derived.Deep.RegionWith
import Derived.WalkLawsBesides
namespace Go.Proofs.YtaknjceneplonaaDoor
open Go.RowKit
set_option linter.unusedVariables false
set_option linter.unusedSimpArgs false

/-- What a method that gives up leaves. -/
abbrev gaveUp : Ending := .panicked [{ v := .iface 65 (.agg #[]), recovered := false }]

set_option maxHeartbeats 800000 in
theorem for_yes {w : World} {p : Nat} {op : Int} {a b : Nat} {imm n : Int} {s : Sta} {e : Eff} (ok : s.Ok) (h : Dd w p op a b imm n s e) (hu : usr s = false) :
    Calls Tryd.prog 32 #[.pointer (some ⟨p, 0, none⟩)] w fun x w' => x = .returned (.tuple #[]) ∧ w' = w := by
  have U : Hid (Calls Tryd.prog 33 #[.pointer (some ⟨p, 0, none⟩)] w fun x w' => x = .returned (.bool false) ∧ w' = w) := by have := user_any ok h; rw [hu] at this; exact this
  clear h hu
  go_enter Tryd.func32, Tryd.ntmps32
  go_wp2_with (go_at_call 33; refine U.out.mono ?_; rintro x w' ⟨rfl, rfl⟩)
  go_end0
  exact ⟨rfl, rfl⟩

set_option maxHeartbeats 800000 in
theorem for_no {w : World} {p : Nat} {op : Int} {a b : Nat} {imm n : Int} {s : Sta} {e : Eff} (ok : s.Ok) (h : Dd w p op a b imm n s e) (hu : usr s = true) :
    Calls Tryd.prog 32 #[.pointer (some ⟨p, 0, none⟩)] w fun x w' => x = gaveUp ∧ w' = w := by
  have U : Hid (Calls Tryd.prog 33 #[.pointer (some ⟨p, 0, none⟩)] w fun x w' => x = .returned (.bool true) ∧ w' = w) := by have := user_any ok h; rw [hu] at this; exact this
  clear h hu
  go_enter Tryd.func32, Tryd.ntmps32
  go_wp2_with (go_at_call 33; refine U.out.mono ?_; rintro x w' ⟨rfl, rfl⟩)
  exact ⟨rfl, rfl, rfl⟩

set_option maxHeartbeats 800000 in
theorem halt_no {w : World} {p : Nat} {op : Int} {a b : Nat} {imm n : Int} {s : Sta} {e : Eff} (ok : s.Ok) (h : Dd w p op a b imm n s e) (hu : usr s = true) :
    Calls Tryd.prog 21 #[.pointer (some ⟨p, 0, none⟩)] w fun x w' => x = gaveUp ∧ w' = w := by
  have U : Hid (Calls Tryd.prog 32 #[.pointer (some ⟨p, 0, none⟩)] w fun x w' => x = gaveUp ∧ w' = w) := for_no ok h hu
  clear h hu
  go_enter Tryd.func21, Tryd.ntmps21
  go_wp2_with (go_at_call 32; refine U.out.mono ?_; rintro x w' ⟨rfl, rfl⟩)
  exact ⟨rfl, rfl, rfl⟩

set_option maxHeartbeats 800000 in
theorem halt_yes {w : World} {p : Nat} {op : Int} {a b : Nat} {imm n : Int} {s : Sta} {e : Eff} (ok : s.Ok) (h : Dd w p op a b imm n s e) (hu : usr s = false) :
    Calls Tryd.prog 21 #[.pointer (some ⟨p, 0, none⟩)] w fun x w' => x = .returned (.tuple #[]) ∧ Put [p] w w' ∧ Dd w' p op a b imm n s.halt e := by
  have U : Hid (Calls Tryd.prog 32 #[.pointer (some ⟨p, 0, none⟩)] w fun x w' => x = .returned (.tuple #[]) ∧ w' = w) := for_yes ok h hu
  have H : Hid (Dd w p op a b imm n s e) := h
  have c := h.hl
  have z := h.frozen 23
  clear h hu
  go_enter Tryd.func21, Tryd.ntmps21
  go_wp2_with (go_at_call 32; refine U.out.mono ?_; rintro x w' ⟨rfl, rfl⟩)
  go_end0
  exact ⟨rfl, by (repeat (first | (with_reducible assumption) | (with_reducible exact Hid.out (by assumption)) | (with_reducible exact Put.of_kep (Hid.out (by assumption))) | (with_reducible exact Put.of_kep (by assumption)) | (with_reducible exact Put.refl _) | (with_reducible refine Put.drew ?_) | (with_reducible refine Put.drewN ?_ _) | (with_reducible refine Put.alloc ?_ _) | (with_reducible refine Put.setRowNew ?_ (by (first | omega | (simp only [World.size_alloc, World.size_setCell, size_setRow, World.size_drew]; done) | (simp only [World.size_alloc, World.size_setCell, size_setRow, World.size_drew]; omega))) _) | (with_reducible refine Put.setCell ?_ (by simp) _) | (with_reducible refine Put.setCellNew ?_ (by first | omega | (simp only []; omega) | (show _ ≤ _; omega)) _))), by (repeat (first | (with_reducible assumption) | (with_reducible refine Dd.kep ?_ (by assumption)) | (with_reducible exact Hid.out (by assumption)) | (with_reducible refine Dd.drew ?_) | (with_reducible refine Dd.drewN ?_ _) | (with_reducible refine Dd.alloc ?_ _) | (with_reducible refine Dd.setReg ?_ _ (by omega) _) | (with_reducible refine Dd.setCtl ?_ _ (by omega) _) | (with_reducible refine Dd.setPc ?_ _) | (with_reducible refine Dd.setPs ?_ _) | (with_reducible refine Dd.setHl ?_) | (with_reducible refine Dd.setF ?_ _) | (with_reducible refine Dd.setO ?_ _) | (with_reducible refine Dd.setP ?_ _) | (with_reducible refine Dd.setX ?_ _) | (with_reducible refine Dd.setOther ?_ (by (first | omega | (simp only []; omega) | (show _ ≠ _; omega))) _)))⟩
end Go.Proofs.YtaknjceneplonaaDoor
