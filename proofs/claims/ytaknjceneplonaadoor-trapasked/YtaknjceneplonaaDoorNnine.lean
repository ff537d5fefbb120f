/- What each of the nine does to the deed, in its rings. By mknine.py. -/
import Derived.Test.YtaknjceneplonaaDoorNwork
namespace Go.Proofs.YtaknjceneplonaaDoor
open Go.RowKit
set_option linter.unusedVariables false
set_option linter.unusedSimpArgs false

set_option maxHeartbeats 800000 in
theorem writeControl_no {w : World} {p : Nat} {op : Int} {a b : Nat} {imm n : Int} {s : Sta} {e : Eff} (ok : s.Ok) (h : Dd w p op a b imm n s e) (hu : usr s = true) :
    Calls Tryd.prog 27 #[.pointer (some ⟨p, 0, none⟩)] w fun x w' => x = gaveUp ∧ w' = w := by
  have U : Hid (Calls Tryd.prog 32 #[.pointer (some ⟨p, 0, none⟩)] w fun x w' => x = gaveUp ∧ w' = w) := for_no ok h hu
  clear h hu
  go_enter Tryd.func27, Tryd.ntmps27
  go_wp2_with (go_at_call 32; refine U.out.mono ?_; rintro x w' ⟨rfl, rfl⟩)
  exact ⟨rfl, rfl, rfl⟩

set_option maxHeartbeats 800000 in
theorem takeIn_no {w : World} {p : Nat} {op : Int} {a b : Nat} {imm n : Int} {s : Sta} {e : Eff} (ok : s.Ok) (h : Dd w p op a b imm n s e) (hu : usr s = true) :
    Calls Tryd.prog 28 #[.pointer (some ⟨p, 0, none⟩)] w fun x w' => x = gaveUp ∧ w' = w := by
  have U : Hid (Calls Tryd.prog 32 #[.pointer (some ⟨p, 0, none⟩)] w fun x w' => x = gaveUp ∧ w' = w) := for_no ok h hu
  clear h hu
  go_enter Tryd.func28, Tryd.ntmps28
  go_wp2_with (go_at_call 32; refine U.out.mono ?_; rintro x w' ⟨rfl, rfl⟩)
  exact ⟨rfl, rfl, rfl⟩

set_option maxHeartbeats 800000 in
theorem sendOut_no {w : World} {p : Nat} {op : Int} {a b : Nat} {imm n : Int} {s : Sta} {e : Eff} (ok : s.Ok) (h : Dd w p op a b imm n s e) (hu : usr s = true) :
    Calls Tryd.prog 29 #[.pointer (some ⟨p, 0, none⟩)] w fun x w' => x = gaveUp ∧ w' = w := by
  have U : Hid (Calls Tryd.prog 32 #[.pointer (some ⟨p, 0, none⟩)] w fun x w' => x = gaveUp ∧ w' = w) := for_no ok h hu
  clear h hu
  go_enter Tryd.func29, Tryd.ntmps29
  go_wp2_with (go_at_call 32; refine U.out.mono ?_; rintro x w' ⟨rfl, rfl⟩)
  exact ⟨rfl, rfl, rfl⟩

set_option maxHeartbeats 1600000 in
set_option maxRecDepth 100000 in
theorem goBack_user {w : World} {p : Nat} {op : Int} {a b : Nat} {imm n : Int} {s : Sta} {e : Eff} (ok : s.Ok) (h : Dd w p op a b imm n s e) (hu : usr s = true) :
    Calls Tryd.prog 22 #[.pointer (some ⟨p, 0, none⟩)] w fun x w' => x = .returned (.tuple #[]) ∧ Put [p] w w' ∧ Dd w' p op a b imm n s e := by
  have U : Hid (Calls Tryd.prog 33 #[.pointer (some ⟨p, 0, none⟩)] w fun x w' => x = .returned (.bool true) ∧ w' = w) := by have := user_any ok h; rw [hu] at this; exact this
  have H : Hid (Dd w p op a b imm n s e) := h
  clear h hu
  go_enter Tryd.func22, Tryd.ntmps22
  go_wp2_with (go_at_call 33; refine U.out.mono ?_; rintro x w' ⟨rfl, rfl⟩)
  all_goals (first | go_end0 | refine bodyPost_ret (results_none rfl _ _ _) rfl ?_)
  all_goals exact ⟨rfl, by (repeat (first | (with_reducible assumption) | (with_reducible exact Hid.out (by assumption)) | (with_reducible exact Put.of_kep (Hid.out (by assumption))) | (with_reducible exact Put.of_kep (by assumption)) | (with_reducible exact Put.refl _) | (with_reducible refine Put.drew ?_) | (with_reducible refine Put.drewN ?_ _) | (with_reducible refine Put.alloc ?_ _) | (with_reducible refine Put.setRowNew ?_ (by (first | omega | (simp only [World.size_alloc, World.size_setCell, size_setRow, World.size_drew]; done) | (simp only [World.size_alloc, World.size_setCell, size_setRow, World.size_drew]; omega))) _) | (with_reducible refine Put.setCell ?_ (by simp) _) | (with_reducible refine Put.setCellNew ?_ (by first | omega | (simp only []; omega) | (show _ ≤ _; omega)) _))), by (repeat (first | (with_reducible assumption) | (with_reducible refine Dd.kep ?_ (by assumption)) | (with_reducible exact Hid.out (by assumption)) | (with_reducible refine Dd.drew ?_) | (with_reducible refine Dd.drewN ?_ _) | (with_reducible refine Dd.alloc ?_ _) | (with_reducible refine Dd.setReg ?_ _ (by omega) _) | (with_reducible refine Dd.setCtl ?_ _ (by omega) _) | (with_reducible refine Dd.setPc ?_ _) | (with_reducible refine Dd.setPs ?_ _) | (with_reducible refine Dd.setHl ?_) | (with_reducible refine Dd.setF ?_ _) | (with_reducible refine Dd.setO ?_ _) | (with_reducible refine Dd.setP ?_ _) | (with_reducible refine Dd.setX ?_ _) | (with_reducible refine Dd.setOther ?_ (by (first | omega | (simp only []; omega) | (show _ ≠ _; omega))) _)))⟩

set_option maxHeartbeats 1600000 in
set_option maxRecDepth 100000 in
theorem goBack_sys {w : World} {p : Nat} {op : Int} {a b : Nat} {imm n : Int} {s : Sta} {e : Eff} (ok : s.Ok) (h : Dd w p op a b imm n s e) (hu : usr s = false) :
    Calls Tryd.prog 22 #[.pointer (some ⟨p, 0, none⟩)] w fun x w' => x = .returned (.tuple #[]) ∧ Put [p] w w' ∧ Dd w' p op a b imm n ((s.go (s.c 2)).mark (mskI (s.c 3))) e := by
  have U : Hid (Calls Tryd.prog 33 #[.pointer (some ⟨p, 0, none⟩)] w fun x w' => x = .returned (.bool false) ∧ w' = w) := by have := user_any ok h; rw [hu] at this; exact this
  have H : Hid (Dd w p op a b imm n s e) := h
  have c2 := h.ctl 2 (by decide)
  have c3 := h.ctl 3 (by decide)
  have c13 := h.pc
  have c14 := h.ps
  have z13 := h.frozen 13
  have z14 := h.frozen 14
  have m3 := msk_is _ (ok.c 3)
  clear h hu
  go_enter Tryd.func22, Tryd.ntmps22
  go_wp2_with (go_at_call 33; refine U.out.mono ?_; rintro x w' ⟨rfl, rfl⟩)
  all_goals (first | go_end0 | refine bodyPost_ret (results_none rfl _ _ _) rfl ?_)
  all_goals exact ⟨rfl, by (repeat (first | (with_reducible assumption) | (with_reducible exact Hid.out (by assumption)) | (with_reducible exact Put.of_kep (Hid.out (by assumption))) | (with_reducible exact Put.of_kep (by assumption)) | (with_reducible exact Put.refl _) | (with_reducible refine Put.drew ?_) | (with_reducible refine Put.drewN ?_ _) | (with_reducible refine Put.alloc ?_ _) | (with_reducible refine Put.setRowNew ?_ (by (first | omega | (simp only [World.size_alloc, World.size_setCell, size_setRow, World.size_drew]; done) | (simp only [World.size_alloc, World.size_setCell, size_setRow, World.size_drew]; omega))) _) | (with_reducible refine Put.setCell ?_ (by simp) _) | (with_reducible refine Put.setCellNew ?_ (by first | omega | (simp only []; omega) | (show _ ≤ _; omega)) _))), by (repeat (first | (with_reducible assumption) | (with_reducible refine Dd.kep ?_ (by assumption)) | (with_reducible exact Hid.out (by assumption)) | (with_reducible refine Dd.drew ?_) | (with_reducible refine Dd.drewN ?_ _) | (with_reducible refine Dd.alloc ?_ _) | (with_reducible refine Dd.setReg ?_ _ (by omega) _) | (with_reducible refine Dd.setCtl ?_ _ (by omega) _) | (with_reducible refine Dd.setPc ?_ _) | (with_reducible refine Dd.setPs ?_ _) | (with_reducible refine Dd.setHl ?_) | (with_reducible refine Dd.setF ?_ _) | (with_reducible refine Dd.setO ?_ _) | (with_reducible refine Dd.setP ?_ _) | (with_reducible refine Dd.setX ?_ _) | (with_reducible refine Dd.setOther ?_ (by (first | omega | (simp only []; omega) | (show _ ≠ _; omega))) _)))⟩

set_option maxHeartbeats 1600000 in
set_option maxRecDepth 100000 in
theorem flush_any {w : World} {p : Nat} {op : Int} {a b : Nat} {imm n : Int} {s : Sta} {e : Eff} (ok : s.Ok) (h : Dd w p op a b imm n s e) :
    Calls Tryd.prog 23 #[.pointer (some ⟨p, 0, none⟩)] w fun x w' => x = .returned (.tuple #[]) ∧ Put [p] w w' ∧ Dd w' p op a b imm n s { e with f := !usr s } := by
  have U : Hid (Calls Tryd.prog 33 #[.pointer (some ⟨p, 0, none⟩)] w fun x w' => x = .returned (.bool (usr s)) ∧ w' = w) := user_any ok h
  have H : Hid (Dd w p op a b imm n s e) := h
  have hnot : ∀ (x : Bool) (w : World), (Op.unary .not (.bool x)).run Tryd.prog w = .ok (.bool (!x)) w := fun _ _ => rfl
  have c := h.ef
  have z := h.frozen 25
  clear h
  generalize usr s = us at *
  go_enter Tryd.func23, Tryd.ntmps23
  go_wp2_with (go_at_call 33; refine U.out.mono ?_; rintro x w' ⟨rfl, rfl⟩)
  all_goals (first | go_end0 | refine bodyPost_ret (results_none rfl _ _ _) rfl ?_)
  all_goals exact ⟨rfl, by (repeat (first | (with_reducible assumption) | (with_reducible exact Hid.out (by assumption)) | (with_reducible exact Put.of_kep (Hid.out (by assumption))) | (with_reducible exact Put.of_kep (by assumption)) | (with_reducible exact Put.refl _) | (with_reducible refine Put.drew ?_) | (with_reducible refine Put.drewN ?_ _) | (with_reducible refine Put.alloc ?_ _) | (with_reducible refine Put.setRowNew ?_ (by (first | omega | (simp only [World.size_alloc, World.size_setCell, size_setRow, World.size_drew]; done) | (simp only [World.size_alloc, World.size_setCell, size_setRow, World.size_drew]; omega))) _) | (with_reducible refine Put.setCell ?_ (by simp) _) | (with_reducible refine Put.setCellNew ?_ (by first | omega | (simp only []; omega) | (show _ ≤ _; omega)) _))), by (repeat (first | (with_reducible assumption) | (with_reducible refine Dd.kep ?_ (by assumption)) | (with_reducible exact Hid.out (by assumption)) | (with_reducible refine Dd.drew ?_) | (with_reducible refine Dd.drewN ?_ _) | (with_reducible refine Dd.alloc ?_ _) | (with_reducible refine Dd.setReg ?_ _ (by omega) _) | (with_reducible refine Dd.setCtl ?_ _ (by omega) _) | (with_reducible refine Dd.setPc ?_ _) | (with_reducible refine Dd.setPs ?_ _) | (with_reducible refine Dd.setHl ?_) | (with_reducible refine Dd.setF ?_ _) | (with_reducible refine Dd.setO ?_ _) | (with_reducible refine Dd.setP ?_ _) | (with_reducible refine Dd.setX ?_ _) | (with_reducible refine Dd.setOther ?_ (by (first | omega | (simp only []; omega) | (show _ ≠ _; omega))) _)))⟩

set_option maxHeartbeats 1600000 in
set_option maxRecDepth 100000 in
theorem readStatus_any {w : World} {p : Nat} {op : Int} {a b : Nat} {imm n : Int} {s : Sta} {e : Eff} (ok : s.Ok) (h : Dd w p op a b imm n s e) (ha : a < 8) :
    Calls Tryd.prog 24 #[.pointer (some ⟨p, 0, none⟩)] w fun x w' => x = .returned (.tuple #[]) ∧ Put [p] w w' ∧ Dd w' p op a b imm n (s.reg a s.ps) e := by
  have RG : Hid (∀ w, Dd w p op a b imm n s e → Calls Tryd.prog 34 #[.pointer (some ⟨p, 0, none⟩)] w fun x w' => x = .returned (.pointer (some ⟨p, 5 + a, none⟩)) ∧ w' = w.drew) := fun w h => register_any h ha
  have H : Hid (Dd w p op a b imm n s e) := h
  have c := h.ps
  have ca := h.reg a ha
  have z := h.frozen (5 + a)
  clear h
  go_enter Tryd.func24, Tryd.ntmps24
  go_wp2_with fail
  go_region_with (go_at_call 34; refine (RG.out _ (by (repeat (first | (with_reducible assumption) | (with_reducible refine Dd.kep ?_ (by assumption)) | (with_reducible exact Hid.out (by assumption)) | (with_reducible refine Dd.drew ?_) | (with_reducible refine Dd.drewN ?_ _) | (with_reducible refine Dd.alloc ?_ _) | (with_reducible refine Dd.setReg ?_ _ (by omega) _) | (with_reducible refine Dd.setCtl ?_ _ (by omega) _) | (with_reducible refine Dd.setPc ?_ _) | (with_reducible refine Dd.setPs ?_ _) | (with_reducible refine Dd.setHl ?_) | (with_reducible refine Dd.setF ?_ _) | (with_reducible refine Dd.setO ?_ _) | (with_reducible refine Dd.setP ?_ _) | (with_reducible refine Dd.setX ?_ _) | (with_reducible refine Dd.setOther ?_ (by (first | omega | (simp only []; omega) | (show _ ≠ _; omega))) _))))).mono ?_; rintro x w' ⟨rfl, rfl⟩)
  all_goals (try go_wp2_with fail)
  all_goals (first | go_end0 | refine bodyPost_ret (results_none rfl _ _ _) rfl ?_)
  all_goals exact ⟨rfl, by (repeat (first | (with_reducible assumption) | (with_reducible exact Hid.out (by assumption)) | (with_reducible exact Put.of_kep (Hid.out (by assumption))) | (with_reducible exact Put.of_kep (by assumption)) | (with_reducible exact Put.refl _) | (with_reducible refine Put.drew ?_) | (with_reducible refine Put.drewN ?_ _) | (with_reducible refine Put.alloc ?_ _) | (with_reducible refine Put.setRowNew ?_ (by (first | omega | (simp only [World.size_alloc, World.size_setCell, size_setRow, World.size_drew]; done) | (simp only [World.size_alloc, World.size_setCell, size_setRow, World.size_drew]; omega))) _) | (with_reducible refine Put.setCell ?_ (by simp) _) | (with_reducible refine Put.setCellNew ?_ (by first | omega | (simp only []; omega) | (show _ ≤ _; omega)) _))), by (repeat (first | (with_reducible assumption) | (with_reducible refine Dd.kep ?_ (by assumption)) | (with_reducible exact Hid.out (by assumption)) | (with_reducible refine Dd.drew ?_) | (with_reducible refine Dd.drewN ?_ _) | (with_reducible refine Dd.alloc ?_ _) | (with_reducible refine Dd.setReg ?_ _ (by omega) _) | (with_reducible refine Dd.setCtl ?_ _ (by omega) _) | (with_reducible refine Dd.setPc ?_ _) | (with_reducible refine Dd.setPs ?_ _) | (with_reducible refine Dd.setHl ?_) | (with_reducible refine Dd.setF ?_ _) | (with_reducible refine Dd.setO ?_ _) | (with_reducible refine Dd.setP ?_ _) | (with_reducible refine Dd.setX ?_ _) | (with_reducible refine Dd.setOther ?_ (by (first | omega | (simp only []; omega) | (show _ ≠ _; omega))) _)))⟩

set_option maxHeartbeats 1600000 in
set_option maxRecDepth 100000 in
theorem writeStatus_user {w : World} {p : Nat} {op : Int} {a b : Nat} {imm n : Int} {s : Sta} {e : Eff} (ok : s.Ok) (h : Dd w p op a b imm n s e) (ha : a < 8) (hu : usr s = true) :
    Calls Tryd.prog 25 #[.pointer (some ⟨p, 0, none⟩)] w fun x w' => x = .returned (.tuple #[]) ∧ Put [p] w w' ∧ Dd w' p op a b imm n (s.mark (flgI s.ps (s.r a / 16 % 16 * 16))) e := by
  have RG : Hid (∀ w, Dd w p op a b imm n s e → Calls Tryd.prog 34 #[.pointer (some ⟨p, 0, none⟩)] w fun x w' => x = .returned (.pointer (some ⟨p, 5 + a, none⟩)) ∧ w' = w.drew) := fun w h => register_any h ha
  have U : Hid (Calls Tryd.prog 33 #[.pointer (some ⟨p, 0, none⟩)] w fun x w' => x = .returned (.bool true) ∧ w' = w) := by have := user_any ok h; rw [hu] at this; exact this
  have H : Hid (Dd w p op a b imm n s e) := h
  have c := h.ps
  have ca := h.reg a ha
  have z := h.frozen 14
  have m := flags_is s.ps (s.r a) ok.ps (ok.r a)
  clear h hu
  go_enter Tryd.func25, Tryd.ntmps25
  go_wp2_with (go_at_call 33; refine U.out.mono ?_; rintro x w' ⟨rfl, rfl⟩)
  go_region_with (go_at_call 34; refine (RG.out _ (by (repeat (first | (with_reducible assumption) | (with_reducible refine Dd.kep ?_ (by assumption)) | (with_reducible exact Hid.out (by assumption)) | (with_reducible refine Dd.drew ?_) | (with_reducible refine Dd.drewN ?_ _) | (with_reducible refine Dd.alloc ?_ _) | (with_reducible refine Dd.setReg ?_ _ (by omega) _) | (with_reducible refine Dd.setCtl ?_ _ (by omega) _) | (with_reducible refine Dd.setPc ?_ _) | (with_reducible refine Dd.setPs ?_ _) | (with_reducible refine Dd.setHl ?_) | (with_reducible refine Dd.setF ?_ _) | (with_reducible refine Dd.setO ?_ _) | (with_reducible refine Dd.setP ?_ _) | (with_reducible refine Dd.setX ?_ _) | (with_reducible refine Dd.setOther ?_ (by (first | omega | (simp only []; omega) | (show _ ≠ _; omega))) _))))).mono ?_; rintro x w' ⟨rfl, rfl⟩)
  all_goals (try go_wp2_with fail)
  all_goals (first | go_end0 | refine bodyPost_ret (results_none rfl _ _ _) rfl ?_)
  all_goals exact ⟨rfl, by (repeat (first | (with_reducible assumption) | (with_reducible exact Hid.out (by assumption)) | (with_reducible exact Put.of_kep (Hid.out (by assumption))) | (with_reducible exact Put.of_kep (by assumption)) | (with_reducible exact Put.refl _) | (with_reducible refine Put.drew ?_) | (with_reducible refine Put.drewN ?_ _) | (with_reducible refine Put.alloc ?_ _) | (with_reducible refine Put.setRowNew ?_ (by (first | omega | (simp only [World.size_alloc, World.size_setCell, size_setRow, World.size_drew]; done) | (simp only [World.size_alloc, World.size_setCell, size_setRow, World.size_drew]; omega))) _) | (with_reducible refine Put.setCell ?_ (by simp) _) | (with_reducible refine Put.setCellNew ?_ (by first | omega | (simp only []; omega) | (show _ ≤ _; omega)) _))), by (repeat (first | (with_reducible assumption) | (with_reducible refine Dd.kep ?_ (by assumption)) | (with_reducible exact Hid.out (by assumption)) | (with_reducible refine Dd.drew ?_) | (with_reducible refine Dd.drewN ?_ _) | (with_reducible refine Dd.alloc ?_ _) | (with_reducible refine Dd.setReg ?_ _ (by omega) _) | (with_reducible refine Dd.setCtl ?_ _ (by omega) _) | (with_reducible refine Dd.setPc ?_ _) | (with_reducible refine Dd.setPs ?_ _) | (with_reducible refine Dd.setHl ?_) | (with_reducible refine Dd.setF ?_ _) | (with_reducible refine Dd.setO ?_ _) | (with_reducible refine Dd.setP ?_ _) | (with_reducible refine Dd.setX ?_ _) | (with_reducible refine Dd.setOther ?_ (by (first | omega | (simp only []; omega) | (show _ ≠ _; omega))) _)))⟩

set_option maxHeartbeats 1600000 in
set_option maxRecDepth 100000 in
theorem writeStatus_sys {w : World} {p : Nat} {op : Int} {a b : Nat} {imm n : Int} {s : Sta} {e : Eff} (ok : s.Ok) (h : Dd w p op a b imm n s e) (ha : a < 8) (hu : usr s = false) :
    Calls Tryd.prog 25 #[.pointer (some ⟨p, 0, none⟩)] w fun x w' => x = .returned (.tuple #[]) ∧ Put [p] w w' ∧ Dd w' p op a b imm n (s.mark (mskI (s.r a))) e := by
  have RG : Hid (∀ w, Dd w p op a b imm n s e → Calls Tryd.prog 34 #[.pointer (some ⟨p, 0, none⟩)] w fun x w' => x = .returned (.pointer (some ⟨p, 5 + a, none⟩)) ∧ w' = w.drew) := fun w h => register_any h ha
  have U : Hid (Calls Tryd.prog 33 #[.pointer (some ⟨p, 0, none⟩)] w fun x w' => x = .returned (.bool false) ∧ w' = w) := by have := user_any ok h; rw [hu] at this; exact this
  have H : Hid (Dd w p op a b imm n s e) := h
  have c := h.ps
  have ca := h.reg a ha
  have z := h.frozen 14
  have m := msk_is (s.r a) (ok.r a)
  clear h hu
  go_enter Tryd.func25, Tryd.ntmps25
  go_wp2_with (first | (go_at_call 33; refine U.out.mono ?_; rintro x w' ⟨rfl, rfl⟩) | (go_at_call 34; refine (RG.out _ (by (repeat (first | (with_reducible assumption) | (with_reducible refine Dd.kep ?_ (by assumption)) | (with_reducible exact Hid.out (by assumption)) | (with_reducible refine Dd.drew ?_) | (with_reducible refine Dd.drewN ?_ _) | (with_reducible refine Dd.alloc ?_ _) | (with_reducible refine Dd.setReg ?_ _ (by omega) _) | (with_reducible refine Dd.setCtl ?_ _ (by omega) _) | (with_reducible refine Dd.setPc ?_ _) | (with_reducible refine Dd.setPs ?_ _) | (with_reducible refine Dd.setHl ?_) | (with_reducible refine Dd.setF ?_ _) | (with_reducible refine Dd.setO ?_ _) | (with_reducible refine Dd.setP ?_ _) | (with_reducible refine Dd.setX ?_ _) | (with_reducible refine Dd.setOther ?_ (by (first | omega | (simp only []; omega) | (show _ ≠ _; omega))) _))))).mono ?_; rintro x w' ⟨rfl, rfl⟩))
  all_goals (first | go_end0 | refine bodyPost_ret (results_none rfl _ _ _) rfl ?_)
  all_goals exact ⟨rfl, by (repeat (first | (with_reducible assumption) | (with_reducible exact Hid.out (by assumption)) | (with_reducible exact Put.of_kep (Hid.out (by assumption))) | (with_reducible exact Put.of_kep (by assumption)) | (with_reducible exact Put.refl _) | (with_reducible refine Put.drew ?_) | (with_reducible refine Put.drewN ?_ _) | (with_reducible refine Put.alloc ?_ _) | (with_reducible refine Put.setRowNew ?_ (by (first | omega | (simp only [World.size_alloc, World.size_setCell, size_setRow, World.size_drew]; done) | (simp only [World.size_alloc, World.size_setCell, size_setRow, World.size_drew]; omega))) _) | (with_reducible refine Put.setCell ?_ (by simp) _) | (with_reducible refine Put.setCellNew ?_ (by first | omega | (simp only []; omega) | (show _ ≤ _; omega)) _))), by (repeat (first | (with_reducible assumption) | (with_reducible refine Dd.kep ?_ (by assumption)) | (with_reducible exact Hid.out (by assumption)) | (with_reducible refine Dd.drew ?_) | (with_reducible refine Dd.drewN ?_ _) | (with_reducible refine Dd.alloc ?_ _) | (with_reducible refine Dd.setReg ?_ _ (by omega) _) | (with_reducible refine Dd.setCtl ?_ _ (by omega) _) | (with_reducible refine Dd.setPc ?_ _) | (with_reducible refine Dd.setPs ?_ _) | (with_reducible refine Dd.setHl ?_) | (with_reducible refine Dd.setF ?_ _) | (with_reducible refine Dd.setO ?_ _) | (with_reducible refine Dd.setP ?_ _) | (with_reducible refine Dd.setX ?_ _) | (with_reducible refine Dd.setOther ?_ (by (first | omega | (simp only []; omega) | (show _ ≠ _; omega))) _)))⟩

set_option maxHeartbeats 1600000 in
set_option maxRecDepth 100000 in
theorem readControl_user {w : World} {p : Nat} {op : Int} {a b : Nat} {imm n : Int} {s : Sta} {e : Eff} (ok : s.Ok) (h : Dd w p op a b imm n s e) (ha : a < 8) (hu : usr s = true) :
    Calls Tryd.prog 26 #[.pointer (some ⟨p, 0, none⟩)] w fun x w' => x = .returned (.tuple #[]) ∧ Put [p] w w' ∧ Dd w' p op a b imm n (s.reg a 0) e := by
  have RG : Hid (∀ w, Dd w p op a b imm n s e → Calls Tryd.prog 34 #[.pointer (some ⟨p, 0, none⟩)] w fun x w' => x = .returned (.pointer (some ⟨p, 5 + a, none⟩)) ∧ w' = w.drew) := fun w h => register_any h ha
  have U : Hid (Calls Tryd.prog 33 #[.pointer (some ⟨p, 0, none⟩)] w fun x w' => x = .returned (.bool true) ∧ w' = w) := by have := user_any ok h; rw [hu] at this; exact this
  have H : Hid (Dd w p op a b imm n s e) := h
  have ca := h.reg a ha
  have z := h.frozen (5 + a)
  clear h hu
  go_enter Tryd.func26, Tryd.ntmps26
  go_wp2_with (first | (go_at_call 33; refine U.out.mono ?_; rintro x w' ⟨rfl, rfl⟩) | (go_at_call 34; refine (RG.out _ (by (repeat (first | (with_reducible assumption) | (with_reducible refine Dd.kep ?_ (by assumption)) | (with_reducible exact Hid.out (by assumption)) | (with_reducible refine Dd.drew ?_) | (with_reducible refine Dd.drewN ?_ _) | (with_reducible refine Dd.alloc ?_ _) | (with_reducible refine Dd.setReg ?_ _ (by omega) _) | (with_reducible refine Dd.setCtl ?_ _ (by omega) _) | (with_reducible refine Dd.setPc ?_ _) | (with_reducible refine Dd.setPs ?_ _) | (with_reducible refine Dd.setHl ?_) | (with_reducible refine Dd.setF ?_ _) | (with_reducible refine Dd.setO ?_ _) | (with_reducible refine Dd.setP ?_ _) | (with_reducible refine Dd.setX ?_ _) | (with_reducible refine Dd.setOther ?_ (by (first | omega | (simp only []; omega) | (show _ ≠ _; omega))) _))))).mono ?_; rintro x w' ⟨rfl, rfl⟩))
  all_goals (first | go_end0 | refine bodyPost_ret (results_none rfl _ _ _) rfl ?_)
  all_goals exact ⟨rfl, by (repeat (first | (with_reducible assumption) | (with_reducible exact Hid.out (by assumption)) | (with_reducible exact Put.of_kep (Hid.out (by assumption))) | (with_reducible exact Put.of_kep (by assumption)) | (with_reducible exact Put.refl _) | (with_reducible refine Put.drew ?_) | (with_reducible refine Put.drewN ?_ _) | (with_reducible refine Put.alloc ?_ _) | (with_reducible refine Put.setRowNew ?_ (by (first | omega | (simp only [World.size_alloc, World.size_setCell, size_setRow, World.size_drew]; done) | (simp only [World.size_alloc, World.size_setCell, size_setRow, World.size_drew]; omega))) _) | (with_reducible refine Put.setCell ?_ (by simp) _) | (with_reducible refine Put.setCellNew ?_ (by first | omega | (simp only []; omega) | (show _ ≤ _; omega)) _))), by (repeat (first | (with_reducible assumption) | (with_reducible refine Dd.kep ?_ (by assumption)) | (with_reducible exact Hid.out (by assumption)) | (with_reducible refine Dd.drew ?_) | (with_reducible refine Dd.drewN ?_ _) | (with_reducible refine Dd.alloc ?_ _) | (with_reducible refine Dd.setReg ?_ _ (by omega) _) | (with_reducible refine Dd.setCtl ?_ _ (by omega) _) | (with_reducible refine Dd.setPc ?_ _) | (with_reducible refine Dd.setPs ?_ _) | (with_reducible refine Dd.setHl ?_) | (with_reducible refine Dd.setF ?_ _) | (with_reducible refine Dd.setO ?_ _) | (with_reducible refine Dd.setP ?_ _) | (with_reducible refine Dd.setX ?_ _) | (with_reducible refine Dd.setOther ?_ (by (first | omega | (simp only []; omega) | (show _ ≠ _; omega))) _)))⟩

set_option maxHeartbeats 1600000 in
set_option maxRecDepth 100000 in
theorem readControl_sys {w : World} {p : Nat} {op : Int} {a b : Nat} {imm n : Int} {s : Sta} {e : Eff} (ok : s.Ok) (h : Dd w p op a b imm n s e) (ha : a < 8) (hb : b < 8) (hu : usr s = false) :
    Calls Tryd.prog 26 #[.pointer (some ⟨p, 0, none⟩)] w fun x w' => x = .returned (.tuple #[]) ∧ Put [p] w w' ∧ Dd w' p op a b imm n (s.reg a (s.c b)) e := by
  have CT : Hid (∀ w, Dd w p op a b imm n s e → Calls Tryd.prog 35 #[.pointer (some ⟨p, 0, none⟩)] w fun x w' => x = .returned (.pointer (some ⟨p, 15 + b, none⟩)) ∧ w' = w.drew) := fun w h => control_any h hb
  have RG : Hid (∀ w, Dd w p op a b imm n s e → Calls Tryd.prog 34 #[.pointer (some ⟨p, 0, none⟩)] w fun x w' => x = .returned (.pointer (some ⟨p, 5 + a, none⟩)) ∧ w' = w.drew) := fun w h => register_any h ha
  have U : Hid (Calls Tryd.prog 33 #[.pointer (some ⟨p, 0, none⟩)] w fun x w' => x = .returned (.bool false) ∧ w' = w) := by have := user_any ok h; rw [hu] at this; exact this
  have H : Hid (Dd w p op a b imm n s e) := h
  have ca := h.reg a ha
  have cb := h.ctl b hb
  have z := h.frozen (5 + a)
  clear h hu
  go_enter Tryd.func26, Tryd.ntmps26
  go_wp2_with (first | (go_at_call 33; refine U.out.mono ?_; rintro x w' ⟨rfl, rfl⟩) | (go_at_call 34; refine (RG.out _ (by (repeat (first | (with_reducible assumption) | (with_reducible refine Dd.kep ?_ (by assumption)) | (with_reducible exact Hid.out (by assumption)) | (with_reducible refine Dd.drew ?_) | (with_reducible refine Dd.drewN ?_ _) | (with_reducible refine Dd.alloc ?_ _) | (with_reducible refine Dd.setReg ?_ _ (by omega) _) | (with_reducible refine Dd.setCtl ?_ _ (by omega) _) | (with_reducible refine Dd.setPc ?_ _) | (with_reducible refine Dd.setPs ?_ _) | (with_reducible refine Dd.setHl ?_) | (with_reducible refine Dd.setF ?_ _) | (with_reducible refine Dd.setO ?_ _) | (with_reducible refine Dd.setP ?_ _) | (with_reducible refine Dd.setX ?_ _) | (with_reducible refine Dd.setOther ?_ (by (first | omega | (simp only []; omega) | (show _ ≠ _; omega))) _))))).mono ?_; rintro x w' ⟨rfl, rfl⟩) | (go_at_call 35; refine (CT.out _ (by (repeat (first | (with_reducible assumption) | (with_reducible refine Dd.kep ?_ (by assumption)) | (with_reducible exact Hid.out (by assumption)) | (with_reducible refine Dd.drew ?_) | (with_reducible refine Dd.drewN ?_ _) | (with_reducible refine Dd.alloc ?_ _) | (with_reducible refine Dd.setReg ?_ _ (by omega) _) | (with_reducible refine Dd.setCtl ?_ _ (by omega) _) | (with_reducible refine Dd.setPc ?_ _) | (with_reducible refine Dd.setPs ?_ _) | (with_reducible refine Dd.setHl ?_) | (with_reducible refine Dd.setF ?_ _) | (with_reducible refine Dd.setO ?_ _) | (with_reducible refine Dd.setP ?_ _) | (with_reducible refine Dd.setX ?_ _) | (with_reducible refine Dd.setOther ?_ (by (first | omega | (simp only []; omega) | (show _ ≠ _; omega))) _))))).mono ?_; rintro x w' ⟨rfl, rfl⟩))
  all_goals (try go_wp2_with fail)
  all_goals (first | go_end0 | refine bodyPost_ret (results_none rfl _ _ _) rfl ?_)
  all_goals exact ⟨rfl, by (repeat (first | (with_reducible assumption) | (with_reducible exact Hid.out (by assumption)) | (with_reducible exact Put.of_kep (Hid.out (by assumption))) | (with_reducible exact Put.of_kep (by assumption)) | (with_reducible exact Put.refl _) | (with_reducible refine Put.drew ?_) | (with_reducible refine Put.drewN ?_ _) | (with_reducible refine Put.alloc ?_ _) | (with_reducible refine Put.setRowNew ?_ (by (first | omega | (simp only [World.size_alloc, World.size_setCell, size_setRow, World.size_drew]; done) | (simp only [World.size_alloc, World.size_setCell, size_setRow, World.size_drew]; omega))) _) | (with_reducible refine Put.setCell ?_ (by simp) _) | (with_reducible refine Put.setCellNew ?_ (by first | omega | (simp only []; omega) | (show _ ≤ _; omega)) _))), by (repeat (first | (with_reducible assumption) | (with_reducible refine Dd.kep ?_ (by assumption)) | (with_reducible exact Hid.out (by assumption)) | (with_reducible refine Dd.drew ?_) | (with_reducible refine Dd.drewN ?_ _) | (with_reducible refine Dd.alloc ?_ _) | (with_reducible refine Dd.setReg ?_ _ (by omega) _) | (with_reducible refine Dd.setCtl ?_ _ (by omega) _) | (with_reducible refine Dd.setPc ?_ _) | (with_reducible refine Dd.setPs ?_ _) | (with_reducible refine Dd.setHl ?_) | (with_reducible refine Dd.setF ?_ _) | (with_reducible refine Dd.setO ?_ _) | (with_reducible refine Dd.setP ?_ _) | (with_reducible refine Dd.setX ?_ _) | (with_reducible refine Dd.setOther ?_ (by (first | omega | (simp only []; omega) | (show _ ≠ _; omega))) _)))⟩

set_option maxHeartbeats 1600000 in
set_option maxRecDepth 100000 in
theorem writeControl_yes {w : World} {p : Nat} {op : Int} {a b : Nat} {imm n : Int} {s : Sta} {e : Eff} (ok : s.Ok) (h : Dd w p op a b imm n s e) (ha : a < 8) (hb : b < 8) (hu : usr s = false) :
    Calls Tryd.prog 27 #[.pointer (some ⟨p, 0, none⟩)] w fun x w' => x = .returned (.tuple #[]) ∧ Put [p] w w' ∧ Dd w' p op a b imm n (s.ctl b (s.r a)) { e with f := ((b : Int) == 0) } := by
  have CT : Hid (∀ w, Dd w p op a b imm n s e → Calls Tryd.prog 35 #[.pointer (some ⟨p, 0, none⟩)] w fun x w' => x = .returned (.pointer (some ⟨p, 15 + b, none⟩)) ∧ w' = w.drew) := fun w h => control_any h hb
  have RG : Hid (∀ w, Dd w p op a b imm n s e → Calls Tryd.prog 34 #[.pointer (some ⟨p, 0, none⟩)] w fun x w' => x = .returned (.pointer (some ⟨p, 5 + a, none⟩)) ∧ w' = w.drew) := fun w h => register_any h ha
  have U : Hid (Calls Tryd.prog 32 #[.pointer (some ⟨p, 0, none⟩)] w fun x w' => x = .returned (.tuple #[]) ∧ w' = w) := for_yes ok h hu
  have H : Hid (Dd w p op a b imm n s e) := h
  have ca := h.reg a ha
  have cb := h.ctl b hb
  have c2 := h.cb
  have cf := h.ef
  have z := h.frozen (15 + b)
  have zf := h.frozen 25
  have l := h.lt
  clear h hu
  go_enter Tryd.func27, Tryd.ntmps27
  go_wp2_with (first | (go_at_call 32; refine U.out.mono ?_; rintro x w' ⟨rfl, rfl⟩) | (go_at_call 34; refine (RG.out _ (by (repeat (first | (with_reducible assumption) | (with_reducible refine Dd.kep ?_ (by assumption)) | (with_reducible exact Hid.out (by assumption)) | (with_reducible refine Dd.drew ?_) | (with_reducible refine Dd.drewN ?_ _) | (with_reducible refine Dd.alloc ?_ _) | (with_reducible refine Dd.setReg ?_ _ (by omega) _) | (with_reducible refine Dd.setCtl ?_ _ (by omega) _) | (with_reducible refine Dd.setPc ?_ _) | (with_reducible refine Dd.setPs ?_ _) | (with_reducible refine Dd.setHl ?_) | (with_reducible refine Dd.setF ?_ _) | (with_reducible refine Dd.setO ?_ _) | (with_reducible refine Dd.setP ?_ _) | (with_reducible refine Dd.setX ?_ _) | (with_reducible refine Dd.setOther ?_ (by (first | omega | (simp only []; omega) | (show _ ≠ _; omega))) _))))).mono ?_; rintro x w' ⟨rfl, rfl⟩) | (go_at_call 35; refine (CT.out _ (by (repeat (first | (with_reducible assumption) | (with_reducible refine Dd.kep ?_ (by assumption)) | (with_reducible exact Hid.out (by assumption)) | (with_reducible refine Dd.drew ?_) | (with_reducible refine Dd.drewN ?_ _) | (with_reducible refine Dd.alloc ?_ _) | (with_reducible refine Dd.setReg ?_ _ (by omega) _) | (with_reducible refine Dd.setCtl ?_ _ (by omega) _) | (with_reducible refine Dd.setPc ?_ _) | (with_reducible refine Dd.setPs ?_ _) | (with_reducible refine Dd.setHl ?_) | (with_reducible refine Dd.setF ?_ _) | (with_reducible refine Dd.setO ?_ _) | (with_reducible refine Dd.setP ?_ _) | (with_reducible refine Dd.setX ?_ _) | (with_reducible refine Dd.setOther ?_ (by (first | omega | (simp only []; omega) | (show _ ≠ _; omega))) _))))).mono ?_; rintro x w' ⟨rfl, rfl⟩))
  all_goals (try go_wp2_with fail)
  all_goals (first | go_end0 | refine bodyPost_ret (results_none rfl _ _ _) rfl ?_)
  all_goals exact ⟨rfl, by (repeat (first | (with_reducible assumption) | (with_reducible exact Hid.out (by assumption)) | (with_reducible exact Put.of_kep (Hid.out (by assumption))) | (with_reducible exact Put.of_kep (by assumption)) | (with_reducible exact Put.refl _) | (with_reducible refine Put.drew ?_) | (with_reducible refine Put.drewN ?_ _) | (with_reducible refine Put.alloc ?_ _) | (with_reducible refine Put.setRowNew ?_ (by (first | omega | (simp only [World.size_alloc, World.size_setCell, size_setRow, World.size_drew]; done) | (simp only [World.size_alloc, World.size_setCell, size_setRow, World.size_drew]; omega))) _) | (with_reducible refine Put.setCell ?_ (by simp) _) | (with_reducible refine Put.setCellNew ?_ (by first | omega | (simp only []; omega) | (show _ ≤ _; omega)) _))), by (repeat refine Dd.drew ?_); exact Dd.setF (Dd.setCtl (by (repeat (first | (with_reducible assumption) | (with_reducible refine Dd.kep ?_ (by assumption)) | (with_reducible exact Hid.out (by assumption)) | (with_reducible refine Dd.drew ?_) | (with_reducible refine Dd.drewN ?_ _) | (with_reducible refine Dd.alloc ?_ _) | (with_reducible refine Dd.setReg ?_ _ (by omega) _) | (with_reducible refine Dd.setCtl ?_ _ (by omega) _) | (with_reducible refine Dd.setPc ?_ _) | (with_reducible refine Dd.setPs ?_ _) | (with_reducible refine Dd.setHl ?_) | (with_reducible refine Dd.setF ?_ _) | (with_reducible refine Dd.setO ?_ _) | (with_reducible refine Dd.setP ?_ _) | (with_reducible refine Dd.setX ?_ _) | (with_reducible refine Dd.setOther ?_ (by (first | omega | (simp only []; omega) | (show _ ≠ _; omega))) _)))) b hb _) _⟩

set_option maxHeartbeats 1600000 in
set_option maxRecDepth 100000 in
theorem takeIn_yes {w : World} {p : Nat} {op : Int} {a b : Nat} {imm n : Int} {s : Sta} {e : Eff} (ok : s.Ok) (h : Dd w p op a b imm n s e) (ha : a < 8) (hu : usr s = false) :
    Calls Tryd.prog 28 #[.pointer (some ⟨p, 0, none⟩)] w fun x w' => x = .returned (.tuple #[]) ∧ Put [p] w w' ∧ Dd w' p op a b imm n (s.reg a n) e := by
  have RG : Hid (∀ w, Dd w p op a b imm n s e → Calls Tryd.prog 34 #[.pointer (some ⟨p, 0, none⟩)] w fun x w' => x = .returned (.pointer (some ⟨p, 5 + a, none⟩)) ∧ w' = w.drew) := fun w h => register_any h ha
  have U : Hid (Calls Tryd.prog 32 #[.pointer (some ⟨p, 0, none⟩)] w fun x w' => x = .returned (.tuple #[]) ∧ w' = w) := for_yes ok h hu
  have H : Hid (Dd w p op a b imm n s e) := h
  have c := h.cn
  have ca := h.reg a ha
  have z := h.frozen (5 + a)
  clear h hu
  go_enter Tryd.func28, Tryd.ntmps28
  go_wp2_with (go_at_call 32; refine U.out.mono ?_; rintro x w' ⟨rfl, rfl⟩)
  go_region_with (go_at_call 34; refine (RG.out _ (by (repeat (first | (with_reducible assumption) | (with_reducible refine Dd.kep ?_ (by assumption)) | (with_reducible exact Hid.out (by assumption)) | (with_reducible refine Dd.drew ?_) | (with_reducible refine Dd.drewN ?_ _) | (with_reducible refine Dd.alloc ?_ _) | (with_reducible refine Dd.setReg ?_ _ (by omega) _) | (with_reducible refine Dd.setCtl ?_ _ (by omega) _) | (with_reducible refine Dd.setPc ?_ _) | (with_reducible refine Dd.setPs ?_ _) | (with_reducible refine Dd.setHl ?_) | (with_reducible refine Dd.setF ?_ _) | (with_reducible refine Dd.setO ?_ _) | (with_reducible refine Dd.setP ?_ _) | (with_reducible refine Dd.setX ?_ _) | (with_reducible refine Dd.setOther ?_ (by (first | omega | (simp only []; omega) | (show _ ≠ _; omega))) _))))).mono ?_; rintro x w' ⟨rfl, rfl⟩)
  all_goals (try go_wp2_with fail)
  all_goals (first | go_end0 | refine bodyPost_ret (results_none rfl _ _ _) rfl ?_)
  all_goals exact ⟨rfl, by (repeat (first | (with_reducible assumption) | (with_reducible exact Hid.out (by assumption)) | (with_reducible exact Put.of_kep (Hid.out (by assumption))) | (with_reducible exact Put.of_kep (by assumption)) | (with_reducible exact Put.refl _) | (with_reducible refine Put.drew ?_) | (with_reducible refine Put.drewN ?_ _) | (with_reducible refine Put.alloc ?_ _) | (with_reducible refine Put.setRowNew ?_ (by (first | omega | (simp only [World.size_alloc, World.size_setCell, size_setRow, World.size_drew]; done) | (simp only [World.size_alloc, World.size_setCell, size_setRow, World.size_drew]; omega))) _) | (with_reducible refine Put.setCell ?_ (by simp) _) | (with_reducible refine Put.setCellNew ?_ (by first | omega | (simp only []; omega) | (show _ ≤ _; omega)) _))), by (repeat (first | (with_reducible assumption) | (with_reducible refine Dd.kep ?_ (by assumption)) | (with_reducible exact Hid.out (by assumption)) | (with_reducible refine Dd.drew ?_) | (with_reducible refine Dd.drewN ?_ _) | (with_reducible refine Dd.alloc ?_ _) | (with_reducible refine Dd.setReg ?_ _ (by omega) _) | (with_reducible refine Dd.setCtl ?_ _ (by omega) _) | (with_reducible refine Dd.setPc ?_ _) | (with_reducible refine Dd.setPs ?_ _) | (with_reducible refine Dd.setHl ?_) | (with_reducible refine Dd.setF ?_ _) | (with_reducible refine Dd.setO ?_ _) | (with_reducible refine Dd.setP ?_ _) | (with_reducible refine Dd.setX ?_ _) | (with_reducible refine Dd.setOther ?_ (by (first | omega | (simp only []; omega) | (show _ ≠ _; omega))) _)))⟩

set_option maxHeartbeats 1600000 in
set_option maxRecDepth 100000 in
theorem sendOut_yes {w : World} {p : Nat} {op : Int} {a b : Nat} {imm n : Int} {s : Sta} {e : Eff} (ok : s.Ok) (h : Dd w p op a b imm n s e) (ha : a < 8) (hb : b < 8) (hu : usr s = false) :
    Calls Tryd.prog 29 #[.pointer (some ⟨p, 0, none⟩)] w fun x w' => x = .returned (.tuple #[]) ∧ Put [p] w w' ∧ Dd w' p op a b imm n s { e with o := true, p := b, x := s.r a } := by
  have CT : Hid (∀ w, Dd w p op a b imm n s e → Calls Tryd.prog 35 #[.pointer (some ⟨p, 0, none⟩)] w fun x w' => x = .returned (.pointer (some ⟨p, 15 + b, none⟩)) ∧ w' = w.drew) := fun w h => control_any h hb
  have RG : Hid (∀ w, Dd w p op a b imm n s e → Calls Tryd.prog 34 #[.pointer (some ⟨p, 0, none⟩)] w fun x w' => x = .returned (.pointer (some ⟨p, 5 + a, none⟩)) ∧ w' = w.drew) := fun w h => register_any h ha
  have U : Hid (Calls Tryd.prog 32 #[.pointer (some ⟨p, 0, none⟩)] w fun x w' => x = .returned (.tuple #[]) ∧ w' = w) := for_yes ok h hu
  have H : Hid (Dd w p op a b imm n s e) := h
  have c2 := h.cb
  have ca := h.reg a ha
  have co := h.eo
  have cp := h.ep
  have cx := h.ex
  have zo := h.frozen 26
  have zp := h.frozen 27
  have zx := h.frozen 28
  have wb : IntKind.i64.wrap (b : Int) = b := by rw [IntKind.wrap_i64]; omega
  clear h hu
  go_enter Tryd.func29, Tryd.ntmps29
  go_wp2_with (go_at_call 32; refine U.out.mono ?_; rintro x w' ⟨rfl, rfl⟩)
  go_region_with (go_at_call 34; refine (RG.out _ (by (repeat (first | (with_reducible assumption) | (with_reducible refine Dd.kep ?_ (by assumption)) | (with_reducible exact Hid.out (by assumption)) | (with_reducible refine Dd.drew ?_) | (with_reducible refine Dd.drewN ?_ _) | (with_reducible refine Dd.alloc ?_ _) | (with_reducible refine Dd.setReg ?_ _ (by omega) _) | (with_reducible refine Dd.setCtl ?_ _ (by omega) _) | (with_reducible refine Dd.setPc ?_ _) | (with_reducible refine Dd.setPs ?_ _) | (with_reducible refine Dd.setHl ?_) | (with_reducible refine Dd.setF ?_ _) | (with_reducible refine Dd.setO ?_ _) | (with_reducible refine Dd.setP ?_ _) | (with_reducible refine Dd.setX ?_ _) | (with_reducible refine Dd.setOther ?_ (by (first | omega | (simp only []; omega) | (show _ ≠ _; omega))) _))))).mono ?_; rintro x w' ⟨rfl, rfl⟩)
  all_goals (try go_wp2_with fail)
  all_goals (first | go_end0 | refine bodyPost_ret (results_none rfl _ _ _) rfl ?_)
  all_goals exact ⟨rfl, by (repeat (first | (with_reducible assumption) | (with_reducible exact Hid.out (by assumption)) | (with_reducible exact Put.of_kep (Hid.out (by assumption))) | (with_reducible exact Put.of_kep (by assumption)) | (with_reducible exact Put.refl _) | (with_reducible refine Put.drew ?_) | (with_reducible refine Put.drewN ?_ _) | (with_reducible refine Put.alloc ?_ _) | (with_reducible refine Put.setRowNew ?_ (by (first | omega | (simp only [World.size_alloc, World.size_setCell, size_setRow, World.size_drew]; done) | (simp only [World.size_alloc, World.size_setCell, size_setRow, World.size_drew]; omega))) _) | (with_reducible refine Put.setCell ?_ (by simp) _) | (with_reducible refine Put.setCellNew ?_ (by first | omega | (simp only []; omega) | (show _ ≤ _; omega)) _))), by (repeat refine Dd.drew ?_); exact Dd.setX (Dd.setP (Dd.setO (by (repeat (first | (with_reducible assumption) | (with_reducible refine Dd.kep ?_ (by assumption)) | (with_reducible exact Hid.out (by assumption)) | (with_reducible refine Dd.drew ?_) | (with_reducible refine Dd.drewN ?_ _) | (with_reducible refine Dd.alloc ?_ _) | (with_reducible refine Dd.setReg ?_ _ (by omega) _) | (with_reducible refine Dd.setCtl ?_ _ (by omega) _) | (with_reducible refine Dd.setPc ?_ _) | (with_reducible refine Dd.setPs ?_ _) | (with_reducible refine Dd.setHl ?_) | (with_reducible refine Dd.setF ?_ _) | (with_reducible refine Dd.setO ?_ _) | (with_reducible refine Dd.setP ?_ _) | (with_reducible refine Dd.setX ?_ _) | (with_reducible refine Dd.setOther ?_ (by (first | omega | (simp only []; omega) | (show _ ≠ _; omega))) _)))) _) _) _⟩

end Go.Proofs.YtaknjceneplonaaDoor
