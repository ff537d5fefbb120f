/- Part of a proof. -/
import Derived.Defers
import Derived.Recover
import Derived.Test.YtnignfloedcmlaaGreatDoorRows
import Derived.Test.YtnignfloedcmlaaGreatDoorJ27
namespace Go.Proofs.YtnignfloedcmlaaGreatDoor
open Go.RowKit
set_option linter.unusedVariables false
set_option linter.unusedSimpArgs false
set_option maxHeartbeats 800000 in
theorem writeControl_no {w : World} {p : Nat} {op : Int} {a b : Nat} {imm n : Int} {s : Sta} {e : Eff} (ok : s.Ok) (h : Dd w p op a b imm n s e) (hu : usr s = true) :
    Calls Tryz.prog 107 #[.pointer (some ⟨p, 0, none⟩)] w fun x w' => x = gaveUp ∧ w' = w := by
  have U : Hid (Calls Tryz.prog 125 #[.pointer (some ⟨p, 0, none⟩)] w fun x w' => x = gaveUp ∧ w' = w) := for_no ok h hu
  clear h hu
  go_enter Tryz.func107, Tryz.ntmps107
  go_wp2_with (go_at_call 125; refine U.out.mono ?_; rintro x w' ⟨rfl, rfl⟩)
  exact ⟨rfl, rfl, rfl⟩
set_option maxHeartbeats 800000 in
theorem takeIn_no {w : World} {p : Nat} {op : Int} {a b : Nat} {imm n : Int} {s : Sta} {e : Eff} (ok : s.Ok) (h : Dd w p op a b imm n s e) (hu : usr s = true) :
    Calls Tryz.prog 108 #[.pointer (some ⟨p, 0, none⟩)] w fun x w' => x = gaveUp ∧ w' = w := by
  have U : Hid (Calls Tryz.prog 125 #[.pointer (some ⟨p, 0, none⟩)] w fun x w' => x = gaveUp ∧ w' = w) := for_no ok h hu
  clear h hu
  go_enter Tryz.func108, Tryz.ntmps108
  go_wp2_with (go_at_call 125; refine U.out.mono ?_; rintro x w' ⟨rfl, rfl⟩)
  exact ⟨rfl, rfl, rfl⟩
set_option maxHeartbeats 800000 in
theorem sendOut_no {w : World} {p : Nat} {op : Int} {a b : Nat} {imm n : Int} {s : Sta} {e : Eff} (ok : s.Ok) (h : Dd w p op a b imm n s e) (hu : usr s = true) :
    Calls Tryz.prog 109 #[.pointer (some ⟨p, 0, none⟩)] w fun x w' => x = gaveUp ∧ w' = w := by
  have U : Hid (Calls Tryz.prog 125 #[.pointer (some ⟨p, 0, none⟩)] w fun x w' => x = gaveUp ∧ w' = w) := for_no ok h hu
  clear h hu
  go_enter Tryz.func109, Tryz.ntmps109
  go_wp2_with (go_at_call 125; refine U.out.mono ?_; rintro x w' ⟨rfl, rfl⟩)
  exact ⟨rfl, rfl, rfl⟩
set_option maxHeartbeats 1600000 in
set_option maxRecDepth 100000 in
theorem goBack_user {w : World} {p : Nat} {op : Int} {a b : Nat} {imm n : Int} {s : Sta} {e : Eff} (ok : s.Ok) (h : Dd w p op a b imm n s e) (hu : usr s = true) :
    Calls Tryz.prog 102 #[.pointer (some ⟨p, 0, none⟩)] w fun x w' => x = .returned (.tuple #[]) ∧ Put [p] w w' ∧ Dd w' p op a b imm n s e := by
  have U : Hid (Calls Tryz.prog 126 #[.pointer (some ⟨p, 0, none⟩)] w fun x w' => x = .returned (.bool true) ∧ w' = w) := by have := user_any ok h; rw [hu] at this; exact this
  have H : Hid (Dd w p op a b imm n s e) := h
  clear h hu
  go_enter Tryz.func102, Tryz.ntmps102
  go_wp2_with (go_at_call 126; refine U.out.mono ?_; rintro x w' ⟨rfl, rfl⟩)
  all_goals (first | go_end0 | refine bodyPost_ret (results_none rfl _ _ _) rfl ?_)
  all_goals exact ⟨rfl, putA, ddA⟩
set_option maxHeartbeats 1600000 in
set_option maxRecDepth 100000 in
theorem goBack_sys {w : World} {p : Nat} {op : Int} {a b : Nat} {imm n : Int} {s : Sta} {e : Eff} (ok : s.Ok) (h : Dd w p op a b imm n s e) (hu : usr s = false) :
    Calls Tryz.prog 102 #[.pointer (some ⟨p, 0, none⟩)] w fun x w' => x = .returned (.tuple #[]) ∧ Put [p] w w' ∧ Dd w' p op a b imm n ((s.go (s.c 2)).mark (mskI (s.c 3))) e := by
  have U : Hid (Calls Tryz.prog 126 #[.pointer (some ⟨p, 0, none⟩)] w fun x w' => x = .returned (.bool false) ∧ w' = w) := by have := user_any ok h; rw [hu] at this; exact this
  have H : Hid (Dd w p op a b imm n s e) := h
  have c2 := h.ctl 2 (by decide)
  have c3 := h.ctl 3 (by decide)
  have c13 := h.pc
  have c14 := h.ps
  have z13 := h.frozen 13
  have z14 := h.frozen 14
  have m3 := msk_is _ (ok.c 3)
  clear h hu
  go_enter Tryz.func102, Tryz.ntmps102
  go_wp2_with (go_at_call 126; refine U.out.mono ?_; rintro x w' ⟨rfl, rfl⟩)
  all_goals (first | go_end0 | refine bodyPost_ret (results_none rfl _ _ _) rfl ?_)
  all_goals exact ⟨rfl, putA, ddA⟩
set_option maxHeartbeats 1600000 in
set_option maxRecDepth 100000 in
theorem flush_any {w : World} {p : Nat} {op : Int} {a b : Nat} {imm n : Int} {s : Sta} {e : Eff} (ok : s.Ok) (h : Dd w p op a b imm n s e) :
    Calls Tryz.prog 103 #[.pointer (some ⟨p, 0, none⟩)] w fun x w' => x = .returned (.tuple #[]) ∧ Put [p] w w' ∧ Dd w' p op a b imm n s { e with f := !usr s } := by
  have U : Hid (Calls Tryz.prog 126 #[.pointer (some ⟨p, 0, none⟩)] w fun x w' => x = .returned (.bool (usr s)) ∧ w' = w) := user_any ok h
  have H : Hid (Dd w p op a b imm n s e) := h
  have hnot : ∀ (x : Bool) (w : World), (Op.unary .not (.bool x)).run Tryz.prog w = .ok (.bool (!x)) w := fun _ _ => rfl
  have c := h.ef
  have z := h.frozen 25
  clear h
  generalize usr s = us at *
  go_enter Tryz.func103, Tryz.ntmps103
  go_wp2_with (go_at_call 126; refine U.out.mono ?_; rintro x w' ⟨rfl, rfl⟩)
  all_goals (first | go_end0 | refine bodyPost_ret (results_none rfl _ _ _) rfl ?_)
  all_goals exact ⟨rfl, putA, ddA⟩
set_option maxHeartbeats 1600000 in
set_option maxRecDepth 100000 in
theorem readStatus_any {w : World} {p : Nat} {op : Int} {a b : Nat} {imm n : Int} {s : Sta} {e : Eff} (ok : s.Ok) (h : Dd w p op a b imm n s e) (ha : a < 8) :
    Calls Tryz.prog 104 #[.pointer (some ⟨p, 0, none⟩)] w fun x w' => x = .returned (.tuple #[]) ∧ Put [p] w w' ∧ Dd w' p op a b imm n (s.reg a s.ps) e := by
  have RG : Hid (∀ w, Dd w p op a b imm n s e → Calls Tryz.prog 127 #[.pointer (some ⟨p, 0, none⟩)] w fun x w' => x = .returned (.pointer (some ⟨p, 5 + a, none⟩)) ∧ w' = w.drew) := fun w h => register_any h ha
  have H : Hid (Dd w p op a b imm n s e) := h
  have c := h.ps
  have ca := h.reg a ha
  have z := h.frozen (5 + a)
  clear h
  go_enter Tryz.func104, Tryz.ntmps104
  go_wp2_with fail
  go_region_with (go_at_call 127; refine (RG.out _ ddA).mono ?_; rintro x w' ⟨rfl, rfl⟩)
  all_goals (try go_wp2_with fail)
  all_goals (first | go_end0 | refine bodyPost_ret (results_none rfl _ _ _) rfl ?_)
  all_goals exact ⟨rfl, putA, ddA⟩
set_option maxHeartbeats 1600000 in
set_option maxRecDepth 100000 in
theorem writeStatus_user {w : World} {p : Nat} {op : Int} {a b : Nat} {imm n : Int} {s : Sta} {e : Eff} (ok : s.Ok) (h : Dd w p op a b imm n s e) (ha : a < 8) (hu : usr s = true) :
    Calls Tryz.prog 105 #[.pointer (some ⟨p, 0, none⟩)] w fun x w' => x = .returned (.tuple #[]) ∧ Put [p] w w' ∧ Dd w' p op a b imm n (s.mark (flgI s.ps (s.r a / 16 % 16 * 16))) e := by
  have RG : Hid (∀ w, Dd w p op a b imm n s e → Calls Tryz.prog 127 #[.pointer (some ⟨p, 0, none⟩)] w fun x w' => x = .returned (.pointer (some ⟨p, 5 + a, none⟩)) ∧ w' = w.drew) := fun w h => register_any h ha
  have U : Hid (Calls Tryz.prog 126 #[.pointer (some ⟨p, 0, none⟩)] w fun x w' => x = .returned (.bool true) ∧ w' = w) := by have := user_any ok h; rw [hu] at this; exact this
  have H : Hid (Dd w p op a b imm n s e) := h
  have c := h.ps
  have ca := h.reg a ha
  have z := h.frozen 14
  have m := flags_is s.ps (s.r a) ok.ps (ok.r a)
  clear h hu
  go_enter Tryz.func105, Tryz.ntmps105
  go_wp2_with (go_at_call 126; refine U.out.mono ?_; rintro x w' ⟨rfl, rfl⟩)
  go_region_with (go_at_call 127; refine (RG.out _ ddA).mono ?_; rintro x w' ⟨rfl, rfl⟩)
  all_goals (try go_wp2_with fail)
  all_goals (first | go_end0 | refine bodyPost_ret (results_none rfl _ _ _) rfl ?_)
  all_goals exact ⟨rfl, putA, ddA⟩
set_option maxHeartbeats 1600000 in
set_option maxRecDepth 100000 in
theorem writeStatus_sys {w : World} {p : Nat} {op : Int} {a b : Nat} {imm n : Int} {s : Sta} {e : Eff} (ok : s.Ok) (h : Dd w p op a b imm n s e) (ha : a < 8) (hu : usr s = false) :
    Calls Tryz.prog 105 #[.pointer (some ⟨p, 0, none⟩)] w fun x w' => x = .returned (.tuple #[]) ∧ Put [p] w w' ∧ Dd w' p op a b imm n (s.mark (mskI (s.r a))) e := by
  have RG : Hid (∀ w, Dd w p op a b imm n s e → Calls Tryz.prog 127 #[.pointer (some ⟨p, 0, none⟩)] w fun x w' => x = .returned (.pointer (some ⟨p, 5 + a, none⟩)) ∧ w' = w.drew) := fun w h => register_any h ha
  have U : Hid (Calls Tryz.prog 126 #[.pointer (some ⟨p, 0, none⟩)] w fun x w' => x = .returned (.bool false) ∧ w' = w) := by have := user_any ok h; rw [hu] at this; exact this
  have H : Hid (Dd w p op a b imm n s e) := h
  have c := h.ps
  have ca := h.reg a ha
  have z := h.frozen 14
  have m := msk_is (s.r a) (ok.r a)
  clear h hu
  go_enter Tryz.func105, Tryz.ntmps105
  go_wp2_with (first | (go_at_call 126; refine U.out.mono ?_; rintro x w' ⟨rfl, rfl⟩) | (go_at_call 127; refine (RG.out _ ddA).mono ?_; rintro x w' ⟨rfl, rfl⟩))
  all_goals (first | go_end0 | refine bodyPost_ret (results_none rfl _ _ _) rfl ?_)
  all_goals exact ⟨rfl, putA, ddA⟩
set_option maxHeartbeats 1600000 in
set_option maxRecDepth 100000 in
theorem readControl_user {w : World} {p : Nat} {op : Int} {a b : Nat} {imm n : Int} {s : Sta} {e : Eff} (ok : s.Ok) (h : Dd w p op a b imm n s e) (ha : a < 8) (hu : usr s = true) :
    Calls Tryz.prog 106 #[.pointer (some ⟨p, 0, none⟩)] w fun x w' => x = .returned (.tuple #[]) ∧ Put [p] w w' ∧ Dd w' p op a b imm n (s.reg a 0) e := by
  have RG : Hid (∀ w, Dd w p op a b imm n s e → Calls Tryz.prog 127 #[.pointer (some ⟨p, 0, none⟩)] w fun x w' => x = .returned (.pointer (some ⟨p, 5 + a, none⟩)) ∧ w' = w.drew) := fun w h => register_any h ha
  have U : Hid (Calls Tryz.prog 126 #[.pointer (some ⟨p, 0, none⟩)] w fun x w' => x = .returned (.bool true) ∧ w' = w) := by have := user_any ok h; rw [hu] at this; exact this
  have H : Hid (Dd w p op a b imm n s e) := h
  have ca := h.reg a ha
  have z := h.frozen (5 + a)
  clear h hu
  go_enter Tryz.func106, Tryz.ntmps106
  go_wp2_with (first | (go_at_call 126; refine U.out.mono ?_; rintro x w' ⟨rfl, rfl⟩) | (go_at_call 127; refine (RG.out _ ddA).mono ?_; rintro x w' ⟨rfl, rfl⟩))
  all_goals (first | go_end0 | refine bodyPost_ret (results_none rfl _ _ _) rfl ?_)
  all_goals exact ⟨rfl, putA, ddA⟩
set_option maxHeartbeats 1600000 in
set_option maxRecDepth 100000 in
theorem readControl_sys {w : World} {p : Nat} {op : Int} {a b : Nat} {imm n : Int} {s : Sta} {e : Eff} (ok : s.Ok) (h : Dd w p op a b imm n s e) (ha : a < 8) (hb : b < 8) (hu : usr s = false) :
    Calls Tryz.prog 106 #[.pointer (some ⟨p, 0, none⟩)] w fun x w' => x = .returned (.tuple #[]) ∧ Put [p] w w' ∧ Dd w' p op a b imm n (s.reg a (s.c b)) e := by
  have CT : Hid (∀ w, Dd w p op a b imm n s e → Calls Tryz.prog 128 #[.pointer (some ⟨p, 0, none⟩)] w fun x w' => x = .returned (.pointer (some ⟨p, 15 + b, none⟩)) ∧ w' = w.drew) := fun w h => control_any h hb
  have RG : Hid (∀ w, Dd w p op a b imm n s e → Calls Tryz.prog 127 #[.pointer (some ⟨p, 0, none⟩)] w fun x w' => x = .returned (.pointer (some ⟨p, 5 + a, none⟩)) ∧ w' = w.drew) := fun w h => register_any h ha
  have U : Hid (Calls Tryz.prog 126 #[.pointer (some ⟨p, 0, none⟩)] w fun x w' => x = .returned (.bool false) ∧ w' = w) := by have := user_any ok h; rw [hu] at this; exact this
  have H : Hid (Dd w p op a b imm n s e) := h
  have ca := h.reg a ha
  have cb := h.ctl b hb
  have z := h.frozen (5 + a)
  clear h hu
  go_enter Tryz.func106, Tryz.ntmps106
  go_wp2_with (first | (go_at_call 126; refine U.out.mono ?_; rintro x w' ⟨rfl, rfl⟩) | (go_at_call 127; refine (RG.out _ ddA).mono ?_; rintro x w' ⟨rfl, rfl⟩) | (go_at_call 128; refine (CT.out _ ddA).mono ?_; rintro x w' ⟨rfl, rfl⟩))
  all_goals (try go_wp2_with fail)
  all_goals (first | go_end0 | refine bodyPost_ret (results_none rfl _ _ _) rfl ?_)
  all_goals exact ⟨rfl, putA, ddA⟩
set_option maxHeartbeats 1600000 in
set_option maxRecDepth 100000 in
theorem writeControl_yes {w : World} {p : Nat} {op : Int} {a b : Nat} {imm n : Int} {s : Sta} {e : Eff} (ok : s.Ok) (h : Dd w p op a b imm n s e) (ha : a < 8) (hb : b < 8) (hu : usr s = false) :
    Calls Tryz.prog 107 #[.pointer (some ⟨p, 0, none⟩)] w fun x w' => x = .returned (.tuple #[]) ∧ Put [p] w w' ∧ Dd w' p op a b imm n (s.ctl b (s.r a)) { e with f := ((b : Int) == 0) } := by
  have CT : Hid (∀ w, Dd w p op a b imm n s e → Calls Tryz.prog 128 #[.pointer (some ⟨p, 0, none⟩)] w fun x w' => x = .returned (.pointer (some ⟨p, 15 + b, none⟩)) ∧ w' = w.drew) := fun w h => control_any h hb
  have RG : Hid (∀ w, Dd w p op a b imm n s e → Calls Tryz.prog 127 #[.pointer (some ⟨p, 0, none⟩)] w fun x w' => x = .returned (.pointer (some ⟨p, 5 + a, none⟩)) ∧ w' = w.drew) := fun w h => register_any h ha
  have U : Hid (Calls Tryz.prog 125 #[.pointer (some ⟨p, 0, none⟩)] w fun x w' => x = .returned (.tuple #[]) ∧ w' = w) := for_yes ok h hu
  have H : Hid (Dd w p op a b imm n s e) := h
  have ca := h.reg a ha
  have cb := h.ctl b hb
  have c2 := h.cb
  have cf := h.ef
  have z := h.frozen (15 + b)
  have zf := h.frozen 25
  have l := h.lt
  clear h hu
  go_enter Tryz.func107, Tryz.ntmps107
  go_wp2_with (first | (go_at_call 125; refine U.out.mono ?_; rintro x w' ⟨rfl, rfl⟩) | (go_at_call 127; refine (RG.out _ ddA).mono ?_; rintro x w' ⟨rfl, rfl⟩) | (go_at_call 128; refine (CT.out _ ddA).mono ?_; rintro x w' ⟨rfl, rfl⟩))
  all_goals (try go_wp2_with fail)
  all_goals (first | go_end0 | refine bodyPost_ret (results_none rfl _ _ _) rfl ?_)
  all_goals exact ⟨rfl, putA, by (repeat refine Dd.drew ?_); exact Dd.setF (Dd.setCtl ddA b hb _) _⟩
set_option maxHeartbeats 1600000 in
set_option maxRecDepth 100000 in
theorem takeIn_yes {w : World} {p : Nat} {op : Int} {a b : Nat} {imm n : Int} {s : Sta} {e : Eff} (ok : s.Ok) (h : Dd w p op a b imm n s e) (ha : a < 8) (hu : usr s = false) :
    Calls Tryz.prog 108 #[.pointer (some ⟨p, 0, none⟩)] w fun x w' => x = .returned (.tuple #[]) ∧ Put [p] w w' ∧ Dd w' p op a b imm n (s.reg a n) e := by
  have RG : Hid (∀ w, Dd w p op a b imm n s e → Calls Tryz.prog 127 #[.pointer (some ⟨p, 0, none⟩)] w fun x w' => x = .returned (.pointer (some ⟨p, 5 + a, none⟩)) ∧ w' = w.drew) := fun w h => register_any h ha
  have U : Hid (Calls Tryz.prog 125 #[.pointer (some ⟨p, 0, none⟩)] w fun x w' => x = .returned (.tuple #[]) ∧ w' = w) := for_yes ok h hu
  have H : Hid (Dd w p op a b imm n s e) := h
  have c := h.cn
  have ca := h.reg a ha
  have z := h.frozen (5 + a)
  clear h hu
  go_enter Tryz.func108, Tryz.ntmps108
  go_wp2_with (go_at_call 125; refine U.out.mono ?_; rintro x w' ⟨rfl, rfl⟩)
  go_region_with (go_at_call 127; refine (RG.out _ ddA).mono ?_; rintro x w' ⟨rfl, rfl⟩)
  all_goals (try go_wp2_with fail)
  all_goals (first | go_end0 | refine bodyPost_ret (results_none rfl _ _ _) rfl ?_)
  all_goals exact ⟨rfl, putA, ddA⟩
set_option maxHeartbeats 1600000 in
set_option maxRecDepth 100000 in
theorem sendOut_yes {w : World} {p : Nat} {op : Int} {a b : Nat} {imm n : Int} {s : Sta} {e : Eff} (ok : s.Ok) (h : Dd w p op a b imm n s e) (ha : a < 8) (hb : b < 8) (hu : usr s = false) :
    Calls Tryz.prog 109 #[.pointer (some ⟨p, 0, none⟩)] w fun x w' => x = .returned (.tuple #[]) ∧ Put [p] w w' ∧ Dd w' p op a b imm n s { e with o := true, p := b, x := s.r a } := by
  have CT : Hid (∀ w, Dd w p op a b imm n s e → Calls Tryz.prog 128 #[.pointer (some ⟨p, 0, none⟩)] w fun x w' => x = .returned (.pointer (some ⟨p, 15 + b, none⟩)) ∧ w' = w.drew) := fun w h => control_any h hb
  have RG : Hid (∀ w, Dd w p op a b imm n s e → Calls Tryz.prog 127 #[.pointer (some ⟨p, 0, none⟩)] w fun x w' => x = .returned (.pointer (some ⟨p, 5 + a, none⟩)) ∧ w' = w.drew) := fun w h => register_any h ha
  have U : Hid (Calls Tryz.prog 125 #[.pointer (some ⟨p, 0, none⟩)] w fun x w' => x = .returned (.tuple #[]) ∧ w' = w) := for_yes ok h hu
  have H : Hid (Dd w p op a b imm n s e) := h
  have c2 := h.cb
  have ca := h.reg a ha
  have co := h.eo
  have cp := h.ep
  have cx := h.ex
  have zo := h.frozen 26
  have zp := h.frozen 27
  have zx := h.frozen 28
  have wb : IntKind.i64.wrap (b : Int) = b := by rw [IntKind.wrap_i64]; omega
  clear h hu
  go_enter Tryz.func109, Tryz.ntmps109
  go_wp2_with (go_at_call 125; refine U.out.mono ?_; rintro x w' ⟨rfl, rfl⟩)
  go_region_with (go_at_call 127; refine (RG.out _ ddA).mono ?_; rintro x w' ⟨rfl, rfl⟩)
  all_goals (try go_wp2_with fail)
  all_goals (first | go_end0 | refine bodyPost_ret (results_none rfl _ _ _) rfl ?_)
  all_goals exact ⟨rfl, putA, by (repeat refine Dd.drew ?_); exact Dd.setX (Dd.setP (Dd.setO ddA _) _) _⟩
abbrev mV (k p : Nat) : Value := .func (.func k) #[.pointer (some ⟨p, 0, none⟩)] #[]
theorem caught (q : Addr) (x : Bool) (w : World) (hc : w.cell? q = some (.bool x)) (hz : w.frozen? q = false) :
    CallsD Tryz.prog 110 #[.pointer (some q)] (.panicking [{ v := .iface 221 (.agg #[]), recovered := false }]) w fun e u' w' =>
      e = .returned (.tuple #[]) ∧ u' = .panicking [{ v := .iface 221 (.agg #[]), recovered := true }] ∧ w' = w.setCell q (.bool false) := by
  refine callsD_of_wpS Tryz.func110 rfl fun c₀ cs hu => ?_
  have hb : ∀ w, (binOp .eql 20 (.iface 221 (.agg #[])) .nilIface).run Tryz.prog w = .ok (.bool false) w := fun _ => by kernel_rfl
  apply wpS_region
  simp [wpOpsS, go_sem, recoverD, hu, Tryz.ntmps110, Exit.thenS, hb, hc, hz, bodyPostS, results, Tryz.results110]
theorem idle (q : Addr) (x : Bool) (w : World) (hc : w.cell? q = some (.bool x)) (hz : w.frozen? q = false) :
    CallsD Tryz.prog 110 #[.pointer (some q)] .returning w fun e u' w' =>
      e = .returned (.tuple #[]) ∧ u' = .returning ∧ w' = w.setCell q (.bool true) := by
  refine callsD_of_wpS Tryz.func110 rfl fun c₀ cs hu => ?_
  have hb : ∀ w, (binOp .eql 20 .nilIface .nilIface).run Tryz.prog w = .ok (.bool true) w := fun _ => by kernel_rfl
  apply wpS_region
  simp [wpOpsS, go_sem, recoverD, hu, Tryz.ntmps110, Exit.thenS, hb, hc, hz, bodyPostS, results, Tryz.results110]
  rw [← hu]
set_option maxHeartbeats 800000 in
set_option maxRecDepth 100000 in
theorem done_yes (k p : Nat) (hk : ∀ (args : Array Value) (w : World), (callFunc k args).run Tryz.prog w = .ok (.enter k args) w) (Q : World → World → Prop) (w : World)
    (hF : Calls Tryz.prog k #[.pointer (some ⟨p, 0, none⟩)] (w.alloc (.cells #[.bool false] 4)) fun x w' => x = .returned (.tuple #[]) ∧ w'.heap[w.heap.size]? = some (.cells #[.bool false] 4 (0, 0)) ∧ Q (w.alloc (.cells #[.bool false] 4)) w') :
    Calls Tryz.prog 82 #[mV k p] w fun x w' => x = .returned (.bool true) ∧ ∃ w1, Q (w.alloc (.cells #[.bool false] 4)) w1 ∧ w' = (w1.setCell ⟨w.heap.size, 0, none⟩ (.bool true)).setCell ⟨w.heap.size, 0, none⟩ (.bool true) := by
  have hF' : Hid (Calls Tryz.prog k #[.pointer (some ⟨p, 0, none⟩)] (w.alloc (.cells #[.bool false] 4)) fun x w' => x = .returned (.tuple #[]) ∧ w'.heap[w.heap.size]? = some (.cells #[.bool false] 4 (0, 0)) ∧ Q (w.alloc (.cells #[.bool false] 4)) w') := hF
  have hmf : ∀ (fn : Fn) (first cap : Array Value) (w : World), (Instr.makeFunc fn first cap).run Tryz.prog w = .ok (.func fn first cap) w := fun _ _ _ _ => rfl
  clear hF
  go_enter_defers Tryz.func82, Tryz.ntmps82
  go_wp2_with fail
  refine hF'.out.mono ?_
  rintro x w1 ⟨rfl, hb, hq⟩
  have hc : w1.cell? ⟨w.heap.size, 0, none⟩ = some (.bool false) := cell_of_block hb
  have hz : w1.frozen? ⟨w.heap.size, 0, none⟩ = false := frozen_of_row _ _ _ _ _ hb
  go_wp2_with fail
  refine leaves_cons (f := 110) (args := #[.pointer (some ⟨w.heap.size, 0, none⟩)]) (by simp) (by simp [go_sem]) ?_
  refine (idle ⟨w.heap.size, 0, none⟩ true _ ?_ ?_).mono ?_
  · simp [go_sem, hc]
  · simp [go_sem, hz]
  have d1 : (w1.setCell ⟨w.heap.size, 0, none⟩ (.bool true)).cell? ⟨w.heap.size, 0, none⟩ = some (.bool true) := by simp [go_sem, hc]
  have d2 : ((w1.setCell ⟨w.heap.size, 0, none⟩ (.bool true)).setCell ⟨w.heap.size, 0, none⟩ (.bool true)).cell? ⟨w.heap.size, 0, none⟩ = some (.bool true) := by simp [go_sem, d1]
  rintro x u' w'' ⟨rfl, rfl, rfl⟩
  simp [Leaves, settle, results, Tryz.results82, go_sem, d2]
  exact ⟨w1, hq, rfl⟩
set_option maxHeartbeats 800000 in
set_option maxRecDepth 100000 in
theorem done_no (k p : Nat) (hk : ∀ (args : Array Value) (w : World), (callFunc k args).run Tryz.prog w = .ok (.enter k args) w) (w : World)
    (hF : Calls Tryz.prog k #[.pointer (some ⟨p, 0, none⟩)] (w.alloc (.cells #[.bool false] 4)) fun x w' => x = gaveUp ∧ w' = w.alloc (.cells #[.bool false] 4)) :
    Calls Tryz.prog 82 #[mV k p] w fun x w' => x = .returned (.bool false) ∧ Kep w w' := by
  have hF' : Hid (Calls Tryz.prog k #[.pointer (some ⟨p, 0, none⟩)] (w.alloc (.cells #[.bool false] 4)) fun x w' => x = gaveUp ∧ w' = w.alloc (.cells #[.bool false] 4)) := hF
  have hmf : ∀ (fn : Fn) (first cap : Array Value) (w : World), (Instr.makeFunc fn first cap).run Tryz.prog w = .ok (.func fn first cap) w := fun _ _ _ _ => rfl
  clear hF
  go_enter_defers Tryz.func82, Tryz.ntmps82
  go_wp2_with fail
  refine hF'.out.mono ?_
  rintro x w1 ⟨rfl, rfl⟩
  go_wp2_with fail
  refine leaves_cons (f := 110) (args := #[.pointer (some ⟨w.heap.size, 0, none⟩)]) (by simp) (by simp [go_sem]) ?_
  refine (caught ⟨w.heap.size, 0, none⟩ false _ ?_ ?_).mono ?_
  · simp [go_sem]
  · simp [go_sem]
  rintro x u' w'' ⟨rfl, rfl, rfl⟩
  simp [Leaves, settle, results, Tryz.results82, go_sem]
  exact (Kep.refl _).alloc _
theorem did {w : World} {p : Nat} {op : Int} {a b : Nat} {imm n : Int} {s : Sta} {e : Eff} (k : Nat) (hk : ∀ (args : Array Value) (w : World), (callFunc k args).run Tryz.prog w = .ok (.enter k args) w) (s' : Sta) (e' : Eff)
    (hF : ∀ w, Dd w p op a b imm n s e → Calls Tryz.prog k #[.pointer (some ⟨p, 0, none⟩)] w fun x w' => x = .returned (.tuple #[]) ∧ Put [p] w w' ∧ Dd w' p op a b imm n s' e') (h : Dd w p op a b imm n s e) :
    Calls Tryz.prog 82 #[mV k p] w fun x w' => x = .returned (.bool true) ∧ Put [p] w w' ∧ Dd w' p op a b imm n s' e' := by
  have l := h.lt
  have hn : w.heap.size ∉ [p] := by simp; omega
  refine (done_yes k p hk (fun w1 w2 => Put [p] w1 w2 ∧ Dd w2 p op a b imm n s' e') w ((hF _ (h.alloc _)).mono ?_)).mono ?_
  · rintro x w1 ⟨rfl, P, D⟩
    exact ⟨rfl, P.keeps (heap_alloc_new _ _) hn, P, D⟩
  · rintro x w1 ⟨rfl, w2, ⟨P, D⟩, rfl⟩
    have P2 : Put [p] w w2 := (Put.of_kep ((Kep.refl _).alloc _)).trans P
    exact ⟨rfl, Put.setCellNew (Put.setCellNew P2 (Nat.le_refl _) _) (Nat.le_refl _) _, Dd.setOther (Dd.setOther D (by show p ≠ w.heap.size; omega) _) (by show p ≠ w.heap.size; omega) _⟩
theorem gave {w : World} {p : Nat} {op : Int} {a b : Nat} {imm n : Int} {s : Sta} {e : Eff} (k : Nat) (hk : ∀ (args : Array Value) (w : World), (callFunc k args).run Tryz.prog w = .ok (.enter k args) w)
    (hF : ∀ w, Dd w p op a b imm n s e → Calls Tryz.prog k #[.pointer (some ⟨p, 0, none⟩)] w fun x w' => x = gaveUp ∧ w' = w) (h : Dd w p op a b imm n s e) :
    Calls Tryz.prog 82 #[mV k p] w fun x w' => x = .returned (.bool false) ∧ Kep w w' := done_no k p hk w (hF _ (h.alloc _))
def methK (op : Int) : Nat := if op = 1 then 101 else if op = 2 then 102 else if op = 3 then 103 else if op = 96 then 104 else if op = 97 then 105 else
  if op = 98 then 106 else if op = 99 then 107 else if op = 100 then 108 else 109
theorem sen_cases {op : Int} (h : isSen op = true) : op = 1 ∨ op = 2 ∨ op = 3 ∨ op = 96 ∨ op = 97 ∨ op = 98 ∨ op = 99 ∨ op = 100 ∨ op = 101 := by
  unfold isSen at h
  simp only [Bool.or_eq_true, decide_eq_true_eq] at h
  omega
set_option maxHeartbeats 1600000 in
set_option maxRecDepth 100000 in
theorem method_is {w : World} {p : Nat} {op : Int} {a b : Nat} {imm n : Int} {s : Sta} {e : Eff} (k : Nat) (hk : methK op = k) (hs : isSen op = true) (h : Dd w p op a b imm n s e) :
    Calls Tryz.prog 81 #[.pointer (some ⟨p, 0, none⟩)] w fun x w' => x = .returned (mV k p) ∧ w' = w := by
  have hmf : ∀ (fn : Fn) (first cap : Array Value) (w : World), (Instr.makeFunc fn first cap).run Tryz.prog w = .ok (.func fn first cap) w := fun _ _ _ _ => rfl
  have c := h.cop
  have hc := sen_cases hs
  clear h hs
  subst hk
  rcases hc with rfl | rfl | rfl | rfl | rfl | rfl | rfl | rfl | rfl
  all_goals
    go_enter Tryz.func81, Tryz.ntmps81
    go_wp2
    go_ret
    exact ⟨rfl, rfl⟩
set_option maxHeartbeats 1600000 in
set_option maxRecDepth 100000 in
theorem method_no {w : World} {p : Nat} {op : Int} {a b : Nat} {imm n : Int} {s : Sta} {e : Eff} (hs : isSen op = false) (h : Dd w p op a b imm n s e) :
    Calls Tryz.prog 81 #[.pointer (some ⟨p, 0, none⟩)] w fun x w' => x = .returned .nilFunc ∧ w' = w := by
  have c := h.cop
  have hn : ¬ (1 ≤ op ∧ op ≤ 3) ∧ ¬ (96 ≤ op ∧ op ≤ 101) := by
    unfold isSen at hs
    simp only [Bool.or_eq_false_iff, decide_eq_false_iff_not] at hs
    exact hs
  have x1 := ne_lit (op := op) (k := 1) (by omega)
  have x2 := ne_lit (op := op) (k := 2) (by omega)
  have x3 := ne_lit (op := op) (k := 3) (by omega)
  have x4 := ne_lit (op := op) (k := 96) (by omega)
  have x5 := ne_lit (op := op) (k := 97) (by omega)
  have x6 := ne_lit (op := op) (k := 98) (by omega)
  have x7 := ne_lit (op := op) (k := 99) (by omega)
  have x8 := ne_lit (op := op) (k := 100) (by omega)
  have x9 := ne_lit (op := op) (k := 101) (by omega)
  clear h hs hn
  go_enter Tryz.func81, Tryz.ntmps81
  go_wp2
  go_ret
  exact ⟨rfl, rfl⟩
def IsRow (k : IntKind) (w : World) (a : Option Addr) (len cap : Nat) (zs : List Int) : Prop :=
  (a = none ∧ len = 0 ∧ cap = 0 ∧ zs = []) ∨
  ∃ x, a = some x ∧ len ≤ cap ∧ cap ≤ maxLen ∧ zs.length = cap ∧ (∀ i, i < zs.length → w.cell? (x.add i) = some (.int k (zs.getD i 0))) ∧ ∀ n ∈ zs, (Lit.int k n).wf = true
theorem IsRow.at {k : IntKind} {w : World} {a : Option Addr} {len cap : Nat} {zs : List Int} (h : IsRow k w a len cap zs) {i : Nat} (hi : i < len) :
    ∃ (b off : Nat) (z : Int), a = some ⟨b, off, none⟩ ∧ len ≤ cap ∧ b < w.heap.size ∧ w.cell? ⟨b, off + i, none⟩ = some (.int k z) ∧ (Lit.int k z).wf = true := by
  rcases h with ⟨_, h, _⟩ | ⟨⟨b, off, s⟩, rfl, h1, h2, h3, h4, h5⟩
  · omega
  · have hc := h4 i (by omega)
    have hs : s = none := by
      have hc0 := h4 0 (by omega)
      simp only [Addr.add] at hc0
      cases s with
      | none => rfl
      | some t => exfalso; simp [World.cell?] at hc0; revert hc0; split <;> simp
    subst hs
    have e : ((⟨b, off, none⟩ : Addr).add i) = ⟨b, off + i, none⟩ := by simp [Addr.add]
    rw [e] at hc
    exact ⟨b, off, zs.getD i 0, rfl, h1, World.block_lt_of_cell? w _ hc, hc, h5 _ (by simp [List.getD, show i < zs.length by omega])⟩
theorem tabs_of_laid {W : World} (h : laidMetH Tryz.prog [("mummer/isa.forms", Rows.laid_mummer_isa_forms), ("mummer/isa.spans", Rows.laid_mummer_isa_spans)] W) : Tabs W := by
  rw [MakeChecks.laidMetH_plain _ _ _ (by kernel_rfl)] at h
  refine ⟨laid_block 4 formsC (show Tryz.prog.globalNamed "mummer/isa.forms" = some 0 by kernel_rfl) (show (Tryz.prog.globals[0]?).map (·.type) = some 181 by kernel_rfl) (by kernel_rfl) (by kernel_rfl) (by rw [show formsC.size = 50 from by kernel_rfl]; decide) h,
    laid_block 4 spansC (show Tryz.prog.globalNamed "mummer/isa.spans" = some 1 by kernel_rfl) (show (Tryz.prog.globals[1]?).map (·.type) = some 207 by kernel_rfl) (by kernel_rfl) (by kernel_rfl) (by rw [show spansC.size = 56 from by kernel_rfl]; decide) (laid_rest h)⟩
end Go.Proofs.YtnignfloedcmlaaGreatDoor
