/- The methods of a deed. -/
import Derived.Test.YtaknjceneplonaaDoorNst
import Derived.RegionCalls
namespace Go.Proofs.YtaknjceneplonaaDoor
open Go.RowKit
set_option linter.unusedVariables false
set_option linter.unusedSimpArgs false

set_option maxHeartbeats 800000 in
theorem user_any {w : World} {p : Nat} {op : Int} {a b : Nat} {imm n : Int} {s : Sta} {e : Eff} (ok : s.Ok) (h : Dd w p op a b imm n s e) :
    Calls Tryd.prog 33 #[.pointer (some ⟨p, 0, none⟩)] w fun x w' => x = .returned (.bool (usr s)) ∧ w' = w := by
  have c := h.ps
  have u := usr_is s.ps ok.ps
  have hu : (s.ps % 2 != 0) = usr s := by
    unfold usr
    rcases Int.emod_two_eq s.ps with h | h <;> rw [h] <;> rfl
  clear h
  go_enter Tryd.func33, Tryd.ntmps33
  go_wp2
  go_ret
  exact ⟨rfl, rfl⟩

set_option maxHeartbeats 800000 in
theorem register_any {w : World} {p : Nat} {op : Int} {a b : Nat} {imm n : Int} {s : Sta} {e : Eff} (h : Dd w p op a b imm n s e) (ha : a < 8) :
    Calls Tryd.prog 34 #[.pointer (some ⟨p, 0, none⟩)] w fun x w' => x = .returned (.pointer (some ⟨p, 5 + a, none⟩)) ∧ w' = w.drew := by
  have c := h.ca
  clear h
  go_enter Tryd.func34, Tryd.ntmps34
  go_wp2
  go_region
  go_wp2
  go_ret
  exact ⟨rfl, rfl⟩

set_option maxHeartbeats 800000 in
theorem control_any {w : World} {p : Nat} {op : Int} {a b : Nat} {imm n : Int} {s : Sta} {e : Eff} (h : Dd w p op a b imm n s e) (hb : b < 8) :
    Calls Tryd.prog 35 #[.pointer (some ⟨p, 0, none⟩)] w fun x w' => x = .returned (.pointer (some ⟨p, 15 + b, none⟩)) ∧ w' = w.drew := by
  have c := h.cb
  clear h
  go_enter Tryd.func35, Tryd.ntmps35
  go_wp2
  go_region
  go_wp2
  go_ret
  exact ⟨rfl, rfl⟩
end Go.Proofs.YtaknjceneplonaaDoor
