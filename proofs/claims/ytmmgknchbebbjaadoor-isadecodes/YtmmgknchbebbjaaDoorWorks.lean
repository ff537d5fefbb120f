/- What 'works' answers: true; and a row of bytes read as a string. -/
import Derived.Test.YtmmgknchbebbjaaDoorEnc
import Derived.Laws.BytesString
namespace Go.Proofs.YtmmgknchbebbjaaDoor
open Go.RowKit
set_option linter.unusedVariables false

def strOf (ns : List Int) : ByteArray := ns.foldl (fun r n => r.push (UInt8.ofNat n.toNat)) ByteArray.empty
theorem owned_string {w : World} {base B n c : Nat} {ns : List Int} (h : w.ownsRow base 5 1 (.slice (some ⟨B, 0, none⟩) n c) n (bs ns)) :
    Sem.run Tryd.prog (convert 22 9 (.slice (some ⟨B, 0, none⟩) n c)) w = .ok (.string (strOf ns)) w := by
  have hl : (bs ns).length = n := by have := h.1; omega
  rw [run_convert_bytes_string w 22 9 5 _ n c Tryd.underlying22 Tryd.underlying5 Tryd.underlying9]
  refine run_bytesToString w ⟨B, 0, none⟩ n c ns ?_
  have := run_loadCells_list (P := Tryd.prog) w ⟨B, 0, none⟩ (bs ns) (World.ownsRow.cells h rfl)
  rw [hl] at this
  exact this

set_option maxHeartbeats 1000000 in
theorem works_any (w : World) (hT : Tabs w) :
    Calls Tryd.prog 6 #[] w fun e w' => e = .returned (.bool true) ∧ Kep w w' := by
  go_enter Tryd.func6, Tryd.ntmps6
  go_wp2_with fail
  refine (encode_ok 3 (by decide) (by decide) 17 1 2 0 false (by decide) (by decide) _ (by decide) (by decide) (by decide) (by decide) (by decide) (by decide) (by decide) (by decide) hT).mono ?_
  rintro e w1 ⟨B, rfl, hown, g1⟩
  have hc := owned_string hown
  have e1 : (encL 3 17 1 2 0).length = 2 := rfl
  have e2 : strOf (encL 3 17 1 2 0) = ⟨#[17, 18]⟩ := by decide
  rw [e1, e2] at hc
  rw [e1]
  clear hown e1 e2
  go_wp2_with fail
  go_ret
  exact ⟨rfl, g1⟩
end Go.Proofs.YtmmgknchbebbjaaDoor
