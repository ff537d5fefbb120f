/- What 'works' answers: true; and a row of bytes read as a string. -/
import Derived.Test.YtpalbpjmjbcelaaDoorEnc
import Derived.Laws.BytesString
namespace Go.Proofs.YtpalbpjmjbcelaaDoor
open Go.RowKit
set_option linter.unusedVariables false

def strOf (ns : List Int) : ByteArray := ns.foldl (fun r n => r.push (UInt8.ofNat n.toNat)) ByteArray.empty
theorem owned_string {w : World} {base B n c : Nat} {ns : List Int} (h : w.ownsRow base 5 1 (.slice (some ⟨B, 0, none⟩) n c) n (bs ns)) :
    Sem.run Tryd.prog (convert 30 9 (.slice (some ⟨B, 0, none⟩) n c)) w = .ok (.string (strOf ns)) w := by
  have hl : (bs ns).length = n := by have := h.1; omega
  rw [run_convert_bytes_string w 30 9 5 _ n c Tryd.underlying30 Tryd.underlying5 Tryd.underlying9]
  refine run_bytesToString w ⟨B, 0, none⟩ n c ns ?_
  have := run_loadCells_list (P := Tryd.prog) w ⟨B, 0, none⟩ (bs ns) (World.ownsRow.cells h rfl)
  rw [hl] at this
  exact this

end Go.Proofs.YtpalbpjmjbcelaaDoor
