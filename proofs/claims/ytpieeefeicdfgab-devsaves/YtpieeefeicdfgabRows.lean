/-
  No cell of these rows narrows 'for every input' (looked for: loops, veiled, ifaces, maps, wideKeys, modest, calm, conditions, laid).
  DERIVED. THE GIVEN ROWS OF THIS SEAT. 3 by the template 'for every input the law returns true; each argument reads behind the call as it read before'; 0 by the template 'total and deterministic' (their statements: YtpieeefeicdfgabTotals.lean).
  GIVEN WITH THE SEED: the statements are not yours to turn. If you find one false, say at which input.
  Laid BY PROGRAM, IN A SANDBOX (cutbox-rows.mjs): the forced cells as the released guide's own fill.sh prints them over the translation df2a336f952b6c6d… (all of the seat's roots in one cut). By AI agents, Wed Nov 11 2026. No macro, syntax, notation, axiom, sorry.
-/
import Derived.Test.YtpieeefeicdfgabChecked
import GoSem.Claim
import GoSem.ClaimJoined
import GoSem.ClaimMapViews
import Derived.JoinedTies
import Derived.KernelRfl
namespace Go.Proofs.Ytpieeefeicdfgab
/- THE CELL 'sum', in the pinned program and in every row, IS THE sha256 OF THE DUMP (.gsa) THAT YtpieeefeicdfgabProg.lean LOADS. Nothing in Lean hashes anything: it is a label: what it is worth is what the hold of that sum in a sandbox is worth. -/
noncomputable def Try.pinned : Pinned := { name := "ytpieeefeicdfgab", sum := "df2a336f952b6c6d945fe640d864dc28394d1dfadfc1d06247c5f9d94cb7c8fa", checked := Try.checked }
namespace Rows
def none {H : Type} : Left H := { results := [], args := [] }

/-- 'mummerlaw11.DevMasked': WHATEVER THE INPUT: true; the input reads as it did. -/
def devMaskedSpec : ChangeSpec := { name := "devMasked", fn := fun _ => fun
  | [d1, d2] => { results := [.lit (.bool true)], args := [d1, d2] }
  | _ => none }
def devMaskedRow : OpenClaim := { program := "ytpieeefeicdfgab", sum := "df2a336f952b6c6d945fe640d864dc28394d1dfadfc1d06247c5f9d94cb7c8fa", func := "mummer/mummerlaw11.DevMasked", spec := "devMasked", unfollowed := true, recurses := true, apart := false }
def DevMaskedSaid : Prop := devMaskedRow.holds Try.pinned (OpenSpec.ofChange devMaskedSpec)

/-- ITS FALSE NEIGHBOUR: 'it returns false'. Refute it at one input. -/
def devMaskedWrong : ChangeSpec := { name := "devMasked", fn := fun _ => fun
  | [d1, d2] => { results := [.lit (.bool false)], args := [d1, d2] }
  | _ => none }
def DevMaskedWrongFalsely : Prop := devMaskedRow.holds Try.pinned (OpenSpec.ofChange devMaskedWrong)

/-- 'mummerlaw11.DevSaves': WHATEVER THE INPUT: true; the input reads as it did. -/
def devSavesSpec : ChangeSpec := { name := "devSaves", fn := fun _ => fun
  | [d1, d2, d3] => { results := [.lit (.bool true)], args := [d1, d2, d3] }
  | _ => none }
def devSavesRow : OpenClaim := { program := "ytpieeefeicdfgab", sum := "df2a336f952b6c6d945fe640d864dc28394d1dfadfc1d06247c5f9d94cb7c8fa", func := "mummer/mummerlaw11.DevSaves", spec := "devSaves", unfollowed := true, recurses := true, apart := false }
def DevSavesSaid : Prop := devSavesRow.holds Try.pinned (OpenSpec.ofChange devSavesSpec)

/-- ITS FALSE NEIGHBOUR: 'it returns false'. Refute it at one input. -/
def devSavesWrong : ChangeSpec := { name := "devSaves", fn := fun _ => fun
  | [d1, d2, d3] => { results := [.lit (.bool false)], args := [d1, d2, d3] }
  | _ => none }
def DevSavesWrongFalsely : Prop := devSavesRow.holds Try.pinned (OpenSpec.ofChange devSavesWrong)

/-- 'mummerlaw11.DevLoads': WHATEVER THE INPUT: true; the input reads as it did. -/
def devLoadsSpec : ChangeSpec := { name := "devLoads", fn := fun _ => fun
  | [d] => { results := [.lit (.bool true)], args := [d] }
  | _ => none }
def devLoadsRow : OpenClaim := { program := "ytpieeefeicdfgab", sum := "df2a336f952b6c6d945fe640d864dc28394d1dfadfc1d06247c5f9d94cb7c8fa", func := "mummer/mummerlaw11.DevLoads", spec := "devLoads", unfollowed := true, recurses := true, apart := false }
def DevLoadsSaid : Prop := devLoadsRow.holds Try.pinned (OpenSpec.ofChange devLoadsSpec)

/-- ITS FALSE NEIGHBOUR: 'it returns false'. Refute it at one input. -/
def devLoadsWrong : ChangeSpec := { name := "devLoads", fn := fun _ => fun
  | [d] => { results := [.lit (.bool false)], args := [d] }
  | _ => none }
def DevLoadsWrongFalsely : Prop := devLoadsRow.holds Try.pinned (OpenSpec.ofChange devLoadsWrong)

/- THE SECOND FORM. 'bulk': how many values and letters a reading holds, each counted each time it is reached (what is shared counts as often as it is met; a slice's spare places count too). A statement '..UptoSaid' is the law's where the arguments, and the package variables that the reading takes, are together of bulk at most 1048576: NARROWER than '..Said'. Prove '..Said' where nothing that the law and all that it calls make is longer than what came in: it says more and counts as full. Else prove '..UptoSaid'. A law counts once. -/
mutual
def uptoBulk {H : Type} : DataW H → Nat
  | .lit (.string bytes) => bytes.length + 1
  | .lit _ => 1
  | .nil => 1
  | .ptr d => uptoBulk d + 1
  | .slice elems spare => uptoBulkAll elems + uptoBulkAll spare + 1
  | .agg parts => uptoBulkAll parts + 1
  | .iface _ d => uptoBulk d + 1
  | .map entries => uptoBulkEntries entries + 1
  | .held _ => 1
def uptoBulkAll {H : Type} : List (DataW H) → Nat
  | [] => 0
  | d :: r => uptoBulk d + uptoBulkAll r
def uptoBulkEntries {H : Type} : List (Lit × DataW H) → Nat
  | [] => 0
  | x :: r => uptoBulkEntry x + uptoBulkEntries r
def uptoBulkEntry {H : Type} : Lit × DataW H → Nat
  | (.string bytes, d) => bytes.length + uptoBulk d + 1
  | (_, d) => uptoBulk d + 1
 end
def uptoSmall : (H : Type) → List (DataW H) → Bool := fun _ ds => decide (uptoBulkAll ds ≤ 1048576)
def OpenSpec.upto (s : _root_.Go.ChangeSpec) : _root_.Go.OpenSpec := { _root_.Go.OpenSpec.ofChange s with cond := some uptoSmall }

/-- 'mummerlaw11.DevMasked', WHERE WHAT IT READS IS OF BULK AT MOST 1048576: true; the input reads as it did. -/
def devMaskedUptoRow : OpenClaim := { program := "ytpieeefeicdfgab", sum := "df2a336f952b6c6d945fe640d864dc28394d1dfadfc1d06247c5f9d94cb7c8fa", func := "mummer/mummerlaw11.DevMasked", spec := "devMasked", unfollowed := true, recurses := true, apart := false, narrowed := true }
def DevMaskedUptoSaid : Prop := devMaskedUptoRow.holds Try.pinned (OpenSpec.upto devMaskedSpec)

/-- 'mummerlaw11.DevSaves', WHERE WHAT IT READS IS OF BULK AT MOST 1048576: true; the input reads as it did. -/
def devSavesUptoRow : OpenClaim := { program := "ytpieeefeicdfgab", sum := "df2a336f952b6c6d945fe640d864dc28394d1dfadfc1d06247c5f9d94cb7c8fa", func := "mummer/mummerlaw11.DevSaves", spec := "devSaves", unfollowed := true, recurses := true, apart := false, narrowed := true }
def DevSavesUptoSaid : Prop := devSavesUptoRow.holds Try.pinned (OpenSpec.upto devSavesSpec)

/-- 'mummerlaw11.DevLoads', WHERE WHAT IT READS IS OF BULK AT MOST 1048576: true; the input reads as it did. -/
def devLoadsUptoRow : OpenClaim := { program := "ytpieeefeicdfgab", sum := "df2a336f952b6c6d945fe640d864dc28394d1dfadfc1d06247c5f9d94cb7c8fa", func := "mummer/mummerlaw11.DevLoads", spec := "devLoads", unfollowed := true, recurses := true, apart := false, narrowed := true }
def DevLoadsUptoSaid : Prop := devLoadsUptoRow.holds Try.pinned (OpenSpec.upto devLoadsSpec)

end Rows
end Go.Proofs.Ytpieeefeicdfgab
