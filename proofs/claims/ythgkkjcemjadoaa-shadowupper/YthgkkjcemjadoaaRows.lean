/-
  No cell of these rows narrows 'for every input' (looked for: loops, veiled, ifaces, maps, wideKeys, modest, calm, conditions, laid).
  DERIVED. THE GIVEN ROWS OF THIS SEAT. 5 by the template 'for every input the law returns true; each argument reads behind the call as it read before'; 0 by the template 'total and deterministic' (their statements: YthgkkjcemjadoaaTotals.lean).
  GIVEN WITH THE SEED: the statements are not yours to turn. If you find one false, say at which input.
  Laid BY PROGRAM, IN A SANDBOX (cutbox-rows.mjs): the forced cells as the released guide's own fill.sh prints them over the translation b315af819cc101d1… (all of the seat's roots in one cut). By AI agents, Wed Nov 11 2026. No macro, syntax, notation, axiom, sorry.
-/
import Derived.Test.YthgkkjcemjadoaaChecked
import GoSem.Claim
import GoSem.ClaimJoined
import GoSem.ClaimMapViews
import Derived.JoinedTies
import Derived.KernelRfl
namespace Go.Proofs.Ythgkkjcemjadoaa
/- THE CELL 'sum', in the pinned program and in every row, IS THE sha256 OF THE DUMP (.gsa) THAT YthgkkjcemjadoaaProg.lean LOADS. Nothing in Lean hashes anything: it is a label: what it is worth is what the hold of that sum in a sandbox is worth. -/
noncomputable def Try.pinned : Pinned := { name := "ythgkkjcemjadoaa", sum := "b315af819cc101d196ec65d800b1a8c8585a3a3905594a4ddfef32a6a01a84a7", checked := Try.checked }
namespace Rows
def none {H : Type} : Left H := { results := [], args := [] }

/-- 'mummerlaw16.ShadowPlays': WHATEVER THE INPUT: true; the input reads as it did. -/
def shadowPlaysSpec : ChangeSpec := { name := "shadowPlays", fn := fun _ => fun
  | [d1, d2, d3] => { results := [.lit (.bool true)], args := [d1, d2, d3] }
  | _ => none }
def shadowPlaysRow : OpenClaim := { program := "ythgkkjcemjadoaa", sum := "b315af819cc101d196ec65d800b1a8c8585a3a3905594a4ddfef32a6a01a84a7", func := "mummer/mummerlaw16.ShadowPlays", spec := "shadowPlays", inPlace := ["sync/atomic.AddInt64"], unfollowed := true, recurses := true, apart := false }
def ShadowPlaysSaid : Prop := shadowPlaysRow.holds Try.pinned (OpenSpec.ofChange shadowPlaysSpec)

/-- ITS FALSE NEIGHBOUR: 'it returns false'. Refute it at one input. -/
def shadowPlaysWrong : ChangeSpec := { name := "shadowPlays", fn := fun _ => fun
  | [d1, d2, d3] => { results := [.lit (.bool false)], args := [d1, d2, d3] }
  | _ => none }
def ShadowPlaysWrongFalsely : Prop := shadowPlaysRow.holds Try.pinned (OpenSpec.ofChange shadowPlaysWrong)

/-- 'mummerlaw16.ShadowWrites': WHATEVER THE INPUT: true; the input reads as it did. -/
def shadowWritesSpec : ChangeSpec := { name := "shadowWrites", fn := fun _ => fun
  | [d1, d2] => { results := [.lit (.bool true)], args := [d1, d2] }
  | _ => none }
def shadowWritesRow : OpenClaim := { program := "ythgkkjcemjadoaa", sum := "b315af819cc101d196ec65d800b1a8c8585a3a3905594a4ddfef32a6a01a84a7", func := "mummer/mummerlaw16.ShadowWrites", spec := "shadowWrites", inPlace := ["sync/atomic.AddInt64"], unfollowed := true, recurses := true, apart := false }
def ShadowWritesSaid : Prop := shadowWritesRow.holds Try.pinned (OpenSpec.ofChange shadowWritesSpec)

/-- ITS FALSE NEIGHBOUR: 'it returns false'. Refute it at one input. -/
def shadowWritesWrong : ChangeSpec := { name := "shadowWrites", fn := fun _ => fun
  | [d1, d2] => { results := [.lit (.bool false)], args := [d1, d2] }
  | _ => none }
def ShadowWritesWrongFalsely : Prop := shadowWritesRow.holds Try.pinned (OpenSpec.ofChange shadowWritesWrong)

/-- 'mummerlaw16.ShadowLast': WHATEVER THE INPUT: true; the input reads as it did. -/
def shadowLastSpec : ChangeSpec := { name := "shadowLast", fn := fun _ => fun
  | [d1, d2] => { results := [.lit (.bool true)], args := [d1, d2] }
  | _ => none }
def shadowLastRow : OpenClaim := { program := "ythgkkjcemjadoaa", sum := "b315af819cc101d196ec65d800b1a8c8585a3a3905594a4ddfef32a6a01a84a7", func := "mummer/mummerlaw16.ShadowLast", spec := "shadowLast", inPlace := ["sync/atomic.AddInt64"], unfollowed := true, recurses := true, apart := false }
def ShadowLastSaid : Prop := shadowLastRow.holds Try.pinned (OpenSpec.ofChange shadowLastSpec)

/-- ITS FALSE NEIGHBOUR: 'it returns false'. Refute it at one input. -/
def shadowLastWrong : ChangeSpec := { name := "shadowLast", fn := fun _ => fun
  | [d1, d2] => { results := [.lit (.bool false)], args := [d1, d2] }
  | _ => none }
def ShadowLastWrongFalsely : Prop := shadowLastRow.holds Try.pinned (OpenSpec.ofChange shadowLastWrong)

/-- 'mummerlaw16.ShadowBegins': WHATEVER THE INPUT: true; the input reads as it did. -/
def shadowBeginsSpec : ChangeSpec := { name := "shadowBegins", fn := fun _ => fun
  | [d1, d2, d3] => { results := [.lit (.bool true)], args := [d1, d2, d3] }
  | _ => none }
def shadowBeginsRow : OpenClaim := { program := "ythgkkjcemjadoaa", sum := "b315af819cc101d196ec65d800b1a8c8585a3a3905594a4ddfef32a6a01a84a7", func := "mummer/mummerlaw16.ShadowBegins", spec := "shadowBegins", inPlace := ["sync/atomic.AddInt64"], unfollowed := true, recurses := true, apart := false }
def ShadowBeginsSaid : Prop := shadowBeginsRow.holds Try.pinned (OpenSpec.ofChange shadowBeginsSpec)

/-- ITS FALSE NEIGHBOUR: 'it returns false'. Refute it at one input. -/
def shadowBeginsWrong : ChangeSpec := { name := "shadowBegins", fn := fun _ => fun
  | [d1, d2, d3] => { results := [.lit (.bool false)], args := [d1, d2, d3] }
  | _ => none }
def ShadowBeginsWrongFalsely : Prop := shadowBeginsRow.holds Try.pinned (OpenSpec.ofChange shadowBeginsWrong)

/-- 'mummerlaw16.ShadowUpper': WHATEVER THE INPUT: true; the input reads as it did. -/
def shadowUpperSpec : ChangeSpec := { name := "shadowUpper", fn := fun _ => fun
  | [d1, d2, d3] => { results := [.lit (.bool true)], args := [d1, d2, d3] }
  | _ => none }
def shadowUpperRow : OpenClaim := { program := "ythgkkjcemjadoaa", sum := "b315af819cc101d196ec65d800b1a8c8585a3a3905594a4ddfef32a6a01a84a7", func := "mummer/mummerlaw16.ShadowUpper", spec := "shadowUpper", inPlace := ["sync/atomic.AddInt64"], unfollowed := true, recurses := true, apart := false }
def ShadowUpperSaid : Prop := shadowUpperRow.holds Try.pinned (OpenSpec.ofChange shadowUpperSpec)

/-- ITS FALSE NEIGHBOUR: 'it returns false'. Refute it at one input. -/
def shadowUpperWrong : ChangeSpec := { name := "shadowUpper", fn := fun _ => fun
  | [d1, d2, d3] => { results := [.lit (.bool false)], args := [d1, d2, d3] }
  | _ => none }
def ShadowUpperWrongFalsely : Prop := shadowUpperRow.holds Try.pinned (OpenSpec.ofChange shadowUpperWrong)

/- THE SECOND FORM. 'bulk': how many values and letters a reading holds, each counted each time it is reached (what is shared counts as often as it is met; a slice's spare places count too). A statement '..UptoSaid' is the law's where the arguments, and the package variables that the reading takes, are together of bulk at most 1048576: NARROWER than '..Said'. Prove '..Said' where nothing that the law and all that it calls make is longer than what came in: it says more and counts as full. Else prove '..UptoSaid'. A law counts once. -/
mutual
def uptoBulk {H : Type} : DataW H → Nat
  | .lit (.string bytes) => bytes.length + 1
  | .lit _ => 1
  | .nil => 1
  | .ptr d => uptoBulk d + 1
  | .slice elems spare => uptoBulkAll elems + uptoBulkAll spare + 1
  | .agg parts => uptoBulkAll parts + 1
  | .iface _ d => uptoBulk d + 1
  | .map entries => uptoBulkEntries entries + 1
  | .held _ => 1
def uptoBulkAll {H : Type} : List (DataW H) → Nat
  | [] => 0
  | d :: r => uptoBulk d + uptoBulkAll r
def uptoBulkEntries {H : Type} : List (Lit × DataW H) → Nat
  | [] => 0
  | x :: r => uptoBulkEntry x + uptoBulkEntries r
def uptoBulkEntry {H : Type} : Lit × DataW H → Nat
  | (.string bytes, d) => bytes.length + uptoBulk d + 1
  | (_, d) => uptoBulk d + 1
 end
def uptoSmall : (H : Type) → List (DataW H) → Bool := fun _ ds => decide (uptoBulkAll ds ≤ 1048576)
def OpenSpec.upto (s : _root_.Go.ChangeSpec) : _root_.Go.OpenSpec := { _root_.Go.OpenSpec.ofChange s with cond := some uptoSmall }

/-- 'mummerlaw16.ShadowPlays', WHERE WHAT IT READS IS OF BULK AT MOST 1048576: true; the input reads as it did. -/
def shadowPlaysUptoRow : OpenClaim := { program := "ythgkkjcemjadoaa", sum := "b315af819cc101d196ec65d800b1a8c8585a3a3905594a4ddfef32a6a01a84a7", func := "mummer/mummerlaw16.ShadowPlays", spec := "shadowPlays", inPlace := ["sync/atomic.AddInt64"], unfollowed := true, recurses := true, apart := false, narrowed := true }
def ShadowPlaysUptoSaid : Prop := shadowPlaysUptoRow.holds Try.pinned (OpenSpec.upto shadowPlaysSpec)

/-- 'mummerlaw16.ShadowWrites', WHERE WHAT IT READS IS OF BULK AT MOST 1048576: true; the input reads as it did. -/
def shadowWritesUptoRow : OpenClaim := { program := "ythgkkjcemjadoaa", sum := "b315af819cc101d196ec65d800b1a8c8585a3a3905594a4ddfef32a6a01a84a7", func := "mummer/mummerlaw16.ShadowWrites", spec := "shadowWrites", inPlace := ["sync/atomic.AddInt64"], unfollowed := true, recurses := true, apart := false, narrowed := true }
def ShadowWritesUptoSaid : Prop := shadowWritesUptoRow.holds Try.pinned (OpenSpec.upto shadowWritesSpec)

/-- 'mummerlaw16.ShadowLast', WHERE WHAT IT READS IS OF BULK AT MOST 1048576: true; the input reads as it did. -/
def shadowLastUptoRow : OpenClaim := { program := "ythgkkjcemjadoaa", sum := "b315af819cc101d196ec65d800b1a8c8585a3a3905594a4ddfef32a6a01a84a7", func := "mummer/mummerlaw16.ShadowLast", spec := "shadowLast", inPlace := ["sync/atomic.AddInt64"], unfollowed := true, recurses := true, apart := false, narrowed := true }
def ShadowLastUptoSaid : Prop := shadowLastUptoRow.holds Try.pinned (OpenSpec.upto shadowLastSpec)

/-- 'mummerlaw16.ShadowBegins', WHERE WHAT IT READS IS OF BULK AT MOST 1048576: true; the input reads as it did. -/
def shadowBeginsUptoRow : OpenClaim := { program := "ythgkkjcemjadoaa", sum := "b315af819cc101d196ec65d800b1a8c8585a3a3905594a4ddfef32a6a01a84a7", func := "mummer/mummerlaw16.ShadowBegins", spec := "shadowBegins", inPlace := ["sync/atomic.AddInt64"], unfollowed := true, recurses := true, apart := false, narrowed := true }
def ShadowBeginsUptoSaid : Prop := shadowBeginsUptoRow.holds Try.pinned (OpenSpec.upto shadowBeginsSpec)

/-- 'mummerlaw16.ShadowUpper', WHERE WHAT IT READS IS OF BULK AT MOST 1048576: true; the input reads as it did. -/
def shadowUpperUptoRow : OpenClaim := { program := "ythgkkjcemjadoaa", sum := "b315af819cc101d196ec65d800b1a8c8585a3a3905594a4ddfef32a6a01a84a7", func := "mummer/mummerlaw16.ShadowUpper", spec := "shadowUpper", inPlace := ["sync/atomic.AddInt64"], unfollowed := true, recurses := true, apart := false, narrowed := true }
def ShadowUpperUptoSaid : Prop := shadowUpperUptoRow.holds Try.pinned (OpenSpec.upto shadowUpperSpec)

end Rows
end Go.Proofs.Ythgkkjcemjadoaa
