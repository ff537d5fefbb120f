/-
  No cell of these rows narrows 'for every input' (looked for: loops, veiled, ifaces, maps, wideKeys, modest, calm, conditions, laid).
  DERIVED. THE GIVEN ROWS OF THIS SEAT. 6 by the template 'for every input the law returns true; each argument reads behind the call as it read before'; 0 by the template 'total and deterministic' (their statements: YtiegihaagolmdaaTotals.lean).
  GIVEN WITH THE SEED: the statements are not yours to turn. If you find one false, say at which input.
  Laid BY PROGRAM, IN A SANDBOX (cutbox-rows.mjs): the forced cells as the released guide's own fill.sh prints them over the translation 292f0c73f168e597… (all of the seat's roots in one cut). By AI agents, Wed Nov 11 2026. No macro, syntax, notation, axiom, sorry.
-/
import Derived.Test.YtiegihaagolmdaaChecked
import GoSem.Claim
import GoSem.ClaimJoined
import GoSem.ClaimMapViews
import Derived.JoinedTies
import Derived.KernelRfl
namespace Go.Proofs.Ytiegihaagolmdaa
/- THE CELL 'sum', in the pinned program and in every row, IS THE sha256 OF THE DUMP (.gsa) THAT YtiegihaagolmdaaProg.lean LOADS. Nothing in Lean hashes anything: it is a label: what it is worth is what the hold of that sum in a sandbox is worth. -/
noncomputable def Try.pinned : Pinned := { name := "ytiegihaagolmdaa", sum := "292f0c73f168e5970713babe88331b53d3925f6472e8888d71b6e7f7efccfdc2", checked := Try.checked }
namespace Rows
def none {H : Type} : Left H := { results := [], args := [] }

/-- 'mummerlaw05.RamPlays': WHATEVER THE INPUT: true; the input reads as it did. -/
def ramPlaysSpec : ChangeSpec := { name := "ramPlays", fn := fun _ => fun
  | [d1, d2] => { results := [.lit (.bool true)], args := [d1, d2] }
  | _ => none }
def ramPlaysRow : OpenClaim := { program := "ytiegihaagolmdaa", sum := "292f0c73f168e5970713babe88331b53d3925f6472e8888d71b6e7f7efccfdc2", func := "mummer/mummerlaw05.RamPlays", spec := "ramPlays", unfollowed := true, recurses := true, apart := false }
def RamPlaysSaid : Prop := ramPlaysRow.holds Try.pinned (OpenSpec.ofChange ramPlaysSpec)

/-- ITS FALSE NEIGHBOUR: 'it returns false'. Refute it at one input. -/
def ramPlaysWrong : ChangeSpec := { name := "ramPlays", fn := fun _ => fun
  | [d1, d2] => { results := [.lit (.bool false)], args := [d1, d2] }
  | _ => none }
def RamPlaysWrongFalsely : Prop := ramPlaysRow.holds Try.pinned (OpenSpec.ofChange ramPlaysWrong)

/-- 'mummerlaw05.RamSizes': WHATEVER THE INPUT: true; the input reads as it did. -/
def ramSizesSpec : ChangeSpec := { name := "ramSizes", fn := fun _ => fun
  | [d] => { results := [.lit (.bool true)], args := [d] }
  | _ => none }
def ramSizesRow : OpenClaim := { program := "ytiegihaagolmdaa", sum := "292f0c73f168e5970713babe88331b53d3925f6472e8888d71b6e7f7efccfdc2", func := "mummer/mummerlaw05.RamSizes", spec := "ramSizes", unfollowed := true, recurses := true, apart := false }
def RamSizesSaid : Prop := ramSizesRow.holds Try.pinned (OpenSpec.ofChange ramSizesSpec)

/-- ITS FALSE NEIGHBOUR: 'it returns false'. Refute it at one input. -/
def ramSizesWrong : ChangeSpec := { name := "ramSizes", fn := fun _ => fun
  | [d] => { results := [.lit (.bool false)], args := [d] }
  | _ => none }
def RamSizesWrongFalsely : Prop := ramSizesRow.holds Try.pinned (OpenSpec.ofChange ramSizesWrong)

/-- 'mummerlaw05.RamNone': WHATEVER THE INPUT: true; the input reads as it did. -/
def ramNoneSpec : ChangeSpec := { name := "ramNone", fn := fun _ => fun
  | [d] => { results := [.lit (.bool true)], args := [d] }
  | _ => none }
def ramNoneRow : OpenClaim := { program := "ytiegihaagolmdaa", sum := "292f0c73f168e5970713babe88331b53d3925f6472e8888d71b6e7f7efccfdc2", func := "mummer/mummerlaw05.RamNone", spec := "ramNone", unfollowed := true, recurses := true, apart := false }
def RamNoneSaid : Prop := ramNoneRow.holds Try.pinned (OpenSpec.ofChange ramNoneSpec)

/-- ITS FALSE NEIGHBOUR: 'it returns false'. Refute it at one input. -/
def ramNoneWrong : ChangeSpec := { name := "ramNone", fn := fun _ => fun
  | [d] => { results := [.lit (.bool false)], args := [d] }
  | _ => none }
def RamNoneWrongFalsely : Prop := ramNoneRow.holds Try.pinned (OpenSpec.ofChange ramNoneWrong)

/-- 'mummerlaw05.RamWords': WHATEVER THE INPUT: true; the input reads as it did. -/
def ramWordsSpec : ChangeSpec := { name := "ramWords", fn := fun _ => fun
  | [d1, d2, d3] => { results := [.lit (.bool true)], args := [d1, d2, d3] }
  | _ => none }
def ramWordsRow : OpenClaim := { program := "ytiegihaagolmdaa", sum := "292f0c73f168e5970713babe88331b53d3925f6472e8888d71b6e7f7efccfdc2", func := "mummer/mummerlaw05.RamWords", spec := "ramWords", unfollowed := true, recurses := true, apart := false }
def RamWordsSaid : Prop := ramWordsRow.holds Try.pinned (OpenSpec.ofChange ramWordsSpec)

/-- ITS FALSE NEIGHBOUR: 'it returns false'. Refute it at one input. -/
def ramWordsWrong : ChangeSpec := { name := "ramWords", fn := fun _ => fun
  | [d1, d2, d3] => { results := [.lit (.bool false)], args := [d1, d2, d3] }
  | _ => none }
def RamWordsWrongFalsely : Prop := ramWordsRow.holds Try.pinned (OpenSpec.ofChange ramWordsWrong)

/-- 'mummerlaw05.RamElsewhere': WHATEVER THE INPUT: true; the input reads as it did. -/
def ramElsewhereSpec : ChangeSpec := { name := "ramElsewhere", fn := fun _ => fun
  | [d1, d2, d3] => { results := [.lit (.bool true)], args := [d1, d2, d3] }
  | _ => none }
def ramElsewhereRow : OpenClaim := { program := "ytiegihaagolmdaa", sum := "292f0c73f168e5970713babe88331b53d3925f6472e8888d71b6e7f7efccfdc2", func := "mummer/mummerlaw05.RamElsewhere", spec := "ramElsewhere", unfollowed := true, recurses := true, apart := false }
def RamElsewhereSaid : Prop := ramElsewhereRow.holds Try.pinned (OpenSpec.ofChange ramElsewhereSpec)

/-- ITS FALSE NEIGHBOUR: 'it returns false'. Refute it at one input. -/
def ramElsewhereWrong : ChangeSpec := { name := "ramElsewhere", fn := fun _ => fun
  | [d1, d2, d3] => { results := [.lit (.bool false)], args := [d1, d2, d3] }
  | _ => none }
def RamElsewhereWrongFalsely : Prop := ramElsewhereRow.holds Try.pinned (OpenSpec.ofChange ramElsewhereWrong)

/-- 'mummerlaw05.RamWindows': WHATEVER THE INPUT: true; the input reads as it did. -/
def ramWindowsSpec : ChangeSpec := { name := "ramWindows", fn := fun _ => fun
  | [d1, d2, d3] => { results := [.lit (.bool true)], args := [d1, d2, d3] }
  | _ => none }
def ramWindowsRow : OpenClaim := { program := "ytiegihaagolmdaa", sum := "292f0c73f168e5970713babe88331b53d3925f6472e8888d71b6e7f7efccfdc2", func := "mummer/mummerlaw05.RamWindows", spec := "ramWindows", unfollowed := true, recurses := true, apart := false }
def RamWindowsSaid : Prop := ramWindowsRow.holds Try.pinned (OpenSpec.ofChange ramWindowsSpec)

/-- ITS FALSE NEIGHBOUR: 'it returns false'. Refute it at one input. -/
def ramWindowsWrong : ChangeSpec := { name := "ramWindows", fn := fun _ => fun
  | [d1, d2, d3] => { results := [.lit (.bool false)], args := [d1, d2, d3] }
  | _ => none }
def RamWindowsWrongFalsely : Prop := ramWindowsRow.holds Try.pinned (OpenSpec.ofChange ramWindowsWrong)

/- THE SECOND FORM. 'bulk': how many values and letters a reading holds, each counted each time it is reached (what is shared counts as often as it is met; a slice's spare places count too). A statement '..UptoSaid' is the law's where the arguments, and the package variables that the reading takes, are together of bulk at most 1048576: NARROWER than '..Said'. Prove '..Said' where nothing that the law and all that it calls make is longer than what came in: it says more and counts as full. Else prove '..UptoSaid'. A law counts once. -/
mutual
def uptoBulk {H : Type} : DataW H → Nat
  | .lit (.string bytes) => bytes.length + 1
  | .lit _ => 1
  | .nil => 1
  | .ptr d => uptoBulk d + 1
  | .slice elems spare => uptoBulkAll elems + uptoBulkAll spare + 1
  | .agg parts => uptoBulkAll parts + 1
  | .iface _ d => uptoBulk d + 1
  | .map entries => uptoBulkEntries entries + 1
  | .held _ => 1
def uptoBulkAll {H : Type} : List (DataW H) → Nat
  | [] => 0
  | d :: r => uptoBulk d + uptoBulkAll r
def uptoBulkEntries {H : Type} : List (Lit × DataW H) → Nat
  | [] => 0
  | x :: r => uptoBulkEntry x + uptoBulkEntries r
def uptoBulkEntry {H : Type} : Lit × DataW H → Nat
  | (.string bytes, d) => bytes.length + uptoBulk d + 1
  | (_, d) => uptoBulk d + 1
 end
def uptoSmall : (H : Type) → List (DataW H) → Bool := fun _ ds => decide (uptoBulkAll ds ≤ 1048576)
def OpenSpec.upto (s : _root_.Go.ChangeSpec) : _root_.Go.OpenSpec := { _root_.Go.OpenSpec.ofChange s with cond := some uptoSmall }

/-- 'mummerlaw05.RamPlays', WHERE WHAT IT READS IS OF BULK AT MOST 1048576: true; the input reads as it did. -/
def ramPlaysUptoRow : OpenClaim := { program := "ytiegihaagolmdaa", sum := "292f0c73f168e5970713babe88331b53d3925f6472e8888d71b6e7f7efccfdc2", func := "mummer/mummerlaw05.RamPlays", spec := "ramPlays", unfollowed := true, recurses := true, apart := false, narrowed := true }
def RamPlaysUptoSaid : Prop := ramPlaysUptoRow.holds Try.pinned (OpenSpec.upto ramPlaysSpec)

/-- 'mummerlaw05.RamSizes', WHERE WHAT IT READS IS OF BULK AT MOST 1048576: true; the input reads as it did. -/
def ramSizesUptoRow : OpenClaim := { program := "ytiegihaagolmdaa", sum := "292f0c73f168e5970713babe88331b53d3925f6472e8888d71b6e7f7efccfdc2", func := "mummer/mummerlaw05.RamSizes", spec := "ramSizes", unfollowed := true, recurses := true, apart := false, narrowed := true }
def RamSizesUptoSaid : Prop := ramSizesUptoRow.holds Try.pinned (OpenSpec.upto ramSizesSpec)

/-- 'mummerlaw05.RamNone', WHERE WHAT IT READS IS OF BULK AT MOST 1048576: true; the input reads as it did. -/
def ramNoneUptoRow : OpenClaim := { program := "ytiegihaagolmdaa", sum := "292f0c73f168e5970713babe88331b53d3925f6472e8888d71b6e7f7efccfdc2", func := "mummer/mummerlaw05.RamNone", spec := "ramNone", unfollowed := true, recurses := true, apart := false, narrowed := true }
def RamNoneUptoSaid : Prop := ramNoneUptoRow.holds Try.pinned (OpenSpec.upto ramNoneSpec)

/-- 'mummerlaw05.RamWords', WHERE WHAT IT READS IS OF BULK AT MOST 1048576: true; the input reads as it did. -/
def ramWordsUptoRow : OpenClaim := { program := "ytiegihaagolmdaa", sum := "292f0c73f168e5970713babe88331b53d3925f6472e8888d71b6e7f7efccfdc2", func := "mummer/mummerlaw05.RamWords", spec := "ramWords", unfollowed := true, recurses := true, apart := false, narrowed := true }
def RamWordsUptoSaid : Prop := ramWordsUptoRow.holds Try.pinned (OpenSpec.upto ramWordsSpec)

/-- 'mummerlaw05.RamElsewhere', WHERE WHAT IT READS IS OF BULK AT MOST 1048576: true; the input reads as it did. -/
def ramElsewhereUptoRow : OpenClaim := { program := "ytiegihaagolmdaa", sum := "292f0c73f168e5970713babe88331b53d3925f6472e8888d71b6e7f7efccfdc2", func := "mummer/mummerlaw05.RamElsewhere", spec := "ramElsewhere", unfollowed := true, recurses := true, apart := false, narrowed := true }
def RamElsewhereUptoSaid : Prop := ramElsewhereUptoRow.holds Try.pinned (OpenSpec.upto ramElsewhereSpec)

/-- 'mummerlaw05.RamWindows', WHERE WHAT IT READS IS OF BULK AT MOST 1048576: true; the input reads as it did. -/
def ramWindowsUptoRow : OpenClaim := { program := "ytiegihaagolmdaa", sum := "292f0c73f168e5970713babe88331b53d3925f6472e8888d71b6e7f7efccfdc2", func := "mummer/mummerlaw05.RamWindows", spec := "ramWindows", unfollowed := true, recurses := true, apart := false, narrowed := true }
def RamWindowsUptoSaid : Prop := ramWindowsUptoRow.holds Try.pinned (OpenSpec.upto ramWindowsSpec)

end Rows
end Go.Proofs.Ytiegihaagolmdaa
