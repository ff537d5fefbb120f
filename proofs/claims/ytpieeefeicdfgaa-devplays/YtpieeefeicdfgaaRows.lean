/-
  No cell of these rows narrows 'for every input' (looked for: loops, veiled, ifaces, maps, wideKeys, modest, calm, conditions, laid).
  DERIVED. THE GIVEN ROWS OF THIS SEAT. 6 by the template 'for every input the law returns true; each argument reads behind the call as it read before'; 0 by the template 'total and deterministic' (their statements: YtpieeefeicdfgaaTotals.lean).
  GIVEN WITH THE SEED: the statements are not yours to turn. If you find one false, say at which input.
  Laid BY PROGRAM, IN A SANDBOX (cutbox-rows.mjs): the forced cells as the released guide's own fill.sh prints them over the translation f3e2598727783be3… (all of the seat's roots in one cut). By AI agents, Wed Nov 11 2026. No macro, syntax, notation, axiom, sorry.
-/
import Derived.Test.YtpieeefeicdfgaaChecked
import GoSem.Claim
import GoSem.ClaimJoined
import GoSem.ClaimMapViews
import Derived.JoinedTies
import Derived.KernelRfl
namespace Go.Proofs.Ytpieeefeicdfgaa
/- THE CELL 'sum', in the pinned program and in every row, IS THE sha256 OF THE DUMP (.gsa) THAT YtpieeefeicdfgaaProg.lean LOADS. Nothing in Lean hashes anything: it is a label: what it is worth is what the hold of that sum in a sandbox is worth. -/
noncomputable def Try.pinned : Pinned := { name := "ytpieeefeicdfgaa", sum := "f3e2598727783be3abde5934007917f2892ab3e00b3d378a0cce8a93269c47a0", checked := Try.checked }
namespace Rows
def none {H : Type} : Left H := { results := [], args := [] }

/-- 'mummerlaw11.DevPlays': WHATEVER THE INPUT: true; the input reads as it did. -/
def devPlaysSpec : ChangeSpec := { name := "devPlays", fn := fun _ => fun
  | [d1, d2, d3] => { results := [.lit (.bool true)], args := [d1, d2, d3] }
  | _ => none }
def devPlaysRow : OpenClaim := { program := "ytpieeefeicdfgaa", sum := "f3e2598727783be3abde5934007917f2892ab3e00b3d378a0cce8a93269c47a0", func := "mummer/mummerlaw11.DevPlays", spec := "devPlays", unfollowed := true, recurses := true, apart := false }
def DevPlaysSaid : Prop := devPlaysRow.holds Try.pinned (OpenSpec.ofChange devPlaysSpec)

/-- ITS FALSE NEIGHBOUR: 'it returns false'. Refute it at one input. -/
def devPlaysWrong : ChangeSpec := { name := "devPlays", fn := fun _ => fun
  | [d1, d2, d3] => { results := [.lit (.bool false)], args := [d1, d2, d3] }
  | _ => none }
def DevPlaysWrongFalsely : Prop := devPlaysRow.holds Try.pinned (OpenSpec.ofChange devPlaysWrong)

/-- 'mummerlaw11.DevScripts': WHATEVER THE INPUT: true; the input reads as it did. -/
def devScriptsSpec : ChangeSpec := { name := "devScripts", fn := fun _ => fun
  | [d1, d2] => { results := [.lit (.bool true)], args := [d1, d2] }
  | _ => none }
def devScriptsRow : OpenClaim := { program := "ytpieeefeicdfgaa", sum := "f3e2598727783be3abde5934007917f2892ab3e00b3d378a0cce8a93269c47a0", func := "mummer/mummerlaw11.DevScripts", spec := "devScripts", unfollowed := true, recurses := true, apart := false }
def DevScriptsSaid : Prop := devScriptsRow.holds Try.pinned (OpenSpec.ofChange devScriptsSpec)

/-- ITS FALSE NEIGHBOUR: 'it returns false'. Refute it at one input. -/
def devScriptsWrong : ChangeSpec := { name := "devScripts", fn := fun _ => fun
  | [d1, d2] => { results := [.lit (.bool false)], args := [d1, d2] }
  | _ => none }
def DevScriptsWrongFalsely : Prop := devScriptsRow.holds Try.pinned (OpenSpec.ofChange devScriptsWrong)

/-- 'mummerlaw11.DevNone': WHATEVER THE INPUT: true; the input reads as it did. -/
def devNoneSpec : ChangeSpec := { name := "devNone", fn := fun _ => fun
  | [d] => { results := [.lit (.bool true)], args := [d] }
  | _ => none }
def devNoneRow : OpenClaim := { program := "ytpieeefeicdfgaa", sum := "f3e2598727783be3abde5934007917f2892ab3e00b3d378a0cce8a93269c47a0", func := "mummer/mummerlaw11.DevNone", spec := "devNone", unfollowed := true, recurses := true, apart := false }
def DevNoneSaid : Prop := devNoneRow.holds Try.pinned (OpenSpec.ofChange devNoneSpec)

/-- ITS FALSE NEIGHBOUR: 'it returns false'. Refute it at one input. -/
def devNoneWrong : ChangeSpec := { name := "devNone", fn := fun _ => fun
  | [d] => { results := [.lit (.bool false)], args := [d] }
  | _ => none }
def DevNoneWrongFalsely : Prop := devNoneRow.holds Try.pinned (OpenSpec.ofChange devNoneWrong)

/-- 'mummerlaw11.DevOnce': WHATEVER THE INPUT: true; the input reads as it did. -/
def devOnceSpec : ChangeSpec := { name := "devOnce", fn := fun _ => fun
  | [d1, d2] => { results := [.lit (.bool true)], args := [d1, d2] }
  | _ => none }
def devOnceRow : OpenClaim := { program := "ytpieeefeicdfgaa", sum := "f3e2598727783be3abde5934007917f2892ab3e00b3d378a0cce8a93269c47a0", func := "mummer/mummerlaw11.DevOnce", spec := "devOnce", unfollowed := true, recurses := true, apart := false }
def DevOnceSaid : Prop := devOnceRow.holds Try.pinned (OpenSpec.ofChange devOnceSpec)

/-- ITS FALSE NEIGHBOUR: 'it returns false'. Refute it at one input. -/
def devOnceWrong : ChangeSpec := { name := "devOnce", fn := fun _ => fun
  | [d1, d2] => { results := [.lit (.bool false)], args := [d1, d2] }
  | _ => none }
def DevOnceWrongFalsely : Prop := devOnceRow.holds Try.pinned (OpenSpec.ofChange devOnceWrong)

/-- 'mummerlaw11.DevBytes': WHATEVER THE INPUT: true; the input reads as it did. -/
def devBytesSpec : ChangeSpec := { name := "devBytes", fn := fun _ => fun
  | [d1, d2] => { results := [.lit (.bool true)], args := [d1, d2] }
  | _ => none }
def devBytesRow : OpenClaim := { program := "ytpieeefeicdfgaa", sum := "f3e2598727783be3abde5934007917f2892ab3e00b3d378a0cce8a93269c47a0", func := "mummer/mummerlaw11.DevBytes", spec := "devBytes", unfollowed := true, recurses := true, apart := false }
def DevBytesSaid : Prop := devBytesRow.holds Try.pinned (OpenSpec.ofChange devBytesSpec)

/-- ITS FALSE NEIGHBOUR: 'it returns false'. Refute it at one input. -/
def devBytesWrong : ChangeSpec := { name := "devBytes", fn := fun _ => fun
  | [d1, d2] => { results := [.lit (.bool false)], args := [d1, d2] }
  | _ => none }
def DevBytesWrongFalsely : Prop := devBytesRow.holds Try.pinned (OpenSpec.ofChange devBytesWrong)

/-- 'mummerlaw11.DevBlocks': WHATEVER THE INPUT: true; the input reads as it did. -/
def devBlocksSpec : ChangeSpec := { name := "devBlocks", fn := fun _ => fun
  | [d1, d2, d3] => { results := [.lit (.bool true)], args := [d1, d2, d3] }
  | _ => none }
def devBlocksRow : OpenClaim := { program := "ytpieeefeicdfgaa", sum := "f3e2598727783be3abde5934007917f2892ab3e00b3d378a0cce8a93269c47a0", func := "mummer/mummerlaw11.DevBlocks", spec := "devBlocks", unfollowed := true, recurses := true, apart := false }
def DevBlocksSaid : Prop := devBlocksRow.holds Try.pinned (OpenSpec.ofChange devBlocksSpec)

/-- ITS FALSE NEIGHBOUR: 'it returns false'. Refute it at one input. -/
def devBlocksWrong : ChangeSpec := { name := "devBlocks", fn := fun _ => fun
  | [d1, d2, d3] => { results := [.lit (.bool false)], args := [d1, d2, d3] }
  | _ => none }
def DevBlocksWrongFalsely : Prop := devBlocksRow.holds Try.pinned (OpenSpec.ofChange devBlocksWrong)

/- THE SECOND FORM. 'bulk': how many values and letters a reading holds, each counted each time it is reached (what is shared counts as often as it is met; a slice's spare places count too). A statement '..UptoSaid' is the law's where the arguments, and the package variables that the reading takes, are together of bulk at most 1048576: NARROWER than '..Said'. Prove '..Said' where nothing that the law and all that it calls make is longer than what came in: it says more and counts as full. Else prove '..UptoSaid'. A law counts once. -/
mutual
def uptoBulk {H : Type} : DataW H → Nat
  | .lit (.string bytes) => bytes.length + 1
  | .lit _ => 1
  | .nil => 1
  | .ptr d => uptoBulk d + 1
  | .slice elems spare => uptoBulkAll elems + uptoBulkAll spare + 1
  | .agg parts => uptoBulkAll parts + 1
  | .iface _ d => uptoBulk d + 1
  | .map entries => uptoBulkEntries entries + 1
  | .held _ => 1
def uptoBulkAll {H : Type} : List (DataW H) → Nat
  | [] => 0
  | d :: r => uptoBulk d + uptoBulkAll r
def uptoBulkEntries {H : Type} : List (Lit × DataW H) → Nat
  | [] => 0
  | x :: r => uptoBulkEntry x + uptoBulkEntries r
def uptoBulkEntry {H : Type} : Lit × DataW H → Nat
  | (.string bytes, d) => bytes.length + uptoBulk d + 1
  | (_, d) => uptoBulk d + 1
 end
def uptoSmall : (H : Type) → List (DataW H) → Bool := fun _ ds => decide (uptoBulkAll ds ≤ 1048576)
def OpenSpec.upto (s : _root_.Go.ChangeSpec) : _root_.Go.OpenSpec := { _root_.Go.OpenSpec.ofChange s with cond := some uptoSmall }

/-- 'mummerlaw11.DevPlays', WHERE WHAT IT READS IS OF BULK AT MOST 1048576: true; the input reads as it did. -/
def devPlaysUptoRow : OpenClaim := { program := "ytpieeefeicdfgaa", sum := "f3e2598727783be3abde5934007917f2892ab3e00b3d378a0cce8a93269c47a0", func := "mummer/mummerlaw11.DevPlays", spec := "devPlays", unfollowed := true, recurses := true, apart := false, narrowed := true }
def DevPlaysUptoSaid : Prop := devPlaysUptoRow.holds Try.pinned (OpenSpec.upto devPlaysSpec)

/-- 'mummerlaw11.DevScripts', WHERE WHAT IT READS IS OF BULK AT MOST 1048576: true; the input reads as it did. -/
def devScriptsUptoRow : OpenClaim := { program := "ytpieeefeicdfgaa", sum := "f3e2598727783be3abde5934007917f2892ab3e00b3d378a0cce8a93269c47a0", func := "mummer/mummerlaw11.DevScripts", spec := "devScripts", unfollowed := true, recurses := true, apart := false, narrowed := true }
def DevScriptsUptoSaid : Prop := devScriptsUptoRow.holds Try.pinned (OpenSpec.upto devScriptsSpec)

/-- 'mummerlaw11.DevNone', WHERE WHAT IT READS IS OF BULK AT MOST 1048576: true; the input reads as it did. -/
def devNoneUptoRow : OpenClaim := { program := "ytpieeefeicdfgaa", sum := "f3e2598727783be3abde5934007917f2892ab3e00b3d378a0cce8a93269c47a0", func := "mummer/mummerlaw11.DevNone", spec := "devNone", unfollowed := true, recurses := true, apart := false, narrowed := true }
def DevNoneUptoSaid : Prop := devNoneUptoRow.holds Try.pinned (OpenSpec.upto devNoneSpec)

/-- 'mummerlaw11.DevOnce', WHERE WHAT IT READS IS OF BULK AT MOST 1048576: true; the input reads as it did. -/
def devOnceUptoRow : OpenClaim := { program := "ytpieeefeicdfgaa", sum := "f3e2598727783be3abde5934007917f2892ab3e00b3d378a0cce8a93269c47a0", func := "mummer/mummerlaw11.DevOnce", spec := "devOnce", unfollowed := true, recurses := true, apart := false, narrowed := true }
def DevOnceUptoSaid : Prop := devOnceUptoRow.holds Try.pinned (OpenSpec.upto devOnceSpec)

/-- 'mummerlaw11.DevBytes', WHERE WHAT IT READS IS OF BULK AT MOST 1048576: true; the input reads as it did. -/
def devBytesUptoRow : OpenClaim := { program := "ytpieeefeicdfgaa", sum := "f3e2598727783be3abde5934007917f2892ab3e00b3d378a0cce8a93269c47a0", func := "mummer/mummerlaw11.DevBytes", spec := "devBytes", unfollowed := true, recurses := true, apart := false, narrowed := true }
def DevBytesUptoSaid : Prop := devBytesUptoRow.holds Try.pinned (OpenSpec.upto devBytesSpec)

/-- 'mummerlaw11.DevBlocks', WHERE WHAT IT READS IS OF BULK AT MOST 1048576: true; the input reads as it did. -/
def devBlocksUptoRow : OpenClaim := { program := "ytpieeefeicdfgaa", sum := "f3e2598727783be3abde5934007917f2892ab3e00b3d378a0cce8a93269c47a0", func := "mummer/mummerlaw11.DevBlocks", spec := "devBlocks", unfollowed := true, recurses := true, apart := false, narrowed := true }
def DevBlocksUptoSaid : Prop := devBlocksUptoRow.holds Try.pinned (OpenSpec.upto devBlocksSpec)

end Rows
end Go.Proofs.Ytpieeefeicdfgaa
