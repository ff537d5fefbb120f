/-
  No cell of these rows narrows 'for every input' (looked for: loops, veiled, ifaces, maps, wideKeys, modest, calm, conditions, laid).
  DERIVED. THE GIVEN ROWS OF THIS SEAT. 6 by the template 'for every input the law returns true; each argument reads behind the call as it read before'; 0 by the template 'total and deterministic' (their statements: YtahnmppnfoeffaaTotals.lean).
  GIVEN WITH THE SEED: the statements are not yours to turn. If you find one false, say at which input.
  Laid BY PROGRAM, IN A SANDBOX (cutbox-rows.mjs): the forced cells as the released guide's own fill.sh prints them over the translation 0fb5844a1200e152… (all of the seat's roots in one cut). By AI agents, Wed Nov 11 2026. No macro, syntax, notation, axiom, sorry.
-/
import Derived.Test.YtahnmppnfoeffaaChecked
import GoSem.Claim
import GoSem.ClaimJoined
import GoSem.ClaimMapViews
import Derived.JoinedTies
import Derived.KernelRfl
namespace Go.Proofs.Ytahnmppnfoeffaa
/- THE CELL 'sum', in the pinned program and in every row, IS THE sha256 OF THE DUMP (.gsa) THAT YtahnmppnfoeffaaProg.lean LOADS. Nothing in Lean hashes anything: it is a label: what it is worth is what the hold of that sum in a sandbox is worth. -/
noncomputable def Try.pinned : Pinned := { name := "ytahnmppnfoeffaa", sum := "0fb5844a1200e152caabba5e0f4cd80c6ad1f3b522cb01bdaa864904a2012852", checked := Try.checked }
namespace Rows
def none {H : Type} : Left H := { results := [], args := [] }

/-- 'mummerlaw06.WalkLooks': WHATEVER THE INPUT: true; the input reads as it did. -/
def walkLooksSpec : ChangeSpec := { name := "walkLooks", fn := fun _ => fun
  | [d1, d2, d3] => { results := [.lit (.bool true)], args := [d1, d2, d3] }
  | _ => none }
def walkLooksRow : OpenClaim := { program := "ytahnmppnfoeffaa", sum := "0fb5844a1200e152caabba5e0f4cd80c6ad1f3b522cb01bdaa864904a2012852", func := "mummer/mummerlaw06.WalkLooks", spec := "walkLooks", unfollowed := true, recurses := true, apart := false }
def WalkLooksSaid : Prop := walkLooksRow.holds Try.pinned (OpenSpec.ofChange walkLooksSpec)

/-- ITS FALSE NEIGHBOUR: 'it returns false'. Refute it at one input. -/
def walkLooksWrong : ChangeSpec := { name := "walkLooks", fn := fun _ => fun
  | [d1, d2, d3] => { results := [.lit (.bool false)], args := [d1, d2, d3] }
  | _ => none }
def WalkLooksWrongFalsely : Prop := walkLooksRow.holds Try.pinned (OpenSpec.ofChange walkLooksWrong)

/-- 'mummerlaw06.WalkMays': WHATEVER THE INPUT: true; the input reads as it did. -/
def walkMaysSpec : ChangeSpec := { name := "walkMays", fn := fun _ => fun
  | [d1, d2, d3] => { results := [.lit (.bool true)], args := [d1, d2, d3] }
  | _ => none }
def walkMaysRow : OpenClaim := { program := "ytahnmppnfoeffaa", sum := "0fb5844a1200e152caabba5e0f4cd80c6ad1f3b522cb01bdaa864904a2012852", func := "mummer/mummerlaw06.WalkMays", spec := "walkMays", unfollowed := true, recurses := true, apart := false }
def WalkMaysSaid : Prop := walkMaysRow.holds Try.pinned (OpenSpec.ofChange walkMaysSpec)

/-- ITS FALSE NEIGHBOUR: 'it returns false'. Refute it at one input. -/
def walkMaysWrong : ChangeSpec := { name := "walkMays", fn := fun _ => fun
  | [d1, d2, d3] => { results := [.lit (.bool false)], args := [d1, d2, d3] }
  | _ => none }
def WalkMaysWrongFalsely : Prop := walkMaysRow.holds Try.pinned (OpenSpec.ofChange walkMaysWrong)

/-- 'mummerlaw06.WalkComes': WHATEVER THE INPUT: true; the input reads as it did. -/
def walkComesSpec : ChangeSpec := { name := "walkComes", fn := fun _ => fun
  | [d1, d2, d3] => { results := [.lit (.bool true)], args := [d1, d2, d3] }
  | _ => none }
def walkComesRow : OpenClaim := { program := "ytahnmppnfoeffaa", sum := "0fb5844a1200e152caabba5e0f4cd80c6ad1f3b522cb01bdaa864904a2012852", func := "mummer/mummerlaw06.WalkComes", spec := "walkComes", unfollowed := true, recurses := true, apart := false }
def WalkComesSaid : Prop := walkComesRow.holds Try.pinned (OpenSpec.ofChange walkComesSpec)

/-- ITS FALSE NEIGHBOUR: 'it returns false'. Refute it at one input. -/
def walkComesWrong : ChangeSpec := { name := "walkComes", fn := fun _ => fun
  | [d1, d2, d3] => { results := [.lit (.bool false)], args := [d1, d2, d3] }
  | _ => none }
def WalkComesWrongFalsely : Prop := walkComesRow.holds Try.pinned (OpenSpec.ofChange walkComesWrong)

/-- 'mummerlaw06.WalkNone': WHATEVER THE INPUT: true; the input reads as it did. -/
def walkNoneSpec : ChangeSpec := { name := "walkNone", fn := fun _ => fun
  | [d] => { results := [.lit (.bool true)], args := [d] }
  | _ => none }
def walkNoneRow : OpenClaim := { program := "ytahnmppnfoeffaa", sum := "0fb5844a1200e152caabba5e0f4cd80c6ad1f3b522cb01bdaa864904a2012852", func := "mummer/mummerlaw06.WalkNone", spec := "walkNone", unfollowed := true, recurses := true, apart := false }
def WalkNoneSaid : Prop := walkNoneRow.holds Try.pinned (OpenSpec.ofChange walkNoneSpec)

/-- ITS FALSE NEIGHBOUR: 'it returns false'. Refute it at one input. -/
def walkNoneWrong : ChangeSpec := { name := "walkNone", fn := fun _ => fun
  | [d] => { results := [.lit (.bool false)], args := [d] }
  | _ => none }
def WalkNoneWrongFalsely : Prop := walkNoneRow.holds Try.pinned (OpenSpec.ofChange walkNoneWrong)

/-- 'mummerlaw06.WalkPages': WHATEVER THE INPUT: true; the input reads as it did. -/
def walkPagesSpec : ChangeSpec := { name := "walkPages", fn := fun _ => fun
  | [d1, d2, d3] => { results := [.lit (.bool true)], args := [d1, d2, d3] }
  | _ => none }
def walkPagesRow : OpenClaim := { program := "ytahnmppnfoeffaa", sum := "0fb5844a1200e152caabba5e0f4cd80c6ad1f3b522cb01bdaa864904a2012852", func := "mummer/mummerlaw06.WalkPages", spec := "walkPages", unfollowed := true, recurses := true, apart := false }
def WalkPagesSaid : Prop := walkPagesRow.holds Try.pinned (OpenSpec.ofChange walkPagesSpec)

/-- ITS FALSE NEIGHBOUR: 'it returns false'. Refute it at one input. -/
def walkPagesWrong : ChangeSpec := { name := "walkPages", fn := fun _ => fun
  | [d1, d2, d3] => { results := [.lit (.bool false)], args := [d1, d2, d3] }
  | _ => none }
def WalkPagesWrongFalsely : Prop := walkPagesRow.holds Try.pinned (OpenSpec.ofChange walkPagesWrong)

/-- 'mummerlaw06.WalkHangs': WHATEVER THE INPUT: true; the input reads as it did. -/
def walkHangsSpec : ChangeSpec := { name := "walkHangs", fn := fun _ => fun
  | [d1, d2, d3] => { results := [.lit (.bool true)], args := [d1, d2, d3] }
  | _ => none }
def walkHangsRow : OpenClaim := { program := "ytahnmppnfoeffaa", sum := "0fb5844a1200e152caabba5e0f4cd80c6ad1f3b522cb01bdaa864904a2012852", func := "mummer/mummerlaw06.WalkHangs", spec := "walkHangs", unfollowed := true, recurses := true, apart := false }
def WalkHangsSaid : Prop := walkHangsRow.holds Try.pinned (OpenSpec.ofChange walkHangsSpec)

/-- ITS FALSE NEIGHBOUR: 'it returns false'. Refute it at one input. -/
def walkHangsWrong : ChangeSpec := { name := "walkHangs", fn := fun _ => fun
  | [d1, d2, d3] => { results := [.lit (.bool false)], args := [d1, d2, d3] }
  | _ => none }
def WalkHangsWrongFalsely : Prop := walkHangsRow.holds Try.pinned (OpenSpec.ofChange walkHangsWrong)

/- THE SECOND FORM. 'bulk': how many values and letters a reading holds, each counted each time it is reached (what is shared counts as often as it is met; a slice's spare places count too). A statement '..UptoSaid' is the law's where the arguments, and the package variables that the reading takes, are together of bulk at most 1048576: NARROWER than '..Said'. Prove '..Said' where nothing that the law and all that it calls make is longer than what came in: it says more and counts as full. Else prove '..UptoSaid'. A law counts once. -/
mutual
def uptoBulk {H : Type} : DataW H → Nat
  | .lit (.string bytes) => bytes.length + 1
  | .lit _ => 1
  | .nil => 1
  | .ptr d => uptoBulk d + 1
  | .slice elems spare => uptoBulkAll elems + uptoBulkAll spare + 1
  | .agg parts => uptoBulkAll parts + 1
  | .iface _ d => uptoBulk d + 1
  | .map entries => uptoBulkEntries entries + 1
  | .held _ => 1
def uptoBulkAll {H : Type} : List (DataW H) → Nat
  | [] => 0
  | d :: r => uptoBulk d + uptoBulkAll r
def uptoBulkEntries {H : Type} : List (Lit × DataW H) → Nat
  | [] => 0
  | x :: r => uptoBulkEntry x + uptoBulkEntries r
def uptoBulkEntry {H : Type} : Lit × DataW H → Nat
  | (.string bytes, d) => bytes.length + uptoBulk d + 1
  | (_, d) => uptoBulk d + 1
 end
def uptoSmall : (H : Type) → List (DataW H) → Bool := fun _ ds => decide (uptoBulkAll ds ≤ 1048576)
def OpenSpec.upto (s : _root_.Go.ChangeSpec) : _root_.Go.OpenSpec := { _root_.Go.OpenSpec.ofChange s with cond := some uptoSmall }

/-- 'mummerlaw06.WalkLooks', WHERE WHAT IT READS IS OF BULK AT MOST 1048576: true; the input reads as it did. -/
def walkLooksUptoRow : OpenClaim := { program := "ytahnmppnfoeffaa", sum := "0fb5844a1200e152caabba5e0f4cd80c6ad1f3b522cb01bdaa864904a2012852", func := "mummer/mummerlaw06.WalkLooks", spec := "walkLooks", unfollowed := true, recurses := true, apart := false, narrowed := true }
def WalkLooksUptoSaid : Prop := walkLooksUptoRow.holds Try.pinned (OpenSpec.upto walkLooksSpec)

/-- 'mummerlaw06.WalkMays', WHERE WHAT IT READS IS OF BULK AT MOST 1048576: true; the input reads as it did. -/
def walkMaysUptoRow : OpenClaim := { program := "ytahnmppnfoeffaa", sum := "0fb5844a1200e152caabba5e0f4cd80c6ad1f3b522cb01bdaa864904a2012852", func := "mummer/mummerlaw06.WalkMays", spec := "walkMays", unfollowed := true, recurses := true, apart := false, narrowed := true }
def WalkMaysUptoSaid : Prop := walkMaysUptoRow.holds Try.pinned (OpenSpec.upto walkMaysSpec)

/-- 'mummerlaw06.WalkComes', WHERE WHAT IT READS IS OF BULK AT MOST 1048576: true; the input reads as it did. -/
def walkComesUptoRow : OpenClaim := { program := "ytahnmppnfoeffaa", sum := "0fb5844a1200e152caabba5e0f4cd80c6ad1f3b522cb01bdaa864904a2012852", func := "mummer/mummerlaw06.WalkComes", spec := "walkComes", unfollowed := true, recurses := true, apart := false, narrowed := true }
def WalkComesUptoSaid : Prop := walkComesUptoRow.holds Try.pinned (OpenSpec.upto walkComesSpec)

/-- 'mummerlaw06.WalkNone', WHERE WHAT IT READS IS OF BULK AT MOST 1048576: true; the input reads as it did. -/
def walkNoneUptoRow : OpenClaim := { program := "ytahnmppnfoeffaa", sum := "0fb5844a1200e152caabba5e0f4cd80c6ad1f3b522cb01bdaa864904a2012852", func := "mummer/mummerlaw06.WalkNone", spec := "walkNone", unfollowed := true, recurses := true, apart := false, narrowed := true }
def WalkNoneUptoSaid : Prop := walkNoneUptoRow.holds Try.pinned (OpenSpec.upto walkNoneSpec)

/-- 'mummerlaw06.WalkPages', WHERE WHAT IT READS IS OF BULK AT MOST 1048576: true; the input reads as it did. -/
def walkPagesUptoRow : OpenClaim := { program := "ytahnmppnfoeffaa", sum := "0fb5844a1200e152caabba5e0f4cd80c6ad1f3b522cb01bdaa864904a2012852", func := "mummer/mummerlaw06.WalkPages", spec := "walkPages", unfollowed := true, recurses := true, apart := false, narrowed := true }
def WalkPagesUptoSaid : Prop := walkPagesUptoRow.holds Try.pinned (OpenSpec.upto walkPagesSpec)

/-- 'mummerlaw06.WalkHangs', WHERE WHAT IT READS IS OF BULK AT MOST 1048576: true; the input reads as it did. -/
def walkHangsUptoRow : OpenClaim := { program := "ytahnmppnfoeffaa", sum := "0fb5844a1200e152caabba5e0f4cd80c6ad1f3b522cb01bdaa864904a2012852", func := "mummer/mummerlaw06.WalkHangs", spec := "walkHangs", unfollowed := true, recurses := true, apart := false, narrowed := true }
def WalkHangsUptoSaid : Prop := walkHangsUptoRow.holds Try.pinned (OpenSpec.upto walkHangsSpec)

end Rows
end Go.Proofs.Ytahnmppnfoeffaa
