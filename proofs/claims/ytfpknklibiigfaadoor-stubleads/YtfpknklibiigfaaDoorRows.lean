/-
  NARROWER THAN 'FOR EVERY INPUT', by the rows' own cells (each row's printed sentence says how): StubMakes: laid · StubJumps: laid · StubReads: laid · StubBack: laid · StubLeads: laid.
  DERIVED. THE GIVEN ROWS OF THIS SEAT. 5 by the template 'for every input the law returns true; each argument reads behind the call as it read before'; 0 by the template 'total and deterministic' (their statements: YtfpknklibiigfaaDoorTotals.lean).
  GIVEN WITH THE SEED: the statements are not yours to turn. If you find one false, say at which input.
  Laid BY PROGRAM, IN A SANDBOX (cutbox-rows.mjs): the forced cells as the released guide's own fill.sh prints them over the translation 15cfeee230c5d894… (all of the seat's roots in one cut). By AI agents, Wed Nov 11 2026. No macro, syntax, notation, axiom, sorry.
-/
import Derived.Test.YtfpknklibiigfaaDoorChecked
import GoSem.Claim
import GoSem.ClaimJoined
import GoSem.ClaimMapViews
import Derived.JoinedTies
import Derived.KernelRfl
namespace Go.Proofs.YtfpknklibiigfaaDoor
/- THE CELL 'sum', in the pinned program and in every row, IS THE sha256 OF THE DUMP (.gsa) THAT YtfpknklibiigfaaDoorProg.lean LOADS. Nothing in Lean hashes anything: it is a label: what it is worth is what the hold of that sum in a sandbox is worth. -/
noncomputable def Tryd.pinned : Pinned := { name := "ytfpknklibiigfaadoor", sum := "15cfeee230c5d894a68838281af4137f323b03b0cce89a7751db4ec6685f3466", checked := Tryd.checked }
namespace Rows
def none {H : Type} : Left H := { results := [], args := [] }

/- WHAT THE LISTED PACKAGE-LEVEL VARIABLES READ AS WHEN THE CALL BEGINS. Each datum BY PROGRAM (the guide's laid-datum.mjs) off the statement by which the dump's own 'gosem.cut.vars' lays the variable. In a bare row this is a premise. The card (YtfpknklibiigfaaDoorCards.lean) ties it to the program's text. -/
def laid_mummer_isa_forms {H : Type} : DataW H := .agg [.agg [.lit (.int .u8 0), .lit (.int .u8 0), .lit (.int .u8 0), .lit (.int .u8 0), .lit (.int .u8 0)], .agg [.lit (.int .u8 1), .lit (.int .u8 0), .lit (.int .u8 0), .lit (.int .u8 0), .lit (.int .u8 0)], .agg [.lit (.int .u8 1), .lit (.int .u8 7), .lit (.int .u8 0), .lit (.int .u8 0), .lit (.int .u8 0)], .agg [.lit (.int .u8 1), .lit (.int .u8 7), .lit (.int .u8 7), .lit (.int .u8 0), .lit (.int .u8 0)], .agg [.lit (.int .u8 1), .lit (.int .u8 0), .lit (.int .u8 0), .lit (.int .u8 1), .lit (.int .u8 0)], .agg [.lit (.int .u8 1), .lit (.int .u8 7), .lit (.int .u8 0), .lit (.int .u8 1), .lit (.int .u8 1)], .agg [.lit (.int .u8 1), .lit (.int .u8 7), .lit (.int .u8 7), .lit (.int .u8 1), .lit (.int .u8 1)], .agg [.lit (.int .u8 1), .lit (.int .u8 0), .lit (.int .u8 0), .lit (.int .u8 2), .lit (.int .u8 1)], .agg [.lit (.int .u8 1), .lit (.int .u8 0), .lit (.int .u8 0), .lit (.int .u8 2), .lit (.int .u8 0)], .agg [.lit (.int .u8 1), .lit (.int .u8 7), .lit (.int .u8 0), .lit (.int .u8 4), .lit (.int .u8 1)]]
def laid_mummer_isa_spans {H : Type} : DataW H := .agg [.agg [.lit (.int .u8 0), .lit (.int .u8 3), .lit (.int .u8 1), .lit (.bool false)], .agg [.lit (.int .u8 16), .lit (.int .u8 31), .lit (.int .u8 3), .lit (.bool false)], .agg [.lit (.int .u8 32), .lit (.int .u8 32), .lit (.int .u8 9), .lit (.bool false)], .agg [.lit (.int .u8 33), .lit (.int .u8 33), .lit (.int .u8 5), .lit (.bool false)], .agg [.lit (.int .u8 48), .lit (.int .u8 55), .lit (.int .u8 6), .lit (.bool false)], .agg [.lit (.int .u8 56), .lit (.int .u8 57), .lit (.int .u8 2), .lit (.bool false)], .agg [.lit (.int .u8 58), .lit (.int .u8 58), .lit (.int .u8 3), .lit (.bool false)], .agg [.lit (.int .u8 64), .lit (.int .u8 72), .lit (.int .u8 7), .lit (.bool false)], .agg [.lit (.int .u8 73), .lit (.int .u8 74), .lit (.int .u8 2), .lit (.bool false)], .agg [.lit (.int .u8 80), .lit (.int .u8 80), .lit (.int .u8 4), .lit (.bool false)], .agg [.lit (.int .u8 96), .lit (.int .u8 97), .lit (.int .u8 2), .lit (.bool false)], .agg [.lit (.int .u8 98), .lit (.int .u8 101), .lit (.int .u8 3), .lit (.bool false)], .agg [.lit (.int .u8 112), .lit (.int .u8 112), .lit (.int .u8 4), .lit (.bool true)], .agg [.lit (.int .u8 113), .lit (.int .u8 113), .lit (.int .u8 8), .lit (.bool true)]]

/-- 'mummerlaw19.StubMakes': WHATEVER THE INPUT: true; the input reads as it did. -/
def stubMakesSpec : ChangeSpec := { name := "stubMakes", fn := fun _ => fun
  | [d1, d2] => { results := [.lit (.bool true)], args := [d1, d2] }
  | _ => none }
def stubMakesRow : OpenClaim := { program := "ytfpknklibiigfaadoor", sum := "15cfeee230c5d894a68838281af4137f323b03b0cce89a7751db4ec6685f3466", func := "mummer/mummerlaw19.StubMakes", spec := "stubMakes", named := ["mummer/isa.forms", "mummer/isa.spans"], apart := false, laid := [("mummer/isa.forms", laid_mummer_isa_forms), ("mummer/isa.spans", laid_mummer_isa_spans)] }
def StubMakesSaid : Prop := stubMakesRow.holds Tryd.pinned (OpenSpec.ofChange stubMakesSpec)

/-- ITS FALSE NEIGHBOUR: 'it returns false'. Refute it at one input. -/
def stubMakesWrong : ChangeSpec := { name := "stubMakes", fn := fun _ => fun
  | [d1, d2] => { results := [.lit (.bool false)], args := [d1, d2] }
  | _ => none }
def StubMakesWrongFalsely : Prop := stubMakesRow.holds Tryd.pinned (OpenSpec.ofChange stubMakesWrong)

/-- 'mummerlaw19.StubJumps': WHATEVER THE INPUT: true; the input reads as it did. -/
def stubJumpsSpec : ChangeSpec := { name := "stubJumps", fn := fun _ => fun
  | [d1, d2] => { results := [.lit (.bool true)], args := [d1, d2] }
  | _ => none }
def stubJumpsRow : OpenClaim := { program := "ytfpknklibiigfaadoor", sum := "15cfeee230c5d894a68838281af4137f323b03b0cce89a7751db4ec6685f3466", func := "mummer/mummerlaw19.StubJumps", spec := "stubJumps", named := ["mummer/isa.spans", "mummer/isa.forms"], apart := false, laid := [("mummer/isa.forms", laid_mummer_isa_forms), ("mummer/isa.spans", laid_mummer_isa_spans)] }
def StubJumpsSaid : Prop := stubJumpsRow.holds Tryd.pinned (OpenSpec.ofChange stubJumpsSpec)

/-- ITS FALSE NEIGHBOUR: 'it returns false'. Refute it at one input. -/
def stubJumpsWrong : ChangeSpec := { name := "stubJumps", fn := fun _ => fun
  | [d1, d2] => { results := [.lit (.bool false)], args := [d1, d2] }
  | _ => none }
def StubJumpsWrongFalsely : Prop := stubJumpsRow.holds Tryd.pinned (OpenSpec.ofChange stubJumpsWrong)

/-- 'mummerlaw19.StubReads': WHATEVER THE INPUT: true; the input reads as it did. -/
def stubReadsSpec : ChangeSpec := { name := "stubReads", fn := fun _ => fun
  | [d] => { results := [.lit (.bool true)], args := [d] }
  | _ => none }
def stubReadsRow : OpenClaim := { program := "ytfpknklibiigfaadoor", sum := "15cfeee230c5d894a68838281af4137f323b03b0cce89a7751db4ec6685f3466", func := "mummer/mummerlaw19.StubReads", spec := "stubReads", unfollowed := true, recurses := true, named := ["mummer/isa.forms", "mummer/isa.spans"], apart := false, laid := [("mummer/isa.forms", laid_mummer_isa_forms), ("mummer/isa.spans", laid_mummer_isa_spans)] }
def StubReadsSaid : Prop := stubReadsRow.holds Tryd.pinned (OpenSpec.ofChange stubReadsSpec)

/-- ITS FALSE NEIGHBOUR: 'it returns false'. Refute it at one input. -/
def stubReadsWrong : ChangeSpec := { name := "stubReads", fn := fun _ => fun
  | [d] => { results := [.lit (.bool false)], args := [d] }
  | _ => none }
def StubReadsWrongFalsely : Prop := stubReadsRow.holds Tryd.pinned (OpenSpec.ofChange stubReadsWrong)

/-- 'mummerlaw19.StubBack': WHATEVER THE INPUT: true; the input reads as it did. -/
def stubBackSpec : ChangeSpec := { name := "stubBack", fn := fun _ => fun
  | [d1, d2, d3] => { results := [.lit (.bool true)], args := [d1, d2, d3] }
  | _ => none }
def stubBackRow : OpenClaim := { program := "ytfpknklibiigfaadoor", sum := "15cfeee230c5d894a68838281af4137f323b03b0cce89a7751db4ec6685f3466", func := "mummer/mummerlaw19.StubBack", spec := "stubBack", unfollowed := true, recurses := true, named := ["mummer/isa.forms", "mummer/isa.spans"], apart := false, laid := [("mummer/isa.forms", laid_mummer_isa_forms), ("mummer/isa.spans", laid_mummer_isa_spans)] }
def StubBackSaid : Prop := stubBackRow.holds Tryd.pinned (OpenSpec.ofChange stubBackSpec)

/-- ITS FALSE NEIGHBOUR: 'it returns false'. Refute it at one input. -/
def stubBackWrong : ChangeSpec := { name := "stubBack", fn := fun _ => fun
  | [d1, d2, d3] => { results := [.lit (.bool false)], args := [d1, d2, d3] }
  | _ => none }
def StubBackWrongFalsely : Prop := stubBackRow.holds Tryd.pinned (OpenSpec.ofChange stubBackWrong)

/-- 'mummerlaw19.StubLeads': WHATEVER THE INPUT: true; the input reads as it did. -/
def stubLeadsSpec : ChangeSpec := { name := "stubLeads", fn := fun _ => fun
  | [d1, d2] => { results := [.lit (.bool true)], args := [d1, d2] }
  | _ => none }
def stubLeadsRow : OpenClaim := { program := "ytfpknklibiigfaadoor", sum := "15cfeee230c5d894a68838281af4137f323b03b0cce89a7751db4ec6685f3466", func := "mummer/mummerlaw19.StubLeads", spec := "stubLeads", unfollowed := true, recurses := true, named := ["mummer/isa.spans", "mummer/isa.forms"], apart := false, laid := [("mummer/isa.forms", laid_mummer_isa_forms), ("mummer/isa.spans", laid_mummer_isa_spans)] }
def StubLeadsSaid : Prop := stubLeadsRow.holds Tryd.pinned (OpenSpec.ofChange stubLeadsSpec)

/-- ITS FALSE NEIGHBOUR: 'it returns false'. Refute it at one input. -/
def stubLeadsWrong : ChangeSpec := { name := "stubLeads", fn := fun _ => fun
  | [d1, d2] => { results := [.lit (.bool false)], args := [d1, d2] }
  | _ => none }
def StubLeadsWrongFalsely : Prop := stubLeadsRow.holds Tryd.pinned (OpenSpec.ofChange stubLeadsWrong)

/- THE SECOND FORM. 'bulk': how many values and letters a reading holds, each counted each time it is reached (what is shared counts as often as it is met; a slice's spare places count too). A statement '..UptoSaid' is the law's where the arguments, and the package variables that the reading takes, are together of bulk at most 1048576: NARROWER than '..Said'. Prove '..Said' where nothing that the law and all that it calls make is longer than what came in: it says more and counts as full. Else prove '..UptoSaid'. A law counts once. -/
mutual
def uptoBulk {H : Type} : DataW H → Nat
  | .lit (.string bytes) => bytes.length + 1
  | .lit _ => 1
  | .nil => 1
  | .ptr d => uptoBulk d + 1
  | .slice elems spare => uptoBulkAll elems + uptoBulkAll spare + 1
  | .agg parts => uptoBulkAll parts + 1
  | .iface _ d => uptoBulk d + 1
  | .map entries => uptoBulkEntries entries + 1
  | .held _ => 1
def uptoBulkAll {H : Type} : List (DataW H) → Nat
  | [] => 0
  | d :: r => uptoBulk d + uptoBulkAll r
def uptoBulkEntries {H : Type} : List (Lit × DataW H) → Nat
  | [] => 0
  | x :: r => uptoBulkEntry x + uptoBulkEntries r
def uptoBulkEntry {H : Type} : Lit × DataW H → Nat
  | (.string bytes, d) => bytes.length + uptoBulk d + 1
  | (_, d) => uptoBulk d + 1
 end
def uptoSmall : (H : Type) → List (DataW H) → Bool := fun _ ds => decide (uptoBulkAll ds ≤ 1048576)
def OpenSpec.upto (s : _root_.Go.ChangeSpec) : _root_.Go.OpenSpec := { _root_.Go.OpenSpec.ofChange s with cond := some uptoSmall }

/-- 'mummerlaw19.StubMakes', WHERE WHAT IT READS IS OF BULK AT MOST 1048576: true; the input reads as it did. -/
def stubMakesUptoRow : OpenClaim := { program := "ytfpknklibiigfaadoor", sum := "15cfeee230c5d894a68838281af4137f323b03b0cce89a7751db4ec6685f3466", func := "mummer/mummerlaw19.StubMakes", spec := "stubMakes", named := ["mummer/isa.forms", "mummer/isa.spans"], apart := false, laid := [("mummer/isa.forms", laid_mummer_isa_forms), ("mummer/isa.spans", laid_mummer_isa_spans)], narrowed := true }
def StubMakesUptoSaid : Prop := stubMakesUptoRow.holds Tryd.pinned (OpenSpec.upto stubMakesSpec)

/-- 'mummerlaw19.StubJumps', WHERE WHAT IT READS IS OF BULK AT MOST 1048576: true; the input reads as it did. -/
def stubJumpsUptoRow : OpenClaim := { program := "ytfpknklibiigfaadoor", sum := "15cfeee230c5d894a68838281af4137f323b03b0cce89a7751db4ec6685f3466", func := "mummer/mummerlaw19.StubJumps", spec := "stubJumps", named := ["mummer/isa.spans", "mummer/isa.forms"], apart := false, laid := [("mummer/isa.forms", laid_mummer_isa_forms), ("mummer/isa.spans", laid_mummer_isa_spans)], narrowed := true }
def StubJumpsUptoSaid : Prop := stubJumpsUptoRow.holds Tryd.pinned (OpenSpec.upto stubJumpsSpec)

/-- 'mummerlaw19.StubReads', WHERE WHAT IT READS IS OF BULK AT MOST 1048576: true; the input reads as it did. -/
def stubReadsUptoRow : OpenClaim := { program := "ytfpknklibiigfaadoor", sum := "15cfeee230c5d894a68838281af4137f323b03b0cce89a7751db4ec6685f3466", func := "mummer/mummerlaw19.StubReads", spec := "stubReads", unfollowed := true, recurses := true, named := ["mummer/isa.forms", "mummer/isa.spans"], apart := false, laid := [("mummer/isa.forms", laid_mummer_isa_forms), ("mummer/isa.spans", laid_mummer_isa_spans)], narrowed := true }
def StubReadsUptoSaid : Prop := stubReadsUptoRow.holds Tryd.pinned (OpenSpec.upto stubReadsSpec)

/-- 'mummerlaw19.StubBack', WHERE WHAT IT READS IS OF BULK AT MOST 1048576: true; the input reads as it did. -/
def stubBackUptoRow : OpenClaim := { program := "ytfpknklibiigfaadoor", sum := "15cfeee230c5d894a68838281af4137f323b03b0cce89a7751db4ec6685f3466", func := "mummer/mummerlaw19.StubBack", spec := "stubBack", unfollowed := true, recurses := true, named := ["mummer/isa.forms", "mummer/isa.spans"], apart := false, laid := [("mummer/isa.forms", laid_mummer_isa_forms), ("mummer/isa.spans", laid_mummer_isa_spans)], narrowed := true }
def StubBackUptoSaid : Prop := stubBackUptoRow.holds Tryd.pinned (OpenSpec.upto stubBackSpec)

/-- 'mummerlaw19.StubLeads', WHERE WHAT IT READS IS OF BULK AT MOST 1048576: true; the input reads as it did. -/
def stubLeadsUptoRow : OpenClaim := { program := "ytfpknklibiigfaadoor", sum := "15cfeee230c5d894a68838281af4137f323b03b0cce89a7751db4ec6685f3466", func := "mummer/mummerlaw19.StubLeads", spec := "stubLeads", unfollowed := true, recurses := true, named := ["mummer/isa.spans", "mummer/isa.forms"], apart := false, laid := [("mummer/isa.forms", laid_mummer_isa_forms), ("mummer/isa.spans", laid_mummer_isa_spans)], narrowed := true }
def StubLeadsUptoSaid : Prop := stubLeadsUptoRow.holds Tryd.pinned (OpenSpec.upto stubLeadsSpec)

end Rows
end Go.Proofs.YtfpknklibiigfaaDoor
