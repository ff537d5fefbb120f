/-
  No cell of these rows narrows 'for every input' (looked for: loops, veiled, ifaces, maps, wideKeys, modest, calm, conditions, laid).
  DERIVED. THE GIVEN ROWS OF THIS SEAT. 6 by the template 'for every input the law returns true; each argument reads behind the call as it read before'; 0 by the template 'total and deterministic' (their statements: YthoolhndhicidaaTotals.lean).
  GIVEN WITH THE SEED: the statements are not yours to turn. If you find one false, say at which input.
  Laid BY PROGRAM, IN A SANDBOX (cutbox-rows.mjs): the forced cells as the released guide's own fill.sh prints them over the translation fca995f9230e74d7… (all of the seat's roots in one cut). By AI agents, Wed Nov 11 2026. No macro, syntax, notation, axiom, sorry.
-/
import Derived.Test.YthoolhndhicidaaChecked
import GoSem.Claim
import GoSem.ClaimJoined
import GoSem.ClaimMapViews
import Derived.JoinedTies
import Derived.KernelRfl
namespace Go.Proofs.Ythoolhndhicidaa
/- THE CELL 'sum', in the pinned program and in every row, IS THE sha256 OF THE DUMP (.gsa) THAT YthoolhndhicidaaProg.lean LOADS. Nothing in Lean hashes anything: it is a label: what it is worth is what the hold of that sum in a sandbox is worth. -/
noncomputable def Try.pinned : Pinned := { name := "ythoolhndhicidaa", sum := "fca995f9230e74d7e53320c97eaaa313a8d3ebae0e28b4a0e5fb3a7598eb8bd5", checked := Try.checked }
namespace Rows
def none {H : Type} : Left H := { results := [], args := [] }

/-- 'mummerlaw01.FlagsSums': WHATEVER THE INPUT: true; the input reads as it did. -/
def flagsSumsSpec : ChangeSpec := { name := "flagsSums", fn := fun _ => fun
  | [d1, d2] => { results := [.lit (.bool true)], args := [d1, d2] }
  | _ => none }
def flagsSumsRow : OpenClaim := { program := "ythoolhndhicidaa", sum := "fca995f9230e74d7e53320c97eaaa313a8d3ebae0e28b4a0e5fb3a7598eb8bd5", func := "mummer/mummerlaw01.FlagsSums", spec := "flagsSums", apart := false }
def FlagsSumsSaid : Prop := flagsSumsRow.holds Try.pinned (OpenSpec.ofChange flagsSumsSpec)

/-- ITS FALSE NEIGHBOUR: 'it returns false'. Refute it at one input. -/
def flagsSumsWrong : ChangeSpec := { name := "flagsSums", fn := fun _ => fun
  | [d1, d2] => { results := [.lit (.bool false)], args := [d1, d2] }
  | _ => none }
def FlagsSumsWrongFalsely : Prop := flagsSumsRow.holds Try.pinned (OpenSpec.ofChange flagsSumsWrong)

/-- 'mummerlaw01.FlagsBits': WHATEVER THE INPUT: true; the input reads as it did. -/
def flagsBitsSpec : ChangeSpec := { name := "flagsBits", fn := fun _ => fun
  | [d1, d2] => { results := [.lit (.bool true)], args := [d1, d2] }
  | _ => none }
def flagsBitsRow : OpenClaim := { program := "ythoolhndhicidaa", sum := "fca995f9230e74d7e53320c97eaaa313a8d3ebae0e28b4a0e5fb3a7598eb8bd5", func := "mummer/mummerlaw01.FlagsBits", spec := "flagsBits", apart := false }
def FlagsBitsSaid : Prop := flagsBitsRow.holds Try.pinned (OpenSpec.ofChange flagsBitsSpec)

/-- ITS FALSE NEIGHBOUR: 'it returns false'. Refute it at one input. -/
def flagsBitsWrong : ChangeSpec := { name := "flagsBits", fn := fun _ => fun
  | [d1, d2] => { results := [.lit (.bool false)], args := [d1, d2] }
  | _ => none }
def FlagsBitsWrongFalsely : Prop := flagsBitsRow.holds Try.pinned (OpenSpec.ofChange flagsBitsWrong)

/-- 'mummerlaw01.FlagsShifts': WHATEVER THE INPUT: true; the input reads as it did. -/
def flagsShiftsSpec : ChangeSpec := { name := "flagsShifts", fn := fun _ => fun
  | [d1, d2] => { results := [.lit (.bool true)], args := [d1, d2] }
  | _ => none }
def flagsShiftsRow : OpenClaim := { program := "ythoolhndhicidaa", sum := "fca995f9230e74d7e53320c97eaaa313a8d3ebae0e28b4a0e5fb3a7598eb8bd5", func := "mummer/mummerlaw01.FlagsShifts", spec := "flagsShifts", unfollowed := true, recurses := true, apart := false }
def FlagsShiftsSaid : Prop := flagsShiftsRow.holds Try.pinned (OpenSpec.ofChange flagsShiftsSpec)

/-- ITS FALSE NEIGHBOUR: 'it returns false'. Refute it at one input. -/
def flagsShiftsWrong : ChangeSpec := { name := "flagsShifts", fn := fun _ => fun
  | [d1, d2] => { results := [.lit (.bool false)], args := [d1, d2] }
  | _ => none }
def FlagsShiftsWrongFalsely : Prop := flagsShiftsRow.holds Try.pinned (OpenSpec.ofChange flagsShiftsWrong)

/-- 'mummerlaw01.FlagsProducts': WHATEVER THE INPUT: true; the input reads as it did. -/
def flagsProductsSpec : ChangeSpec := { name := "flagsProducts", fn := fun _ => fun
  | [d1, d2] => { results := [.lit (.bool true)], args := [d1, d2] }
  | _ => none }
def flagsProductsRow : OpenClaim := { program := "ythoolhndhicidaa", sum := "fca995f9230e74d7e53320c97eaaa313a8d3ebae0e28b4a0e5fb3a7598eb8bd5", func := "mummer/mummerlaw01.FlagsProducts", spec := "flagsProducts", apart := false }
def FlagsProductsSaid : Prop := flagsProductsRow.holds Try.pinned (OpenSpec.ofChange flagsProductsSpec)

/-- ITS FALSE NEIGHBOUR: 'it returns false'. Refute it at one input. -/
def flagsProductsWrong : ChangeSpec := { name := "flagsProducts", fn := fun _ => fun
  | [d1, d2] => { results := [.lit (.bool false)], args := [d1, d2] }
  | _ => none }
def FlagsProductsWrongFalsely : Prop := flagsProductsRow.holds Try.pinned (OpenSpec.ofChange flagsProductsWrong)

/-- 'mummerlaw01.FlagsAsked': WHATEVER THE INPUT: true; the input reads as it did. -/
def flagsAskedSpec : ChangeSpec := { name := "flagsAsked", fn := fun _ => fun
  | [d1, d2] => { results := [.lit (.bool true)], args := [d1, d2] }
  | _ => none }
def flagsAskedRow : OpenClaim := { program := "ythoolhndhicidaa", sum := "fca995f9230e74d7e53320c97eaaa313a8d3ebae0e28b4a0e5fb3a7598eb8bd5", func := "mummer/mummerlaw01.FlagsAsked", spec := "flagsAsked", apart := false }
def FlagsAskedSaid : Prop := flagsAskedRow.holds Try.pinned (OpenSpec.ofChange flagsAskedSpec)

/-- ITS FALSE NEIGHBOUR: 'it returns false'. Refute it at one input. -/
def flagsAskedWrong : ChangeSpec := { name := "flagsAsked", fn := fun _ => fun
  | [d1, d2] => { results := [.lit (.bool false)], args := [d1, d2] }
  | _ => none }
def FlagsAskedWrongFalsely : Prop := flagsAskedRow.holds Try.pinned (OpenSpec.ofChange flagsAskedWrong)

/-- 'mummerlaw01.FlagsOrder': WHATEVER THE INPUT: true; the input reads as it did. -/
def flagsOrderSpec : ChangeSpec := { name := "flagsOrder", fn := fun _ => fun
  | [d1, d2] => { results := [.lit (.bool true)], args := [d1, d2] }
  | _ => none }
def flagsOrderRow : OpenClaim := { program := "ythoolhndhicidaa", sum := "fca995f9230e74d7e53320c97eaaa313a8d3ebae0e28b4a0e5fb3a7598eb8bd5", func := "mummer/mummerlaw01.FlagsOrder", spec := "flagsOrder", apart := false }
def FlagsOrderSaid : Prop := flagsOrderRow.holds Try.pinned (OpenSpec.ofChange flagsOrderSpec)

/-- ITS FALSE NEIGHBOUR: 'it returns false'. Refute it at one input. -/
def flagsOrderWrong : ChangeSpec := { name := "flagsOrder", fn := fun _ => fun
  | [d1, d2] => { results := [.lit (.bool false)], args := [d1, d2] }
  | _ => none }
def FlagsOrderWrongFalsely : Prop := flagsOrderRow.holds Try.pinned (OpenSpec.ofChange flagsOrderWrong)

/- THE SECOND FORM. 'bulk': how many values and letters a reading holds, each counted each time it is reached (what is shared counts as often as it is met; a slice's spare places count too). A statement '..UptoSaid' is the law's where the arguments, and the package variables that the reading takes, are together of bulk at most 1048576: NARROWER than '..Said'. Prove '..Said' where nothing that the law and all that it calls make is longer than what came in: it says more and counts as full. Else prove '..UptoSaid'. A law counts once. -/
mutual
def uptoBulk {H : Type} : DataW H → Nat
  | .lit (.string bytes) => bytes.length + 1
  | .lit _ => 1
  | .nil => 1
  | .ptr d => uptoBulk d + 1
  | .slice elems spare => uptoBulkAll elems + uptoBulkAll spare + 1
  | .agg parts => uptoBulkAll parts + 1
  | .iface _ d => uptoBulk d + 1
  | .map entries => uptoBulkEntries entries + 1
  | .held _ => 1
def uptoBulkAll {H : Type} : List (DataW H) → Nat
  | [] => 0
  | d :: r => uptoBulk d + uptoBulkAll r
def uptoBulkEntries {H : Type} : List (Lit × DataW H) → Nat
  | [] => 0
  | x :: r => uptoBulkEntry x + uptoBulkEntries r
def uptoBulkEntry {H : Type} : Lit × DataW H → Nat
  | (.string bytes, d) => bytes.length + uptoBulk d + 1
  | (_, d) => uptoBulk d + 1
 end
def uptoSmall : (H : Type) → List (DataW H) → Bool := fun _ ds => decide (uptoBulkAll ds ≤ 1048576)
def OpenSpec.upto (s : _root_.Go.ChangeSpec) : _root_.Go.OpenSpec := { _root_.Go.OpenSpec.ofChange s with cond := some uptoSmall }

/-- 'mummerlaw01.FlagsSums', WHERE WHAT IT READS IS OF BULK AT MOST 1048576: true; the input reads as it did. -/
def flagsSumsUptoRow : OpenClaim := { program := "ythoolhndhicidaa", sum := "fca995f9230e74d7e53320c97eaaa313a8d3ebae0e28b4a0e5fb3a7598eb8bd5", func := "mummer/mummerlaw01.FlagsSums", spec := "flagsSums", apart := false, narrowed := true }
def FlagsSumsUptoSaid : Prop := flagsSumsUptoRow.holds Try.pinned (OpenSpec.upto flagsSumsSpec)

/-- 'mummerlaw01.FlagsBits', WHERE WHAT IT READS IS OF BULK AT MOST 1048576: true; the input reads as it did. -/
def flagsBitsUptoRow : OpenClaim := { program := "ythoolhndhicidaa", sum := "fca995f9230e74d7e53320c97eaaa313a8d3ebae0e28b4a0e5fb3a7598eb8bd5", func := "mummer/mummerlaw01.FlagsBits", spec := "flagsBits", apart := false, narrowed := true }
def FlagsBitsUptoSaid : Prop := flagsBitsUptoRow.holds Try.pinned (OpenSpec.upto flagsBitsSpec)

/-- 'mummerlaw01.FlagsShifts', WHERE WHAT IT READS IS OF BULK AT MOST 1048576: true; the input reads as it did. -/
def flagsShiftsUptoRow : OpenClaim := { program := "ythoolhndhicidaa", sum := "fca995f9230e74d7e53320c97eaaa313a8d3ebae0e28b4a0e5fb3a7598eb8bd5", func := "mummer/mummerlaw01.FlagsShifts", spec := "flagsShifts", unfollowed := true, recurses := true, apart := false, narrowed := true }
def FlagsShiftsUptoSaid : Prop := flagsShiftsUptoRow.holds Try.pinned (OpenSpec.upto flagsShiftsSpec)

/-- 'mummerlaw01.FlagsProducts', WHERE WHAT IT READS IS OF BULK AT MOST 1048576: true; the input reads as it did. -/
def flagsProductsUptoRow : OpenClaim := { program := "ythoolhndhicidaa", sum := "fca995f9230e74d7e53320c97eaaa313a8d3ebae0e28b4a0e5fb3a7598eb8bd5", func := "mummer/mummerlaw01.FlagsProducts", spec := "flagsProducts", apart := false, narrowed := true }
def FlagsProductsUptoSaid : Prop := flagsProductsUptoRow.holds Try.pinned (OpenSpec.upto flagsProductsSpec)

/-- 'mummerlaw01.FlagsAsked', WHERE WHAT IT READS IS OF BULK AT MOST 1048576: true; the input reads as it did. -/
def flagsAskedUptoRow : OpenClaim := { program := "ythoolhndhicidaa", sum := "fca995f9230e74d7e53320c97eaaa313a8d3ebae0e28b4a0e5fb3a7598eb8bd5", func := "mummer/mummerlaw01.FlagsAsked", spec := "flagsAsked", apart := false, narrowed := true }
def FlagsAskedUptoSaid : Prop := flagsAskedUptoRow.holds Try.pinned (OpenSpec.upto flagsAskedSpec)

/-- 'mummerlaw01.FlagsOrder', WHERE WHAT IT READS IS OF BULK AT MOST 1048576: true; the input reads as it did. -/
def flagsOrderUptoRow : OpenClaim := { program := "ythoolhndhicidaa", sum := "fca995f9230e74d7e53320c97eaaa313a8d3ebae0e28b4a0e5fb3a7598eb8bd5", func := "mummer/mummerlaw01.FlagsOrder", spec := "flagsOrder", apart := false, narrowed := true }
def FlagsOrderUptoSaid : Prop := flagsOrderUptoRow.holds Try.pinned (OpenSpec.upto flagsOrderSpec)

end Rows
end Go.Proofs.Ythoolhndhicidaa
