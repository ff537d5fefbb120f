/-
  NARROWER THAN 'FOR EVERY INPUT', by the rows' own cells (each row's printed sentence says how): TranslateMays: laid · TranslateMakes: laid · TranslateRows: laid · TranslateCounts: laid · TranslateSafe: laid.
  DERIVED. THE GIVEN ROWS OF THIS SEAT. 5 by the template 'for every input the law returns true; each argument reads behind the call as it read before'; 0 by the template 'total and deterministic' (their statements: YtpalbpjmjbcelaaDoorTotals.lean).
  GIVEN WITH THE SEED: the statements are not yours to turn. If you find one false, say at which input.
  Laid BY PROGRAM, IN A SANDBOX (cutbox-rows.mjs): the forced cells as the released guide's own fill.sh prints them over the translation 4a17930b35544fdb… (all of the seat's roots in one cut). By AI agents, Wed Nov 11 2026. No macro, syntax, notation, axiom, sorry.
-/
import Derived.Test.YtpalbpjmjbcelaaDoorChecked
import GoSem.Claim
import GoSem.ClaimJoined
import GoSem.ClaimMapViews
import Derived.JoinedTies
import Derived.KernelRfl
namespace Go.Proofs.YtpalbpjmjbcelaaDoor
/- THE CELL 'sum', in the pinned program and in every row, IS THE sha256 OF THE DUMP (.gsa) THAT YtpalbpjmjbcelaaDoorProg.lean LOADS. Nothing in Lean hashes anything: it is a label: what it is worth is what the hold of that sum in a sandbox is worth. -/
noncomputable def Tryd.pinned : Pinned := { name := "ytpalbpjmjbcelaadoor", sum := "4a17930b35544fdbee9b313c206a47a577e4c5750caa8bd146d4340a79b8e34f", checked := Tryd.checked }
namespace Rows
def none {H : Type} : Left H := { results := [], args := [] }

/- WHAT THE LISTED PACKAGE-LEVEL VARIABLES READ AS WHEN THE CALL BEGINS. Each datum BY PROGRAM (the guide's laid-datum.mjs) off the statement by which the dump's own 'gosem.cut.vars' lays the variable. In a bare row this is a premise. The card (YtpalbpjmjbcelaaDoorCards.lean) ties it to the program's text. -/
def laid_mummer_isa_forms {H : Type} : DataW H := .agg [.agg [.lit (.int .u8 0), .lit (.int .u8 0), .lit (.int .u8 0), .lit (.int .u8 0), .lit (.int .u8 0)], .agg [.lit (.int .u8 1), .lit (.int .u8 0), .lit (.int .u8 0), .lit (.int .u8 0), .lit (.int .u8 0)], .agg [.lit (.int .u8 1), .lit (.int .u8 7), .lit (.int .u8 0), .lit (.int .u8 0), .lit (.int .u8 0)], .agg [.lit (.int .u8 1), .lit (.int .u8 7), .lit (.int .u8 7), .lit (.int .u8 0), .lit (.int .u8 0)], .agg [.lit (.int .u8 1), .lit (.int .u8 0), .lit (.int .u8 0), .lit (.int .u8 1), .lit (.int .u8 0)], .agg [.lit (.int .u8 1), .lit (.int .u8 7), .lit (.int .u8 0), .lit (.int .u8 1), .lit (.int .u8 1)], .agg [.lit (.int .u8 1), .lit (.int .u8 7), .lit (.int .u8 7), .lit (.int .u8 1), .lit (.int .u8 1)], .agg [.lit (.int .u8 1), .lit (.int .u8 0), .lit (.int .u8 0), .lit (.int .u8 2), .lit (.int .u8 1)], .agg [.lit (.int .u8 1), .lit (.int .u8 0), .lit (.int .u8 0), .lit (.int .u8 2), .lit (.int .u8 0)], .agg [.lit (.int .u8 1), .lit (.int .u8 7), .lit (.int .u8 0), .lit (.int .u8 4), .lit (.int .u8 1)]]
def laid_mummer_isa_spans {H : Type} : DataW H := .agg [.agg [.lit (.int .u8 0), .lit (.int .u8 3), .lit (.int .u8 1), .lit (.bool false)], .agg [.lit (.int .u8 16), .lit (.int .u8 31), .lit (.int .u8 3), .lit (.bool false)], .agg [.lit (.int .u8 32), .lit (.int .u8 32), .lit (.int .u8 9), .lit (.bool false)], .agg [.lit (.int .u8 33), .lit (.int .u8 33), .lit (.int .u8 5), .lit (.bool false)], .agg [.lit (.int .u8 48), .lit (.int .u8 55), .lit (.int .u8 6), .lit (.bool false)], .agg [.lit (.int .u8 56), .lit (.int .u8 57), .lit (.int .u8 2), .lit (.bool false)], .agg [.lit (.int .u8 58), .lit (.int .u8 58), .lit (.int .u8 3), .lit (.bool false)], .agg [.lit (.int .u8 64), .lit (.int .u8 72), .lit (.int .u8 7), .lit (.bool false)], .agg [.lit (.int .u8 73), .lit (.int .u8 74), .lit (.int .u8 2), .lit (.bool false)], .agg [.lit (.int .u8 80), .lit (.int .u8 80), .lit (.int .u8 4), .lit (.bool false)], .agg [.lit (.int .u8 96), .lit (.int .u8 97), .lit (.int .u8 2), .lit (.bool false)], .agg [.lit (.int .u8 98), .lit (.int .u8 101), .lit (.int .u8 3), .lit (.bool false)], .agg [.lit (.int .u8 112), .lit (.int .u8 112), .lit (.int .u8 4), .lit (.bool true)], .agg [.lit (.int .u8 113), .lit (.int .u8 113), .lit (.int .u8 8), .lit (.bool true)]]

/-- 'mummerlaw20.TranslateMays': WHATEVER THE INPUT: true; the input reads as it did. -/
def translateMaysSpec : ChangeSpec := { name := "translateMays", fn := fun _ => fun
  | [d] => { results := [.lit (.bool true)], args := [d] }
  | _ => none }
def translateMaysRow : OpenClaim := { program := "ytpalbpjmjbcelaadoor", sum := "4a17930b35544fdbee9b313c206a47a577e4c5750caa8bd146d4340a79b8e34f", func := "mummer/mummerlaw20.TranslateMays", spec := "translateMays", inPlace := ["sync/atomic.LoadUint32", "(*internal/sync.Mutex).Lock", "internal/race.Disable", "sync/atomic.CompareAndSwapInt32", "internal/race.Enable", "internal/race.Acquire", "(*internal/sync.Mutex).lockSlow", "internal/sync.runtime_canSpin", "internal/sync.runtime_doSpin", "internal/sync.throw", "internal/sync.runtime_nanotime", "internal/sync.runtime_SemacquireMutex", "sync/atomic.AddInt32", "(*internal/sync.Mutex).Unlock", "internal/race.ReleaseMerge", "(*internal/sync.Mutex).unlockSlow", "internal/sync.fatal", "internal/sync.runtime_Semrelease", "sync/atomic.StoreUint32"], unfollowed := true, recurses := true, named := ["mummer/isa.forms", "mummer/isa.spans"], apart := false, laid := [("mummer/isa.forms", laid_mummer_isa_forms), ("mummer/isa.spans", laid_mummer_isa_spans)] }
def TranslateMaysSaid : Prop := translateMaysRow.holds Tryd.pinned (OpenSpec.ofChange translateMaysSpec)

/-- ITS FALSE NEIGHBOUR: 'it returns false'. Refute it at one input. -/
def translateMaysWrong : ChangeSpec := { name := "translateMays", fn := fun _ => fun
  | [d] => { results := [.lit (.bool false)], args := [d] }
  | _ => none }
def TranslateMaysWrongFalsely : Prop := translateMaysRow.holds Tryd.pinned (OpenSpec.ofChange translateMaysWrong)

/-- 'mummerlaw20.TranslateMakes': WHATEVER THE INPUT: true; the input reads as it did. -/
def translateMakesSpec : ChangeSpec := { name := "translateMakes", fn := fun _ => fun
  | [d1, d2] => { results := [.lit (.bool true)], args := [d1, d2] }
  | _ => none }
def translateMakesRow : OpenClaim := { program := "ytpalbpjmjbcelaadoor", sum := "4a17930b35544fdbee9b313c206a47a577e4c5750caa8bd146d4340a79b8e34f", func := "mummer/mummerlaw20.TranslateMakes", spec := "translateMakes", inPlace := ["sync/atomic.LoadUint32", "(*internal/sync.Mutex).Lock", "internal/race.Disable", "sync/atomic.CompareAndSwapInt32", "internal/race.Enable", "internal/race.Acquire", "(*internal/sync.Mutex).lockSlow", "internal/sync.runtime_canSpin", "internal/sync.runtime_doSpin", "internal/sync.throw", "internal/sync.runtime_nanotime", "internal/sync.runtime_SemacquireMutex", "sync/atomic.AddInt32", "(*internal/sync.Mutex).Unlock", "internal/race.ReleaseMerge", "(*internal/sync.Mutex).unlockSlow", "internal/sync.fatal", "internal/sync.runtime_Semrelease", "sync/atomic.StoreUint32"], unfollowed := true, recurses := true, named := ["mummer/isa.forms", "mummer/isa.spans"], apart := false, laid := [("mummer/isa.forms", laid_mummer_isa_forms), ("mummer/isa.spans", laid_mummer_isa_spans)] }
def TranslateMakesSaid : Prop := translateMakesRow.holds Tryd.pinned (OpenSpec.ofChange translateMakesSpec)

/-- ITS FALSE NEIGHBOUR: 'it returns false'. Refute it at one input. -/
def translateMakesWrong : ChangeSpec := { name := "translateMakes", fn := fun _ => fun
  | [d1, d2] => { results := [.lit (.bool false)], args := [d1, d2] }
  | _ => none }
def TranslateMakesWrongFalsely : Prop := translateMakesRow.holds Tryd.pinned (OpenSpec.ofChange translateMakesWrong)

/-- 'mummerlaw20.TranslateRows': WHATEVER THE INPUT: true; the input reads as it did. -/
def translateRowsSpec : ChangeSpec := { name := "translateRows", fn := fun _ => fun
  | [d1, d2] => { results := [.lit (.bool true)], args := [d1, d2] }
  | _ => none }
def translateRowsRow : OpenClaim := { program := "ytpalbpjmjbcelaadoor", sum := "4a17930b35544fdbee9b313c206a47a577e4c5750caa8bd146d4340a79b8e34f", func := "mummer/mummerlaw20.TranslateRows", spec := "translateRows", inPlace := ["sync/atomic.LoadUint32", "(*internal/sync.Mutex).Lock", "internal/race.Disable", "sync/atomic.CompareAndSwapInt32", "internal/race.Enable", "internal/race.Acquire", "(*internal/sync.Mutex).lockSlow", "internal/sync.runtime_canSpin", "internal/sync.runtime_doSpin", "internal/sync.throw", "internal/sync.runtime_nanotime", "internal/sync.runtime_SemacquireMutex", "sync/atomic.AddInt32", "(*internal/sync.Mutex).Unlock", "internal/race.ReleaseMerge", "(*internal/sync.Mutex).unlockSlow", "internal/sync.fatal", "internal/sync.runtime_Semrelease", "sync/atomic.StoreUint32"], unfollowed := true, recurses := true, named := ["mummer/isa.forms", "mummer/isa.spans"], apart := false, laid := [("mummer/isa.forms", laid_mummer_isa_forms), ("mummer/isa.spans", laid_mummer_isa_spans)] }
def TranslateRowsSaid : Prop := translateRowsRow.holds Tryd.pinned (OpenSpec.ofChange translateRowsSpec)

/-- ITS FALSE NEIGHBOUR: 'it returns false'. Refute it at one input. -/
def translateRowsWrong : ChangeSpec := { name := "translateRows", fn := fun _ => fun
  | [d1, d2] => { results := [.lit (.bool false)], args := [d1, d2] }
  | _ => none }
def TranslateRowsWrongFalsely : Prop := translateRowsRow.holds Tryd.pinned (OpenSpec.ofChange translateRowsWrong)

/-- 'mummerlaw20.TranslateCounts': WHATEVER THE INPUT: true; the input reads as it did. -/
def translateCountsSpec : ChangeSpec := { name := "translateCounts", fn := fun _ => fun
  | [d1, d2] => { results := [.lit (.bool true)], args := [d1, d2] }
  | _ => none }
def translateCountsRow : OpenClaim := { program := "ytpalbpjmjbcelaadoor", sum := "4a17930b35544fdbee9b313c206a47a577e4c5750caa8bd146d4340a79b8e34f", func := "mummer/mummerlaw20.TranslateCounts", spec := "translateCounts", inPlace := ["sync/atomic.LoadUint32", "(*internal/sync.Mutex).Lock", "internal/race.Disable", "sync/atomic.CompareAndSwapInt32", "internal/race.Enable", "internal/race.Acquire", "(*internal/sync.Mutex).lockSlow", "internal/sync.runtime_canSpin", "internal/sync.runtime_doSpin", "internal/sync.throw", "internal/sync.runtime_nanotime", "internal/sync.runtime_SemacquireMutex", "sync/atomic.AddInt32", "(*internal/sync.Mutex).Unlock", "internal/race.ReleaseMerge", "(*internal/sync.Mutex).unlockSlow", "internal/sync.fatal", "internal/sync.runtime_Semrelease", "sync/atomic.StoreUint32"], unfollowed := true, recurses := true, named := ["mummer/isa.forms", "mummer/isa.spans"], apart := false, laid := [("mummer/isa.forms", laid_mummer_isa_forms), ("mummer/isa.spans", laid_mummer_isa_spans)] }
def TranslateCountsSaid : Prop := translateCountsRow.holds Tryd.pinned (OpenSpec.ofChange translateCountsSpec)

/-- ITS FALSE NEIGHBOUR: 'it returns false'. Refute it at one input. -/
def translateCountsWrong : ChangeSpec := { name := "translateCounts", fn := fun _ => fun
  | [d1, d2] => { results := [.lit (.bool false)], args := [d1, d2] }
  | _ => none }
def TranslateCountsWrongFalsely : Prop := translateCountsRow.holds Tryd.pinned (OpenSpec.ofChange translateCountsWrong)

/-- 'mummerlaw20.TranslateSafe': WHATEVER THE INPUT: true; the input reads as it did. -/
def translateSafeSpec : ChangeSpec := { name := "translateSafe", fn := fun _ => fun
  | [d1, d2] => { results := [.lit (.bool true)], args := [d1, d2] }
  | _ => none }
def translateSafeRow : OpenClaim := { program := "ytpalbpjmjbcelaadoor", sum := "4a17930b35544fdbee9b313c206a47a577e4c5750caa8bd146d4340a79b8e34f", func := "mummer/mummerlaw20.TranslateSafe", spec := "translateSafe", inPlace := ["sync/atomic.LoadUint32", "(*internal/sync.Mutex).Lock", "internal/race.Disable", "sync/atomic.CompareAndSwapInt32", "internal/race.Enable", "internal/race.Acquire", "(*internal/sync.Mutex).lockSlow", "internal/sync.runtime_canSpin", "internal/sync.runtime_doSpin", "internal/sync.throw", "internal/sync.runtime_nanotime", "internal/sync.runtime_SemacquireMutex", "sync/atomic.AddInt32", "(*internal/sync.Mutex).Unlock", "internal/race.ReleaseMerge", "(*internal/sync.Mutex).unlockSlow", "internal/sync.fatal", "internal/sync.runtime_Semrelease", "sync/atomic.StoreUint32"], unfollowed := true, recurses := true, named := ["mummer/isa.forms", "mummer/isa.spans"], apart := false, laid := [("mummer/isa.forms", laid_mummer_isa_forms), ("mummer/isa.spans", laid_mummer_isa_spans)] }
def TranslateSafeSaid : Prop := translateSafeRow.holds Tryd.pinned (OpenSpec.ofChange translateSafeSpec)

/-- ITS FALSE NEIGHBOUR: 'it returns false'. Refute it at one input. -/
def translateSafeWrong : ChangeSpec := { name := "translateSafe", fn := fun _ => fun
  | [d1, d2] => { results := [.lit (.bool false)], args := [d1, d2] }
  | _ => none }
def TranslateSafeWrongFalsely : Prop := translateSafeRow.holds Tryd.pinned (OpenSpec.ofChange translateSafeWrong)

/- THE SECOND FORM. 'bulk': how many values and letters a reading holds, each counted each time it is reached (what is shared counts as often as it is met; a slice's spare places count too). A statement '..UptoSaid' is the law's where the arguments, and the package variables that the reading takes, are together of bulk at most 1048576: NARROWER than '..Said'. Prove '..Said' where nothing that the law and all that it calls make is longer than what came in: it says more and counts as full. Else prove '..UptoSaid'. A law counts once. -/
mutual
def uptoBulk {H : Type} : DataW H → Nat
  | .lit (.string bytes) => bytes.length + 1
  | .lit _ => 1
  | .nil => 1
  | .ptr d => uptoBulk d + 1
  | .slice elems spare => uptoBulkAll elems + uptoBulkAll spare + 1
  | .agg parts => uptoBulkAll parts + 1
  | .iface _ d => uptoBulk d + 1
  | .map entries => uptoBulkEntries entries + 1
  | .held _ => 1
def uptoBulkAll {H : Type} : List (DataW H) → Nat
  | [] => 0
  | d :: r => uptoBulk d + uptoBulkAll r
def uptoBulkEntries {H : Type} : List (Lit × DataW H) → Nat
  | [] => 0
  | x :: r => uptoBulkEntry x + uptoBulkEntries r
def uptoBulkEntry {H : Type} : Lit × DataW H → Nat
  | (.string bytes, d) => bytes.length + uptoBulk d + 1
  | (_, d) => uptoBulk d + 1
 end
def uptoSmall : (H : Type) → List (DataW H) → Bool := fun _ ds => decide (uptoBulkAll ds ≤ 1048576)
def OpenSpec.upto (s : _root_.Go.ChangeSpec) : _root_.Go.OpenSpec := { _root_.Go.OpenSpec.ofChange s with cond := some uptoSmall }

/-- 'mummerlaw20.TranslateMays', WHERE WHAT IT READS IS OF BULK AT MOST 1048576: true; the input reads as it did. -/
def translateMaysUptoRow : OpenClaim := { program := "ytpalbpjmjbcelaadoor", sum := "4a17930b35544fdbee9b313c206a47a577e4c5750caa8bd146d4340a79b8e34f", func := "mummer/mummerlaw20.TranslateMays", spec := "translateMays", inPlace := ["sync/atomic.LoadUint32", "(*internal/sync.Mutex).Lock", "internal/race.Disable", "sync/atomic.CompareAndSwapInt32", "internal/race.Enable", "internal/race.Acquire", "(*internal/sync.Mutex).lockSlow", "internal/sync.runtime_canSpin", "internal/sync.runtime_doSpin", "internal/sync.throw", "internal/sync.runtime_nanotime", "internal/sync.runtime_SemacquireMutex", "sync/atomic.AddInt32", "(*internal/sync.Mutex).Unlock", "internal/race.ReleaseMerge", "(*internal/sync.Mutex).unlockSlow", "internal/sync.fatal", "internal/sync.runtime_Semrelease", "sync/atomic.StoreUint32"], unfollowed := true, recurses := true, named := ["mummer/isa.forms", "mummer/isa.spans"], apart := false, laid := [("mummer/isa.forms", laid_mummer_isa_forms), ("mummer/isa.spans", laid_mummer_isa_spans)], narrowed := true }
def TranslateMaysUptoSaid : Prop := translateMaysUptoRow.holds Tryd.pinned (OpenSpec.upto translateMaysSpec)

/-- 'mummerlaw20.TranslateMakes', WHERE WHAT IT READS IS OF BULK AT MOST 1048576: true; the input reads as it did. -/
def translateMakesUptoRow : OpenClaim := { program := "ytpalbpjmjbcelaadoor", sum := "4a17930b35544fdbee9b313c206a47a577e4c5750caa8bd146d4340a79b8e34f", func := "mummer/mummerlaw20.TranslateMakes", spec := "translateMakes", inPlace := ["sync/atomic.LoadUint32", "(*internal/sync.Mutex).Lock", "internal/race.Disable", "sync/atomic.CompareAndSwapInt32", "internal/race.Enable", "internal/race.Acquire", "(*internal/sync.Mutex).lockSlow", "internal/sync.runtime_canSpin", "internal/sync.runtime_doSpin", "internal/sync.throw", "internal/sync.runtime_nanotime", "internal/sync.runtime_SemacquireMutex", "sync/atomic.AddInt32", "(*internal/sync.Mutex).Unlock", "internal/race.ReleaseMerge", "(*internal/sync.Mutex).unlockSlow", "internal/sync.fatal", "internal/sync.runtime_Semrelease", "sync/atomic.StoreUint32"], unfollowed := true, recurses := true, named := ["mummer/isa.forms", "mummer/isa.spans"], apart := false, laid := [("mummer/isa.forms", laid_mummer_isa_forms), ("mummer/isa.spans", laid_mummer_isa_spans)], narrowed := true }
def TranslateMakesUptoSaid : Prop := translateMakesUptoRow.holds Tryd.pinned (OpenSpec.upto translateMakesSpec)

/-- 'mummerlaw20.TranslateRows', WHERE WHAT IT READS IS OF BULK AT MOST 1048576: true; the input reads as it did. -/
def translateRowsUptoRow : OpenClaim := { program := "ytpalbpjmjbcelaadoor", sum := "4a17930b35544fdbee9b313c206a47a577e4c5750caa8bd146d4340a79b8e34f", func := "mummer/mummerlaw20.TranslateRows", spec := "translateRows", inPlace := ["sync/atomic.LoadUint32", "(*internal/sync.Mutex).Lock", "internal/race.Disable", "sync/atomic.CompareAndSwapInt32", "internal/race.Enable", "internal/race.Acquire", "(*internal/sync.Mutex).lockSlow", "internal/sync.runtime_canSpin", "internal/sync.runtime_doSpin", "internal/sync.throw", "internal/sync.runtime_nanotime", "internal/sync.runtime_SemacquireMutex", "sync/atomic.AddInt32", "(*internal/sync.Mutex).Unlock", "internal/race.ReleaseMerge", "(*internal/sync.Mutex).unlockSlow", "internal/sync.fatal", "internal/sync.runtime_Semrelease", "sync/atomic.StoreUint32"], unfollowed := true, recurses := true, named := ["mummer/isa.forms", "mummer/isa.spans"], apart := false, laid := [("mummer/isa.forms", laid_mummer_isa_forms), ("mummer/isa.spans", laid_mummer_isa_spans)], narrowed := true }
def TranslateRowsUptoSaid : Prop := translateRowsUptoRow.holds Tryd.pinned (OpenSpec.upto translateRowsSpec)

/-- 'mummerlaw20.TranslateCounts', WHERE WHAT IT READS IS OF BULK AT MOST 1048576: true; the input reads as it did. -/
def translateCountsUptoRow : OpenClaim := { program := "ytpalbpjmjbcelaadoor", sum := "4a17930b35544fdbee9b313c206a47a577e4c5750caa8bd146d4340a79b8e34f", func := "mummer/mummerlaw20.TranslateCounts", spec := "translateCounts", inPlace := ["sync/atomic.LoadUint32", "(*internal/sync.Mutex).Lock", "internal/race.Disable", "sync/atomic.CompareAndSwapInt32", "internal/race.Enable", "internal/race.Acquire", "(*internal/sync.Mutex).lockSlow", "internal/sync.runtime_canSpin", "internal/sync.runtime_doSpin", "internal/sync.throw", "internal/sync.runtime_nanotime", "internal/sync.runtime_SemacquireMutex", "sync/atomic.AddInt32", "(*internal/sync.Mutex).Unlock", "internal/race.ReleaseMerge", "(*internal/sync.Mutex).unlockSlow", "internal/sync.fatal", "internal/sync.runtime_Semrelease", "sync/atomic.StoreUint32"], unfollowed := true, recurses := true, named := ["mummer/isa.forms", "mummer/isa.spans"], apart := false, laid := [("mummer/isa.forms", laid_mummer_isa_forms), ("mummer/isa.spans", laid_mummer_isa_spans)], narrowed := true }
def TranslateCountsUptoSaid : Prop := translateCountsUptoRow.holds Tryd.pinned (OpenSpec.upto translateCountsSpec)

/-- 'mummerlaw20.TranslateSafe', WHERE WHAT IT READS IS OF BULK AT MOST 1048576: true; the input reads as it did. -/
def translateSafeUptoRow : OpenClaim := { program := "ytpalbpjmjbcelaadoor", sum := "4a17930b35544fdbee9b313c206a47a577e4c5750caa8bd146d4340a79b8e34f", func := "mummer/mummerlaw20.TranslateSafe", spec := "translateSafe", inPlace := ["sync/atomic.LoadUint32", "(*internal/sync.Mutex).Lock", "internal/race.Disable", "sync/atomic.CompareAndSwapInt32", "internal/race.Enable", "internal/race.Acquire", "(*internal/sync.Mutex).lockSlow", "internal/sync.runtime_canSpin", "internal/sync.runtime_doSpin", "internal/sync.throw", "internal/sync.runtime_nanotime", "internal/sync.runtime_SemacquireMutex", "sync/atomic.AddInt32", "(*internal/sync.Mutex).Unlock", "internal/race.ReleaseMerge", "(*internal/sync.Mutex).unlockSlow", "internal/sync.fatal", "internal/sync.runtime_Semrelease", "sync/atomic.StoreUint32"], unfollowed := true, recurses := true, named := ["mummer/isa.forms", "mummer/isa.spans"], apart := false, laid := [("mummer/isa.forms", laid_mummer_isa_forms), ("mummer/isa.spans", laid_mummer_isa_spans)], narrowed := true }
def TranslateSafeUptoSaid : Prop := translateSafeUptoRow.holds Tryd.pinned (OpenSpec.upto translateSafeSpec)

end Rows
end Go.Proofs.YtpalbpjmjbcelaaDoor
