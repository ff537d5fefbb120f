/-
  NARROWER THAN 'FOR EVERY INPUT', by the rows' own cells (each row's printed sentence says how): SenseDoes: laid · SenseKept: laid · SenseSilent: laid · SenseUnlike: laid · SenseWrites: laid · SenseThere: laid.
  DERIVED. THE GIVEN ROWS OF THIS SEAT. 6 by the template 'for every input the law returns true; each argument reads behind the call as it read before'; 0 by the template 'total and deterministic' (their statements: YtaifildofgeonaaDoorTotals.lean).
  GIVEN WITH THE SEED: the statements are not yours to turn. If you find one false, say at which input.
  Laid BY PROGRAM, IN A SANDBOX (cutbox-rows.mjs): the forced cells as the released guide's own fill.sh prints them over the translation 8f11d26d3dd9271d… (all of the seat's roots in one cut). By AI agents, Wed Nov 11 2026. No macro, syntax, notation, axiom, sorry.
-/
import Derived.Test.YtaifildofgeonaaDoorChecked
import GoSem.Claim
import GoSem.ClaimJoined
import GoSem.ClaimMapViews
import Derived.JoinedTies
import Derived.KernelRfl
namespace Go.Proofs.YtaifildofgeonaaDoor
/- THE CELL 'sum', in the pinned program and in every row, IS THE sha256 OF THE DUMP (.gsa) THAT YtaifildofgeonaaDoorProg.lean LOADS. Nothing in Lean hashes anything: it is a label: what it is worth is what the hold of that sum in a sandbox is worth. -/
noncomputable def Tryd.pinned : Pinned := { name := "ytaifildofgeonaadoor", sum := "8f11d26d3dd9271d98c7baad7d2d1c38a304910af0e8a41db5edf7441d8f50f3", checked := Tryd.checked }
namespace Rows
def none {H : Type} : Left H := { results := [], args := [] }

/- WHAT THE LISTED PACKAGE-LEVEL VARIABLES READ AS WHEN THE CALL BEGINS. Each datum BY PROGRAM (the guide's laid-datum.mjs) off the statement by which the dump's own 'gosem.cut.vars' lays the variable. In a bare row this is a premise. The card (YtaifildofgeonaaDoorCards.lean) ties it to the program's text. -/
def laid_mummer_isa_forms {H : Type} : DataW H := .agg [.agg [.lit (.int .u8 0), .lit (.int .u8 0), .lit (.int .u8 0), .lit (.int .u8 0), .lit (.int .u8 0)], .agg [.lit (.int .u8 1), .lit (.int .u8 0), .lit (.int .u8 0), .lit (.int .u8 0), .lit (.int .u8 0)], .agg [.lit (.int .u8 1), .lit (.int .u8 7), .lit (.int .u8 0), .lit (.int .u8 0), .lit (.int .u8 0)], .agg [.lit (.int .u8 1), .lit (.int .u8 7), .lit (.int .u8 7), .lit (.int .u8 0), .lit (.int .u8 0)], .agg [.lit (.int .u8 1), .lit (.int .u8 0), .lit (.int .u8 0), .lit (.int .u8 1), .lit (.int .u8 0)], .agg [.lit (.int .u8 1), .lit (.int .u8 7), .lit (.int .u8 0), .lit (.int .u8 1), .lit (.int .u8 1)], .agg [.lit (.int .u8 1), .lit (.int .u8 7), .lit (.int .u8 7), .lit (.int .u8 1), .lit (.int .u8 1)], .agg [.lit (.int .u8 1), .lit (.int .u8 0), .lit (.int .u8 0), .lit (.int .u8 2), .lit (.int .u8 1)], .agg [.lit (.int .u8 1), .lit (.int .u8 0), .lit (.int .u8 0), .lit (.int .u8 2), .lit (.int .u8 0)], .agg [.lit (.int .u8 1), .lit (.int .u8 7), .lit (.int .u8 0), .lit (.int .u8 4), .lit (.int .u8 1)]]
def laid_mummer_isa_spans {H : Type} : DataW H := .agg [.agg [.lit (.int .u8 0), .lit (.int .u8 3), .lit (.int .u8 1), .lit (.bool false)], .agg [.lit (.int .u8 16), .lit (.int .u8 31), .lit (.int .u8 3), .lit (.bool false)], .agg [.lit (.int .u8 32), .lit (.int .u8 32), .lit (.int .u8 9), .lit (.bool false)], .agg [.lit (.int .u8 33), .lit (.int .u8 33), .lit (.int .u8 5), .lit (.bool false)], .agg [.lit (.int .u8 48), .lit (.int .u8 55), .lit (.int .u8 6), .lit (.bool false)], .agg [.lit (.int .u8 56), .lit (.int .u8 57), .lit (.int .u8 2), .lit (.bool false)], .agg [.lit (.int .u8 58), .lit (.int .u8 58), .lit (.int .u8 3), .lit (.bool false)], .agg [.lit (.int .u8 64), .lit (.int .u8 72), .lit (.int .u8 7), .lit (.bool false)], .agg [.lit (.int .u8 73), .lit (.int .u8 74), .lit (.int .u8 2), .lit (.bool false)], .agg [.lit (.int .u8 80), .lit (.int .u8 80), .lit (.int .u8 4), .lit (.bool false)], .agg [.lit (.int .u8 96), .lit (.int .u8 97), .lit (.int .u8 2), .lit (.bool false)], .agg [.lit (.int .u8 98), .lit (.int .u8 101), .lit (.int .u8 3), .lit (.bool false)], .agg [.lit (.int .u8 112), .lit (.int .u8 112), .lit (.int .u8 4), .lit (.bool true)], .agg [.lit (.int .u8 113), .lit (.int .u8 113), .lit (.int .u8 8), .lit (.bool true)]]

/-- 'mummerlaw09.SenseDoes': WHATEVER THE INPUT: true; the input reads as it did. -/
def senseDoesSpec : ChangeSpec := { name := "senseDoes", fn := fun _ => fun
  | [d1, d2, d3] => { results := [.lit (.bool true)], args := [d1, d2, d3] }
  | _ => none }
def senseDoesRow : OpenClaim := { program := "ytaifildofgeonaadoor", sum := "8f11d26d3dd9271d98c7baad7d2d1c38a304910af0e8a41db5edf7441d8f50f3", func := "mummer/mummerlaw09.SenseDoes", spec := "senseDoes", unfollowed := true, recurses := true, named := ["mummer/isa.forms", "mummer/isa.spans"], apart := false, laid := [("mummer/isa.forms", laid_mummer_isa_forms), ("mummer/isa.spans", laid_mummer_isa_spans)] }
def SenseDoesSaid : Prop := senseDoesRow.holds Tryd.pinned (OpenSpec.ofChange senseDoesSpec)

/-- ITS FALSE NEIGHBOUR: 'it returns false'. Refute it at one input. -/
def senseDoesWrong : ChangeSpec := { name := "senseDoes", fn := fun _ => fun
  | [d1, d2, d3] => { results := [.lit (.bool false)], args := [d1, d2, d3] }
  | _ => none }
def SenseDoesWrongFalsely : Prop := senseDoesRow.holds Tryd.pinned (OpenSpec.ofChange senseDoesWrong)

/-- 'mummerlaw09.SenseKept': WHATEVER THE INPUT: true; the input reads as it did. -/
def senseKeptSpec : ChangeSpec := { name := "senseKept", fn := fun _ => fun
  | [d1, d2, d3] => { results := [.lit (.bool true)], args := [d1, d2, d3] }
  | _ => none }
def senseKeptRow : OpenClaim := { program := "ytaifildofgeonaadoor", sum := "8f11d26d3dd9271d98c7baad7d2d1c38a304910af0e8a41db5edf7441d8f50f3", func := "mummer/mummerlaw09.SenseKept", spec := "senseKept", unfollowed := true, recurses := true, named := ["mummer/isa.forms", "mummer/isa.spans"], apart := false, laid := [("mummer/isa.forms", laid_mummer_isa_forms), ("mummer/isa.spans", laid_mummer_isa_spans)] }
def SenseKeptSaid : Prop := senseKeptRow.holds Tryd.pinned (OpenSpec.ofChange senseKeptSpec)

/-- ITS FALSE NEIGHBOUR: 'it returns false'. Refute it at one input. -/
def senseKeptWrong : ChangeSpec := { name := "senseKept", fn := fun _ => fun
  | [d1, d2, d3] => { results := [.lit (.bool false)], args := [d1, d2, d3] }
  | _ => none }
def SenseKeptWrongFalsely : Prop := senseKeptRow.holds Tryd.pinned (OpenSpec.ofChange senseKeptWrong)

/-- 'mummerlaw09.SenseSilent': WHATEVER THE INPUT: true; the input reads as it did. -/
def senseSilentSpec : ChangeSpec := { name := "senseSilent", fn := fun _ => fun
  | [d1, d2, d3] => { results := [.lit (.bool true)], args := [d1, d2, d3] }
  | _ => none }
def senseSilentRow : OpenClaim := { program := "ytaifildofgeonaadoor", sum := "8f11d26d3dd9271d98c7baad7d2d1c38a304910af0e8a41db5edf7441d8f50f3", func := "mummer/mummerlaw09.SenseSilent", spec := "senseSilent", inPlace := ["sync/atomic.LoadUint32", "(*internal/sync.Mutex).Lock", "internal/race.Disable", "sync/atomic.CompareAndSwapInt32", "internal/race.Enable", "internal/race.Acquire", "(*internal/sync.Mutex).lockSlow", "internal/sync.runtime_canSpin", "internal/sync.runtime_doSpin", "internal/sync.throw", "internal/sync.runtime_nanotime", "internal/sync.runtime_SemacquireMutex", "sync/atomic.AddInt32", "(*internal/sync.Mutex).Unlock", "internal/race.ReleaseMerge", "(*internal/sync.Mutex).unlockSlow", "internal/sync.fatal", "internal/sync.runtime_Semrelease", "sync/atomic.StoreUint32"], unfollowed := true, recurses := true, named := ["mummer/isa.forms", "mummer/isa.spans"], apart := false, laid := [("mummer/isa.forms", laid_mummer_isa_forms), ("mummer/isa.spans", laid_mummer_isa_spans)] }
def SenseSilentSaid : Prop := senseSilentRow.holds Tryd.pinned (OpenSpec.ofChange senseSilentSpec)

/-- ITS FALSE NEIGHBOUR: 'it returns false'. Refute it at one input. -/
def senseSilentWrong : ChangeSpec := { name := "senseSilent", fn := fun _ => fun
  | [d1, d2, d3] => { results := [.lit (.bool false)], args := [d1, d2, d3] }
  | _ => none }
def SenseSilentWrongFalsely : Prop := senseSilentRow.holds Tryd.pinned (OpenSpec.ofChange senseSilentWrong)

/-- 'mummerlaw09.SenseUnlike': WHATEVER THE INPUT: true; the input reads as it did. -/
def senseUnlikeSpec : ChangeSpec := { name := "senseUnlike", fn := fun _ => fun
  | [d1, d2] => { results := [.lit (.bool true)], args := [d1, d2] }
  | _ => none }
def senseUnlikeRow : OpenClaim := { program := "ytaifildofgeonaadoor", sum := "8f11d26d3dd9271d98c7baad7d2d1c38a304910af0e8a41db5edf7441d8f50f3", func := "mummer/mummerlaw09.SenseUnlike", spec := "senseUnlike", unfollowed := true, recurses := true, named := ["mummer/isa.forms", "mummer/isa.spans"], apart := false, laid := [("mummer/isa.forms", laid_mummer_isa_forms), ("mummer/isa.spans", laid_mummer_isa_spans)] }
def SenseUnlikeSaid : Prop := senseUnlikeRow.holds Tryd.pinned (OpenSpec.ofChange senseUnlikeSpec)

/-- ITS FALSE NEIGHBOUR: 'it returns false'. Refute it at one input. -/
def senseUnlikeWrong : ChangeSpec := { name := "senseUnlike", fn := fun _ => fun
  | [d1, d2] => { results := [.lit (.bool false)], args := [d1, d2] }
  | _ => none }
def SenseUnlikeWrongFalsely : Prop := senseUnlikeRow.holds Tryd.pinned (OpenSpec.ofChange senseUnlikeWrong)

/-- 'mummerlaw09.SenseWrites': WHATEVER THE INPUT: true; the input reads as it did. -/
def senseWritesSpec : ChangeSpec := { name := "senseWrites", fn := fun _ => fun
  | [d1, d2, d3] => { results := [.lit (.bool true)], args := [d1, d2, d3] }
  | _ => none }
def senseWritesRow : OpenClaim := { program := "ytaifildofgeonaadoor", sum := "8f11d26d3dd9271d98c7baad7d2d1c38a304910af0e8a41db5edf7441d8f50f3", func := "mummer/mummerlaw09.SenseWrites", spec := "senseWrites", inPlace := ["sync/atomic.LoadUint32", "(*internal/sync.Mutex).Lock", "internal/race.Disable", "sync/atomic.CompareAndSwapInt32", "internal/race.Enable", "internal/race.Acquire", "(*internal/sync.Mutex).lockSlow", "internal/sync.runtime_canSpin", "internal/sync.runtime_doSpin", "internal/sync.throw", "internal/sync.runtime_nanotime", "internal/sync.runtime_SemacquireMutex", "sync/atomic.AddInt32", "(*internal/sync.Mutex).Unlock", "internal/race.ReleaseMerge", "(*internal/sync.Mutex).unlockSlow", "internal/sync.fatal", "internal/sync.runtime_Semrelease", "sync/atomic.StoreUint32"], unfollowed := true, recurses := true, named := ["mummer/isa.forms", "mummer/isa.spans"], apart := false, laid := [("mummer/isa.forms", laid_mummer_isa_forms), ("mummer/isa.spans", laid_mummer_isa_spans)] }
def SenseWritesSaid : Prop := senseWritesRow.holds Tryd.pinned (OpenSpec.ofChange senseWritesSpec)

/-- ITS FALSE NEIGHBOUR: 'it returns false'. Refute it at one input. -/
def senseWritesWrong : ChangeSpec := { name := "senseWrites", fn := fun _ => fun
  | [d1, d2, d3] => { results := [.lit (.bool false)], args := [d1, d2, d3] }
  | _ => none }
def SenseWritesWrongFalsely : Prop := senseWritesRow.holds Tryd.pinned (OpenSpec.ofChange senseWritesWrong)

/-- 'mummerlaw09.SenseThere': WHATEVER THE INPUT: true; the input reads as it did. -/
def senseThereSpec : ChangeSpec := { name := "senseThere", fn := fun _ => fun
  | [d1, d2, d3] => { results := [.lit (.bool true)], args := [d1, d2, d3] }
  | _ => none }
def senseThereRow : OpenClaim := { program := "ytaifildofgeonaadoor", sum := "8f11d26d3dd9271d98c7baad7d2d1c38a304910af0e8a41db5edf7441d8f50f3", func := "mummer/mummerlaw09.SenseThere", spec := "senseThere", unfollowed := true, recurses := true, named := ["mummer/isa.forms", "mummer/isa.spans"], apart := false, laid := [("mummer/isa.forms", laid_mummer_isa_forms), ("mummer/isa.spans", laid_mummer_isa_spans)] }
def SenseThereSaid : Prop := senseThereRow.holds Tryd.pinned (OpenSpec.ofChange senseThereSpec)

/-- ITS FALSE NEIGHBOUR: 'it returns false'. Refute it at one input. -/
def senseThereWrong : ChangeSpec := { name := "senseThere", fn := fun _ => fun
  | [d1, d2, d3] => { results := [.lit (.bool false)], args := [d1, d2, d3] }
  | _ => none }
def SenseThereWrongFalsely : Prop := senseThereRow.holds Tryd.pinned (OpenSpec.ofChange senseThereWrong)

/- THE SECOND FORM. 'bulk': how many values and letters a reading holds, each counted each time it is reached (what is shared counts as often as it is met; a slice's spare places count too). A statement '..UptoSaid' is the law's where the arguments, and the package variables that the reading takes, are together of bulk at most 1048576: NARROWER than '..Said'. Prove '..Said' where nothing that the law and all that it calls make is longer than what came in: it says more and counts as full. Else prove '..UptoSaid'. A law counts once. -/
mutual
def uptoBulk {H : Type} : DataW H → Nat
  | .lit (.string bytes) => bytes.length + 1
  | .lit _ => 1
  | .nil => 1
  | .ptr d => uptoBulk d + 1
  | .slice elems spare => uptoBulkAll elems + uptoBulkAll spare + 1
  | .agg parts => uptoBulkAll parts + 1
  | .iface _ d => uptoBulk d + 1
  | .map entries => uptoBulkEntries entries + 1
  | .held _ => 1
def uptoBulkAll {H : Type} : List (DataW H) → Nat
  | [] => 0
  | d :: r => uptoBulk d + uptoBulkAll r
def uptoBulkEntries {H : Type} : List (Lit × DataW H) → Nat
  | [] => 0
  | x :: r => uptoBulkEntry x + uptoBulkEntries r
def uptoBulkEntry {H : Type} : Lit × DataW H → Nat
  | (.string bytes, d) => bytes.length + uptoBulk d + 1
  | (_, d) => uptoBulk d + 1
 end
def uptoSmall : (H : Type) → List (DataW H) → Bool := fun _ ds => decide (uptoBulkAll ds ≤ 1048576)
def OpenSpec.upto (s : _root_.Go.ChangeSpec) : _root_.Go.OpenSpec := { _root_.Go.OpenSpec.ofChange s with cond := some uptoSmall }

/-- 'mummerlaw09.SenseDoes', WHERE WHAT IT READS IS OF BULK AT MOST 1048576: true; the input reads as it did. -/
def senseDoesUptoRow : OpenClaim := { program := "ytaifildofgeonaadoor", sum := "8f11d26d3dd9271d98c7baad7d2d1c38a304910af0e8a41db5edf7441d8f50f3", func := "mummer/mummerlaw09.SenseDoes", spec := "senseDoes", unfollowed := true, recurses := true, named := ["mummer/isa.forms", "mummer/isa.spans"], apart := false, laid := [("mummer/isa.forms", laid_mummer_isa_forms), ("mummer/isa.spans", laid_mummer_isa_spans)], narrowed := true }
def SenseDoesUptoSaid : Prop := senseDoesUptoRow.holds Tryd.pinned (OpenSpec.upto senseDoesSpec)

/-- 'mummerlaw09.SenseKept', WHERE WHAT IT READS IS OF BULK AT MOST 1048576: true; the input reads as it did. -/
def senseKeptUptoRow : OpenClaim := { program := "ytaifildofgeonaadoor", sum := "8f11d26d3dd9271d98c7baad7d2d1c38a304910af0e8a41db5edf7441d8f50f3", func := "mummer/mummerlaw09.SenseKept", spec := "senseKept", unfollowed := true, recurses := true, named := ["mummer/isa.forms", "mummer/isa.spans"], apart := false, laid := [("mummer/isa.forms", laid_mummer_isa_forms), ("mummer/isa.spans", laid_mummer_isa_spans)], narrowed := true }
def SenseKeptUptoSaid : Prop := senseKeptUptoRow.holds Tryd.pinned (OpenSpec.upto senseKeptSpec)

/-- 'mummerlaw09.SenseSilent', WHERE WHAT IT READS IS OF BULK AT MOST 1048576: true; the input reads as it did. -/
def senseSilentUptoRow : OpenClaim := { program := "ytaifildofgeonaadoor", sum := "8f11d26d3dd9271d98c7baad7d2d1c38a304910af0e8a41db5edf7441d8f50f3", func := "mummer/mummerlaw09.SenseSilent", spec := "senseSilent", inPlace := ["sync/atomic.LoadUint32", "(*internal/sync.Mutex).Lock", "internal/race.Disable", "sync/atomic.CompareAndSwapInt32", "internal/race.Enable", "internal/race.Acquire", "(*internal/sync.Mutex).lockSlow", "internal/sync.runtime_canSpin", "internal/sync.runtime_doSpin", "internal/sync.throw", "internal/sync.runtime_nanotime", "internal/sync.runtime_SemacquireMutex", "sync/atomic.AddInt32", "(*internal/sync.Mutex).Unlock", "internal/race.ReleaseMerge", "(*internal/sync.Mutex).unlockSlow", "internal/sync.fatal", "internal/sync.runtime_Semrelease", "sync/atomic.StoreUint32"], unfollowed := true, recurses := true, named := ["mummer/isa.forms", "mummer/isa.spans"], apart := false, laid := [("mummer/isa.forms", laid_mummer_isa_forms), ("mummer/isa.spans", laid_mummer_isa_spans)], narrowed := true }
def SenseSilentUptoSaid : Prop := senseSilentUptoRow.holds Tryd.pinned (OpenSpec.upto senseSilentSpec)

/-- 'mummerlaw09.SenseUnlike', WHERE WHAT IT READS IS OF BULK AT MOST 1048576: true; the input reads as it did. -/
def senseUnlikeUptoRow : OpenClaim := { program := "ytaifildofgeonaadoor", sum := "8f11d26d3dd9271d98c7baad7d2d1c38a304910af0e8a41db5edf7441d8f50f3", func := "mummer/mummerlaw09.SenseUnlike", spec := "senseUnlike", unfollowed := true, recurses := true, named := ["mummer/isa.forms", "mummer/isa.spans"], apart := false, laid := [("mummer/isa.forms", laid_mummer_isa_forms), ("mummer/isa.spans", laid_mummer_isa_spans)], narrowed := true }
def SenseUnlikeUptoSaid : Prop := senseUnlikeUptoRow.holds Tryd.pinned (OpenSpec.upto senseUnlikeSpec)

/-- 'mummerlaw09.SenseWrites', WHERE WHAT IT READS IS OF BULK AT MOST 1048576: true; the input reads as it did. -/
def senseWritesUptoRow : OpenClaim := { program := "ytaifildofgeonaadoor", sum := "8f11d26d3dd9271d98c7baad7d2d1c38a304910af0e8a41db5edf7441d8f50f3", func := "mummer/mummerlaw09.SenseWrites", spec := "senseWrites", inPlace := ["sync/atomic.LoadUint32", "(*internal/sync.Mutex).Lock", "internal/race.Disable", "sync/atomic.CompareAndSwapInt32", "internal/race.Enable", "internal/race.Acquire", "(*internal/sync.Mutex).lockSlow", "internal/sync.runtime_canSpin", "internal/sync.runtime_doSpin", "internal/sync.throw", "internal/sync.runtime_nanotime", "internal/sync.runtime_SemacquireMutex", "sync/atomic.AddInt32", "(*internal/sync.Mutex).Unlock", "internal/race.ReleaseMerge", "(*internal/sync.Mutex).unlockSlow", "internal/sync.fatal", "internal/sync.runtime_Semrelease", "sync/atomic.StoreUint32"], unfollowed := true, recurses := true, named := ["mummer/isa.forms", "mummer/isa.spans"], apart := false, laid := [("mummer/isa.forms", laid_mummer_isa_forms), ("mummer/isa.spans", laid_mummer_isa_spans)], narrowed := true }
def SenseWritesUptoSaid : Prop := senseWritesUptoRow.holds Tryd.pinned (OpenSpec.upto senseWritesSpec)

/-- 'mummerlaw09.SenseThere', WHERE WHAT IT READS IS OF BULK AT MOST 1048576: true; the input reads as it did. -/
def senseThereUptoRow : OpenClaim := { program := "ytaifildofgeonaadoor", sum := "8f11d26d3dd9271d98c7baad7d2d1c38a304910af0e8a41db5edf7441d8f50f3", func := "mummer/mummerlaw09.SenseThere", spec := "senseThere", unfollowed := true, recurses := true, named := ["mummer/isa.forms", "mummer/isa.spans"], apart := false, laid := [("mummer/isa.forms", laid_mummer_isa_forms), ("mummer/isa.spans", laid_mummer_isa_spans)], narrowed := true }
def SenseThereUptoSaid : Prop := senseThereUptoRow.holds Tryd.pinned (OpenSpec.upto senseThereSpec)

end Rows
end Go.Proofs.YtaifildofgeonaaDoor
