/- What the document's own table of kinds answers. -/
import Derived.Test.YtpalbpjmjbcelaaDoorKfa
namespace Go.Proofs.YtpalbpjmjbcelaaDoor
open Go.RowKit
set_option linter.unusedVariables false

/-- A line of the document's table. -/
structure Rf where
  c : Int
  ra : Bool
  rb : Bool
  wa : Bool
  lk : Bool
  sd : Bool
  st : Bool
  t : Bool
  f : Bool
  s : Bool
def rf0 : Rf := ⟨0, false, false, false, false, false, false, false, false, false⟩
def rfSense (op : Int) : Rf :=
  if op = 1 then { rf0 with c := 4, f := true } else if op = 2 then { rf0 with c := 4, t := true, s := true } else if op = 3 then { rf0 with c := 4, s := true }
  else if op = 96 ∨ op = 98 then { rf0 with c := 4, wa := true, s := true } else if op = 97 then { rf0 with c := 4, ra := true, t := true, s := true }
  else if op = 99 ∨ op = 101 then { rf0 with c := 4, ra := true, f := true } else if op = 100 then { rf0 with c := 4, wa := true, f := true }
  else if op = 112 ∨ op = 113 then { rf0 with c := 5 } else rf0
def rfRow (op : Int) : Rf :=
  if op = 0 then { rf0 with c := 1 } else if op = 16 then { rf0 with c := 1, rb := true, wa := true }
  else if 17 ≤ op ∧ op ≤ 30 ∧ op ≠ 26 then { rf0 with c := 1, ra := true, rb := true, wa := true, t := true, f := op == 25 || op == 30 }
  else if op = 26 ∨ op = 31 then { rf0 with c := 1, ra := true, rb := true, t := true }
  else if op = 32 then { rf0 with c := 1, wa := true } else if op = 33 then { rf0 with c := 1, ra := true, wa := true, t := true }
  else if op = 48 ∨ op = 50 ∨ op = 52 ∨ op = 54 ∨ op = 55 then { rf0 with c := 2, rb := true, wa := true, f := true }
  else if op = 56 then { rf0 with c := 2, ra := true, sd := true, st := true, f := true } else if op = 57 then { rf0 with c := 2, wa := true, sd := true, st := true, f := true }
  else if op = 58 then { rf0 with c := 2, ra := true, rb := true, wa := true, f := true }
  else if op = 49 ∨ op = 51 ∨ op = 53 then { rf0 with c := 2, ra := true, rb := true, f := true }
  else if 64 ≤ op ∧ op ≤ 71 then { rf0 with c := 3 }
  else if op = 72 ∨ op = 73 ∨ op = 74 then { rf0 with c := 3, ra := op != 72, lk := op != 73 }
  else if op = 80 then { rf0 with c := 3, f := true } else rfSense op
def rfA (x : Rf) (e : Bool) : Array Value := #[.int .i64 x.c, .bool x.ra, .bool x.rb, .bool x.wa, .bool x.lk, .bool x.sd, .bool x.st, .bool x.t, .bool x.f, .bool x.s, .bool e]

end Go.Proofs.YtpalbpjmjbcelaaDoor
