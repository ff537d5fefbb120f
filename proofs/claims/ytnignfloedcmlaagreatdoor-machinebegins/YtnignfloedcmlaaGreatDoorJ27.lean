/- Part of a proof. -/
import Derived.Deep.QuietTactic
import Derived.Deep.MidRow
import Derived.BigQuiet
import Derived.RegionCalls
import Derived.Deep.RegionHeld3
import Derived.Deep.RegionWith
import Derived.WalkLawsBesides
import Derived.Test.YtnignfloedcmlaaGreatDoorJ20
namespace Go.Proofs.YtnignfloedcmlaaGreatDoor
open Go.RowKit
set_option linter.unusedVariables false
set_option linter.unusedSimpArgs false
structure Eff where
  k : Int
  f : Bool
  o : Bool
  p : Int
  x : Int
def Eff.v (e : Eff) : Array Value := #[.int .i64 e.k, .bool e.f, .bool e.o, .int .i64 e.p, .int .u32 e.x]
theorem eff_one (e : Eff) : e.v.all (·.oneCell') = true := by simp [Eff.v, Value.oneCell']
theorem size_eff : (Tryz.prog.info? 133).map (·.size) = some 5 := by kernel_rfl
def e0 (k : Int) : Eff := ⟨k, false, false, 0, 0⟩
def usr (s : Sta) : Bool := s.ps % 2 == 1
def mskI (x : Int) : Int := x % 8 + x / 16 % 16 * 16
def isSen (op : Int) : Bool := decide (1 ≤ op ∧ op ≤ 3) || decide (96 ≤ op ∧ op ≤ 101)
def forb (op : Int) : Bool := op == 1 || op == 99 || op == 100 || op == 101
def senS (s : Sta) (op : Int) (a b : Nat) (n : Int) : Sta :=
  if op = 1 then s.halt else
  if op = 2 then (match usr s with | true => s | false => (s.go (s.c 2)).mark (mskI (s.c 3))) else
  if op = 96 then s.reg a s.ps else
  if op = 97 then (match usr s with | true => s.mark (flgI s.ps (s.r a / 16 % 16 * 16)) | false => s.mark (mskI (s.r a))) else
  if op = 98 then (match usr s with | true => s.reg a 0 | false => s.reg a (s.c b)) else
  if op = 99 then s.ctl b (s.r a) else
  if op = 100 then s.reg a n else s
def senE (s : Sta) (op : Int) (a b : Nat) : Eff :=
  if op = 3 then ⟨0, !usr s, false, 0, 0⟩ else
  if op = 99 then ⟨0, (b : Int) == 0, false, 0, 0⟩ else
  if op = 101 then ⟨0, false, true, b, s.r a⟩ else e0 0
def isS (op a b imm : Int) : Bool := mayB (rowOf op false) a b imm && isSen op
def sdoS (s : Sta) (op : Int) (a b : Nat) (imm n : Int) : Sta := if isS op a b imm = false then s else if (usr s && forb op) = true then s else senS (nextS s op) op a b n
def sdoE (s : Sta) (op : Int) (a b : Nat) (imm : Int) : Eff := if isS op a b imm = false then e0 1 else if (usr s && forb op) = true then e0 2 else senE (nextS s op) op a b
def dv (op : Int) (a b : Nat) (imm n : Int) (s : Sta) (e : Eff) : Array Value := #[.int .u8 op, .int .u8 a, .int .u8 b, .int .i32 imm, .int .u32 n,
  .int .u32 (s.r 0), .int .u32 (s.r 1), .int .u32 (s.r 2), .int .u32 (s.r 3), .int .u32 (s.r 4), .int .u32 (s.r 5), .int .u32 (s.r 6), .int .u32 (s.r 7), .int .u32 s.pc, .int .u32 s.ps,
  .int .u32 (s.c 0), .int .u32 (s.c 1), .int .u32 (s.c 2), .int .u32 (s.c 3), .int .u32 (s.c 4), .int .u32 (s.c 5), .int .u32 (s.c 6), .int .u32 (s.c 7), .bool s.h,
  .int .i64 e.k, .bool e.f, .bool e.o, .int .i64 e.p, .int .u32 e.x]
def Dd (w : World) (p : Nat) (op : Int) (a b : Nat) (imm n : Int) (s : Sta) (e : Eff) : Prop := w.heap[p]? = some (.cells (dv op a b imm n s e) 159 (0, 0))
theorem Dd.cop {w : World} {p : Nat} {op : Int} {a b : Nat} {imm n : Int} {s : Sta} {e : Eff} (h : Dd w p op a b imm n s e) : w.cell? ⟨p, 0, none⟩ = some (.int .u8 op) := cell_of_block h
theorem Dd.ca {w : World} {p : Nat} {op : Int} {a b : Nat} {imm n : Int} {s : Sta} {e : Eff} (h : Dd w p op a b imm n s e) : w.cell? ⟨p, 1, none⟩ = some (.int .u8 a) := cell_of_block h
theorem Dd.cb {w : World} {p : Nat} {op : Int} {a b : Nat} {imm n : Int} {s : Sta} {e : Eff} (h : Dd w p op a b imm n s e) : w.cell? ⟨p, 2, none⟩ = some (.int .u8 b) := cell_of_block h
theorem Dd.cn {w : World} {p : Nat} {op : Int} {a b : Nat} {imm n : Int} {s : Sta} {e : Eff} (h : Dd w p op a b imm n s e) : w.cell? ⟨p, 4, none⟩ = some (.int .u32 n) := cell_of_block h
theorem Dd.reg {w : World} {p : Nat} {op : Int} {a b : Nat} {imm n : Int} {s : Sta} {e : Eff} (h : Dd w p op a b imm n s e) (k : Nat) (hk : k < 8) : w.cell? ⟨p, 5 + k, none⟩ = some (.int .u32 (s.r k)) :=
  (cell_of_block h).trans (eight (p := fun k => (dv op a b imm n s e)[5 + k]? = some (.int .u32 (s.r k))) ⟨rfl, rfl, rfl, rfl, rfl, rfl, rfl, rfl⟩ k hk)
theorem Dd.pc {w : World} {p : Nat} {op : Int} {a b : Nat} {imm n : Int} {s : Sta} {e : Eff} (h : Dd w p op a b imm n s e) : w.cell? ⟨p, 13, none⟩ = some (.int .u32 s.pc) := cell_of_block h
theorem Dd.ps {w : World} {p : Nat} {op : Int} {a b : Nat} {imm n : Int} {s : Sta} {e : Eff} (h : Dd w p op a b imm n s e) : w.cell? ⟨p, 14, none⟩ = some (.int .u32 s.ps) := cell_of_block h
theorem Dd.ctl {w : World} {p : Nat} {op : Int} {a b : Nat} {imm n : Int} {s : Sta} {e : Eff} (h : Dd w p op a b imm n s e) (k : Nat) (hk : k < 8) : w.cell? ⟨p, 15 + k, none⟩ = some (.int .u32 (s.c k)) :=
  (cell_of_block h).trans (eight (p := fun k => (dv op a b imm n s e)[15 + k]? = some (.int .u32 (s.c k))) ⟨rfl, rfl, rfl, rfl, rfl, rfl, rfl, rfl⟩ k hk)
theorem Dd.hl {w : World} {p : Nat} {op : Int} {a b : Nat} {imm n : Int} {s : Sta} {e : Eff} (h : Dd w p op a b imm n s e) : w.cell? ⟨p, 23, none⟩ = some (.bool s.h) := cell_of_block h
theorem Dd.ef {w : World} {p : Nat} {op : Int} {a b : Nat} {imm n : Int} {s : Sta} {e : Eff} (h : Dd w p op a b imm n s e) : w.cell? ⟨p, 25, none⟩ = some (.bool e.f) := cell_of_block h
theorem Dd.eo {w : World} {p : Nat} {op : Int} {a b : Nat} {imm n : Int} {s : Sta} {e : Eff} (h : Dd w p op a b imm n s e) : w.cell? ⟨p, 26, none⟩ = some (.bool e.o) := cell_of_block h
theorem Dd.ep {w : World} {p : Nat} {op : Int} {a b : Nat} {imm n : Int} {s : Sta} {e : Eff} (h : Dd w p op a b imm n s e) : w.cell? ⟨p, 27, none⟩ = some (.int .i64 e.p) := cell_of_block h
theorem Dd.ex {w : World} {p : Nat} {op : Int} {a b : Nat} {imm n : Int} {s : Sta} {e : Eff} (h : Dd w p op a b imm n s e) : w.cell? ⟨p, 28, none⟩ = some (.int .u32 e.x) := cell_of_block h
theorem Dd.frozen {w : World} {p : Nat} {op : Int} {a b : Nat} {imm n : Int} {s : Sta} {e : Eff} (h : Dd w p op a b imm n s e) (k : Nat) : w.frozen? ⟨p, k, none⟩ = false := frozen_of_row _ _ _ _ _ h
theorem Dd.lt {w : World} {p : Nat} {op : Int} {a b : Nat} {imm n : Int} {s : Sta} {e : Eff} (h : Dd w p op a b imm n s e) : p < w.heap.size := block_lt h
theorem dv_parts (op : Int) (a b : Nat) (imm n : Int) (s : Sta) (e : Eff) : (dv op a b imm n s e).toList = [.int .u8 op, .int .u8 a, .int .u8 b, .int .i32 imm, .int .u32 n] ++ (s.v.toList ++ e.v.toList) := rfl
theorem Dd.after {w : World} {p : Nat} {op : Int} {a b : Nat} {imm n : Int} {s : Sta} {e : Eff} (h : Dd w p op a b imm n s e) : w.rangeAt p 5 s.v.toList := fun j v hv => by
  have hj : j < s.v.toList.length := (List.getElem?_eq_some_iff.1 hv).1
  rw [cell_of_block h, ← Array.getElem?_toList, dv_parts, List.getElem?_append_right (by simp), List.getElem?_append_left (by simpa using hj), ← hv]
  congr 1
  simp
theorem Dd.asks {w : World} {p : Nat} {op : Int} {a b : Nat} {imm n : Int} {s : Sta} {e : Eff} (h : Dd w p op a b imm n s e) : w.rangeAt p 24 e.v.toList := fun j v hv => by
  have h19 : s.v.toList.length = 19 := rfl
  rw [cell_of_block h, ← Array.getElem?_toList, dv_parts, List.getElem?_append_right (by simp; omega), List.getElem?_append_right (by rw [h19]; simp; omega), ← hv]
  congr 1
  rw [h19]; simp; omega
theorem Dd.setReg {w : World} {p : Nat} {op : Int} {a b : Nat} {imm n : Int} {s : Sta} {e : Eff} (h : Dd w p op a b imm n s e) (k : Nat) (hk : k < 8) (x : Int) : Dd (w.setCell ⟨p, 5 + k, none⟩ (.int .u32 x)) p op a b imm n (s.reg k x) e := by
  unfold Dd; rw [heap_setCell_row h, eight (p := fun k => (dv op a b imm n s e).setIfInBounds (5 + k) (.int .u32 x) = dv op a b imm n (s.reg k x) e) ⟨rfl, rfl, rfl, rfl, rfl, rfl, rfl, rfl⟩ k hk]
theorem Dd.setCtl {w : World} {p : Nat} {op : Int} {a b : Nat} {imm n : Int} {s : Sta} {e : Eff} (h : Dd w p op a b imm n s e) (k : Nat) (hk : k < 8) (x : Int) : Dd (w.setCell ⟨p, 15 + k, none⟩ (.int .u32 x)) p op a b imm n (s.ctl k x) e := by
  unfold Dd; rw [heap_setCell_row h, eight (p := fun k => (dv op a b imm n s e).setIfInBounds (15 + k) (.int .u32 x) = dv op a b imm n (s.ctl k x) e) ⟨rfl, rfl, rfl, rfl, rfl, rfl, rfl, rfl⟩ k hk]
theorem Dd.setPc {w : World} {p : Nat} {op : Int} {a b : Nat} {imm n : Int} {s : Sta} {e : Eff} (h : Dd w p op a b imm n s e) (x : Int) : Dd (w.setCell ⟨p, 13, none⟩ (.int .u32 x)) p op a b imm n (s.go x) e := heap_setCell_row h _
theorem Dd.setPs {w : World} {p : Nat} {op : Int} {a b : Nat} {imm n : Int} {s : Sta} {e : Eff} (h : Dd w p op a b imm n s e) (x : Int) : Dd (w.setCell ⟨p, 14, none⟩ (.int .u32 x)) p op a b imm n (s.mark x) e := heap_setCell_row h _
theorem Dd.setHl {w : World} {p : Nat} {op : Int} {a b : Nat} {imm n : Int} {s : Sta} {e : Eff} (h : Dd w p op a b imm n s e) : Dd (w.setCell ⟨p, 23, none⟩ (.bool true)) p op a b imm n s.halt e := heap_setCell_row h _
theorem Dd.setF {w : World} {p : Nat} {op : Int} {a b : Nat} {imm n : Int} {s : Sta} {e : Eff} (h : Dd w p op a b imm n s e) (x : Bool) : Dd (w.setCell ⟨p, 25, none⟩ (.bool x)) p op a b imm n s { e with f := x } := heap_setCell_row h _
theorem Dd.setO {w : World} {p : Nat} {op : Int} {a b : Nat} {imm n : Int} {s : Sta} {e : Eff} (h : Dd w p op a b imm n s e) (x : Bool) : Dd (w.setCell ⟨p, 26, none⟩ (.bool x)) p op a b imm n s { e with o := x } := heap_setCell_row h _
theorem Dd.setP {w : World} {p : Nat} {op : Int} {a b : Nat} {imm n : Int} {s : Sta} {e : Eff} (h : Dd w p op a b imm n s e) (x : Int) : Dd (w.setCell ⟨p, 27, none⟩ (.int .i64 x)) p op a b imm n s { e with p := x } := heap_setCell_row h _
theorem Dd.setX {w : World} {p : Nat} {op : Int} {a b : Nat} {imm n : Int} {s : Sta} {e : Eff} (h : Dd w p op a b imm n s e) (x : Int) : Dd (w.setCell ⟨p, 28, none⟩ (.int .u32 x)) p op a b imm n s { e with x := x } := heap_setCell_row h _
theorem Dd.kep {w : World} {p : Nat} {op : Int} {a b : Nat} {imm n : Int} {s : Sta} {e : Eff} {w' : World} (h : Dd w p op a b imm n s e) (k : Kep w w') : Dd w' p op a b imm n s e := k.block h
theorem Dd.drew {w : World} {p : Nat} {op : Int} {a b : Nat} {imm n : Int} {s : Sta} {e : Eff} (h : Dd w p op a b imm n s e) : Dd w.drew p op a b imm n s e := h
theorem Dd.drewN {w : World} {p : Nat} {op : Int} {a b : Nat} {imm n : Int} {s : Sta} {e : Eff} (h : Dd w p op a b imm n s e) (m : Nat) : Dd (w.drewN m) p op a b imm n s e := h
theorem Dd.alloc {w : World} {p : Nat} {op : Int} {a b : Nat} {imm n : Int} {s : Sta} {e : Eff} (h : Dd w p op a b imm n s e) (o : Obj) : Dd (w.alloc o) p op a b imm n s e := h.kep ((Kep.refl _).alloc _)
theorem Dd.setRowOther {w : World} {p : Nat} {op : Int} {a b : Nat} {imm n : Int} {s : Sta} {e : Eff} {g : Nat} (h : Dd w p op a b imm n s e) (hp : p ≠ g) (cs : Array Value) : Dd (w.setRow g cs) p op a b imm n s e := (setRow_other _ _ _ _ hp).trans h
theorem Dd.setOther {w : World} {p : Nat} {op : Int} {a b : Nat} {imm n : Int} {s : Sta} {e : Eff} {q : Addr} (h : Dd w p op a b imm n s e) (hp : p ≠ q.block) (v : Value) : Dd (w.setCell q v) p op a b imm n s e := (heap_setCell_other _ _ _ _ hp).trans h
set_option maxRecDepth 10000 in
theorem and_low (x : Nat) (hx : x < 4294967296) : x &&& 247 = x % 8 + x / 16 % 16 * 16 := by
  have h1 : x &&& 247 = (x % 256) &&& 247 := by
    have := Nat.and_mod_two_pow (a := x) (b := 247) (n := 8)
    rw [show 2 ^ 8 = 256 by rfl, show 247 % 256 = 247 by rfl] at this
    rw [← this]
    exact (Nat.mod_eq_of_lt (Nat.lt_of_le_of_lt Nat.and_le_right (by decide))).symm
  have h2 : ∀ y < 256, y &&& 247 = y % 8 + y / 16 % 16 * 16 := by decide
  rw [h1, h2 _ (Nat.mod_lt _ (by decide))]
  omega
set_option maxRecDepth 10000 in
theorem and_flags (x : Nat) (hx : x < 4294967296) : x &&& 240 = x / 16 % 16 * 16 := by
  have h1 : x &&& 240 = (x % 256) &&& 240 := by
    have := Nat.and_mod_two_pow (a := x) (b := 240) (n := 8)
    rw [show 2 ^ 8 = 256 by rfl, show 240 % 256 = 240 by rfl] at this
    rw [← this]
    exact (Nat.mod_eq_of_lt (Nat.lt_of_le_of_lt Nat.and_le_right (by decide))).symm
  have h2 : ∀ y < 256, y &&& 240 = y / 16 % 16 * 16 := by decide
  rw [h1, h2 _ (Nat.mod_lt _ (by decide))]
  omega
theorem and_user (x : Nat) (hx : x < 4294967296) : x &&& 1 = x % 2 := Nat.and_one_is_mod x
theorem msk_is (x : Int) (h : 0 ≤ x ∧ x < 4294967296) : bits .and .u32 x 247 = mskI x := by
  obtain ⟨m, rfl⟩ : ∃ m : Nat, x = m := ⟨x.toNat, by omega⟩
  rw [show (247 : Int) = ((247 : Nat) : Int) from rfl, u32_and_nat m 247 (by omega) (by decide), and_low m (by omega)]
  unfold mskI; omega
theorem usr_is (x : Int) (h : 0 ≤ x ∧ x < 4294967296) : bits .and .u32 x 1 = x % 2 := by
  obtain ⟨m, rfl⟩ : ∃ m : Nat, x = m := ⟨x.toNat, by omega⟩
  rw [show (1 : Int) = ((1 : Nat) : Int) from rfl, u32_and_nat m 1 (by omega) (by decide), and_user m (by omega)]
  omega
theorem flags_is (ps x : Int) (h : 0 ≤ ps ∧ ps < 4294967296) (hx : 0 ≤ x ∧ x < 4294967296) : bits .or .u32 (bits .andNot .u32 ps 240) (bits .and .u32 x 240) = flgI ps (x / 16 % 16 * 16) := by
  obtain ⟨m, rfl⟩ : ∃ m : Nat, x = m := ⟨x.toNat, by omega⟩
  have e1 : bits .and .u32 (m : Int) 240 = ((16 * (m / 16 % 16) : Nat) : Int) := by
    rw [show (240 : Int) = ((240 : Nat) : Int) from rfl, u32_and_nat m 240 (by omega) (by decide), and_flags m (by omega)]
    omega
  rw [e1, flg_of ps _ h.1 h.2 (by omega)]
  unfold flgI; omega
theorem msk_range (x : Int) (h : 0 ≤ x ∧ x < 4294967296) : 0 ≤ mskI x ∧ mskI x < 4294967296 := by unfold mskI; omega
theorem ddA {P : Prop} (h : P := by (repeat (first | (with_reducible assumption) | (with_reducible refine Dd.kep ?_ (by assumption)) | (with_reducible exact Hid.out (by assumption)) | (with_reducible refine Dd.drew ?_) | (with_reducible refine Dd.drewN ?_ _) | (with_reducible refine Dd.alloc ?_ _) | (with_reducible refine Dd.setReg ?_ _ (by omega) _) | (with_reducible refine Dd.setCtl ?_ _ (by omega) _) | (with_reducible refine Dd.setPc ?_ _) | (with_reducible refine Dd.setPs ?_ _) | (with_reducible refine Dd.setHl ?_) | (with_reducible refine Dd.setF ?_ _) | (with_reducible refine Dd.setO ?_ _) | (with_reducible refine Dd.setP ?_ _) | (with_reducible refine Dd.setX ?_ _) | (with_reducible refine Dd.setOther ?_ (by (first | omega | (simp only []; omega) | (show _ ≠ _; omega))) _)))) : P := h
set_option maxHeartbeats 800000 in
theorem user_any {w : World} {p : Nat} {op : Int} {a b : Nat} {imm n : Int} {s : Sta} {e : Eff} (ok : s.Ok) (h : Dd w p op a b imm n s e) :
    Calls Tryz.prog 126 #[.pointer (some ⟨p, 0, none⟩)] w fun x w' => x = .returned (.bool (usr s)) ∧ w' = w := by
  have c := h.ps
  have u := usr_is s.ps ok.ps
  have hu : (s.ps % 2 != 0) = usr s := by
    unfold usr
    rcases Int.emod_two_eq s.ps with h | h <;> rw [h] <;> rfl
  clear h
  go_enter Tryz.func126, Tryz.ntmps126
  go_wp2
  go_ret
  exact ⟨rfl, rfl⟩
set_option maxHeartbeats 800000 in
theorem register_any {w : World} {p : Nat} {op : Int} {a b : Nat} {imm n : Int} {s : Sta} {e : Eff} (h : Dd w p op a b imm n s e) (ha : a < 8) :
    Calls Tryz.prog 127 #[.pointer (some ⟨p, 0, none⟩)] w fun x w' => x = .returned (.pointer (some ⟨p, 5 + a, none⟩)) ∧ w' = w.drew := by
  have c := h.ca
  clear h
  go_enter Tryz.func127, Tryz.ntmps127
  go_wp2
  go_region
  go_wp2
  go_ret
  exact ⟨rfl, rfl⟩
set_option maxHeartbeats 800000 in
theorem control_any {w : World} {p : Nat} {op : Int} {a b : Nat} {imm n : Int} {s : Sta} {e : Eff} (h : Dd w p op a b imm n s e) (hb : b < 8) :
    Calls Tryz.prog 128 #[.pointer (some ⟨p, 0, none⟩)] w fun x w' => x = .returned (.pointer (some ⟨p, 15 + b, none⟩)) ∧ w' = w.drew := by
  have c := h.cb
  clear h
  go_enter Tryz.func128, Tryz.ntmps128
  go_wp2
  go_region
  go_wp2
  go_ret
  exact ⟨rfl, rfl⟩
abbrev gaveUp : Ending := .panicked [{ v := .iface 221 (.agg #[]), recovered := false }]
set_option maxHeartbeats 800000 in
theorem for_yes {w : World} {p : Nat} {op : Int} {a b : Nat} {imm n : Int} {s : Sta} {e : Eff} (ok : s.Ok) (h : Dd w p op a b imm n s e) (hu : usr s = false) :
    Calls Tryz.prog 125 #[.pointer (some ⟨p, 0, none⟩)] w fun x w' => x = .returned (.tuple #[]) ∧ w' = w := by
  have U : Hid (Calls Tryz.prog 126 #[.pointer (some ⟨p, 0, none⟩)] w fun x w' => x = .returned (.bool false) ∧ w' = w) := by have := user_any ok h; rw [hu] at this; exact this
  clear h hu
  go_enter Tryz.func125, Tryz.ntmps125
  go_wp2_with (go_at_call 126; refine U.out.mono ?_; rintro x w' ⟨rfl, rfl⟩)
  go_end0
  exact ⟨rfl, rfl⟩
set_option maxHeartbeats 800000 in
theorem for_no {w : World} {p : Nat} {op : Int} {a b : Nat} {imm n : Int} {s : Sta} {e : Eff} (ok : s.Ok) (h : Dd w p op a b imm n s e) (hu : usr s = true) :
    Calls Tryz.prog 125 #[.pointer (some ⟨p, 0, none⟩)] w fun x w' => x = gaveUp ∧ w' = w := by
  have U : Hid (Calls Tryz.prog 126 #[.pointer (some ⟨p, 0, none⟩)] w fun x w' => x = .returned (.bool true) ∧ w' = w) := by have := user_any ok h; rw [hu] at this; exact this
  clear h hu
  go_enter Tryz.func125, Tryz.ntmps125
  go_wp2_with (go_at_call 126; refine U.out.mono ?_; rintro x w' ⟨rfl, rfl⟩)
  exact ⟨rfl, rfl, rfl⟩
set_option maxHeartbeats 800000 in
theorem halt_no {w : World} {p : Nat} {op : Int} {a b : Nat} {imm n : Int} {s : Sta} {e : Eff} (ok : s.Ok) (h : Dd w p op a b imm n s e) (hu : usr s = true) :
    Calls Tryz.prog 101 #[.pointer (some ⟨p, 0, none⟩)] w fun x w' => x = gaveUp ∧ w' = w := by
  have U : Hid (Calls Tryz.prog 125 #[.pointer (some ⟨p, 0, none⟩)] w fun x w' => x = gaveUp ∧ w' = w) := for_no ok h hu
  clear h hu
  go_enter Tryz.func101, Tryz.ntmps101
  go_wp2_with (go_at_call 125; refine U.out.mono ?_; rintro x w' ⟨rfl, rfl⟩)
  exact ⟨rfl, rfl, rfl⟩
set_option maxHeartbeats 800000 in
theorem halt_yes {w : World} {p : Nat} {op : Int} {a b : Nat} {imm n : Int} {s : Sta} {e : Eff} (ok : s.Ok) (h : Dd w p op a b imm n s e) (hu : usr s = false) :
    Calls Tryz.prog 101 #[.pointer (some ⟨p, 0, none⟩)] w fun x w' => x = .returned (.tuple #[]) ∧ Put [p] w w' ∧ Dd w' p op a b imm n s.halt e := by
  have U : Hid (Calls Tryz.prog 125 #[.pointer (some ⟨p, 0, none⟩)] w fun x w' => x = .returned (.tuple #[]) ∧ w' = w) := for_yes ok h hu
  have H : Hid (Dd w p op a b imm n s e) := h
  have c := h.hl
  have z := h.frozen 23
  clear h hu
  go_enter Tryz.func101, Tryz.ntmps101
  go_wp2_with (go_at_call 125; refine U.out.mono ?_; rintro x w' ⟨rfl, rfl⟩)
  go_end0
  exact ⟨rfl, putA, ddA⟩
end Go.Proofs.YtnignfloedcmlaaGreatDoor
