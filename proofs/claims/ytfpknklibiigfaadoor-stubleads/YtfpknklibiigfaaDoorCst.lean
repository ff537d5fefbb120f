/- The state of a processor, as a row of cells; and what an instruction does, as numbers. -/
import Derived.Test.YtfpknklibiigfaaDoorSst
import Derived.Test.YtfpknklibiigfaaDoorTurnm
import Derived.Test.YtfpknklibiigfaaDoorMay
namespace Go.Proofs.YtfpknklibiigfaaDoor
open Go.RowKit
set_option linter.unusedVariables false

/-- A result and its flags. -/
def alu (op x y : Int) : Int × Int :=
  if op = 16 ∨ op = 32 then (y, 0) else
  if op = 17 ∨ op = 33 then ((x + y) % 4294967296, fl ((x + y) % 4294967296) (decide (4294967296 ≤ x + y)) (addV x y)) else
  if op = 18 ∨ op = 26 then ((x - y) % 4294967296, fl ((x - y) % 4294967296) (decide (x < y)) (subV x y)) else
  if op = 20 then (bits .or .u32 x y, fl (bits .or .u32 x y) false false) else
  if op = 21 then (bits .xor .u32 x y, fl (bits .xor .u32 x y) false false) else
  if op = 22 then (shlI x.toNat (y % 32).toNat, fl (shlI x.toNat (y % 32).toNat) (outUp x.toNat (y % 32).toNat) false) else
  if op = 23 then (shrI x.toNat (y % 32).toNat, fl (shrI x.toNat (y % 32).toNat) (outDown x.toNat (y % 32).toNat) false) else
  if op = 24 then (x * y % 4294967296, fl (x * y % 4294967296) (decide (4294967296 ≤ x * y)) false) else
  if op = 25 then (x / y, fl (x / y) false false) else
  if op = 27 then (rorI x.toNat (y % 32).toNat, fl (rorI x.toNat (y % 32).toNat) (outDown x.toNat (y % 32).toNat) false) else
  if op = 28 then (sarI x.toNat (y % 32).toNat, fl (sarI x.toNat (y % 32).toNat) (outDown x.toNat (y % 32).toNat) false) else
  if op = 29 then (x * y / 4294967296, fl (x * y / 4294967296) false false) else
  if op = 30 then (x % y, fl (x % y) false false) else
  (bits .and .u32 x y, fl (bits .and .u32 x y) false false)
/-- Is there a result? -/
def aluIs (op y : Int) : Bool := !((op == 25 || op == 30) && y == 0)
def keepsB (op : Int) : Bool := !(op == 26 || op == 31)
def turnsB (op : Int) : Bool := !(op == 16 || op == 32)
def flgI (ps f : Int) : Int := ps - ps / 16 % 16 * 16 + f
def secN (s : Sta) (op : Int) (b : Nat) (imm : Int) : Int := if op = 32 ∨ op = 33 then imm % 4294967296 else s.r b
def reckS (s : Sta) (op : Int) (a b : Nat) (imm : Int) : Sta :=
  (s.regIf (keepsB op) a (alu op (s.r a) (secN s op b imm)).1).markIf (turnsB op) (flgI s.ps (alu op (s.r a) (secN s op b imm)).2)
/-- An access: its bytes, its kind, its address. -/
def rN (op : Int) : Int :=
  if op = 48 ∨ op = 57 ∨ op = 49 ∨ op = 56 ∨ op = 58 then 4 else
  if op = 52 ∨ op = 55 ∨ op = 53 then 2 else
  if op = 50 ∨ op = 54 ∨ op = 51 then 1 else 0
def rK (op : Int) : Int :=
  if op = 48 ∨ op = 57 ∨ op = 52 ∨ op = 55 ∨ op = 50 ∨ op = 54 then 2 else
  if op = 49 ∨ op = 56 ∨ op = 58 ∨ op = 53 ∨ op = 51 then 3 else 0
def adr (s : Sta) (op : Int) (b : Nat) (imm : Int) : Int :=
  if op = 56 then (s.r 7 - 4) % 4294967296 else if op = 57 then s.r 7 else (s.r b + imm % 4294967296) % 4294967296
def lowI (x n : Int) : Int := if n = 1 then x % 256 else if n = 2 then x % 65536 else x
def wantOn (op a b imm : Int) : Bool := (rN op != 0) && mayB (rowOf op false) a b imm
def wantF (s : Sta) (op : Int) (a b : Nat) (imm : Int) : Int × Int :=
  if wantOn op a b imm = true ∧ adr s op b imm % rN op ≠ 0 then (4, adr s op b imm) else (0, 0)
def wantA (s : Sta) (op : Int) (a b : Nat) (imm : Int) : Int × Int × Int × Int :=
  if wantOn op a b imm = true ∧ adr s op b imm % rN op = 0 then (rK op, adr s op b imm, rN op, if rK op = 3 then lowI (s.r a) (rN op) else 0) else (0, 0, 0, 0)
abbrev accV (q : Int × Int × Int × Int) : Array Value := #[.int .i64 q.1, .int .u32 q.2.1, .int .i64 q.2.2.1, .int .u32 q.2.2.2]
abbrev fltV (q : Int × Int) : Array Value := #[.int .i64 q.1, .int .u32 q.2]
def stackS (s : Sta) (op : Int) : Sta := if op = 56 then s.reg 7 ((s.r 7 - 4) % 4294967296) else if op = 57 then s.reg 7 ((s.r 7 + 4) % 4294967296) else s
def takes (op : Int) : Bool := op == 48 || op == 57 || op == 58 || op == 50 || op == 52 || op == 54 || op == 55
def sext (x n : Int) : Int := if x < n then x else x + 4294967296 - 2 * n
def takenV (op v : Int) : Int := if op = 50 then v % 256 else if op = 52 then v % 65536 else if op = 54 then sext (v % 256) 128 else if op = 55 then sext (v % 65536) 32768 else v
def movS (s : Sta) (op : Int) (a : Nat) (v : Int) : Sta := (stackS s op).regIf (takes op) a (takenV op v)
/-- A jump, of a state whose place is the next one. -/
def jgoes (op ps : Int) : Bool := if op = 73 ∨ op = 74 then true else holdsB (if op = 72 then 0 else op - 64) ps
def jto (s : Sta) (op : Int) (a : Nat) (imm : Int) : Int := if op = 73 ∨ op = 74 then s.r a else (s.pc + imm % 4294967296) % 4294967296
def linkS (s : Sta) (op back : Int) : Sta := if op = 72 ∨ op = 74 then s.reg 6 back else s
def jmpS (s : Sta) (op : Int) (a : Nat) (imm : Int) : Sta := if jgoes op s.ps then linkS (s.go (jto s op a imm)) op s.pc else s
def cls (op : Int) : Nat := if op = 0 then 1 else if 16 ≤ op ∧ op ≤ 33 then 2 else if 48 ≤ op ∧ op ≤ 58 then 3 else if 64 ≤ op ∧ op ≤ 74 then 4 else if op = 80 then 5 else 0
def isIns (op a b imm : Int) : Bool := mayB (rowOf op false) a b imm && cls op != 0
def nextS (s : Sta) (op : Int) : Sta := s.go ((s.pc + sz (rowOf op false)) % 4294967296)
/-- What an instruction of this layer comes to, of a state whose place is the next one. -/
def workF (s : Sta) (op : Int) (a b : Nat) (imm : Int) : Int × Int :=
  if cls op = 2 then (if aluIs op (secN s op b imm) then (0, 0) else (3, 0)) else if cls op = 3 then wantF s op a b imm else if cls op = 5 then (8, imm % 4294967296) else (0, 0)
def workS (s : Sta) (op : Int) (a b : Nat) (imm v : Int) : Sta :=
  if cls op = 2 then reckS s op a b imm else if cls op = 3 then movS s op a v else if cls op = 4 then jmpS s op a imm else s
def doF (s : Sta) (op : Int) (a b : Nat) (imm : Int) : Int × Int := if isIns op a b imm then workF (nextS s op) op a b imm else (1, s.pc)
def doS (s : Sta) (op : Int) (a b : Nat) (imm v : Int) : Sta := if (doF s op a b imm).1 = 0 then workS (nextS s op) op a b imm v else s

/-- The flags within a status. -/
theorem keep_nat (x : Nat) (hx : x < 4294967296) : x &&& 4294967055 = x - x / 16 % 16 * 16 := by
  have h1 : (x &&& 4294967055) >>> 8 = x / 256 := by
    rw [Nat.shiftRight_and_distrib, Nat.shiftRight_eq_div_pow, show 4294967055 >>> 8 = 2 ^ 24 - 1 by decide, Nat.and_two_pow_sub_one_eq_mod]
    exact Nat.mod_eq_of_lt (by omega)
  have h2 : (x &&& 4294967055) % 256 = x % 16 := by
    rw [show 256 = 2 ^ 8 by rfl, Nat.and_mod_two_pow, show 4294967055 % 2 ^ 8 = 2 ^ 4 - 1 by decide, Nat.and_two_pow_sub_one_eq_mod]
    omega
  rw [Nat.shiftRight_eq_div_pow] at h1
  have h3 := Nat.div_add_mod (x &&& 4294967055) 256
  omega
theorem or_tab : ∀ l < 16, ∀ k < 16, (l ||| (16 * k)) = l + 16 * k := by decide
theorem join_nat (z k : Nat) (hz : z % 256 < 16) (hk : k < 16) : z ||| (16 * k) = z + 16 * k := by
  have h1 : (z ||| (16 * k)) >>> 8 = z / 256 := by
    rw [Nat.shiftRight_or_distrib, Nat.shiftRight_eq_div_pow, Nat.shiftRight_eq_div_pow, show 16 * k / 2 ^ 8 = 0 by omega, Nat.or_zero]
  have h2 : (z ||| (16 * k)) % 256 = z % 256 + 16 * k := by
    rw [show 256 = 2 ^ 8 by rfl, Nat.or_mod_two_pow, show 16 * k % 2 ^ 8 = 16 * k by omega]
    exact or_tab _ hz _ hk
  rw [Nat.shiftRight_eq_div_pow] at h1
  have h3 := Nat.div_add_mod (z ||| (16 * k)) 256
  omega
theorem fl_form (r : Int) (c v : Bool) : ∃ k : Nat, k < 16 ∧ fl r c v = ((16 * k : Nat) : Int) := by
  unfold fl
  generalize (r == 0) = x
  generalize decide (2147483648 ≤ r) = y
  cases x <;> cases y <;> cases c <;> cases v
  all_goals first
    | exact ⟨0, by decide, rfl⟩
    | exact ⟨1, by decide, rfl⟩
    | exact ⟨2, by decide, rfl⟩
    | exact ⟨3, by decide, rfl⟩
    | exact ⟨4, by decide, rfl⟩
    | exact ⟨5, by decide, rfl⟩
    | exact ⟨6, by decide, rfl⟩
    | exact ⟨7, by decide, rfl⟩
    | exact ⟨8, by decide, rfl⟩
    | exact ⟨9, by decide, rfl⟩
    | exact ⟨10, by decide, rfl⟩
    | exact ⟨11, by decide, rfl⟩
    | exact ⟨12, by decide, rfl⟩
    | exact ⟨13, by decide, rfl⟩
    | exact ⟨14, by decide, rfl⟩
    | exact ⟨15, by decide, rfl⟩
theorem ite_form {p : Prop} [Decidable p] {x y : Int × Int} (hx : ∃ k : Nat, k < 16 ∧ x.2 = ((16 * k : Nat) : Int)) (hy : ∃ k : Nat, k < 16 ∧ y.2 = ((16 * k : Nat) : Int)) : ∃ k : Nat, k < 16 ∧ (if p then x else y).2 = ((16 * k : Nat) : Int) := by
  by_cases h : p
  · rw [if_pos h]; exact hx
  · rw [if_neg h]; exact hy
theorem alu_form (op x y : Int) : ∃ k : Nat, k < 16 ∧ (alu op x y).2 = ((16 * k : Nat) : Int) := by
  unfold alu
  repeat' (first | exact ⟨0, by decide, rfl⟩ | exact fl_form _ _ _ | refine ite_form ?_ ?_)
theorem flg_of (ps : Int) (k : Nat) (h0 : 0 ≤ ps) (h1 : ps < 4294967296) (hk : k < 16) : bits .or .u32 (bits .andNot .u32 ps 240) ((16 * k : Nat) : Int) = flgI ps ((16 * k : Nat) : Int) := by
  obtain ⟨n, rfl⟩ : ∃ n : Nat, ps = n := ⟨ps.toNat, by omega⟩
  rw [show (240 : Int) = ((240 : Nat) : Int) from rfl, u32_andNot_nat n 240 (by omega) (by decide), show 4294967295 - 240 = 4294967055 from rfl, keep_nat n (by omega), u32_or_nat _ _ (by omega) (by omega), join_nat _ _ (by omega) hk]
  unfold flgI
  omega
theorem flg_is (op x y ps : Int) (h0 : 0 ≤ ps) (h1 : ps < 4294967296) : bits .or .u32 (bits .andNot .u32 ps 240) (alu op x y).2 = flgI ps (alu op x y).2 := by
  obtain ⟨k, hk, e⟩ := alu_form op x y
  rw [e]; exact flg_of ps k h0 h1 hk
theorem flg_range (op x y ps : Int) (h0 : 0 ≤ ps) (h1 : ps < 4294967296) : 0 ≤ flgI ps (alu op x y).2 ∧ flgI ps (alu op x y).2 < 4294967296 := by
  obtain ⟨k, hk, e⟩ := alu_form op x y
  rw [e]; unfold flgI; constructor <;> omega
theorem resultsCC {P : Program} {fn : Func} {p q : Tmp} {ty ty' : TypeId} (h : fn.results = #[.cell p ty, .cell q ty']) (tmps : Array Value) (w : World) (g : Nat) (t : TypeId) (cs : Array Value) (fr : Nat × Nat) (d : TypeDesc)
    (g' : Nat) (t' : TypeId) (cs' : Array Value) (fr' : Nat × Nat) (d' : TypeDesc)
    (hp : tmps.getD p undef = .pointer (some ⟨g, 0, none⟩)) (hg : w.heap[g]? = some (.cells cs t fr))
    (hu : P.underlying ty = some d) (hd : (match d with | .struct _ | .array _ _ => true | _ => false) = true) (hi : (P.info? ty).map (·.size) = some cs.size)
    (hp' : tmps.getD q undef = .pointer (some ⟨g', 0, none⟩)) (hg' : w.heap[g']? = some (.cells cs' t' fr'))
    (hu' : P.underlying ty' = some d') (hd' : (match d' with | .struct _ | .array _ _ => true | _ => false) = true) (hi' : (P.info? ty').map (·.size) = some cs'.size) :
    (results fn tmps).run P w = .ok (.tuple #[.agg cs, .agg cs']) w := by
  have e1 : tmps[p]?.getD undef = .pointer (some ⟨g, 0, none⟩) := by simpa using hp
  have e2 : tmps[q]?.getD undef = .pointer (some ⟨g', 0, none⟩) := by simpa using hp'
  simp [results, h, e1, e2, asAddr, run_loadVar_row w g t ty cs fr d hg hu hd hi, run_loadVar_row w g' t' ty' cs' fr' d' hg' hu' hd' hi']
theorem four_blocks (w : World) (a b c d : Obj) : ((((w.alloc a).alloc b).alloc c).alloc d).heap[w.heap.size]? = some a ∧ ((((w.alloc a).alloc b).alloc c).alloc d).heap[w.heap.size + 1]? = some b ∧
    ((((w.alloc a).alloc b).alloc c).alloc d).heap[w.heap.size + 1 + 1]? = some c ∧ ((((w.alloc a).alloc b).alloc c).alloc d).heap[w.heap.size + 1 + 1 + 1]? = some d := by
  refine ⟨?_, ?_, ?_, ?_⟩
  · rw [hsk _ _ _ (by simp; omega), hsk _ _ _ (by simp; omega), hsk _ _ _ (by simp), hat _ _ _ rfl]
  · rw [hsk _ _ _ (by simp), hsk _ _ _ (by simp), hat _ _ _ (by simp)]
  · rw [hsk _ _ _ (by simp), hat _ _ _ (by simp)]
  · rw [hat _ _ _ (by simp)]
theorem ins_at {w : World} {b : Nat} {op a c imm : Int} (h : w.heap[b]? = some (.cells (insA op a c imm) 37 (0, 0))) :
    w.cell? ⟨b, 0, none⟩ = some (.int .u8 op) ∧ w.cell? ⟨b, 1, none⟩ = some (.int .u8 a) ∧ w.cell? ⟨b, 2, none⟩ = some (.int .u8 c) ∧ w.cell? ⟨b, 3, none⟩ = some (.int .i32 imm) :=
  ⟨cell_of_block h, cell_of_block h, cell_of_block h, cell_of_block h⟩

theorem five_blocks (w w' : World) (a b c d : Obj) (K : Kep ((((w.alloc a).alloc b).alloc c).alloc d) w') : w'.heap[w.heap.size]? = some a ∧ w'.heap[w.heap.size + 1]? = some b ∧ w'.heap[w.heap.size + 1 + 1]? = some c ∧ w'.heap[w.heap.size + 1 + 1 + 1]? = some d := by
  obtain ⟨h0, h1, h2, h3⟩ := four_blocks w a b c d
  exact ⟨K.block h0, K.block h1, K.block h2, K.block h3⟩
theorem size_ins : (Tryd.prog.info? 37).map (·.size) = some 4 := by kernel_rfl
end Go.Proofs.YtfpknklibiigfaaDoor
