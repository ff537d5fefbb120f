/- Part of a proof. -/
import Derived.Deep.QuietTactic
import Derived.BigQuiet
import Derived.Test.YtnignfloedcmlaaGreatDoorJ19
namespace Go.Proofs.YtnignfloedcmlaaGreatDoor
open Go.RowKit
set_option linter.unusedVariables false
set_option linter.unusedSimpArgs false
def alu (op x y : Int) : Int × Int :=
  if op = 16 ∨ op = 32 then (y, 0) else
  if op = 17 ∨ op = 33 then ((x + y) % 4294967296, fl ((x + y) % 4294967296) (decide (4294967296 ≤ x + y)) (addV x y)) else
  if op = 18 ∨ op = 26 then ((x - y) % 4294967296, fl ((x - y) % 4294967296) (decide (x < y)) (subV x y)) else
  if op = 20 then (bits .or .u32 x y, fl (bits .or .u32 x y) false false) else
  if op = 21 then (bits .xor .u32 x y, fl (bits .xor .u32 x y) false false) else
  if op = 22 then (shlI x.toNat (y % 32).toNat, fl (shlI x.toNat (y % 32).toNat) (outUp x.toNat (y % 32).toNat) false) else
  if op = 23 then (shrI x.toNat (y % 32).toNat, fl (shrI x.toNat (y % 32).toNat) (outDown x.toNat (y % 32).toNat) false) else
  if op = 24 then (x * y % 4294967296, fl (x * y % 4294967296) (decide (4294967296 ≤ x * y)) false) else
  if op = 25 then (x / y, fl (x / y) false false) else
  if op = 27 then (rorI x.toNat (y % 32).toNat, fl (rorI x.toNat (y % 32).toNat) (outDown x.toNat (y % 32).toNat) false) else
  if op = 28 then (sarI x.toNat (y % 32).toNat, fl (sarI x.toNat (y % 32).toNat) (outDown x.toNat (y % 32).toNat) false) else
  if op = 29 then (x * y / 4294967296, fl (x * y / 4294967296) false false) else
  if op = 30 then (x % y, fl (x % y) false false) else
  (bits .and .u32 x y, fl (bits .and .u32 x y) false false)
def aluIs (op y : Int) : Bool := !((op == 25 || op == 30) && y == 0)
def keepsB (op : Int) : Bool := !(op == 26 || op == 31)
def turnsB (op : Int) : Bool := !(op == 16 || op == 32)
def flgI (ps f : Int) : Int := ps - ps / 16 % 16 * 16 + f
def secN (s : Sta) (op : Int) (b : Nat) (imm : Int) : Int := if op = 32 ∨ op = 33 then imm % 4294967296 else s.r b
def reckS (s : Sta) (op : Int) (a b : Nat) (imm : Int) : Sta :=
  (s.regIf (keepsB op) a (alu op (s.r a) (secN s op b imm)).1).markIf (turnsB op) (flgI s.ps (alu op (s.r a) (secN s op b imm)).2)
def rN (op : Int) : Int :=
  if op = 48 ∨ op = 57 ∨ op = 49 ∨ op = 56 ∨ op = 58 then 4 else
  if op = 52 ∨ op = 55 ∨ op = 53 then 2 else
  if op = 50 ∨ op = 54 ∨ op = 51 then 1 else 0
def rK (op : Int) : Int :=
  if op = 48 ∨ op = 57 ∨ op = 52 ∨ op = 55 ∨ op = 50 ∨ op = 54 then 2 else
  if op = 49 ∨ op = 56 ∨ op = 58 ∨ op = 53 ∨ op = 51 then 3 else 0
def adr (s : Sta) (op : Int) (b : Nat) (imm : Int) : Int :=
  if op = 56 then (s.r 7 - 4) % 4294967296 else if op = 57 then s.r 7 else (s.r b + imm % 4294967296) % 4294967296
def lowI (x n : Int) : Int := if n = 1 then x % 256 else if n = 2 then x % 65536 else x
def wantOn (op a b imm : Int) : Bool := (rN op != 0) && mayB (rowOf op false) a b imm
def wantF (s : Sta) (op : Int) (a b : Nat) (imm : Int) : Int × Int :=
  if wantOn op a b imm = true ∧ adr s op b imm % rN op ≠ 0 then (4, adr s op b imm) else (0, 0)
def wantA (s : Sta) (op : Int) (a b : Nat) (imm : Int) : Int × Int × Int × Int :=
  if wantOn op a b imm = true ∧ adr s op b imm % rN op = 0 then (rK op, adr s op b imm, rN op, if rK op = 3 then lowI (s.r a) (rN op) else 0) else (0, 0, 0, 0)
abbrev accV (q : Int × Int × Int × Int) : Array Value := #[.int .i64 q.1, .int .u32 q.2.1, .int .i64 q.2.2.1, .int .u32 q.2.2.2]
abbrev fltV (q : Int × Int) : Array Value := #[.int .i64 q.1, .int .u32 q.2]
def stackS (s : Sta) (op : Int) : Sta := if op = 56 then s.reg 7 ((s.r 7 - 4) % 4294967296) else if op = 57 then s.reg 7 ((s.r 7 + 4) % 4294967296) else s
def takes (op : Int) : Bool := op == 48 || op == 57 || op == 58 || op == 50 || op == 52 || op == 54 || op == 55
def sext (x n : Int) : Int := if x < n then x else x + 4294967296 - 2 * n
def takenV (op v : Int) : Int := if op = 50 then v % 256 else if op = 52 then v % 65536 else if op = 54 then sext (v % 256) 128 else if op = 55 then sext (v % 65536) 32768 else v
def movS (s : Sta) (op : Int) (a : Nat) (v : Int) : Sta := (stackS s op).regIf (takes op) a (takenV op v)
def jgoes (op ps : Int) : Bool := if op = 73 ∨ op = 74 then true else holdsB (if op = 72 then 0 else op - 64) ps
def jto (s : Sta) (op : Int) (a : Nat) (imm : Int) : Int := if op = 73 ∨ op = 74 then s.r a else (s.pc + imm % 4294967296) % 4294967296
def linkS (s : Sta) (op back : Int) : Sta := if op = 72 ∨ op = 74 then s.reg 6 back else s
def jmpS (s : Sta) (op : Int) (a : Nat) (imm : Int) : Sta := if jgoes op s.ps then linkS (s.go (jto s op a imm)) op s.pc else s
def cls (op : Int) : Nat := if op = 0 then 1 else if 16 ≤ op ∧ op ≤ 33 then 2 else if 48 ≤ op ∧ op ≤ 58 then 3 else if 64 ≤ op ∧ op ≤ 74 then 4 else if op = 80 then 5 else 0
def isIns (op a b imm : Int) : Bool := mayB (rowOf op false) a b imm && cls op != 0
def nextS (s : Sta) (op : Int) : Sta := s.go ((s.pc + sz (rowOf op false)) % 4294967296)
def workF (s : Sta) (op : Int) (a b : Nat) (imm : Int) : Int × Int :=
  if cls op = 2 then (if aluIs op (secN s op b imm) then (0, 0) else (3, 0)) else if cls op = 3 then wantF s op a b imm else if cls op = 5 then (8, imm % 4294967296) else (0, 0)
def workS (s : Sta) (op : Int) (a b : Nat) (imm v : Int) : Sta :=
  if cls op = 2 then reckS s op a b imm else if cls op = 3 then movS s op a v else if cls op = 4 then jmpS s op a imm else s
def doF (s : Sta) (op : Int) (a b : Nat) (imm : Int) : Int × Int := if isIns op a b imm then workF (nextS s op) op a b imm else (1, s.pc)
def doS (s : Sta) (op : Int) (a b : Nat) (imm v : Int) : Sta := if (doF s op a b imm).1 = 0 then workS (nextS s op) op a b imm v else s
theorem keep_nat (x : Nat) (hx : x < 4294967296) : x &&& 4294967055 = x - x / 16 % 16 * 16 := by
  have h1 : (x &&& 4294967055) >>> 8 = x / 256 := by
    rw [Nat.shiftRight_and_distrib, Nat.shiftRight_eq_div_pow, show 4294967055 >>> 8 = 2 ^ 24 - 1 by decide, Nat.and_two_pow_sub_one_eq_mod]
    exact Nat.mod_eq_of_lt (by omega)
  have h2 : (x &&& 4294967055) % 256 = x % 16 := by
    rw [show 256 = 2 ^ 8 by rfl, Nat.and_mod_two_pow, show 4294967055 % 2 ^ 8 = 2 ^ 4 - 1 by decide, Nat.and_two_pow_sub_one_eq_mod]
    omega
  rw [Nat.shiftRight_eq_div_pow] at h1
  have h3 := Nat.div_add_mod (x &&& 4294967055) 256
  omega
theorem or_tab : ∀ l < 16, ∀ k < 16, (l ||| (16 * k)) = l + 16 * k := by decide
theorem join_nat (z k : Nat) (hz : z % 256 < 16) (hk : k < 16) : z ||| (16 * k) = z + 16 * k := by
  have h1 : (z ||| (16 * k)) >>> 8 = z / 256 := by
    rw [Nat.shiftRight_or_distrib, Nat.shiftRight_eq_div_pow, Nat.shiftRight_eq_div_pow, show 16 * k / 2 ^ 8 = 0 by omega, Nat.or_zero]
  have h2 : (z ||| (16 * k)) % 256 = z % 256 + 16 * k := by
    rw [show 256 = 2 ^ 8 by rfl, Nat.or_mod_two_pow, show 16 * k % 2 ^ 8 = 16 * k by omega]
    exact or_tab _ hz _ hk
  rw [Nat.shiftRight_eq_div_pow] at h1
  have h3 := Nat.div_add_mod (z ||| (16 * k)) 256
  omega
theorem fl_form (r : Int) (c v : Bool) : ∃ k : Nat, k < 16 ∧ fl r c v = ((16 * k : Nat) : Int) := by
  unfold fl
  generalize (r == 0) = x
  generalize decide (2147483648 ≤ r) = y
  cases x <;> cases y <;> cases c <;> cases v
  all_goals first
    | exact ⟨0, by decide, rfl⟩
    | exact ⟨1, by decide, rfl⟩
    | exact ⟨2, by decide, rfl⟩
    | exact ⟨3, by decide, rfl⟩
    | exact ⟨4, by decide, rfl⟩
    | exact ⟨5, by decide, rfl⟩
    | exact ⟨6, by decide, rfl⟩
    | exact ⟨7, by decide, rfl⟩
    | exact ⟨8, by decide, rfl⟩
    | exact ⟨9, by decide, rfl⟩
    | exact ⟨10, by decide, rfl⟩
    | exact ⟨11, by decide, rfl⟩
    | exact ⟨12, by decide, rfl⟩
    | exact ⟨13, by decide, rfl⟩
    | exact ⟨14, by decide, rfl⟩
    | exact ⟨15, by decide, rfl⟩
theorem ite_form {p : Prop} [Decidable p] {x y : Int × Int} (hx : ∃ k : Nat, k < 16 ∧ x.2 = ((16 * k : Nat) : Int)) (hy : ∃ k : Nat, k < 16 ∧ y.2 = ((16 * k : Nat) : Int)) : ∃ k : Nat, k < 16 ∧ (if p then x else y).2 = ((16 * k : Nat) : Int) := by
  by_cases h : p
  · rw [if_pos h]; exact hx
  · rw [if_neg h]; exact hy
theorem alu_form (op x y : Int) : ∃ k : Nat, k < 16 ∧ (alu op x y).2 = ((16 * k : Nat) : Int) := by
  unfold alu
  repeat' (first | exact ⟨0, by decide, rfl⟩ | exact fl_form _ _ _ | refine ite_form ?_ ?_)
theorem flg_of (ps : Int) (k : Nat) (h0 : 0 ≤ ps) (h1 : ps < 4294967296) (hk : k < 16) : bits .or .u32 (bits .andNot .u32 ps 240) ((16 * k : Nat) : Int) = flgI ps ((16 * k : Nat) : Int) := by
  obtain ⟨n, rfl⟩ : ∃ n : Nat, ps = n := ⟨ps.toNat, by omega⟩
  rw [show (240 : Int) = ((240 : Nat) : Int) from rfl, u32_andNot_nat n 240 (by omega) (by decide), show 4294967295 - 240 = 4294967055 from rfl, keep_nat n (by omega), u32_or_nat _ _ (by omega) (by omega), join_nat _ _ (by omega) hk]
  unfold flgI
  omega
theorem flg_is (op x y ps : Int) (h0 : 0 ≤ ps) (h1 : ps < 4294967296) : bits .or .u32 (bits .andNot .u32 ps 240) (alu op x y).2 = flgI ps (alu op x y).2 := by
  obtain ⟨k, hk, e⟩ := alu_form op x y
  rw [e]; exact flg_of ps k h0 h1 hk
theorem flg_range (op x y ps : Int) (h0 : 0 ≤ ps) (h1 : ps < 4294967296) : 0 ≤ flgI ps (alu op x y).2 ∧ flgI ps (alu op x y).2 < 4294967296 := by
  obtain ⟨k, hk, e⟩ := alu_form op x y
  rw [e]; unfold flgI; constructor <;> omega
theorem resultsCC {P : Program} {fn : Func} {p q : Tmp} {ty ty' : TypeId} (h : fn.results = #[.cell p ty, .cell q ty']) (tmps : Array Value) (w : World) (g : Nat) (t : TypeId) (cs : Array Value) (fr : Nat × Nat) (d : TypeDesc)
    (g' : Nat) (t' : TypeId) (cs' : Array Value) (fr' : Nat × Nat) (d' : TypeDesc)
    (hp : tmps.getD p undef = .pointer (some ⟨g, 0, none⟩)) (hg : w.heap[g]? = some (.cells cs t fr))
    (hu : P.underlying ty = some d) (hd : (match d with | .struct _ | .array _ _ => true | _ => false) = true) (hi : (P.info? ty).map (·.size) = some cs.size)
    (hp' : tmps.getD q undef = .pointer (some ⟨g', 0, none⟩)) (hg' : w.heap[g']? = some (.cells cs' t' fr'))
    (hu' : P.underlying ty' = some d') (hd' : (match d' with | .struct _ | .array _ _ => true | _ => false) = true) (hi' : (P.info? ty').map (·.size) = some cs'.size) :
    (results fn tmps).run P w = .ok (.tuple #[.agg cs, .agg cs']) w := by
  have e1 : tmps[p]?.getD undef = .pointer (some ⟨g, 0, none⟩) := by simpa using hp
  have e2 : tmps[q]?.getD undef = .pointer (some ⟨g', 0, none⟩) := by simpa using hp'
  simp [results, h, e1, e2, asAddr, run_loadVar_row w g t ty cs fr d hg hu hd hi, run_loadVar_row w g' t' ty' cs' fr' d' hg' hu' hd' hi']
theorem four_blocks (w : World) (a b c d : Obj) : ((((w.alloc a).alloc b).alloc c).alloc d).heap[w.heap.size]? = some a ∧ ((((w.alloc a).alloc b).alloc c).alloc d).heap[w.heap.size + 1]? = some b ∧
    ((((w.alloc a).alloc b).alloc c).alloc d).heap[w.heap.size + 1 + 1]? = some c ∧ ((((w.alloc a).alloc b).alloc c).alloc d).heap[w.heap.size + 1 + 1 + 1]? = some d := by
  refine ⟨?_, ?_, ?_, ?_⟩
  · rw [hsk _ _ _ (by simp; omega), hsk _ _ _ (by simp; omega), hsk _ _ _ (by simp), hat _ _ _ rfl]
  · rw [hsk _ _ _ (by simp), hsk _ _ _ (by simp), hat _ _ _ (by simp)]
  · rw [hsk _ _ _ (by simp), hat _ _ _ (by simp)]
  · rw [hat _ _ _ (by simp)]
theorem ins_at {w : World} {b : Nat} {op a c imm : Int} (h : w.heap[b]? = some (.cells (insA op a c imm) 128 (0, 0))) :
    w.cell? ⟨b, 0, none⟩ = some (.int .u8 op) ∧ w.cell? ⟨b, 1, none⟩ = some (.int .u8 a) ∧ w.cell? ⟨b, 2, none⟩ = some (.int .u8 c) ∧ w.cell? ⟨b, 3, none⟩ = some (.int .i32 imm) :=
  ⟨cell_of_block h, cell_of_block h, cell_of_block h, cell_of_block h⟩
theorem five_blocks (w w' : World) (a b c d : Obj) (K : Kep ((((w.alloc a).alloc b).alloc c).alloc d) w') : w'.heap[w.heap.size]? = some a ∧ w'.heap[w.heap.size + 1]? = some b ∧ w'.heap[w.heap.size + 1 + 1]? = some c ∧ w'.heap[w.heap.size + 1 + 1 + 1]? = some d := by
  obtain ⟨h0, h1, h2, h3⟩ := four_blocks w a b c d
  exact ⟨K.block h0, K.block h1, K.block h2, K.block h3⟩
theorem size_ins : (Tryz.prog.info? 128).map (·.size) = some 4 := by kernel_rfl
theorem mem_ops {op : Int} (h : 48 ≤ op ∧ op ≤ 58) : op = 48 ∨ op = 49 ∨ op = 50 ∨ op = 51 ∨ op = 52 ∨ op = 53 ∨ op = 54 ∨ op = 55 ∨ op = 56 ∨ op = 57 ∨ op = 58 := by omega
theorem v_seven (s : Sta) : s.v[7]'(by rw [v_size]; decide) = .int .u32 (s.r 7) := rfl
set_option maxHeartbeats 800000 in
theorem reach_any (op : Int) (w : World) (h0 : 0 ≤ op) (h1 : op < 256) :
    Calls Tryz.prog 111 #[.int .u8 op] w fun e w' => e = .returned (.tuple #[.int .i64 (rK op), .int .i64 (rN op)]) ∧ w' = w := by
  by_cases m : 48 ≤ op ∧ op ≤ 58
  · rcases mem_ops m with rfl | rfl | rfl | rfl | rfl | rfl | rfl | rfl | rfl | rfl | rfl
    all_goals
      clear m h0 h1
      go_enter Tryz.func111, Tryz.ntmps111
      go_wp2
      go_ret2
      exact ⟨rfl, rfl⟩
  · have hk : rK op = 0 := by unfold rK; rw [if_neg (by omega), if_neg (by omega)]
    have hn : rN op = 0 := by unfold rN; rw [if_neg (by omega), if_neg (by omega), if_neg (by omega)]
    rw [hk, hn]
    have x0 := ne_lit (op := op) (k := 48) (by omega)
    have x1 := ne_lit (op := op) (k := 49) (by omega)
    have x2 := ne_lit (op := op) (k := 50) (by omega)
    have x3 := ne_lit (op := op) (k := 51) (by omega)
    have x4 := ne_lit (op := op) (k := 52) (by omega)
    have x5 := ne_lit (op := op) (k := 53) (by omega)
    have x6 := ne_lit (op := op) (k := 54) (by omega)
    have x7 := ne_lit (op := op) (k := 55) (by omega)
    have x8 := ne_lit (op := op) (k := 56) (by omega)
    have x9 := ne_lit (op := op) (k := 57) (by omega)
    have x10 := ne_lit (op := op) (k := 58) (by omega)
    clear m hk hn
    go_enter Tryz.func111, Tryz.ntmps111
    go_wp2
    go_ret2
    exact ⟨rfl, rfl⟩
set_option maxHeartbeats 800000 in
theorem lowest_any (x n : Int) (w : World) (h0 : 0 ≤ x) (h1 : x < 4294967296) (hn : n = 1 ∨ n = 2 ∨ n = 4) :
    Calls Tryz.prog 113 #[.int .u32 x, .int .i64 n] w fun e w' => e = .returned (.int .u32 (lowI x n)) ∧ w' = w := by
  rcases hn with rfl | rfl | rfl
  all_goals
    go_enter Tryz.func113, Tryz.ntmps113
    go_wp2
    go_ret
    exact ⟨ret_int (by simp [lowI, IntKind.wrap_u8, IntKind.wrap_u16] <;> omega), rfl⟩
set_option maxHeartbeats 800000 in
theorem address_any (s : Sta) (op : Int) (a b : Nat) (imm : Int) (w : World) (ok : s.Ok) (hb : (b : Int) < 8) (h2 : -2147483648 ≤ imm) (h3 : imm ≤ 2147483647) :
    Calls Tryz.prog 112 #[.agg s.v, .agg (insA op a b imm)] w fun e w' => e = .returned (.int .u32 (adr s op b imm)) ∧ Kep w w' := by
  have r7 := ok.r 7
  have rb := ok.r b
  have vb := v_reg s b (by omega)
  have v7 := v_seven s
  have vs := v_size s
  by_cases e1 : op = 56
  · subst e1
    go_enter Tryz.func112, Tryz.ntmps112
    go_wp2
    go_ret
    exact ⟨ret_int (by simp [adr]), ((Kep.refl _).alloc _).alloc _⟩
  by_cases e2 : op = 57
  · subst e2
    go_enter Tryz.func112, Tryz.ntmps112
    go_wp2
    go_ret
    exact ⟨ret_int (by simp [adr]), ((Kep.refl _).alloc _).alloc _⟩
  have x1 := ne_lit e1
  have x2 := ne_lit e2
  have he : adr s op b imm = (s.r b + imm % 4294967296) % 4294967296 := by unfold adr; rw [if_neg e1, if_neg e2]
  rw [he]
  clear e1 e2 he
  go_enter Tryz.func112, Tryz.ntmps112
  go_wp2
  go_quiet (fail)
  go_wp2
  go_ret
  exact ⟨ret_int (by simp [IntKind.wrap_u32]), (((Kep.refl _).alloc _).alloc _).drewN _⟩
theorem size_acc : (Tryz.prog.info? 138).map (·.size) = some 4 := by kernel_rfl
set_option maxHeartbeats 1600000 in
set_option maxRecDepth 100000 in
theorem want_core (s : Sta) (op : Int) (a b : Nat) (imm k n : Int) (w : World) (ok : s.Ok) (h0 : 0 ≤ op) (h1 : op < 256) (ha : (a : Int) < 8) (hb : (b : Int) < 8) (h2 : -2147483648 ≤ imm) (h3 : imm ≤ 2147483647)
    (hk : k = 2 ∨ k = 3) (hn : n = 1 ∨ n = 2 ∨ n = 4) (hm : mayB (rowOf op false) a b imm = true) (ek : rK op = k) (en : rN op = n) (hT : Tabs w) :
    Calls Tryz.prog 84 #[.agg s.v, .agg (insA op a b imm)] w fun e w' => e = .returned (.tuple #[.agg (accV (wantA s op a b imm)), .agg (fltV (wantF s op a b imm))]) ∧ Kep w w' := by
  have RA : Hid (∀ w, Calls Tryz.prog 111 #[.int .u8 op] w fun e w' => e = .returned (.tuple #[.int .i64 k, .int .i64 n]) ∧ w' = w) := fun w => by
    have := reach_any op w h0 h1; rw [ek, en] at this; exact this
  have MA : Hid (∀ w, Tabs w → Calls Tryz.prog 80 #[.agg (insA op a b imm), .bool false] w fun e w' => e = .returned (.bool true) ∧ Kep w w') := fun w hT => by
    have := may_any op a b imm false w h0 h1 h2 h3 hT; rw [hm] at this; exact this
  have AA : Hid (∀ w, Calls Tryz.prog 112 #[.agg s.v, .agg (insA op a b imm)] w fun e w' => e = .returned (.int .u32 (adr s op b imm)) ∧ Kep w w') := fun w => address_any s op a b imm w ok hb h2 h3
  have hon : wantOn op a b imm = true := by unfold wantOn; rw [hm, en]; rcases hn with rfl | rfl | rfl <;> rfl
  have hA : Hid (adr s op b imm % n = 0 → wantA s op a b imm = (k, adr s op b imm, n, if k = 3 then lowI (s.r a) n else 0) ∧ wantF s op a b imm = (0, 0)) := fun h => by
    unfold wantA wantF; rw [hon, ek, en]; exact ⟨if_pos ⟨rfl, h⟩, if_neg (fun q => q.2 h)⟩
  have hB : Hid (adr s op b imm % n ≠ 0 → wantA s op a b imm = (0, 0, 0, 0) ∧ wantF s op a b imm = (4, adr s op b imm)) := fun h => by
    unfold wantA wantF; rw [hon, en]; exact ⟨if_neg (fun q => h q.2), if_pos ⟨rfl, h⟩⟩
  have hr : 0 ≤ adr s op b imm ∧ adr s op b imm < 4294967296 := by
    have := ok.r 7
    unfold adr; split
    · omega
    · split <;> omega
  generalize adr s op b imm = at_ at *
  generalize wantA s op a b imm = qa at *
  generalize wantF s op a b imm = qf at *
  have ra := ok.r a
  have va := v_reg s a (by omega)
  have vs := v_size s
  clear hm ek en hon ok
  rcases hn with rfl | rfl | rfl
  all_goals rcases hk with rfl | rfl
  all_goals
    go_enter Tryz.func84, Tryz.ntmps84
    go_wp2_with fail
    refine (RA.out _).mono ?_
    rintro e w' ⟨rfl, rfl⟩
    go_wp2_with fail
    refine (MA.out _ (hT.grown (((((Kep.refl _).alloc _).alloc _).alloc _).alloc _))).mono ?_
    rintro e w1 ⟨rfl, g1⟩
    have G1 : Hid (Kep w w1) := kep_trans (((((Kep.refl _).alloc _).alloc _).alloc _).alloc _) g1
    obtain ⟨B0, B1, B2, B3⟩ := four_blocks w _ _ _ _
    replace B0 := g1.block B0
    replace B1 := g1.block B1
    replace B2 := g1.block B2
    replace B3 := g1.block B3
    clear g1
    obtain ⟨i0, i1, i2, i3⟩ := ins_at B1
    have ca := At.reg (s := s) B0 a (by omega)
    have H0 : Hid (At w1 w.heap.size s) := B0
    clear B0
    go_wp2_with (refine wpList_load_row rfl 26 _ rfl w.heap.size rfl 26 s.v (0, 0) _ H0.out Tryz.underlying26 rfl size_sta ?_)
    refine (AA.out _).mono ?_
    rintro e w2 ⟨rfl, g2⟩
    have G2 : Hid (Kep w w2) := kep_trans G1 g2
    replace B1 := g2.block B1
    replace B2 := g2.block B2
    replace B3 := g2.block B3
    have H2 : At w2 w.heap.size s := H0.out.kep g2
    clear i0 i1 i2 i3 ca
    obtain ⟨i0, i1, i2, i3⟩ := ins_at B1
    have ca := H2.reg a (by omega)
    clear g2 H2 H0 G1
    have z3 := block_lt B3
    have z0 : w.heap.size < w2.heap.size := by omega
    have z1 : w.heap.size + 1 < w2.heap.size := by omega
    have z2 : w.heap.size + 1 + 1 < w2.heap.size := by omega
    have Z2 : Hid (w2.heap[w.heap.size + 1 + 1]? = _) := B2
    have Z3 : Hid (w2.heap[w.heap.size + 1 + 1 + 1]? = _) := B3
    clear B1 B2 B3
    go_wp2_with (first
      | (go_at_call 113; refine (lowest_any _ _ _ (by omega) (by omega) (by simp)).mono ?_; rintro e w' ⟨rfl, rfl⟩)
      | (refine wpList_store_row (by rfl) 138 (.tmp 4) _ (by rfl) (w.heap.size + 1 + 1) _ (by rfl) (by rfl) 138 #[.int .i64 0, .int .u32 0, .int .i64 0, .int .u32 0] blkA (by exact size_acc) (by rfl) (by simp [Value.oneCell']) ?_)
      | (refine wpList_store_row (by rfl) 100 (.tmp 5) _ (by rfl) (w.heap.size + 1 + 1 + 1) _ (by rfl) (by rfl) 100 #[.int .i64 0, .int .u32 0] blkA (by exact size_flt) (by rfl) (by simp [Value.oneCell']) ?_))
    all_goals
      try simp only [Exit.inBlock, Exit.then]
      refine bodyPost_ret (resultsCC rfl _ _ (w.heap.size + 1 + 1) 138 _ (0, 0) _ (w.heap.size + 1 + 1 + 1) 100 _ (0, 0) _ (by rfl) blkA Tryz.underlying138 rfl (by exact size_acc) (by rfl) blkA Tryz.underlying100 rfl (by exact size_flt)) rfl ⟨?_, kepA⟩
      first
        | (obtain ⟨rfl, rfl⟩ := hA.out (by first | omega | (simp_all; done) | (simp_all; omega)); rfl)
        | (obtain ⟨rfl, rfl⟩ := hB.out (by first | omega | (simp_all; done) | (simp_all; omega)); rfl)
set_option maxHeartbeats 1600000 in
set_option maxRecDepth 100000 in
theorem want_no (s : Sta) (op : Int) (a b : Nat) (imm : Int) (w : World) (h0 : 0 ≤ op) (h1 : op < 256) (h2 : -2147483648 ≤ imm) (h3 : imm ≤ 2147483647)
    (hm : wantOn op a b imm = false) (hT : Tabs w) :
    Calls Tryz.prog 84 #[.agg s.v, .agg (insA op a b imm)] w fun e w' => e = .returned (.tuple #[.agg (accV (wantA s op a b imm)), .agg (fltV (wantF s op a b imm))]) ∧ Kep w w' := by
  have ea : wantA s op a b imm = (0, 0, 0, 0) := by unfold wantA; rw [hm]; exact if_neg (fun q => Bool.noConfusion q.1)
  have ef : wantF s op a b imm = (0, 0) := by unfold wantF; rw [hm]; exact if_neg (fun q => Bool.noConfusion q.1)
  rw [ea, ef]
  have RA : Hid (∀ w, Calls Tryz.prog 111 #[.int .u8 op] w fun e w' => e = .returned (.tuple #[.int .i64 (rK op), .int .i64 (rN op)]) ∧ w' = w) := fun w => reach_any op w h0 h1
  have MA : Hid (∀ w, Tabs w → Calls Tryz.prog 80 #[.agg (insA op a b imm), .bool false] w fun e w' => e = .returned (.bool (mayB (rowOf op false) a b imm)) ∧ Kep w w') := fun w hT => may_any op a b imm false w h0 h1 h2 h3 hT
  unfold wantOn at hm
  clear ea ef
  by_cases hn : rN op = 0
  · rw [hn] at RA
    clear MA hm hn
    go_enter Tryz.func84, Tryz.ntmps84
    go_wp2_with fail
    refine (RA.out _).mono ?_
    rintro e w' ⟨rfl, rfl⟩
    go_wp2_with fail
    try simp only [Exit.inBlock, Exit.then]
    exact bodyPost_ret (resultsCC rfl _ _ (w.heap.size + 1 + 1) 138 _ (0, 0) _ (w.heap.size + 1 + 1 + 1) 100 _ (0, 0) _ (by rfl) blkA Tryz.underlying138 rfl (by exact size_acc) (by rfl) blkA Tryz.underlying100 rfl (by exact size_flt)) rfl ⟨by rfl, kepA⟩
  · have hm' : mayB (rowOf op false) a b imm = false := by simpa [hn] using hm
    have hz : (rN op == 0) = false := ne_lit hn
    rw [hm'] at MA
    clear hm' hm hn
    go_enter Tryz.func84, Tryz.ntmps84
    go_wp2_with fail
    refine (RA.out _).mono ?_
    rintro e w' ⟨rfl, rfl⟩
    go_wp2_with fail
    refine (MA.out _ (hT.grown (((((Kep.refl _).alloc _).alloc _).alloc _).alloc _))).mono ?_
    rintro e w2 ⟨rfl, g1⟩
    have G2 : Hid (Kep w w2) := kep_trans (((((Kep.refl _).alloc _).alloc _).alloc _).alloc _) g1
    obtain ⟨B0, B1, B2, B3⟩ := four_blocks w _ _ _ _
    have Z2 : Hid (w2.heap[w.heap.size + 1 + 1]? = _) := g1.block B2
    have Z3 : Hid (w2.heap[w.heap.size + 1 + 1 + 1]? = _) := g1.block B3
    have z3 := block_lt Z3.out
    clear g1 B0 B1 B2 B3
    go_wp2_with (first
      | (refine wpList_store_row (by rfl) 138 (.tmp 4) _ (by rfl) (w.heap.size + 1 + 1) _ (by rfl) (by rfl) 138 #[.int .i64 0, .int .u32 0, .int .i64 0, .int .u32 0] blkA (by exact size_acc) (by rfl) (by simp [Value.oneCell']) ?_)
      | (refine wpList_store_row (by rfl) 100 (.tmp 5) _ (by rfl) (w.heap.size + 1 + 1 + 1) _ (by rfl) (by rfl) 100 #[.int .i64 0, .int .u32 0] blkA (by exact size_flt) (by rfl) (by simp [Value.oneCell']) ?_))
    try simp only [Exit.inBlock, Exit.then]
    exact bodyPost_ret (resultsCC rfl _ _ (w.heap.size + 1 + 1) 138 _ (0, 0) _ (w.heap.size + 1 + 1 + 1) 100 _ (0, 0) _ (by rfl) blkA Tryz.underlying138 rfl (by exact size_acc) (by rfl) blkA Tryz.underlying100 rfl (by exact size_flt)) rfl ⟨by rfl, kepA⟩
theorem may_reg (op : Int) (host : Bool) (a b imm : Int) (h : mayB (rowOf op host) a b imm = true) : a ≤ 7 ∧ b ≤ 7 := by
  have hr := rowOf_lt op host
  generalize rowOf op host = r at h hr
  have q : ∀ r, r < 10 → f1 r ≤ 7 ∧ f2 r ≤ 7 := by decide
  have := q r hr
  simp [mayB] at h
  omega
theorem reach_cases (op : Int) (h : rN op ≠ 0) : (rK op = 2 ∨ rK op = 3) ∧ (rN op = 1 ∨ rN op = 2 ∨ rN op = 4) := by
  have m : 48 ≤ op ∧ op ≤ 58 := by
    rcases Classical.em (48 ≤ op ∧ op ≤ 58) with m | m
    · exact m
    · exact absurd (by unfold rN; rw [if_neg (by omega), if_neg (by omega), if_neg (by omega)]) h
  rcases mem_ops m with rfl | rfl | rfl | rfl | rfl | rfl | rfl | rfl | rfl | rfl | rfl <;> decide
theorem want_any (s : Sta) (op : Int) (a b : Nat) (imm : Int) (w : World) (ok : s.Ok) (h0 : 0 ≤ op) (h1 : op < 256) (h2 : -2147483648 ≤ imm) (h3 : imm ≤ 2147483647) (hT : Tabs w) :
    Calls Tryz.prog 84 #[.agg s.v, .agg (insA op a b imm)] w fun e w' => e = .returned (.tuple #[.agg (accV (wantA s op a b imm)), .agg (fltV (wantF s op a b imm))]) ∧ Kep w w' := by
  cases e : wantOn op a b imm with
  | false => exact want_no s op a b imm w h0 h1 h2 h3 e hT
  | true =>
    have e' := e
    unfold wantOn at e'
    simp only [Bool.and_eq_true, bne_iff_ne, ne_eq] at e'
    obtain ⟨hk, hn⟩ := reach_cases op e'.1
    obtain ⟨ha, hb⟩ := may_reg op false a b imm e'.2
    exact want_core s op a b imm _ _ w ok h0 h1 (by omega) (by omega) h2 h3 hk hn e'.2 rfl rfl hT
end Go.Proofs.YtnignfloedcmlaaGreatDoor
