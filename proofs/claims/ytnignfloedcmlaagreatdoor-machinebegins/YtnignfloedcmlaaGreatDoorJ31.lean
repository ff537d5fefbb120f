/- Part of a proof. -/
import Derived.Handy
import Derived.Deep.Cut
import Derived.Deep.MidRow
import Derived.Deep.RegionWith
import Derived.Test.YtnignfloedcmlaaGreatDoorJ30
import Derived.Test.YtnignfloedcmlaaGreatDoorJ16
import Derived.Test.YtnignfloedcmlaaGreatDoorJ26
namespace Go.Proofs.YtnignfloedcmlaaGreatDoor
open Go.RowKit
set_option linter.unusedVariables false
set_option linter.unusedSimpArgs false
theorem may_eight (r : Nat) (hr : r < 10) (a b imm : Int) (hm : mayB r a b imm = true) : a ≤ 7 ∧ b ≤ 7 := by
  refine ten (p := fun r => mayB r a b imm = true → a ≤ 7 ∧ b ≤ 7) r hr ?_ ?_ ?_ ?_ ?_ ?_ ?_ ?_ ?_ ?_ hm
  all_goals
    intro h
    simp [mayB, formA, f0, f1, f2, f3, f4] at h
    try omega
theorem next9_ok {s : Sta} (ok : s.Ok) (op : Int) : (nextS s op).Ok := ok.go _ (by omega) (by omega)
theorem enter_any (k : Nat) (hk : k = 101 ∨ k = 102 ∨ k = 103 ∨ k = 104 ∨ k = 105 ∨ k = 106 ∨ k = 107 ∨ k = 108 ∨ k = 109) (args : Array Value) (w : World) :
    (callFunc k args).run Tryz.prog w = .ok (.enter k args) w := by
  rcases hk with rfl | rfl | rfl | rfl | rfl | rfl | rfl | rfl | rfl <;> kernel_rfl
theorem sdo_any (s : Sta) (op : Int) (a b : Nat) (imm n : Int) (w : World) (ok : s.Ok) (h0 : 0 ≤ op) (h1 : op < 256) (h2 : -2147483648 ≤ imm) (h3 : imm ≤ 2147483647) (hT : Tabs w) :
    Calls Tryz.prog 67 #[.agg s.v, .agg (insA op a b imm), .int .u32 n] w fun e w' => e = .returned (.tuple #[.agg (sdoS s op a b imm n).v, .agg (sdoE s op a b imm).v]) ∧ Kep w w' := by
  cases hm : mayB (rowOf op false) a b imm with
  | false =>
    have hi : isS op a b imm = false := by unfold isS; rw [hm]; rfl
    have eS : sdoS s op a b imm n = s := by unfold sdoS; rw [if_pos hi]
    have eE : sdoE s op a b imm = e0 1 := by unfold sdoE; rw [if_pos hi]
    rw [eS, eE]
    exact do_may s op a b imm n w ok h0 h1 h2 h3 hm hT
  | true =>
    cases hs : isSen op with
    | false =>
      have hi : isS op a b imm = false := by unfold isS; rw [hs, Bool.and_false]
      have eS : sdoS s op a b imm n = s := by unfold sdoS; rw [if_pos hi]
      have eE : sdoE s op a b imm = e0 1 := by unfold sdoE; rw [if_pos hi]
      rw [eS, eE]
      exact sdo_none s op a b imm n w ok h0 h1 h2 h3 hm hT hs
    | true =>
      have hi : ¬ isS op a b imm = false := by unfold isS; rw [hm, hs]; decide
      obtain ⟨ha, hb⟩ := may_eight (rowOf op false) (rowOf_lt op false) a b imm hm
      have ha' : a < 8 := by omega
      have hb' : b < 8 := by omega
      have okT := next9_ok ok op
      cases hu : usr s with
      | true =>
        have huT : usr (nextS s op) = true := hu
        cases hf : forb op with
        | true =>
          have eS : sdoS s op a b imm n = s := by unfold sdoS; rw [if_neg hi, if_pos (by rw [hu, hf]; rfl)]
          have eE : sdoE s op a b imm = e0 2 := by unfold sdoE; rw [if_neg hi, if_pos (by rw [hu, hf]; rfl)]
          rw [eS, eE]
          have hc : op = 1 ∨ op = 99 ∨ op = 100 ∨ op = 101 := by
            unfold forb at hf
            simp only [Bool.or_eq_true, beq_iff_eq] at hf
            omega
          rcases hc with rfl | rfl | rfl | rfl
          · exact do_gave s _ a b imm n w ok h0 h1 h2 h3 hm hT 101 rfl hs fun w p h => gave _ (enter_any _ (by simp)) (fun w h => halt_no okT h huT) h
          · exact do_gave s _ a b imm n w ok h0 h1 h2 h3 hm hT 107 rfl hs fun w p h => gave _ (enter_any _ (by simp)) (fun w h => writeControl_no okT h huT) h
          · exact do_gave s _ a b imm n w ok h0 h1 h2 h3 hm hT 108 rfl hs fun w p h => gave _ (enter_any _ (by simp)) (fun w h => takeIn_no okT h huT) h
          · exact do_gave s _ a b imm n w ok h0 h1 h2 h3 hm hT 109 rfl hs fun w p h => gave _ (enter_any _ (by simp)) (fun w h => sendOut_no okT h huT) h
        | false =>
          have eS : sdoS s op a b imm n = senS (nextS s op) op a b n := by unfold sdoS; rw [if_neg hi, if_neg (by rw [hu, hf]; decide)]
          have eE : sdoE s op a b imm = senE (nextS s op) op a b := by unfold sdoE; rw [if_neg hi, if_neg (by rw [hu, hf]; decide)]
          rw [eS, eE]
          have hc : op = 2 ∨ op = 3 ∨ op = 96 ∨ op = 97 ∨ op = 98 := by
            have := sen_cases hs
            unfold forb at hf
            simp only [Bool.or_eq_false_iff, beq_eq_false_iff_ne] at hf
            omega
          rcases hc with rfl | rfl | rfl | rfl | rfl
          · rw [show senS (nextS s 2) 2 a b n = nextS s 2 by simp [senS, huT], show senE (nextS s 2) 2 a b = e0 0 by simp [senE]]
            exact do_did s _ a b imm n w ok h0 h1 h2 h3 hm hT 102 rfl hs _ _ fun w p h => did _ (enter_any _ (by simp)) _ _ (fun w h => goBack_user okT h huT) h
          · rw [show senS (nextS s 3) 3 a b n = nextS s 3 by simp [senS], show senE (nextS s 3) 3 a b = { e0 0 with f := !usr (nextS s 3) } by simp [senE, e0]]
            exact do_did s _ a b imm n w ok h0 h1 h2 h3 hm hT 103 rfl hs _ _ fun w p h => did _ (enter_any _ (by simp)) _ _ (fun w h => flush_any okT h) h
          · rw [show senS (nextS s 96) 96 a b n = (nextS s 96).reg a (nextS s 96).ps by simp [senS], show senE (nextS s 96) 96 a b = e0 0 by simp [senE]]
            exact do_did s _ a b imm n w ok h0 h1 h2 h3 hm hT 104 rfl hs _ _ fun w p h => did _ (enter_any _ (by simp)) _ _ (fun w h => readStatus_any okT h ha') h
          · rw [show senS (nextS s 97) 97 a b n = (nextS s 97).mark (flgI (nextS s 97).ps ((nextS s 97).r a / 16 % 16 * 16)) by simp [senS, huT], show senE (nextS s 97) 97 a b = e0 0 by simp [senE]]
            exact do_did s _ a b imm n w ok h0 h1 h2 h3 hm hT 105 rfl hs _ _ fun w p h => did _ (enter_any _ (by simp)) _ _ (fun w h => writeStatus_user okT h ha' huT) h
          · rw [show senS (nextS s 98) 98 a b n = (nextS s 98).reg a 0 by simp [senS, huT], show senE (nextS s 98) 98 a b = e0 0 by simp [senE]]
            exact do_did s _ a b imm n w ok h0 h1 h2 h3 hm hT 106 rfl hs _ _ fun w p h => did _ (enter_any _ (by simp)) _ _ (fun w h => readControl_user okT h ha' huT) h
      | false =>
        have huT : usr (nextS s op) = false := hu
        have eS : sdoS s op a b imm n = senS (nextS s op) op a b n := by unfold sdoS; rw [if_neg hi, if_neg (by rw [hu]; simp)]
        have eE : sdoE s op a b imm = senE (nextS s op) op a b := by unfold sdoE; rw [if_neg hi, if_neg (by rw [hu]; simp)]
        rw [eS, eE]
        rcases sen_cases hs with rfl | rfl | rfl | rfl | rfl | rfl | rfl | rfl | rfl
        · rw [show senS (nextS s 1) 1 a b n = (nextS s 1).halt by simp [senS], show senE (nextS s 1) 1 a b = e0 0 by simp [senE]]
          exact do_did s _ a b imm n w ok h0 h1 h2 h3 hm hT 101 rfl hs _ _ fun w p h => did _ (enter_any _ (by simp)) _ _ (fun w h => halt_yes okT h huT) h
        · rw [show senS (nextS s 2) 2 a b n = ((nextS s 2).go ((nextS s 2).c 2)).mark (mskI ((nextS s 2).c 3)) by simp [senS, huT], show senE (nextS s 2) 2 a b = e0 0 by simp [senE]]
          exact do_did s _ a b imm n w ok h0 h1 h2 h3 hm hT 102 rfl hs _ _ fun w p h => did _ (enter_any _ (by simp)) _ _ (fun w h => goBack_sys okT h huT) h
        · rw [show senS (nextS s 3) 3 a b n = nextS s 3 by simp [senS], show senE (nextS s 3) 3 a b = { e0 0 with f := !usr (nextS s 3) } by simp [senE, e0]]
          exact do_did s _ a b imm n w ok h0 h1 h2 h3 hm hT 103 rfl hs _ _ fun w p h => did _ (enter_any _ (by simp)) _ _ (fun w h => flush_any okT h) h
        · rw [show senS (nextS s 96) 96 a b n = (nextS s 96).reg a (nextS s 96).ps by simp [senS], show senE (nextS s 96) 96 a b = e0 0 by simp [senE]]
          exact do_did s _ a b imm n w ok h0 h1 h2 h3 hm hT 104 rfl hs _ _ fun w p h => did _ (enter_any _ (by simp)) _ _ (fun w h => readStatus_any okT h ha') h
        · rw [show senS (nextS s 97) 97 a b n = (nextS s 97).mark (mskI ((nextS s 97).r a)) by simp [senS, huT], show senE (nextS s 97) 97 a b = e0 0 by simp [senE]]
          exact do_did s _ a b imm n w ok h0 h1 h2 h3 hm hT 105 rfl hs _ _ fun w p h => did _ (enter_any _ (by simp)) _ _ (fun w h => writeStatus_sys okT h ha' huT) h
        · rw [show senS (nextS s 98) 98 a b n = (nextS s 98).reg a ((nextS s 98).c b) by simp [senS, huT], show senE (nextS s 98) 98 a b = e0 0 by simp [senE]]
          exact do_did s _ a b imm n w ok h0 h1 h2 h3 hm hT 106 rfl hs _ _ fun w p h => did _ (enter_any _ (by simp)) _ _ (fun w h => readControl_sys okT h ha' hb' huT) h
        · rw [show senS (nextS s 99) 99 a b n = (nextS s 99).ctl b ((nextS s 99).r a) by simp [senS], show senE (nextS s 99) 99 a b = { e0 0 with f := ((b : Int) == 0) } by simp [senE, e0]]
          exact do_did s _ a b imm n w ok h0 h1 h2 h3 hm hT 107 rfl hs _ _ fun w p h => did _ (enter_any _ (by simp)) _ _ (fun w h => writeControl_yes okT h ha' hb' huT) h
        · rw [show senS (nextS s 100) 100 a b n = (nextS s 100).reg a n by simp [senS], show senE (nextS s 100) 100 a b = e0 0 by simp [senE]]
          exact do_did s _ a b imm n w ok h0 h1 h2 h3 hm hT 108 rfl hs _ _ fun w p h => did _ (enter_any _ (by simp)) _ _ (fun w h => takeIn_yes okT h ha' huT) h
        · rw [show senS (nextS s 101) 101 a b n = nextS s 101 by simp [senS], show senE (nextS s 101) 101 a b = { e0 0 with o := true, p := b, x := (nextS s 101).r a } by simp [senE, e0]]
          exact do_did s _ a b imm n w ok h0 h1 h2 h3 hm hT 109 rfl hs _ _ fun w p h => did _ (enter_any _ (by simp)) _ _ (fun w h => sendOut_yes okT h ha' hb' huT) h
def entS (s : Sta) (k x back : Int) : Sta := (((((s.ctl 2 back).ctl 3 s.ps).ctl 4 (k % 4294967296)).ctl 5 x).mark (lowI2 s.ps)).go (s.c 1)
theorem ent_ok {s : Sta} (ok : s.Ok) (k x back : Int) (hx : 0 ≤ x ∧ x < 4294967296) (hb : 0 ≤ back ∧ back < 4294967296) : (entS s k x back).Ok :=
  Sta.Ok.go (Sta.Ok.mark (Sta.Ok.ctl (Sta.Ok.ctl (Sta.Ok.ctl (Sta.Ok.ctl ok 2 back hb.1 hb.2) 3 _ ok.ps.1 ok.ps.2) 4 _ (by omega) (by omega)) 5 x hx.1 hx.2) _ (low2_range _ ok.ps).1 (low2_range _ ok.ps).2) _ (ok.c 1).1 (ok.c 1).2
set_option maxHeartbeats 2000000 in
theorem tog_any (b : Nat) (w : World) (c0 : w.cell? ⟨b, 0, none⟩ = some (.int .u32 1)) (c1 : w.cell? ⟨b, 1, none⟩ = some (.int .u32 2)) :
    Calls Tryz.prog 76 #[.slice (some ⟨b, 0, none⟩) 2 2] w fun e w' => e = .returned (.int .u32 3) ∧ Kep w w' := by
  go_enter Tryz.func76, Tryz.ntmps76
  go_wp2
  go_rounds 3
  go_ret
  exact ⟨rfl, kepA⟩
def crV (c : Nat → Int) : Array Value := #[.int .u32 (c 0), .int .u32 (c 1), .int .u32 (c 2), .int .u32 (c 3), .int .u32 (c 4), .int .u32 (c 5), .int .u32 (c 6), .int .u32 (c 7)]
def At8 (w : World) (p : Nat) (c : Nat → Int) : Prop := w.heap[p]? = some (.cells (crV c) 24 (0, 0))
theorem cr_one (c : Nat → Int) : (crV c).all (·.oneCell') = true := by simp [crV, Value.oneCell']
theorem size_cr : (Tryz.prog.info? 24).map (·.size) = some 8 := by kernel_rfl
theorem At8.set {w : World} {p : Nat} {c : Nat → Int} (h : At8 w p c) (b : Nat) (hb : b < 8) (x : Int) : At8 (w.setCell ⟨p, b, none⟩ (.int .u32 x)) p (up c b x) := by
  unfold At8; rw [heap_setCell_row h, eight (p := fun b => (crV c).setIfInBounds b (.int .u32 x) = crV (up c b x)) ⟨rfl, rfl, rfl, rfl, rfl, rfl, rfl, rfl⟩ b hb]
theorem At8.cell {w : World} {p : Nat} {c : Nat → Int} (h : At8 w p c) (b : Nat) (hb : b < 8) : w.cell? ⟨p, b, none⟩ = some (.int .u32 (c b)) :=
  (cell_of_block h).trans (eight (p := fun b => (crV c)[b]? = some (.int .u32 (c b))) ⟨rfl, rfl, rfl, rfl, rfl, rfl, rfl, rfl⟩ b hb)
theorem At.range {w : World} {p : Nat} {s : Sta} (h : At w p s) : w.rangeAt p 10 (crV s.c).toList := fun j v hv => by
  have hj : j < 8 := (List.getElem?_eq_some_iff.1 hv).1
  have e : (crV s.c).toList[j]? = some (.int .u32 (s.c j)) := eight (p := fun b => (crV s.c).toList[b]? = some (.int .u32 (s.c b))) ⟨rfl, rfl, rfl, rfl, rfl, rfl, rfl, rfl⟩ j hj
  rw [e] at hv
  rw [h.ctl j hj]; exact hv
def kepC (s : Sta) (k x back : Int) : Nat → Int := up (up (up (up s.c 2 back) 3 s.ps) 4 (k % 4294967296)) 5 x
theorem flt_at {w : World} {b : Nat} {k x : Int} (h : w.heap[b]? = some (.cells #[.int .i64 k, .int .u32 x] 100 (0, 0))) : w.cell? ⟨b, 0, none⟩ = some (.int .i64 k) ∧ w.cell? ⟨b, 1, none⟩ = some (.int .u32 x) := ⟨cell_of_block h, cell_of_block h⟩
theorem load_cr {ops : Array Oper} {rest : List Oper} {op : Oper} {a : Act} {w : World} {Q : Exit → Act → World → Prop} (hgd : op.guard = none) (x : Operand) (ho : op.op = .load 24 x)
    (b o : Nat) (hx : a.eval x = .pointer (some ⟨b, o, none⟩)) (c : Nat → Int) (hc : w.rangeAt b o (crV c).toList)
    (h : wpList Tryz.prog ops Q rest (a.put op.dst (.agg (crV c))) w) : wpList Tryz.prog ops Q (op :: rest) a w :=
  wpList_load_mid hgd 24 x ho b o hx (crV c).toList _ hc Tryz.underlying24 rfl size_cr h
set_option maxHeartbeats 4000000 in
set_option maxRecDepth 100000 in
theorem saved_any (s : Sta) (k x back : Int) (w : World) :
    Calls Tryz.prog 75 #[.agg s.v, .agg #[.int .i64 k, .int .u32 x], .int .u32 back] w fun e w' => e = .returned (.agg (crV (kepC s k x back))) ∧ Kep w w' := by
  obtain ⟨R, hR⟩ : ∃ R, Hid (R = crV (kepC s k x back)) := ⟨_, rfl⟩
  rw [← hR.out]
  go_enter Tryz.func75, Tryz.ntmps75
  go_upto_region 1 with fail
  generalize hW : World.alloc (World.alloc (World.alloc w _) _) _ = W
  have AW : Hid (At W w.heap.size s) := by rw [← hW]; unfold Hid At; exact blkA
  have FW : Hid (W.heap[w.heap.size + 1]? = some (.cells #[.int .i64 k, .int .u32 x] 100 (0, 0))) := by rw [← hW]; unfold Hid; exact blkA
  have ZW : Hid (W.heap[w.heap.size + 1 + 1]? = some (.cells #[.int .u32 0, .int .u32 0, .int .u32 0, .int .u32 0, .int .u32 0, .int .u32 0, .int .u32 0, .int .u32 0] 24 (0, 0))) := by rw [← hW]; exact hat _ _ _ (by simp)
  have GW : Hid (Kep w W) := by rw [← hW]; show Kep _ _; exact kepA
  have lW := block_lt ZW.out
  clear hW
  go_upto_region 2 with (first
    | (refine load_cr (by rfl) _ (by rfl) w.heap.size 10 (by rfl) s.c AW.out.range ?_)
    | (refine wpList_store_row (by rfl) 24 _ _ (by rfl) _ _ (by rfl) (by rfl) 24 #[.int .u32 0, .int .u32 0, .int .u32 0, .int .u32 0, .int .u32 0, .int .u32 0, .int .u32 0, .int .u32 0] blkA (by exact size_cr) (by rfl) (cr_one _) ?_))
  dsimp only [Act.put]
  generalize hV : World.setRow (World.alloc W _) _ _ = V
  have C0 : At8 V W.heap.size s.c := by rw [← hV]; unfold At8; exact blkA
  have C2 := C0.set 2 (by decide) back
  have C3 := C2.set 3 (by decide) s.ps
  have C4 := C3.set 4 (by decide) (k % 4294967296)
  have C5 : Hid (At8 ((((V.setCell ⟨W.heap.size, 2, none⟩ (.int .u32 back)).setCell ⟨W.heap.size, 3, none⟩ (.int .u32 s.ps)).setCell ⟨W.heap.size, 4, none⟩ (.int .u32 (k % 4294967296))).setCell ⟨W.heap.size, 5, none⟩ (.int .u32 x)) W.heap.size (kepC s k x back)) := C4.set 5 (by decide) x
  have AV : At V w.heap.size s := by rw [← hV]; have := AW.out; unfold At at *; exact blkA
  have FV : V.heap[w.heap.size + 1]? = some (.cells #[.int .i64 k, .int .u32 x] 100 (0, 0)) := by rw [← hV]; exact blkA
  have ZV : V.heap[w.heap.size + 1 + 1]? = some (.cells #[.int .u32 0, .int .u32 0, .int .u32 0, .int .u32 0, .int .u32 0, .int .u32 0, .int .u32 0, .int .u32 0] 24 (0, 0)) := by rw [← hV]; exact blkA
  have GV : Hid (Kep w V) := kep_trans GW.out (by rw [← hV]; exact kepA)
  have lV := block_lt C0
  have k2 := C0.cell 2 (by decide)
  have k3 := C0.cell 3 (by decide)
  have k4 := C0.cell 4 (by decide)
  have k5 := C0.cell 5 (by decide)
  have zf := fun j => row_frozen C0 j
  have p9 := AV.ps
  obtain ⟨f0, f1⟩ := flt_at FV
  have ZV' : Hid (V.heap[w.heap.size + 1 + 1]? = some (.cells #[.int .u32 0, .int .u32 0, .int .u32 0, .int .u32 0, .int .u32 0, .int .u32 0, .int .u32 0, .int .u32 0] 24 (0, 0))) := ZV
  clear hV C0 C2 C3 C4 AW FW ZW GW AV FV ZV
  go_upto_region 6 with fail
  generalize hU : World.setCell (World.setCell (World.setCell (World.setCell V _ _) _ _) _ _) _ _ = U
  have U0 : Hid (U.heap[W.heap.size]? = some (.cells (crV (kepC s k x back)) 24 (0, 0))) := by rw [← hU]; exact C5.out
  have U1 : Hid (U.heap[w.heap.size + 1 + 1]? = some (.cells #[.int .u32 0, .int .u32 0, .int .u32 0, .int .u32 0, .int .u32 0, .int .u32 0, .int .u32 0, .int .u32 0] 24 (0, 0))) := by rw [← hU]; unfold Hid; exact blkA
  have GU : Hid (Kep w U) := by rw [← hU]; show Kep _ _; exact kepA
  rw [← hR.out] at U0
  have hs : Hid (R.size = 8) := by rw [hR.out]; rfl
  have h1 : Hid (R.all (·.oneCell') = true) := by rw [hR.out]; exact cr_one _
  clear hU C5 k2 k3 k4 k5 zf p9 f0 f1 ZV' GV
  go_wp2_with (first
    | (refine wpList_load_row (by rfl) 24 _ (by rfl) W.heap.size (by rfl) 24 R (0, 0) _ U0.out Tryz.underlying24 rfl (by rw [hs.out]; exact size_cr) ?_)
    | (refine wpList_store_row (by rfl) 24 _ _ (by rfl) _ _ (by rfl) (by rfl) 24 #[.int .u32 0, .int .u32 0, .int .u32 0, .int .u32 0, .int .u32 0, .int .u32 0, .int .u32 0, .int .u32 0] U1.out (by rw [hs.out]; exact size_cr) (by rw [hs.out]; rfl) h1.out ?_))
  have U2 : (U.setRow (w.heap.size + 1 + 1) R).heap[w.heap.size + 1 + 1]? = some (.cells R 24 (0, 0)) := setRow_heap _ _ _ _ _ _ U1.out
  refine bodyPost_ret (results1 rfl _ _ (w.heap.size + 1 + 1) 24 R (0, 0) _ (by rfl) U2 Tryz.underlying24 rfl (by rw [hs.out]; exact size_cr)) rfl ?_
  exact ⟨rfl, GU.out.setRow _ _ (by omega)⟩
set_option maxHeartbeats 4000000 in
set_option maxRecDepth 100000 in
theorem back_other (s : Sta) (k x : Int) (w : World) (h : (k == 8) = false) :
    Calls Tryz.prog 88 #[.agg s.v, .agg #[.int .i64 k, .int .u32 x]] w fun e w' => e = .returned (.int .u32 s.pc) ∧ Kep w w' := by
  go_enter Tryz.func88, Tryz.ntmps88
  go_upto_region 1 with fail
  generalize hW : World.alloc (World.alloc w _) _ = W
  have AW : At W w.heap.size s := by rw [← hW]; unfold At; exact blkA
  have FW : W.heap[w.heap.size + 1]? = some (.cells #[.int .i64 k, .int .u32 x] 100 (0, 0)) := by rw [← hW]; exact blkA
  have GW : Hid (Kep w W) := by rw [← hW]; show Kep _ _; exact kepA
  obtain ⟨f0, f1⟩ := flt_at FW
  have p8 := AW.pc
  clear hW FW AW
  go_wp2_with fail
  go_ret
  exact ⟨rfl, GW.out⟩
set_option maxHeartbeats 4000000 in
set_option maxRecDepth 100000 in
theorem back_asked (s : Sta) (x : Int) (w : World) (ok : s.Ok) (hT : Tabs w) :
    Calls Tryz.prog 88 #[.agg s.v, .agg #[.int .i64 8, .int .u32 x]] w fun e w' => e = .returned (.int .u32 ((s.pc + 2) % 4294967296)) ∧ Kep w w' := by
  have SZ : Hid (∀ w, Tabs w → Calls Tryz.prog 78 #[.int .u8 80, .bool false] w fun e w' => e = .returned (.int .i64 2) ∧ Kep w w') := fun w hT => by
    have := bytes_any 80 false w (by decide) (by decide) hT
    rw [show sz (rowOf 80 false) = 2 by decide] at this; exact this
  have hT' : Hid (Tabs w) := hT
  obtain ⟨q0, q1⟩ := ok.pc
  clear hT ok
  go_enter Tryz.func88, Tryz.ntmps88
  go_upto_region 1 with fail
  generalize hW : World.alloc (World.alloc w _) _ = W
  have AW : At W w.heap.size s := by rw [← hW]; unfold At; exact blkA
  have FW : W.heap[w.heap.size + 1]? = some (.cells #[.int .i64 8, .int .u32 x] 100 (0, 0)) := by rw [← hW]; exact blkA
  have GW : Hid (Kep w W) := by rw [← hW]; show Kep _ _; exact kepA
  obtain ⟨f0, f1⟩ := flt_at FW
  have p8 := AW.pc
  have AW' : Hid (At W w.heap.size s) := AW
  clear hW FW AW
  go_upto_region 2 with fail
  have hne : Nonempty (KW W) := ⟨⟨W, Kep.refl _⟩⟩
  have k8 := KW.cell p8
  clear f0 f1
  refine region_kw (by kernel_rfl) (by kernel_rfl) ?_
  repeat (go_big_quiet_step ((go_at_call 78; refine (SZ.out _ (hT'.out.grown (kep_trans GW.out (KW.ok _)))).mono ?_; rintro e w6 ⟨rfl, g6⟩; exact ⟨rfl, ⟨_, kep_trans (KW.ok _) g6⟩, rfl⟩)))
  refine wpQuiet_nil ?_
  rintro _ ⟨i, rfl⟩
  have G3 : Hid (Kep w i.val) := kep_trans GW.out i.ok
  go_wp2_with fail
  go_ret
  exact ⟨ret_int (by simp), G3.out⟩
theorem back_any (s : Sta) (k x : Int) (w : World) (ok : s.Ok) (hT : Tabs w) :
    Calls Tryz.prog 88 #[.agg s.v, .agg #[.int .i64 k, .int .u32 x]] w fun e w' => e = .returned (.int .u32 (backI s.pc k)) ∧ Kep w w' := by
  unfold backI
  by_cases h : k = 8
  · subst h; rw [if_pos rfl]; exact back_asked s x w ok hT
  · rw [if_neg h]; exact back_other s k x w (ne_lit h)
abbrev Nt := Int × Int × Int × Int
def ntV (e : Nt) : List Value := [.int .i64 e.1, .int .i64 e.2.1, .int .u32 e.2.2.1, .int .u32 e.2.2.2]
def nts (N : List Nt) : List Value := N.flatMap ntV
structure MS where
  d : DS
  B : List Int
  s : Sta
  n : Int
  N : List Nt
def rdB (B : List Int) (ix : List Nat) (q : Nat) : Int := if q < 64 * ix.length then B.getD (pos ix q) 0 else 0
def ledF (B : List Int) (ix : List Nat) (s : Sta) (a kind : Int) : Option Nat := toF (wdF B ix) (64 * ix.length) (s.c 0).toNat 16 s.ps.toNat a.toNat kind
def plc (s : Sta) (k : Nat) : Int := (s.pc + k) % 4294967296
def bytF (B : List Int) (ix : List Nat) (s : Sta) (k : Nat) : Option Int := (ledF B ix s (plc s k) 1).map (rdB B ix)
def zsF (B : List Int) (ix : List Nat) (s : Sta) (n : Nat) : List Int := (List.range n).map fun k => (bytF B ix s k).getD 0
def badF (B : List Int) (ix : List Nat) (s : Sta) (n : Nat) : Option Nat := (List.range n).find? fun k => (bytF B ix s k).isNone
def fetR (B : List Int) (ix : List Nat) (s : Sta) : Nat := rowOf ((bytF B ix s 0).getD 0) false
def fetN (B : List Int) (ix : List Nat) (s : Sta) : Nat := (sz (fetR B ix s)).toNat
def fetZ (B : List Int) (ix : List Nat) (s : Sta) : List Int := zsF B ix s (fetN B ix s)
def fetF (B : List Int) (ix : List Nat) (s : Sta) : Int × Int :=
  if (bytF B ix s 0).isNone then (5, s.pc) else if fetR B ix s = 0 then (1, s.pc) else
  match badF B ix s (fetN B ix s) with
  | some k => (5, plc s k)
  | none => if okD (fetR B ix s) (fetZ B ix s) (fetN B ix s) then (0, 0) else (1, s.pc)
def fetO (B : List Int) (ix : List Nat) (s : Sta) : Int := zat (fetZ B ix s) 0
def fetA (B : List Int) (ix : List Nat) (s : Sta) : Nat := (aOf (fetR B ix s) (fetZ B ix s)).toNat
def fetB (B : List Int) (ix : List Nat) (s : Sta) : Nat := (bOf (fetR B ix s) (fetZ B ix s)).toNat
def fetM (B : List Int) (ix : List Nat) (s : Sta) : Int := immOf (fetR B ix s) (fetZ B ix s)
def rdV (B : List Int) (ix : List Nat) (q : Nat) : Nat → Int
  | 0 => 0
  | k + 1 => rdV B ix q k + rdB B ix (q + k) * 2 ^ (8 * k)
def wrM (B : List Int) (ix : List Nat) (q : Nat) (v : Int) : Nat → List Int
  | 0 => B
  | k + 1 => if q + k < 64 * ix.length then (wrM B ix q v k).set (pos ix (q + k)) (v / 2 ^ (8 * k) % 256) else wrM B ix q v k
def soiW (B : List Int) (ix : List Nat) : Option Wy → List Int
  | some y => soilL B ix y.entry
  | none => B
def soiM (B : List Int) (ix : List Nat) (s : Sta) (a : Int) : List Int :=
  if s.ps.toNat / 4 % 2 = 1 then soiW B ix (lookF (wdF B ix) (64 * ix.length) (s.c 0).toNat 16 a.toNat) else B
inductive Fin where
  | fail (k a : Int)
  | ok (t : Sta) (q : Int × Int × Int × Int) (at_ : Nat) (rd wr : Bool) (port value : Int)
def rchF (B : List Int) (ix : List Nat) (s : Sta) (q : Int × Int × Int × Int) : Option Nat := if q.2.2.1 = 0 then some 0 else ledF B ix s q.2.1 q.1
def plnF (B : List Int) (ix : List Nat) (s : Sta) (op : Int) (a b : Nat) (imm : Int) : Fin :=
  if (wantF s op a b imm).1 ≠ 0 then .fail (wantF s op a b imm).1 (wantF s op a b imm).2 else
  match rchF B ix s (wantA s op a b imm) with
  | none => .fail (if (wantA s op a b imm).1 = 3 then 7 else 6) (wantA s op a b imm).2.1
  | some at_ => if (doF s op a b imm).1 ≠ 0 then .fail (doF s op a b imm).1 (doF s op a b imm).2 else
    .ok (doS s op a b imm (rdV B ix at_ (wantA s op a b imm).2.2.1.toNat)) (wantA s op a b imm) at_ false false 0 0
def insF (d : DS) (B : List Int) (ix : List Nat) (s : Sta) (op : Int) (a b : Nat) (imm : Int) : Fin :=
  if (sdoE s op a b imm).k = 0 then .ok (sdoS s op a b imm (inI d b)) (0, 0, 0, 0) 0 (op == 100) (sdoE s op a b imm).o b (sdoE s op a b imm).x else
  if (sdoE s op a b imm).k = 1 then plnF B ix s op a b imm else .fail (sdoE s op a b imm).k 0
def tryF (d : DS) (B : List Int) (ix : List Nat) (s : Sta) : Fin :=
  if (fetF B ix s).1 ≠ 0 then .fail (fetF B ix s).1 (fetF B ix s).2 else insF d B ix s (fetO B ix s) (fetA B ix s) (fetB B ix s) (fetM B ix s)
def dlvX (x : MS) (k a back : Int) : MS := ⟨x.d, x.B, entS x.s k a back, x.n + 1, x.N ++ [(x.n, k, back, a)]⟩
def finB (x : MS) (ix : List Nat) (q : Int × Int × Int × Int) (at_ : Nat) : List Int := if q.1 = 3 then wrM (soiM x.B ix x.s q.2.1) ix at_ q.2.2.2 q.2.2.1.toNat else x.B
def finD (d : DS) (rd wr : Bool) (port value : Int) : DS := match wr with | true => writeS (match rd with | true => readS d port | false => d) port value | false => (match rd with | true => readS d port | false => d)
def endX (x : MS) (ix : List Nat) : Fin → MS
  | .fail k a => dlvX x k a (backI x.s.pc k)
  | .ok t q at_ rd wr port value => ⟨finD x.d rd wr port value, finB x ix q at_, t, x.n + 1, x.N⟩
def Fin.flt : Fin → Int × Int
  | .fail k a => (k, a)
  | .ok .. => (0, 0)
def oneF (x : MS) (ix : List Nat) : Fin := tryF x.d x.B ix x.s
def oneX (x : MS) (ix : List Nat) : MS := if x.s.h then x else endX x ix (oneF x ix)
def oneV (x : MS) (ix : List Nat) : Int × Int := if x.s.h then (0, 0) else (oneF x ix).flt
def comX (x : MS) (ix : List Nat) : MS := ⟨(comeC x.n ix ⟨x.d, x.B, [], []⟩).s, (comeC x.n ix ⟨x.d, x.B, [], []⟩).B, x.s, x.n, x.N⟩
def tkI (x : MS) : Int := wantsI x.s.ps (clrI x.d.b x.d.m)
def takX (x : MS) : MS := if x.s.h then x else if tkI x = 0 then x else dlvX ⟨takenS x.d (tkI x), x.B, x.s, x.n, x.N⟩ (tkI x) 0 x.s.pc
def takB (x : MS) : Bool := !x.s.h && !(tkI x == 0)
def stpX (x : MS) (ix : List Nat) : MS := if x.s.h then x else if tkI (comX x ix) = 0 then oneX (comX x ix) ix else takX (comX x ix)
def runX (ix : List Nat) : Nat → MS → MS
  | 0, x => x
  | n + 1, x => runX ix n (stpX x ix)
def runN (ix : List Nat) : Nat → MS → Nat
  | 0, x => 0
  | n + 1, x => if x.s.h then 0 else runN ix n (stpX x ix) + 1
end Go.Proofs.YtnignfloedcmlaaGreatDoor
