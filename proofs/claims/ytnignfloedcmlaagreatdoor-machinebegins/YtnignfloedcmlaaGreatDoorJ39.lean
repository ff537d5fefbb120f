/- Part of a proof. -/
import Derived.DeepKeys
import Derived.Deep.RegionWith
import Derived.Deep.DeepCutAuto
import Derived.Test.YtnignfloedcmlaaGreatDoorJ31
namespace Go.Proofs.YtnignfloedcmlaaGreatDoor
open Go.RowKit
set_option linter.unusedVariables false
set_option linter.unusedSimpArgs false
theorem wf_u32 (x : Int) (h : 0 ≤ x ∧ x < 4294967296) : (Lit.int .u32 x).wf = true := by
  have h1 : IntKind.u32.min = 0 := by decide
  have h2 : IntKind.u32.max = 4294967295 := by decide
  show (decide (IntKind.u32.min ≤ x) && decide (x ≤ IntKind.u32.max)) = true
  rw [h1, h2, decide_eq_true h.1, decide_eq_true (show x ≤ 4294967295 by omega)]; rfl
def crL (c : Nat → Int) : List Lit := [.int .u32 (c 0), .int .u32 (c 1), .int .u32 (c 2), .int .u32 (c 3), .int .u32 (c 4), .int .u32 (c 5), .int .u32 (c 6), .int .u32 (c 7)]
set_option maxHeartbeats 1600000 in
set_option maxRecDepth 100000 in
theorem cr_key (c : Nat → Int) (ok : ∀ n, 0 ≤ c n ∧ c n < 4294967296) : Tryz.prog.keyLits 2 24 (Value.agg (crV c)).cells.toList = some (crL c) := by
  have cA : Tryz.prog.cellsOf 24 = 8 := by kernel_rfl
  have cU : Tryz.prog.cellsOf 23 = 1 := by kernel_rfl
  have w0 := wf_u32 _ (ok 0)
  have w1 := wf_u32 _ (ok 1)
  have w2 := wf_u32 _ (ok 2)
  have w3 := wf_u32 _ (ok 3)
  have w4 := wf_u32 _ (ok 4)
  have w5 := wf_u32 _ (ok 5)
  have w6 := wf_u32 _ (ok 6)
  have w7 := wf_u32 _ (ok 7)
  simp [Program.keyLits, Tryz.underlying24, Tryz.underlying23, Value.cells, cA, cU, crV, crL, show List.range 8 = [0, 1, 2, 3, 4, 5, 6, 7] from rfl, w0, w1, w2, w3, w4, w5, w6, w7]
  try rfl
theorem cr_cmp (a c : Nat → Int) (ha : ∀ n, 0 ≤ a n ∧ a n < 4294967296) (hc : ∀ n, 0 ≤ c n ∧ c n < 4294967296) :
    ∃ r : Bool, (∀ w, (Op.equalIn 10000 24 (.agg (crV a)) (.agg (crV c))).run Tryz.prog w = .ok r w) ∧ (r = true → crL a = crL c) := by
  by_cases h : crL a = crL c
  · refine ⟨true, fun w => ?_, fun _ => h⟩
    obtain ⟨r, hr, hiff⟩ := run_equalIn_deep (P := Tryz.prog) 9998 2 24 (by kernel_rfl) w 2 2 (.agg (crV a)) (.agg (crV c)) _ _ (by kernel_rfl) (by kernel_rfl) (cr_key a ha) (cr_key c hc)
    have : r = true := hiff.2 h
    rw [this] at hr; exact hr
  · refine ⟨false, fun w => ?_, fun h => by cases h⟩
    obtain ⟨r, hr, hiff⟩ := run_equalIn_deep (P := Tryz.prog) 9998 2 24 (by kernel_rfl) w 2 2 (.agg (crV a)) (.agg (crV c)) _ _ (by kernel_rfl) (by kernel_rfl) (cr_key a ha) (cr_key c hc)
    cases r with
    | false => exact hr
    | true => exact absurd (hiff.1 rfl) h
def Sta.all (s : Sta) (c : Nat → Int) : Sta := { s with c := c }
theorem all_same (s : Sta) (a : Nat → Int) (h : crL a = crL s.c) : s.v = (s.all a).v := by
  simp only [crL, List.cons.injEq, Lit.int.injEq, true_and, and_true] at h
  obtain ⟨h0, h1, h2, h3, h4, h5, h6, h7⟩ := h
  unfold Sta.v
  show #[_, _, _, _, _, _, _, _, _, _, Value.int .u32 (s.c 0), Value.int .u32 (s.c 1), Value.int .u32 (s.c 2), Value.int .u32 (s.c 3), Value.int .u32 (s.c 4), Value.int .u32 (s.c 5), Value.int .u32 (s.c 6), Value.int .u32 (s.c 7), _] = #[_, _, _, _, _, _, _, _, _, _, Value.int .u32 (a 0), Value.int .u32 (a 1), Value.int .u32 (a 2), Value.int .u32 (a 3), Value.int .u32 (a 4), Value.int .u32 (a 5), Value.int .u32 (a 6), Value.int .u32 (a 7), _]
  rw [h0, h1, h2, h3, h4, h5, h6, h7]
  rfl
theorem At.there {w : World} {p : Nat} {s : Sta} (h : At w p s) : w.there p 10 8 := fun j hj => by
  refine ⟨?_, row_frozen h _⟩
  rw [h.ctl j hj]; rfl
theorem At.setAll {w : World} {p : Nat} {s : Sta} (h : At w p s) (a : Nat → Int) : At (w.setCells p 10 (crV a).toList) p (s.all a) := by
  have h' : w.heap[p]? = some (.cells s.v.toList.toArray 26 (0, 0)) := h
  exact heap_setCells_row (crV a).toList 10 w s.v.toList h' (by show 10 + 8 ≤ 19; decide)
set_option maxHeartbeats 4000000 in
set_option maxRecDepth 100000 in
theorem enter_same (s : Sta) (k x back : Int) (c : Nat → Int) (w : World) (ok : s.Ok) (hc : Hid (c = kepC s k x back)) (hcmp : ∀ w, (Op.equalIn 10000 24 (.agg (crV c)) (.agg (crV s.c))).run Tryz.prog w = .ok true w) (hsame : Hid (crL c = crL s.c)) :
    Calls Tryz.prog 65 #[.agg s.v, .agg #[.int .i64 k, .int .u32 x], .int .u32 back] w fun e w' => e = .returned (.agg (entS s k x back).v) ∧ Kep w w' := by
  have SV : Hid (∀ w, Calls Tryz.prog 75 #[.agg s.v, .agg #[.int .i64 k, .int .u32 x], .int .u32 back] w fun e w' => e = .returned (.agg (crV c)) ∧ Kep w w') := fun w => by rw [hc.out]; exact saved_any s k x back w
  have TG : Hid (∀ b w, w.cell? ⟨b, 0, none⟩ = some (.int .u32 1) → w.cell? ⟨b, 1, none⟩ = some (.int .u32 2) → Calls Tryz.prog 76 #[.slice (some ⟨b, 0, none⟩) 2 2] w fun e w' => e = .returned (.int .u32 3) ∧ Kep w w') := fun b w => tog_any b w
  have hlow := low2_is s.ps ok.ps
  have hcr1 : Hid (c 1 = s.c 1) := by rw [hc.out]; rfl
  obtain ⟨R, hR⟩ : ∃ R, Hid (R = entS s k x back) := ⟨_, rfl⟩
  rw [← hR.out]
  clear ok
  go_enter Tryz.func65, Tryz.ntmps65
  go_upto_region 1 with fail
  generalize hW : World.alloc (World.alloc (World.alloc w _) _) _ = W
  have AW : Hid (W.heap[w.heap.size]? = some (.cells s.v 26 (0, 0))) := by rw [← hW]; unfold Hid; exact blkA
  have FW : W.heap[w.heap.size + 1]? = some (.cells #[.int .i64 k, .int .u32 x] 100 (0, 0)) := by rw [← hW]; exact blkA
  have ZW : Hid (W.heap[w.heap.size + 1 + 1]? = some (.cells z19 26 (0, 0))) := by rw [← hW]; exact hat _ _ _ (by simp)
  have GW : Hid (Kep w W) := by rw [← hW]; show Kep _ _; exact kepA
  have lW := block_lt ZW.out
  obtain ⟨f0, f1⟩ := flt_at FW
  clear hW FW
  go_wp2_with (refine wpList_load_row (by rfl) 26 _ (by rfl) _ (by rfl) 26 _ (0, 0) _ blkA Tryz.underlying26 rfl (by exact size_sta) ?_)
  refine (SV.out _).mono ?_
  rintro e w1 ⟨rfl, K1⟩
  have A1 : Hid (w1.heap[w.heap.size]? = some (.cells s.v 26 (0, 0))) := K1.block AW.out
  have Z1 : Hid (w1.heap[w.heap.size + 1 + 1]? = some (.cells z19 26 (0, 0))) := K1.block ZW.out
  have G1 : Hid (Kep w w1) := kep_trans GW.out K1
  have l1 := block_lt Z1.out
  clear K1 f0 f1 AW ZW GW
  go_upto_region 2 with (refine wpList_store_row (by rfl) 24 _ _ (by rfl) _ _ (by rfl) (by rfl) 24 #[.int .u32 0, .int .u32 0, .int .u32 0, .int .u32 0, .int .u32 0, .int .u32 0, .int .u32 0, .int .u32 0] blkA (by exact size_cr) (by rfl) (cr_one _) ?_)
  dsimp only [Act.put]
  generalize hV : World.setRow (World.alloc w1 _) _ _ = V
  have AV : Hid (At V w.heap.size s) := by rw [← hV]; unfold Hid At; exact blkA
  have ZV : Hid (V.heap[w.heap.size + 1 + 1]? = some (.cells z19 26 (0, 0))) := by rw [← hV]; unfold Hid; exact blkA
  have KV : Hid (V.heap[w1.heap.size]? = some (.cells (crV c) 24 (0, 0))) := by rw [← hV]; unfold Hid; exact blkA
  have GV : Hid (Kep w V) := kep_trans G1.out (by rw [← hV]; exact kepA)
  clear hV A1 Z1 G1
  go_upto_region 4 with (first | (refine wpList_load_row (by rfl) 24 _ (by rfl) w1.heap.size (by rfl) 24 (crV c) (0, 0) _ KV.out Tryz.underlying24 rfl (by exact size_cr) ?_) | (refine load_cr (by rfl) _ (by rfl) w.heap.size 10 (by rfl) s.c AV.out.range ?_))
  have A4 : Hid (At V w.heap.size (s.all c)) := by have := AV.out; unfold At at *; rw [← all_same s c hsame.out]; exact this
  have Z4 : Hid (V.heap[w.heap.size + 1 + 1]? = some (.cells z19 26 (0, 0))) := ZV.out
  have G4 : Hid (Kep w V) := GV.out
  clear AV ZV KV GV hcmp
  have p9 : V.cell? ⟨w.heap.size, 9, none⟩ = some (.int .u32 s.ps) := A4.out.ps
  have zf := fun j => row_frozen A4.out j
  go_cut [3, 6] (fun t3 t6 wx => t3 = .pointer (some ⟨w.heap.size, 0, none⟩) ∧ t6 = .pointer (some ⟨w.heap.size + 1 + 1, 0, none⟩) ∧ At wx w.heap.size ((s.all c).mark (lowI2 s.ps)) ∧ Put [w.heap.size] V wx)
  case first =>
    have hV : w.heap.size < V.heap.size := A4.out.lt
    go_region_with ((go_at_call 76; refine (TG.out _ _ (by simp) (by simp)).mono ?_; rintro e w2 ⟨rfl, K2⟩; have Kb : Kep V w2 := kep_trans kepA K2; have c9 : w2.cell? ⟨w.heap.size, 9, none⟩ = some (.int .u32 s.ps) := (At.kep A4.out Kb).ps; have fa := row_frozen (At.kep A4.out Kb); have Kc : Hid (Kep V w2) := Kb; clear K2 Kb))
    all_goals
      go_wp2_with fail
      go_meet
      have A1 := At.kep A4.out Kc.out
      refine ⟨rfl, rfl, ?_, ?_⟩
      · have A2 := A1.setPs (lowI2 s.ps)
        first | exact A2 | exact A2.drew | (simpa using A2)
      · have P1 : Put [w.heap.size] V _ := Put.of_kep Kc.out
        exact putA
  case rest =>
    obtain ⟨rfl, rfl, A9, P9⟩ := hcut
    have Z9 : Hid (wc.heap[w.heap.size + 1 + 1]? = some (.cells z19 26 (0, 0))) := P9.keeps Z4.out (by simp; omega)
    have G9 : Hid (Kep w wc) := G4.out.put P9 (by simp)
    have c11 : wc.cell? ⟨w.heap.size, 11, none⟩ = some (.int .u32 (s.c 1)) := by have := A9.ctl 1 (by decide); rw [← hcr1.out]; exact this
    have c8 : wc.cell? ⟨w.heap.size, 8, none⟩ = some (.int .u32 s.pc) := A9.pc
    have z9 := fun j => row_frozen A9 j
    have A10 : Hid (At (wc.setCell ⟨w.heap.size, 8, none⟩ (.int .u32 (s.c 1))) w.heap.size R) := by
      rw [hR.out]; have := A9.setPc (s.c 1); rw [hc.out] at this; exact this
    clear A9 P9 Z4 G4 A4 p9 zf
    go_upto_region 6 with fail
    generalize hU : World.setCell wc _ _ = U
    have U0 : Hid (U.heap[w.heap.size]? = some (.cells R.v 26 (0, 0))) := by rw [← hU]; exact A10.out
    have U1 : Hid (U.heap[w.heap.size + 1 + 1]? = some (.cells z19 26 (0, 0))) := by rw [← hU]; unfold Hid; exact blkA
    have GU : Hid (Kep w U) := by rw [← hU]; show Kep _ _; exact kepA
    clear hU A10 c11 c8 z9 Z9 G9
    go_wp2_with (first | (refine wpList_load_row (by rfl) 26 _ (by rfl) _ (by rfl) 26 _ (0, 0) _ blkA Tryz.underlying26 rfl (by exact size_sta) ?_) | (refine wpList_store_row (by rfl) 26 _ _ (by rfl) _ _ (by rfl) (by rfl) 26 z19 blkA (by exact size_sta) (by rfl) (v_one _) ?_))
    have U2 : (U.setRow (w.heap.size + 1 + 1) R.v).heap[w.heap.size + 1 + 1]? = some (.cells R.v 26 (0, 0)) := setRow_heap _ _ _ _ _ _ U1.out
    refine bodyPost_ret (results1 rfl _ _ (w.heap.size + 1 + 1) 26 R.v (0, 0) _ (by rfl) U2 Tryz.underlying26 rfl (by exact size_sta)) rfl ?_
    exact ⟨rfl, GU.out.setRow _ _ (by omega)⟩
set_option maxHeartbeats 4000000 in
set_option maxRecDepth 100000 in
theorem enter_new (s : Sta) (k x back : Int) (c : Nat → Int) (w : World) (ok : s.Ok) (hc : Hid (c = kepC s k x back)) (hcmp : ∀ w, (Op.equalIn 10000 24 (.agg (crV c)) (.agg (crV s.c))).run Tryz.prog w = .ok false w) :
    Calls Tryz.prog 65 #[.agg s.v, .agg #[.int .i64 k, .int .u32 x], .int .u32 back] w fun e w' => e = .returned (.agg (entS s k x back).v) ∧ Kep w w' := by
  have SV : Hid (∀ w, Calls Tryz.prog 75 #[.agg s.v, .agg #[.int .i64 k, .int .u32 x], .int .u32 back] w fun e w' => e = .returned (.agg (crV c)) ∧ Kep w w') := fun w => by rw [hc.out]; exact saved_any s k x back w
  have TG : Hid (∀ b w, w.cell? ⟨b, 0, none⟩ = some (.int .u32 1) → w.cell? ⟨b, 1, none⟩ = some (.int .u32 2) → Calls Tryz.prog 76 #[.slice (some ⟨b, 0, none⟩) 2 2] w fun e w' => e = .returned (.int .u32 3) ∧ Kep w w') := fun b w => tog_any b w
  have hlow := low2_is s.ps ok.ps
  have hcr1 : Hid (c 1 = s.c 1) := by rw [hc.out]; rfl
  obtain ⟨R, hR⟩ : ∃ R, Hid (R = entS s k x back) := ⟨_, rfl⟩
  rw [← hR.out]
  clear ok
  go_enter Tryz.func65, Tryz.ntmps65
  go_upto_region 1 with fail
  generalize hW : World.alloc (World.alloc (World.alloc w _) _) _ = W
  have AW : Hid (W.heap[w.heap.size]? = some (.cells s.v 26 (0, 0))) := by rw [← hW]; unfold Hid; exact blkA
  have FW : W.heap[w.heap.size + 1]? = some (.cells #[.int .i64 k, .int .u32 x] 100 (0, 0)) := by rw [← hW]; exact blkA
  have ZW : Hid (W.heap[w.heap.size + 1 + 1]? = some (.cells z19 26 (0, 0))) := by rw [← hW]; exact hat _ _ _ (by simp)
  have GW : Hid (Kep w W) := by rw [← hW]; show Kep _ _; exact kepA
  have lW := block_lt ZW.out
  obtain ⟨f0, f1⟩ := flt_at FW
  clear hW FW
  go_wp2_with (refine wpList_load_row (by rfl) 26 _ (by rfl) _ (by rfl) 26 _ (0, 0) _ blkA Tryz.underlying26 rfl (by exact size_sta) ?_)
  refine (SV.out _).mono ?_
  rintro e w1 ⟨rfl, K1⟩
  have A1 : Hid (w1.heap[w.heap.size]? = some (.cells s.v 26 (0, 0))) := K1.block AW.out
  have Z1 : Hid (w1.heap[w.heap.size + 1 + 1]? = some (.cells z19 26 (0, 0))) := K1.block ZW.out
  have G1 : Hid (Kep w w1) := kep_trans GW.out K1
  have l1 := block_lt Z1.out
  clear K1 f0 f1 AW ZW GW
  go_upto_region 2 with (refine wpList_store_row (by rfl) 24 _ _ (by rfl) _ _ (by rfl) (by rfl) 24 #[.int .u32 0, .int .u32 0, .int .u32 0, .int .u32 0, .int .u32 0, .int .u32 0, .int .u32 0, .int .u32 0] blkA (by exact size_cr) (by rfl) (cr_one _) ?_)
  dsimp only [Act.put]
  generalize hV : World.setRow (World.alloc w1 _) _ _ = V
  have AV : Hid (At V w.heap.size s) := by rw [← hV]; unfold Hid At; exact blkA
  have ZV : Hid (V.heap[w.heap.size + 1 + 1]? = some (.cells z19 26 (0, 0))) := by rw [← hV]; unfold Hid; exact blkA
  have KV : Hid (V.heap[w1.heap.size]? = some (.cells (crV c) 24 (0, 0))) := by rw [← hV]; unfold Hid; exact blkA
  have GV : Hid (Kep w V) := kep_trans G1.out (by rw [← hV]; exact kepA)
  clear hV A1 Z1 G1
  go_upto_region 4 with (first | (refine wpList_load_row (by rfl) 24 _ (by rfl) w1.heap.size (by rfl) 24 (crV c) (0, 0) _ KV.out Tryz.underlying24 rfl (by exact size_cr) ?_) | (refine load_cr (by rfl) _ (by rfl) w.heap.size 10 (by rfl) s.c AV.out.range ?_) | (refine wpList_store_mid (by rfl) 24 _ _ (by rfl) w.heap.size 10 (crV c) (by rfl) (by rfl) AV.out.there (by exact size_cr) (cr_one _) ?_))
  dsimp only [Act.put]
  have A4' : At (V.setCells w.heap.size 10 (crV c).toList) w.heap.size (s.all c) := AV.out.setAll c
  have P4 : Put [w.heap.size] V (V.setCells w.heap.size 10 (crV c).toList) := Put.setCells (by simp) _ _ _ (Put.refl _)
  generalize V.setCells w.heap.size 10 (crV c).toList = V2 at *
  have A4 : Hid (At V2 w.heap.size (s.all c)) := A4'
  have Z4 : Hid (V2.heap[w.heap.size + 1 + 1]? = some (.cells z19 26 (0, 0))) := P4.keeps ZV.out (by simp; omega)
  have G4 : Hid (Kep w V2) := GV.out.put P4 (by simp)
  clear AV ZV KV GV A4' P4 hcmp
  have p9 : V2.cell? ⟨w.heap.size, 9, none⟩ = some (.int .u32 s.ps) := A4.out.ps
  have zf := fun j => row_frozen A4.out j
  go_cut [3, 6] (fun t3 t6 wx => t3 = .pointer (some ⟨w.heap.size, 0, none⟩) ∧ t6 = .pointer (some ⟨w.heap.size + 1 + 1, 0, none⟩) ∧ At wx w.heap.size ((s.all c).mark (lowI2 s.ps)) ∧ Put [w.heap.size] V2 wx)
  case first =>
    have hV : w.heap.size < V2.heap.size := A4.out.lt
    go_region_with ((go_at_call 76; refine (TG.out _ _ (by simp) (by simp)).mono ?_; rintro e w2 ⟨rfl, K2⟩; have Kb : Kep V2 w2 := kep_trans kepA K2; have c9 : w2.cell? ⟨w.heap.size, 9, none⟩ = some (.int .u32 s.ps) := (At.kep A4.out Kb).ps; have fa := row_frozen (At.kep A4.out Kb); have Kc : Hid (Kep V2 w2) := Kb; clear K2 Kb))
    all_goals
      go_wp2_with fail
      go_meet
      have A1 := At.kep A4.out Kc.out
      refine ⟨rfl, rfl, ?_, ?_⟩
      · have A2 := A1.setPs (lowI2 s.ps)
        first | exact A2 | exact A2.drew | (simpa using A2)
      · have P1 : Put [w.heap.size] V2 _ := Put.of_kep Kc.out
        exact putA
  case rest =>
    obtain ⟨rfl, rfl, A9, P9⟩ := hcut
    have Z9 : Hid (wc.heap[w.heap.size + 1 + 1]? = some (.cells z19 26 (0, 0))) := P9.keeps Z4.out (by simp; omega)
    have G9 : Hid (Kep w wc) := G4.out.put P9 (by simp)
    have c11 : wc.cell? ⟨w.heap.size, 11, none⟩ = some (.int .u32 (s.c 1)) := by have := A9.ctl 1 (by decide); rw [← hcr1.out]; exact this
    have c8 : wc.cell? ⟨w.heap.size, 8, none⟩ = some (.int .u32 s.pc) := A9.pc
    have z9 := fun j => row_frozen A9 j
    have A10 : Hid (At (wc.setCell ⟨w.heap.size, 8, none⟩ (.int .u32 (s.c 1))) w.heap.size R) := by
      rw [hR.out]; have := A9.setPc (s.c 1); rw [hc.out] at this; exact this
    clear A9 P9 Z4 G4 A4 p9 zf
    go_upto_region 6 with fail
    generalize hU : World.setCell wc _ _ = U
    have U0 : Hid (U.heap[w.heap.size]? = some (.cells R.v 26 (0, 0))) := by rw [← hU]; exact A10.out
    have U1 : Hid (U.heap[w.heap.size + 1 + 1]? = some (.cells z19 26 (0, 0))) := by rw [← hU]; unfold Hid; exact blkA
    have GU : Hid (Kep w U) := by rw [← hU]; show Kep _ _; exact kepA
    clear hU A10 c11 c8 z9 Z9 G9
    go_wp2_with (first | (refine wpList_load_row (by rfl) 26 _ (by rfl) _ (by rfl) 26 _ (0, 0) _ blkA Tryz.underlying26 rfl (by exact size_sta) ?_) | (refine wpList_store_row (by rfl) 26 _ _ (by rfl) _ _ (by rfl) (by rfl) 26 z19 blkA (by exact size_sta) (by rfl) (v_one _) ?_))
    have U2 : (U.setRow (w.heap.size + 1 + 1) R.v).heap[w.heap.size + 1 + 1]? = some (.cells R.v 26 (0, 0)) := setRow_heap _ _ _ _ _ _ U1.out
    refine bodyPost_ret (results1 rfl _ _ (w.heap.size + 1 + 1) 26 R.v (0, 0) _ (by rfl) U2 Tryz.underlying26 rfl (by exact size_sta)) rfl ?_
    exact ⟨rfl, GU.out.setRow _ _ (by omega)⟩
theorem kepC_ok {s : Sta} (ok : s.Ok) (k x back : Int) (hx : 0 ≤ x ∧ x < 4294967296) (hb : 0 ≤ back ∧ back < 4294967296) (n : Nat) : 0 ≤ kepC s k x back n ∧ kepC s k x back n < 4294967296 := (ent_ok ok k x back hx hb).c n
theorem enter10_any (s : Sta) (k x back : Int) (w : World) (ok : s.Ok) (hx : 0 ≤ x ∧ x < 4294967296) (hb : 0 ≤ back ∧ back < 4294967296) :
    Calls Tryz.prog 65 #[.agg s.v, .agg #[.int .i64 k, .int .u32 x], .int .u32 back] w fun e w' => e = .returned (.agg (entS s k x back).v) ∧ Kep w w' := by
  obtain ⟨r, hcmp, himp⟩ := cr_cmp (kepC s k x back) s.c (kepC_ok ok k x back hx hb) ok.c
  cases r with
  | true => exact enter_same s k x back _ w ok rfl hcmp (himp rfl)
  | false => exact enter_new s k x back _ w ok rfl hcmp
end Go.Proofs.YtnignfloedcmlaaGreatDoor
