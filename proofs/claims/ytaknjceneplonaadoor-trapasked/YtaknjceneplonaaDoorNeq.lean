/- Two states that are not the same. By mkneq.py. -/
import Derived.Test.YtaknjceneplonaaDoorSst
import Derived.DeepKeys
namespace Go.Proofs.YtaknjceneplonaaDoor
open Go.RowKit
set_option linter.unusedVariables false
set_option linter.unusedSimpArgs false

theorem wf_u32 (x : Int) (h : 0 ≤ x ∧ x < 4294967296) : (Lit.int .u32 x).wf = true := by
  have h1 : IntKind.u32.min = 0 := by decide
  have h2 : IntKind.u32.max = 4294967295 := by decide
  show (decide (IntKind.u32.min ≤ x) && decide (x ≤ IntKind.u32.max)) = true
  rw [h1, h2, decide_eq_true h.1, decide_eq_true (show x ≤ 4294967295 by omega)]; rfl
def Sta.lits (s : Sta) : List Lit := [.int .u32 (s.r 0), .int .u32 (s.r 1), .int .u32 (s.r 2), .int .u32 (s.r 3), .int .u32 (s.r 4), .int .u32 (s.r 5), .int .u32 (s.r 6), .int .u32 (s.r 7), .int .u32 (s.pc), .int .u32 (s.ps), .int .u32 (s.c 0), .int .u32 (s.c 1), .int .u32 (s.c 2), .int .u32 (s.c 3), .int .u32 (s.c 4), .int .u32 (s.c 5), .int .u32 (s.c 6), .int .u32 (s.c 7), .bool s.h]
set_option maxHeartbeats 1600000 in
set_option maxRecDepth 100000 in
theorem sta_key (s : Sta) (ok : s.Ok) : Tryd.prog.keyLits 3 25 (Value.agg s.v).cells.toList = some s.lits := by
  have cS : Tryd.prog.cellsOf 25 = 19 := by kernel_rfl
  have cA : Tryd.prog.cellsOf 23 = 8 := by kernel_rfl
  have cU : Tryd.prog.cellsOf 22 = 1 := by kernel_rfl
  have cB : Tryd.prog.cellsOf 4 = 1 := by kernel_rfl
  have w0 := wf_u32 _ (ok.r 0)
  have w1 := wf_u32 _ (ok.r 1)
  have w2 := wf_u32 _ (ok.r 2)
  have w3 := wf_u32 _ (ok.r 3)
  have w4 := wf_u32 _ (ok.r 4)
  have w5 := wf_u32 _ (ok.r 5)
  have w6 := wf_u32 _ (ok.r 6)
  have w7 := wf_u32 _ (ok.r 7)
  have w8 := wf_u32 _ (ok.pc)
  have w9 := wf_u32 _ (ok.ps)
  have w10 := wf_u32 _ (ok.c 0)
  have w11 := wf_u32 _ (ok.c 1)
  have w12 := wf_u32 _ (ok.c 2)
  have w13 := wf_u32 _ (ok.c 3)
  have w14 := wf_u32 _ (ok.c 4)
  have w15 := wf_u32 _ (ok.c 5)
  have w16 := wf_u32 _ (ok.c 6)
  have w17 := wf_u32 _ (ok.c 7)
  simp [Program.keyLits, Tryd.underlying25, Tryd.underlying23, Tryd.underlying22, Tryd.underlying4, Value.cells, cS, cA, cU, cB, Sta.v, Sta.lits, show List.range 8 = [0, 1, 2, 3, 4, 5, 6, 7] from rfl, w0, w1, w2, w3, w4, w5, w6, w7, w8, w9, w10, w11, w12, w13, w14, w15, w16, w17]
  try rfl
theorem sta_differ (s t : Sta) (ok : s.Ok) (ok' : t.Ok) (h : s.lits ≠ t.lits) (w : World) : (Op.equalIn 10000 25 (.agg s.v) (.agg t.v)).run Tryd.prog w = .ok false w := by
  obtain ⟨r, hr, hiff⟩ := run_equalIn_deep (P := Tryd.prog) 9997 3 25 (by kernel_rfl) w 3 3 (.agg s.v) (.agg t.v) _ _ (by kernel_rfl) (by kernel_rfl) (sta_key s ok) (sta_key t ok')
  cases r with
  | false => exact hr
  | true => exact absurd (hiff.1 rfl) h
end Go.Proofs.YtaknjceneplonaaDoor
