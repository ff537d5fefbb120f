/- What a host does in an instruction's place; how a block ends. -/
import Derived.Test.YtpalbpjmjbcelaaDoorLtpure
import Derived.Test.YtpalbpjmjbcelaaDoorLtmay
import Derived.Test.YtpalbpjmjbcelaaDoorAuto
import Derived.Test.YtpalbpjmjbcelaaDoorBlkc
namespace Go.Proofs.YtpalbpjmjbcelaaDoor
open Go.RowKit
set_option linter.unusedVariables false
set_option linter.unusedSimpArgs false

def lpV (next : Int) (i : In4) : Value := match lay4 next i with
  | none => .tuple #[.agg (insA 0 0 0 0), .bool false]
  | some h => .tuple #[.agg (insA h.1 h.2.1 h.2.2.1 h.2.2.2), .bool true]
theorem s32_wrap {n : Int} (h0 : 0 ≤ n) (h1 : n < 4294967296) : wrap32 n = s32 n := by
  unfold wrap32 s32; split <;> omega

set_option maxHeartbeats 2000000 in
set_option maxRecDepth 100000 in
theorem ltplace_any (i : In4) (next : Int) (h0 : 0 ≤ next) (h1 : next < 4294967296) (w : World) :
    Calls Tryd.prog 23 #[.agg (insA i.1 i.2.1 i.2.2.1 i.2.2.2), .int .u32 next] w fun e w' => e = .returned (lpV next i) ∧ Kep w w' := by
  obtain ⟨op, a, b, imm⟩ := i
  simp only
  by_cases e1 : op = 64
  · subst e1
    show Calls _ _ _ _ fun e w' => e = .returned (.tuple #[.agg (insA 0 0 0 0), .bool false]) ∧ Kep w w'
    clear h0 h1
    go_enter Tryd.func23, Tryd.ntmps23
    go_wp2_with fail
    refine bodyPost_ret (resultsC1 rfl _ _ (w.heap.size + 1) 43 (insA 0 0 0 0) (0, 0) _ rfl blkA Tryd.underlying43 rfl sizeIns) rfl ⟨rfl, kepA⟩
  by_cases e2 : op = 72
  · subst e2
    have hs := s32_wrap h0 h1
    show Calls _ _ _ _ fun e w' => e = .returned (.tuple #[.agg (insA 32 6 0 (s32 next)), .bool true]) ∧ Kep w w'
    rw [← hs]
    clear hs e1
    go_enter Tryd.func23, Tryd.ntmps23
    go_wp2_with fail
    refine bodyPost_ret (resultsC1 rfl _ _ (w.heap.size + 1) 43 (insA 32 6 0 (wrap32 next)) (0, 0) _ rfl blkA Tryd.underlying43 rfl sizeIns) rfl ⟨rfl, kepA⟩
  have n1 : (op == 64) = false := by rw [beq_eq_false_iff_ne]; exact e1
  have n2 : (op == 72) = false := by rw [beq_eq_false_iff_ne]; exact e2
  have BR := hidd (ltbr_any op)
  by_cases e3 : 65 ≤ op ∧ op ≤ 71
  · have e : lpV next (op, a, b, imm) = .tuple #[.agg (insA op a b 5), .bool true] := by unfold lpV lay4; simp [e1, e2, e3]
    rw [e, decide_eq_true e3] at *
    clear e e1 e2 e3 h0 h1
    go_enter Tryd.func23, Tryd.ntmps23
    go_wp2_with fail
    refine (BR.out _).mono ?_
    rintro e w1 ⟨rfl, rfl⟩
    go_wp2_with fail
    refine bodyPost_ret (resultsC1 rfl _ _ (w.heap.size + 1) 43 (insA op a b 5) (0, 0) _ rfl blkA Tryd.underlying43 rfl sizeIns) rfl ⟨rfl, kepA⟩
  · have e : lpV next (op, a, b, imm) = .tuple #[.agg (insA op a b imm), .bool true] := by unfold lpV lay4; simp [e1, e2, e3]
    rw [e, decide_eq_false e3] at *
    clear e e1 e2 e3 h0 h1
    go_enter Tryd.func23, Tryd.ntmps23
    go_wp2_with fail
    refine (BR.out _).mono ?_
    rintro e w1 ⟨rfl, rfl⟩
    go_wp2_with fail
    refine bodyPost_ret (resultsC1 rfl _ _ (w.heap.size + 1) 43 (insA op a b imm) (0, 0) _ rfl blkA Tryd.underlying43 rfl sizeIns) rfl ⟨rfl, kepA⟩

/-- How a block ends: where it leads to, or what it asks. -/
abbrev ledV (b k : Nat) : Value := .iface 68 (.agg #[.slice (some ⟨b, 0, none⟩) k k])
abbrev askedV (p : Int) : Value := .iface 71 (.agg #[.int .u32 p])
theorem lt_isled (b k : Nat) (w : World) : (Instr.typeAssert (ledV b k) 57 68 true).run Tryd.prog w = .ok (.tuple #[.agg #[.slice (some ⟨b, 0, none⟩) k k], .bool true]) w := by kernel_rfl
theorem lt_isntled (p : Int) (w : World) : (Instr.typeAssert (askedV p) 57 68 true).run Tryd.prog w = .ok (.tuple #[.agg #[.slice none 0 0], .bool false]) w := by kernel_rfl
theorem lt_isasked (p : Int) (w : World) : (Instr.typeAssert (askedV p) 57 71 true).run Tryd.prog w = .ok (.tuple #[.agg #[.int .u32 p], .bool true]) w := by kernel_rfl
theorem lt_methled (b k : Nat) (w : World) : (method 167 68 (.agg #[.slice (some ⟨b, 0, none⟩) k k]) "mummer/translate.byCode").run Tryd.prog w = .ok (96, .agg #[.slice (some ⟨b, 0, none⟩) k k]) w := by kernel_rfl
theorem lt_methasked (p : Int) (w : World) : (method 167 71 (.agg #[.int .u32 p]) "mummer/translate.byCode").run Tryd.prog w = .ok (97, .agg #[.int .u32 p]) w := by kernel_rfl
theorem ltby_led (X : Array Value) (n : Int) (w : World) : Calls Tryd.prog 96 #[.agg X, .int .i64 n] w fun e w' => e = .returned (.int .i64 n) ∧ Kep w w' := by
  go_enter Tryd.func96, Tryd.ntmps96
  go_wp2_with fail
  go_ret
  exact ⟨rfl, kepA⟩
theorem ltby_asked (X : Array Value) (n : Int) (h0 : 0 ≤ n) (h1 : n ≤ 1000) (w : World) : Calls Tryd.prog 97 #[.agg X, .int .i64 n] w fun e w' => e = .returned (.int .i64 (n - 1)) ∧ Kep w w' := by
  go_enter Tryd.func97, Tryd.ntmps97
  go_wp2_with fail
  go_ret
  exact ⟨rfl, kepA⟩
end Go.Proofs.YtpalbpjmjbcelaaDoor
