/- Part of a proof. -/
import Derived.Great.Walk
import Derived.Test.YtnignfloedcmlaaGreatDoorJ35
namespace Go.Proofs.YtnignfloedcmlaaGreatDoor
open Go.RowKit
set_option linter.unusedVariables false
set_option linter.unusedSimpArgs false
def sucV (t : Sta) (q : Int × Int × Int × Int) (at_ : Int) (rd wr : Bool) (port value : Int) : Array Value := #[
  .int .u32 (t.r 0), .int .u32 (t.r 1), .int .u32 (t.r 2), .int .u32 (t.r 3), .int .u32 (t.r 4), .int .u32 (t.r 5), .int .u32 (t.r 6), .int .u32 (t.r 7), .int .u32 t.pc, .int .u32 t.ps,
  .int .u32 (t.c 0), .int .u32 (t.c 1), .int .u32 (t.c 2), .int .u32 (t.c 3), .int .u32 (t.c 4), .int .u32 (t.c 5), .int .u32 (t.c 6), .int .u32 (t.c 7), .bool t.h,
  .int .i64 q.1, .int .u32 q.2.1, .int .i64 q.2.2.1, .int .u32 q.2.2.2, .int .u32 at_, .bool rd, .bool wr, .int .i64 port, .int .u32 value]
def endV : Fin → Value
  | .fail k a => .iface 131 (.agg #[.int .i64 k, .int .u32 a])
  | .ok t q at_ rd wr port value => .iface 140 (.agg (sucV t q at_ rd wr port value))
theorem yields_st {ops : Array Oper} {S : World → Prop} {o : Oper} {a : Act} (hw : Region.wanted o (yielded ops a.tmps) = true) (x : Operand) (ho : o.op = .load 26 x) (b k : Nat) (hx : a.eval x = .pointer (some ⟨b, k, none⟩)) (s : Sta) (hS : ∀ w, S w → w.rangeAt b k s.v.toList) :
    YieldsIf Tryz.prog ops S o (.agg s.v) a := yieldsIf_load_mid hw 26 x ho b k hx s.v.toList _ hS Tryz.underlying26 rfl size_sta
theorem acc_one (q : Int × Int × Int × Int) : (accV q).all (·.oneCell') = true := by simp [Value.oneCell']
theorem flt_one (q : Int × Int) : (fltV q).all (·.oneCell') = true := by simp [Value.oneCell']
theorem size_suc : (Tryz.prog.info? 140).map (·.size) = some 28 := by kernel_rfl
theorem wantF_zero {s : Sta} {op : Int} {a b : Nat} {imm : Int} (h : (wantF s op a b imm).1 = 0) : wantF s op a b imm = (0, 0) := by
  unfold wantF at h ⊢
  split at h
  · cases h
  · rename_i hn; rw [if_neg hn]
theorem rN_cases (op : Int) : rN op = 4 ∨ rN op = 2 ∨ rN op = 1 ∨ rN op = 0 := by
  unfold rN; split
  · simp
  · split
    · simp
    · split <;> simp
theorem lowI_range {x n : Int} (h : 0 ≤ x ∧ x < 4294967296) : 0 ≤ lowI x n ∧ lowI x n < 4294967296 := by unfold lowI; split; omega; split <;> omega
theorem adr_range {s : Sta} (ok : s.Ok) (op : Int) (b : Nat) (imm : Int) : 0 ≤ adr s op b imm ∧ adr s op b imm < 4294967296 := by
  unfold adr; split
  · omega
  · split
    · exact ok.r 7
    · omega
theorem wantA_range {s : Sta} (ok : s.Ok) (op : Int) (a b : Nat) (imm : Int) : (0 ≤ (wantA s op a b imm).2.1 ∧ (wantA s op a b imm).2.1 < 4294967296) ∧ (∃ m : Nat, m ≤ 4 ∧ (wantA s op a b imm).2.2.1 = m) ∧ (0 ≤ (wantA s op a b imm).2.2.2 ∧ (wantA s op a b imm).2.2.2 < 4294967296) ∧ ((wantA s op a b imm).2.2.1 = 0 → (wantA s op a b imm).1 = 0) := by
  unfold wantA; split
  · rename_i h
    refine ⟨adr_range ok op b imm, ?_, ?_, fun h0 => ?_⟩
    · rcases rN_cases op with h | h | h | h <;> simp only [h]
      · exact ⟨4, by omega, rfl⟩
      · exact ⟨2, by omega, rfl⟩
      · exact ⟨1, by omega, rfl⟩
      · exact ⟨0, by omega, rfl⟩
    · dsimp only
      split
      · exact lowI_range (ok.r a)
      · decide
    · have hon := h.1
      unfold wantOn at hon
      simp at hon
      exact absurd h0 hon.1
  · exact ⟨by decide, ⟨0, by omega, rfl⟩, by decide, fun _ => rfl⟩
end Go.Proofs.YtnignfloedcmlaaGreatDoor
