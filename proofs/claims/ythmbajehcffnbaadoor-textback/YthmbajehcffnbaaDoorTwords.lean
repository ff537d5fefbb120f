/- The words of a text, handed out one by one. -/
import Derived.RangeFuncBox
import Derived.RangeFuncNested
import Derived.RangeFuncLeaves
import Derived.RangeFuncCalls
import Derived.Shelf.Abstract
import Derived.WalkKit
import Derived.OwnWalkIn
import Derived.TacticsInMore
import Derived.LoopNIn
import Derived.LoopIn
import Derived.Maps.AppendAt
import Derived.Test.YthmbajehcffnbaaDoorTcut
import Derived.Test.YthmbajehcffnbaaDoorTpure
namespace Go.Proofs.YthmbajehcffnbaaDoor
open Go.RowKit Go.Shelf
set_option linter.unusedVariables false
attribute [local go_sem] Oper.semAt_some

abbrev strV (l : List UInt8) : Value := .string ⟨l.toArray⟩
def tailL (more : Bool) (rest : List UInt8) : List (List UInt8) := match more with
  | true => splitL rest
  | false => []
theorem split_cut : ∀ l : List UInt8, splitL l = (cutL l).1 :: tailL (cutL l).2.2 (cutL l).2.1
  | [] => rfl
  | c :: cs => by
    by_cases hc : c = 32
    · have h1 : cutL (c :: cs) = ([], cs, true) := by simp [cutL, hc]
      have h2 : splitL (c :: cs) = [] :: splitL cs := by simp [splitL, hc]
      rw [h1, h2]; rfl
    · have h1 : cutL (c :: cs) = (c :: (cutL cs).1, (cutL cs).2.1, (cutL cs).2.2) := by simp [cutL, hc]
      rw [h1]
      simp only [splitL]
      rw [if_neg hc, split_cut cs]
theorem cutL_less : ∀ l : List UInt8, (cutL l).2.2 = true → (cutL l).2.1.length < l.length
  | [], h => by cases h
  | c :: cs, h => by
    simp only [cutL] at h ⊢
    by_cases hc : c = 32
    · rw [if_pos hc]; simp
    · rw [if_neg hc] at h ⊢
      have := cutL_less cs h
      simp only [List.length_cons]
      omega
theorem cutL_le : ∀ l : List UInt8, (cutL l).2.1.length ≤ l.length
  | [] => by simp [cutL]
  | c :: cs => by
    simp only [cutL]
    by_cases hc : c = 32
    · rw [if_pos hc]; simp
    · rw [if_neg hc]
      have := cutL_le cs
      simp only [List.length_cons]
      omega
def measW (b c : Value) : Nat := match b, c with
  | .string s, .bool true => s.size + 1
  | _, _ => 0
theorem measW_yes (l : List UInt8) : measW (strV l) (.bool true) = l.length + 1 := by simp [measW, ByteArray.size]
theorem measW_no (v : Value) : measW v (.bool false) = 0 := by cases v <;> rfl
theorem grown_draws (W : World) (k : Nat) : W.grownBy (W.drewN k) none := ⟨rfl, rfl, rfl, Nat.le_refl _, fun _ _ _ => rfl⟩

set_option maxRecDepth 100000 in
set_option maxHeartbeats 2000000 in
theorem words1_in (n : Nat) (hn : 1 ≤ n) (l Bn B0 : Nat) (s : List UInt8) (hs : (s.length : Int) ≤ 140737488355328) (J Jx : List (List UInt8) → World → Prop) (hJ : AbidesFrom B0 J)
    (hY : ∀ pre x W, J pre W → pre.length < (splitL s).length → YieldAt Fence.wide (n - 1) Tryd.prog l #[strV x] W fun e W' =>
      (e = .returned (.bool true) ∧ J (pre ++ [x]) W' ∧ True) ∨ (e = .returned (.bool false) ∧ Jx (pre ++ [x]) W'))
    (W : World) (hBn : W.cell? ⟨Bn, 0, none⟩ = some (strV s)) (h0 : J [] W) :
    CallsIn Fence.wide n Tryd.prog 40 #[.func (.yield l) #[] #[], .pointer (some ⟨Bn, 0, none⟩)] W fun e W' => (∃ v, e = .returned v) ∧
      ((∃ ys, ys = splitL s ∧ J ys W') ∨ (∃ pre, pre <+: splitL s ∧ Jx pre W')) := by
  have HC : Hid (∀ (l : List UInt8) (w : World), (l.length : Int) ≤ 140737488355328 → CallsIn Fence.wide (n - 1) Tryd.prog 41 #[strV l, .string ⟨#[32]⟩] w fun e w' => e = .returned (.tuple #[strV (cutL l).1, strV (cutL l).2.1, .bool (cutL l).2.2]) ∧ ∃ k, w' = w.drewN k) :=
    fun l w h => callsIn_wide.2 (cut_any l h w)
  have hY' : Hid _ := hY
  have hJ' : Hid _ := hJ
  clear hY hJ
  refine callsIn_of_wp Tryd.func40 rfl trivial ?_ rfl
  simp only [Tryd.ntmps40, List.size_toArray, List.length_cons, List.length_nil, Nat.reduceAdd, Nat.reduceSub, Array.replicate_succ, Array.replicate_zero, List.push_toArray, List.append_toArray, List.nil_append, List.cons_append]
  gi_wp2_with fail
  refine ⟨trivial, ?_⟩
  refine (HC.out s W hs).mono ?_
  rintro e w1 ⟨rfl, k, rfl⟩
  have hgr : Hid (W.grownBy (W.drewN k) none) := grown_draws W k
  have h1 : Hid (J [] (W.drewN k)) := hJ'.out _ _ _ none h0 hgr.out (fun r e => by cases e)
  have hsp : Hid (splitL s = [] ++ (cutL s).1 :: tailL (cutL s).2.2 (cutL s).2.1) := split_cut s
  have hle : ((cutL s).2.1.length : Int) ≤ 140737488355328 := by have := cutL_le s; omega
  generalize (cutL s).1 = wd0 at hsp
  generalize (cutL s).2.1 = rt0 at hsp hle
  generalize (cutL s).2.2 = mr0 at hsp
  clear h0 hgr hBn
  generalize W.drewN k = W1 at h1
  gi_wp2_with fail
  gi_loopw [3, 4, 5] (fun a b c wr => ∃ (pre : List (List UInt8)) (wd rt : List UInt8) (mr : Bool), a = strV wd ∧ b = strV rt ∧ c = .bool mr ∧ Hid (splitL s = pre ++ wd :: tailL mr rt) ∧ (rt.length : Int) ≤ 140737488355328 ∧ Hid (J pre wr)) (fun _ b c _ => measW b c)
  case atStart => exact ⟨[], wd0, rt0, mr0, rfl, rfl, rfl, hsp, hle, h1⟩
  case round =>
    obtain ⟨pre, wd, rt, mr, rfl, rfl, rfl, hx, hl, hJs⟩ := hrel
    obtain ⟨fn, tmps, assign, body, hy, hR⟩ := hY'.out pre wd wr hJs.out (by rw [hx.out]; simp)
    cases mr
    · gi_wp2_with fail
      refine hR.mono ?_
      rintro e W3 (⟨rfl, hJ3, _⟩ | ⟨rfl, hJx3⟩)
      · gi_wp2_with fail
        go_end0
        exact ⟨⟨_, rfl⟩, .inl ⟨pre ++ [wd], hx.out.symm, hJ3⟩⟩
      · gi_wp2_with fail
        go_end0
        exact ⟨⟨_, rfl⟩, .inr ⟨pre ++ [wd], ⟨[], by rw [hx.out]; simp [tailL]⟩, hJx3⟩⟩
    · gi_wp2_with fail
      refine hR.mono ?_
      rintro e W3 (⟨rfl, hJ3, _⟩ | ⟨rfl, hJx3⟩)
      · gi_wp2_with fail
        refine ⟨trivial, ?_⟩
        refine (HC.out rt W3 hl).mono ?_
        rintro e w5 ⟨rfl, k5, rfl⟩
        have hJ5 : Hid (J (pre ++ [wd]) (W3.drewN k5)) := hJ'.out _ _ _ none hJ3 (grown_draws W3 k5) (fun r e => by cases e)
        have hx5 : Hid (splitL s = (pre ++ [wd]) ++ (cutL rt).1 :: tailL (cutL rt).2.2 (cutL rt).2.1) := by
          unfold Hid
          rw [hx.out, ← split_cut rt]
          simp [tailL]
        have hl5 : ((cutL rt).2.1.length : Int) ≤ 140737488355328 := by have := cutL_le rt; omega
        have hms : Hid (measW (strV (cutL rt).2.1) (.bool (cutL rt).2.2) < measW (strV rt) (.bool true)) := by
          unfold Hid
          rw [measW_yes]
          cases hm : (cutL rt).2.2
          · rw [measW_no]; omega
          · rw [measW_yes]; have := cutL_less rt hm; omega
        generalize (cutL rt).1 = wd5 at hx5
        generalize (cutL rt).2.1 = rt5 at hx5 hl5 hms
        generalize (cutL rt).2.2 = mr5 at hx5 hms
        clear hJ3
        generalize W3.drewN k5 = W5 at hJ5
        gi_wp2_with fail
        go_roundw
        case rel => exact ⟨pre ++ [wd], wd5, rt5, mr5, rfl, rfl, rfl, hx5, hl5, hJ5⟩
        case measure => exact hms.out
      · gi_wp2_with fail
        go_end0
        exact ⟨⟨_, rfl⟩, .inr ⟨pre ++ [wd], ⟨splitL rt, by rw [hx.out]; simp [tailL]⟩, hJx3⟩⟩

set_option maxHeartbeats 1000000 in
theorem words_in (n : Nat) (s : List UInt8) (w : World) :
    CallsIn Fence.wide n Tryd.prog 36 #[strV s] w fun e w' => e = .returned (.func (.func 40) #[] #[.pointer (some ⟨w.heap.size, 0, none⟩)]) ∧ w' = w.alloc (.cells #[strV s] 9) := by
  refine callsIn_of_wp Tryd.func36 rfl trivial ?_ rfl
  simp only [Tryd.ntmps36, List.size_toArray, List.length_cons, List.length_nil, Nat.reduceAdd, Nat.reduceSub, Array.replicate_succ, Array.replicate_zero, List.push_toArray, List.append_toArray, List.nil_append, List.cons_append]
  gi_wp2_with fail
  go_ret
  exact ⟨rfl, rfl⟩
theorem words_stops (n : Nat) (hn : 1 ≤ n) (Bn : Nat) (s : List UInt8) (hs : (s.length : Int) ≤ 140737488355328) (w : World) (hBn : Bn < w.heap.size) (hc : w.cell? ⟨Bn, 0, none⟩ = some (strV s)) :
    SeqStopsK Fence.wide n Tryd.prog 40 #[.pointer (some ⟨Bn, 0, none⟩)] (fun x : List UInt8 => #[strV x]) (fun _ _ => True) (fun ys => ys = splitL s) (fun pre => pre <+: splitL s) (splitL s).length w := fun l J Jx W hW hJ _ hY h0 =>
  words1_in n hn l Bn W.heap.size s hs J Jx hJ hY W ((hW.cell (p := ⟨Bn, 0, none⟩) hBn).trans hc) h0
end Go.Proofs.YthmbajehcffnbaaDoor
