/- Which registers an instruction names at some places. -/
import Derived.Test.YtaifildofgeonaaDoorMay
namespace Go.Proofs.YtaifildofgeonaaDoor
open Go.RowKit
set_option linter.unusedVariables false

def orB (pa pb : Bool) (it a b : Int) : Int := match pa, pb with
  | false, false => it
  | true, false => bits .or .u8 it (2 ^ a.toNat % 256)
  | false, true => bits .or .u8 it (2 ^ b.toNat % 256)
  | true, true => bits .or .u8 (bits .or .u8 it (2 ^ a.toNat % 256)) (2 ^ b.toNat % 256)
/-- The set of an instruction that may be (m), or not. -/
def setB (m pa pb : Bool) (it a b : Int) : Int := if m then orB pa pb it a b else 0
theorem may_seven (r : Nat) (hr : r < 10) (a b imm : Int) (hm : mayB r a b imm = true) : a ≤ 7 ∧ b ≤ 7 := by
  have h7 : f1 r ≤ 7 ∧ f2 r ≤ 7 := by
    refine ten (p := fun r => f1 r ≤ 7 ∧ f2 r ≤ 7) r hr ?_ ?_ ?_ ?_ ?_ ?_ ?_ ?_ ?_ ?_ <;> decide
  unfold mayB at hm
  simp only [Bool.and_eq_true, decide_eq_true_eq] at hm
  omega

set_option maxHeartbeats 2000000 in
theorem of_yes (pa pb : Bool) (it op a b imm : Int) (w : World) (h0 : 0 ≤ op) (h1 : op < 256) (h2 : -2147483648 ≤ imm) (h3 : imm ≤ 2147483647) (ha : 0 ≤ a) (ha7 : a ≤ 7) (hb : 0 ≤ b) (hb7 : b ≤ 7) (hT : Tabs w) (hm : mayB (rowOf op true) a b imm = true) :
    Calls Tryd.prog 30 #[.agg #[.bool pa, .bool pb, .int .u8 it], .agg (insA op a b imm)] w fun e w' => e = .returned (.int .u8 (orB pa pb it a b)) ∧ Kep w w' := by
  have hnot : ∀ (x : Bool) (w : World), (Op.unary .not (.bool x)).run Tryd.prog w = .ok (.bool (!x)) w := fun _ _ => rfl
  have hM : Hid (∀ w, Tabs w → Calls Tryd.prog 16 #[.agg (insA op a b imm), .bool true] w fun e w' => e = .returned (.bool true) ∧ Kep w w') := fun w hT => by
    have h := may_any op a b imm true w h0 h1 h2 h3 hT
    rw [hm] at h
    exact h
  have hT' : Hid (Tabs w) := hT
  clear hT hm h0 h1 h2 h3
  cases pa <;> cases pb
  all_goals
    go_enter Tryd.func30, Tryd.ntmps30
    go_wp2_with fail
    refine (hM.out _ (hT'.grown (((Kep.refl _).alloc _).alloc _))).mono ?_
    rintro e w1 ⟨rfl, g1⟩
    have K1 : Hid (Kep w w1) := kep_trans (((Kep.refl _).alloc _).alloc _) g1
    have c0 := g1.cell (o := 0) (b := w.heap.size) (by simp; omega)
    have c1 := g1.cell (o := 1) (b := w.heap.size) (by simp; omega)
    have c2 := g1.cell (o := 2) (b := w.heap.size) (by simp; omega)
    have d1 := g1.cell (o := 1) (b := w.heap.size + 1) (by simp)
    have d2 := g1.cell (o := 2) (b := w.heap.size + 1) (by simp)
    simp at c0 c1 c2 d1 d2
    clear g1
    go_wp2_with fail
    go_ret
    exact ⟨rfl, K1⟩
set_option maxHeartbeats 2000000 in
theorem of_no (pa pb : Bool) (it op a b imm : Int) (w : World) (h0 : 0 ≤ op) (h1 : op < 256) (h2 : -2147483648 ≤ imm) (h3 : imm ≤ 2147483647) (hT : Tabs w) (hm : mayB (rowOf op true) a b imm = false) :
    Calls Tryd.prog 30 #[.agg #[.bool pa, .bool pb, .int .u8 it], .agg (insA op a b imm)] w fun e w' => e = .returned (.int .u8 0) ∧ Kep w w' := by
  have hnot : ∀ (x : Bool) (w : World), (Op.unary .not (.bool x)).run Tryd.prog w = .ok (.bool (!x)) w := fun _ _ => rfl
  have hM : Hid (∀ w, Tabs w → Calls Tryd.prog 16 #[.agg (insA op a b imm), .bool true] w fun e w' => e = .returned (.bool false) ∧ Kep w w') := fun w hT => by
    have h := may_any op a b imm true w h0 h1 h2 h3 hT
    rw [hm] at h
    exact h
  have hT' : Hid (Tabs w) := hT
  clear hT hm h0 h1 h2 h3
  go_enter Tryd.func30, Tryd.ntmps30
  go_wp2_with fail
  refine (hM.out _ (hT'.grown (((Kep.refl _).alloc _).alloc _))).mono ?_
  rintro e w1 ⟨rfl, g1⟩
  have K1 : Hid (Kep w w1) := kep_trans (((Kep.refl _).alloc _).alloc _) g1
  clear g1
  go_wp2_with fail
  go_ret
  exact ⟨rfl, K1⟩
theorem kof_any (pa pb : Bool) (it op a b imm : Int) (w : World) (h0 : 0 ≤ op) (h1 : op < 256) (h2 : -2147483648 ≤ imm) (h3 : imm ≤ 2147483647) (ha : 0 ≤ a) (hb : 0 ≤ b) (hT : Tabs w) :
    Calls Tryd.prog 30 #[.agg #[.bool pa, .bool pb, .int .u8 it], .agg (insA op a b imm)] w fun e w' => e = .returned (.int .u8 (setB (mayB (rowOf op true) a b imm) pa pb it a b)) ∧ Kep w w' := by
  unfold setB
  cases hm : mayB (rowOf op true) a b imm
  · exact of_no pa pb it op a b imm w h0 h1 h2 h3 hT hm
  · obtain ⟨q1, q2⟩ := may_seven _ (rowOf_lt _ _) a b imm hm
    exact of_yes pa pb it op a b imm w h0 h1 h2 h3 ha q1 hb q2 hT hm
end Go.Proofs.YtaifildofgeonaaDoor
