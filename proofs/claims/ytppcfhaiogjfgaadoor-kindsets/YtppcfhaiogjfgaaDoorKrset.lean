/- What the document's own sets of registers are. -/
import Derived.Test.YtppcfhaiogjfgaaDoorRefmay
import Derived.Deep.RegionWith
namespace Go.Proofs.YtppcfhaiogjfgaaDoor
open Go.RowKit
set_option linter.unusedVariables false

def pwr (a : Int) : Int := 2 ^ a.toNat % 256
theorem pwr_ok (a : Int) (h0 : 0 ≤ a) (h7 : a ≤ 7) : 1 ≤ pwr a ∧ pwr a ≤ 128 := by
  rcases (by omega : a = 0 ∨ a = 1 ∨ a = 2 ∨ a = 3 ∨ a = 4 ∨ a = 5 ∨ a = 6 ∨ a = 7) with rfl | rfl | rfl | rfl | rfl | rfl | rfl | rfl <;> decide
theorem pwr_sum (a b : Int) (h0 : 0 ≤ a) (h7 : a ≤ 7) (k0 : 0 ≤ b) (k7 : b ≤ 7) (hne : a ≠ b) : pwr a + pwr b < 256 := by
  rcases (by omega : a = 0 ∨ a = 1 ∨ a = 2 ∨ a = 3 ∨ a = 4 ∨ a = 5 ∨ a = 6 ∨ a = 7) with rfl | rfl | rfl | rfl | rfl | rfl | rfl | rfl <;>
  rcases (by omega : b = 0 ∨ b = 1 ∨ b = 2 ∨ b = 3 ∨ b = 4 ∨ b = 5 ∨ b = 6 ∨ b = 7) with rfl | rfl | rfl | rfl | rfl | rfl | rfl | rfl <;> first | decide | exact absurd rfl hne

set_option maxHeartbeats 4000000 in
theorem power_any (a : Int) (h0 : 0 ≤ a) (h7 : a ≤ 7) (w : World) : Calls Tryd.prog 22 #[.int .u8 a] w fun e w' => e = .returned (.int .u8 (pwr a)) ∧ w' = w := by
  rcases (by omega : a = 0 ∨ a = 1 ∨ a = 2 ∨ a = 3 ∨ a = 4 ∨ a = 5 ∨ a = 6 ∨ a = 7) with rfl | rfl | rfl | rfl | rfl | rfl | rfl | rfl
  all_goals
    go_enter Tryd.func22, Tryd.ntmps22
    go_wp2
    go_rounds 9
    go_ret
    exact ⟨by kernel_rfl, rfl⟩

def sR (ra rb sd ne : Bool) (A B : Int) : Int := if sd && decide ((if ra then A else 0) + (if rb && (!ra || ne) then B else 0) < 128) then (if ra then A else 0) + (if rb && (!ra || ne) then B else 0) + 128 else (if ra then A else 0) + (if rb && (!ra || ne) then B else 0)
def sW (wa lk st : Bool) (A : Int) : Int := if st && decide ((if lk then 64 else if wa then A else 0) < 128) then (if lk then 64 else if wa then A else 0) + 128 else (if lk then 64 else if wa then A else 0)

set_option maxHeartbeats 4000000 in
theorem sets_0 (op a b imm A B c : Int) (t f s E ne : Bool) (w : World) (hne : (a != b) = ne)
    (hA : 1 ≤ A) (hA' : A ≤ 128) (hB : 1 ≤ B) (hB' : B ≤ 128) (hs : ne = true → A + B < 256)
    (hM : Hid (∀ w, Calls Tryd.prog 20 #[.agg (insA op a b imm), .bool true] w fun e w' => e = .returned (.bool true) ∧ Kep w w'))
    (hO : Hid (∀ w, Calls Tryd.prog 21 #[.int .u8 op] w fun e w' => e = .returned (.agg #[.int .i64 c, .bool false, .bool false, .bool false, .bool false, .bool false, .bool false, .bool t, .bool f, .bool s, .bool E]) ∧ Kep w w'))
    (hPa : Hid (∀ w, Calls Tryd.prog 22 #[.int .u8 a] w fun e w' => e = .returned (.int .u8 A) ∧ w' = w)) (hPb : Hid (∀ w, Calls Tryd.prog 22 #[.int .u8 b] w fun e w' => e = .returned (.int .u8 B) ∧ w' = w)) :
    Calls Tryd.prog 7 #[.agg (insA op a b imm)] w fun e w' => e = .returned (.tuple #[.int .u8 (sR false false false ne A B), .int .u8 (sW false false false A)]) ∧ Kep w w' := by
  have hnot : ∀ (x : Bool) (w : World), (Op.unary .not (.bool x)).run Tryd.prog w = .ok (.bool (!x)) w := fun _ _ => rfl
  all_goals
    clear hs
    go_enter Tryd.func7, Tryd.ntmps7
    go_wp2_with fail
    refine (hM.out _).mono ?_
    rintro e w1 ⟨rfl, g1⟩
    have d0 := g1.cell (o := 0) (b := w.heap.size) (by simp)
    have d1 := g1.cell (o := 1) (b := w.heap.size) (by simp)
    have d2 := g1.cell (o := 2) (b := w.heap.size) (by simp)
    have z1 : w.heap.size < w1.heap.size := g1.lt (by simp)
    simp at d0 d1 d2
    have K1 : Hid (Kep w w1) := kep_trans ((Kep.refl _).alloc _) g1
    clear g1
    go_wp2_with fail
    refine (hO.out _).mono ?_
    rintro e w2 ⟨rfl, g2⟩
    have d1' := (g2.cell (o := 1) z1).trans d1
    have d2' := (g2.cell (o := 2) z1).trans d2
    have z2 : w.heap.size < w2.heap.size := g2.lt z1
    have K2 : Hid (Kep w w2) := kep_trans K1.out g2
    have G2 : Hid (∀ o, Kep w (w2.alloc o)) := fun o => K2.out.alloc o
    clear g2 d0 d1 d2 hM hO
    go_wp2_with (first
      | (go_at_call_of 22 (Value.int .u8 a); refine (hPa.out _).mono ?_; rintro e w' ⟨rfl, rfl⟩)
      | (go_at_call_of 22 (Value.int .u8 b); refine (hPb.out _).mono ?_; rintro e w' ⟨rfl, rfl⟩))
    go_ret2
    exact ⟨by simp [sR, sW, *] <;> omega, G2.out _⟩

set_option maxHeartbeats 4000000 in
theorem sets_1 (op a b imm A B c : Int) (t f s E ne : Bool) (w : World) (hne : (a != b) = ne)
    (hA : 1 ≤ A) (hA' : A ≤ 128) (hB : 1 ≤ B) (hB' : B ≤ 128) (hs : ne = true → A + B < 256)
    (hM : Hid (∀ w, Calls Tryd.prog 20 #[.agg (insA op a b imm), .bool true] w fun e w' => e = .returned (.bool true) ∧ Kep w w'))
    (hO : Hid (∀ w, Calls Tryd.prog 21 #[.int .u8 op] w fun e w' => e = .returned (.agg #[.int .i64 c, .bool false, .bool true, .bool true, .bool false, .bool false, .bool false, .bool t, .bool f, .bool s, .bool E]) ∧ Kep w w'))
    (hPa : Hid (∀ w, Calls Tryd.prog 22 #[.int .u8 a] w fun e w' => e = .returned (.int .u8 A) ∧ w' = w)) (hPb : Hid (∀ w, Calls Tryd.prog 22 #[.int .u8 b] w fun e w' => e = .returned (.int .u8 B) ∧ w' = w)) :
    Calls Tryd.prog 7 #[.agg (insA op a b imm)] w fun e w' => e = .returned (.tuple #[.int .u8 (sR false true false ne A B), .int .u8 (sW true false false A)]) ∧ Kep w w' := by
  have hnot : ∀ (x : Bool) (w : World), (Op.unary .not (.bool x)).run Tryd.prog w = .ok (.bool (!x)) w := fun _ _ => rfl
  all_goals
    clear hs
    go_enter Tryd.func7, Tryd.ntmps7
    go_wp2_with fail
    refine (hM.out _).mono ?_
    rintro e w1 ⟨rfl, g1⟩
    have d0 := g1.cell (o := 0) (b := w.heap.size) (by simp)
    have d1 := g1.cell (o := 1) (b := w.heap.size) (by simp)
    have d2 := g1.cell (o := 2) (b := w.heap.size) (by simp)
    have z1 : w.heap.size < w1.heap.size := g1.lt (by simp)
    simp at d0 d1 d2
    have K1 : Hid (Kep w w1) := kep_trans ((Kep.refl _).alloc _) g1
    clear g1
    go_wp2_with fail
    refine (hO.out _).mono ?_
    rintro e w2 ⟨rfl, g2⟩
    have d1' := (g2.cell (o := 1) z1).trans d1
    have d2' := (g2.cell (o := 2) z1).trans d2
    have z2 : w.heap.size < w2.heap.size := g2.lt z1
    have K2 : Hid (Kep w w2) := kep_trans K1.out g2
    have G2 : Hid (∀ o, Kep w (w2.alloc o)) := fun o => K2.out.alloc o
    clear g2 d0 d1 d2 hM hO
    go_wp2_with (first
      | (go_at_call_of 22 (Value.int .u8 a); refine (hPa.out _).mono ?_; rintro e w' ⟨rfl, rfl⟩)
      | (go_at_call_of 22 (Value.int .u8 b); refine (hPb.out _).mono ?_; rintro e w' ⟨rfl, rfl⟩))
    go_ret2
    exact ⟨by simp [sR, sW, *] <;> omega, G2.out _⟩

set_option maxHeartbeats 4000000 in
theorem sets_2 (op a b imm A B c : Int) (t f s E ne : Bool) (w : World) (hne : (a != b) = ne)
    (hA : 1 ≤ A) (hA' : A ≤ 128) (hB : 1 ≤ B) (hB' : B ≤ 128) (hs : ne = true → A + B < 256)
    (hM : Hid (∀ w, Calls Tryd.prog 20 #[.agg (insA op a b imm), .bool true] w fun e w' => e = .returned (.bool true) ∧ Kep w w'))
    (hO : Hid (∀ w, Calls Tryd.prog 21 #[.int .u8 op] w fun e w' => e = .returned (.agg #[.int .i64 c, .bool true, .bool true, .bool true, .bool false, .bool false, .bool false, .bool t, .bool f, .bool s, .bool E]) ∧ Kep w w'))
    (hPa : Hid (∀ w, Calls Tryd.prog 22 #[.int .u8 a] w fun e w' => e = .returned (.int .u8 A) ∧ w' = w)) (hPb : Hid (∀ w, Calls Tryd.prog 22 #[.int .u8 b] w fun e w' => e = .returned (.int .u8 B) ∧ w' = w)) :
    Calls Tryd.prog 7 #[.agg (insA op a b imm)] w fun e w' => e = .returned (.tuple #[.int .u8 (sR true true false ne A B), .int .u8 (sW true false false A)]) ∧ Kep w w' := by
  have hnot : ∀ (x : Bool) (w : World), (Op.unary .not (.bool x)).run Tryd.prog w = .ok (.bool (!x)) w := fun _ _ => rfl
  cases ne
  all_goals (try have hs' := hs rfl)
  all_goals
    clear hs
    go_enter Tryd.func7, Tryd.ntmps7
    go_wp2_with fail
    refine (hM.out _).mono ?_
    rintro e w1 ⟨rfl, g1⟩
    have d0 := g1.cell (o := 0) (b := w.heap.size) (by simp)
    have d1 := g1.cell (o := 1) (b := w.heap.size) (by simp)
    have d2 := g1.cell (o := 2) (b := w.heap.size) (by simp)
    have z1 : w.heap.size < w1.heap.size := g1.lt (by simp)
    simp at d0 d1 d2
    have K1 : Hid (Kep w w1) := kep_trans ((Kep.refl _).alloc _) g1
    clear g1
    go_wp2_with fail
    refine (hO.out _).mono ?_
    rintro e w2 ⟨rfl, g2⟩
    have d1' := (g2.cell (o := 1) z1).trans d1
    have d2' := (g2.cell (o := 2) z1).trans d2
    have z2 : w.heap.size < w2.heap.size := g2.lt z1
    have K2 : Hid (Kep w w2) := kep_trans K1.out g2
    have G2 : Hid (∀ o, Kep w (w2.alloc o)) := fun o => K2.out.alloc o
    clear g2 d0 d1 d2 hM hO
    go_wp2_with (first
      | (go_at_call_of 22 (Value.int .u8 a); refine (hPa.out _).mono ?_; rintro e w' ⟨rfl, rfl⟩)
      | (go_at_call_of 22 (Value.int .u8 b); refine (hPb.out _).mono ?_; rintro e w' ⟨rfl, rfl⟩))
    go_ret2
    exact ⟨by simp [sR, sW, *] <;> omega, G2.out _⟩

set_option maxHeartbeats 4000000 in
theorem sets_3 (op a b imm A B c : Int) (t f s E ne : Bool) (w : World) (hne : (a != b) = ne)
    (hA : 1 ≤ A) (hA' : A ≤ 128) (hB : 1 ≤ B) (hB' : B ≤ 128) (hs : ne = true → A + B < 256)
    (hM : Hid (∀ w, Calls Tryd.prog 20 #[.agg (insA op a b imm), .bool true] w fun e w' => e = .returned (.bool true) ∧ Kep w w'))
    (hO : Hid (∀ w, Calls Tryd.prog 21 #[.int .u8 op] w fun e w' => e = .returned (.agg #[.int .i64 c, .bool true, .bool true, .bool false, .bool false, .bool false, .bool false, .bool t, .bool f, .bool s, .bool E]) ∧ Kep w w'))
    (hPa : Hid (∀ w, Calls Tryd.prog 22 #[.int .u8 a] w fun e w' => e = .returned (.int .u8 A) ∧ w' = w)) (hPb : Hid (∀ w, Calls Tryd.prog 22 #[.int .u8 b] w fun e w' => e = .returned (.int .u8 B) ∧ w' = w)) :
    Calls Tryd.prog 7 #[.agg (insA op a b imm)] w fun e w' => e = .returned (.tuple #[.int .u8 (sR true true false ne A B), .int .u8 (sW false false false A)]) ∧ Kep w w' := by
  have hnot : ∀ (x : Bool) (w : World), (Op.unary .not (.bool x)).run Tryd.prog w = .ok (.bool (!x)) w := fun _ _ => rfl
  cases ne
  all_goals (try have hs' := hs rfl)
  all_goals
    clear hs
    go_enter Tryd.func7, Tryd.ntmps7
    go_wp2_with fail
    refine (hM.out _).mono ?_
    rintro e w1 ⟨rfl, g1⟩
    have d0 := g1.cell (o := 0) (b := w.heap.size) (by simp)
    have d1 := g1.cell (o := 1) (b := w.heap.size) (by simp)
    have d2 := g1.cell (o := 2) (b := w.heap.size) (by simp)
    have z1 : w.heap.size < w1.heap.size := g1.lt (by simp)
    simp at d0 d1 d2
    have K1 : Hid (Kep w w1) := kep_trans ((Kep.refl _).alloc _) g1
    clear g1
    go_wp2_with fail
    refine (hO.out _).mono ?_
    rintro e w2 ⟨rfl, g2⟩
    have d1' := (g2.cell (o := 1) z1).trans d1
    have d2' := (g2.cell (o := 2) z1).trans d2
    have z2 : w.heap.size < w2.heap.size := g2.lt z1
    have K2 : Hid (Kep w w2) := kep_trans K1.out g2
    have G2 : Hid (∀ o, Kep w (w2.alloc o)) := fun o => K2.out.alloc o
    clear g2 d0 d1 d2 hM hO
    go_wp2_with (first
      | (go_at_call_of 22 (Value.int .u8 a); refine (hPa.out _).mono ?_; rintro e w' ⟨rfl, rfl⟩)
      | (go_at_call_of 22 (Value.int .u8 b); refine (hPb.out _).mono ?_; rintro e w' ⟨rfl, rfl⟩))
    go_ret2
    exact ⟨by simp [sR, sW, *] <;> omega, G2.out _⟩

set_option maxHeartbeats 4000000 in
theorem sets_4 (op a b imm A B c : Int) (t f s E ne : Bool) (w : World) (hne : (a != b) = ne)
    (hA : 1 ≤ A) (hA' : A ≤ 128) (hB : 1 ≤ B) (hB' : B ≤ 128) (hs : ne = true → A + B < 256)
    (hM : Hid (∀ w, Calls Tryd.prog 20 #[.agg (insA op a b imm), .bool true] w fun e w' => e = .returned (.bool true) ∧ Kep w w'))
    (hO : Hid (∀ w, Calls Tryd.prog 21 #[.int .u8 op] w fun e w' => e = .returned (.agg #[.int .i64 c, .bool false, .bool false, .bool true, .bool false, .bool false, .bool false, .bool t, .bool f, .bool s, .bool E]) ∧ Kep w w'))
    (hPa : Hid (∀ w, Calls Tryd.prog 22 #[.int .u8 a] w fun e w' => e = .returned (.int .u8 A) ∧ w' = w)) (hPb : Hid (∀ w, Calls Tryd.prog 22 #[.int .u8 b] w fun e w' => e = .returned (.int .u8 B) ∧ w' = w)) :
    Calls Tryd.prog 7 #[.agg (insA op a b imm)] w fun e w' => e = .returned (.tuple #[.int .u8 (sR false false false ne A B), .int .u8 (sW true false false A)]) ∧ Kep w w' := by
  have hnot : ∀ (x : Bool) (w : World), (Op.unary .not (.bool x)).run Tryd.prog w = .ok (.bool (!x)) w := fun _ _ => rfl
  all_goals
    clear hs
    go_enter Tryd.func7, Tryd.ntmps7
    go_wp2_with fail
    refine (hM.out _).mono ?_
    rintro e w1 ⟨rfl, g1⟩
    have d0 := g1.cell (o := 0) (b := w.heap.size) (by simp)
    have d1 := g1.cell (o := 1) (b := w.heap.size) (by simp)
    have d2 := g1.cell (o := 2) (b := w.heap.size) (by simp)
    have z1 : w.heap.size < w1.heap.size := g1.lt (by simp)
    simp at d0 d1 d2
    have K1 : Hid (Kep w w1) := kep_trans ((Kep.refl _).alloc _) g1
    clear g1
    go_wp2_with fail
    refine (hO.out _).mono ?_
    rintro e w2 ⟨rfl, g2⟩
    have d1' := (g2.cell (o := 1) z1).trans d1
    have d2' := (g2.cell (o := 2) z1).trans d2
    have z2 : w.heap.size < w2.heap.size := g2.lt z1
    have K2 : Hid (Kep w w2) := kep_trans K1.out g2
    have G2 : Hid (∀ o, Kep w (w2.alloc o)) := fun o => K2.out.alloc o
    clear g2 d0 d1 d2 hM hO
    go_wp2_with (first
      | (go_at_call_of 22 (Value.int .u8 a); refine (hPa.out _).mono ?_; rintro e w' ⟨rfl, rfl⟩)
      | (go_at_call_of 22 (Value.int .u8 b); refine (hPb.out _).mono ?_; rintro e w' ⟨rfl, rfl⟩))
    go_ret2
    exact ⟨by simp [sR, sW, *] <;> omega, G2.out _⟩

set_option maxHeartbeats 4000000 in
theorem sets_5 (op a b imm A B c : Int) (t f s E ne : Bool) (w : World) (hne : (a != b) = ne)
    (hA : 1 ≤ A) (hA' : A ≤ 128) (hB : 1 ≤ B) (hB' : B ≤ 128) (hs : ne = true → A + B < 256)
    (hM : Hid (∀ w, Calls Tryd.prog 20 #[.agg (insA op a b imm), .bool true] w fun e w' => e = .returned (.bool true) ∧ Kep w w'))
    (hO : Hid (∀ w, Calls Tryd.prog 21 #[.int .u8 op] w fun e w' => e = .returned (.agg #[.int .i64 c, .bool true, .bool false, .bool true, .bool false, .bool false, .bool false, .bool t, .bool f, .bool s, .bool E]) ∧ Kep w w'))
    (hPa : Hid (∀ w, Calls Tryd.prog 22 #[.int .u8 a] w fun e w' => e = .returned (.int .u8 A) ∧ w' = w)) (hPb : Hid (∀ w, Calls Tryd.prog 22 #[.int .u8 b] w fun e w' => e = .returned (.int .u8 B) ∧ w' = w)) :
    Calls Tryd.prog 7 #[.agg (insA op a b imm)] w fun e w' => e = .returned (.tuple #[.int .u8 (sR true false false ne A B), .int .u8 (sW true false false A)]) ∧ Kep w w' := by
  have hnot : ∀ (x : Bool) (w : World), (Op.unary .not (.bool x)).run Tryd.prog w = .ok (.bool (!x)) w := fun _ _ => rfl
  all_goals
    clear hs
    go_enter Tryd.func7, Tryd.ntmps7
    go_wp2_with fail
    refine (hM.out _).mono ?_
    rintro e w1 ⟨rfl, g1⟩
    have d0 := g1.cell (o := 0) (b := w.heap.size) (by simp)
    have d1 := g1.cell (o := 1) (b := w.heap.size) (by simp)
    have d2 := g1.cell (o := 2) (b := w.heap.size) (by simp)
    have z1 : w.heap.size < w1.heap.size := g1.lt (by simp)
    simp at d0 d1 d2
    have K1 : Hid (Kep w w1) := kep_trans ((Kep.refl _).alloc _) g1
    clear g1
    go_wp2_with fail
    refine (hO.out _).mono ?_
    rintro e w2 ⟨rfl, g2⟩
    have d1' := (g2.cell (o := 1) z1).trans d1
    have d2' := (g2.cell (o := 2) z1).trans d2
    have z2 : w.heap.size < w2.heap.size := g2.lt z1
    have K2 : Hid (Kep w w2) := kep_trans K1.out g2
    have G2 : Hid (∀ o, Kep w (w2.alloc o)) := fun o => K2.out.alloc o
    clear g2 d0 d1 d2 hM hO
    go_wp2_with (first
      | (go_at_call_of 22 (Value.int .u8 a); refine (hPa.out _).mono ?_; rintro e w' ⟨rfl, rfl⟩)
      | (go_at_call_of 22 (Value.int .u8 b); refine (hPb.out _).mono ?_; rintro e w' ⟨rfl, rfl⟩))
    go_ret2
    exact ⟨by simp [sR, sW, *] <;> omega, G2.out _⟩

set_option maxHeartbeats 4000000 in
theorem sets_6 (op a b imm A B c : Int) (t f s E ne : Bool) (w : World) (hne : (a != b) = ne)
    (hA : 1 ≤ A) (hA' : A ≤ 128) (hB : 1 ≤ B) (hB' : B ≤ 128) (hs : ne = true → A + B < 256)
    (hM : Hid (∀ w, Calls Tryd.prog 20 #[.agg (insA op a b imm), .bool true] w fun e w' => e = .returned (.bool true) ∧ Kep w w'))
    (hO : Hid (∀ w, Calls Tryd.prog 21 #[.int .u8 op] w fun e w' => e = .returned (.agg #[.int .i64 c, .bool true, .bool false, .bool false, .bool false, .bool true, .bool true, .bool t, .bool f, .bool s, .bool E]) ∧ Kep w w'))
    (hPa : Hid (∀ w, Calls Tryd.prog 22 #[.int .u8 a] w fun e w' => e = .returned (.int .u8 A) ∧ w' = w)) (hPb : Hid (∀ w, Calls Tryd.prog 22 #[.int .u8 b] w fun e w' => e = .returned (.int .u8 B) ∧ w' = w)) :
    Calls Tryd.prog 7 #[.agg (insA op a b imm)] w fun e w' => e = .returned (.tuple #[.int .u8 (sR true false true ne A B), .int .u8 (sW false false true A)]) ∧ Kep w w' := by
  have hnot : ∀ (x : Bool) (w : World), (Op.unary .not (.bool x)).run Tryd.prog w = .ok (.bool (!x)) w := fun _ _ => rfl
  rcases (by omega : A < 128 ∨ A = 128) with hlt | hlt
  all_goals (first | subst hlt | have hlt' : decide (A < 128) = true := by simpa using hlt)
  all_goals
    clear hs
    go_enter Tryd.func7, Tryd.ntmps7
    go_wp2_with fail
    refine (hM.out _).mono ?_
    rintro e w1 ⟨rfl, g1⟩
    have d0 := g1.cell (o := 0) (b := w.heap.size) (by simp)
    have d1 := g1.cell (o := 1) (b := w.heap.size) (by simp)
    have d2 := g1.cell (o := 2) (b := w.heap.size) (by simp)
    have z1 : w.heap.size < w1.heap.size := g1.lt (by simp)
    simp at d0 d1 d2
    have K1 : Hid (Kep w w1) := kep_trans ((Kep.refl _).alloc _) g1
    clear g1
    go_wp2_with fail
    refine (hO.out _).mono ?_
    rintro e w2 ⟨rfl, g2⟩
    have d1' := (g2.cell (o := 1) z1).trans d1
    have d2' := (g2.cell (o := 2) z1).trans d2
    have z2 : w.heap.size < w2.heap.size := g2.lt z1
    have K2 : Hid (Kep w w2) := kep_trans K1.out g2
    have G2 : Hid (∀ o, Kep w (w2.alloc o)) := fun o => K2.out.alloc o
    clear g2 d0 d1 d2 hM hO
    go_wp2_with (first
      | (go_at_call_of 22 (Value.int .u8 a); refine (hPa.out _).mono ?_; rintro e w' ⟨rfl, rfl⟩)
      | (go_at_call_of 22 (Value.int .u8 b); refine (hPb.out _).mono ?_; rintro e w' ⟨rfl, rfl⟩))
    go_ret2
    exact ⟨by simp [sR, sW, *] <;> omega, G2.out _⟩

set_option maxHeartbeats 4000000 in
theorem sets_7 (op a b imm A B c : Int) (t f s E ne : Bool) (w : World) (hne : (a != b) = ne)
    (hA : 1 ≤ A) (hA' : A ≤ 128) (hB : 1 ≤ B) (hB' : B ≤ 128) (hs : ne = true → A + B < 256)
    (hM : Hid (∀ w, Calls Tryd.prog 20 #[.agg (insA op a b imm), .bool true] w fun e w' => e = .returned (.bool true) ∧ Kep w w'))
    (hO : Hid (∀ w, Calls Tryd.prog 21 #[.int .u8 op] w fun e w' => e = .returned (.agg #[.int .i64 c, .bool false, .bool false, .bool true, .bool false, .bool true, .bool true, .bool t, .bool f, .bool s, .bool E]) ∧ Kep w w'))
    (hPa : Hid (∀ w, Calls Tryd.prog 22 #[.int .u8 a] w fun e w' => e = .returned (.int .u8 A) ∧ w' = w)) (hPb : Hid (∀ w, Calls Tryd.prog 22 #[.int .u8 b] w fun e w' => e = .returned (.int .u8 B) ∧ w' = w)) :
    Calls Tryd.prog 7 #[.agg (insA op a b imm)] w fun e w' => e = .returned (.tuple #[.int .u8 (sR false false true ne A B), .int .u8 (sW true false true A)]) ∧ Kep w w' := by
  have hnot : ∀ (x : Bool) (w : World), (Op.unary .not (.bool x)).run Tryd.prog w = .ok (.bool (!x)) w := fun _ _ => rfl
  rcases (by omega : A < 128 ∨ A = 128) with hlt | hlt
  all_goals (first | subst hlt | have hlt' : decide (A < 128) = true := by simpa using hlt)
  all_goals
    clear hs
    go_enter Tryd.func7, Tryd.ntmps7
    go_wp2_with fail
    refine (hM.out _).mono ?_
    rintro e w1 ⟨rfl, g1⟩
    have d0 := g1.cell (o := 0) (b := w.heap.size) (by simp)
    have d1 := g1.cell (o := 1) (b := w.heap.size) (by simp)
    have d2 := g1.cell (o := 2) (b := w.heap.size) (by simp)
    have z1 : w.heap.size < w1.heap.size := g1.lt (by simp)
    simp at d0 d1 d2
    have K1 : Hid (Kep w w1) := kep_trans ((Kep.refl _).alloc _) g1
    clear g1
    go_wp2_with fail
    refine (hO.out _).mono ?_
    rintro e w2 ⟨rfl, g2⟩
    have d1' := (g2.cell (o := 1) z1).trans d1
    have d2' := (g2.cell (o := 2) z1).trans d2
    have z2 : w.heap.size < w2.heap.size := g2.lt z1
    have K2 : Hid (Kep w w2) := kep_trans K1.out g2
    have G2 : Hid (∀ o, Kep w (w2.alloc o)) := fun o => K2.out.alloc o
    clear g2 d0 d1 d2 hM hO
    go_wp2_with (first
      | (go_at_call_of 22 (Value.int .u8 a); refine (hPa.out _).mono ?_; rintro e w' ⟨rfl, rfl⟩)
      | (go_at_call_of 22 (Value.int .u8 b); refine (hPb.out _).mono ?_; rintro e w' ⟨rfl, rfl⟩))
    go_ret2
    exact ⟨by simp [sR, sW, *] <;> omega, G2.out _⟩

set_option maxHeartbeats 4000000 in
theorem sets_8 (op a b imm A B c : Int) (t f s E ne : Bool) (w : World) (hne : (a != b) = ne)
    (hA : 1 ≤ A) (hA' : A ≤ 128) (hB : 1 ≤ B) (hB' : B ≤ 128) (hs : ne = true → A + B < 256)
    (hM : Hid (∀ w, Calls Tryd.prog 20 #[.agg (insA op a b imm), .bool true] w fun e w' => e = .returned (.bool true) ∧ Kep w w'))
    (hO : Hid (∀ w, Calls Tryd.prog 21 #[.int .u8 op] w fun e w' => e = .returned (.agg #[.int .i64 c, .bool false, .bool false, .bool false, .bool true, .bool false, .bool false, .bool t, .bool f, .bool s, .bool E]) ∧ Kep w w'))
    (hPa : Hid (∀ w, Calls Tryd.prog 22 #[.int .u8 a] w fun e w' => e = .returned (.int .u8 A) ∧ w' = w)) (hPb : Hid (∀ w, Calls Tryd.prog 22 #[.int .u8 b] w fun e w' => e = .returned (.int .u8 B) ∧ w' = w)) :
    Calls Tryd.prog 7 #[.agg (insA op a b imm)] w fun e w' => e = .returned (.tuple #[.int .u8 (sR false false false ne A B), .int .u8 (sW false true false A)]) ∧ Kep w w' := by
  have hnot : ∀ (x : Bool) (w : World), (Op.unary .not (.bool x)).run Tryd.prog w = .ok (.bool (!x)) w := fun _ _ => rfl
  all_goals
    clear hs
    go_enter Tryd.func7, Tryd.ntmps7
    go_wp2_with fail
    refine (hM.out _).mono ?_
    rintro e w1 ⟨rfl, g1⟩
    have d0 := g1.cell (o := 0) (b := w.heap.size) (by simp)
    have d1 := g1.cell (o := 1) (b := w.heap.size) (by simp)
    have d2 := g1.cell (o := 2) (b := w.heap.size) (by simp)
    have z1 : w.heap.size < w1.heap.size := g1.lt (by simp)
    simp at d0 d1 d2
    have K1 : Hid (Kep w w1) := kep_trans ((Kep.refl _).alloc _) g1
    clear g1
    go_wp2_with fail
    refine (hO.out _).mono ?_
    rintro e w2 ⟨rfl, g2⟩
    have d1' := (g2.cell (o := 1) z1).trans d1
    have d2' := (g2.cell (o := 2) z1).trans d2
    have z2 : w.heap.size < w2.heap.size := g2.lt z1
    have K2 : Hid (Kep w w2) := kep_trans K1.out g2
    have G2 : Hid (∀ o, Kep w (w2.alloc o)) := fun o => K2.out.alloc o
    clear g2 d0 d1 d2 hM hO
    go_wp2_with (first
      | (go_at_call_of 22 (Value.int .u8 a); refine (hPa.out _).mono ?_; rintro e w' ⟨rfl, rfl⟩)
      | (go_at_call_of 22 (Value.int .u8 b); refine (hPb.out _).mono ?_; rintro e w' ⟨rfl, rfl⟩))
    go_ret2
    exact ⟨by simp [sR, sW, *] <;> omega, G2.out _⟩

set_option maxHeartbeats 4000000 in
theorem sets_9 (op a b imm A B c : Int) (t f s E ne : Bool) (w : World) (hne : (a != b) = ne)
    (hA : 1 ≤ A) (hA' : A ≤ 128) (hB : 1 ≤ B) (hB' : B ≤ 128) (hs : ne = true → A + B < 256)
    (hM : Hid (∀ w, Calls Tryd.prog 20 #[.agg (insA op a b imm), .bool true] w fun e w' => e = .returned (.bool true) ∧ Kep w w'))
    (hO : Hid (∀ w, Calls Tryd.prog 21 #[.int .u8 op] w fun e w' => e = .returned (.agg #[.int .i64 c, .bool true, .bool false, .bool false, .bool false, .bool false, .bool false, .bool t, .bool f, .bool s, .bool E]) ∧ Kep w w'))
    (hPa : Hid (∀ w, Calls Tryd.prog 22 #[.int .u8 a] w fun e w' => e = .returned (.int .u8 A) ∧ w' = w)) (hPb : Hid (∀ w, Calls Tryd.prog 22 #[.int .u8 b] w fun e w' => e = .returned (.int .u8 B) ∧ w' = w)) :
    Calls Tryd.prog 7 #[.agg (insA op a b imm)] w fun e w' => e = .returned (.tuple #[.int .u8 (sR true false false ne A B), .int .u8 (sW false false false A)]) ∧ Kep w w' := by
  have hnot : ∀ (x : Bool) (w : World), (Op.unary .not (.bool x)).run Tryd.prog w = .ok (.bool (!x)) w := fun _ _ => rfl
  all_goals
    clear hs
    go_enter Tryd.func7, Tryd.ntmps7
    go_wp2_with fail
    refine (hM.out _).mono ?_
    rintro e w1 ⟨rfl, g1⟩
    have d0 := g1.cell (o := 0) (b := w.heap.size) (by simp)
    have d1 := g1.cell (o := 1) (b := w.heap.size) (by simp)
    have d2 := g1.cell (o := 2) (b := w.heap.size) (by simp)
    have z1 : w.heap.size < w1.heap.size := g1.lt (by simp)
    simp at d0 d1 d2
    have K1 : Hid (Kep w w1) := kep_trans ((Kep.refl _).alloc _) g1
    clear g1
    go_wp2_with fail
    refine (hO.out _).mono ?_
    rintro e w2 ⟨rfl, g2⟩
    have d1' := (g2.cell (o := 1) z1).trans d1
    have d2' := (g2.cell (o := 2) z1).trans d2
    have z2 : w.heap.size < w2.heap.size := g2.lt z1
    have K2 : Hid (Kep w w2) := kep_trans K1.out g2
    have G2 : Hid (∀ o, Kep w (w2.alloc o)) := fun o => K2.out.alloc o
    clear g2 d0 d1 d2 hM hO
    go_wp2_with (first
      | (go_at_call_of 22 (Value.int .u8 a); refine (hPa.out _).mono ?_; rintro e w' ⟨rfl, rfl⟩)
      | (go_at_call_of 22 (Value.int .u8 b); refine (hPb.out _).mono ?_; rintro e w' ⟨rfl, rfl⟩))
    go_ret2
    exact ⟨by simp [sR, sW, *] <;> omega, G2.out _⟩

set_option maxHeartbeats 4000000 in
theorem sets_10 (op a b imm A B c : Int) (t f s E ne : Bool) (w : World) (hne : (a != b) = ne)
    (hA : 1 ≤ A) (hA' : A ≤ 128) (hB : 1 ≤ B) (hB' : B ≤ 128) (hs : ne = true → A + B < 256)
    (hM : Hid (∀ w, Calls Tryd.prog 20 #[.agg (insA op a b imm), .bool true] w fun e w' => e = .returned (.bool true) ∧ Kep w w'))
    (hO : Hid (∀ w, Calls Tryd.prog 21 #[.int .u8 op] w fun e w' => e = .returned (.agg #[.int .i64 c, .bool true, .bool false, .bool false, .bool true, .bool false, .bool false, .bool t, .bool f, .bool s, .bool E]) ∧ Kep w w'))
    (hPa : Hid (∀ w, Calls Tryd.prog 22 #[.int .u8 a] w fun e w' => e = .returned (.int .u8 A) ∧ w' = w)) (hPb : Hid (∀ w, Calls Tryd.prog 22 #[.int .u8 b] w fun e w' => e = .returned (.int .u8 B) ∧ w' = w)) :
    Calls Tryd.prog 7 #[.agg (insA op a b imm)] w fun e w' => e = .returned (.tuple #[.int .u8 (sR true false false ne A B), .int .u8 (sW false true false A)]) ∧ Kep w w' := by
  have hnot : ∀ (x : Bool) (w : World), (Op.unary .not (.bool x)).run Tryd.prog w = .ok (.bool (!x)) w := fun _ _ => rfl
  all_goals
    clear hs
    go_enter Tryd.func7, Tryd.ntmps7
    go_wp2_with fail
    refine (hM.out _).mono ?_
    rintro e w1 ⟨rfl, g1⟩
    have d0 := g1.cell (o := 0) (b := w.heap.size) (by simp)
    have d1 := g1.cell (o := 1) (b := w.heap.size) (by simp)
    have d2 := g1.cell (o := 2) (b := w.heap.size) (by simp)
    have z1 : w.heap.size < w1.heap.size := g1.lt (by simp)
    simp at d0 d1 d2
    have K1 : Hid (Kep w w1) := kep_trans ((Kep.refl _).alloc _) g1
    clear g1
    go_wp2_with fail
    refine (hO.out _).mono ?_
    rintro e w2 ⟨rfl, g2⟩
    have d1' := (g2.cell (o := 1) z1).trans d1
    have d2' := (g2.cell (o := 2) z1).trans d2
    have z2 : w.heap.size < w2.heap.size := g2.lt z1
    have K2 : Hid (Kep w w2) := kep_trans K1.out g2
    have G2 : Hid (∀ o, Kep w (w2.alloc o)) := fun o => K2.out.alloc o
    clear g2 d0 d1 d2 hM hO
    go_wp2_with (first
      | (go_at_call_of 22 (Value.int .u8 a); refine (hPa.out _).mono ?_; rintro e w' ⟨rfl, rfl⟩)
      | (go_at_call_of 22 (Value.int .u8 b); refine (hPb.out _).mono ?_; rintro e w' ⟨rfl, rfl⟩))
    go_ret2
    exact ⟨by simp [sR, sW, *] <;> omega, G2.out _⟩

end Go.Proofs.YtppcfhaiogjfgaaDoor
