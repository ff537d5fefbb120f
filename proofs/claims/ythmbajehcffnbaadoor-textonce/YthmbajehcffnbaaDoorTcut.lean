/- A text cut at its first blank. -/
import Derived.Test.YthmbajehcffnbaaDoorTtab
import Derived.Lib.Bytealg
import Derived.Deep.RegionWith
namespace Go.Proofs.YthmbajehcffnbaaDoor
open Go.RowKit
set_option linter.unusedVariables false

set_option maxHeartbeats 2000000 in
set_option maxRecDepth 100000 in
theorem cut_miss0 (s : ByteArray) (w : World) (h : Lib.indexByte s.data.toList 32 = -1) :
    Calls Tryd.prog 48 #[.string s, .string ⟨#[32]⟩] w fun e w' => e = .returned (.tuple #[.string s, .string ⟨#[]⟩, .bool false]) ∧ w' = w := by
  have HI : Hid (∀ w, Calls Tryd.prog 55 #[.string s, .string ⟨#[32]⟩] w fun e w' => e = .returned (.int .i64 (-1)) ∧ w' = w) := fun w => h ▸ Tryd.stringslite_Index_one s 32 w
  clear h
  go_enter Tryd.func48, Tryd.ntmps48
  go_wp2_with fail
  refine (HI.out _).mono ?_
  rintro e w1 ⟨rfl, rfl⟩
  go_wp2_with fail
  go_ret3
  exact ⟨rfl, rfl⟩

set_option maxHeartbeats 2000000 in
set_option maxRecDepth 100000 in
theorem cut_hit0 (s : ByteArray) (i : Nat) (w : World) (hs : (s.size : Int) ≤ 140737488355328) (hi : (i : Int) + 1 ≤ s.size) (h : Lib.indexByte s.data.toList 32 = i) :
    Calls Tryd.prog 48 #[.string s, .string ⟨#[32]⟩] w fun e w' => e = .returned (.tuple #[.string (s.extract 0 i), .string (s.extract (i + 1) s.size), .bool true]) ∧ ∃ n, w' = w.drewN n := by
  have HI : Hid (∀ w, Calls Tryd.prog 55 #[.string s, .string ⟨#[32]⟩] w fun e w' => e = .returned (.int .i64 i) ∧ w' = w) := fun w => h ▸ Tryd.stringslite_Index_one s 32 w
  have hz : (⟨#[32]⟩ : ByteArray).size = 1 := rfl
  clear h
  go_enter Tryd.func48, Tryd.ntmps48
  go_wp2_with fail
  refine (HI.out _).mono ?_
  rintro e w1 ⟨rfl, rfl⟩
  have c1 : (0 : Int) ≤ ↑i := by omega
  have c2 : (↑i : Int) ≤ ↑s.size := by omega
  have c3 : (0 : Int) ≤ ↑i + 1 := by omega
  go_wp2_with fail
  go_region
  go_wp2_with fail
  go_ret3
  exact ⟨rfl, 1, rfl⟩

def cutL : List UInt8 → List UInt8 × List UInt8 × Bool
  | [] => ([], [], false)
  | c :: cs => if c = 32 then ([], cs, true) else (c :: (cutL cs).1, (cutL cs).2.1, (cutL cs).2.2)
theorem cutL_miss : ∀ l : List UInt8, Lib.indexByte l 32 = -1 → cutL l = (l, [], false)
  | [], _ => rfl
  | c :: cs, h => by
    have hg := Lib.indexByte_ge cs 32
    simp only [Lib.indexByte] at h
    by_cases hc : c = 32
    · simp [hc] at h
    · have h2 : (c == 32) = false := by simpa using hc
      rw [h2] at h
      simp only [Bool.false_eq_true, if_false] at h
      have h3 : Lib.indexByte cs 32 = -1 := by
        by_cases e : Lib.indexByte cs 32 = -1
        · exact e
        · have e2 : (Lib.indexByte cs 32 == -1) = false := by simpa using e
          rw [e2] at h
          simp only [Bool.false_eq_true, if_false] at h
          omega
      simp only [cutL]
      rw [if_neg hc, cutL_miss cs h3]
theorem cutL_hit : ∀ (l : List UInt8) (i : Nat), Lib.indexByte l 32 = i → cutL l = (l.take i, l.drop (i + 1), true) ∧ i < l.length
  | [], i, h => by simp only [Lib.indexByte] at h; omega
  | c :: cs, i, h => by
    have hg := Lib.indexByte_ge cs 32
    simp only [Lib.indexByte] at h
    by_cases hc : c = 32
    · have h2 : (c == 32) = true := by simpa using hc
      rw [h2] at h
      simp only [if_true] at h
      obtain rfl : i = 0 := by omega
      simp [cutL, hc]
    · have h2 : (c == 32) = false := by simpa using hc
      rw [h2] at h
      simp only [Bool.false_eq_true, if_false] at h
      by_cases e : Lib.indexByte cs 32 = -1
      · have e2 : (Lib.indexByte cs 32 == -1) = true := by simpa using e
        rw [e2] at h
        simp only [if_true] at h
        omega
      · have e2 : (Lib.indexByte cs 32 == -1) = false := by simpa using e
        rw [e2] at h
        simp only [Bool.false_eq_true, if_false] at h
        obtain ⟨j, hj⟩ : ∃ j : Nat, Lib.indexByte cs 32 = j := ⟨(Lib.indexByte cs 32).toNat, by omega⟩
        obtain rfl : i = j + 1 := by omega
        obtain ⟨h3, h4⟩ := cutL_hit cs j hj
        simp only [cutL]
        rw [if_neg hc, h3]
        exact ⟨by simp, by simp; omega⟩
theorem ba_list (l : List UInt8) (s : ByteArray) (h : s.data.toList = l) : s = ⟨l.toArray⟩ := by
  subst h
  cases s
  simp

set_option maxHeartbeats 1000000 in
theorem cut_up (s x y : ByteArray) (b : Bool) (w : World) (H : ∀ w, Calls Tryd.prog 48 #[.string s, .string ⟨#[32]⟩] w fun e w' => e = .returned (.tuple #[.string x, .string y, .bool b]) ∧ ∃ n, w' = w.drewN n) :
    Calls Tryd.prog 41 #[.string s, .string ⟨#[32]⟩] w fun e w' => e = .returned (.tuple #[.string x, .string y, .bool b]) ∧ ∃ n, w' = w.drewN n := by
  have H' : Hid _ := H
  clear H
  go_enter Tryd.func41, Tryd.ntmps41
  go_wp2_with fail
  refine (H'.out _).mono ?_
  rintro e w1 ⟨rfl, n, rfl⟩
  go_wp2_with fail
  go_ret3
  exact ⟨rfl, n, rfl⟩
theorem cut_any (l : List UInt8) (hl : (l.length : Int) ≤ 140737488355328) (w : World) :
    Calls Tryd.prog 41 #[.string ⟨l.toArray⟩, .string ⟨#[32]⟩] w fun e w' => e = .returned (.tuple #[.string ⟨(cutL l).1.toArray⟩, .string ⟨(cutL l).2.1.toArray⟩, .bool (cutL l).2.2]) ∧ ∃ n, w' = w.drewN n := by
  refine cut_up _ _ _ _ w fun w => ?_
  have hg := Lib.indexByte_ge l 32
  have hd : (⟨l.toArray⟩ : ByteArray).data.toList = l := by simp
  have hz : (⟨l.toArray⟩ : ByteArray).size = l.length := by simp [ByteArray.size]
  by_cases e : Lib.indexByte l 32 = -1
  · rw [cutL_miss l e]
    exact (cut_miss0 ⟨l.toArray⟩ w (by rw [hd]; exact e)).mono fun _ _ h => ⟨h.1, 0, h.2⟩
  · obtain ⟨j, hj⟩ : ∃ j : Nat, Lib.indexByte l 32 = j := ⟨(Lib.indexByte l 32).toNat, by omega⟩
    obtain ⟨h1, h2⟩ := cutL_hit l j hj
    have := cut_hit0 ⟨l.toArray⟩ j w (by rw [hz]; exact hl) (by rw [hz]; omega) (by rw [hd]; exact hj)
    rw [h1]
    have e1 : (⟨l.toArray⟩ : ByteArray).extract 0 j = ⟨(l.take j).toArray⟩ := ba_list _ _ (by rw [Lib.extract_data, hd]; simp)
    have e2 : (⟨l.toArray⟩ : ByteArray).extract (j + 1) (⟨l.toArray⟩ : ByteArray).size = ⟨(l.drop (j + 1)).toArray⟩ := ba_list _ _ (by rw [Lib.extract_data, hd, hz, List.take_of_length_le (by simp)])
    rw [e1, e2] at this
    exact this
end Go.Proofs.YthmbajehcffnbaaDoor
