/- What is known of an operation, as the code's table lays it: letters read into places. -/
import Derived.Test.YtpalbpjmjbcelaaDoorLaid
import Derived.Deep.RegionWith
import Derived.Laws.Rows
namespace Go.Proofs.YtpalbpjmjbcelaaDoor
open Go.RowKit
set_option linter.unusedVariables false

/-- Letters as they stand in the table. -/
def lets : List (Array UInt8) := [#[], #[97], #[98], #[97, 98], #[97, 115], #[115], #[108]]
def pA (s : Array UInt8) : Bool := s.toList.contains 97
def pB (s : Array UInt8) : Bool := s.toList.contains 98
def pI (s : Array UInt8) : Int := (if s.toList.contains 115 then 128 else 0) + (if s.toList.contains 108 then 64 else 0)
def plV (s : Array UInt8) : Array Value := #[.bool (pA s), .bool (pB s), .int .u8 (pI s)]

set_option maxHeartbeats 2000000 in
theorem pl_0 (w : World) : Calls Tryd.prog 52 #[.string ⟨#[]⟩] w fun e w' => e = .returned (.agg #[.bool false, .bool false, .int .u8 0]) ∧ ∃ o1 o2, w' = (w.alloc o1).alloc o2 := by
  go_enter Tryd.func52, Tryd.ntmps52
  go_wp2
  go_rounds 1
  go_returns
  exact ⟨rfl, _, _, rfl⟩

set_option maxHeartbeats 2000000 in
theorem pl_1 (w : World) : Calls Tryd.prog 52 #[.string ⟨#[97]⟩] w fun e w' => e = .returned (.agg #[.bool true, .bool false, .int .u8 0]) ∧ ∃ o1 o2, w' = (w.alloc o1).alloc o2 := by
  go_enter Tryd.func52, Tryd.ntmps52
  go_wp2
  go_rounds 2
  go_returns
  exact ⟨rfl, _, _, rfl⟩

set_option maxHeartbeats 2000000 in
theorem pl_2 (w : World) : Calls Tryd.prog 52 #[.string ⟨#[98]⟩] w fun e w' => e = .returned (.agg #[.bool false, .bool true, .int .u8 0]) ∧ ∃ o1 o2, w' = (w.alloc o1).alloc o2 := by
  go_enter Tryd.func52, Tryd.ntmps52
  go_wp2
  go_rounds 2
  go_returns
  exact ⟨rfl, _, _, rfl⟩

set_option maxHeartbeats 2000000 in
theorem pl_3 (w : World) : Calls Tryd.prog 52 #[.string ⟨#[97, 98]⟩] w fun e w' => e = .returned (.agg #[.bool true, .bool true, .int .u8 0]) ∧ ∃ o1 o2, w' = (w.alloc o1).alloc o2 := by
  go_enter Tryd.func52, Tryd.ntmps52
  go_wp2
  go_rounds 3
  go_returns
  exact ⟨rfl, _, _, rfl⟩

set_option maxHeartbeats 2000000 in
theorem pl_4 (w : World) : Calls Tryd.prog 52 #[.string ⟨#[97, 115]⟩] w fun e w' => e = .returned (.agg #[.bool true, .bool false, .int .u8 128]) ∧ ∃ o1 o2, w' = (w.alloc o1).alloc o2 := by
  go_enter Tryd.func52, Tryd.ntmps52
  go_wp2
  go_rounds 3
  go_returns
  exact ⟨rfl, _, _, rfl⟩

set_option maxHeartbeats 2000000 in
theorem pl_5 (w : World) : Calls Tryd.prog 52 #[.string ⟨#[115]⟩] w fun e w' => e = .returned (.agg #[.bool false, .bool false, .int .u8 128]) ∧ ∃ o1 o2, w' = (w.alloc o1).alloc o2 := by
  go_enter Tryd.func52, Tryd.ntmps52
  go_wp2
  go_rounds 2
  go_returns
  exact ⟨rfl, _, _, rfl⟩

set_option maxHeartbeats 2000000 in
theorem pl_6 (w : World) : Calls Tryd.prog 52 #[.string ⟨#[108]⟩] w fun e w' => e = .returned (.agg #[.bool false, .bool false, .int .u8 64]) ∧ ∃ o1 o2, w' = (w.alloc o1).alloc o2 := by
  go_enter Tryd.func52, Tryd.ntmps52
  go_wp2
  go_rounds 2
  go_returns
  exact ⟨rfl, _, _, rfl⟩

theorem placesBy_any (s : Array UInt8) (h : s ∈ lets) (w : World) : Calls Tryd.prog 52 #[.string ⟨s⟩] w fun e w' => e = .returned (.agg (plV s)) ∧ ∃ o1 o2, w' = (w.alloc o1).alloc o2 := by
  simp only [lets, List.mem_cons, List.not_mem_nil, or_false] at h
  rcases h with rfl | rfl | rfl | rfl | rfl | rfl | rfl
  · have e : plV #[] = #[.bool false, .bool false, .int .u8 0] := by kernel_rfl
    rw [e]; exact pl_0 w
  · have e : plV #[97] = #[.bool true, .bool false, .int .u8 0] := by kernel_rfl
    rw [e]; exact pl_1 w
  · have e : plV #[98] = #[.bool false, .bool true, .int .u8 0] := by kernel_rfl
    rw [e]; exact pl_2 w
  · have e : plV #[97, 98] = #[.bool true, .bool true, .int .u8 0] := by kernel_rfl
    rw [e]; exact pl_3 w
  · have e : plV #[97, 115] = #[.bool true, .bool false, .int .u8 128] := by kernel_rfl
    rw [e]; exact pl_4 w
  · have e : plV #[115] = #[.bool false, .bool false, .int .u8 128] := by kernel_rfl
    rw [e]; exact pl_5 w
  · have e : plV #[108] = #[.bool false, .bool false, .int .u8 64] := by kernel_rfl
    rw [e]; exact pl_6 w
end Go.Proofs.YtpalbpjmjbcelaaDoor
