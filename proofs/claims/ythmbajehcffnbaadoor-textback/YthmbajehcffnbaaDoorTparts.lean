/- The words of a text as they lie behind the cut; how many words a form has. -/
import Derived.Test.YthmbajehcffnbaaDoorTcuts
import Derived.Test.YthmbajehcffnbaaDoorTreg
import Derived.Test.YthmbajehcffnbaaDoorTnumber
import Derived.Test.YthmbajehcffnbaaDoorTform
namespace Go.Proofs.YthmbajehcffnbaaDoor
open Go.RowKit
set_option linter.unusedVariables false

structure PartsAt (w : World) (g : Nat) (ps : List (List UInt8)) : Prop where
  cell : ∀ (j : Nat) (x : List UInt8), ps[j]? = some x → w.cell? ⟨g, j, none⟩ = some (strV x)
  lt : g < w.heap.size
theorem PartsAt.kep {w w' : World} {g : Nat} {ps : List (List UInt8)} (h : PartsAt w g ps) (k : Kep w w') : PartsAt w' g ps := ⟨fun j x hx => (k.cell h.lt).trans (h.cell j x hx), k.lt h.lt⟩
theorem parts_of {w : World} {base g cap n : Nat} {ps : List (List UInt8)} (h : w.ownsRow base 9 1 (.slice (some ⟨g, 0, none⟩) n cap) n (ps.map strV)) (hn : 0 < n) : PartsAt w g ps := by
  refine ⟨fun j x hx => ?_, ?_⟩
  · have := World.ownsRow.cells h rfl j (strV x) (by simp [hx])
    rw [Addr.add_lit] at this
    simpa using this
  · rcases h.2 with ⟨h1, _⟩ | ⟨g', cap', cur, h1, _, h3, _⟩
    · cases h1
    · cases h1
      rcases Nat.lt_or_ge g w.heap.size with q | q
      · exact q
      · rw [Array.getElem?_eq_none q] at h3; cases h3
theorem tcut_any (s : List UInt8) (hs : (s.length : Int) ≤ 140737488355328) (w : World) :
    Calls Tryd.prog 23 #[strV s] w fun e w' => ((e = .returned (.tuple #[.slice none 0 0, .bool false]) ∧ [] ∈ (splitL s).take 5) ∨
      (∃ g cap, e = .returned (.tuple #[.slice (some ⟨g, 0, none⟩) ((splitL s).take 5).length cap, .bool true]) ∧ [] ∉ (splitL s).take 5 ∧ PartsAt w' g ((splitL s).take 5))) ∧ Kep w w' := by
  refine (callsIn_wide.1 (cuts_in s hs w)).mono ?_
  rintro e w' ⟨h | ⟨v, h1, h2, h3⟩, hB⟩
  · exact ⟨.inl h, hB⟩
  · have hpos : 0 < ((splitL s).take 5).length := by
      have := List.length_pos_iff.2 (splitL_ne s)
      rw [List.length_take]
      omega
    obtain ⟨g, cap, rfl⟩ := owns_slice h3 hpos
    exact ⟨.inr ⟨g, cap, h1, h2, parts_of h3 hpos⟩, hB⟩

set_option maxHeartbeats 1000000 in
theorem fwords_any (ls : Array UInt8) (num : Bool) (h : (ls.size : Int) ≤ 2) (w : World) :
    Calls Tryd.prog 25 #[.agg #[.string ⟨ls⟩, .bool num]] w fun e w' => e = .returned (.int .i64 (1 + ls.size + if num then 1 else 0)) ∧ Kep w w' := by
  have hz : (⟨ls⟩ : ByteArray).size = ls.size := rfl
  cases num
  all_goals
    go_enter Tryd.func25, Tryd.ntmps25
    go_wp2_with fail
    go_ret
    exact ⟨ret_int (by simp <;> omega), (Kep.refl _).alloc _⟩
end Go.Proofs.YthmbajehcffnbaaDoor
