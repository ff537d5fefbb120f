/- An operation's name by the code's table, and the operation of a name. -/
import Derived.Test.YthmbajehcffnbaaDoorTrun
import Derived.LoopTactic
namespace Go.Proofs.YthmbajehcffnbaaDoor
open Go.RowKit
set_option linter.unusedVariables false

def nameIn : List Run → Int → Array UInt8
  | [], _ => #[]
  | r :: rs, op => if r.first ≤ op ∧ op - r.first < r.names.length then r.names.getD (op - r.first).toNat #[] else nameIn rs op
def nameA (op : Int) : Array UInt8 := nameIn runsT op
theorem runsT_ok : ∀ r ∈ runsT, 0 ≤ r.first ∧ r.first ≤ 112 ∧ 1 ≤ r.names.length ∧ r.names.length ≤ 16 := by decide
theorem nameIn_drop {k : Nat} {r : Run} (h : runsT[k]? = some r) (op : Int) : nameIn (runsT.drop k) op = if r.first ≤ op ∧ op - r.first < r.names.length then r.names.getD (op - r.first).toNat #[] else nameIn (runsT.drop (k + 1)) op := by
  obtain ⟨hk, rfl⟩ := List.getElem?_eq_some_iff.1 h
  rw [List.drop_eq_getElem_cons hk]
  rfl

set_option maxHeartbeats 2000000 in
set_option maxRecDepth 100000 in
theorem nameOf_any (op : Int) (w : World) (h0 : 0 ≤ op) (h1 : op < 256) :
    Calls Tryd.prog 15 #[.int .u8 op] w fun e w' => e = .returned (.string ⟨nameA op⟩) ∧ Kep w w' := by
  go_enter Tryd.func15, Tryd.ntmps15
  go_wp2_with fail
  refine (runs_call _).mono ?_
  rintro e w1 ⟨T, B, rfl, hR, k1⟩
  have K1 : Hid (Kep w w1) := k1
  clear k1
  go_wp2_with fail
  go_loopw [7] (fun i wr => ∃ k : Nat, (k : Int) ≤ 8 ∧ i = .int .i64 k ∧ Hid (RunsAt wr T B) ∧ Hid (Kep w wr) ∧ Hid (nameIn (runsT.drop k) op = nameA op)) (fun i _ => 30 - (intOf i).toNat)
  case atStart => exact ⟨0, by omega, rfl, hR, K1, rfl⟩
  case round =>
    obtain ⟨k, hk, rfl, hRk, hKk, hN⟩ := hrel
    by_cases hlt : (k : Int) < 8
    · obtain ⟨r, hr⟩ : ∃ r, runsT[k]? = some r := ⟨_, List.getElem?_eq_getElem (show k < runsT.length from by have : runsT.length = 8 := rfl; omega)⟩
      have a0 : wr.cell? ⟨T, k * 2, none⟩ = some (.int .u8 r.first) := hRk.out.row0 k r hr
      have a1 : wr.cell? ⟨T, k * 2 + 1, none⟩ = some (.slice (some ⟨B + k, 0, none⟩) r.names.length r.names.length) := hRk.out.row1 k r hr
      obtain ⟨o1, o2, o3, o4⟩ := runsT_ok r (List.mem_of_getElem? hr)
      have o4' : (r.names.length : Int) ≤ 16 := by omega
      have hD := nameIn_drop hr op
      have hD' : Hid _ := hD
      clear hD o4 o3
      obtain ⟨f, hf⟩ : ∃ f, Hid (f = r.first) := ⟨_, rfl⟩
      obtain ⟨n, hn⟩ : ∃ n, Hid (n = r.names.length) := ⟨_, rfl⟩
      rw [← hf.out] at a0 o1 o2
      rw [← hn.out] at a1 o4'
      have hbs : B + k < wr.heap.size := by have := hRk.out.lt; omega
      have hTs : T < wr.heap.size := hRk.out.tb
      by_cases hin : f ≤ op ∧ op - f < n
      · obtain ⟨i1, i2⟩ := hin
        obtain ⟨s, hs⟩ : ∃ s, r.names[(op - f).toNat]? = some s := ⟨_, List.getElem?_eq_getElem (by have := hn.out; omega)⟩
        have hc := hRk.out.name k _ r s hr hs
        have hfin : Hid (nameA op = s) := by
          have h := hD'.out
          rw [hN.out, ← hf.out, ← hn.out, if_pos ⟨i1, i2⟩] at h
          rw [h, List.getD_eq_getElem?_getD, hs]; rfl
        clear hs
        go_wp2_with fail
        go_ret
        exact ⟨by rw [hfin.out]; rfl, hKk.out.alloc _⟩
      · have hno : Hid (nameIn (runsT.drop (k + 1)) op = nameA op) := by
          have h := hD'.out
          rw [hN.out, ← hf.out, ← hn.out, if_neg hin] at h
          exact h.symm
        rcases (by omega : op < f ∨ (f ≤ op ∧ (n : Int) ≤ op - f)) with hq | ⟨hq, hq'⟩
        all_goals
          clear hin
          go_wp2_with fail
          go_roundw
          case rel => exact ⟨k + 1, by omega, by go_num, hRk.out.kep ((Kep.refl _).alloc _), hKk.out.alloc _, hno⟩
          case measure => simp [intOf]; omega
    · have hk2 : k = 8 := by omega
      subst hk2
      have hfin : Hid (nameA op = #[]) := hN.out.symm.trans rfl
      go_wp2_with fail
      go_ret
      exact ⟨by rw [hfin.out]; rfl, hKk.out⟩
end Go.Proofs.YthmbajehcffnbaaDoor
