/- The operation that has a name, by the code's table. -/
import Derived.Test.YthmbajehcffnbaaDoorTname
import Derived.WalkMore
import Derived.Lib.Strings
namespace Go.Proofs.YthmbajehcffnbaaDoor
open Go.RowKit
set_option linter.unusedVariables false

def idxIn : List (Array UInt8) → Array UInt8 → Nat → Option Nat
  | [], _, _ => none
  | n :: ns, s, j => if n = s then some j else idxIn ns s (j + 1)
def namedIn : List Run → Array UInt8 → Option Int
  | [], _ => none
  | r :: rs, s => match idxIn r.names s 0 with
    | some k => some (r.first + k)
    | none => namedIn rs s
def namedA (s : Array UInt8) : Option Int := namedIn runsT s
def opV : Option Int → Int
  | none => 0
  | some x => x
theorem idxIn_drop {ns : List (Array UInt8)} {j : Nat} {n : Array UInt8} (h : ns[j]? = some n) (s : Array UInt8) : idxIn (ns.drop j) s j = if n = s then some j else idxIn (ns.drop (j + 1)) s (j + 1) := by
  obtain ⟨hk, rfl⟩ := List.getElem?_eq_some_iff.1 h
  rw [List.drop_eq_getElem_cons hk]
  rfl
theorem namedIn_drop {k : Nat} {r : Run} (h : runsT[k]? = some r) (s : Array UInt8) : namedIn (runsT.drop k) s = match idxIn r.names s 0 with
    | some j => some (r.first + j)
    | none => namedIn (runsT.drop (k + 1)) s := by
  obtain ⟨hk, rfl⟩ := List.getElem?_eq_some_iff.1 h
  rw [List.drop_eq_getElem_cons hk]
  rfl

theorem str_data (a : ByteArray) : a.toList = a.data.toList := Lib.toList_data a
theorem str_ne {a b : Array UInt8} (h : a ≠ b) : ((⟨a⟩ : ByteArray).toList == (⟨b⟩ : ByteArray).toList) = false := by
  rw [str_data, str_data, beq_eq_false_iff_ne]
  intro h2
  exact h (Array.toList_inj.1 h2)
theorem str_full {a : Array UInt8} (h : a ≠ #[]) : (⟨a⟩ : ByteArray).toList.isEmpty = false := by
  rw [str_data]
  cases hl : a.toList with
  | nil => exact absurd (Array.toList_inj.1 (hl.trans rfl)) h
  | cons x xs => rfl

set_option maxHeartbeats 2000000 in
set_option maxRecDepth 100000 in
theorem named_any (s : Array UInt8) (w : World) :
    Calls Tryd.prog 24 #[.string ⟨s⟩] w fun e w' => e = .returned (.tuple #[.int .u8 (opV (namedA s)), .bool (namedA s).isSome]) ∧ Kep w w' := by
  go_enter Tryd.func24, Tryd.ntmps24
  go_wp2_with fail
  try go_step3
  try go_wp2_with fail
  try go_step3
  go_wp2_with fail
  refine (runs_call _).mono ?_
  rintro e w1 ⟨T, B, rfl, hR, k1⟩
  have K1 : Hid (Kep w w1) := k1
  clear k1
  go_wp2_with fail
  go_loopw [2, 3, 10] (fun a b i wr => a = .int .u8 0 ∧ b = .bool false ∧ ∃ k : Nat, (k : Int) ≤ 8 ∧ i = .int .i64 k ∧ Hid (RunsAt wr T B) ∧ Hid (Kep w wr) ∧ Hid (namedIn (runsT.drop k) s = namedA s)) (fun _ _ i _ => 30 - (intOf i).toNat)
  case atStart => exact ⟨rfl, rfl, 0, by omega, rfl, hR, K1, rfl⟩
  case round =>
    obtain ⟨rfl, rfl, k, hk, rfl, hRk, hKk, hN⟩ := hrel
    by_cases hlt : (k : Int) < 8
    · obtain ⟨r, hr⟩ : ∃ r, runsT[k]? = some r := ⟨_, List.getElem?_eq_getElem (show k < runsT.length from by have : runsT.length = 8 := rfl; omega)⟩
      have a0 : wr.cell? ⟨T, k * 2, none⟩ = some (.int .u8 r.first) := hRk.out.row0 k r hr
      have a1 : wr.cell? ⟨T, k * 2 + 1, none⟩ = some (.slice (some ⟨B + k, 0, none⟩) r.names.length r.names.length) := hRk.out.row1 k r hr
      obtain ⟨o1, o2, o3, o4⟩ := runsT_ok r (List.mem_of_getElem? hr)
      have o4' : (r.names.length : Int) ≤ 16 := by omega
      have hD' : Hid _ := namedIn_drop hr s
      clear o4 o3
      obtain ⟨f, hf⟩ : ∃ f, Hid (f = r.first) := ⟨_, rfl⟩
      obtain ⟨n, hn⟩ : ∃ n, Hid (n = r.names.length) := ⟨_, rfl⟩
      rw [← hf.out] at a0 o1 o2
      rw [← hn.out] at a1 o4'
      have hbs : B + k < wr.heap.size := by have := hRk.out.lt; omega
      have hTs : T < wr.heap.size := hRk.out.tb
      go_wp2_with fail
      go_loopw [2, 3, 17] (fun a b i wi => a = .int .u8 0 ∧ b = .bool false ∧ ∃ j : Nat, (j : Int) ≤ n ∧ i = .int .i64 j ∧ wi = wr.alloc (.cells #[.int .u8 f, .slice (some ⟨B + k, 0, none⟩) n n] 67) ∧ Hid (idxIn (r.names.drop j) s j = idxIn r.names s 0)) (fun _ _ i _ => 30 - (intOf i).toNat)
      case atStart => exact ⟨rfl, rfl, 0, by omega, rfl, rfl, rfl⟩
      case round =>
        obtain ⟨rfl, rfl, j, hj, rfl, rfl, hI⟩ := hrel
        by_cases hlj : (j : Int) < n
        · obtain ⟨nm, hnm⟩ : ∃ nm, r.names[j]? = some nm := ⟨_, List.getElem?_eq_getElem (by have := hn.out; omega)⟩
          have hc := hRk.out.name k j r nm hr hnm
          have hX : Hid _ := idxIn_drop hnm s
          clear hnm
          by_cases he : nm = s
          · subst he
            have hfin : Hid (namedA nm = some (f + j)) := by
              have h1 := hX.out
              rw [if_pos rfl, hI.out] at h1
              have h2 := hD'.out
              rw [h1, hN.out, ← hf.out] at h2
              exact h2
            go_wp2_with fail
            go_ret2
            exact ⟨by rw [hfin.out]; rfl, hKk.out.alloc _⟩
          · have hne := str_ne he
            have hI' : Hid (idxIn (r.names.drop (j + 1)) s (j + 1) = idxIn r.names s 0) := by
              have h1 := hX.out
              rw [if_neg he, hI.out] at h1
              exact h1.symm
            go_wp2_with fail
            go_roundw
            case rel => exact ⟨rfl, rfl, j + 1, by omega, by go_num, by first | trivial | rfl, hI'⟩
            case measure => simp [intOf]; omega
        · have hno : Hid (namedIn (runsT.drop (k + 1)) s = namedA s) := by
            have h1 := hI.out
            rw [List.drop_eq_nil_of_le (by have := hn.out; omega)] at h1
            have h2 := hD'.out
            rw [← h1, hN.out] at h2
            exact h2.symm
          have hRk' : Hid (RunsAt (wr.alloc (.cells #[.int .u8 f, .slice (some ⟨B + k, 0, none⟩) n n] 67)) T B) := hRk.out.kep ((Kep.refl _).alloc _)
          go_wp2_with fail
          go_roundw
          case rel => exact ⟨rfl, rfl, k + 1, by omega, by go_num, hRk', hKk.out.alloc _, hno⟩
          case measure => simp [intOf]; omega
    · have hk2 : k = 8 := by omega
      subst hk2
      have hfin : Hid (namedA s = none) := hN.out.symm.trans rfl
      go_wp2_with fail
      go_ret2
      exact ⟨by rw [hfin.out]; rfl, hKk.out⟩
end Go.Proofs.YthmbajehcffnbaaDoor
