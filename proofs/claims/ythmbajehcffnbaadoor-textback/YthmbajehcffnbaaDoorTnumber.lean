/- A number's word, as the code reads it. -/
import Derived.Test.YthmbajehcffnbaaDoorTdig
import Derived.Test.YthmbajehcffnbaaDoorTtab
import Derived.Lib.Strings
import Derived.LoopTactic
namespace Go.Proofs.YthmbajehcffnbaaDoor
open Go.RowKit
set_option linter.unusedVariables false

set_option maxHeartbeats 1000000 in
theorem reader_any (w : World) :
    Calls Tryd.prog 38 #[] w fun e w' => e = .returned (.func (.func 43) #[] #[.pointer (some ⟨w.heap.size + 1, 0, none⟩), .pointer (some ⟨w.heap.size, 0, none⟩)]) ∧ DgAt w' w.heap.size 0 false ∧ Kep w w' := by
  go_enter Tryd.func38, Tryd.ntmps38
  go_wp2_with fail
  go_ret
  refine ⟨rfl, ⟨?_, ?_⟩, ?_⟩
  · exact ((Kep.refl _).alloc _).block (heap_alloc_new _ _)
  · have := heap_alloc_new (w.alloc (.cells #[.int .i64 0] 2)) (.cells #[.bool false] 4)
    simpa using this
  · exact ((Kep.refl _).alloc _).alloc _

theorem numL_is (x : List UInt8) : numL x = finL (Lib.hasPrefix x [45]) (Lib.trimPrefix x [45]) := by
  cases x with
  | nil => rfl
  | cons c cs =>
    simp only [numL]
    by_cases hc : c = 45
    · subst hc
      have h1 : Lib.hasPrefix (45 :: cs) [45] = true := by simp [Lib.hasPrefix, List.isPrefixOf]
      have h2 : Lib.trimPrefix (45 :: cs) [45] = cs := by unfold Lib.trimPrefix; rw [h1]; simp
      rw [if_pos rfl, h1, h2]
    · have h1 : Lib.hasPrefix (c :: cs) [45] = false := by
        simp only [Lib.hasPrefix, List.isPrefixOf, Bool.and_true]
        simpa using fun e => hc e.symm
      have h2 : Lib.trimPrefix (c :: cs) [45] = c :: cs := by unfold Lib.trimPrefix; rw [h1]; simp
      rw [if_neg hc, h1, h2]
theorem digL_at {ds : List UInt8} {k : Nat} {d : UInt8} (h : ds[k]? = some d) (has D : Int) (hD : D = d.toNat) (b : Bool) :
    digL (ds.drop k) has b = if (b = true ∧ has = 0) ∨ D < 48 ∨ 57 < D ∨ 2147483647 < has then none else digL (ds.drop (k + 1)) (10 * has + (D - 48)) true := by
  obtain ⟨hk, rfl⟩ := List.getElem?_eq_some_iff.1 h
  rw [List.drop_eq_getElem_cons hk]
  simp only [digL]
  by_cases hc : (b = true ∧ has = 0) ∨ D < 48 ∨ 57 < D ∨ 2147483647 < has
  · rw [if_pos hc, if_pos]
    rcases hc with q | q | q | q
    · exact .inl q
    · exact .inr (.inl (by omega))
    · exact .inr (.inr (.inl (by omega)))
    · exact .inr (.inr (.inr q))
  · rw [if_neg hc, if_neg, hD]
    rintro (q | q | q | q)
    · exact hc (.inl q)
    · exact hc (.inr (.inl (by omega)))
    · exact hc (.inr (.inr (.inl (by omega))))
    · exact hc (.inr (.inr (.inr q)))
theorem index_str (ds : List UInt8) (k : Nat) (d : UInt8) (h : ds[k]? = some d) (w : World) : (Instr.index 9 (.string ⟨ds.toArray⟩) (.int .i64 k)).run Tryd.prog w = .ok (.int .u8 d.toNat) w := by
  obtain ⟨hk, rfl⟩ := List.getElem?_eq_some_iff.1 h
  rw [run_index_string w 9 _ _ _ Tryd.underlying9]
  have hz : (⟨ds.toArray⟩ : ByteArray).size = ds.length := by simp [ByteArray.size]
  rw [dif_pos ⟨by omega, by rw [hz]; omega⟩]
  rfl

set_option maxHeartbeats 4000000 in
set_option maxRecDepth 100000 in
theorem number_of (x ds : List UInt8) (neg : Bool) (hl : (ds.length : Int) ≤ 140737488355328) (w : World)
    (HC : ∀ w, Calls Tryd.prog 37 #[.string ⟨x.toArray⟩, .string ⟨#[45]⟩] w fun e w' => e = .returned (.tuple #[.string ⟨ds.toArray⟩, .bool neg]) ∧ w' = w) :
    Calls Tryd.prog 27 #[.string ⟨x.toArray⟩] w fun e w' => e = .returned (.tuple #[.int .i32 ((finL neg ds).getD 0), .bool (finL neg ds).isSome]) ∧ Kep w w' := by
  have H1 : Hid _ := HC
  have H2 : Hid _ := reader_any
  have hsz : Hid ((⟨ds.toArray⟩ : ByteArray).size = ds.length) := by unfold Hid; simp [ByteArray.size]
  clear HC
  go_enter Tryd.func27, Tryd.ntmps27
  go_wp2_with fail
  refine (H1.out _).mono ?_
  rintro e w1 ⟨rfl, rfl⟩
  go_wp2_with fail
  refine (H2.out _).mono ?_
  rintro e w2 ⟨rfl, hD, k2⟩
  have hD' : Hid _ := hD
  have K2 : Hid _ := k2
  clear hD k2
  go_wp2_with fail
  go_loopw [7, 8, 18] (fun v o i wr => ∃ (k : Nat) (has : Int), (k : Int) ≤ ds.length ∧ v = .int .i64 has ∧ o = .bool (decide (0 < k)) ∧ i = .int .i64 k ∧ 0 ≤ has ∧ has ≤ 21474836479 ∧ Hid (DgAt wr w1.heap.size has (decide (0 < k))) ∧ Hid (Kep w1 wr) ∧ Hid (digL (ds.drop k) has (decide (0 < k)) = digL ds 0 false)) (fun _ _ i _ => ds.length + 1 - (intOf i).toNat)
  case atStart => exact ⟨0, 0, by omega, rfl, rfl, rfl, by omega, by omega, hD', K2, rfl⟩
  case round =>
    obtain ⟨k, has, hk, rfl, rfl, rfl, h0, h1, hDk, hKk, hE⟩ := hrel
    obtain ⟨bg, hbg⟩ : ∃ bg, Hid (bg = decide (0 < k)) := ⟨_, rfl⟩
    rw [← hbg.out] at hDk hE ⊢
    by_cases hlt : (k : Int) < ds.length
    · obtain ⟨d, hd⟩ : ∃ d, ds[k]? = some d := ⟨_, List.getElem?_eq_getElem (by omega)⟩
      obtain ⟨D, hDD⟩ : ∃ D : Int, Hid (D = d.toNat) := ⟨_, rfl⟩
      have hat : Hid _ := digL_at hd has D hDD.out bg
      have hi := index_str ds k d hd
      rw [← hDD.out] at hi
      have hDr : 0 ≤ D ∧ D < 256 := by rw [hDD.out]; have := d.toNat_lt; omega
      by_cases hno : (bg = true ∧ has = 0) ∨ D < 48 ∨ 57 < D ∨ 2147483647 < has
      · have HN : Hid _ := digit_no w1.heap.size has D bg wr hDk.out h0 h1 hDr.1 hDr.2 hno
        have hfin : Hid (finL neg ds = none) := by
          have h := hat.out
          rw [if_pos hno, hE.out] at h
          unfold Hid finL
          rw [h]
        clear hno hd
        go_wp2_with fail
        refine Calls.mono HN.out ?_
        rintro e w5 ⟨rfl, rfl⟩
        go_wp2_with fail
        go_ret2
        exact ⟨by rw [hfin.out]; rfl, hKk.out⟩
      · have hno' : Hid _ := hno
        have hb : 0 ≤ has ∧ has ≤ 2147483647 ∧ 48 ≤ D ∧ D ≤ 57 := by
          refine ⟨h0, ?_, ?_, ?_⟩
          · rcases Int.lt_or_le 2147483647 has with q | q
            · exact absurd (.inr (.inr (.inr q))) hno
            · exact q
          · rcases Int.lt_or_le D 48 with q | q
            · exact absurd (.inr (.inl q)) hno
            · exact q
          · rcases Int.lt_or_le 57 D with q | q
            · exact absurd (.inr (.inr (.inl q))) hno
            · exact q
        have HY : Hid _ := digit_ok w1.heap.size has D bg wr hDk.out h0 hb.2.1 hb.2.2.1 hb.2.2.2 (fun e1 e2 => hno (.inl ⟨e1, e2⟩))
        have hnx : Hid (digL (ds.drop (k + 1)) (10 * has + (D - 48)) true = digL ds 0 false) := by
          have h := hat.out
          rw [if_neg hno, hE.out] at h
          exact h.symm
        have hD5 : Hid (DgAt (dgW wr w1.heap.size (10 * has + (D - 48))) w1.heap.size (10 * has + (D - 48)) true) := hDk.out.set _
        have hK5 : Hid (Kep w1 (dgW wr w1.heap.size (10 * has + (D - 48)))) := dgW_kep hKk.out (Nat.le_refl _) _
        have hnr : 0 ≤ 10 * has + (D - 48) ∧ 10 * has + (D - 48) ≤ 21474836479 := by omega
        clear hno hd
        generalize 10 * has + (D - 48) = nx at HY hnx hD5 hK5 hnr
        generalize dgW wr w1.heap.size nx = W5 at HY hD5 hK5
        go_wp2_with fail
        refine Calls.mono HY.out ?_
        rintro e w5 ⟨rfl, rfl⟩
        go_wp2_with fail
        go_roundw
        case rel => exact ⟨k + 1, nx, by omega, rfl, by simp, by go_num, hnr.1, hnr.2, by simpa using hD5, hK5, by simpa using hnx⟩
        case measure => simp [intOf]; omega
    · have hk2 : k = ds.length := by omega
      have hv : Hid (digL ds 0 false = some has) := by
        have h := hE.out
        rw [List.drop_eq_nil_of_le (by omega)] at h
        exact h.symm
      have hbg2 : bg = decide (0 < ds.length) := by rw [hbg.out, hk2]
      have hbg2' : Hid (bg = decide (0 < ds.length)) := hbg2
      clear hbg2
      cases neg
      · have hF : Hid (finL false ds = if ds ≠ [] ∧ has ≤ 2147483647 then some has else none) := by
          unfold Hid finL
          rw [hv.out]
          rfl
        by_cases hn : ds = []
        · have hbf : bg = false := by rw [hbg2'.out, hn]; rfl
          have hn' : Hid _ := hn
          clear hn
          subst hbf
          go_wp2_with fail
          go_ret2
          exact ⟨by rw [hF.out, if_neg (fun h => h.1 hn'.out)]; rfl, hKk.out⟩
        · have hbt : bg = true := by rw [hbg2'.out]; simpa using List.length_pos_iff.2 hn
          have hn' : Hid _ := hn
          clear hn
          subst hbt
          by_cases hm : has ≤ 2147483647
          · go_wp2_with fail
            go_ret2
            exact ⟨by rw [hF.out, if_pos ⟨hn'.out, hm⟩]; rfl, hKk.out⟩
          · have hm' : 2147483647 < has := by omega
            clear hm
            go_wp2_with fail
            go_ret2
            exact ⟨by rw [hF.out, if_neg (fun h => by omega)]; rfl, hKk.out⟩
      · have hF : Hid (finL true ds = if 0 < has ∧ has ≤ 2147483648 then some (-has) else none) := by
          unfold Hid finL
          rw [hv.out]
          rfl
        by_cases hz : 0 < has
        · by_cases hm : has ≤ 2147483648
          · go_wp2_with fail
            go_ret2
            exact ⟨by rw [hF.out, if_pos ⟨hz, hm⟩]; rfl, hKk.out⟩
          · have hm' : 2147483648 < has := by omega
            clear hm
            go_wp2_with fail
            go_ret2
            exact ⟨by rw [hF.out, if_neg (fun h => by omega)]; rfl, hKk.out⟩
        · have hz' : has ≤ 0 := by omega
          clear hz
          go_wp2_with fail
          go_ret2
          exact ⟨by rw [hF.out, if_neg (fun h => by omega)]; rfl, hKk.out⟩
theorem number_any (x : List UInt8) (hl : (x.length : Int) ≤ 140737488355328) (w : World) :
    Calls Tryd.prog 27 #[.string ⟨x.toArray⟩] w fun e w' => e = .returned (.tuple #[.int .i32 ((numL x).getD 0), .bool (numL x).isSome]) ∧ Kep w w' := by
  rw [numL_is x]
  refine number_of x _ _ ?_ w fun w => ?_
  · have : (Lib.trimPrefix x [45]).length ≤ x.length := by
      unfold Lib.trimPrefix
      split
      · simp
      · exact Nat.le_refl _
    omega
  · have h := Tryd.strings_CutPrefix ⟨x.toArray⟩ ⟨#[45]⟩ w
    exact h
end Go.Proofs.YthmbajehcffnbaaDoor
