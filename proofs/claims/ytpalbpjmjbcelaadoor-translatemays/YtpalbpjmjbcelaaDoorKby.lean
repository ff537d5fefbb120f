/- The map of what is known, filled row by row. -/
import Derived.Test.YtpalbpjmjbcelaaDoorKmap
namespace Go.Proofs.YtpalbpjmjbcelaaDoor
open Go.RowKit
set_option linter.unusedVariables false

set_option maxHeartbeats 8000000 in
set_option maxRecDepth 100000 in
theorem by_any (w : World) : Calls Tryd.prog 35 #[.func (.func 36) #[] #[]] w fun e w' => e = .returned (.map (some w.heap.size)) ∧ (∃ n, MapF w' w.heap.size n tabF) ∧ Kep w w' := by
  have hmm := @run_makeMap Tryd.prog
  go_enter Tryd.func35, Tryd.ntmps35
  go_wp2_with fail
  refine (rows_call _).mono ?_
  rintro e w1 ⟨T, B, rfl, hB, hR, k1⟩
  have K1 : Hid (Kep w w1) := kep_trans ((Kep.refl _).alloc _) k1
  have M1 : Hid (MapF w1 w.heap.size 0 (upto 0)) := (MapF.made w).kept k1
  have hB' : w.heap.size + 1 ≤ B := by simpa using hB
  clear hB k1
  go_wp2_with fail
  go_loopw [12] (fun i wr => ∃ k : Nat, (k : Int) ≤ 27 ∧ i = .int .i64 k ∧ Hid (MapF wr w.heap.size (11 * k) (upto k)) ∧ Hid (RowsAt wr T B) ∧ Hid (Kep w wr)) (fun i _ => 30 - (intOf i).toNat)
  case atStart => exact ⟨0, by omega, rfl, M1, hR, K1⟩
  case round =>
    obtain ⟨k, hk, rfl, hM, hRk, hKk⟩ := hrel
    by_cases hlt : (k : Int) < 27
    · obtain ⟨r, hr⟩ : ∃ r, tabl[k]? = some r := ⟨_, List.getElem?_eq_getElem (show k < tabl.length from by have : tabl.length = 27 := rfl; omega)⟩
      have a0 : wr.cell? ⟨T, k * 5, none⟩ = some (.slice (some ⟨B + k, 0, none⟩) r.ops.length r.ops.length) := hRk.out.row k 0 r hr (by omega)
      have a1 : wr.cell? ⟨T, k * 5 + 1, none⟩ = some (.int .i64 r.cls) := hRk.out.row k 1 r hr (by omega)
      have a2 : wr.cell? ⟨T, k * 5 + 2, none⟩ = some (.string ⟨r.rd⟩) := hRk.out.row k 2 r hr (by omega)
      have a3 : wr.cell? ⟨T, k * 5 + 3, none⟩ = some (.string ⟨r.wr⟩) := hRk.out.row k 3 r hr (by omega)
      have a4 : wr.cell? ⟨T, k * 5 + 4, none⟩ = some (.string ⟨r.m⟩) := hRk.out.row k 4 r hr (by omega)
      obtain ⟨o1, o2, o3, o4, o5⟩ := tabl_ok r (List.mem_of_getElem? hr)
      have o4' : (r.ops.length : Int) ≤ 11 := by omega
      have hF : Hid (∀ x w, Calls Tryd.prog 36 #[.agg (rowV x r.cls r.rd r.wr r.m)] w fun e w' => e = .returned (.agg (factV r.cls r.rd r.wr (mk 116 r.m) (mk 102 r.m) (mk 115 r.m))) ∧ Kep w w') := fun x w => fact_any x r.cls r.rd r.wr r.m o1 o2 o3 w
      have O5 : Hid (∀ op ∈ r.ops, 0 ≤ op ∧ op < 256) := o5
      clear o1 o2 o3 o5
      go_wp2_with fail
      refine (hF.out _ _).mono ?_
      rintro e w2 ⟨rfl, k2⟩
      have c0 : w2.cell? ⟨wr.heap.size, 0, none⟩ = some (.slice (some ⟨B + k, 0, none⟩) r.ops.length r.ops.length) := (keep_row (i := 0) k2).trans rfl
      have k2' : Hid (Kep wr w2) := kep_trans ((Kep.refl _).alloc _) k2
      have s2 : wr.heap.size < w2.heap.size := Nat.lt_of_lt_of_le (by simp) k2.size
      have hms : w.heap.size < w2.heap.size := Nat.lt_trans hM.out.lt s2
      have G2 : Hid (∀ o, Kep wr (w2.alloc o)) := fun o => k2'.out.alloc o
      clear k2 hF a0 a1 a2 a3 a4
      go_wp2_with fail
      go_loopw [22] (fun i wi => ∃ j : Nat, (j : Int) ≤ r.ops.length ∧ i = .int .i64 j ∧ Hid (MapF wi w.heap.size (11 * k + j) ((r.ops.take j).foldl (fun f op => putF f op r) (upto k))) ∧ Hid (RowsAt wi T B) ∧ Hid (Kep w wi) ∧ Hid (wi.heap[w2.heap.size]? = some (.cells (gV (some r)) 98 (0, 0)))) (fun i _ => 30 - (intOf i).toNat)
      case atStart =>
        refine ⟨0, by omega, rfl, ?_, ?_, ?_, ?_⟩
        · exact hM.out.kept (G2.out _)
        · exact hRk.out.kep (G2.out _)
        · exact kep_trans hKk.out (G2.out _)
        · exact heap_alloc_new _ _
      case round =>
        obtain ⟨j, hj, rfl, hMj, hRj, hKj, hBj⟩ := hrel
        by_cases hlj : (j : Int) < r.ops.length
        · obtain ⟨op, hop⟩ : ∃ op, r.ops[j]? = some op := ⟨_, List.getElem?_eq_getElem (show j < r.ops.length from by omega)⟩
          have d0 : wr.cell? ⟨B + k, j, none⟩ = some (.int .u8 op) := hRj.out.op k j r op hr hop
          have hop2 := O5.out op (List.mem_of_getElem? hop)
          have h10 : (gV (some r)).size = 10 := rfl
          have hsz : (Tryd.prog.info? 98).map (·.size) = some (gV (some r)).size := sizeFact
          have hmax : 11 * k + j < maxLen := by unfold maxLen; omega
          have hbs := hMj.out.lt
          go_upto_region 9 with fail
          go_wp2_with (first
            | refine wpList_load_row rfl 98 _ rfl w2.heap.size rfl 98 (gV (some r)) (0, 0) _ hBj.out Tryd.underlying98 rfl hsz ?_
            | (at_mapUpdate; refine wpList_put rfl _ _ _ rfl w.heap.size _ _ rfl hMj.out hmax op hop2.1 hop2.2 r rfl rfl ?_; intro w5 m5 g5))
          refine ⟨⟨j + 1, by omega, rfl, ?_, ?_, ?_, ?_⟩, by simp [intOf]; omega⟩
          · rw [List.take_add_one, hop]
            unfold Hid
            simpa [List.foldl_append, Nat.add_assoc] using m5
          · exact hRj.out.kept (by omega) g5
          · exact hKj.out.by g5 (by intro q hq; simp at hq; omega)
          · exact (g5.block _ (block_ge hBj.out) (by simp; omega)).trans hBj.out
        · have hj2 : j = r.ops.length := by omega
          go_wp2_with fail
          refine ⟨⟨k + 1, by omega, rfl, ?_, hRj, hKj⟩, by simp [intOf]; omega⟩
          rw [upto_succ k r hr]
          subst hj2
          have h := hMj.out
          rw [List.take_length] at h
          exact h.mono (by omega)
    · have hk2 : k = 27 := by omega
      subst hk2
      go_wp2_with fail
      go_ret
      exact ⟨rfl, ⟨_, by have h := hM.out; rw [upto_all] at h; exact h⟩, hKk⟩
end Go.Proofs.YtpalbpjmjbcelaaDoor
