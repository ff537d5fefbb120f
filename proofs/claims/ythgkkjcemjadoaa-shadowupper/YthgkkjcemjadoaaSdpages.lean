/- Pages; Tables. -/
import Derived.Test.YthgkkjcemjadoaaSdlist
namespace Go.Proofs.Ythgkkjcemjadoaa
open Go.RowKit Go.Shelf Go.Great
set_option linter.unusedVariables false
set_option linter.unusedSimpArgs false
attribute [local go_sem] Oper.semAt_some

theorem pagesf_any (w : World) (p : Nat) :
    Calls Try.prog 33 #[.pointer (some ⟨p, 0, none⟩)] w fun e w' => e = .returned (.func (.func 59) #[] #[.pointer (some ⟨w.heap.size, 0, none⟩)]) ∧ w' = w.alloc (.cells #[.pointer (some ⟨p, 0, none⟩)] 25) := by
  have hmf : ∀ (fn : Fn) (first cap : Array Value) (w : World), (Instr.makeFunc fn first cap).run Try.prog w = .ok (.func fn first cap) w := fun _ _ _ _ => rfl
  go_enter Try.func33, Try.ntmps33
  go_wp2
  go_ret
  exact ⟨rfl, rfl⟩
set_option maxRecDepth 100000 in
set_option maxHeartbeats 4000000 in
theorem shpages_in (w : World) (p pv q d : Nat) (sd : SD) (F : List Nat) (h : ShAt w p (.pointer (some ⟨pv, 0, none⟩)) q d sd F) :
    CallsIn Fence.wide 5 Try.prog 10 #[.pointer (some ⟨p, 0, none⟩)] w fun e W' => ∃ v, e = .returned v ∧ W'.ownsRow w.heap.size 34 1 v (nz sd.E 512).length (u32s (nz sd.E 512)) ∧ Kep w W' := by
  have HO : Hid (CallsIn Fence.wide 4 Try.prog 32 #[.pointer (some ⟨p, 0, none⟩)] w fun e w'' => e = .returned (.bool true) ∧ w'' = w) := callsIn_wide.2 (shmade_yes w p pv h.c0)
  have HF : Hid (∀ w', CallsIn Fence.wide 4 Try.prog 33 #[.pointer (some ⟨p, 0, none⟩)] w' fun e w'' => e = .returned (.func (.func 59) #[] #[.pointer (some ⟨w'.heap.size, 0, none⟩)]) ∧ w'' = w'.alloc (.cells #[.pointer (some ⟨p, 0, none⟩)] 25)) := fun w' => callsIn_wide.2 (pagesf_any w' p)
  have hS' : Hid (ShAt w p (.pointer (some ⟨pv, 0, none⟩)) q d sd F) := h
  clear h
  refine callsIn_of_wp_marks Try.func10 rfl trivial ?_ rfl
  simp only [Try.ntmps10, List.size_toArray, List.length_cons, List.length_nil, Nat.reduceAdd, Nat.reduceSub, Array.replicate_succ, Array.replicate_zero, List.push_toArray, List.append_toArray, List.nil_append, List.cons_append]
  gi_wp2_with (refine ⟨trivial, ?_⟩; first
    | (gi_at_call 32; refine HO.out.mono ?_; rintro e w' ⟨rfl, hq0⟩; rw [hq0]; clear hq0 w')
    | (gi_at_call 33; refine (HF.out _).mono ?_; rintro e w' ⟨rfl, rfl⟩))
  obtain ⟨W0, hW0⟩ : ∃ W0, Hid (W0 = (w.alloc (.cells #[.slice none 0 0] 23)).alloc (.cells #[.pointer (some ⟨p, 0, none⟩)] 25)) := ⟨_, rfl⟩
  have hz : W0.heap.size = w.heap.size + 2 := by rw [hW0.out]; simp
  have I0 : ListU w p [] W0 := by
    rw [hW0.out]
    refine ⟨⟨.slice none 0 0, ?_, World.ownsRow_nil _ _ _ _⟩, ((Kep.refl _).alloc _).alloc _, ?_, by simp⟩
    · exact (hsk _ _ _ (by simp)).trans (hat _ _ _ rfl)
    · exact hat _ _ _ (by simp)
  rw [← hW0.out]
  clear hW0
  refine range_all rfl (by decide) (gf := 59) (lb := #[.pointer (some ⟨w.heap.size + 1, 0, none⟩)]) rfl trivial (enters_of Try.func59 (by kernel_rfl) rfl)
    (fun y : Nat => #[.int .u32 y]) (fun _ => rfl) (ListU w p) (fun s y W => ∃ i, s = nz sd.E i ∧ y = 64 * i ∧ i < 512 ∧ sd.E.getD i 0 ≠ 0 ∧ ListU w p s W) (fun s y => s ++ [y]) (fun s => s = nz sd.E 512)
    (fun s W W' h k => h.soft (by omega) k) [] I0 ?seq ?round ?done
  case seq =>
    intro l J Jm W hJ hJm hJJ hY h0
    exact pages1_in 4 l p q d (.pointer (some ⟨pv, 0, none⟩)) sd F (by decide) (w.heap.size + 1) W0.heap.size (ListU w p) (fun s W h => ⟨h.2.2.1.cell, hS'.out.kep h.2.1⟩) J Jm W hJ hJm hY h0
  case round =>
    rintro l s y W ⟨i, rfl, rfl, hi512, hne, hI⟩
    generalize hyy : 64 * i = y
    simp only []
    gi_wp2
    refine ⟨KeepsFrom.refl _ _, fun W2 hs2 => ?_⟩
    obtain ⟨⟨v, h1, h2⟩, h3, h4, h5⟩ := hI.soft (by omega) hs2
    have c1 := h1.cell
    have hlen := nz_len sd.E i
    have hP : Hid (∀ (g c : Nat) (w' : World), w'.ownsRow w.heap.size 34 1 (.slice (some ⟨g, 0, none⟩) ((nz sd.E i).length + 1) c) ((nz sd.E i).length + 1) (u32s (nz sd.E i) ++ [.int .u32 (y : Nat)]) → (W2.alloc (.cells #[.int .u32 (y : Nat)] 34)).grownBy w' v.ownBlock →
      w'.cell? ⟨w.heap.size, 0, none⟩ = some v ∧ w'.frozen? ⟨w.heap.size, 0, none⟩ = false ∧ ∀ B, KeepsFrom B W2 (w'.setCell ⟨w.heap.size, 0, none⟩ (.slice (some ⟨g, 0, none⟩) ((nz sd.E i).length + 1) c)) ∧ ListU w p (nz sd.E i ++ [y]) (w'.setCell ⟨w.heap.size, 0, none⟩ (.slice (some ⟨g, 0, none⟩) ((nz sd.E i).length + 1) c))) := fun g c w' ho hg => listu_push h1 h2 h3 h4 (by omega) ho hg
    obtain ⟨i0, hi, hz0, hz1, hz2⟩ := info_parts info_u32
    have hO : Hid ((W2.alloc (.cells #[.int .u32 (y : Nat)] 34)).ownsRow w.heap.size 34 1 v (nz sd.E i).length (u32s (nz sd.E i))) := (Soft.of_kep (B := 0) ((Kep.refl _).alloc _)).owns h2
    have hm1 : (nz sd.E i).length + 1 ≤ maxLen := by unfold maxLen; omega
    have hsz : Hid (w.heap.size ≤ (W2.alloc (.cells #[.int .u32 (y : Nat)] 34)).heap.size) := by have := h3.size; rw [Hid]; simp; omega
    clear h1 h2 h3 h4 h5 hI hs2 I0 hS' hne hyy
    generalize nz sd.E i = s at *
    gi_wp2_with (gi_at_builtin; refine wpListIn_append_own _ rfl _ _ 23 rfl w.heap.size 34 i0 (.int .u32 0) 1 4 Try.underlying23 hi hz0 hz1 hz2 rfl (by decide) v s.length (u32s s) rfl hO.out ⟨W2.heap.size, 0, none⟩ 1 1 [.int .u32 y] rfl rfl (cell_one_new _ _ _) (u32_one _) hm1 (by omega) hsz.out ?_; intro v' w1 hown' hgrow _; obtain ⟨g, c, rfl⟩ := ownsRow_succ hown'; obtain ⟨hc', hz', hfin⟩ := hP.out g c w1 hown' hgrow; have hfin' : Hid _ := hfin; clear hfin hP hO hown' hgrow)
    exact hfin'.out _
  case done =>
    rintro D s W hD rfl ⟨⟨v, hv, hrow⟩, hkp, _, _⟩ hK
    have hc := hv.cell
    gi_wp2
    refine ⟨by simp, .inl ⟨_, _, rfl, run_takeDeferred hK, ?_⟩⟩
    have hs := Soft.obj (B := w.heap.size) (.deferred none) hK rfl (by omega)
    refine ⟨v, by simp [results, Try.f10, go_sem], v, rfl, hs.owns hrow, hs.kept hkp (Nat.le_refl _)⟩
theorem shpages_any {w : World} {p pv q d : Nat} {sd : SD} {F : List Nat} (h : ShAt w p (.pointer (some ⟨pv, 0, none⟩)) q d sd F) :
    Calls Try.prog 10 #[.pointer (some ⟨p, 0, none⟩)] w fun e w' => ∃ (x : Option Addr) (cap : Nat), e = .returned (.slice x (nz sd.E 512).length cap) ∧ LU w' x (nz sd.E 512) ∧ Kep w w' := by
  refine (callsIn_wide.1 (shpages_in w p pv q d sd F h)).mono ?_
  rintro e w' ⟨v', rfl, ho, K⟩
  obtain ⟨x, cap, rfl, hL⟩ := LU.of_owns ho
  exact ⟨x, cap, rfl, hL, K⟩
theorem nz_zero (n : Nat) : nz sd0.E n = [] := by
  unfold nz
  rw [List.filter_eq_nil_iff.2 fun j _ => by rw [show sd0.E.getD j 0 = 0 from grep _ _]; decide]
  rfl
/-- How many are not 0. -/
theorem nD_take (D : List Nat) (k : Nat) (h : k < D.length) : nD (D.take (k + 1)) = nD (D.take k) + if D.getD k 0 = 0 then 0 else 1 := by
  unfold nD
  rw [List.take_add_one, List.countP_append, List.getElem?_eq_getElem h]
  have e : D.getD k 0 = D[k] := by simp [List.getD, h]
  rw [e]
  by_cases h0 : D[k] = 0 <;> simp [h0]
set_option maxHeartbeats 1000000 in
theorem shtables_any {w : World} {p pv q d : Nat} {sd : SD} {F : List Nat} (h : ShAt w p (.pointer (some ⟨pv, 0, none⟩)) q d sd F) :
    Calls Try.prog 12 #[.pointer (some ⟨p, 0, none⟩)] w fun e w' => e = .returned (.int .i64 (nD sd.D)) ∧ Kep w w' := by
  have HM : Hid (Calls Try.prog 32 #[.pointer (some ⟨p, 0, none⟩)] w fun e w' => e = .returned (.bool true) ∧ w' = w) := shmade_yes w p pv h.c0
  have hr : w.rangeAt p 3 (u32s sd.D) := by
    intro j u hj
    have hj2 : j < 32 := by have := (List.getElem?_eq_some_iff.1 hj).1; rw [u32s_len, h.lD] at this; exact this
    rw [u32s_at (by rw [h.lD]; exact hj2)] at hj
    cases hj
    exact h.cD hj2
  have hsz : (Try.prog.info? 85).map (·.size) = some (u32s sd.D).length := by rw [u32s_len, h.lD]; kernel_rfl
  have hix : Hid (∀ j : Nat, j < 32 → ∀ w, (Instr.index 85 (.agg (u32s sd.D).toArray) (.int .i64 j)).run Try.prog w = .ok (.int .u32 (sd.D.getD j 0 : Nat)) w) := fun j hj w => index_u32 Try.underlying85 sd.D h.lD j hj w
  have hD : Hid (sd.D.length = 32) := h.lD
  clear h
  generalize hD' : sd.D = D at hr hsz hix hD ⊢
  generalize u32s D = Y at hr hsz hix
  clear hD'
  go_enter Try.func12, Try.ntmps12
  go_wp2_with (first
    | (go_at_call 32; refine HM.out.mono ?_; rintro e wa ⟨rfl, hqa⟩; rw [hqa]; clear hqa wa)
    | (refine wpList_load_mid (by rfl) 85 _ (by rfl) p 3 (by rfl) Y _ hr Try.underlying85 rfl hsz ?_))
  clear hr hsz
  go_loopw [3, 13] (fun c i wr => ∃ k z : Nat, (k : Int) ≤ 32 ∧ (z : Int) ≤ k ∧ i = .int .i64 (k : Int) ∧ c = .int .i64 (z : Int) ∧ Hid (z = nD (D.take k)) ∧ Hid (Kep w wr)) (fun _ i _ => 32 - (intOf i).toNat)
  case atStart => exact ⟨0, 0, by omega, by omega, rfl, rfl, by simp [Hid, nD], Kep.refl _⟩
  case round =>
    obtain ⟨k, z, hk, hz, rfl, rfl, hI, K⟩ := hrel
    by_cases hlt : (k : Int) < 32
    · have hixk := hix.out k (by omega)
      have hst : Hid (nD (D.take (k + 1)) = nD (D.take k) + if D.getD k 0 = 0 then 0 else 1) := nD_take D k (by rw [hD.out]; omega)
      generalize D.getD k 0 = e at hixk hst
      by_cases he : e = 0
      · have he0 : ((e : Int) != 0) = false := by simp; omega
        have hst2 : Hid (z = nD (D.take (k + 1))) := by rw [Hid, hst.out, if_pos he]; exact hI.out
        clear hst he
        go_wp2_with fail
        go_roundw
        case rel => exact ⟨k + 1, z, by omega, by omega, by go_num, rfl, hst2, K⟩
        case measure => simp [intOf]; omega
      · have he0 : ((e : Int) != 0) = true := by simp; omega
        have hst2 : Hid (z + 1 = nD (D.take (k + 1))) := by rw [Hid, hst.out, if_neg he, ← hI.out]
        clear hst he
        go_wp2_with fail
        go_roundw
        case rel => exact ⟨k + 1, z + 1, by omega, by omega, by go_num, by go_num, hst2, K⟩
        case measure => simp [intOf]; omega
    · obtain rfl : k = 32 := by omega
      go_wp2_with fail
      go_ret
      refine ⟨?_, K.out⟩
      have := hI.out
      rw [List.take_of_length_le (by rw [hD.out]; exact Nat.le_refl _)] at this
      rw [← this]
      rfl
end Go.Proofs.Ythgkkjcemjadoaa
