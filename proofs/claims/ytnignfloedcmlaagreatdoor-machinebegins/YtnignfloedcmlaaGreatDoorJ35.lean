/- Part of a proof. -/
import Derived.Deep.CutRange
import Derived.Test.YtnignfloedcmlaaGreatDoorJ34
namespace Go.Proofs.YtnignfloedcmlaaGreatDoor
open Go.RowKit
set_option linter.unusedVariables false
set_option linter.unusedSimpArgs false
theorem soiM_len (B : List Int) (ix : List Nat) (s : Sta) (a : Int) : (soiM B ix s a).length = B.length := by
  unfold soiM; split
  · unfold soiW; split
    · exact soilL_len _ _ _
    · rfl
  · rfl
theorem soiM_byts {B : List Int} (hb : Byts B) (ix : List Nat) (s : Sta) (a : Int) : Byts (soiM B ix s a) := by
  unfold soiM; split
  · unfold soiW; split
    · exact soilL_byts hb _ _
    · exact hb
  · exact hb
theorem look_led {w : World} {pm R : Nat} {ix : List Nat} {B : List Int} (M : Mem w (mpt pm) R ix B) {s : Sta} (ok : s.Ok) (a : Int) (ha : 0 ≤ a ∧ a < 4294967296) :
    Calls Tryz.prog 115 #[mpt pm, .int .u32 (s.c 0), .int .i64 16, .int .u32 a] w fun e w' => e = .returned (.tuple (wyR (lookF (wdF B ix) (64 * ix.length) (s.c 0).toNat 16 a.toNat))) ∧ Kep w w' := by
  have hc := ok.c 0
  have h := look_ram M.ram M.max M.row M.fits M.byts (s.c 0).toNat 16 a.toNat (by omega) (by omega)
  rw [Int.toNat_of_nonneg hc.1, Int.toNat_of_nonneg ha.1] at h
  exact h
theorem pag_no {s : Sta} (ok : s.Ok) (h : s.ps.toNat / 4 % 2 ≠ 1) : (bits .and .u32 s.ps 4 == 0) = true := by
  have hp := ok.ps
  rw [and4_is s.ps hp]; simp; omega
theorem pag_yes {s : Sta} (ok : s.Ok) (h : s.ps.toNat / 4 % 2 = 1) : (bits .and .u32 s.ps 4 == 0) = false := by
  have hp := ok.ps
  rw [and4_is s.ps hp]; simp; omega
set_option maxHeartbeats 16000000 in
set_option maxRecDepth 100000 in
theorem msoil_any {w : World} {p pm R : Nat} {ix : List Nat} {B : List Int} {vd : Value} {s : Sta} {n : Int} {vn : Value} (bx : Bx w p (mpt pm) vd s n vn) (M : Mem w (mpt pm) R ix B) (ok : s.Ok) (a : Int) (ha : 0 ≤ a ∧ a < 4294967296) :
    Calls Tryz.prog 89 #[.pointer (some ⟨p, 0, none⟩), .int .u32 a] w fun e w' => e = .returned (.tuple #[]) ∧ Put [R] w w' ∧ RowB w' R (soiM B ix s a) := by
  have cps := bx.ps
  have RB := hidd M.row
  by_cases hp : s.ps.toNat / 4 % 2 = 1
  · have tp := pag_yes ok hp
    have em : Hid (soiM B ix s a = soiW B ix (lookF (wdF B ix) (64 * ix.length) (s.c 0).toNat 16 a.toNat)) := by unfold Hid soiM; rw [if_pos hp]
    have HL : Hid (∀ w', Kep w w' → Calls Tryz.prog 115 #[.pointer (some ⟨pm, 0, none⟩), .int .u32 (s.c 0), .int .i64 16, .int .u32 a] w' fun e w'' => e = .returned (.tuple (wyR (lookF (wdF B ix) (64 * ix.length) (s.c 0).toNat 16 a.toNat))) ∧ Kep w' w'') := fun w' k => look_led (M.kep k) ok a ha
    have HS : Hid (∀ w' (e : Nat), Kep w w' → e < 4294967296 → Calls Tryz.prog 116 #[.pointer (some ⟨pm, 0, none⟩), .int .u32 e] w' fun e' w'' => (∃ y, e' = .returned (.bool y)) ∧ Put [R] w' w'' ∧ RowB w'' R (soilL B ix e)) := fun w' e k he => by
      have M' := M.kep k
      refine (soil_any M'.ram M'.max M'.row M'.fits M'.byts e he).mono ?_
      rintro e' w'' ⟨rfl, h1, h2⟩
      exact ⟨⟨_, rfl⟩, h1, h2⟩
    have LD : Hid (∀ w', Kep w w' → w'.cell? ⟨p, 0, none⟩ = some (.pointer (some ⟨pm, 0, none⟩)) ∧ w'.cell? ⟨p, 12, none⟩ = some (.int .u32 (s.c 0))) := fun w' k => ⟨(bx.kep k).cm, (bx.kep k).c0⟩
    have hey : ∀ y, lookF (wdF B ix) (64 * ix.length) (s.c 0).toNat 16 a.toNat = some y → y.entry < 4294967296 := fun y hy => (way_fits (fun a x => wdF_lt M.byts a x) hy).2.2.1
    rw [em.out]
    generalize s.ps = ps at cps tp
    generalize lookF (wdF B ix) (64 * ix.length) (s.c 0).toNat 16 a.toNat = L at HL hey ⊢
    generalize s.c 0 = c0 at HL LD
    clear bx M ok ha em hp
    cases L with
    | none =>
      have HL' : Hid (∀ w', Kep w w' → Calls Tryz.prog 115 #[.pointer (some ⟨pm, 0, none⟩), .int .u32 c0, .int .i64 16, .int .u32 a] w' fun e w'' => e = .returned (.tuple #[.agg (wayV 0 0 0 0 0 0), .bool false]) ∧ Kep w' w'') := HL
      clear HL hey HS
      go_enter Tryz.func89, Tryz.ntmps89
      go_upto_region 1 with fail
      go_cut [5] from 13 to 27 (fun t5 wx => t5 = .bool false ∧ Hid (Kep w wx))
      case first =>
        refine wp_region_held_drew (S := fun w' => Kep w w') (by kernel_rfl) ((Kep.refl w).drew) (fun hH => ?_)
        generalize w.drew = wd at hH  ⊢
        refine wpAnyH_take (i := 0) (v := .pointer (some ⟨p, 0, none⟩)) rfl (by kernel_rfl) (by kernel_rfl) (by kernel_rfl) (fun _ _ _ h => h) (.inl ⟨by rfl, by intro w hS; go_simp⟩) hH ?_
        (try simp only [jA, jB, jC, Act.put, jD, jE, jF])
        refine wpAnyH_take (i := 1) (v := .pointer (some ⟨p, 0, none⟩)) rfl (by kernel_rfl) (by kernel_rfl) (by kernel_rfl) (fun _ _ _ h => h) (.inl ⟨by rfl, by intro w hS; go_simp⟩) hH ?_
        (try simp only [jA, jB, jC, Act.put, jD, jE, jF])
        refine wpAnyH_take (i := 2) (v := .pointer (some ⟨p, 0, none⟩)) rfl (by kernel_rfl) (by kernel_rfl) (by kernel_rfl) (fun _ _ _ h => h) (.inl ⟨by rfl, by intro w hS; go_simp⟩) hH ?_
        (try simp only [jA, jB, jC, Act.put, jD, jE, jF])
        refine wpAnyH_take (i := 3) (v := .pointer (some ⟨pm, 0, none⟩)) rfl (by kernel_rfl) (by kernel_rfl) (by kernel_rfl) (fun _ _ _ h => h) (.inl ⟨by rfl, by intro w hS; obtain ⟨l0, l1⟩ := LD.out w hS; go_simp⟩) hH ?_
        (try simp only [jA, jB, jC, Act.put, jD, jE, jF])
        refine wpAnyH_take (i := 4) (v := .pointer (some ⟨p, 0, none⟩)) rfl (by kernel_rfl) (by kernel_rfl) (by kernel_rfl) (fun _ _ _ h => h) (.inl ⟨by rfl, by intro w hS; go_simp⟩) hH ?_
        (try simp only [jA, jB, jC, Act.put, jD, jE, jF])
        refine wpAnyH_take (i := 5) (v := .pointer (some ⟨p, 0, none⟩)) rfl (by kernel_rfl) (by kernel_rfl) (by kernel_rfl) (fun _ _ _ h => h) (.inl ⟨by rfl, by intro w hS; go_simp⟩) hH ?_
        (try simp only [jA, jB, jC, Act.put, jD, jE, jF])
        refine wpAnyH_take (i := 6) (v := .pointer (some ⟨p, 2, none⟩)) rfl (by kernel_rfl) (by kernel_rfl) (by kernel_rfl) (fun _ _ _ h => h) (.inl ⟨by rfl, by intro w hS; go_simp⟩) hH ?_
        (try simp only [jA, jB, jC, Act.put, jD, jE, jF])
        refine wpAnyH_take (i := 7) (v := .pointer (some ⟨p, 12, none⟩)) rfl (by kernel_rfl) (by kernel_rfl) (by kernel_rfl) (fun _ _ _ h => h) (.inl ⟨by rfl, by intro w hS; go_simp⟩) hH ?_
        (try simp only [jA, jB, jC, Act.put, jD, jE, jF])
        refine wpAnyH_take (i := 8) (v := .pointer (some ⟨p, 12, none⟩)) rfl (by kernel_rfl) (by kernel_rfl) (by kernel_rfl) (fun _ _ _ h => h) (.inl ⟨by rfl, by intro w hS; go_simp⟩) hH ?_
        (try simp only [jA, jB, jC, Act.put, jD, jE, jF])
        refine wpAnyH_take (i := 9) (v := .int .u32 c0) rfl (by kernel_rfl) (by kernel_rfl) (by kernel_rfl) (fun _ _ _ h => h) (.inl ⟨by rfl, by intro w hS; obtain ⟨l0, l1⟩ := LD.out w hS; go_simp⟩) hH ?_
        (try simp only [jA, jB, jC, Act.put, jD, jE, jF])
        refine wpAnyH_take (i := 10) (v := .int .u32 a) rfl (by kernel_rfl) (by kernel_rfl) (by kernel_rfl) (fun _ _ _ h => h) (.inl ⟨by rfl, by intro w hS; go_simp⟩) hH ?_
        (try simp only [jA, jB, jC, Act.put, jD, jE, jF])
        refine wpAnyH_ready (rs := [11, 15]) (by kernel_rfl) (by simp) ?_
        refine AllReadyH.cons rfl (fun K hK => ?_) ?_
        · skip
          rw [if_pos (by rfl)]
          go_simp
          refine (HL'.out _ hH).mono ?_
          rintro e w1 ⟨rfl, kw1⟩
          refine hK.out _ _ (kep_trans hH kw1) (fun hH => ?_)
          clear hK K
          (try simp only [jA, jB, jC, Act.put, jD, jE, jF])
          refine wpAnyH_take (i := 12) (v := .tuple #[.agg (wayV 0 0 0 0 0 0), .bool false]) rfl (by kernel_rfl) (by kernel_rfl) (by kernel_rfl) (fun _ _ _ h => h) (.inl ⟨by rfl, by intro w hS; go_simp⟩) hH ?_
          (try simp only [jA, jB, jC, Act.put, jD, jE, jF])
          refine wpAnyH_take (i := 13) (v := .agg (wayV 0 0 0 0 0 0)) rfl (by kernel_rfl) (by kernel_rfl) (by kernel_rfl) (fun _ _ _ h => h) (.inl ⟨by rfl, by intro w hS; go_simp⟩) hH ?_
          (try simp only [jA, jB, jC, Act.put, jD, jE, jF])
          refine wpAnyH_take (i := 14) (v := .bool false) rfl (by kernel_rfl) (by kernel_rfl) (by kernel_rfl) (fun _ _ _ h => h) (.inl ⟨by rfl, by intro w hS; go_simp⟩) hH ?_
          (try simp only [jA, jB, jC, Act.put, jD, jE, jF])
          refine wpAnyH_ready (rs := [15]) (by kernel_rfl) (by simp) ?_
          refine AllReadyH.cons rfl (fun K hK => ?_) AllReadyH.nil
          rw [if_pos (by rfl)]
          have zA : Hid (w.heap.size ≤ w1.heap.size) := hH.size
          go_simp
          refine hK.out _ _ (hH.alloc _) (fun hH => ?_)
          clear hK K
          (try simp only [jA, jB, jC, Act.put, jD, jE, jF])
          obtain ⟨gA, egA⟩ : ∃ g, Hid (g = w1.heap.size) := ⟨_, rfl⟩
          have NA : Hid (w.heap.size ≤ gA) := by rw [egA.out]; exact zA.out
          have BAw2 : Hid ((w1.alloc (.cells #[.int .u32 0, .int .u32 0, .int .u32 0, .int .i64 0, .int .i64 0, .int .i64 0] 196)).heap[gA]? = some (.cells #[.int .u32 0, .int .u32 0, .int .u32 0, .int .i64 0, .int .i64 0, .int .i64 0] 196 (0, 0))) := by rw [egA.out]; exact hat _ _ _ rfl
          rw [← egA.out]
          generalize w1.alloc (.cells #[.int .u32 0, .int .u32 0, .int .u32 0, .int .i64 0, .int .i64 0, .int .i64 0] 196) = w2 at hH BAw2 ⊢
          refine wpAnyH_ready (rs := [16]) (by kernel_rfl) (by simp) ?_
          refine AllReadyH.cons rfl (fun K hK => ?_) AllReadyH.nil
          rw [if_pos (by rfl)]
          refine wp_store_row 196 _ _ rfl gA (wayV 0 0 0 0 0 0) rfl rfl 196 #[.int .u32 0, .int .u32 0, .int .u32 0, .int .i64 0, .int .i64 0, .int .i64 0] BAw2.out (by exact size_way) rfl (by simp [wayV, Value.oneCell']) ?_
          refine hK.out _ _ (hH.setRow gA _ NA.out) (fun hH => ?_)
          clear hK K
          (try simp only [jA, jB, jC, Act.put, jD, jE, jF])
          have BAw3 : Hid ((w2.setRow gA (wayV 0 0 0 0 0 0)).heap[gA]? = some (.cells (wayV 0 0 0 0 0 0) 196 (0, 0))) := setRow_heap _ _ _ _ _ _ BAw2.out
          generalize w2.setRow gA (wayV 0 0 0 0 0 0) = w3 at hH BAw3 ⊢
          refine wpAnyH_take (i := 17) (v := .bool false) rfl (by kernel_rfl) (by kernel_rfl) (by kernel_rfl) (fun _ _ _ h => h) (.inl ⟨by rfl, by intro w hS; go_simp⟩) hH ?_
          (try simp only [jA, jB, jC, Act.put, jD, jE, jF])
          refine wpAnyH_done (by kernel_rfl) ?_ _
          go_wp2_with fail
          go_meet
          exact ⟨rfl, hH⟩
        refine AllReadyH.cons rfl (fun K hK => ?_) AllReadyH.nil
        rw [if_pos (by rfl)]
        have zA : Hid (w.heap.size ≤ wd.heap.size) := hH.size
        go_simp
        refine hK.out _ _ (hH.alloc _) (fun hH => ?_)
        clear hK K
        (try simp only [jA, jB, jC, Act.put, jD, jE, jF])
        obtain ⟨gA, egA⟩ : ∃ g, Hid (g = wd.heap.size) := ⟨_, rfl⟩
        have NA : Hid (w.heap.size ≤ gA) := by rw [egA.out]; exact zA.out
        have BAw4 : Hid ((wd.alloc (.cells #[.int .u32 0, .int .u32 0, .int .u32 0, .int .i64 0, .int .i64 0, .int .i64 0] 196)).heap[gA]? = some (.cells #[.int .u32 0, .int .u32 0, .int .u32 0, .int .i64 0, .int .i64 0, .int .i64 0] 196 (0, 0))) := by rw [egA.out]; exact hat _ _ _ rfl
        rw [← egA.out]
        generalize wd.alloc (.cells #[.int .u32 0, .int .u32 0, .int .u32 0, .int .i64 0, .int .i64 0, .int .i64 0] 196) = w4 at hH BAw4 ⊢
        refine wpAnyH_ready (rs := [11]) (by kernel_rfl) (by simp) ?_
        refine AllReadyH.cons rfl (fun K hK => ?_) AllReadyH.nil
        rw [if_pos (by rfl)]
        go_simp
        refine (HL'.out _ hH).mono ?_
        rintro e w5 ⟨rfl, kw5⟩
        refine hK.out _ _ (kep_trans hH kw5) (fun hH => ?_)
        clear hK K
        (try simp only [jA, jB, jC, Act.put, jD, jE, jF])
        have BAw5 : Hid (w5.heap[gA]? = some (.cells #[.int .u32 0, .int .u32 0, .int .u32 0, .int .i64 0, .int .i64 0, .int .i64 0] 196 (0, 0))) := Kep.block kw5 BAw4.out
        refine wpAnyH_take (i := 12) (v := .tuple #[.agg (wayV 0 0 0 0 0 0), .bool false]) rfl (by kernel_rfl) (by kernel_rfl) (by kernel_rfl) (fun _ _ _ h => h) (.inl ⟨by rfl, by intro w hS; go_simp⟩) hH ?_
        (try simp only [jA, jB, jC, Act.put, jD, jE, jF])
        refine wpAnyH_take (i := 13) (v := .agg (wayV 0 0 0 0 0 0)) rfl (by kernel_rfl) (by kernel_rfl) (by kernel_rfl) (fun _ _ _ h => h) (.inl ⟨by rfl, by intro w hS; go_simp⟩) hH ?_
        (try simp only [jA, jB, jC, Act.put, jD, jE, jF])
        refine wpAnyH_take (i := 14) (v := .bool false) rfl (by kernel_rfl) (by kernel_rfl) (by kernel_rfl) (fun _ _ _ h => h) (.inl ⟨by rfl, by intro w hS; go_simp⟩) hH ?_
        (try simp only [jA, jB, jC, Act.put, jD, jE, jF])
        refine wpAnyH_ready (rs := [16]) (by kernel_rfl) (by simp) ?_
        refine AllReadyH.cons rfl (fun K hK => ?_) AllReadyH.nil
        rw [if_pos (by rfl)]
        refine wp_store_row 196 _ _ rfl gA (wayV 0 0 0 0 0 0) rfl rfl 196 #[.int .u32 0, .int .u32 0, .int .u32 0, .int .i64 0, .int .i64 0, .int .i64 0] BAw5.out (by exact size_way) rfl (by simp [wayV, Value.oneCell']) ?_
        refine hK.out _ _ (hH.setRow gA _ NA.out) (fun hH => ?_)
        clear hK K
        (try simp only [jA, jB, jC, Act.put, jD, jE, jF])
        have BAw6 : Hid ((w5.setRow gA (wayV 0 0 0 0 0 0)).heap[gA]? = some (.cells (wayV 0 0 0 0 0 0) 196 (0, 0))) := setRow_heap _ _ _ _ _ _ BAw5.out
        generalize w5.setRow gA (wayV 0 0 0 0 0 0) = w6 at hH BAw6 ⊢
        refine wpAnyH_take (i := 17) (v := .bool false) rfl (by kernel_rfl) (by kernel_rfl) (by kernel_rfl) (fun _ _ _ h => h) (.inl ⟨by rfl, by intro w hS; go_simp⟩) hH ?_
        (try simp only [jA, jB, jC, Act.put, jD, jE, jF])
        refine wpAnyH_done (by kernel_rfl) ?_ _
        go_wp2_with fail
        go_meet
        exact ⟨rfl, hH⟩
      case rest =>
        rename World => w5
        obtain ⟨rfl, K5⟩ := hcut
        go_wp2_with fail
        go_end0
        exact ⟨rfl, Put.of_kep K5.out, RB.out.kep K5.out⟩
    | some y =>
      have hy := hidd (hey y rfl)
      have HL' : Hid (∀ w', Kep w w' → Calls Tryz.prog 115 #[.pointer (some ⟨pm, 0, none⟩), .int .u32 c0, .int .i64 16, .int .u32 a] w' fun e w'' => e = .returned (.tuple #[.agg (wyV y), .bool true]) ∧ Kep w' w'') := HL
      have ey : Hid (wyV y = wayV y.bits y.at_ y.entry y.dir y.tab y.page) := rfl
      rw [ey.out] at HL'
      show Calls _ _ _ _ fun e w' => e = .returned (.tuple #[]) ∧ Put [R] w w' ∧ RowB w' R (soilL B ix y.entry)
      have HS' : Hid (∀ w', Kep w w' → Calls Tryz.prog 116 #[.pointer (some ⟨pm, 0, none⟩), .int .u32 y.entry] w' fun e' w'' => (∃ y, e' = .returned (.bool y)) ∧ Put [R] w' w'' ∧ RowB w'' R (soilL B ix y.entry)) := fun w' k => HS.out w' y.entry k hy.out
      generalize soilL B ix y.entry = SL at HS' ⊢
      generalize (y.bits : Int) = y0 at HL'
      generalize (y.at_ : Int) = y1 at HL'
      generalize (y.entry : Int) = y2 at HL' HS'
      generalize (y.dir : Int) = y3 at HL'
      generalize (y.tab : Int) = y4 at HL'
      generalize (y.page : Int) = y5 at HL'
      clear HL hey HS hy ey
      go_enter Tryz.func89, Tryz.ntmps89
      go_upto_region 1 with fail
      go_cut [4, 5] from 13 to 27 (fun t4 t5 wx => ∃ g : Nat, t4 = .pointer (some ⟨g, 0, none⟩) ∧ t5 = .bool true ∧ Hid (Kep w wx) ∧ Hid (wx.heap[g]? = some (.cells (wayV y0 y1 y2 y3 y4 y5) 196 (0, 0))))
      case first =>
        refine wp_region_held_drew (S := fun w' => Kep w w') (by kernel_rfl) ((Kep.refl w).drew) (fun hH => ?_)
        generalize w.drew = wd at hH  ⊢
        refine wpAnyH_take (i := 0) (v := .pointer (some ⟨p, 0, none⟩)) rfl (by kernel_rfl) (by kernel_rfl) (by kernel_rfl) (fun _ _ _ h => h) (.inl ⟨by rfl, by intro w hS; go_simp⟩) hH ?_
        (try simp only [jA, jB, jC, Act.put, jD, jE, jF])
        refine wpAnyH_take (i := 1) (v := .pointer (some ⟨p, 0, none⟩)) rfl (by kernel_rfl) (by kernel_rfl) (by kernel_rfl) (fun _ _ _ h => h) (.inl ⟨by rfl, by intro w hS; go_simp⟩) hH ?_
        (try simp only [jA, jB, jC, Act.put, jD, jE, jF])
        refine wpAnyH_take (i := 2) (v := .pointer (some ⟨p, 0, none⟩)) rfl (by kernel_rfl) (by kernel_rfl) (by kernel_rfl) (fun _ _ _ h => h) (.inl ⟨by rfl, by intro w hS; go_simp⟩) hH ?_
        (try simp only [jA, jB, jC, Act.put, jD, jE, jF])
        refine wpAnyH_take (i := 3) (v := .pointer (some ⟨pm, 0, none⟩)) rfl (by kernel_rfl) (by kernel_rfl) (by kernel_rfl) (fun _ _ _ h => h) (.inl ⟨by rfl, by intro w hS; obtain ⟨l0, l1⟩ := LD.out w hS; go_simp⟩) hH ?_
        (try simp only [jA, jB, jC, Act.put, jD, jE, jF])
        refine wpAnyH_take (i := 4) (v := .pointer (some ⟨p, 0, none⟩)) rfl (by kernel_rfl) (by kernel_rfl) (by kernel_rfl) (fun _ _ _ h => h) (.inl ⟨by rfl, by intro w hS; go_simp⟩) hH ?_
        (try simp only [jA, jB, jC, Act.put, jD, jE, jF])
        refine wpAnyH_take (i := 5) (v := .pointer (some ⟨p, 0, none⟩)) rfl (by kernel_rfl) (by kernel_rfl) (by kernel_rfl) (fun _ _ _ h => h) (.inl ⟨by rfl, by intro w hS; go_simp⟩) hH ?_
        (try simp only [jA, jB, jC, Act.put, jD, jE, jF])
        refine wpAnyH_take (i := 6) (v := .pointer (some ⟨p, 2, none⟩)) rfl (by kernel_rfl) (by kernel_rfl) (by kernel_rfl) (fun _ _ _ h => h) (.inl ⟨by rfl, by intro w hS; go_simp⟩) hH ?_
        (try simp only [jA, jB, jC, Act.put, jD, jE, jF])
        refine wpAnyH_take (i := 7) (v := .pointer (some ⟨p, 12, none⟩)) rfl (by kernel_rfl) (by kernel_rfl) (by kernel_rfl) (fun _ _ _ h => h) (.inl ⟨by rfl, by intro w hS; go_simp⟩) hH ?_
        (try simp only [jA, jB, jC, Act.put, jD, jE, jF])
        refine wpAnyH_take (i := 8) (v := .pointer (some ⟨p, 12, none⟩)) rfl (by kernel_rfl) (by kernel_rfl) (by kernel_rfl) (fun _ _ _ h => h) (.inl ⟨by rfl, by intro w hS; go_simp⟩) hH ?_
        (try simp only [jA, jB, jC, Act.put, jD, jE, jF])
        refine wpAnyH_take (i := 9) (v := .int .u32 c0) rfl (by kernel_rfl) (by kernel_rfl) (by kernel_rfl) (fun _ _ _ h => h) (.inl ⟨by rfl, by intro w hS; obtain ⟨l0, l1⟩ := LD.out w hS; go_simp⟩) hH ?_
        (try simp only [jA, jB, jC, Act.put, jD, jE, jF])
        refine wpAnyH_take (i := 10) (v := .int .u32 a) rfl (by kernel_rfl) (by kernel_rfl) (by kernel_rfl) (fun _ _ _ h => h) (.inl ⟨by rfl, by intro w hS; go_simp⟩) hH ?_
        (try simp only [jA, jB, jC, Act.put, jD, jE, jF])
        refine wpAnyH_ready (rs := [11, 15]) (by kernel_rfl) (by simp) ?_
        refine AllReadyH.cons rfl (fun K hK => ?_) ?_
        · skip
          rw [if_pos (by rfl)]
          go_simp
          refine (HL'.out _ hH).mono ?_
          rintro e w1 ⟨rfl, kw1⟩
          refine hK.out _ _ (kep_trans hH kw1) (fun hH => ?_)
          clear hK K
          (try simp only [jA, jB, jC, Act.put, jD, jE, jF])
          refine wpAnyH_take (i := 12) (v := .tuple #[.agg (wayV y0 y1 y2 y3 y4 y5), .bool true]) rfl (by kernel_rfl) (by kernel_rfl) (by kernel_rfl) (fun _ _ _ h => h) (.inl ⟨by rfl, by intro w hS; go_simp⟩) hH ?_
          (try simp only [jA, jB, jC, Act.put, jD, jE, jF])
          refine wpAnyH_take (i := 13) (v := .agg (wayV y0 y1 y2 y3 y4 y5)) rfl (by kernel_rfl) (by kernel_rfl) (by kernel_rfl) (fun _ _ _ h => h) (.inl ⟨by rfl, by intro w hS; go_simp⟩) hH ?_
          (try simp only [jA, jB, jC, Act.put, jD, jE, jF])
          refine wpAnyH_take (i := 14) (v := .bool true) rfl (by kernel_rfl) (by kernel_rfl) (by kernel_rfl) (fun _ _ _ h => h) (.inl ⟨by rfl, by intro w hS; go_simp⟩) hH ?_
          (try simp only [jA, jB, jC, Act.put, jD, jE, jF])
          refine wpAnyH_ready (rs := [15]) (by kernel_rfl) (by simp) ?_
          refine AllReadyH.cons rfl (fun K hK => ?_) AllReadyH.nil
          rw [if_pos (by rfl)]
          have zA : Hid (w.heap.size ≤ w1.heap.size) := hH.size
          go_simp
          refine hK.out _ _ (hH.alloc _) (fun hH => ?_)
          clear hK K
          (try simp only [jA, jB, jC, Act.put, jD, jE, jF])
          obtain ⟨gA, egA⟩ : ∃ g, Hid (g = w1.heap.size) := ⟨_, rfl⟩
          have NA : Hid (w.heap.size ≤ gA) := by rw [egA.out]; exact zA.out
          have BAw2 : Hid ((w1.alloc (.cells #[.int .u32 0, .int .u32 0, .int .u32 0, .int .i64 0, .int .i64 0, .int .i64 0] 196)).heap[gA]? = some (.cells #[.int .u32 0, .int .u32 0, .int .u32 0, .int .i64 0, .int .i64 0, .int .i64 0] 196 (0, 0))) := by rw [egA.out]; exact hat _ _ _ rfl
          rw [← egA.out]
          generalize w1.alloc (.cells #[.int .u32 0, .int .u32 0, .int .u32 0, .int .i64 0, .int .i64 0, .int .i64 0] 196) = w2 at hH BAw2 ⊢
          refine wpAnyH_ready (rs := [16]) (by kernel_rfl) (by simp) ?_
          refine AllReadyH.cons rfl (fun K hK => ?_) AllReadyH.nil
          rw [if_pos (by rfl)]
          refine wp_store_row 196 _ _ rfl gA (wayV y0 y1 y2 y3 y4 y5) rfl rfl 196 #[.int .u32 0, .int .u32 0, .int .u32 0, .int .i64 0, .int .i64 0, .int .i64 0] BAw2.out (by exact size_way) rfl (way_one _ _ _ _ _ _) ?_
          refine hK.out _ _ (hH.setRow gA _ NA.out) (fun hH => ?_)
          clear hK K
          (try simp only [jA, jB, jC, Act.put, jD, jE, jF])
          have BAw3 : Hid ((w2.setRow gA (wayV y0 y1 y2 y3 y4 y5)).heap[gA]? = some (.cells (wayV y0 y1 y2 y3 y4 y5) 196 (0, 0))) := setRow_heap _ _ _ _ _ _ BAw2.out
          generalize w2.setRow gA (wayV y0 y1 y2 y3 y4 y5) = w3 at hH BAw3 ⊢
          refine wpAnyH_take (i := 17) (v := .bool true) rfl (by kernel_rfl) (by kernel_rfl) (by kernel_rfl) (fun _ _ _ h => h) (.inl ⟨by rfl, by intro w hS; go_simp⟩) hH ?_
          (try simp only [jA, jB, jC, Act.put, jD, jE, jF])
          refine wpAnyH_done (by kernel_rfl) ?_ _
          go_wp2_with fail
          go_meet
          exact ⟨gA, rfl, rfl, hH, BAw3.out⟩
        refine AllReadyH.cons rfl (fun K hK => ?_) AllReadyH.nil
        rw [if_pos (by rfl)]
        have zA : Hid (w.heap.size ≤ wd.heap.size) := hH.size
        go_simp
        refine hK.out _ _ (hH.alloc _) (fun hH => ?_)
        clear hK K
        (try simp only [jA, jB, jC, Act.put, jD, jE, jF])
        obtain ⟨gA, egA⟩ : ∃ g, Hid (g = wd.heap.size) := ⟨_, rfl⟩
        have NA : Hid (w.heap.size ≤ gA) := by rw [egA.out]; exact zA.out
        have BAw4 : Hid ((wd.alloc (.cells #[.int .u32 0, .int .u32 0, .int .u32 0, .int .i64 0, .int .i64 0, .int .i64 0] 196)).heap[gA]? = some (.cells #[.int .u32 0, .int .u32 0, .int .u32 0, .int .i64 0, .int .i64 0, .int .i64 0] 196 (0, 0))) := by rw [egA.out]; exact hat _ _ _ rfl
        rw [← egA.out]
        generalize wd.alloc (.cells #[.int .u32 0, .int .u32 0, .int .u32 0, .int .i64 0, .int .i64 0, .int .i64 0] 196) = w4 at hH BAw4 ⊢
        refine wpAnyH_ready (rs := [11]) (by kernel_rfl) (by simp) ?_
        refine AllReadyH.cons rfl (fun K hK => ?_) AllReadyH.nil
        rw [if_pos (by rfl)]
        go_simp
        refine (HL'.out _ hH).mono ?_
        rintro e w5 ⟨rfl, kw5⟩
        refine hK.out _ _ (kep_trans hH kw5) (fun hH => ?_)
        clear hK K
        (try simp only [jA, jB, jC, Act.put, jD, jE, jF])
        have BAw5 : Hid (w5.heap[gA]? = some (.cells #[.int .u32 0, .int .u32 0, .int .u32 0, .int .i64 0, .int .i64 0, .int .i64 0] 196 (0, 0))) := Kep.block kw5 BAw4.out
        refine wpAnyH_take (i := 12) (v := .tuple #[.agg (wayV y0 y1 y2 y3 y4 y5), .bool true]) rfl (by kernel_rfl) (by kernel_rfl) (by kernel_rfl) (fun _ _ _ h => h) (.inl ⟨by rfl, by intro w hS; go_simp⟩) hH ?_
        (try simp only [jA, jB, jC, Act.put, jD, jE, jF])
        refine wpAnyH_take (i := 13) (v := .agg (wayV y0 y1 y2 y3 y4 y5)) rfl (by kernel_rfl) (by kernel_rfl) (by kernel_rfl) (fun _ _ _ h => h) (.inl ⟨by rfl, by intro w hS; go_simp⟩) hH ?_
        (try simp only [jA, jB, jC, Act.put, jD, jE, jF])
        refine wpAnyH_take (i := 14) (v := .bool true) rfl (by kernel_rfl) (by kernel_rfl) (by kernel_rfl) (fun _ _ _ h => h) (.inl ⟨by rfl, by intro w hS; go_simp⟩) hH ?_
        (try simp only [jA, jB, jC, Act.put, jD, jE, jF])
        refine wpAnyH_ready (rs := [16]) (by kernel_rfl) (by simp) ?_
        refine AllReadyH.cons rfl (fun K hK => ?_) AllReadyH.nil
        rw [if_pos (by rfl)]
        refine wp_store_row 196 _ _ rfl gA (wayV y0 y1 y2 y3 y4 y5) rfl rfl 196 #[.int .u32 0, .int .u32 0, .int .u32 0, .int .i64 0, .int .i64 0, .int .i64 0] BAw5.out (by exact size_way) rfl (way_one _ _ _ _ _ _) ?_
        refine hK.out _ _ (hH.setRow gA _ NA.out) (fun hH => ?_)
        clear hK K
        (try simp only [jA, jB, jC, Act.put, jD, jE, jF])
        have BAw6 : Hid ((w5.setRow gA (wayV y0 y1 y2 y3 y4 y5)).heap[gA]? = some (.cells (wayV y0 y1 y2 y3 y4 y5) 196 (0, 0))) := setRow_heap _ _ _ _ _ _ BAw5.out
        generalize w5.setRow gA (wayV y0 y1 y2 y3 y4 y5) = w6 at hH BAw6 ⊢
        refine wpAnyH_take (i := 17) (v := .bool true) rfl (by kernel_rfl) (by kernel_rfl) (by kernel_rfl) (fun _ _ _ h => h) (.inl ⟨by rfl, by intro w hS; go_simp⟩) hH ?_
        (try simp only [jA, jB, jC, Act.put, jD, jE, jF])
        refine wpAnyH_done (by kernel_rfl) ?_ _
        go_wp2_with fail
        go_meet
        exact ⟨gA, rfl, rfl, hH, BAw6.out⟩
      case rest =>
        rename World => w5
        obtain ⟨g, rfl, rfl, K5, G5⟩ := hcut
        obtain ⟨l0, _⟩ := LD.out w5 K5.out
        have l2 : w5.cell? ⟨g, 2, none⟩ = some (.int .u32 y2) := cell_of_block G5.out
        go_upto_region 3 with fail
        go_region_with (go_at_call 116; refine (HS'.out _ K5.out.drew).mono ?_; rintro e w6 ⟨⟨z, rfl⟩, p6, r6⟩; have P6 := hidd p6; have R6 := hidd r6; clear p6 r6)
        all_goals
          go_wp2_with fail
          go_end0
          exact ⟨rfl, (Put.of_kep K5.out).drew.trans P6.out, R6.out⟩
  · have tp := pag_no ok hp
    have em : Hid (soiM B ix s a = B) := by unfold Hid soiM; rw [if_neg hp]
    rw [em.out]
    generalize s.ps = ps at cps tp
    clear bx M ok em hp
    go_enter Tryz.func89, Tryz.ntmps89
    go_wp2_with fail
    refine bodyPost_ret (results_none rfl _ _ _) rfl ?_
    exact ⟨rfl, Put.refl _, RB.out⟩
end Go.Proofs.YtnignfloedcmlaaGreatDoor
