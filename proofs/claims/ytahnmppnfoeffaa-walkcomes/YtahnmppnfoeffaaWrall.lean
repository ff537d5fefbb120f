/- The document's Look, where it comes to a page. -/
import Derived.Test.YtahnmppnfoeffaaWrlook
namespace Go.Proofs.Ytahnmppnfoeffaa
open Go.RowKit
set_option linter.unusedVariables false

theorem join_sum (x y : Nat) (hx : x % 2 = 1) (hy : y % 2 = 1) :
    (bif (y / 16 % 2 == 1) then (bif (x / 8 % 2 == 1 || y / 8 % 2 == 1) then (bif (x / 4 % 2 == 1 && y / 4 % 2 == 1) then (bif (x / 2 % 2 == 1 && y / 2 % 2 == 1) then (3 : Int) else 1) + 4 else (bif (x / 2 % 2 == 1 && y / 2 % 2 == 1) then (3 : Int) else 1)) + 8 else (bif (x / 4 % 2 == 1 && y / 4 % 2 == 1) then (bif (x / 2 % 2 == 1 && y / 2 % 2 == 1) then (3 : Int) else 1) + 4 else (bif (x / 2 % 2 == 1 && y / 2 % 2 == 1) then (3 : Int) else 1))) + 16 else
      (bif (x / 8 % 2 == 1 || y / 8 % 2 == 1) then (bif (x / 4 % 2 == 1 && y / 4 % 2 == 1) then (bif (x / 2 % 2 == 1 && y / 2 % 2 == 1) then (3 : Int) else 1) + 4 else (bif (x / 2 % 2 == 1 && y / 2 % 2 == 1) then (3 : Int) else 1)) + 8 else (bif (x / 4 % 2 == 1 && y / 4 % 2 == 1) then (bif (x / 2 % 2 == 1 && y / 2 % 2 == 1) then (3 : Int) else 1) + 4 else (bif (x / 2 % 2 == 1 && y / 2 % 2 == 1) then (3 : Int) else 1)))) = ((joinN x y : Nat) : Int) := by
  have h : ∀ r < 32, ∀ s < 32, r % 2 = 1 → s % 2 = 1 → (bif (s / 16 % 2 == 1) then (bif (r / 8 % 2 == 1 || s / 8 % 2 == 1) then (bif (r / 4 % 2 == 1 && s / 4 % 2 == 1) then (bif (r / 2 % 2 == 1 && s / 2 % 2 == 1) then (3 : Int) else 1) + 4 else (bif (r / 2 % 2 == 1 && s / 2 % 2 == 1) then (3 : Int) else 1)) + 8 else (bif (r / 4 % 2 == 1 && s / 4 % 2 == 1) then (bif (r / 2 % 2 == 1 && s / 2 % 2 == 1) then (3 : Int) else 1) + 4 else (bif (r / 2 % 2 == 1 && s / 2 % 2 == 1) then (3 : Int) else 1))) + 16 else
      (bif (r / 8 % 2 == 1 || s / 8 % 2 == 1) then (bif (r / 4 % 2 == 1 && s / 4 % 2 == 1) then (bif (r / 2 % 2 == 1 && s / 2 % 2 == 1) then (3 : Int) else 1) + 4 else (bif (r / 2 % 2 == 1 && s / 2 % 2 == 1) then (3 : Int) else 1)) + 8 else (bif (r / 4 % 2 == 1 && s / 4 % 2 == 1) then (bif (r / 2 % 2 == 1 && s / 2 % 2 == 1) then (3 : Int) else 1) + 4 else (bif (r / 2 % 2 == 1 && s / 2 % 2 == 1) then (3 : Int) else 1)))) = ((joinN r s : Nat) : Int) := by decide +kernel
  have e : ∀ z : Nat, z % 32 / 2 % 2 = z / 2 % 2 ∧ z % 32 / 4 % 2 = z / 4 % 2 ∧ z % 32 / 8 % 2 = z / 8 % 2 ∧ z % 32 / 16 % 2 = z / 16 % 2 := fun z => by omega
  have := h (x % 32) (Nat.mod_lt _ (by decide)) (y % 32) (Nat.mod_lt _ (by decide)) (by omega) (by omega)
  rw [joinN_mod, (e x).1, (e x).2.1, (e x).2.2.1, (e y).1, (e y).2.1, (e y).2.2.1, (e y).2.2.2] at this
  exact this

set_option maxHeartbeats 4000000 in
set_option maxRecDepth 100000 in
theorem rlook_all (w : World) (p : Option Addr) (n root : Nat) (dirs : Int) (va : Nat) (hr : (root : Int) < 4294967296) (ha : (va : Int) < 4294967296) (hd : ((va / 1024 : Nat) : Int) < dirs) (x : Nat) (hx : (x : Int) < 4294967296) (hx2 : x % 2 = 1) (y : Nat) (hy : (y : Int) < 4294967296) (hy2 : y % 2 = 1) (h1 : RWordIs w p n (dirAt root va) (some x)) (h2 : RWordIs w p n (tabAt x va) (some y)) (h3 : RByteIs w p n (pageAt y va) true) :
    Calls Try.prog 11 #[refV p n, .int .u32 root, .int .i64 dirs, .int .u32 va] w fun e w' => e = .returned (.tuple (wyR (some (wayOf root va x y)))) ∧ Kep w w' := by
  have g : decide (dirs ≤ (va : Int) / 1024) = false := decide_eq_false (by omega)
  have ax : (x : Int) % 2 = 1 := by omega
  have ay : (y : Int) % 2 = 1 := by omega
  have H1 : Hid (∀ t : Int, t = dirAt root va → ∀ w', Kep w w' → Calls Try.prog 28 #[.agg #[.slice p n n], .int .u32 t] w' fun e w'' => e = .returned (.tuple #[.int .u32 x, .bool true]) ∧ Kep w' w'') := by intro t ht w' k; subst ht; exact h1 w' k
  have H2 : Hid (∀ t : Int, t = tabAt x va → ∀ w', Kep w w' → Calls Try.prog 28 #[.agg #[.slice p n n], .int .u32 t] w' fun e w'' => e = .returned (.tuple #[.int .u32 y, .bool true]) ∧ Kep w' w'') := by intro t ht w' k; subst ht; exact h2 w' k
  have H3 : Hid (∀ t : Int, t = pageAt y va → ∀ w', Kep w w' → Calls Try.prog 29 #[.agg #[.slice p n n], .int .u32 t] w' fun e w'' => ∃ z : Int, e = .returned (.tuple #[.int .u8 z, .bool true]) ∧ Kep w' w'') := by intro t ht w' k; subst ht; exact h3 w' k
  have ed : Hid (((root : Int) - (root : Int) % 64 + 4 * ((va : Int) / 1024)) % 4294967296 = dirAt root va) := by unfold Hid dirAt; omega
  have et : Hid ((x : Int) - (x : Int) % 64 + 4 * ((va : Int) / 64 % 16) = tabAt x va ∧ tabAt x va < 4294967296) := by unfold Hid tabAt; omega
  have ep : Hid ((y : Int) - (y : Int) % 64 + (va : Int) % 64 = pageAt y va ∧ pageAt y va < 4294967296) := by unfold Hid pageAt; omega
  clear h1 hd h2 h3
  have hdl : Hid (dirAt root va < 4294967296) := by unfold Hid dirAt; omega
  have hwy : Hid (wayOf root va x y = ⟨joinN x y, pageAt y va, tabAt x va, dirAt root va / 64, tabAt x va / 64, pageAt y va / 64⟩) := rfl
  generalize wayOf root va x y = W at hwy
  generalize dirAt root va = D at H1 ed hwy hdl
  generalize tabAt x va = T at H2 et hwy
  generalize pageAt y va = P at H3 ep hwy
  clear hx2
  clear hy2
  go_enter Try.func11, Try.ntmps11
  go_wp2_with fail
  refine (H1.out _ ed.out _ (((Kep.refl _).alloc _).alloc _)).mono ?_
  rintro e w1 ⟨rfl, k1⟩
  have K1 : Hid (Kep w w1) := kep_trans (((Kep.refl _).alloc _).alloc _) k1
  have bx1 : Hid (w1.heap[w.heap.size]? = some (.cells #[.slice p n n] 28 (0, 0))) := k1.block ((hsk _ _ _ (by simp)).trans (hat _ _ _ rfl))
  have by1 : Hid (w1.heap[w.heap.size + 1]? = some (.cells (wayV 0 0 0 0 0 0) 35 (0, 0))) := k1.block (hat _ _ _ (by simp))
  have d1 : w1.cell? ⟨w.heap.size, 0, none⟩ = some (.slice p n n) := cell_of_block bx1.out
  obtain ⟨c0, c1, c2, c3, c4, c5, fz⟩ := rway_cells by1.out
  clear k1 H1
  clear c0 c1 c2 c3 c4 c5 fz
  go_wp2_with fail
  refine (H2.out _ et.out.1 _ K1.out).mono ?_
  rintro e w2 ⟨rfl, k2⟩
  have K2 : Hid (Kep w w2) := kep_trans K1.out k2
  have bx2 : Hid (w2.heap[w.heap.size]? = some (.cells #[.slice p n n] 28 (0, 0))) := k2.block bx1.out
  have by2 : Hid (w2.heap[w.heap.size + 1]? = some (.cells (wayV 0 0 0 0 0 0) 35 (0, 0))) := k2.block by1.out
  have d2 : w2.cell? ⟨w.heap.size, 0, none⟩ = some (.slice p n n) := cell_of_block bx2.out
  obtain ⟨c0, c1, c2, c3, c4, c5, fz⟩ := rway_cells by2.out
  clear k2 H2 d1
  clear c0 c1 c2 c3 c4 c5 fz
  go_wp2_with fail
  refine (H3.out _ ep.out.1 _ K2.out).mono ?_
  rintro e w3 ⟨z, rfl, k3⟩
  have K3 : Hid (Kep w w3) := kep_trans K2.out k3
  have bx3 : Hid (w3.heap[w.heap.size]? = some (.cells #[.slice p n n] 28 (0, 0))) := k3.block bx2.out
  have by3 : Hid (w3.heap[w.heap.size + 1]? = some (.cells (wayV 0 0 0 0 0 0) 35 (0, 0))) := k3.block by2.out
  have d3 : w3.cell? ⟨w.heap.size, 0, none⟩ = some (.slice p n n) := cell_of_block bx3.out
  obtain ⟨c0, c1, c2, c3, c4, c5, fz⟩ := rway_cells by3.out
  clear k3 H3 d2
  obtain ⟨X2, hX2, HX2⟩ : ∃ B, Hid (((x) / 2 % 2 == 1) = B) ∧ Hid (∀ w, Calls Try.prog 30 #[.int .u32 x, .int .u32 2] w fun e w' => e = .returned (.bool B) ∧ w' = w) := ⟨_, rfl, fun w => rhas_any w x 2 hx (by decide) (by decide)⟩
  obtain ⟨Y2, hY2, HY2⟩ : ∃ B, Hid (((y) / 2 % 2 == 1) = B) ∧ Hid (∀ w, Calls Try.prog 30 #[.int .u32 y, .int .u32 2] w fun e w' => e = .returned (.bool B) ∧ w' = w) := ⟨_, rfl, fun w => rhas_any w y 2 hy (by decide) (by decide)⟩
  obtain ⟨X4, hX4, HX4⟩ : ∃ B, Hid (((x) / 4 % 2 == 1) = B) ∧ Hid (∀ w, Calls Try.prog 30 #[.int .u32 x, .int .u32 4] w fun e w' => e = .returned (.bool B) ∧ w' = w) := ⟨_, rfl, fun w => rhas_any w x 4 hx (by decide) (by decide)⟩
  obtain ⟨Y4, hY4, HY4⟩ : ∃ B, Hid (((y) / 4 % 2 == 1) = B) ∧ Hid (∀ w, Calls Try.prog 30 #[.int .u32 y, .int .u32 4] w fun e w' => e = .returned (.bool B) ∧ w' = w) := ⟨_, rfl, fun w => rhas_any w y 4 hy (by decide) (by decide)⟩
  obtain ⟨X8, hX8, HX8⟩ : ∃ B, Hid (((x) / 8 % 2 == 1) = B) ∧ Hid (∀ w, Calls Try.prog 30 #[.int .u32 x, .int .u32 8] w fun e w' => e = .returned (.bool B) ∧ w' = w) := ⟨_, rfl, fun w => rhas_any w x 8 hx (by decide) (by decide)⟩
  obtain ⟨Y8, hY8, HY8⟩ : ∃ B, Hid (((y) / 8 % 2 == 1) = B) ∧ Hid (∀ w, Calls Try.prog 30 #[.int .u32 y, .int .u32 8] w fun e w' => e = .returned (.bool B) ∧ w' = w) := ⟨_, rfl, fun w => rhas_any w y 8 hy (by decide) (by decide)⟩
  obtain ⟨Y16, hY16, HY16⟩ : ∃ B, Hid (((y) / 16 % 2 == 1) = B) ∧ Hid (∀ w, Calls Try.prog 30 #[.int .u32 y, .int .u32 16] w fun e w' => e = .returned (.bool B) ∧ w' = w) := ⟨_, rfl, fun w => rhas_any w y 16 hy (by decide) (by decide)⟩
  go_upto_region 16 with fail
  rw [ed.out, et.out.1, ep.out.1]
  clear g ha hr d3 c0 c1 c2 c3 c4 c5 fz
  obtain ⟨V2, hV2⟩ : ∃ V, Hid (V = (X2 && Y2)) := ⟨_, rfl⟩
  go_cut [101] from 96 to 101 (fun s wx => s = .bool V2 ∧ wx = (w3.alloc (.cells #[.int .u32 1, .int .u32 P, .int .u32 T, .int .i64 ((D : Int) / 64), .int .i64 ((T : Int) / 64), .int .i64 ((P : Int) / 64)] 35)))
  case first =>
    cases X2
    · go_wp2_with fail; refine (HX2.out _).mono ?_; rintro e wz ⟨rfl, rfl⟩; go_wp2_with fail; go_meet; exact ⟨by rw [hV2.out]; rfl, rfl⟩
    · cases Y2 <;> (go_wp2_with fail; refine (HX2.out _).mono ?_; rintro e wz ⟨rfl, rfl⟩; go_wp2_with fail; refine (HY2.out _).mono ?_; rintro e wz ⟨rfl, rfl⟩; go_wp2_with fail; go_meet; exact ⟨by rw [hV2.out]; rfl, rfl⟩)
  case rest =>
  obtain ⟨rfl, rfl⟩ := hcut
  clear HX2 HY2
  go_upto_if 101 with fail
  go_cut [9] from 102 to 105 (fun s wx => s = .bool false ∧ wx = (w3.alloc (.cells #[.int .u32 (bif V2 then 3 else 1), .int .u32 P, .int .u32 T, .int .i64 ((D : Int) / 64), .int .i64 ((T : Int) / 64), .int .i64 ((P : Int) / 64)] 35)))
  case first =>
    cases V2 <;> (
      go_wp2_with fail
      go_meet
      exact ⟨rfl, rfl⟩)
  case rest =>
  obtain ⟨rfl, rfl⟩ := hcut
  obtain ⟨q1, hq1, rq1, sq1⟩ : ∃ c : Int, Hid ((bif V2 then 3 else 1) = c) ∧ 0 ≤ c ∧ c ≤ 3 := ⟨_, rfl, by cases V2 <;> simp <;> omega, by cases V2 <;> simp <;> omega⟩
  rw [hq1.out]
  obtain ⟨V4, hV4⟩ : ∃ V, Hid (V = (X4 && Y4)) := ⟨_, rfl⟩
  go_upto_region 18 with fail
  go_cut [111] from 106 to 111 (fun s wx => s = .bool V4 ∧ wx = (w3.alloc (.cells #[.int .u32 q1, .int .u32 P, .int .u32 T, .int .i64 ((D : Int) / 64), .int .i64 ((T : Int) / 64), .int .i64 ((P : Int) / 64)] 35)))
  case first =>
    cases X4
    · go_wp2_with fail; refine (HX4.out _).mono ?_; rintro e wz ⟨rfl, rfl⟩; go_wp2_with fail; go_meet; exact ⟨by rw [hV4.out]; rfl, rfl⟩
    · cases Y4 <;> (go_wp2_with fail; refine (HX4.out _).mono ?_; rintro e wz ⟨rfl, rfl⟩; go_wp2_with fail; refine (HY4.out _).mono ?_; rintro e wz ⟨rfl, rfl⟩; go_wp2_with fail; go_meet; exact ⟨by rw [hV4.out]; rfl, rfl⟩)
  case rest =>
  obtain ⟨rfl, rfl⟩ := hcut
  clear HX4 HY4
  go_upto_if 111 with fail
  go_cut [9] from 112 to 115 (fun s wx => s = .bool false ∧ wx = (w3.alloc (.cells #[.int .u32 (bif V4 then q1 + 4 else q1), .int .u32 P, .int .u32 T, .int .i64 ((D : Int) / 64), .int .i64 ((T : Int) / 64), .int .i64 ((P : Int) / 64)] 35)))
  case first =>
    cases V4 <;> (
      go_wp2_with fail
      go_meet
      exact ⟨rfl, rfl⟩)
  case rest =>
  obtain ⟨rfl, rfl⟩ := hcut
  obtain ⟨q2, hq2, rq2, sq2⟩ : ∃ c : Int, Hid ((bif V4 then q1 + 4 else q1) = c) ∧ 0 ≤ c ∧ c ≤ 7 := ⟨_, rfl, by cases V4 <;> simp <;> omega, by cases V4 <;> simp <;> omega⟩
  rw [hq2.out]
  obtain ⟨V8, hV8⟩ : ∃ V, Hid (V = (X8 || Y8)) := ⟨_, rfl⟩
  go_upto_region 20 with fail
  go_cut [121] from 116 to 121 (fun s wx => s = .bool V8 ∧ wx = (w3.alloc (.cells #[.int .u32 q2, .int .u32 P, .int .u32 T, .int .i64 ((D : Int) / 64), .int .i64 ((T : Int) / 64), .int .i64 ((P : Int) / 64)] 35)))
  case first =>
    cases X8
    · cases Y8 <;> (go_wp2_with fail; refine (HX8.out _).mono ?_; rintro e wz ⟨rfl, rfl⟩; go_wp2_with fail; refine (HY8.out _).mono ?_; rintro e wz ⟨rfl, rfl⟩; go_wp2_with fail; go_meet; exact ⟨by rw [hV8.out]; rfl, rfl⟩)
    · go_wp2_with fail; refine (HX8.out _).mono ?_; rintro e wz ⟨rfl, rfl⟩; go_wp2_with fail; go_meet; exact ⟨by rw [hV8.out]; rfl, rfl⟩
  case rest =>
  obtain ⟨rfl, rfl⟩ := hcut
  clear HX8 HY8
  go_upto_if 121 with fail
  go_cut [9] from 122 to 125 (fun s wx => s = .bool false ∧ wx = (w3.alloc (.cells #[.int .u32 (bif V8 then q2 + 8 else q2), .int .u32 P, .int .u32 T, .int .i64 ((D : Int) / 64), .int .i64 ((T : Int) / 64), .int .i64 ((P : Int) / 64)] 35)))
  case first =>
    cases V8 <;> (
      go_wp2_with fail
      go_meet
      exact ⟨rfl, rfl⟩)
  case rest =>
  obtain ⟨rfl, rfl⟩ := hcut
  obtain ⟨q3, hq3, rq3, sq3⟩ : ∃ c : Int, Hid ((bif V8 then q2 + 8 else q2) = c) ∧ 0 ≤ c ∧ c ≤ 15 := ⟨_, rfl, by cases V8 <;> simp <;> omega, by cases V8 <;> simp <;> omega⟩
  rw [hq3.out]
  go_upto_region 22 with fail
  go_cut [127] from 126 to 127 (fun s wx => s = .bool Y16 ∧ wx = (w3.alloc (.cells #[.int .u32 q3, .int .u32 P, .int .u32 T, .int .i64 ((D : Int) / 64), .int .i64 ((T : Int) / 64), .int .i64 ((P : Int) / 64)] 35)))
  case first =>
    go_wp2_with fail; refine (HY16.out _).mono ?_; rintro e wz ⟨rfl, rfl⟩; go_wp2_with fail; go_meet; exact ⟨rfl, rfl⟩
  case rest =>
  obtain ⟨rfl, rfl⟩ := hcut
  clear HY16
  go_upto_if 127 with fail
  go_cut [9] from 128 to 131 (fun s wx => s = .bool false ∧ wx = (w3.alloc (.cells #[.int .u32 (bif Y16 then q3 + 16 else q3), .int .u32 P, .int .u32 T, .int .i64 ((D : Int) / 64), .int .i64 ((T : Int) / 64), .int .i64 ((P : Int) / 64)] 35)))
  case first =>
    cases Y16 <;> (
      go_wp2_with fail
      go_meet
      exact ⟨rfl, rfl⟩)
  case rest =>
  obtain ⟨rfl, rfl⟩ := hcut
  obtain ⟨q4, hq4, rq4, sq4⟩ : ∃ c : Int, Hid ((bif Y16 then q3 + 16 else q3) = c) ∧ 0 ≤ c ∧ c ≤ 31 := ⟨_, rfl, by cases Y16 <;> simp <;> omega, by cases Y16 <;> simp <;> omega⟩
  rw [hq4.out]
  have hbt : Hid (q4 = ((joinN x y : Nat) : Int)) := by
    have h2 := hX2.out
    have h4 := hX4.out
    have h8 := hX8.out
    have g2 := hY2.out
    have g4 := hY4.out
    have g8 := hY8.out
    have g16 := hY16.out
    rw [Hid, ← hq4.out, ← hq3.out, ← hq2.out, ← hq1.out, hV2.out, hV4.out, hV8.out, ← h2, ← h4, ← h8, ← g2, ← g4, ← g8, ← g16]
    exact join_sum x y (by omega) (by omega)
  have by4 : ∀ o, (w3.alloc o).heap[w.heap.size + 1]? = some (.cells (wayV 0 0 0 0 0 0) 35 (0, 0)) := fun o => (hsk _ _ _ (block_lt by3.out)).trans by3.out
  have c0 : ∀ o, (w3.alloc o).cell? ⟨w.heap.size + 1, 0, none⟩ = some (.int .u32 0) := fun o => cell_of_block (by4 o)
  have c1 : ∀ o, (w3.alloc o).cell? ⟨w.heap.size + 1, 1, none⟩ = some (.int .u32 0) := fun o => cell_of_block (by4 o)
  have c2 : ∀ o, (w3.alloc o).cell? ⟨w.heap.size + 1, 2, none⟩ = some (.int .u32 0) := fun o => cell_of_block (by4 o)
  have c3 : ∀ o, (w3.alloc o).cell? ⟨w.heap.size + 1, 3, none⟩ = some (.int .i64 0) := fun o => cell_of_block (by4 o)
  have c4 : ∀ o, (w3.alloc o).cell? ⟨w.heap.size + 1, 4, none⟩ = some (.int .i64 0) := fun o => cell_of_block (by4 o)
  have c5 : ∀ o, (w3.alloc o).cell? ⟨w.heap.size + 1, 5, none⟩ = some (.int .i64 0) := fun o => cell_of_block (by4 o)
  have fz : ∀ o k, (w3.alloc o).frozen? ⟨w.heap.size + 1, k, none⟩ = false := fun o k => by simp only [World.frozen?, by4 o]; simp
  have by5 : Hid (∀ o, (w3.alloc o).heap[w.heap.size + 1]? = some (.cells (wayV 0 0 0 0 0 0) 35 (0, 0))) := by4
  clear rq1 sq1 rq2 sq2 rq3 sq3 rq4 sq4 hx hy ax ay by4
  go_wp2_with fail
  have hv : wyR (some W) = #[.agg (wayV q4 P T ((D : Int) / 64) ((T : Int) / 64) ((P : Int) / 64)), .bool true] := by
    rw [hwy.out, hbt.out]; rfl
  rw [hv]
  refine bodyPost_ret (resultsC1 rfl _ _ (w.heap.size + 1) 35 (wayV q4 P T ((D : Int) / 64) ((T : Int) / 64) ((P : Int) / 64)) (0, 0) _ rfl (set6 (by5.out _)) Try.underlying35 rfl size_rway) rfl ⟨rfl, (((((((K3.out.alloc _).setCell (by simp) _).setCell (by simp) _).setCell (by simp) _).setCell (by simp) _).setCell (by simp) _).setCell (by simp) _)⟩

end Go.Proofs.Ytahnmppnfoeffaa
