/- Part of a proof. -/
import Derived.Deep.RegionWith
import Derived.Deep.CutRange
import Derived.LoopTactic
import Derived.Laws.BytesString
import Derived.DeepKeys
import Derived.Laws.Rows
import Derived.Test.YtpalbpjmjbcelaaDoorJ01
namespace Go.Proofs.YtpalbpjmjbcelaaDoor
open Go.RowKit
set_option linter.unusedVariables false
set_option linter.unusedSimpArgs false
theorem sz_cases (r : Nat) (hr : r < 10) (h0 : r ≠ 0) : sz r = 1 ∨ sz r = 2 ∨ sz r = 3 ∨ sz r = 6 :=
  ten (p := fun r => r ≠ 0 → sz r = 1 ∨ sz r = 2 ∨ sz r = 3 ∨ sz r = 6) r hr (fun h => absurd rfl h) (fun _ => by decide) (fun _ => by decide) (fun _ => by decide) (fun _ => by decide) (fun _ => by decide) (fun _ => by decide) (fun _ => by decide) (fun _ => by decide) (fun _ => by decide) h0
theorem info5 : (Tryd.prog.info? 5).map (fun i => (i.zero, i.size, i.bytes)) = some (some (.int .u8 0), 1, 1) := by kernel_rfl
theorem make_of (s : Nat) (hs : s ≤ 1000) (w : World) : Sem.run Tryd.prog (Instr.makeSlice 30 (.int .i64 0) (.int .i64 s)) w = .ok (.slice (some ⟨w.heap.size, 0, none⟩) 0 s) (w.alloc (.cells (madeCells #[.int .u8 0] s) 5)) := by
  obtain ⟨i, hi, hz0, hz1, hz2⟩ := info_parts info5
  have := run_make (P := Tryd.prog) w 30 5 i (.int .u8 0) Tryd.underlying30 hi hz0 .i64 .i64 0 s (by omega) (by omega) (by rw [hz2]; omega) (by omega)
  rw [hz1] at this
  simpa [Value.cells] using this
theorem or_all : ∀ a : Nat, a < 8 → ∀ b : Nat, b < 8 → bits .or .u8 ((a : Int) * 16) b = (a : Int) * 16 + b := by decide
theorem or_ab (a b : Int) (h0 : 0 ≤ a) (h1 : a ≤ 7) (h2 : 0 ≤ b) (h3 : b ≤ 7) : bits .or .u8 (a * 16) b = a * 16 + b := by
  obtain ⟨n, rfl⟩ : ∃ n : Nat, a = n := ⟨a.toNat, by omega⟩
  obtain ⟨m, rfl⟩ : ∃ m : Nat, b = m := ⟨b.toNat, by omega⟩
  exact or_all n (by omega) m (by omega)
theorem made_at (s : Nat) (h : 1 ≤ s) : (madeCells #[.int .u8 0] s)[0]? = some (.int .u8 0) := by
  have h0 : 0 < s := h
  simp [madeCells, h0]
def byteAt (imm : Int) (k : Nat) : Int := imm / 2 ^ (8 * k) % 256
def preL (r : Nat) (op a b : Int) : List Int := if hasA r then [op, a * 16 + b] else [op]
def encL (r : Nat) (op a b imm : Int) : List Int := preL r op a b ++ (List.range (f3 r).toNat).map (byteAt imm)
abbrev bs (l : List Int) : List Value := l.map (Value.int .u8)
theorem sz_is (r : Nat) (hr : r < 10) (h0 : r ≠ 0) : sz r = (if hasA r then 2 else 1) + f3 r :=
  ten (p := fun r => r ≠ 0 → sz r = (if hasA r then 2 else 1) + f3 r) r hr (fun h => absurd rfl h) (fun _ => rfl) (fun _ => rfl) (fun _ => rfl) (fun _ => rfl) (fun _ => rfl) (fun _ => rfl) (fun _ => rfl) (fun _ => rfl) (fun _ => rfl) h0
theorem f3_range (r : Nat) (hr : r < 10) : 0 ≤ f3 r ∧ f3 r ≤ 4 := by refine ten (p := fun r => 0 ≤ f3 r ∧ f3 r ≤ 4) r hr ?_ ?_ ?_ ?_ ?_ ?_ ?_ ?_ ?_ ?_ <;> decide
theorem owns_mono {w : World} {base base' : Nat} {e : TypeId} {size : Nat} {v : Value} {n : Nat} {xs : List Value} (h : w.ownsRow base e size v n xs) (hb : base' ≤ base) : w.ownsRow base' e size v n xs := by
  refine ⟨h.1, ?_⟩
  rcases h.2 with h | ⟨g, cap, cur, h1, h2, h3⟩
  · exact .inl h
  · exact .inr ⟨g, cap, cur, h1, by omega, h3⟩
theorem one_cell (x : Int) (w : World) : ∀ j u, ([Value.int .u8 x])[j]? = some u → (w.alloc (.cells #[.int .u8 x] 5)).cell? ((⟨w.heap.size, 0, none⟩ : Addr).add j) = some u := by
  intro j u hj
  match j, hj with
  | 0, hj => simp at hj; subst hj; simp [Addr.add]
theorem one_at (x : Int) (w : World) (o : Obj) : ∀ j u, ([Value.int .u8 x])[j]? = some u → ((w.alloc o).alloc (.cells #[.int .u8 x] 5)).cell? ((⟨w.heap.size + 1, 0, none⟩ : Addr).add j) = some u := by
  intro j u hj
  match j, hj with
  | 0, hj => simp at hj; subst hj; simp [Addr.add]
theorem one_one (x : Int) : ∀ u ∈ [Value.int .u8 x], u.oneCell' = true := by
  intro u hu; simp at hu; subst hu; rfl
theorem heap_at (W : World) (o : Obj) (n : Nat) (h : n = W.heap.size) : (W.alloc o).heap[n]? = some o := by subst h; exact heap_alloc_new W o
theorem heap_skip (W : World) (o : Obj) (n : Nat) (h : n < W.heap.size) : (W.alloc o).heap[n]? = W.heap[n]? := by simp only [World.alloc, Array.getElem?_push_lt h, Array.getElem?_eq_getElem h]
theorem bs_step (pre : List Int) (imm : Int) (k : Nat) : bs (pre ++ (List.range (k + 1)).map (byteAt imm)) = bs (pre ++ (List.range k).map (byteAt imm)) ++ [.int .u8 (imm / 2 ^ (8 * k) % 256)] := by
  unfold bs
  simp only [List.range_succ, List.map_append, List.append_assoc]; rfl
theorem owns_base {w : World} {base : Nat} {e : TypeId} {size B n c : Nat} {xs : List Value} (h : w.ownsRow base e size (.slice (some ⟨B, 0, none⟩) n c) n xs) : base ≤ B := by
  rcases h.2 with ⟨h, _⟩ | ⟨g, cap, cur, h1, h2, _⟩
  · cases h
  · simp at h1; omega
set_option maxHeartbeats 4000000 in
set_option maxRecDepth 100000 in
theorem encode_ok (r : Nat) (hr : r < 10) (hr0 : r ≠ 0) (op a b imm : Int) (host : Bool) (hrow : rowOf op host = r) (hm : mayB r a b imm = true) (w : World) (h0 : 0 ≤ op) (h1 : op < 256) (h2 : -2147483648 ≤ imm) (h3 : imm ≤ 2147483647) (ha : 0 ≤ a) (ha' : a ≤ 7) (hb : 0 ≤ b) (hb' : b ≤ 7) (hT : Tabs w) :
    Calls Tryd.prog 42 #[.agg (insA op a b imm), .bool host] w fun e w' => ∃ B : Nat, e = .returned (.tuple #[.slice (some ⟨B, 0, none⟩) (encL r op a b imm).length (encL r op a b imm).length, .int .i64 0]) ∧
      w'.ownsRow w.heap.size 5 1 (.slice (some ⟨B, 0, none⟩) (encL r op a b imm).length (encL r op a b imm).length) (encL r op a b imm).length (bs (encL r op a b imm)) ∧ Kep w w' := by
  go_enter Tryd.func42, Tryd.ntmps42
  go_wp2_with fail
  refine (may_any op a b imm host _ h0 h1 h2 h3 (hT.grown ((Kep.refl _).alloc _))).mono ?_
  rintro e w1 ⟨rfl, g1⟩
  rw [hrow, hm]
  have G1 : Hid (Kep w w1) := kep_trans ((Kep.refl _).alloc _) g1
  have hT1 := hT.grown G1
  have d0 := g1.cell (o := 0) (b := w.heap.size) (by simp)
  have d1 := g1.cell (o := 1) (b := w.heap.size) (by simp)
  have d2 := g1.cell (o := 2) (b := w.heap.size) (by simp)
  have d3 := g1.cell (o := 3) (b := w.heap.size) (by simp)
  simp at d0 d1 d2 d3
  have z1 : w.heap.size < w1.heap.size := Nat.lt_of_lt_of_le (by simp) g1.size
  clear g1
  go_wp2_with fail
  refine (formOf_any op host _ h0 h1 hT1).mono ?_
  rintro e w2 ⟨rfl, g2⟩
  rw [hrow]
  have e0 := (g2.cell (o := 0) z1).trans d0
  have e1 := (g2.cell (o := 1) z1).trans d1
  have e2 := (g2.cell (o := 2) z1).trans d2
  have e3 := (g2.cell (o := 3) z1).trans d3
  have z2 : w.heap.size < w2.heap.size := Nat.lt_of_lt_of_le z1 g2.size
  have G2 : Hid (Kep w w2) := kep_trans G1 g2
  clear g2 d0 d1 d2 d3 z1 hT1 hT G1 hm hrow h0 h1
  unfold formA
  go_wp2_with fail
  obtain ⟨s, hs, hs1, hs6⟩ : ∃ s : Nat, Hid (sz r = (s : Int)) ∧ (1 : Int) ≤ s ∧ s ≤ 6 := by
    rcases sz_cases r hr hr0 with h | h | h | h
    · exact ⟨1, h, by decide, by decide⟩
    · exact ⟨2, h, by decide, by decide⟩
    · exact ⟨3, h, by decide, by decide⟩
    · exact ⟨6, h, by decide, by decide⟩
  go_cut [7] from 17 to 23 (fun s7 wx => ∃ B : Nat, s7 = .slice (some ⟨B, 0, none⟩) 1 s ∧ Hid (wx.ownsRow (w2.heap.size + 1) 5 1 (.slice (some ⟨B, 0, none⟩) 1 s) 1 [.int .u8 op]) ∧ Hid (Kep (w2.alloc (.cells (formA r) 75)) wx))
  case first =>
    have k1 : ∀ o1, (w2.alloc o1).cell? ⟨w.heap.size, 0, none⟩ = some (.int .u8 op) := fun _ => (cell_old z2).trans e0
    have k2 : ∀ o1 o2, ((w2.alloc o1).alloc o2).cell? ⟨w.heap.size, 0, none⟩ = some (.int .u8 op) := fun _ _ => (cell_old (by simp; omega)).trans (k1 _)
    have k3 : ∀ o1 o2 o3, (((w2.alloc o1).alloc o2).alloc o3).cell? ⟨w.heap.size, 0, none⟩ = some (.int .u8 op) := fun _ _ _ => (cell_old (by simp; omega)).trans (k2 _ _)
    have k4 : ∀ o1 o2 o3 o4, ((((w2.alloc o1).alloc o2).alloc o3).alloc o4).cell? ⟨w.heap.size, 0, none⟩ = some (.int .u8 op) := fun _ _ _ _ => (cell_old (by simp; omega)).trans (k3 _ _ _)
    have hcon : ∀ w, _ := size_any r hr
    unfold formA at hcon
    rw [hs.out] at hcon
    have hmk := make_of s (by omega)
    have hm0 : (madeCells #[.int .u8 0] s)[0]? = some (.int .u8 0) := made_at s (by omega)
    have hms : Hid ((madeCells #[.int .u8 0] s).size = s) := size_madeCells _ _
    generalize madeCells #[.int .u8 0] s = M at hmk hm0 hms
    clear hs e0 e1 e2 e3 G2 h2 h3 hr hr0 ha ha' hb hb'
    go_region_with (go_at_call 29; refine (hcon _).mono ?_; rintro e w' ⟨rfl, rfl⟩)
    all_goals
      go_wp2_with fail
      go_meet
      case rel =>
        refine ⟨_, rfl, ⟨rfl, .inr ⟨_, s, M.setIfInBounds 0 (.int .u8 op), rfl, by omega, by rw [Go.heap_drew]; first | exact heap_at _ _ _ (by simp) | exact (heap_skip _ _ _ (by simp)).trans (heap_at _ _ _ (by simp)) | exact (heap_skip _ _ _ (by simp)).trans ((heap_skip _ _ _ (by simp)).trans (heap_at _ _ _ (by simp))) | exact (heap_skip _ _ _ (by simp)).trans ((heap_skip _ _ _ (by simp)).trans ((heap_skip _ _ _ (by simp)).trans (heap_at _ _ _ (by simp)))), by omega, by unfold maxLen; omega, by have := hms.out; simp [this], ?_⟩⟩, ?_⟩
        · have := hms.out
          obtain ⟨l⟩ := M
          cases l with
          | nil => simp at hm0
          | cons x l => simp
        · unfold formA
          repeat (first | exact Kep.refl _ | apply Kep.drew | apply Kep.alloc)
  case rest =>
    obtain ⟨B, rfl, hown, hg⟩ := hcut
    have hBb : w2.heap.size + 1 ≤ B := owns_base hown
    have c0 := (hg.cell (o := 0) (b := w2.heap.size) (by simp)).trans (show _ = some (.int .u8 (f0 r)) by simp [formA])
    have c1 := (hg.cell (o := 1) (b := w2.heap.size) (by simp)).trans (show _ = some (.int .u8 (f1 r)) by simp [formA])
    have c2 := (hg.cell (o := 2) (b := w2.heap.size) (by simp)).trans (show _ = some (.int .u8 (f2 r)) by simp [formA])
    have c3 := (hg.cell (o := 3) (b := w2.heap.size) (by simp)).trans (show _ = some (.int .u8 (f3 r)) by simp [formA])
    have c4 := (hg.cell (o := 4) (b := w2.heap.size) (by simp)).trans (show _ = some (.int .u8 (f4 r)) by simp [formA])
    have d1 := (hg.cell (o := 1) (b := w.heap.size) (by simp; omega)).trans ((cell_old z2).trans e1)
    have d2 := (hg.cell (o := 2) (b := w.heap.size) (by simp; omega)).trans ((cell_old z2).trans e2)
    have d3 : Hid (∀ w5, Kep (w2.alloc (.cells (formA r) 75)) w5 → w5.cell? ⟨w.heap.size, 3, none⟩ = some (.int .i32 imm)) := fun w5 h => (h.cell (o := 3) (b := w.heap.size) (by simp; omega)).trans ((cell_old z2).trans e3)
    have zc : w2.heap.size < wc.heap.size := hg.lt (by simp)
    have zw : w.heap.size < wc.heap.size := by omega
    clear e0 e1 e2 e3
    go_wp2_with fail
    refine (has_any r hr _).mono ?_
    rintro e w3 ⟨rfl, rfl⟩
    have hown3 : Hid _ := World.ownsRow.alloc hown (.cells (formA r) 75)
    have hg3 : Hid (Kep (w2.alloc (.cells (formA r) 75)) (wc.alloc (.cells (formA r) 75))) := hg.alloc _
    unfold formA at hown3
    unfold formA
    obtain ⟨i5, hi5, hz0, hz1, hz2⟩ := info_parts info5
    have hor := or_ab a b ha ha' hb hb'
    have hf3 := f3_range r hr
    have hsz := (hs.out).symm.trans (sz_is r hr hr0)
    have hfin : Hid (∀ (pre : List Int) (k : Nat), preL r op a b = pre → (k : Int) = f3 r → encL r op a b imm = pre ++ (List.range k).map (byteAt imm)) := by
      intro pre k hp hk
      unfold encL; rw [hp, ← hk]; rfl
    cases hA : hasA r
    · have hpre : Hid (preL r op a b = [op]) := by unfold preL; rw [hA]; rfl
      have hs' : (s : Int) = 1 + f3 r := by rw [hsz, hA]; rfl
      go_wp2_with fail
      go_loopw [7, 37] (fun v i wr => ∃ k : Nat, (k : Int) ≤ f3 r ∧ i = .int .u8 k ∧ v = .slice (some ⟨B, 0, none⟩) (1 + k) s ∧ Hid (wr.ownsRow (w2.heap.size + 1) 5 1 (.slice (some ⟨B, 0, none⟩) (1 + k) s) (1 + k) (bs ([op] ++ (List.range k).map (byteAt imm)))) ∧ Hid (Kep (w2.alloc (.cells (formA r) 75)) wr)) (fun _ i _ => 6 - (intOf i).toNat)
      case atStart => exact ⟨0, hf3.1, rfl, rfl, hown3, hg3⟩
      case round =>
        obtain ⟨k, hk, rfl, rfl, hownk, hgk⟩ := hrel
        have hk4 : (k : Int) ≤ 4 := by omega
        have d3' := d3.out wr hgk
        clear c0 c1 c2 c3 c4 hown3 hg3 hown hg
        go_wp2_with (at_builtin; refine wpList_append_fits _ rfl _ _ 30 rfl (w2.heap.size + 1) 5 i5 1 Tryd.underlying30 hi5 hz1 B (1 + k) s (bs ([op] ++ (List.range k).map (byteAt imm))) rfl (World.ownsRow.alloc hownk _) ⟨wr.heap.size, 0, none⟩ 1 1 [.int .u8 (imm / 2 ^ (8 * k) % 256)] rfl rfl (one_cell _ _) (one_one _) (by omega) ?_; intro w5 hown5 hgrow5; have hg5 : Hid (Kep (w2.alloc (.cells (formA r) 75)) w5) := (hgk.alloc _).by hgrow5 (by intro j hj; simp at hj; subst hj; simpa using hBb); have hown6 : Hid (w5.ownsRow (w2.heap.size + 1) 5 1 (.slice (some ⟨B, 0, none⟩) (1 + (k + 1)) s) (1 + (k + 1)) (bs ([op] ++ (List.range (k + 1)).map (byteAt imm)))) := (by rw [bs_step]; exact hown5); clear hgrow5 hown5)
        · go_roundw
          case rel =>
            exact ⟨k + 1, by omega, by go_num, rfl, hown6, hg5⟩
          case measure => simp [intOf]; omega
        · have hkf : (k : Int) = f3 r := by omega
          have hL := hfin.out _ k hpre hkf
          have hn : (encL r op a b imm).length = 1 + k := by rw [hL]; simp; omega
          have hsn : s = 1 + k := by omega
          go_ret2
          refine ⟨B, ?_, ?_, ?_⟩
          · rw [hn, ← hsn]; rfl
          · rw [hn, hL]
            have := hownk.out
            rw [hsn] at this
            exact owns_mono this (by omega)
          · exact kep_trans (G2.alloc _) hgk
    · have hpre : Hid (preL r op a b = [op, a * 16 + b]) := by unfold preL; rw [hA]; rfl
      have hs' : (s : Int) = 2 + f3 r := by rw [hsz, hA]; rfl
      go_wp2_with (at_builtin; refine wpList_append_fits _ rfl _ _ 30 rfl (w2.heap.size + 1) 5 i5 1 Tryd.underlying30 hi5 hz1 B 1 s [.int .u8 op] rfl (World.ownsRow.alloc hown3 _) ⟨wc.heap.size + 1, 0, none⟩ 1 1 [.int .u8 (a * 16 + b)] rfl rfl (one_at _ _ _) (one_one _) (by omega) ?_; intro w4 hown4 hgrow4; have hg4 : Hid (Kep (w2.alloc (.cells (formA r) 75)) w4) := (hg3.alloc _).by hgrow4 (by intro k hk; simp at hk; subst hk; simpa using hBb); have c3' := (hg4.cell (o := 3) (b := w2.heap.size) (by simp)).trans (show _ = some (.int .u8 (f3 r)) by simp [formA]); have hown5 : Hid (w4.ownsRow (w2.heap.size + 1) 5 1 (.slice (some ⟨B, 0, none⟩) 2 s) 2 (bs [op, a * 16 + b])) := hown4; clear hgrow4 hown4)
      clear c0 c1 c2 c3 c4 hown3 hg3 hown hg
      go_loopw [7, 37] (fun v i wr => ∃ k : Nat, (k : Int) ≤ f3 r ∧ i = .int .u8 k ∧ v = .slice (some ⟨B, 0, none⟩) (2 + k) s ∧ Hid (wr.ownsRow (w2.heap.size + 1) 5 1 (.slice (some ⟨B, 0, none⟩) (2 + k) s) (2 + k) (bs ([op, a * 16 + b] ++ (List.range k).map (byteAt imm)))) ∧ Hid (Kep (w2.alloc (.cells (formA r) 75)) wr)) (fun _ i _ => 6 - (intOf i).toNat)
      case atStart => exact ⟨0, hf3.1, rfl, rfl, hown5, hg4⟩
      case round =>
        obtain ⟨k, hk, rfl, rfl, hownk, hgk⟩ := hrel
        have hk4 : (k : Int) ≤ 4 := by omega
        have d3' := d3.out wr hgk
        clear hown5 hg4 c3'
        go_wp2_with (at_builtin; refine wpList_append_fits _ rfl _ _ 30 rfl (w2.heap.size + 1) 5 i5 1 Tryd.underlying30 hi5 hz1 B (2 + k) s (bs ([op, a * 16 + b] ++ (List.range k).map (byteAt imm))) rfl (World.ownsRow.alloc hownk _) ⟨wr.heap.size, 0, none⟩ 1 1 [.int .u8 (imm / 2 ^ (8 * k) % 256)] rfl rfl (one_cell _ _) (one_one _) (by omega) ?_; intro w5 hown5 hgrow5; have hg5 : Hid (Kep (w2.alloc (.cells (formA r) 75)) w5) := (hgk.alloc _).by hgrow5 (by intro j hj; simp at hj; subst hj; simpa using hBb); have hown6 : Hid (w5.ownsRow (w2.heap.size + 1) 5 1 (.slice (some ⟨B, 0, none⟩) (2 + (k + 1)) s) (2 + (k + 1)) (bs ([op, a * 16 + b] ++ (List.range (k + 1)).map (byteAt imm)))) := (by rw [bs_step]; exact hown5); clear hgrow5 hown5)
        · go_roundw
          case rel =>
            exact ⟨k + 1, by omega, by go_num, rfl, hown6, hg5⟩
          case measure => simp [intOf]; omega
        · have hkf : (k : Int) = f3 r := by omega
          have hL := hfin.out _ k hpre hkf
          have hn : (encL r op a b imm).length = 2 + k := by rw [hL]; simp; omega
          have hsn : s = 2 + k := by omega
          go_ret2
          refine ⟨B, ?_, ?_, ?_⟩
          · rw [hn, ← hsn]; rfl
          · rw [hn, hL]
            have := hownk.out
            rw [hsn] at this
            exact owns_mono this (by omega)
          · exact kep_trans (G2.alloc _) hgk
theorem sizeIns : (Tryd.prog.info? 43).map (·.size) = some 4 := by kernel_rfl
structure Bytes (w : World) (b off len cap : Nat) (zs : List Int) : Prop where
  le : len ≤ cap
  max : cap ≤ maxLen
  cell : ∀ i, i < len → w.cell? ⟨b, off + i, none⟩ = some (.int .u8 (zat zs i))
  fit : ∀ n ∈ zs, 0 ≤ n ∧ n < 256
  lt : b < w.heap.size
theorem pre_len (r : Nat) (op a b : Int) : (preL r op a b).length = posI r := by unfold preL posI; split <;> rfl
theorem enc_len (r : Nat) (op a b imm : Int) (hr : r < 10) (h0 : r ≠ 0) : ((encL r op a b imm).length : Int) = sz r := by
  have h1 := sz_is r hr h0
  have h2 := f3_range r hr
  unfold encL
  rw [List.length_append, pre_len, List.length_map, List.length_range]
  unfold posI
  rw [h1]
  split <;> omega
theorem may_parts {r : Nat} {a b imm : Int} (h : mayB r a b imm = true) : r ≠ 0 ∧ a ≤ f1 r ∧ b ≤ f2 r ∧ lo r ≤ imm ∧ imm ≤ hi r := by
  unfold mayB at h
  simp only [Bool.and_eq_true, decide_eq_true_eq, bne_iff_ne] at h
  omega
theorem f12 (r : Nat) (hr : r < 10) : f1 r ≤ 7 ∧ f2 r ≤ 7 ∧ (hasA r = false → f1 r = 0 ∧ f2 r = 0) ∧ (f3 r = 0 ∨ f3 r = 1 ∨ f3 r = 2 ∨ f3 r = 4) := by
  refine ten (p := fun r => f1 r ≤ 7 ∧ f2 r ≤ 7 ∧ (hasA r = false → f1 r = 0 ∧ f2 r = 0) ∧ (f3 r = 0 ∨ f3 r = 1 ∨ f3 r = 2 ∨ f3 r = 4)) r hr ?_ ?_ ?_ ?_ ?_ ?_ ?_ ?_ ?_ ?_ <;> decide
def strOf (ns : List Int) : ByteArray := ns.foldl (fun r n => r.push (UInt8.ofNat n.toNat)) ByteArray.empty
def lets : List (Array UInt8) := [#[], #[97], #[98], #[97, 98], #[97, 115], #[115], #[108]]
def pA (s : Array UInt8) : Bool := s.toList.contains 97
def pB (s : Array UInt8) : Bool := s.toList.contains 98
def pI (s : Array UInt8) : Int := (if s.toList.contains 115 then 128 else 0) + (if s.toList.contains 108 then 64 else 0)
def plV (s : Array UInt8) : Array Value := #[.bool (pA s), .bool (pB s), .int .u8 (pI s)]
set_option maxHeartbeats 2000000 in
theorem pl_0 (w : World) : Calls Tryd.prog 52 #[.string ⟨#[]⟩] w fun e w' => e = .returned (.agg #[.bool false, .bool false, .int .u8 0]) ∧ ∃ o1 o2, w' = (w.alloc o1).alloc o2 := by
  go_enter Tryd.func52, Tryd.ntmps52
  go_wp2
  go_rounds 1
  go_returns
  exact ⟨rfl, _, _, rfl⟩
set_option maxHeartbeats 2000000 in
theorem pl_1 (w : World) : Calls Tryd.prog 52 #[.string ⟨#[97]⟩] w fun e w' => e = .returned (.agg #[.bool true, .bool false, .int .u8 0]) ∧ ∃ o1 o2, w' = (w.alloc o1).alloc o2 := by
  go_enter Tryd.func52, Tryd.ntmps52
  go_wp2
  go_rounds 2
  go_returns
  exact ⟨rfl, _, _, rfl⟩
set_option maxHeartbeats 2000000 in
theorem pl_2 (w : World) : Calls Tryd.prog 52 #[.string ⟨#[98]⟩] w fun e w' => e = .returned (.agg #[.bool false, .bool true, .int .u8 0]) ∧ ∃ o1 o2, w' = (w.alloc o1).alloc o2 := by
  go_enter Tryd.func52, Tryd.ntmps52
  go_wp2
  go_rounds 2
  go_returns
  exact ⟨rfl, _, _, rfl⟩
set_option maxHeartbeats 2000000 in
theorem pl_3 (w : World) : Calls Tryd.prog 52 #[.string ⟨#[97, 98]⟩] w fun e w' => e = .returned (.agg #[.bool true, .bool true, .int .u8 0]) ∧ ∃ o1 o2, w' = (w.alloc o1).alloc o2 := by
  go_enter Tryd.func52, Tryd.ntmps52
  go_wp2
  go_rounds 3
  go_returns
  exact ⟨rfl, _, _, rfl⟩
set_option maxHeartbeats 2000000 in
theorem pl_4 (w : World) : Calls Tryd.prog 52 #[.string ⟨#[97, 115]⟩] w fun e w' => e = .returned (.agg #[.bool true, .bool false, .int .u8 128]) ∧ ∃ o1 o2, w' = (w.alloc o1).alloc o2 := by
  go_enter Tryd.func52, Tryd.ntmps52
  go_wp2
  go_rounds 3
  go_returns
  exact ⟨rfl, _, _, rfl⟩
set_option maxHeartbeats 2000000 in
theorem pl_5 (w : World) : Calls Tryd.prog 52 #[.string ⟨#[115]⟩] w fun e w' => e = .returned (.agg #[.bool false, .bool false, .int .u8 128]) ∧ ∃ o1 o2, w' = (w.alloc o1).alloc o2 := by
  go_enter Tryd.func52, Tryd.ntmps52
  go_wp2
  go_rounds 2
  go_returns
  exact ⟨rfl, _, _, rfl⟩
set_option maxHeartbeats 2000000 in
theorem pl_6 (w : World) : Calls Tryd.prog 52 #[.string ⟨#[108]⟩] w fun e w' => e = .returned (.agg #[.bool false, .bool false, .int .u8 64]) ∧ ∃ o1 o2, w' = (w.alloc o1).alloc o2 := by
  go_enter Tryd.func52, Tryd.ntmps52
  go_wp2
  go_rounds 2
  go_returns
  exact ⟨rfl, _, _, rfl⟩
theorem placesBy_any (s : Array UInt8) (h : s ∈ lets) (w : World) : Calls Tryd.prog 52 #[.string ⟨s⟩] w fun e w' => e = .returned (.agg (plV s)) ∧ ∃ o1 o2, w' = (w.alloc o1).alloc o2 := by
  simp only [lets, List.mem_cons, List.not_mem_nil, or_false] at h
  rcases h with rfl | rfl | rfl | rfl | rfl | rfl | rfl
  · have e : plV #[] = #[.bool false, .bool false, .int .u8 0] := by kernel_rfl
    rw [e]; exact pl_0 w
  · have e : plV #[97] = #[.bool true, .bool false, .int .u8 0] := by kernel_rfl
    rw [e]; exact pl_1 w
  · have e : plV #[98] = #[.bool false, .bool true, .int .u8 0] := by kernel_rfl
    rw [e]; exact pl_2 w
  · have e : plV #[97, 98] = #[.bool true, .bool true, .int .u8 0] := by kernel_rfl
    rw [e]; exact pl_3 w
  · have e : plV #[97, 115] = #[.bool true, .bool false, .int .u8 128] := by kernel_rfl
    rw [e]; exact pl_4 w
  · have e : plV #[115] = #[.bool false, .bool false, .int .u8 128] := by kernel_rfl
    rw [e]; exact pl_5 w
  · have e : plV #[108] = #[.bool false, .bool false, .int .u8 64] := by kernel_rfl
    rw [e]; exact pl_6 w
structure Rw where
  ops : List Int
  cls : Int
  rd : Array UInt8
  wr : Array UInt8
  m : Array UInt8
def tabl : List Rw := [
  ⟨[0], 1, #[], #[], #[]⟩,
  ⟨[16], 1, #[98], #[97], #[]⟩,
  ⟨[17, 18, 19, 20, 21, 22, 23, 24, 27, 28, 29], 1, #[97, 98], #[97], #[116]⟩,
  ⟨[25, 30], 1, #[97, 98], #[97], #[116, 102]⟩,
  ⟨[26, 31], 1, #[97, 98], #[], #[116]⟩,
  ⟨[32], 1, #[], #[97], #[]⟩,
  ⟨[33], 1, #[97], #[97], #[116]⟩,
  ⟨[48, 50, 52, 54, 55], 2, #[98], #[97], #[102]⟩,
  ⟨[49, 51, 53], 2, #[97, 98], #[], #[102]⟩,
  ⟨[56], 2, #[97, 115], #[115], #[102]⟩,
  ⟨[57], 2, #[115], #[97, 115], #[102]⟩,
  ⟨[58], 2, #[97, 98], #[97], #[102]⟩,
  ⟨[64, 65, 66, 67, 68, 69, 70, 71], 3, #[], #[], #[]⟩,
  ⟨[72], 3, #[], #[108], #[]⟩,
  ⟨[73], 3, #[97], #[], #[]⟩,
  ⟨[74], 3, #[97], #[108], #[]⟩,
  ⟨[80], 3, #[], #[], #[102]⟩,
  ⟨[1], 4, #[], #[], #[102]⟩,
  ⟨[2], 4, #[], #[], #[116, 115]⟩,
  ⟨[3], 4, #[], #[], #[115]⟩,
  ⟨[96], 4, #[], #[97], #[115]⟩,
  ⟨[97], 4, #[97], #[], #[116, 115]⟩,
  ⟨[98], 4, #[], #[97], #[115]⟩,
  ⟨[99], 4, #[97], #[], #[102]⟩,
  ⟨[100], 4, #[], #[97], #[102]⟩,
  ⟨[101], 4, #[97], #[], #[102]⟩,
  ⟨[112, 113], 5, #[], #[], #[]⟩]
def opsO (r : Rw) : Obj := .cells (r.ops.map (Value.int .u8)).toArray 5
def rowL (B : Nat) (x : Rw × Nat) : List Value := [.slice (some ⟨B + x.2, 0, none⟩) x.1.ops.length x.1.ops.length, .int .i64 x.1.cls, .string ⟨x.1.rd⟩, .string ⟨x.1.wr⟩, .string ⟨x.1.m⟩]
def rowsO (B : Nat) : Obj := .cells (tabl.zipIdx.flatMap (rowL B)).toArray 104
def lay (w : World) : World := allocs w (tabl.map opsO ++ [rowsO w.heap.size])
theorem flat5 {α : Type} (f : α → List Value) (hf : ∀ a, (f a).length = 5) : ∀ (l : List α) (k j : Nat), j < 5 → (l.flatMap f)[k * 5 + j]? = l[k]?.bind fun a => (f a)[j]?
  | [], k, j, _ => by simp
  | a :: l, 0, j, h => by
    simp only [List.flatMap_cons, Nat.zero_mul, Nat.zero_add, List.getElem?_cons_zero, Option.bind_some]
    exact List.getElem?_append_left (by rw [hf]; exact h)
  | a :: l, k + 1, j, h => by
    simp only [List.flatMap_cons, List.getElem?_cons_succ]
    rw [List.getElem?_append_right (by rw [hf]; omega), hf]
    have e : (k + 1) * 5 + j - 5 = k * 5 + j := by omega
    rw [e]
    exact flat5 f hf l k j h
theorem lay_kep (w : World) : Kep w (lay w) := allocs_kep _ _
theorem lay_size (w : World) : (lay w).heap.size = w.heap.size + 28 := allocs_size _ _
theorem lay_ops (w : World) (k : Nat) (r : Rw) (h : tabl[k]? = some r) : (lay w).heap[w.heap.size + k]? = some (opsO r) := by
  refine allocs_at _ w k _ ?_
  rw [List.getElem?_append_left (by rw [List.length_map]; exact (List.getElem?_eq_some_iff.1 h).1)]
  simp [h]
theorem lay_rows (w : World) : (lay w).heap[w.heap.size + 27]? = some (rowsO w.heap.size) := allocs_at _ w 27 _ rfl
theorem row_cell (w : World) (k j : Nat) (r : Rw) (h : tabl[k]? = some r) (hj : j < 5) : (lay w).cell? ⟨w.heap.size + 27, k * 5 + j, none⟩ = (rowL w.heap.size (r, k))[j]? := by
  rw [cell_of_block (lay_rows w)]
  simp only [List.getElem?_toArray]
  rw [flat5 _ (fun _ => rfl) _ k j hj]
  simp [h]
theorem op_cell (w : World) (k j : Nat) (r : Rw) (h : tabl[k]? = some r) (op : Int) (hj : r.ops[j]? = some op) : (lay w).cell? ⟨w.heap.size + k, j, none⟩ = some (.int .u8 op) := by
  rw [cell_of_block (lay_ops w k r h)]
  simp [hj]
set_option maxHeartbeats 8000000 in
set_option maxRecDepth 100000 in
theorem rows_any (w : World) : Calls Tryd.prog 51 #[] w fun e w' => e = .returned (.slice (some ⟨w.heap.size + 27, 0, none⟩) 27 27) ∧ w' = lay w := by
  go_enter Tryd.func51, Tryd.ntmps51
  go_wp2_with fail
  go_ret
  exact ⟨rfl, rfl⟩
end Go.Proofs.YtpalbpjmjbcelaaDoor
