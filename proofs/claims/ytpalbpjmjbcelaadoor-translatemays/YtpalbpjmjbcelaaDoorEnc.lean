/- What Encode answers for an instruction that may be: its bytes, in a row of its own. -/
import Derived.Test.YtpalbpjmjbcelaaDoorMay
import Derived.Deep.RegionWith
import Derived.Deep.CutRange
namespace Go.Proofs.YtpalbpjmjbcelaaDoor
open Go.RowKit
set_option linter.unusedVariables false

theorem sz_cases (r : Nat) (hr : r < 10) (h0 : r ≠ 0) : sz r = 1 ∨ sz r = 2 ∨ sz r = 3 ∨ sz r = 6 :=
  ten (p := fun r => r ≠ 0 → sz r = 1 ∨ sz r = 2 ∨ sz r = 3 ∨ sz r = 6) r hr (fun h => absurd rfl h) (fun _ => by decide) (fun _ => by decide) (fun _ => by decide) (fun _ => by decide) (fun _ => by decide) (fun _ => by decide) (fun _ => by decide) (fun _ => by decide) (fun _ => by decide) h0

theorem info5 : (Tryd.prog.info? 5).map (fun i => (i.zero, i.size, i.bytes)) = some (some (.int .u8 0), 1, 1) := by kernel_rfl
theorem make_of (s : Nat) (hs : s ≤ 1000) (w : World) : Sem.run Tryd.prog (Instr.makeSlice 30 (.int .i64 0) (.int .i64 s)) w = .ok (.slice (some ⟨w.heap.size, 0, none⟩) 0 s) (w.alloc (.cells (madeCells #[.int .u8 0] s) 5)) := by
  obtain ⟨i, hi, hz0, hz1, hz2⟩ := info_parts info5
  have := run_make (P := Tryd.prog) w 30 5 i (.int .u8 0) Tryd.underlying30 hi hz0 .i64 .i64 0 s (by omega) (by omega) (by rw [hz2]; omega) (by omega)
  rw [hz1] at this
  simpa [Value.cells] using this
theorem make1 (w : World) : Sem.run Tryd.prog (Instr.makeSlice 30 (.int .i64 0) (.int .i64 1)) w = .ok (.slice (some ⟨w.heap.size, 0, none⟩) 0 1) (w.alloc (.cells #[.int .u8 0] 5)) := by
  have h := make_of 1 (by decide) w
  rw [show madeCells #[Value.int .u8 0] 1 = #[.int .u8 0] from by kernel_rfl] at h
  exact h
theorem make2 (w : World) : Sem.run Tryd.prog (Instr.makeSlice 30 (.int .i64 0) (.int .i64 2)) w = .ok (.slice (some ⟨w.heap.size, 0, none⟩) 0 2) (w.alloc (.cells #[.int .u8 0, .int .u8 0] 5)) := by
  have h := make_of 2 (by decide) w
  rw [show madeCells #[Value.int .u8 0] 2 = #[.int .u8 0, .int .u8 0] from by kernel_rfl] at h
  exact h
theorem make3 (w : World) : Sem.run Tryd.prog (Instr.makeSlice 30 (.int .i64 0) (.int .i64 3)) w = .ok (.slice (some ⟨w.heap.size, 0, none⟩) 0 3) (w.alloc (.cells #[.int .u8 0, .int .u8 0, .int .u8 0] 5)) := by
  have h := make_of 3 (by decide) w
  rw [show madeCells #[Value.int .u8 0] 3 = #[.int .u8 0, .int .u8 0, .int .u8 0] from by kernel_rfl] at h
  exact h
theorem make6 (w : World) : Sem.run Tryd.prog (Instr.makeSlice 30 (.int .i64 0) (.int .i64 6)) w = .ok (.slice (some ⟨w.heap.size, 0, none⟩) 0 6) (w.alloc (.cells #[.int .u8 0, .int .u8 0, .int .u8 0, .int .u8 0, .int .u8 0, .int .u8 0] 5)) := by
  have h := make_of 6 (by decide) w
  rw [show madeCells #[Value.int .u8 0] 6 = #[.int .u8 0, .int .u8 0, .int .u8 0, .int .u8 0, .int .u8 0, .int .u8 0] from by kernel_rfl] at h
  exact h

theorem or_all : ∀ a : Nat, a < 8 → ∀ b : Nat, b < 8 → bits .or .u8 ((a : Int) * 16) b = (a : Int) * 16 + b := by decide
theorem or_ab (a b : Int) (h0 : 0 ≤ a) (h1 : a ≤ 7) (h2 : 0 ≤ b) (h3 : b ≤ 7) : bits .or .u8 (a * 16) b = a * 16 + b := by
  obtain ⟨n, rfl⟩ : ∃ n : Nat, a = n := ⟨a.toNat, by omega⟩
  obtain ⟨m, rfl⟩ : ∃ m : Nat, b = m := ⟨b.toNat, by omega⟩
  exact or_all n (by omega) m (by omega)
theorem made_at (s : Nat) (h : 1 ≤ s) : (madeCells #[.int .u8 0] s)[0]? = some (.int .u8 0) := by
  have h0 : 0 < s := h
  simp [madeCells, h0]

def byteAt (imm : Int) (k : Nat) : Int := imm / 2 ^ (8 * k) % 256
def preL (r : Nat) (op a b : Int) : List Int := if hasA r then [op, a * 16 + b] else [op]
/-- The bytes of an instruction of row r. -/
def encL (r : Nat) (op a b imm : Int) : List Int := preL r op a b ++ (List.range (f3 r).toNat).map (byteAt imm)
abbrev bs (l : List Int) : List Value := l.map (Value.int .u8)
theorem sz_is (r : Nat) (hr : r < 10) (h0 : r ≠ 0) : sz r = (if hasA r then 2 else 1) + f3 r :=
  ten (p := fun r => r ≠ 0 → sz r = (if hasA r then 2 else 1) + f3 r) r hr (fun h => absurd rfl h) (fun _ => rfl) (fun _ => rfl) (fun _ => rfl) (fun _ => rfl) (fun _ => rfl) (fun _ => rfl) (fun _ => rfl) (fun _ => rfl) (fun _ => rfl) h0
theorem f3_range (r : Nat) (hr : r < 10) : 0 ≤ f3 r ∧ f3 r ≤ 4 := by refine ten (p := fun r => 0 ≤ f3 r ∧ f3 r ≤ 4) r hr ?_ ?_ ?_ ?_ ?_ ?_ ?_ ?_ ?_ ?_ <;> decide
theorem owns_mono {w : World} {base base' : Nat} {e : TypeId} {size : Nat} {v : Value} {n : Nat} {xs : List Value} (h : w.ownsRow base e size v n xs) (hb : base' ≤ base) : w.ownsRow base' e size v n xs := by
  refine ⟨h.1, ?_⟩
  rcases h.2 with h | ⟨g, cap, cur, h1, h2, h3⟩
  · exact .inl h
  · exact .inr ⟨g, cap, cur, h1, by omega, h3⟩
theorem one_cell (x : Int) (w : World) : ∀ j u, ([Value.int .u8 x])[j]? = some u → (w.alloc (.cells #[.int .u8 x] 5)).cell? ((⟨w.heap.size, 0, none⟩ : Addr).add j) = some u := by
  intro j u hj
  match j, hj with
  | 0, hj => simp at hj; subst hj; simp [Addr.add]
theorem one_at (x : Int) (w : World) (o : Obj) : ∀ j u, ([Value.int .u8 x])[j]? = some u → ((w.alloc o).alloc (.cells #[.int .u8 x] 5)).cell? ((⟨w.heap.size + 1, 0, none⟩ : Addr).add j) = some u := by
  intro j u hj
  match j, hj with
  | 0, hj => simp at hj; subst hj; simp [Addr.add]
theorem one_one (x : Int) : ∀ u ∈ [Value.int .u8 x], u.oneCell' = true := by
  intro u hu; simp at hu; subst hu; rfl

theorem heap_at (W : World) (o : Obj) (n : Nat) (h : n = W.heap.size) : (W.alloc o).heap[n]? = some o := by subst h; exact heap_alloc_new W o
theorem heap_skip (W : World) (o : Obj) (n : Nat) (h : n < W.heap.size) : (W.alloc o).heap[n]? = W.heap[n]? := by simp only [World.alloc, Array.getElem?_push_lt h, Array.getElem?_eq_getElem h]
theorem bs_step (pre : List Int) (imm : Int) (k : Nat) : bs (pre ++ (List.range (k + 1)).map (byteAt imm)) = bs (pre ++ (List.range k).map (byteAt imm)) ++ [.int .u8 (imm / 2 ^ (8 * k) % 256)] := by
  unfold bs
  simp only [List.range_succ, List.map_append, List.append_assoc]; rfl
theorem owns_base {w : World} {base : Nat} {e : TypeId} {size B n c : Nat} {xs : List Value} (h : w.ownsRow base e size (.slice (some ⟨B, 0, none⟩) n c) n xs) : base ≤ B := by
  rcases h.2 with ⟨h, _⟩ | ⟨g, cap, cur, h1, h2, _⟩
  · cases h
  · simp at h1; omega

set_option maxHeartbeats 4000000 in
set_option maxRecDepth 100000 in
theorem encode_ok (r : Nat) (hr : r < 10) (hr0 : r ≠ 0) (op a b imm : Int) (host : Bool) (hrow : rowOf op host = r) (hm : mayB r a b imm = true) (w : World) (h0 : 0 ≤ op) (h1 : op < 256) (h2 : -2147483648 ≤ imm) (h3 : imm ≤ 2147483647) (ha : 0 ≤ a) (ha' : a ≤ 7) (hb : 0 ≤ b) (hb' : b ≤ 7) (hT : Tabs w) :
    Calls Tryd.prog 42 #[.agg (insA op a b imm), .bool host] w fun e w' => ∃ B : Nat, e = .returned (.tuple #[.slice (some ⟨B, 0, none⟩) (encL r op a b imm).length (encL r op a b imm).length, .int .i64 0]) ∧
      w'.ownsRow w.heap.size 5 1 (.slice (some ⟨B, 0, none⟩) (encL r op a b imm).length (encL r op a b imm).length) (encL r op a b imm).length (bs (encL r op a b imm)) ∧ Kep w w' := by
  go_enter Tryd.func42, Tryd.ntmps42
  go_wp2_with fail
  refine (may_any op a b imm host _ h0 h1 h2 h3 (hT.grown ((Kep.refl _).alloc _))).mono ?_
  rintro e w1 ⟨rfl, g1⟩
  rw [hrow, hm]
  have G1 : Hid (Kep w w1) := kep_trans ((Kep.refl _).alloc _) g1
  have hT1 := hT.grown G1
  have d0 := g1.cell (o := 0) (b := w.heap.size) (by simp)
  have d1 := g1.cell (o := 1) (b := w.heap.size) (by simp)
  have d2 := g1.cell (o := 2) (b := w.heap.size) (by simp)
  have d3 := g1.cell (o := 3) (b := w.heap.size) (by simp)
  simp at d0 d1 d2 d3
  have z1 : w.heap.size < w1.heap.size := Nat.lt_of_lt_of_le (by simp) g1.size
  clear g1
  go_wp2_with fail
  refine (formOf_any op host _ h0 h1 hT1).mono ?_
  rintro e w2 ⟨rfl, g2⟩
  rw [hrow]
  have e0 := (g2.cell (o := 0) z1).trans d0
  have e1 := (g2.cell (o := 1) z1).trans d1
  have e2 := (g2.cell (o := 2) z1).trans d2
  have e3 := (g2.cell (o := 3) z1).trans d3
  have z2 : w.heap.size < w2.heap.size := Nat.lt_of_lt_of_le z1 g2.size
  have G2 : Hid (Kep w w2) := kep_trans G1 g2
  clear g2 d0 d1 d2 d3 z1 hT1 hT G1 hm hrow h0 h1
  unfold formA
  go_wp2_with fail
  obtain ⟨s, hs, hs1, hs6⟩ : ∃ s : Nat, Hid (sz r = (s : Int)) ∧ (1 : Int) ≤ s ∧ s ≤ 6 := by
    rcases sz_cases r hr hr0 with h | h | h | h
    · exact ⟨1, h, by decide, by decide⟩
    · exact ⟨2, h, by decide, by decide⟩
    · exact ⟨3, h, by decide, by decide⟩
    · exact ⟨6, h, by decide, by decide⟩
  go_cut [7] from 17 to 23 (fun s7 wx => ∃ B : Nat, s7 = .slice (some ⟨B, 0, none⟩) 1 s ∧ Hid (wx.ownsRow (w2.heap.size + 1) 5 1 (.slice (some ⟨B, 0, none⟩) 1 s) 1 [.int .u8 op]) ∧ Hid (Kep (w2.alloc (.cells (formA r) 75)) wx))
  case first =>
    have k1 : ∀ o1, (w2.alloc o1).cell? ⟨w.heap.size, 0, none⟩ = some (.int .u8 op) := fun _ => (cell_old z2).trans e0
    have k2 : ∀ o1 o2, ((w2.alloc o1).alloc o2).cell? ⟨w.heap.size, 0, none⟩ = some (.int .u8 op) := fun _ _ => (cell_old (by simp; omega)).trans (k1 _)
    have k3 : ∀ o1 o2 o3, (((w2.alloc o1).alloc o2).alloc o3).cell? ⟨w.heap.size, 0, none⟩ = some (.int .u8 op) := fun _ _ _ => (cell_old (by simp; omega)).trans (k2 _ _)
    have k4 : ∀ o1 o2 o3 o4, ((((w2.alloc o1).alloc o2).alloc o3).alloc o4).cell? ⟨w.heap.size, 0, none⟩ = some (.int .u8 op) := fun _ _ _ _ => (cell_old (by simp; omega)).trans (k3 _ _ _)
    have hcon : ∀ w, _ := size_any r hr
    unfold formA at hcon
    rw [hs.out] at hcon
    have hmk := make_of s (by omega)
    have hm0 : (madeCells #[.int .u8 0] s)[0]? = some (.int .u8 0) := made_at s (by omega)
    have hms : Hid ((madeCells #[.int .u8 0] s).size = s) := size_madeCells _ _
    generalize madeCells #[.int .u8 0] s = M at hmk hm0 hms
    clear hs e0 e1 e2 e3 G2 h2 h3 hr hr0 ha ha' hb hb'
    go_region_with (go_at_call 29; refine (hcon _).mono ?_; rintro e w' ⟨rfl, rfl⟩)
    all_goals
      go_wp2_with fail
      go_meet
      case rel =>
        refine ⟨_, rfl, ⟨rfl, .inr ⟨_, s, M.setIfInBounds 0 (.int .u8 op), rfl, by omega, by rw [Go.heap_drew]; first | exact heap_at _ _ _ (by simp) | exact (heap_skip _ _ _ (by simp)).trans (heap_at _ _ _ (by simp)) | exact (heap_skip _ _ _ (by simp)).trans ((heap_skip _ _ _ (by simp)).trans (heap_at _ _ _ (by simp))) | exact (heap_skip _ _ _ (by simp)).trans ((heap_skip _ _ _ (by simp)).trans ((heap_skip _ _ _ (by simp)).trans (heap_at _ _ _ (by simp)))), by omega, by unfold maxLen; omega, by have := hms.out; simp [this], ?_⟩⟩, ?_⟩
        · have := hms.out
          obtain ⟨l⟩ := M
          cases l with
          | nil => simp at hm0
          | cons x l => simp
        · unfold formA
          repeat (first | exact Kep.refl _ | apply Kep.drew | apply Kep.alloc)
  case rest =>
    obtain ⟨B, rfl, hown, hg⟩ := hcut
    have hBb : w2.heap.size + 1 ≤ B := owns_base hown
    have c0 := (hg.cell (o := 0) (b := w2.heap.size) (by simp)).trans (show _ = some (.int .u8 (f0 r)) by simp [formA])
    have c1 := (hg.cell (o := 1) (b := w2.heap.size) (by simp)).trans (show _ = some (.int .u8 (f1 r)) by simp [formA])
    have c2 := (hg.cell (o := 2) (b := w2.heap.size) (by simp)).trans (show _ = some (.int .u8 (f2 r)) by simp [formA])
    have c3 := (hg.cell (o := 3) (b := w2.heap.size) (by simp)).trans (show _ = some (.int .u8 (f3 r)) by simp [formA])
    have c4 := (hg.cell (o := 4) (b := w2.heap.size) (by simp)).trans (show _ = some (.int .u8 (f4 r)) by simp [formA])
    have d1 := (hg.cell (o := 1) (b := w.heap.size) (by simp; omega)).trans ((cell_old z2).trans e1)
    have d2 := (hg.cell (o := 2) (b := w.heap.size) (by simp; omega)).trans ((cell_old z2).trans e2)
    have d3 : Hid (∀ w5, Kep (w2.alloc (.cells (formA r) 75)) w5 → w5.cell? ⟨w.heap.size, 3, none⟩ = some (.int .i32 imm)) := fun w5 h => (h.cell (o := 3) (b := w.heap.size) (by simp; omega)).trans ((cell_old z2).trans e3)
    have zc : w2.heap.size < wc.heap.size := hg.lt (by simp)
    have zw : w.heap.size < wc.heap.size := by omega
    clear e0 e1 e2 e3
    go_wp2_with fail
    refine (has_any r hr _).mono ?_
    rintro e w3 ⟨rfl, rfl⟩
    have hown3 : Hid _ := World.ownsRow.alloc hown (.cells (formA r) 75)
    have hg3 : Hid (Kep (w2.alloc (.cells (formA r) 75)) (wc.alloc (.cells (formA r) 75))) := hg.alloc _
    unfold formA at hown3
    unfold formA
    obtain ⟨i5, hi5, hz0, hz1, hz2⟩ := info_parts info5
    have hor := or_ab a b ha ha' hb hb'
    have hf3 := f3_range r hr
    have hsz := (hs.out).symm.trans (sz_is r hr hr0)
    have hfin : Hid (∀ (pre : List Int) (k : Nat), preL r op a b = pre → (k : Int) = f3 r → encL r op a b imm = pre ++ (List.range k).map (byteAt imm)) := by
      intro pre k hp hk
      unfold encL; rw [hp, ← hk]; rfl
    cases hA : hasA r
    · have hpre : Hid (preL r op a b = [op]) := by unfold preL; rw [hA]; rfl
      have hs' : (s : Int) = 1 + f3 r := by rw [hsz, hA]; rfl
      go_wp2_with fail
      go_loopw [7, 37] (fun v i wr => ∃ k : Nat, (k : Int) ≤ f3 r ∧ i = .int .u8 k ∧ v = .slice (some ⟨B, 0, none⟩) (1 + k) s ∧ Hid (wr.ownsRow (w2.heap.size + 1) 5 1 (.slice (some ⟨B, 0, none⟩) (1 + k) s) (1 + k) (bs ([op] ++ (List.range k).map (byteAt imm)))) ∧ Hid (Kep (w2.alloc (.cells (formA r) 75)) wr)) (fun _ i _ => 6 - (intOf i).toNat)
      case atStart => exact ⟨0, hf3.1, rfl, rfl, hown3, hg3⟩
      case round =>
        obtain ⟨k, hk, rfl, rfl, hownk, hgk⟩ := hrel
        have hk4 : (k : Int) ≤ 4 := by omega
        have d3' := d3.out wr hgk
        clear c0 c1 c2 c3 c4 hown3 hg3 hown hg
        go_wp2_with (at_builtin; refine wpList_append_fits _ rfl _ _ 30 rfl (w2.heap.size + 1) 5 i5 1 Tryd.underlying30 hi5 hz1 B (1 + k) s (bs ([op] ++ (List.range k).map (byteAt imm))) rfl (World.ownsRow.alloc hownk _) ⟨wr.heap.size, 0, none⟩ 1 1 [.int .u8 (imm / 2 ^ (8 * k) % 256)] rfl rfl (one_cell _ _) (one_one _) (by omega) ?_; intro w5 hown5 hgrow5; have hg5 : Hid (Kep (w2.alloc (.cells (formA r) 75)) w5) := (hgk.alloc _).by hgrow5 (by intro j hj; simp at hj; subst hj; simpa using hBb); have hown6 : Hid (w5.ownsRow (w2.heap.size + 1) 5 1 (.slice (some ⟨B, 0, none⟩) (1 + (k + 1)) s) (1 + (k + 1)) (bs ([op] ++ (List.range (k + 1)).map (byteAt imm)))) := (by rw [bs_step]; exact hown5); clear hgrow5 hown5)
        · go_roundw
          case rel =>
            exact ⟨k + 1, by omega, by go_num, rfl, hown6, hg5⟩
          case measure => simp [intOf]; omega
        · have hkf : (k : Int) = f3 r := by omega
          have hL := hfin.out _ k hpre hkf
          have hn : (encL r op a b imm).length = 1 + k := by rw [hL]; simp; omega
          have hsn : s = 1 + k := by omega
          go_ret2
          refine ⟨B, ?_, ?_, ?_⟩
          · rw [hn, ← hsn]; rfl
          · rw [hn, hL]
            have := hownk.out
            rw [hsn] at this
            exact owns_mono this (by omega)
          · exact kep_trans (G2.alloc _) hgk
    · have hpre : Hid (preL r op a b = [op, a * 16 + b]) := by unfold preL; rw [hA]; rfl
      have hs' : (s : Int) = 2 + f3 r := by rw [hsz, hA]; rfl
      go_wp2_with (at_builtin; refine wpList_append_fits _ rfl _ _ 30 rfl (w2.heap.size + 1) 5 i5 1 Tryd.underlying30 hi5 hz1 B 1 s [.int .u8 op] rfl (World.ownsRow.alloc hown3 _) ⟨wc.heap.size + 1, 0, none⟩ 1 1 [.int .u8 (a * 16 + b)] rfl rfl (one_at _ _ _) (one_one _) (by omega) ?_; intro w4 hown4 hgrow4; have hg4 : Hid (Kep (w2.alloc (.cells (formA r) 75)) w4) := (hg3.alloc _).by hgrow4 (by intro k hk; simp at hk; subst hk; simpa using hBb); have c3' := (hg4.cell (o := 3) (b := w2.heap.size) (by simp)).trans (show _ = some (.int .u8 (f3 r)) by simp [formA]); have hown5 : Hid (w4.ownsRow (w2.heap.size + 1) 5 1 (.slice (some ⟨B, 0, none⟩) 2 s) 2 (bs [op, a * 16 + b])) := hown4; clear hgrow4 hown4)
      clear c0 c1 c2 c3 c4 hown3 hg3 hown hg
      go_loopw [7, 37] (fun v i wr => ∃ k : Nat, (k : Int) ≤ f3 r ∧ i = .int .u8 k ∧ v = .slice (some ⟨B, 0, none⟩) (2 + k) s ∧ Hid (wr.ownsRow (w2.heap.size + 1) 5 1 (.slice (some ⟨B, 0, none⟩) (2 + k) s) (2 + k) (bs ([op, a * 16 + b] ++ (List.range k).map (byteAt imm)))) ∧ Hid (Kep (w2.alloc (.cells (formA r) 75)) wr)) (fun _ i _ => 6 - (intOf i).toNat)
      case atStart => exact ⟨0, hf3.1, rfl, rfl, hown5, hg4⟩
      case round =>
        obtain ⟨k, hk, rfl, rfl, hownk, hgk⟩ := hrel
        have hk4 : (k : Int) ≤ 4 := by omega
        have d3' := d3.out wr hgk
        clear hown5 hg4 c3'
        go_wp2_with (at_builtin; refine wpList_append_fits _ rfl _ _ 30 rfl (w2.heap.size + 1) 5 i5 1 Tryd.underlying30 hi5 hz1 B (2 + k) s (bs ([op, a * 16 + b] ++ (List.range k).map (byteAt imm))) rfl (World.ownsRow.alloc hownk _) ⟨wr.heap.size, 0, none⟩ 1 1 [.int .u8 (imm / 2 ^ (8 * k) % 256)] rfl rfl (one_cell _ _) (one_one _) (by omega) ?_; intro w5 hown5 hgrow5; have hg5 : Hid (Kep (w2.alloc (.cells (formA r) 75)) w5) := (hgk.alloc _).by hgrow5 (by intro j hj; simp at hj; subst hj; simpa using hBb); have hown6 : Hid (w5.ownsRow (w2.heap.size + 1) 5 1 (.slice (some ⟨B, 0, none⟩) (2 + (k + 1)) s) (2 + (k + 1)) (bs ([op, a * 16 + b] ++ (List.range (k + 1)).map (byteAt imm)))) := (by rw [bs_step]; exact hown5); clear hgrow5 hown5)
        · go_roundw
          case rel =>
            exact ⟨k + 1, by omega, by go_num, rfl, hown6, hg5⟩
          case measure => simp [intOf]; omega
        · have hkf : (k : Int) = f3 r := by omega
          have hL := hfin.out _ k hpre hkf
          have hn : (encL r op a b imm).length = 2 + k := by rw [hL]; simp; omega
          have hsn : s = 2 + k := by omega
          go_ret2
          refine ⟨B, ?_, ?_, ?_⟩
          · rw [hn, ← hsn]; rfl
          · rw [hn, hL]
            have := hownk.out
            rw [hsn] at this
            exact owns_mono this (by omega)
          · exact kep_trans (G2.alloc _) hgk
theorem encode_no (op a b imm : Int) (host : Bool) (hm : mayB (rowOf op host) a b imm = false) (w : World) (h0 : 0 ≤ op) (h1 : op < 256) (h2 : -2147483648 ≤ imm) (h3 : imm ≤ 2147483647) (hT : Tabs w) :
    Calls Tryd.prog 42 #[.agg (insA op a b imm), .bool host] w fun e w' => e = .returned (.tuple #[.slice none 0 0, .int .i64 2]) ∧ Kep w w' := by
  go_enter Tryd.func42, Tryd.ntmps42
  go_wp2_with fail
  refine (may_any op a b imm host _ h0 h1 h2 h3 (hT.grown ((Kep.refl _).alloc _))).mono ?_
  rintro e w1 ⟨rfl, g1⟩
  rw [hm]
  go_wp2_with fail
  go_ret2
  exact ⟨rfl, kep_trans ((Kep.refl _).alloc _) g1⟩
end Go.Proofs.YtpalbpjmjbcelaaDoor
