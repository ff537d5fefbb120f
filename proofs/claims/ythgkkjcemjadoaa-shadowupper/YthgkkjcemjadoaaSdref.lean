/- The document's shadow: Drop, Clear, has. -/
import Derived.Test.YthgkkjcemjadoaaSdpg
import Derived.Test.YthgkkjcemjadoaaVcl
namespace Go.Proofs.Ythgkkjcemjadoaa
open Go.RowKit
set_option linter.unusedVariables false
set_option linter.unusedSimpArgs false

/-- A page's cells. -/
def pgv (x : Nat × Nat) : List Value := [.int .u32 (64 * x.1 : Nat), .int .i64 (x.2 / 64 : Nat), .int .u32 (x.2 % 64 : Nat)]
def pgV (P : List (Nat × Nat)) : List Value := P.flatMap pgv
theorem pgV_len : ∀ P : List (Nat × Nat), (pgV P).length = P.length * 3
  | [] => rfl
  | x :: P => by
    have := pgV_len P
    show (pgv x ++ pgV P).length = _
    rw [List.length_append, this, List.length_cons]
    simp [pgv]; omega
theorem pgV_app (P Q : List (Nat × Nat)) : pgV (P ++ Q) = pgV P ++ pgV Q := by simp [pgV]
theorem pgV_one (x : Nat × Nat) : pgV [x] = pgv x := by simp [pgV]
theorem pgV_at : ∀ (P : List (Nat × Nat)) (k : Nat) (x : Nat × Nat), P[k]? = some x → ∀ j, j < 3 → (pgV P)[k * 3 + j]? = (pgv x)[j]?
  | [], k, x, h, j, hj => by simp at h
  | y :: P, 0, x, h, j, hj => by
    simp at h; subst h
    show (pgv y ++ pgV P)[0 * 3 + j]? = _
    rw [List.getElem?_append_left (by simp [pgv]; omega)]
    simp
  | y :: P, k + 1, x, h, j, hj => by
    show (pgv y ++ pgV P)[(k + 1) * 3 + j]? = _
    rw [List.getElem?_append_right (by simp [pgv]; omega), ← pgV_at P k x (by simpa using h) j hj]
    congr 1; simp [pgv]; omega
theorem pgv_ones (x : Nat × Nat) : ∀ u ∈ pgv x, u.oneCell' = true := by simp [pgv, Value.oneCell']
theorem info_page : (Try.prog.info? 41).map (fun i => (i.zero, i.size, i.bytes)) = some (some (.agg #[.int .u32 0, .int .i64 0, .int .u32 0]), 3, 24) := by kernel_rfl
theorem cell_page {w : World} {a f b : Int} : ∀ j u, ([.int .u32 a, .int .i64 f, .int .u32 b] : List Value)[j]? = some u → (w.alloc (.cells #[.int .u32 a, .int .i64 f, .int .u32 b] 41)).cell? ((⟨w.heap.size, 0, none⟩ : Addr).add j) = some u := fun j u hj => by
  rw [Addr.add_lit, Nat.zero_add, cell_of_block (hat _ _ _ rfl)]
  simpa using hj
/-- At r lies the document's shadow: its tables, its pages. -/
structure RS (w : World) (r most : Nat) (T : List Nat) (P : List (Nat × Nat)) (F G : List Nat) : Prop where
  box : ∃ pv tv, w.heap[r]? = some (.cells #[.int .i64 40, pv, tv, .int .i64 most] 32 (0, 0)) ∧ Sli w 41 3 pv P.length (pgV P) F ∧ Sli w 34 1 tv T.length (u32s T) G
theorem RS.put {w w' : World} {r most : Nat} {T : List Nat} {P : List (Nat × Nat)} {F G l : List Nat} (h : RS w r most T P F G) (k : Put l w w') (h1 : r ∉ l) (h2 : ∀ g ∈ F, g ∉ l) (h3 : ∀ g ∈ G, g ∉ l) : RS w' r most T P F G := by
  obtain ⟨pv, tv, hb, hp, ht⟩ := h.box
  exact ⟨pv, tv, k.keeps hb h1, hp.put k h2, ht.put k h3⟩
theorem RS.kep {w w' : World} {r most : Nat} {T : List Nat} {P : List (Nat × Nat)} {F G : List Nat} (h : RS w r most T P F G) (k : Kep w w') : RS w' r most T P F G := h.put (l := []) (Put.of_kep k) (by simp) (by simp) (by simp)
theorem RS.nr {w : World} {r most : Nat} {T : List Nat} {P : List (Nat × Nat)} {F G : List Nat} (h : RS w r most T P F G) : r ∉ F ∧ r ∉ G ∧ ∀ g ∈ G, g ∉ F := by
  obtain ⟨pv, tv, hb, hp, ht⟩ := h.box
  refine ⟨fun hm => ?_, fun hm => ?_, fun g h1 h2 => ?_⟩
  · obtain ⟨c, hc⟩ := hp.tag hm; rw [hb] at hc; simp at hc
  · obtain ⟨c, hc⟩ := ht.tag hm; rw [hb] at hc; simp at hc
  · obtain ⟨c, hc⟩ := ht.tag h1; obtain ⟨c2, hc2⟩ := hp.tag h2; rw [hc] at hc2; simp at hc2
theorem rs_clear (w : World) (r most : Nat) (T : List Nat) (P : List (Nat × Nat)) (F G : List Nat) (h : RS w r most T P F G) :
    Calls Try.prog 29 #[.pointer (some ⟨r, 0, none⟩)] w fun e w' => e = .returned (.tuple #[]) ∧ RS w' r most [] [] [] [] ∧ Put [r] w w' := by
  obtain ⟨pv, tv, hb, _, _⟩ := h.box
  have c1 : w.cell? ⟨r, 1, none⟩ = some pv := by rw [cell_of_block hb]; rfl
  have c2 : w.cell? ⟨r, 2, none⟩ = some tv := by rw [cell_of_block hb]; rfl
  have f1 : w.frozen? ⟨r, 1, none⟩ = false := by simp [World.frozen?, hb]
  have f2 : w.frozen? ⟨r, 2, none⟩ = false := by simp [World.frozen?, hb]
  have B1 : Hid (((w.setCell ⟨r, 1, none⟩ (.slice none 0 0)).setCell ⟨r, 2, none⟩ (.slice none 0 0)).heap[r]? = some (.cells #[.int .i64 40, .slice none 0 0, .slice none 0 0, .int .i64 most] 32 (0, 0))) := by
    rw [Hid, heap_setCell_row (heap_setCell_row hb _)]; rfl
  clear h hb
  go_enter Try.func29, Try.ntmps29
  go_wp2
  go_end0
  exact ⟨rfl, ⟨_, _, B1.out, Sli.nil _ _ _, Sli.nil _ _ _⟩, ((Put.refl _).setCell (by simp) _).setCell (by simp) _⟩
set_option maxHeartbeats 2000000 in
theorem rs_has (w : World) (r most : Nat) (T : List Nat) (P : List (Nat × Nat)) (F G : List Nat) (h : RS w r most T P F G) (n : Nat) (hT : T.length ≤ 1000) :
    Calls Try.prog 55 #[.pointer (some ⟨r, 0, none⟩), .int .u32 n] w fun e w' => e = .returned (.bool (decide (n ∈ T))) ∧ Kep w w' := by
  obtain ⟨pv, tv, hb, _, ht⟩ := h.box
  obtain ⟨x, cap, rfl, hl, hcap, _, _⟩ := ht.lies
  have hl' : Hid (Lies w x (u32s T)) := hl
  have c2 : Hid (∀ wr, Kep w wr → wr.cell? ⟨r, 2, none⟩ = some (.slice x T.length cap)) := fun wr k => by rw [cell_of_block (k.block hb)]; rfl
  have hcap' : (T.length : Int) ≤ cap := by omega
  have hT' : (T.length : Int) ≤ 1000 := by omega
  obtain ⟨N, hN⟩ : ∃ N, Hid (T.length = N) := ⟨_, rfl⟩
  rw [hN.out] at c2 hcap' hT'
  clear h hb ht hl hcap hT
  go_enter Try.func55, Try.ntmps55
  go_wp2_with fail
  go_loopw [5] (fun i wr => ∃ k : Nat, (k : Int) ≤ N ∧ i = .int .i64 k ∧ Hid (∀ j, j < k → T.getD j 0 ≠ n) ∧ Hid (Kep w wr)) (fun i _ => N - (intOf i).toNat)
  case atStart => exact ⟨0, by omega, rfl, fun j hj => by omega, Kep.refl _⟩
  case round =>
    obtain ⟨k, hk, rfl, hA, K⟩ := hrel
    have d2 := c2.out wr K.out
    by_cases hlt : (k : Int) < N
    · have hkT : k < T.length := by rw [hN.out]; omega
      obtain ⟨b, off, hx, hc⟩ : ∃ b off : Nat, x = some ⟨b, off, none⟩ ∧ wr.cell? ⟨b, off + k, none⟩ = some (.int .u32 (T.getD k 0 : Nat)) := by
        rcases hl'.out.kep K.out with h0 | ⟨b, off, e, _, hc⟩
        · have := congrArg List.length h0; rw [u32s_len, List.length_nil] at this; omega
        · exact ⟨b, off, e, hc k _ (u32s_at hkT)⟩
      subst hx
      have hkT' : Hid (k < T.length) := hkT
      clear hkT
      generalize htk : T.getD k 0 = t at hc
      have htk' : Hid (T.getD k 0 = t) := htk
      clear htk
      by_cases he : t = n
      · have hq : ((t : Int) == (n : Int)) = true := by simp [he]
        have hm : n ∈ T := by
          rw [← he, ← htk'.out]
          have : T.getD k 0 = T[k]'hkT'.out := by simp [List.getD, hkT'.out]
          rw [this]; exact List.getElem_mem _
        have hm' : decide (n ∈ T) = true := decide_eq_true hm
        have hmh : Hid (decide (n ∈ T) = true) := hm'
        clear hm hm' he
        go_wp2_with fail
        go_ret
        exact ⟨by rw [hmh.out]; rfl, K.out⟩
      · have hq : ((t : Int) == (n : Int)) = false := by simp; omega
        have he' : Hid (t ≠ n) := he
        clear he
        go_wp2_with fail
        go_roundw
        case rel => exact ⟨k + 1, by omega, by go_num, fun j hj => by
          rcases Nat.lt_or_ge j k with g | g
          · exact hA.out j g
          · obtain rfl : j = k := by omega
            rw [htk'.out]; exact he'.out, K⟩
        case measure => simp [intOf]; omega
    · obtain rfl : k = N := by omega
      have hm : Hid (decide (n ∈ T) = false) := decide_eq_false fun hm => by
        obtain ⟨j, hj, e⟩ := List.mem_iff_getElem.1 hm
        have := hA.out j (by rw [← hN.out]; exact hj)
        simp [List.getD, hj] at this
        exact this e
      go_wp2_with fail
      go_ret
      exact ⟨by rw [hm.out]; rfl, K.out⟩
end Go.Proofs.Ythgkkjcemjadoaa
