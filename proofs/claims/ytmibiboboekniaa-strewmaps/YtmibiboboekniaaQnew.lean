/- A map of a guest's frames: how it is made. -/
import Derived.Test.YtmibiboboekniaaQmap
import Derived.Deep.RegionWith
import Derived.Deep.CutRange
namespace Go.Proofs.Ytmibiboboekniaa
open Go.RowKit
set_option linter.unusedVariables false
set_option linter.unusedSimpArgs false

/-- At p lies a map whose hosts are l (row R), its way back (block M) f. -/
structure MapAt (w : World) (p R M : Nat) (l : List Int) (n : Nat) (f : Int → Option Int) : Prop where
  box : w.heap[p]? = some (.cells #[.slice (some ⟨R, 0, none⟩) l.length l.length, .map (some M)] 41 (0, 0))
  row : RowT w R l []
  map : MapI w M n f
theorem MapAt.put {w w' : World} {p R M n : Nat} {l : List Int} {f : Int → Option Int} {L : List Nat} (h : MapAt w p R M l n f) (k : Put L w w') (h1 : p ∉ L) (h2 : R ∉ L) (h3 : M ∉ L) : MapAt w' p R M l n f :=
  ⟨k.keeps h.box h1, k.keeps h.row h2, h.map.put k h3⟩
theorem MapAt.kep {w w' : World} {p R M n : Nat} {l : List Int} {f : Int → Option Int} (h : MapAt w p R M l n f) (k : Kep w w') : MapAt w' p R M l n f :=
  h.put (L := []) (Put.of_kep k) (by simp) (by simp) (by simp)
theorem MapAt.ne {w : World} {p R M n : Nat} {l : List Int} {f : Int → Option Int} (h : MapAt w p R M l n f) : p ≠ R ∧ M ≠ R ∧ M ≠ p := by
  refine ⟨?_, h.map.ne h.row, h.map.ne h.box⟩
  rintro rfl
  have h1 := h.box
  have h2 : w.heap[p]? = some (.cells (ints l ++ []).toArray 3 (0, 0)) := h.row
  rw [h1] at h2
  simp at h2

theorem Kep.trans' {a b c : World} (h : Kep a b) (k : Kep b c) : Kep a c := kep_trans h k
theorem snew_no (n f key : Int) (h : n < 1 ∨ 64 < n ∨ f < 0 ∨ 512 - n < f) (hn : I64 n) (hf : I64 f) (w : World) :
    Calls Try.prog 12 #[.int .i64 n, .int .i64 f, .int .u32 key] w fun e w' => e = .returned (.tuple #[.pointer none, .int .i64 2]) ∧ w' = w := by
  unfold I64 at hn hf
  rcases (by omega : n < 1 ∨ (1 ≤ n ∧ 64 < n) ∨ (1 ≤ n ∧ n ≤ 64 ∧ f < 0) ∨ (1 ≤ n ∧ n ≤ 64 ∧ 0 ≤ f ∧ 512 - n < f)) with h | ⟨h0, h⟩ | ⟨h0, h1, h⟩ | ⟨h0, h1, h2, h⟩
  all_goals
    go_enter Try.func12, Try.ntmps12
    go_wp2
    go_ret2
    exact ⟨rfl, rfl⟩

theorem make_mapN (n : Nat) (w : World) : (Instr.makeMap 39 (some (.int .i64 n))).run Try.prog w = .ok (.map (some w.heap.size)) (w.alloc (.map #[] 0)) := by
  simp [Instr.makeMap, go_sem, run_underlying Try.underlying39]

theorem nst_a {w w1 : World} {l : List Int} {n : Nat} (hl : l.length = n) (K1 : Kep w.drew w1) (R1 : w1.heap[w.drew.heap.size]? = some (.cells (ints l).toArray 3 (0, 0))) :
    ∃ p R M : Nat, Value.pointer (some ⟨w1.heap.size + 1, 0, none⟩) = .pointer (some ⟨p, 0, none⟩) ∧ Hid (MapAt ((w1.alloc (.map #[] 0)).alloc (.cells #[.slice (some ⟨w.heap.size, 0, none⟩) n n, .map (some w1.heap.size)] 41)) p R M l 0 (gstF l 0)) ∧ Hid (Kep w ((w1.alloc (.map #[] 0)).alloc (.cells #[.slice (some ⟨w.heap.size, 0, none⟩) n n, .map (some w1.heap.size)] 41))) ∧ Hid (w.heap.size ≤ p ∧ w.heap.size ≤ R ∧ w.heap.size ≤ M) := by
  have K : Kep w w1 := kep_trans (Kep.refl w).drew K1
  have hs : w.heap.size ≤ w1.heap.size := K.size
  subst hl
  exact ⟨_, w.heap.size, w1.heap.size, rfl, ⟨hat _ _ _ (by simp), (RowT.of_row R1).kep (((Kep.refl _).alloc _).alloc _), (MapI.made w1).kep ((Kep.refl _).alloc _)⟩, (K.alloc _).alloc _, by unfold Hid; omega⟩
theorem nst_b {w w1 : World} {l : List Int} {n : Nat} (hl : l.length = n) (K1 : Kep (w.alloc (.map #[] 0)).drew w1) (R1 : w1.heap[(w.alloc (.map #[] 0)).drew.heap.size]? = some (.cells (ints l).toArray 3 (0, 0))) :
    ∃ p R M : Nat, Value.pointer (some ⟨w1.heap.size, 0, none⟩) = .pointer (some ⟨p, 0, none⟩) ∧ Hid (MapAt (w1.alloc (.cells #[.slice (some ⟨w.heap.size + 1, 0, none⟩) n n, .map (some w.heap.size)] 41)) p R M l 0 (gstF l 0)) ∧ Hid (Kep w (w1.alloc (.cells #[.slice (some ⟨w.heap.size + 1, 0, none⟩) n n, .map (some w.heap.size)] 41))) ∧ Hid (w.heap.size ≤ p ∧ w.heap.size ≤ R ∧ w.heap.size ≤ M) := by
  have K0 : Kep (w.alloc (.map #[] 0)) w1 := kep_trans (Kep.refl _).drew K1
  have K : Kep w w1 := kep_trans ((Kep.refl w).alloc _) K0
  have hs : w.heap.size ≤ w1.heap.size := K.size
  have R2 : w1.heap[w.heap.size + 1]? = some (.cells (ints l).toArray 3 (0, 0)) := by
    have e : (w.alloc (.map #[] 0)).drew.heap.size = w.heap.size + 1 := by show (w.alloc (.map #[] 0)).heap.size = _; simp
    rw [e] at R1; exact R1
  subst hl
  exact ⟨_, w.heap.size + 1, w.heap.size, rfl, ⟨hat _ _ _ rfl, (RowT.of_row R2).kep ((Kep.refl _).alloc _), ((MapI.made w).kep K0).kep ((Kep.refl _).alloc _)⟩, K.alloc _, by unfold Hid; omega⟩

set_option maxHeartbeats 2000000 in
set_option maxRecDepth 100000 in
theorem snew_any (n : Nat) (h1 : (1 : Int) ≤ n) (h2 : (n : Int) ≤ 64) (f : Int) (hf0 : 0 ≤ f) (hf1 : f ≤ 512 - n) (key : Int) (hk : 0 ≤ key ∧ key < 4294967296) (w : World) :
    Calls Try.prog 12 #[.int .i64 n, .int .i64 f, .int .u32 key] w fun e w' => ∃ p R M : Nat, e = .returned (.tuple #[.pointer (some ⟨p, 0, none⟩), .int .i64 0]) ∧ MapAt w' p R M ((ordL n key).map (· + f)) n (gstF ((ordL n key).map (· + f)) n) ∧ Kep w w' := by
  have hmm : ∀ w, (Instr.makeMap 39 (some (.int .i64 n))).run Try.prog w = .ok (.map (some w.heap.size)) (w.alloc (.map #[] 0)) := make_mapN n
  have HO : Hid (∀ w, Calls Try.prog 9 #[.int .i64 n, .int .u32 key] w fun e w' => e = .returned (.slice (some ⟨w.heap.size, 0, none⟩) n n) ∧ Kep w w' ∧ w'.heap[w.heap.size]? = some (.cells (ints (ordL n key)).toArray 3 (0, 0))) := fun w => order_any n h1 (by omega) key hk w
  have hl : (ordL n key).length = n := ordL_len n key
  have hI : Hid (InR n (ordL n key)) := ordL_in (by omega) key
  generalize ordL n key = l at HO hl hI
  have n1 : ¬ (n : Int) < 1 := by omega
  have n2 : ¬ (64 : Int) < n := by omega
  have n3 : ¬ f < 0 := by omega
  have n4 : ¬ 512 - (n : Int) < f := by omega
  go_enter Try.func12, Try.ntmps12
  go_wp2_with fail
  go_cut [8] from 24 to 30 (fun s8 wx => ∃ p R M : Nat, s8 = .pointer (some ⟨p, 0, none⟩) ∧ Hid (MapAt wx p R M l 0 (gstF l 0)) ∧ Hid (Kep w wx) ∧ Hid (w.heap.size ≤ p ∧ w.heap.size ≤ R ∧ w.heap.size ≤ M))
  case first =>
    go_region_with (go_at_call 9; refine (HO.out _).mono ?_; rintro e w1 ⟨rfl, K1, R1⟩)
    all_goals
      go_wp2_with fail
      go_meet
      first | exact nst_a hl K1 R1 | exact nst_b hl K1 R1
  case rest =>
    obtain ⟨p, R, M, rfl, A, K, B⟩ := hcut
    clear HO hmm
    go_wp2_with fail
    have eN : Hid (adL l f n = l.map (· + f)) := by rw [Hid, ← hl, adL_all]
    go_loopw [32] (fun i wr => ∃ k : Nat, (k : Int) ≤ n ∧ i = .int .i64 k ∧ Hid (MapAt wr p R M (adL l f k) k (gstF (l.map (· + f)) k)) ∧ Hid (Kep w wr)) (fun i _ => n - (intOf i).toNat)
    case atStart => exact ⟨0, by omega, rfl, by rw [adL_zero]; exact A.out, K.out⟩
    case round =>
      clear A K
      obtain ⟨k, hkn, rfl, A, K⟩ := hrel
      by_cases hlt : k < n
      · have hlt' : (k : Int) < n := by omega
        have hkl : k < l.length := by omega
        have d0 : wr.cell? ⟨p, 0, none⟩ = some (.slice (some ⟨R, 0, none⟩) n n) := by rw [cell_of_block A.out.box, adL_len, hl]; rfl
        have d1 : wr.cell? ⟨p, 1, none⟩ = some (.map (some M)) := by rw [cell_of_block A.out.box]; rfl
        have d2 : wr.cell? ⟨R, k, none⟩ = some (.int .i64 (l.getD k 0)) := by have := A.out.row.cell (k := k) (by rw [adL_len]; exact hkl); rwa [adL_at f hkl] at this
        have f2 := A.out.row.frz (k := k)
        have hne := A.out.ne
        have hr := hI.out.at hkl
        have A2 : Hid (MapAt (wr.setCell ⟨R, k, none⟩ (.int .i64 (l.getD k 0 + f))) p R M (adL l f (k + 1)) k (gstF (l.map (· + f)) k)) := by
          have P2 : Put [R] wr (wr.setCell ⟨R, k, none⟩ (.int .i64 (l.getD k 0 + f))) := (Put.refl _).setCell (by simp) _
          refine ⟨?_, ?_, A.out.map.put P2 (by simp; exact hne.2.1)⟩
          · have := P2.keeps A.out.box (by simp; exact hne.1)
            rwa [adL_len] at this ⊢
          · have := A.out.row.set (k := k) (by rw [adL_len]; exact hkl) (l.getD k 0 + f)
            rwa [adL_succ f hkl] at this
        have hg : Hid (putI (gstF (l.map (· + f)) k) (l.getD k 0 + f) k = gstF (l.map (· + f)) (k + 1)) := by
          have : (l.map (· + f)).getD k 0 = l.getD k 0 + f := by simp [List.getD, hkl]
          show _ = putI (gstF (l.map (· + f)) k) ((l.map (· + f)).getD k 0) k
          rw [this]
        generalize l.getD k 0 = a at d2 A2 hr hg
        have K2 : Hid (Kep w (wr.setCell ⟨R, k, none⟩ (.int .i64 (a + f)))) := K.out.setCell (by exact B.out.2.1) _
        clear A K
        have hpR : p ≠ R := hne.1
        clear hne
        go_wp2_with fail
        generalize hW2 : World.setCell wr _ _ = W2
        have d2' : W2.cell? ⟨R, k, none⟩ = some (.int .i64 (a + f)) := by rw [← hW2]; exact World.cell?_setCell_same _ _ _ d2
        rw [hW2] at A2 K2
        clear hW2 d0 d1 d2 f2
        have d0 : W2.cell? ⟨p, 0, none⟩ = some (.slice (some ⟨R, 0, none⟩) n n) := by rw [cell_of_block A2.out.box, adL_len, hl]; rfl
        have d1 : W2.cell? ⟨p, 1, none⟩ = some (.map (some M)) := by rw [cell_of_block A2.out.box]; rfl
        have d2 : W2.cell? ⟨R, k, none⟩ = some (.int .i64 (a + f)) := by rw [d2']
        obtain ⟨w3, hu, M3, P3⟩ := A2.out.map.store (w := W2.drew) (by unfold maxLen; omega) (a + f) k (by unfold I64; omega)
        have A3 : Hid (MapAt w3 p R M (adL l f (k + 1)) (k + 1) (gstF (l.map (· + f)) (k + 1))) := by
          have hne := A2.out.ne
          refine ⟨P3.keeps (A2.out.box) (by simp; exact fun e => hne.2.2 e.symm), P3.keeps A2.out.row (by simp; exact fun e => hne.2.1 e.symm), ?_⟩
          rw [← hg.out]; exact M3
        have K3 : Hid (Kep w w3) := K2.out.drew.put P3 (by simp; exact B.out.2.2)
        clear M3 P3 A2 K2 hg
        go_region
        all_goals
          go_wp2_with fail
          go_roundw
          case rel => exact ⟨k + 1, by omega, by go_num, A3, K3⟩
          case measure => simp [intOf]; omega
      · obtain rfl : k = n := by omega
        rw [eN.out] at A
        go_wp2_with fail
        go_ret2
        exact ⟨p, rfl, ⟨R, M, A.out⟩, K.out⟩
end Go.Proofs.Ytmibiboboekniaa
