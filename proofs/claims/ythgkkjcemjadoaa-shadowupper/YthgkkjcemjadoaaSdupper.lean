/- A slice of words cloned; the upper half is laid. -/
import Derived.Test.YthgkkjcemjadoaaSdrnew
import Derived.Test.YthgkkjcemjadoaaSdfin
import Derived.Test.YthgkkjcemjadoaaVcl
import Derived.OwnWalk
namespace Go.Proofs.Ythgkkjcemjadoaa
open Go.RowKit
set_option linter.unusedVariables false
set_option linter.unusedSimpArgs false

set_option maxHeartbeats 1000000 in
theorem clone_u32 (w : World) (x : Option Addr) (n cap : Nat) (xs : List Value) (hl : xs.length = n * 1) (h : Lies w x xs) (h1 : ∀ u ∈ xs, u.oneCell' = true) (hn : (n : Int) * 4 ≤ 140737488355328) :
    Calls Try.prog 53 #[.slice x n cap] w fun e w' => ∃ v, e = .returned v ∧ w'.ownsRow w.heap.size 34 1 v n xs ∧ Kep w w' := by
  obtain ⟨i0, hi, hz0, hz1, hz2⟩ := info_parts info_w32
  cases x with
  | none =>
    have hq : ∀ w, (binOp .eql 23 (.slice none n cap) (.slice none 0 0)).run Try.prog w = .ok (.bool true) w := eqnil _ _ _ none n cap Try.underlying23
    have hx : xs = [] := by rcases h with h | ⟨_, _, e, _⟩; exact h; cases e
    subst hx
    have hn0 : n = 0 := by simp at hl; omega
    subst hn0
    clear hl h1 h hn
    go_enter Try.func53, Try.ntmps53
    go_wp2
    go_ret
    exact ⟨_, rfl, World.ownsRow_nil _ _ _ _, Kep.refl _⟩
  | some ad =>
    have hq : ∀ w, (binOp .eql 23 (.slice (some ad) n cap) (.slice none 0 0)).run Try.prog w = .ok (.bool false) w := eqnil _ _ _ (some ad) n cap Try.underlying23
    have hs : Hid (∀ j u, xs[j]? = some u → (w.alloc (.cells #[] 34)).cell? (ad.add j) = some u) := fun j u hj => by
      rcases (h.kep ((Kep.refl w).alloc (.cells #[] 34))) with rfl | ⟨b, off, e, _, hc⟩
      · simp at hj
      · cases e; rw [Addr.add_lit]; exact hc j u hj
    have hl' : Hid (xs.length = n * 1) := hl
    have h1' : Hid (∀ u ∈ xs, u.oneCell' = true) := h1
    clear h hl h1
    go_enter Try.func53, Try.ntmps53
    go_wp2_with (at_builtin; refine wpList_append_own _ rfl _ _ 23 rfl w.heap.size 34 i0 _ 1 4 Try.underlying23 hi hz0 hz1 hz2 rfl (by decide) (.slice (some ⟨w.heap.size, 0, none⟩) 0 0) 0 [] rfl (World.ownsRow_made w #[] 0 (Nat.le_refl _) (by simp) (by simp)) ad n cap xs rfl hl'.out hs.out h1'.out (by unfold maxLen; omega) (by omega) (by simp) ?_; intro v' w1 hown hgrow _)
    go_ret
    refine ⟨_, rfl, by simpa using hown, ((Kep.refl w).alloc _).by hgrow ?_⟩
    intro k hk
    simp [Value.ownBlock] at hk; omega

theorem neq_tab : ∀ w, (binOp .neq 87 (.agg z16) (.agg z16)).run Try.prog w = .ok (.bool false) w := by
  intro w
  kernel_rfl

theorem z16_at {k : Nat} (h : k < 16) : z16.toList[k]? = some (.int .u32 0) := by
  show (List.replicate 16 (Value.int .u32 0))[k]? = _
  rw [List.getElem?_replicate, if_pos h]
set_option maxHeartbeats 1000000 in
theorem shabove_no (w : World) (p q d : Nat) (v : Value) (s : SD) (F : List Nat) (h : ShAt w p v q d s F) (hE : ∀ i, s.E.getD i 0 = 0) :
    Calls Try.prog 51 #[.pointer (some ⟨p, 0, none⟩)] w fun e w' => e = .returned (.bool false) ∧ w' = w := by
  have hr : Hid (∀ k, k < 32 → w.rangeAt p (35 + k * 16) z16.toList) := fun k hk j u hj => by
    have hj16 : j < 16 := by
      have := List.getElem?_eq_some_iff.1 hj
      obtain ⟨hh, _⟩ := this
      simpa [z16] using hh
    rw [z16_at hj16] at hj
    cases hj
    have := h.cE (k := k * 16 + j) (by omega)
    rw [hE] at this
    rw [show 35 + k * 16 + j = 35 + (k * 16 + j) by omega]
    exact this
  have hq : ∀ w, (binOp .neq 87 (.agg z16) (.agg z16)).run Try.prog w = .ok (.bool false) w := neq_tab
  clear h hE
  go_enter Try.func51, Try.ntmps51
  go_wp2_with fail
  go_loopw [3] (fun i wr => ∃ k : Nat, 16 ≤ k ∧ (k : Int) ≤ 32 ∧ i = .int .i64 k ∧ Hid (wr = w)) (fun i _ => 32 - (intOf i).toNat)
  case atStart => exact ⟨16, by omega, by omega, rfl, rfl⟩
  case round =>
    obtain ⟨k, hk1, hk2, rfl, hw⟩ := hrel
    by_cases hlt : (k : Int) < 32
    · have hrk : Hid (wr.rangeAt p (35 + k * 16) z16.toList) := by rw [hw.out]; exact hr.out k (by omega)
      go_wp2_with (first
        | (refine wpList_load_mid (by rfl) 87 _ (by rfl) p (35 + k * 16) (by rfl) z16.toList _ hrk.out Try.underlying87 rfl (by kernel_rfl) ?_)
        | (refine wpList_built (by rfl) 87 _ (by rfl) z16 (by kernel_rfl) ?_))
      go_roundw
      case rel => exact ⟨k + 1, by omega, by omega, by go_num, hw⟩
      case measure => simp [intOf]; omega
    · go_wp2_with fail
      go_ret
      exact ⟨rfl, hw.out⟩
/-- What Upper lays in a new shadow. -/
def sdU (U : List Nat) : SD := { sd0 with U := U }
theorem back0 : backS sd0 16 32 = sd0 := by
  have e1 : zeroR sd0.D 16 32 = sd0.D := by decide +kernel
  have e2 : zeroR sd0.E (16 * 16) (16 * 32) = sd0.E := by decide +kernel
  unfold backS
  rw [e1, e2]
theorem shupper_no (w : World) (p pv : Nat) (h0 : w.cell? ⟨p, 0, none⟩ = some (.pointer (some ⟨pv, 0, none⟩))) (x : Option Addr) (len cap : Nat) (hl : 16 < len) :
    Calls Try.prog 25 #[.pointer (some ⟨p, 0, none⟩), .slice x len cap] w fun e w' => e = .returned (.bool false) ∧ w' = w := by
  have HM : Hid (Calls Try.prog 32 #[.pointer (some ⟨p, 0, none⟩)] w fun e w' => e = .returned (.bool true) ∧ w' = w) := shmade_yes w p pv h0
  have hl' : (16 : Int) < len := by omega
  clear h0
  go_enter Try.func25, Try.ntmps25
  go_wp2_with (go_at_call 32; refine HM.out.mono ?_; rintro e wa ⟨rfl, hqa⟩; rw [hqa]; clear hqa wa)
  go_ret
  exact ⟨rfl, rfl⟩
set_option maxHeartbeats 2000000 in
theorem shupper_ok (w : World) (p pv R n d f q M : Nat) (Z : List Int) (B : List Int) (L : List Bool) (g m : Int) (h : ShW w p pv R n d f q M Z sd0 B L g m []) (dv : DInv d sd0 B) (x : Option Addr) (cap : Nat) (U : List Nat) (hx : ∀ w1, Put [p, R, q, M] w w1 → Lies w1 x (u32s U)) (hl : U.length ≤ 16) (hw : ∀ u ∈ U, u < 4294967296) :
    Calls Try.prog 25 #[.pointer (some ⟨p, 0, none⟩), .slice x U.length cap] w fun e w' => ∃ B' L' F, e = .returned (.bool true) ∧ ShW w' p pv R n d f q M Z (sdU U) B' L' g m F ∧ DInv d (sdU U) B' ∧ L'.length = L.length ∧ Put [p, R, q, M] w w' := by
  have HM : Hid (Calls Try.prog 32 #[.pointer (some ⟨p, 0, none⟩)] w fun e w' => e = .returned (.bool true) ∧ w' = w) := shmade_yes w p pv h.sh.c0
  have HA : Hid (Calls Try.prog 51 #[.pointer (some ⟨p, 0, none⟩)] w fun e w' => e = .returned (.bool false) ∧ w' = w) := shabove_no w p q d _ sd0 [] h.sh (fun i => grep _ _)
  have HB : Hid (Calls Try.prog 52 #[.pointer (some ⟨p, 0, none⟩), .int .i64 16] w fun e w' => ∃ L', e = .returned (.tuple #[]) ∧ ShW w' p pv R n d f q M Z sd0 B L' g m [] ∧ L'.length = L.length ∧ Put [p, R, q, M] w w') := by
    have := shback_any w p pv R n d f q M Z sd0 B L g m [] h 16 (by omega)
    rw [back0] at this
    exact this
  have hX : Hid (∀ w1, Put [p, R, q, M] w w1 → Lies w1 x (u32s U)) := hx
  have hw0 : Hid (U.length ≤ 16 ∧ ∀ u ∈ U, u < 4294967296) := ⟨hl, hw⟩
  have dv' : Hid (DInv d sd0 B) := dv
  have hlI : ¬ (16 : Int) < U.length := by omega
  clear h dv hx hw hl
  go_enter Try.func25, Try.ntmps25
  go_wp2_with (first
    | (go_at_call 32; refine HM.out.mono ?_; rintro e wa ⟨rfl, hqa⟩; rw [hqa]; clear hqa wa)
    | (go_at_call 51; refine HA.out.mono ?_; rintro e wa ⟨rfl, hqa⟩; rw [hqa]; clear hqa wa))
  refine HB.out.mono ?_
  rintro e w1 ⟨L1, rfl, S1, hL1, P1⟩
  have HC : Hid (Calls Try.prog 53 #[.slice x U.length cap] w1 fun e w' => ∃ v, e = .returned v ∧ w'.ownsRow w1.heap.size 34 1 v U.length (u32s U) ∧ Kep w1 w') := clone_u32 w1 x U.length cap (u32s U) (by rw [u32s_len]; omega) (hX.out w1 P1) (u32s_ones U) (by have := hw0.out.1; omega)
  have S1' : Hid (ShW w1 p pv R n d f q M Z sd0 B L1 g m []) := S1
  have P1' : Hid (Put [p, R, q, M] w w1 ∧ L1.length = L.length) := ⟨P1, hL1⟩
  clear HM HA HB S1 P1 hL1 hX hlI
  go_wp2_with fail
  refine HC.out.mono ?_
  rintro e w2 ⟨v, rfl, ho, K2⟩
  obtain ⟨F, hs, hF⟩ := Sli.of_owns ho
  obtain ⟨x2, c2, rfl, _⟩ := hs.lies
  have S2 := S1'.out.kep K2
  have f547 := S2.sh.fz 547
  obtain ⟨x0, c0, cU, _⟩ := S2.sh.cU
  have S3 : Hid (ShW (w2.setCell ⟨p, 547, none⟩ (.slice x2 U.length c2)) p pv R n d f q M Z (sdU U) B L1 g m F) := by
    have kk : Put [p] w2 (w2.setCell ⟨p, 547, none⟩ (.slice x2 U.length c2)) := (Put.refl _).setCell (by simp) _
    have ss : ShAt (w2.setCell ⟨p, 547, none⟩ (.slice x2 U.length c2)) p (.pointer (some ⟨pv, 0, none⟩)) q d (sdU U) F := ShAt.setU (w' := w2) S2.sh hs
    have ti : TInv n d f Z (sdU U) B L1 := S2.inv.withU (fun k _ => grep 32 k) U hw0.out.1 hw0.out.2
    exact S2.boxd kk ss ti
  have P3 : Hid (Put [p, R, q, M] w (w2.setCell ⟨p, 547, none⟩ (.slice x2 U.length c2))) := P1'.out.1.trans ((Put.of_kep K2).setCell (by simp) _)
  clear HC S1' ho K2 hs hF S2
  go_wp2_with fail
  generalize w2.setCell ⟨p, 547, none⟩ (.slice x2 U.length c2) = w3 at S3 P3 ⊢
  refine (shlayup_any S3.out).mono ?_
  rintro e w4 ⟨rfl, S4, P4⟩
  have UP := (S3.out.inv.upped (fun k _ => grep 32 k) (fun k hk => by
    have := dv'.out k (by omega)
    rw [this]
    unfold dirW
    rw [if_neg (by omega)]; rfl)).2
  have FIN : Hid (ShW w4 p pv R n d f q M Z (sdU U) (upB d (sdU U).U 16 B) L1 g m F ∧ DInv d (sdU U) (upB d (sdU U).U 16 B) ∧ L1.length = L.length ∧ Put [p, R, q, M] w w4) := ⟨S4, UP, P1'.out.2, P3.out.trans (P4.mono (by simp))⟩
  clear S3 P3 S4 P4 UP f547 cU
  go_wp2_with fail
  go_ret
  exact ⟨_, L1, F, rfl, FIN.out⟩
end Go.Proofs.Ythgkkjcemjadoaa
