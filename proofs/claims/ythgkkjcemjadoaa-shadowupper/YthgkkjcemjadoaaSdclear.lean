/- Clear. -/
import Derived.Test.YthgkkjcemjadoaaSdwipe
namespace Go.Proofs.Ythgkkjcemjadoaa
open Go.RowKit
set_option linter.unusedVariables false
set_option linter.unusedSimpArgs false

theorem DInv.zero {n d f : Nat} {Z : List Int} {s : SD} {B : List Int} {L : List Bool} (h : TInv n d f Z s B L) (hD : ∀ k, s.D.getD k 0 = 0) : TInv n d f Z s (upB d s.U 16 (zer B n (64 * d) 128)) L ∧ DInv d s (upB d s.U 16 (zer B n (64 * d) 128)) :=
  (h.dir (wipe_only h)).upped (fun k _ => hD k) (fun k hk => by rw [hD, zer_wd h.lB (by have := h.dn; omega) (by omega) (by omega)])
theorem shlayup_any {w : World} {p pv R n d f q M : Nat} {Z : List Int} {s : SD} {B : List Int} {L : List Bool} {g m : Int} {F : List Nat} (h : ShW w p pv R n d f q M Z s B L g m F) :
    Calls Try.prog 54 #[.pointer (some ⟨p, 0, none⟩)] w fun x w' => x = .returned (.tuple #[]) ∧ ShW w' p pv R n d f q M Z s (upB d s.U 16 B) L g m F ∧ Put [R] w w' := by
  refine (shlayup_core w p pv R n d q s B F h.sh h.ram h.row h.inv.lB h.inv.nn h.inv.dn h.ne.1 h.inv.lU h.inv.uw h.inv.bB).mono ?_
  rintro x w' ⟨rfl, hB, k⟩
  exact ⟨rfl, h.mem k hB (h.inv.dir (upB_only _ h.inv.bB h.inv.lB h.inv.dn 16 (Nat.le_refl _))), k⟩
/-- What Clear leaves. -/
def clrS (s : SD) : SD := ⟨List.replicate 32 0, List.replicate 512 0, s.U⟩
theorem backS_all {s : SD} (hD : s.D.length = 32) (hE : s.E.length = 512) : backS s 0 32 = clrS s := by
  unfold backS clrS
  rw [zeroR_all hD, show 16 * 0 = 0 from rfl, show 16 * 32 = 512 from rfl, zeroR_all hE]
theorem shclear_any (w : World) (p pv R n d f q M : Nat) (Z : List Int) (s : SD) (B : List Int) (L : List Bool) (g m : Int) (F : List Nat) (h : ShW w p pv R n d f q M Z s B L g m F) :
    Calls Try.prog 28 #[.pointer (some ⟨p, 0, none⟩)] w fun e w' => ∃ B' L', e = .returned (.tuple #[]) ∧ ShW w' p pv R n d f q M Z (clrS s) B' L' g m F ∧ DInv d (clrS s) B' ∧ Put [p, R, q, M] w w' ∧ L'.length = L.length ∧ nTrue L' = 0 := by
  have HM : Hid (Calls Try.prog 32 #[.pointer (some ⟨p, 0, none⟩)] w fun e w' => e = .returned (.bool true) ∧ w' = w) := shmade_yes w p pv h.sh.c0
  have HB : Hid (Calls Try.prog 52 #[.pointer (some ⟨p, 0, none⟩), .int .i64 0] w fun e w' => ∃ L', e = .returned (.tuple #[]) ∧ ShW w' p pv R n d f q M Z (clrS s) B L' g m F ∧ L'.length = L.length ∧ Put [p, R, q, M] w w') := by
    have := shback_any w p pv R n d f q M Z s B L g m F h 0 (by omega)
    rw [backS_all h.inv.lD h.inv.lE] at this
    exact this
  have hD : Hid (∀ k, (clrS s).D.getD k 0 = 0) := fun k => grep 32 k
  have hN : Hid (nD (clrS s).D = 0) := nD_zero 32
  clear h
  generalize clrS s = s1 at HB hD hN
  go_enter Try.func28, Try.ntmps28
  go_wp2_with (go_at_call 32; refine HM.out.mono ?_; rintro e wa ⟨rfl, hqa⟩; rw [hqa]; clear hqa wa)
  refine HB.out.mono ?_
  rintro e w1 ⟨L1, rfl, S1, hL1, P1⟩
  have HW := shwipe_any S1
  have hI : Hid (TInv n d f Z s1 B L1) := S1.inv
  have hL1' : Hid (L1.length = L.length) := hL1
  have P1' : Hid (Put [p, R, q, M] w w1) := P1
  clear S1 P1 hL1 HB HM
  go_wp2_with fail
  refine HW.mono ?_
  rintro e w2 ⟨rfl, S2, P2⟩
  have HU := shlayup_any S2
  have P2' : Hid (Put [p, R, q, M] w w2) := P1'.out.trans (P2.mono (by simp))
  clear S2 P2 HW P1'
  go_wp2_with fail
  refine HU.mono ?_
  rintro e w3 ⟨rfl, S3, P3⟩
  go_wp2_with fail
  go_end0
  exact ⟨_, L1, rfl, S3, (DInv.zero hI.out hD.out).2, P2'.out.trans (P3.mono (by simp)), hL1'.out, by rw [hI.out.cnt]; exact hN.out⟩
end Go.Proofs.Ythgkkjcemjadoaa
