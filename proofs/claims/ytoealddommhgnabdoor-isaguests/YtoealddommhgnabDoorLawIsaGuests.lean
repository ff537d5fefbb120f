/- For every row of bytes the law IsaGuests returns true: what a guest decodes a host decodes alike, and what a host alone decodes is one of its own two; the code's two tables hold what its text lays. -/
import Derived.Test.YtoealddommhgnabDoorRows
import Derived.Test.YtoealddommhgnabDoorTie
import Derived.Test.YtoealddommhgnabDoorCards
import Derived.Test.YtoealddommhgnabDoorTab
import Derived.Test.YtoealddommhgnabDoorWord
import Derived.Test.YtoealddommhgnabDoorWorks
import Derived.Test.YtoealddommhgnabDoorRowin
import Derived.Test.YtoealddommhgnabDoorInseq
import Derived.WalkKit
import Derived.ProofKit
import Derived.OpenShut
import Derived.ShutString
import Derived.ChangeOld
import Derived.Below
import Derived.Lib.SmallJoins
import Derived.Lay
import Derived.SevenTiedAt
import Derived.Stop.Joined
namespace Go.Proofs.YtoealddommhgnabDoor.isaGuests
open Go.ChangeShapes Go.WideShapes Go.ChangeAt Go.RowKit
set_option linter.unusedVariables false

theorem own : ownKnob Tryd.prog.godebug = none := by kernel_rfl
theorem laidOut : laidOutB Tryd.prog = true := by kernel_rfl

abbrev laidL : List (String × DataW Unit) := [("mummer/isa.forms", Rows.laid_mummer_isa_forms), ("mummer/isa.spans", Rows.laid_mummer_isa_spans)]

theorem guest_all : ∀ n : Nat, n < 256 → (rowOf n false ≠ 0 → rowOf n true = rowOf n false ∧ n ≠ 112 ∧ n ≠ 113) ∧ (rowOf n false = 0 → rowOf n true = 0 ∨ n = 112 ∨ n = 113) := by decide +kernel
theorem guest (z : Int) (h0 : 0 ≤ z) (h1 : z < 256) : (rowOf z false ≠ 0 → rowOf z true = rowOf z false ∧ z ≠ 112 ∧ z ≠ 113) ∧ (rowOf z false = 0 → rowOf z true = 0 ∨ z = 112 ∨ z = 113) := by
  obtain ⟨n, rfl⟩ : ∃ n : Nat, z = n := ⟨z.toNat, by omega⟩
  have := guest_all n (by omega)
  refine ⟨fun h => ?_, fun h => ?_⟩
  · obtain ⟨a, b, c⟩ := this.1 h
    exact ⟨a, by omega, by omega⟩
  · rcases this.2 h with h | h | h
    · exact .inl h
    · exact .inr (.inl (by omega))
    · exact .inr (.inr (by omega))

set_option maxHeartbeats 1000000 in
theorem empty_walk (x : Option Addr) (cap : Nat) (w : World) :
    Calls Tryd.prog 4 #[.slice x 0 cap] w fun e w' => e = .returned (.bool true) ∧ Kep w w' := by
  go_enter Tryd.func4, Tryd.ntmps4
  go_wp2_with fail
  refine (dec_empty x cap false w).mono ?_
  rintro e w1 ⟨rfl, g1⟩
  go_wp2_with fail
  refine (dec_empty x cap true _).mono ?_
  rintro e w2 ⟨rfl, g2⟩
  go_wp2_with fail
  go_ret
  exact ⟨rfl, (kep_trans (g1.alloc _) g2).alloc _⟩

set_option maxHeartbeats 4000000 in
theorem full_walk (b off len cap : Nat) (zs : List Int) (w : World) (h0 : 0 < len) (hB : Bytes w b off len cap zs) (hT : Tabs w) :
    Calls Tryd.prog 4 #[.slice (some ⟨b, off, none⟩) len cap] w fun e w' => e = .returned (.bool true) ∧ Kep w w' := by
  have hz := zat_range hB.fit 0
  have hg := guest (zat zs 0) hz.1 hz.2
  have h0' : (0 : Int) < len := by omega
  have hbw := hB.lt
  have hlm : (len : Int) ≤ 9223372036854775807 := by have h1 := hB.le; have h2 := hB.max; unfold maxLen at h2; omega
  go_enter Tryd.func4, Tryd.ntmps4
  go_wp2_with fail
  refine (decode_any b off len cap zs false _ rfl w h0 hB hT).mono ?_
  rintro e w1 ⟨rfl, g1⟩
  have K1 : Hid (∀ o, Kep w (w1.alloc o)) := fun o => g1.alloc o
  have z1 : w.heap.size ≤ w1.heap.size := g1.size
  by_cases hr : rowOf (zat zs 0) false = 0
  · have e1 : insD (rowOf (zat zs 0) false) zs len = zeroI := by rw [hr]; rfl
    have e2 : numD (rowOf (zat zs 0) false) zs len = 0 := by rw [hr]; rfl
    have e3 : errD (rowOf (zat zs 0) false) zs len = 21 := by rw [hr]; rfl
    rw [e1, e2, e3]
    clear e1 e2 e3
    go_wp2_with fail
    refine (decode_any b off len cap zs true _ rfl _ h0 (hB.kep (K1.out _)) (hT.grown (K1.out _))).mono ?_
    rintro e w2 ⟨rfl, g2⟩
    have K2 : Hid (∀ o, Kep w (w2.alloc o)) := fun o => (kep_trans (K1.out _) g2).alloc o
    have hc : ∀ o, (w2.alloc o).cell? ⟨b, off, none⟩ = some (.int .u8 (zat zs 0)) := fun o => ((K2.out o).cell hbw).trans (hB.cell 0 h0)
    by_cases hr1 : rowOf (zat zs 0) true = 0
    · have e1 : insD (rowOf (zat zs 0) true) zs len = zeroI := by rw [hr1]; rfl
      have e2 : numD (rowOf (zat zs 0) true) zs len = 0 := by rw [hr1]; rfl
      have e3 : errD (rowOf (zat zs 0) true) zs len = 21 := by rw [hr1]; rfl
      rw [e1, e2, e3]
      clear e1 e2 e3 hg hr hr1 hB hT g1 g2
      go_wp2_with fail
      go_ret
      exact ⟨rfl, K2.out _⟩
    · have hop : zat zs 0 = 112 ∨ zat zs 0 = 113 := (hg.2 hr).resolve_left hr1
      cases hok : okD (rowOf (zat zs 0) true) zs len
      · have e1 : insD (rowOf (zat zs 0) true) zs len = zeroI := by unfold insD; rw [hok]; rfl
        have e3 : errD (rowOf (zat zs 0) true) zs len = 20 ∨ errD (rowOf (zat zs 0) true) zs len = 21 := by
          unfold errD; rw [if_neg hr1, hok]; split <;> simp
        rw [e1]
        generalize errD (rowOf (zat zs 0) true) zs len = E at e3
        generalize numD (rowOf (zat zs 0) true) zs len = M
        clear e1 hg hr hr1 hB hT g1 g2 hok
        rcases hop with hop | hop <;> rcases e3 with rfl | rfl
        all_goals rw [hop] at hc
        all_goals clear hop hz
        all_goals go_wp2_with fail
        all_goals go_ret
        all_goals exact ⟨rfl, K2.out _⟩
      · have e1 : insD (rowOf (zat zs 0) true) zs len = insA (zat zs 0) (aOf (rowOf (zat zs 0) true) zs) (bOf (rowOf (zat zs 0) true) zs) (immOf (rowOf (zat zs 0) true) zs) := by unfold insD; rw [hok]; rfl
        have e3 : errD (rowOf (zat zs 0) true) zs len = 0 := by
          have h2 := hok
          unfold okD at h2
          simp only [Bool.and_eq_true, decide_eq_true_eq] at h2
          unfold errD; rw [if_neg hr1, if_neg (by omega), hok]; rfl
        rw [e1, e3]
        generalize aOf (rowOf (zat zs 0) true) zs = A
        generalize bOf (rowOf (zat zs 0) true) zs = B
        generalize immOf (rowOf (zat zs 0) true) zs = I
        generalize numD (rowOf (zat zs 0) true) zs len = M
        clear e1 e3 hg hr hr1 hB hT g1 g2 hok hc
        rcases hop with hop | hop
        all_goals rw [hop]
        all_goals clear hop hz
        all_goals go_wp2_with fail
        all_goals go_ret
        all_goals exact ⟨rfl, K2.out _⟩
  · obtain ⟨hsame, hn1, hn2⟩ := hg.1 hr
    cases hok : okD (rowOf (zat zs 0) false) zs len
    · have e1 : insD (rowOf (zat zs 0) false) zs len = zeroI := by unfold insD; rw [hok]; rfl
      have e3 : errD (rowOf (zat zs 0) false) zs len = 20 ∨ errD (rowOf (zat zs 0) false) zs len = 21 := by
        unfold errD; rw [if_neg hr, hok]; split <;> simp
      rw [e1]
      have hres := decode_any b off len cap zs true _ rfl (w1.alloc (.cells zeroI 23)) h0 (hB.kep (K1.out _)) (hT.grown (K1.out _))
      rw [hsame, e1] at hres
      generalize errD (rowOf (zat zs 0) false) zs len = E at e3 hres
      generalize numD (rowOf (zat zs 0) false) zs len = M at hres
      clear e1 hg hr hsame hn1 hn2 hok
      have hR : Hid _ := hres
      clear hres
      rcases e3 with rfl | rfl
      all_goals
        go_wp2_with fail
        refine Calls.mono hR.out ?_
        rintro e w2 ⟨rfl, g2⟩
        have K2 : Hid (∀ o, Kep w (w2.alloc o)) := fun o => (kep_trans (K1.out _) g2).alloc o
        clear g2 hR
        go_wp2_with fail
        go_ret
        exact ⟨rfl, K2.out _⟩
    · have e1 : insD (rowOf (zat zs 0) false) zs len = insA (zat zs 0) (aOf (rowOf (zat zs 0) false) zs) (bOf (rowOf (zat zs 0) false) zs) (immOf (rowOf (zat zs 0) false) zs) := by unfold insD; rw [hok]; rfl
      have e3 : errD (rowOf (zat zs 0) false) zs len = 0 := by
        have h2 := hok
        unfold okD at h2
        simp only [Bool.and_eq_true, decide_eq_true_eq] at h2
        unfold errD; rw [if_neg hr, if_neg (by omega), hok]; rfl
      have hw := fits_all hB.fit (rowOf (zat zs 0) false) (rowOf_lt _ _)
      have hsm := ins_same _ _ _ _ hw.1 hw.2.1 hw.2.2.1 hw.2.2.2
      rw [e1, e3]
      have hres := decode_any b off len cap zs true _ rfl (w1.alloc (.cells (insD (rowOf (zat zs 0) false) zs len) 23)) h0 (hB.kep (K1.out _)) (hT.grown (K1.out _))
      rw [hsame, e1, e3] at hres
      clear hw
      generalize aOf (rowOf (zat zs 0) false) zs = A at hres hsm
      generalize bOf (rowOf (zat zs 0) false) zs = B at hres hsm
      generalize immOf (rowOf (zat zs 0) false) zs = I at hres hsm
      generalize numD (rowOf (zat zs 0) false) zs len = M at hres
      have t1 : (zat zs 0 != 112) = true := by simpa using hn1
      have t2 : (zat zs 0 != 113) = true := by simpa using hn2
      have hR : Hid _ := hres
      have hT' : Hid (Tabs w) := hT
      clear e1 e3 hg hr hsame hn1 hn2 hok hres hT
      go_wp2_with fail
      refine Calls.mono hR.out ?_
      rintro e w2 ⟨rfl, g2⟩
      have K2 : Hid (∀ o, Kep w (w2.alloc o)) := fun o => (kep_trans (K1.out _) g2).alloc o
      have hcc : ∀ o j, (w2.alloc o).cell? ⟨w1.heap.size, j, none⟩ = (w1.alloc (.cells (insA (zat zs 0) A B I) 23)).cell? ⟨w1.heap.size, j, none⟩ := fun o j => (cell_old (g2.lt (by simp))).trans (g2.cell (by simp))
      have c0 : ∀ o, (w2.alloc o).cell? ⟨w1.heap.size, 0, none⟩ = some (.int .u8 (zat zs 0)) := fun o => (hcc o 0).trans (by simp)
      have c1 : ∀ o, (w2.alloc o).cell? ⟨w1.heap.size, 1, none⟩ = some (.int .u8 A) := fun o => (hcc o 1).trans (by simp)
      have c2 : ∀ o, (w2.alloc o).cell? ⟨w1.heap.size, 2, none⟩ = some (.int .u8 B) := fun o => (hcc o 2).trans (by simp)
      have c3 : ∀ o, (w2.alloc o).cell? ⟨w1.heap.size, 3, none⟩ = some (.int .i32 I) := fun o => (hcc o 3).trans (by simp)
      clear g2 hR hcc
      go_wp2_with fail
      refine (works_any _ (hT'.grown (K2.out _))).mono ?_
      rintro e w3 ⟨rfl, g3⟩
      go_wp2_with fail
      go_ret
      exact ⟨rfl, kep_trans (K2.out _) g3⟩

theorem walk (x0 : Option Addr) (len0 cap0 : Nat) (z0 : List Int) (w : World) (w0 : IsRow .u8 w x0 len0 cap0 z0) (hT : Tabs w) :
    Calls Tryd.prog 4 #[.slice x0 len0 cap0] w fun e w' => e = .returned (.bool true) ∧ Kep w w' := by
  rcases row_cases w0 with h | ⟨b, off, hx, hlen, hB⟩
  · subst h
    exact empty_walk x0 cap0 w
  · subst hx
    exact full_walk b off len0 cap0 z0 w hlen hB hT

set_option maxRecDepth 100000 in
theorem lifted (os : Os) (started : os.Started) (H : Type) (enc : TypeId × Value → H) :
    ReturnsInHanded {} Tryd.checked os 4 .any (fun w args => (Rows.isaGuestsSpec.pre enc Tryd.prog Tryd.f4 Rows.isaGuestsRow.domain false w args ∧ laidMetH Tryd.prog laidL w) ∧ sizedMet enc Tryd.prog Tryd.f4 (OpenSpec.ofChange Rows.isaGuestsSpec) false w args)
      (Rows.isaGuestsSpec.post enc Tryd.prog Tryd.f4 false true false false) := by
  refine returnsInHanded_of_change_and (C := Tryd.checked) (X := fun w _ => laidMetH Tryd.prog laidL w) (fun _ _ _ hh h => h.of_heap hh) own started (by kernel_rfl) Tryd.func4
    (ChangeSpec.witness_shaped (enc := enc) (C := Tryd.checked) (os := os) (X := fun w _ => laidMetH Tryd.prog laidL w) false (World.laidAll Tryd.prog os laidL) #[.slice none 0 0] 8 (World.laidAll_os _ _ _)
      (World.shaped_of_ZipB (by kernel_rfl) (by kernel_rfl)) (by kernel_rfl) (by kernel_rfl) (by kernel_rfl)
      (by rw [MakeChecks.laidMetH_plain _ _ _ (by kernel_rfl)]; exact laidMet_laidAll _ (by kernel_rfl) (by kernel_rfl))) ?_
  intro W base args ds gs before hval0 hW hcnd _ hL _
  have hval : ∀ (j : Nat) t v, Tryd.f4.params[j]? = some t → args[j]? = some v → Value.okWide Tryd.prog W .any base t v := hval0
  have hW' := hW
  obtain ⟨p, q, hA0, hV, rfl, hfz, hnd⟩ := hW
  have hA : DataW.TrodAll enc Tryd.prog W 0 (fun _ => true) true Tryd.f4.params.toList args.toList ds p := hA0
  rw [Tryd.params4] at hA hval
  obtain ⟨v0, vs0, d0, ds0, p0, q0, hargs, rfl, rfl, h0, r0⟩ := trodAll_cons hA
  obtain ⟨rfl, rfl, rfl⟩ := trodAll_nil r0
  obtain rfl : args = #[v0] := by cases args; simp_all
  obtain ⟨rfl, rfl⟩ := trodVars_none hV
  have k0 := h0
  have lt0 : ∀ x ∈ p0, x.block < W.heap.size := by obtain ⟨m, hm⟩ := k0; exact DataW.trod_lt m _ _ _ hm
  obtain ⟨x0, len0, cap0, rfl⟩ := okWide_slice Tryd.underlying24 (hval 0 24 v0 rfl rfl)
  obtain ⟨z0, w0⟩ : ∃ zs, IsRow .u8 W x0 len0 cap0 zs := by
    obtain ⟨fuel, hf⟩ := h0
    rcases open_ints Tryd.underlying24 Tryd.underlying5 (by kernel_rfl) hf with ⟨hcs, _⟩ | ⟨x, l, c, zs, hcs, _, hl, hm, hz, _, hcell, hwz⟩
    · simp [Value.cells] at hcs
      obtain ⟨rfl, rfl, rfl⟩ := hcs
      exact ⟨[], .inl ⟨rfl, rfl, rfl, rfl⟩⟩
    · simp [Value.cells] at hcs
      obtain ⟨rfl, rfl, rfl⟩ := hcs
      exact ⟨zs, .inr ⟨_, rfl, hl, hm, by simpa using hz, hcell, hwz⟩⟩
  clear hA0 hval0
  refine (walk x0 len0 cap0 z0 W w0 (tabs_of_laid hL)).mono fun e W' ⟨he, bel0⟩ => ?_
  have bel : Below W.heap.size W W' := bel0
  subst he
  exact ⟨_, rfl, _, _, _, [], _, [], hW', trodAll_mk1 (shut_bool Tryd.underlying4 _), (trodAll_cons_mk (Below.trod laidOut (by kernel_rfl) (of_decide_eq_true (by kernel_rfl)) k0 bel lt0) trodAll_mk0), rfl, bel.frame _, fun h => by cases h⟩

theorem over : Rows.isaGuestsRow.holds Tryd.pinned (OpenSpec.ofChange Rows.isaGuestsSpec) :=
  OpenClaim.holds_of_wide 4 Tryd.f4 rfl rfl rfl rfl rfl rfl rfl ⟨rfl, rfl, rfl, rfl, rfl⟩ rfl rfl rfl rfl rfl (by kernel_rfl) Tryd.func4 (by kernel_rfl)
    (of_decide_eq_true (by kernel_rfl)) (by unfold Func.isWrapper; first | (rw [if_pos (by decide +kernel)]; kernel_rfl) | (rw [if_neg (by decide +kernel)]; exact ⟨rfl, rfl⟩))
    (fun os started H enc _ => lifted os started H enc)
end Go.Proofs.YtoealddommhgnabDoor.isaGuests
namespace Go.Proofs.YtoealddommhgnabDoor

theorem isaGuests_holds : Rows.IsaGuestsCardSaid :=
  Claim7.holds_tied_plain_at .later [] [.data, .data] true (true, "b5535cc89f79ead74fbfa3d1c9c6e7fd6ff38318b1f7a69967c6e4a9dc5bfff0") false isaGuests.over (fun _ h => by cases h) (by kernel_rfl) (fun _ h => by cases h) isaGuests_row_tie rfl ⟨rfl, rfl⟩ (by kernel_rfl) rfl
    (fun f fn hf hfn => by
      obtain rfl : f = 4 := Option.some.inj ((show Tryd.prog.funcNamed "mummer/mummerlaw02.IsaGuests" = some 4 by kernel_rfl).symm.trans hf) |>.symm
      obtain rfl : fn = Tryd.f4 := (Option.some.inj (Tryd.func4.symm.trans hfn)).symm
      exact ⟨by kernel_rfl, fun j t ht => by
        rw [Tryd.params4] at ht
        have hm : t ∈ [24] := by simpa using Array.mem_of_getElem? ht
        have hall : ([24].all fun u => !Tryd.prog.wantsStandIn u) = true := by kernel_rfl
        exact (show Tryd.prog.wantsStandIn t = false by simpa using List.all_eq_true.1 hall t hm)⟩)
    (by kernel_rfl)
#print axioms isaGuests_holds
end Go.Proofs.YtoealddommhgnabDoor
