/- For every number of frames, image and state, the law MachineBegins returns true: they make a machine that is as the document's, or are refused for the document's reason. -/
import Derived.Test.YtnignfloedcmlaaGreatDoorRows
import Derived.Test.YtnignfloedcmlaaGreatDoorTie
import Derived.Test.YtnignfloedcmlaaGreatDoorCards
import Derived.WalkKit
import Derived.ProofKit
import Derived.OpenShut
import Derived.ShutString
import Derived.ChangeOld
import Derived.Below
import Derived.Lib.SmallJoins
import Derived.Lay
import Derived.SevenTiedAt
import Derived.Stop.Joined
import Derived.Test.YtnignfloedcmlaaGreatDoorJ47
import Derived.Test.YtnignfloedcmlaaGreatDoorJ48
import Derived.Test.YtnignfloedcmlaaGreatDoorJ49
namespace Go.Proofs.YtnignfloedcmlaaGreatDoor.machineBegins
open Go.ChangeShapes Go.WideShapes Go.ChangeAt Go.RowKit
set_option linter.unusedVariables false
set_option linter.unusedSimpArgs false
theorem own : ownKnob Tryz.prog.godebug = none := by kernel_rfl
theorem laidOut : laidOutB Tryz.prog = true := by kernel_rfl
abbrev laidL : List (String × DataW Unit) := [("mummer/isa.forms", Rows.laid_mummer_isa_forms), ("mummer/isa.spans", Rows.laid_mummer_isa_spans)]
theorem wp_sta {op : Oper} {a : Act} {w : World} {K : Act → World → Prop} {Q : Exit → Act → World → Prop} (x : Operand) (ho : op.op = .load 26 x) (b : Nat) (hx : a.eval x = .pointer (some ⟨b, 0, none⟩)) (s : Sta) (hc : At w b s) (h : K (a.put op.dst (.agg s.v)) w) : op.wp Tryz.prog a w K Q :=
  wp_load_mid 26 x ho b 0 hx s.v.toList _ (at_range hc) Tryz.underlying26 rfl size_sta h
theorem errI_nil : errI [] [] = 0 := by decide
set_option maxHeartbeats 8000000 in
set_option maxRecDepth 100000 in
theorem walk (a0 : Int) (w0 : (Lit.int .i64 a0).wf = true) (x1 : Option Addr) (len1 cap1 : Nat) (z1 : List Int) (s2 : Sta) (ok2 : s2.Ok) (w : World) (w1 : IsRow .u8 w x1 len1 cap1 z1) (hT : Tabs w) :
    Calls Tryz.prog 3 #[.int .i64 a0, .slice x1 len1 cap1, .agg s2.v] w fun e w' => e = .returned (.bool true) ∧ Kep w w' := by
  obtain ⟨hL, hlen, hby, hlc, hmax⟩ := w1.lies
  have hw := (tabs_size hT).2
  have hwx : ∀ w', Kep w w' → Tabs w' := fun w' k => hT.grown k
  obtain ⟨Z, hZ⟩ : ∃ Z, Z = z1.take len1 := ⟨_, rfl⟩
  rw [← hZ] at hL hlen hby
  clear hZ w0 w1
  have HW : Hid (∀ w', Kep w w' → Calls Tryz.prog 6 #[] w' fun e w'' => e = .returned (.bool true) ∧ Kep w' w'') := fun w' k => works12_any w' (hT.grown k)
  have HE : Hid (∀ w', Kep w w' → Calls Tryz.prog 5 #[.int .i64 a0, .slice x1 len1 cap1, .agg s2.v, .slice none 0 0, .slice none 0 0] w' fun e w'' => e = .returned (.int .i64 (errM a0 len1 s2.ps [] [])) ∧ Kep w' w'') := fun w' k => rerr_any a0 hlc hmax s2 ok2 (scr_nil w') (by simp)
  obtain ⟨W, hW⟩ : ∃ W, Hid (w.alloc (.cells s2.v 26) = W) := ⟨_, rfl⟩
  have KW : Hid (Kep w W) := by rw [Hid, ← hW.out]; exact (Kep.refl w).alloc _
  have SW : Hid (At W w.heap.size s2) := by rw [Hid, ← hW.out]; exact hat _ _ _ rfl
  have em : errM a0 len1 s2.ps [] [] = if a0 < 1 ∨ 64 < a0 then 2 else if a0 * 64 < len1 then 3 else if psB s2.ps = false then 2 else errI [] [] := rfl
  rw [errI_nil] at em
  by_cases hbad : errM a0 len1 s2.ps [] [] ≠ 0
  · have HN : Hid (Calls Tryz.prog 4 #[.int .i64 a0, .slice x1 len1 cap1, .agg s2.v, .slice none 0 0, .slice none 0 0] W fun e w'' => e = .returned (.tuple #[.pointer none, .int .i64 (errM a0 len1 s2.ps [] [])]) ∧ Kep W w'') := by
      by_cases h1 : (a0 < 1 ∨ 64 < a0) ∨ (1 ≤ a0 ∧ a0 ≤ 64 ∧ a0 * 64 < len1)
      · have := mnew_bad W a0 (xi := x1) (li := len1) (ci := cap1) s2 (.slice none 0 0) (.slice none 0 0) h1
        have e2 : (if a0 < 1 ∨ 64 < a0 then (2 : Int) else 3) = errM a0 len1 s2.ps [] [] := by
          rw [em]
          split
          · rfl
          · rw [if_pos (by omega)]
        rw [e2] at this
        exact this
      · obtain ⟨n, rfl⟩ : ∃ n : Nat, a0 = n := ⟨a0.toNat, by omega⟩
        rw [if_neg (by omega), if_neg (by omega)] at em
        cases hp : psB s2.ps with
        | true => rw [hp] at em; simp at em; exact absurd em hbad
        | false =>
          rw [hp] at em
          simp only [if_true] at em
          have := mnew_no (w := W) n (by omega) (by omega) hlen hlc hmax hby (by omega) (hL.kep KW.out) s2 ok2 (scr_nil W) (.inl hp)
          rw [if_pos hp] at this
          rw [em]
          exact this
    have t0 : ∀ e : Int, e ≠ 0 → (e == 0) = false := fun e h => by simpa using h
    have tb := t0 _ hbad
    clear em hby hL hlen
    generalize errM a0 len1 s2.ps [] [] = em at *
    go_enter Tryz.func3, Tryz.ntmps3
    go_upto_region 1 with fail
    rw [hW.out]
    clear hW
    go_wp2_with (first
      | (refine load_sta (by rfl) _ (by rfl) w.heap.size 0 (by rfl) s2 (at_range SW.out) ?_))
    refine HN.out.mono ?_
    rintro e w3 ⟨rfl, k3⟩
    have K3 := hidd (kep_trans KW.out k3)
    have S3 := hidd (SW.out.kep k3)
    clear HN SW KW k3
    go_wp2_with (first
      | (refine load_sta (by rfl) _ (by rfl) w.heap.size 0 (by rfl) s2 (at_range S3.out) ?_))
    refine (HE.out _ K3.out).mono ?_
    rintro e w4 ⟨rfl, k4⟩
    have K4 := hidd (kep_trans K3.out k4)
    clear HE S3 K3 k4
    go_wp2_with fail
    refine (HW.out _ K4.out).mono ?_
    rintro e w5 ⟨rfl, k5⟩
    go_wp2_with fail
    go_ret
    exact ⟨rfl, kep_trans K4.out k5⟩
  · have hbad' : errM a0 len1 s2.ps [] [] = 0 := Classical.not_not.1 hbad
    have h1 : 1 ≤ a0 ∧ a0 ≤ 64 := by rw [hbad'] at em; split at em <;> omega
    obtain ⟨n, rfl⟩ : ∃ n : Nat, a0 = n := ⟨a0.toNat, by omega⟩
    rw [hbad', if_neg (by omega)] at em
    have h2 : len1 ≤ 64 * n := by split at em <;> omega
    rw [if_neg (by omega)] at em
    have hp : psB s2.ps = true := by
      cases h : psB s2.ps with
      | true => rfl
      | false => rw [h] at em; simp at em
    have HN : Hid (Calls Tryz.prog 4 #[.int .i64 n, .slice x1 len1 cap1, .agg s2.v, .slice none 0 0, .slice none 0 0] W fun e w' => ∃ p pm R G, e = .returned (.tuple #[.pointer (some ⟨p, 0, none⟩), .int .i64 0]) ∧ Mach w' p pm R (List.range n) (ms0 [] [] (imgL n Z) s2) G ∧ Kep W w' ∧ ∀ g ∈ R :: G, W.heap.size ≤ g) :=
      mnew_ok n (by omega) (by omega) hlen hlc hmax hby h2 (hL.kep KW.out) s2 ok2 hp (scr_nil W) errI_nil (hwx _ KW.out)
    have HR : Hid (∀ w', Kep w w' → Calls Tryz.prog 8 #[.int .i64 n, .slice x1 len1 cap1, .agg s2.v, .slice none 0 0, .slice none 0 0] w' fun e w'' => ∃ q Rb G, e = .returned (mpt q) ∧ RMach w'' q Rb (ms0 [] [] (imgL n Z) s2) (.slice none 0 0) [] G ∧ Kep w' w'' ∧ ∀ g ∈ Rb :: G, w'.heap.size ≤ g) := fun w' k =>
      rnew12_any n (by omega) (by omega) hlen hlc hmax h2 (hL.kep k) s2 (scr_nil w') (by omega) (by have := k.size; omega)
    have hn64 : n ≤ 64 := by omega
    have hiB : (ms0 [] [] (imgL n Z) s2).B.length = 64 * n := imgL_len n Z
    have hOk : (ms0 [] [] (imgL n Z) s2).Ok := ms0_ok ds00_ok (by simp) ok2 (by intro e; have := imgL_len n Z; rw [e] at this; simp at this; omega)
    have hO0 : ((ms0 [] [] (imgL n Z) s2).d.O.length : Int) ≤ 900000 := by show ((0 : Nat) : Int) ≤ 900000; omega
    have hN0 : ((ms0 [] [] (imgL n Z) s2).N.length : Int) ≤ 900000 := by show ((0 : Nat) : Int) ≤ 900000; omega
    have HS : Hid (∀ (w' : World) (p pm R : Nat) (G : List Nat) (q Rb : Nat) (G2 : List Nat), Mach w' p pm R (List.range n) (ms0 [] [] (imgL n Z) s2) G → RMach w' q Rb (ms0 [] [] (imgL n Z) s2) (.slice none 0 0) [] G2 → Calls Tryz.prog 7 #[mpt p, mpt q] w' fun e w'' => e = .returned (.bool true) ∧ Kep w' w'') := fun w' p pm R G q Rb G2 a b => same12_any a b hOk hiB hn64 hO0 hN0
    rw [hbad'] at HE
    clear em hby hL hlen hbad hbad' hiB hOk hO0 hN0 hwx
    generalize ms0 [] [] (imgL n Z) s2 = X at *
    go_enter Tryz.func3, Tryz.ntmps3
    go_upto_region 1 with fail
    rw [hW.out]
    clear hW
    go_wp2_with (first
      | (refine load_sta (by rfl) _ (by rfl) w.heap.size 0 (by rfl) s2 (at_range SW.out) ?_))
    refine HN.out.mono ?_
    rintro e w3 ⟨p, pm, R, G, rfl, m3, k3, _⟩
    have K3 := hidd (kep_trans KW.out k3)
    have S3 := hidd (SW.out.kep k3)
    have M3 := hidd m3
    clear HN SW KW k3 m3
    go_wp2_with (first
      | (refine load_sta (by rfl) _ (by rfl) w.heap.size 0 (by rfl) s2 (at_range S3.out) ?_))
    refine (HE.out _ K3.out).mono ?_
    rintro e w4 ⟨rfl, k4⟩
    have K4 := hidd (kep_trans K3.out k4)
    have S4 := hidd (S3.out.kep k4)
    have M4 := hidd (M3.out.kep k4)
    clear HE S3 K3 k4 M3
    go_wp2_with (first
      | (refine load_sta_g (by rfl) _ (by rfl) w.heap.size 0 (by rfl) s2 (at_range S4.out) ?_)
      | (refine wp_sta _ (by rfl) w.heap.size (by rfl) s2 S4.out ?_))
    refine (HR.out _ K4.out).mono ?_
    rintro e w5 ⟨q, Rb, G2, rfl, r5, k5, _⟩
    have K5 := hidd (kep_trans K4.out k5)
    have M5 := hidd (M4.out.kep k5)
    have R5 := hidd r5
    clear HR S4 K4 k5 M4 r5
    go_wp2_with fail
    refine (HS.out _ _ _ _ _ _ _ _ M5.out R5.out).mono ?_
    rintro e w6 ⟨rfl, k6⟩
    have K6 := hidd (kep_trans K5.out k6)
    clear HS K5 k6 M5 R5
    go_wp2_with fail
    refine (HW.out _ K6.out).mono ?_
    rintro e w7 ⟨rfl, k7⟩
    go_wp2_with fail
    go_ret
    exact ⟨rfl, kep_trans K6.out k7⟩
set_option maxRecDepth 100000 in
theorem lifted (os : Os) (started : os.Started) (H : Type) (enc : TypeId × Value → H) :
    ReturnsInHanded {} Tryz.checked os 3 .any (fun w args => (Rows.machineBeginsSpec.pre enc Tryz.prog Tryz.f3 Rows.machineBeginsRow.domain false w args ∧ laidMetH Tryz.prog laidL w) ∧ sizedMet enc Tryz.prog Tryz.f3 (OpenSpec.ofChange Rows.machineBeginsSpec) false w args)
      (Rows.machineBeginsSpec.post enc Tryz.prog Tryz.f3 false true false false) := by
  refine returnsInHanded_of_change_and (C := Tryz.checked) (X := fun w _ => laidMetH Tryz.prog laidL w) (fun _ _ _ hh h => h.of_heap hh) own started (by kernel_rfl) Tryz.func3
    (ChangeSpec.witness_shaped (enc := enc) (C := Tryz.checked) (os := os) (X := fun w _ => laidMetH Tryz.prog laidL w) false (World.laidAll Tryz.prog os laidL) #[.int .i64 0, .slice none 0 0, .agg #[.int .u32 0, .int .u32 0, .int .u32 0, .int .u32 0, .int .u32 0, .int .u32 0, .int .u32 0, .int .u32 0, .int .u32 0, .int .u32 0, .int .u32 0, .int .u32 0, .int .u32 0, .int .u32 0, .int .u32 0, .int .u32 0, .int .u32 0, .int .u32 0, .bool false]] 8 (World.laidAll_os _ _ _)
      (World.shaped_of_ZipB (by kernel_rfl) (by kernel_rfl)) (by kernel_rfl) (by kernel_rfl) (by kernel_rfl)
      (by rw [MakeChecks.laidMetH_plain _ _ _ (by kernel_rfl)]; exact laidMet_laidAll _ (by kernel_rfl) (by kernel_rfl))) ?_
  intro W base args ds gs before hval0 hW hcnd hsz0 hL _
  have hval : ∀ (j : Nat) t v, Tryz.f3.params[j]? = some t → args[j]? = some v → Value.okWide Tryz.prog W .any base t v := hval0
  have hW' := hW
  obtain ⟨p, q, hA0, hV, rfl, hfz, hnd⟩ := hW
  have hA : DataW.TrodAll enc Tryz.prog W 0 (fun _ => true) true Tryz.f3.params.toList args.toList ds p := hA0
  rw [Tryz.params3] at hA hval
  obtain ⟨v0, vs0, d0, ds0, p0, q0, hargs, rfl, rfl, h0, r0⟩ := trodAll_cons hA
  obtain ⟨v1, vs1, d1, ds1, p1, q1, rfl, rfl, rfl, h1, r1⟩ := trodAll_cons r0
  obtain ⟨v2, vs2, d2, ds2, p2, q2, rfl, rfl, rfl, h2, r2⟩ := trodAll_cons r1
  obtain ⟨rfl, rfl, rfl⟩ := trodAll_nil r2
  obtain rfl : args = #[v0, v1, v2] := by cases args; simp_all
  obtain ⟨rfl, rfl⟩ := trodVars_none hV
  have k0 := h0
  have lt0 : ∀ x ∈ p0, x.block < W.heap.size := by obtain ⟨m, hm⟩ := k0; exact DataW.trod_lt m _ _ _ hm
  obtain ⟨a0, rfl, rfl, rfl, w0⟩ := open_int Tryz.underlying3 (hval 0 3 v0 rfl rfl) h0
  have k1 := h1
  have lt1 : ∀ x ∈ p1, x.block < W.heap.size := by obtain ⟨m, hm⟩ := k1; exact DataW.trod_lt m _ _ _ hm
  obtain ⟨x1, len1, cap1, rfl⟩ := okWide_slice Tryz.underlying22 (hval 1 22 v1 rfl rfl)
  obtain ⟨z1, w1⟩ : ∃ zs, IsRow .u8 W x1 len1 cap1 zs := by
    obtain ⟨fuel, hf⟩ := h1
    rcases open_ints Tryz.underlying22 Tryz.underlying5 (by kernel_rfl) hf with ⟨hcs, _⟩ | ⟨x, l, c, zs, hcs, _, hl, hm, hz, _, hcell, hwz⟩
    · simp [Value.cells] at hcs
      obtain ⟨rfl, rfl, rfl⟩ := hcs
      exact ⟨[], .inl ⟨rfl, rfl, rfl, rfl⟩⟩
    · simp [Value.cells] at hcs
      obtain ⟨rfl, rfl, rfl⟩ := hcs
      exact ⟨zs, .inr ⟨_, rfl, hl, hm, by simpa using hz, hcell, hwz⟩⟩
  have k2 := h2
  have lt2 : ∀ x ∈ p2, x.block < W.heap.size := by obtain ⟨m, hm⟩ := k2; exact DataW.trod_lt m _ _ _ hm
  obtain ⟨s2, rfl, ok2⟩ := open_sta (hval 2 26 v2 rfl rfl) h2
  clear hA0 hval0
  refine (walk a0 w0 x1 len1 cap1 z1 s2 ok2 W w1 (tabs_of_laid hL)).mono fun e W' ⟨he, bel0⟩ => ?_
  have bel : Below W.heap.size W W' := bel0
  subst he
  exact ⟨_, rfl, _, _, _, [], _, [], hW', trodAll_mk1 (shut_bool Tryz.underlying4 _), (trodAll_cons_mk (Below.trod laidOut (by kernel_rfl) (of_decide_eq_true (by kernel_rfl)) k0 bel lt0) (trodAll_cons_mk (Below.trod laidOut (by kernel_rfl) (of_decide_eq_true (by kernel_rfl)) k1 bel lt1) (trodAll_cons_mk (Below.trod laidOut (by kernel_rfl) (of_decide_eq_true (by kernel_rfl)) k2 bel lt2) trodAll_mk0))), rfl, bel.frame _, fun h => by cases h⟩
theorem over : Rows.machineBeginsRow.holds Tryz.pinned (OpenSpec.ofChange Rows.machineBeginsSpec) :=
  OpenClaim.holds_of_wide 3 Tryz.f3 rfl rfl rfl rfl rfl rfl rfl ⟨rfl, rfl, rfl, rfl, rfl⟩ rfl rfl rfl rfl rfl (by kernel_rfl) Tryz.func3 (by kernel_rfl)
    (of_decide_eq_true (by kernel_rfl)) (by unfold Func.isWrapper; first | (rw [if_pos (by decide +kernel)]; kernel_rfl) | (rw [if_neg (by decide +kernel)]; exact ⟨rfl, rfl⟩))
    (fun os started H enc _ => lifted os started H enc)
end Go.Proofs.YtnignfloedcmlaaGreatDoor.machineBegins
namespace Go.Proofs.YtnignfloedcmlaaGreatDoor
theorem machineBegins_holds : Rows.MachineBeginsCardSaid :=
  Claim7.holds_tied_plain_at .later [] [.data, .data] true (true, "332ae15ec31e83c69c10b78a0287e4d9327e24abc02ca2198316d690e825f6cf") true machineBegins.over (fun _ h => by cases h) (by kernel_rfl) (fun _ h => by cases h) machineBegins_row_tie rfl ⟨rfl, rfl⟩ (by kernel_rfl) rfl
    (fun f fn hf hfn => by
      obtain rfl : f = 3 := Option.some.inj ((show Tryz.prog.funcNamed "mummer/mummerlaw12.MachineBegins" = some 3 by kernel_rfl).symm.trans hf) |>.symm
      obtain rfl : fn = Tryz.f3 := (Option.some.inj (Tryz.func3.symm.trans hfn)).symm
      exact ⟨by kernel_rfl, fun j t ht => by
        rw [Tryz.params3] at ht
        have hm : t ∈ [3, 22, 26] := by simpa using Array.mem_of_getElem? ht
        have hall : ([3, 22, 26].all fun u => !Tryz.prog.wantsStandIn u) = true := by kernel_rfl
        exact (show Tryz.prog.wantsStandIn t = false by simpa using List.all_eq_true.1 hall t hm)⟩)
    (by kernel_rfl)
#print axioms machineBegins_holds
end Go.Proofs.YtnignfloedcmlaaGreatDoor
