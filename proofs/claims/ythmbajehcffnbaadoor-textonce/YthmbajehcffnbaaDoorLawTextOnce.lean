/- For every text the law TextOnce returns true: what is read is shown by just the text that it was read from, and with an error the instruction is the zero one; the code's two tables of forms and the library's table of powers of ten hold what the text lays. -/
import Derived.Test.YthmbajehcffnbaaDoorRows
import Derived.Test.YthmbajehcffnbaaDoorTie
import Derived.Test.YthmbajehcffnbaaDoorCards
import Derived.Test.YthmbajehcffnbaaDoorTkw
import Derived.Test.YthmbajehcffnbaaDoorWord
import Derived.Test.YthmbajehcffnbaaDoorInseq
import Derived.Test.YthmbajehcffnbaaDoorTback
import Derived.Test.YthmbajehcffnbaaDoorTread
import Derived.WalkKit
import Derived.ProofKit
import Derived.OpenShut
import Derived.ShutString
import Derived.ChangeOld
import Derived.Below
import Derived.Lib.SmallJoins
import Derived.ChangeMaps5
import Derived.SizedLaws
import Derived.Lay
import Derived.SevenTiedAt
import Derived.Stop.Joined
namespace Go.Proofs.YthmbajehcffnbaaDoor.textOnce
open Go.ChangeShapes Go.WideShapes Go.ChangeAt Go.RowKit
set_option linter.unusedVariables false

theorem own : ownKnob Tryd.prog.godebug = none := by kernel_rfl
theorem laidOut : laidOutB Tryd.prog = true := by kernel_rfl

abbrev laidL : List (String × DataW Unit) := [("math/bits.deBruijn32tab", Rows.laid_math_bits_deBruijn32tab), ("math/bits.deBruijn64tab", Rows.laid_math_bits_deBruijn64tab), ("internal/strconv.uint64pow10", Rows.laid_internal_strconv_uint64pow10), ("mummer/isa.forms", Rows.laid_mummer_isa_forms), ("mummer/isa.spans", Rows.laid_mummer_isa_spans)]

set_option maxHeartbeats 4000000 in
theorem no_walk (l : List UInt8) (E : Int) (hE : (E == 0) = false) (w : World) (hT : Env w)
    (HR : ∀ w, Env w → Calls Tryd.prog 11 #[strV l] w fun e w' => e = .returned (.tuple #[.agg (insA 0 0 0 0), .int .i64 E]) ∧ Kep w w') :
    Calls Tryd.prog 6 #[strV l] w fun e w' => e = .returned (.bool true) ∧ Kep w w' := by
  have hE' : Hid (Env w) := hT
  have H1 : Hid _ := HR
  have HW : Hid (∀ w, Env w → Calls Tryd.prog 10 #[] w fun e w' => e = .returned (.bool true) ∧ Kep w w') := fun w h => works_any w h
  have hsame := ins_same 0 0 0 0 (by decide) (by decide) (by decide) (by decide)
  clear hT HR
  go_enter Tryd.func6, Tryd.ntmps6
  go_wp2_with fail
  refine (H1.out _ hE'.out).mono ?_
  rintro e w1 ⟨rfl, g1⟩
  have G1 : Hid (∀ o, Kep w (w1.alloc o)) := fun o => Kep.alloc g1 o
  clear g1
  go_wp2_with fail
  refine (HW.out _ (hE'.out.grown (G1.out _))).mono ?_
  rintro e w7 ⟨rfl, g7⟩
  have G7 : Hid (Kep w w7) := kep_trans (G1.out _) g7
  clear g7
  go_wp2_with fail
  go_ret
  exact ⟨rfl, G7.out⟩

set_option maxHeartbeats 4000000 in
theorem yes_walk (l : List UInt8) (op a b imm : Int) (w : World) (hT : Env w)
    (HR : ∀ w, Env w → Calls Tryd.prog 11 #[strV l] w fun e w' => e = .returned (.tuple #[.agg (insA op a b imm), .int .i64 0]) ∧ Kep w w')
    (HS : ∀ w, Env w → Calls Tryd.prog 8 #[.agg (insA op a b imm)] w fun e w' => e = .returned (strV l) ∧ Kep w w') :
    Calls Tryd.prog 6 #[strV l] w fun e w' => e = .returned (.bool true) ∧ Kep w w' := by
  have hE' : Hid (Env w) := hT
  have H1 : Hid _ := HR
  have H2 : Hid _ := HS
  have HW : Hid (∀ w, Env w → Calls Tryd.prog 10 #[] w fun e w' => e = .returned (.bool true) ∧ Kep w w') := fun w h => works_any w h
  clear hT HR HS
  go_enter Tryd.func6, Tryd.ntmps6
  go_wp2_with fail
  refine (H1.out _ hE'.out).mono ?_
  rintro e w1 ⟨rfl, g1⟩
  have G1 : Hid (∀ o, Kep w (w1.alloc o)) := fun o => Kep.alloc g1 o
  clear g1
  go_wp2_with fail
  refine (H2.out _ (hE'.out.grown (G1.out _))).mono ?_
  rintro e w2 ⟨rfl, g2⟩
  have G2 : Hid (Kep w w2) := kep_trans (G1.out _) g2
  clear g2
  go_wp2_with fail
  refine (HW.out _ (hE'.out.grown G2.out)).mono ?_
  rintro e w7 ⟨rfl, g7⟩
  have G7 : Hid (Kep w w7) := kep_trans G2.out g7
  clear g7
  go_wp2_with fail
  go_ret
  exact ⟨rfl, G7.out⟩

theorem numE_err {op a b : Int} {n : List UInt8} {e : Int} (h : numE op a b n = .error e) : e = 41 := by
  unfold numE at h
  split at h
  · cases h; rfl
  · split at h
    · cases h
    · cases h; rfl
theorem readF_err {op : Int} {xa xb xn : Bool} {rest : List (List UInt8)} {e : Int} (h : readF op xa xb xn rest = .error e) : e = 40 ∨ e = 41 := by
  unfold readF at h
  split at h
  · cases h
  · exact .inr (numE_err h)
  · split at h
    · cases h; exact .inl rfl
    · cases h
  · split at h
    · cases h; exact .inl rfl
    · exact .inr (numE_err h)
  · split at h
    · cases h; exact .inl rfl
    · split at h
      · cases h; exact .inl rfl
      · cases h
  · split at h
    · cases h; exact .inl rfl
    · split at h
      · cases h; exact .inl rfl
      · exact .inr (numE_err h)
  · cases h; exact .inl rfl
theorem readR_err {s : List UInt8} {e : Int} (h : readR s = .error e) : e = 40 ∨ e = 41 := by
  unfold readR at h
  split at h
  · cases h; exact .inl rfl
  · unfold readP at h
    split at h
    · cases h; exact .inl rfl
    · split at h
      · cases h; exact .inl rfl
      · exact readF_err h

theorem walk (s0 : ByteArray) (w0 : (s0.size : Int) ≤ 140737488355328) (w : World) (hT : Env w) :
    Calls Tryd.prog 6 #[.string s0] w fun e w' => e = .returned (.bool true) ∧ Kep w w' := by
  obtain ⟨l, rfl⟩ : ∃ l : List UInt8, s0 = ⟨l.toArray⟩ := ⟨s0.data.toList, by cases s0; simp⟩
  have hl : (l.length : Int) ≤ 140737488355328 := by
    have e : (⟨l.toArray⟩ : ByteArray).size = l.length := by simp [ByteArray.size]
    rw [e] at w0
    exact w0
  have HR := fun (w : World) (h : Env w) => read_any l hl w h
  cases hr : readR l with
  | error e =>
    rw [hr] at HR
    refine no_walk l e ?_ w hT HR
    rcases readR_err hr with rfl | rfl <;> rfl
  | ok x =>
    obtain ⟨op, a, b, imm⟩ := x
    rw [hr] at HR
    obtain ⟨h1, h2, h3, h4, h5, h6⟩ := read_once l op a b imm hr
    have e : showS op a b imm = l.toArray := by rw [← h1]
    exact yes_walk l op a b imm w hT HR (fun w h => by
      have h' := show_any op a b imm w h3 h4.1 h5.1 h6 h
      rw [e] at h'
      exact h')

set_option maxRecDepth 100000 in
theorem lifted (os : Os) (started : os.Started) (H : Type) (enc : TypeId × Value → H) :
    ReturnsInHanded {} Tryd.checked os 6 .any (fun w args => (Rows.textOnceSpec.pre enc Tryd.prog Tryd.f6 Rows.textOnceRow.domain false w args ∧ laidMetH Tryd.prog laidL w) ∧ sizedMet enc Tryd.prog Tryd.f6 (OpenSpec.ofChange Rows.textOnceSpec) false w args)
      (Rows.textOnceSpec.post enc Tryd.prog Tryd.f6 false true false false) := by
  refine returnsInHanded_of_change_and (C := Tryd.checked) (X := fun w _ => laidMetH Tryd.prog laidL w) (fun _ _ _ hh h => h.of_heap hh) own started (by kernel_rfl) Tryd.func6
    (ChangeSpec.witness_shaped (enc := enc) (C := Tryd.checked) (os := os) (X := fun w _ => laidMetH Tryd.prog laidL w) false (World.laidAll Tryd.prog os laidL) #[.string ⟨#[]⟩] 8 (World.laidAll_os _ _ _)
      (World.shaped_of_ZipB (by kernel_rfl) (by kernel_rfl)) (by kernel_rfl) (by kernel_rfl) (by kernel_rfl)
      (by rw [MakeChecks.laidMetH_plain _ _ _ (by kernel_rfl)]; exact laidMet_laidAll _ (by kernel_rfl) (by kernel_rfl))) ?_
  intro W base args ds gs before hval0 hW hcnd hsz0 hL _
  have hval : ∀ (j : Nat) t v, Tryd.f6.params[j]? = some t → args[j]? = some v → Value.okWide Tryd.prog W .any base t v := hval0
  have hW' := hW
  obtain ⟨p, q, hA0, hV, rfl, hfz, hnd⟩ := hW
  have hA : DataW.TrodAll enc Tryd.prog W 0 (fun _ => true) true Tryd.f6.params.toList args.toList ds p := hA0
  have hsz : (DataW.weightsEach Tryd.prog (Tryd.f6.params.toList ++ Rows.textOnceSpec.plain.varTypes Tryd.prog) (ds ++ gs)).all (· ≤ reachBytes) = true := hsz0
  rw [Tryd.params6] at hA hval hsz
  obtain ⟨v0, vs0, d0, ds0, p0, q0, hargs, rfl, rfl, h0, r0⟩ := trodAll_cons hA
  obtain ⟨rfl, rfl, rfl⟩ := trodAll_nil r0
  obtain rfl : args = #[v0] := by cases args; simp_all
  obtain ⟨rfl, rfl⟩ := trodVars_none hV
  have k0 := h0
  have lt0 : ∀ x ∈ p0, x.block < W.heap.size := by obtain ⟨m, hm⟩ := k0; exact DataW.trod_lt m _ _ _ hm
  obtain ⟨s0, rfl, rfl, rfl, _⟩ := Go.ChangeMaps.open_string Tryd.underlying9 (hval 0 9 v0 rfl rfl) h0
  have b0 : (s0.size : Int) ≤ 140737488355328 := by
    have h1 := sized_string hsz (j := 0) (t := 9) rfl rfl
    have h2 := reachBytes_lt
    have e1 : s0.size = s0.data.size := rfl
    have e2 : s0.data.toList.length = s0.data.size := Array.length_toList
    have e3 : (2 : Nat) ^ 47 = 140737488355328 := by decide
    omega
  clear hA0 hval0
  refine (walk s0 b0 W  (env_of_laid hL)).mono fun e W' ⟨he, bel0⟩ => ?_
  have bel : Below W.heap.size W W' := bel0
  subst he
  exact ⟨_, rfl, _, _, _, [], _, [], hW', trodAll_mk1 (shut_bool Tryd.underlying4 _), (trodAll_cons_mk (Below.trod laidOut (by kernel_rfl) (of_decide_eq_true (by kernel_rfl)) k0 bel lt0) trodAll_mk0), rfl, bel.frame _, fun h => by cases h⟩

theorem over : Rows.textOnceRow.holds Tryd.pinned (OpenSpec.ofChange Rows.textOnceSpec) :=
  OpenClaim.holds_of_wide 6 Tryd.f6 rfl rfl rfl rfl rfl rfl rfl ⟨rfl, rfl, rfl, rfl, rfl⟩ rfl rfl rfl rfl rfl (by kernel_rfl) Tryd.func6 (by kernel_rfl)
    (of_decide_eq_true (by kernel_rfl)) (by unfold Func.isWrapper; first | (rw [if_pos (by decide +kernel)]; kernel_rfl) | (rw [if_neg (by decide +kernel)]; exact ⟨rfl, rfl⟩))
    (fun os started H enc _ => lifted os started H enc)
end Go.Proofs.YthmbajehcffnbaaDoor.textOnce
namespace Go.Proofs.YthmbajehcffnbaaDoor

theorem textOnce_holds : Rows.TextOnceCardSaid :=
  Claim7.holds_tied_plain_at .later [] [.data, .data, .data, .data, .data] true (true, "98ec2b7ed789c4dc6c8244db15dcc52a61b26bc9e26427ec0bd0a5a7db1bd8c7") false textOnce.over (fun _ h => by cases h) (by kernel_rfl) (fun _ h => by cases h) textOnce_row_tie rfl ⟨rfl, rfl⟩ (by kernel_rfl) rfl
    (fun f fn hf hfn => by
      obtain rfl : f = 6 := Option.some.inj ((show Tryd.prog.funcNamed "mummer/mummerlaw04.TextOnce" = some 6 by kernel_rfl).symm.trans hf) |>.symm
      obtain rfl : fn = Tryd.f6 := (Option.some.inj (Tryd.func6.symm.trans hfn)).symm
      exact ⟨by kernel_rfl, fun j t ht => by
        rw [Tryd.params6] at ht
        have hm : t ∈ [9] := by simpa using Array.mem_of_getElem? ht
        have hall : ([9].all fun u => !Tryd.prog.wantsStandIn u) = true := by kernel_rfl
        exact (show Tryd.prog.wantsStandIn t = false by simpa using List.all_eq_true.1 hall t hm)⟩)
    (by kernel_rfl)
#print axioms textOnce_holds
end Go.Proofs.YthmbajehcffnbaaDoor
