/- For every number of frames, first frame and key, the law StrewBack returns true: each guest's frame is found again from the host's. -/
import Derived.Test.YtmibiboboekniaaRows
import Derived.Test.YtmibiboboekniaaQget
import Derived.Test.YtmibiboboekniaaQworks
import Derived.WalkKit
import Derived.ProofKit
import Derived.OpenShut
import Derived.ShutString
import Derived.ChangeOld
import Derived.Below
import Derived.Lib.SmallJoins
namespace Go.Proofs.Ytmibiboboekniaa.strewBack
open Go.ChangeShapes Go.WideShapes Go.ChangeAt Go.RowKit
set_option linter.unusedVariables false
set_option linter.unusedSimpArgs false

theorem own : ownKnob Try.prog.godebug = none := by kernel_rfl
theorem laidOut : laidOutB Try.prog = true := by kernel_rfl

theorem u8_of {a : Int} (h : (Lit.int .u8 a).wf = true) : 0 ≤ a ∧ a < 256 := by
  simp [Lit.wf, IntKind.min, IntKind.max, IntKind.signed, IntKind.bits] at h; omega
theorem hosts_in {n : Nat} (hn : 1 ≤ n) (key f : Int) (k : Nat) (hk : k < n) : f ≤ ((ordL n key).map (· + f)).getD k 0 ∧ ((ordL n key).map (· + f)).getD k 0 < f + n := by
  have hl : k < (ordL n key).length := by rw [ordL_len]; exact hk
  have := (ordL_in hn key).at hl
  have e : ((ordL n key).map (· + f)).getD k 0 = (ordL n key).getD k 0 + f := by simp [List.getD, hl]
  rw [e]; omega
theorem hosts_nodup {n : Nat} (hn : 1 ≤ n) (key f : Int) : ((ordL n key).map (· + f)).Nodup := by
  refine List.Pairwise.map _ ?_ (ordL_nodup hn key)
  intro a b h e
  apply h; simpa using e
theorem hosts_not {n : Nat} (hn : 1 ≤ n) (key f : Int) : f + n ∉ (ordL n key).map (· + f) := by
  intro h
  obtain ⟨a, ha, e⟩ := List.mem_map.1 h
  have := ordL_in hn key a ha
  have e2 : a + f = f + n := e
  omega
set_option maxHeartbeats 4000000 in
set_option maxRecDepth 100000 in
theorem walk (a0 : Int) (w0 : (Lit.int .u8 a0).wf = true) (a1 : Int) (w1 : (Lit.int .u8 a1).wf = true) (a2 : Int) (w2 : (Lit.int .u32 a2).wf = true) (w : World)  :
    Calls Try.prog 6 #[.int .u8 a0, .int .u8 a1, .int .u32 a2] w fun e w' => e = .returned (.bool true) ∧ Kep w w' := by
  have HW : Hid (∀ w, Calls Try.prog 11 #[] w fun e w' => e = .returned (.bool true) ∧ Kep w w') := works13_any
  have ha0 := u8_of w0
  have hf := u8_of w1
  have hk := u32_of w2
  clear w0 w1 w2
  obtain ⟨n, hn⟩ : ∃ n : Nat, 1 + a0 % 64 = n := ⟨(1 + a0 % 64).toNat, by omega⟩
  have h1 : (1 : Int) ≤ n := by omega
  have h2 : (n : Int) ≤ 64 := by omega
  have HN : Hid (Calls Try.prog 12 #[.int .i64 n, .int .i64 a1, .int .u32 a2] w fun e w' => ∃ p R M : Nat, e = .returned (.tuple #[.pointer (some ⟨p, 0, none⟩), .int .i64 0]) ∧ MapAt w' p R M ((ordL n a2).map (· + a1)) n (gstF ((ordL n a2).map (· + a1)) n) ∧ Kep w w') := snew_any n h1 h2 a1 hf.1 (by omega) a2 hk w
  have hl : ((ordL n a2).map (· + a1)).length = n := by rw [List.length_map, ordL_len]
  have hA : Hid (∀ k : Nat, k < n → (a1 ≤ ((ordL n a2).map (· + a1)).getD k 0 ∧ ((ordL n a2).map (· + a1)).getD k 0 < a1 + n) ∧ gstF ((ordL n a2).map (· + a1)) n (((ordL n a2).map (· + a1)).getD k 0) = some (k : Int)) := fun k hk' => ⟨hosts_in (by omega) a2 a1 k hk', gstF_some (hosts_nodup (by omega) a2 a1) n (by omega) hk'⟩
  have hB : Hid (gstF ((ordL n a2).map (· + a1)) n (a1 + n) = none) := gstF_none n (by omega) (hosts_not (by omega) a2 a1)
  generalize (ordL n a2).map (· + a1) = l at HN hl hA hB
  generalize hg : gstF l n = g at HN hA hB
  clear hg
  go_enter Try.func6, Try.ntmps6
  go_wp2_with fail
  refine HN.out.mono ?_
  rintro e w1 ⟨p, R, M, rfl, A, K⟩
  have A' : Hid (MapAt w1 p R M l n g) := A
  have K' : Hid (Kep w w1) := K
  clear A K HN
  go_wp2_with fail
  go_loopw [11] (fun i wr => ∃ k : Nat, (k : Int) ≤ n ∧ i = .int .i64 k ∧ w1 = wr) (fun i _ => n - (intOf i).toNat)
  case atStart => exact ⟨0, by omega, rfl, rfl⟩
  case round =>
    obtain ⟨k, hkn, rfl, rfl⟩ := hrel
    by_cases hlt : k < n
    · have hlt' : (k : Int) < n := by omega
      have H1 : Hid (Calls Try.prog 14 #[.pointer (some ⟨p, 0, none⟩), .int .i64 k] w1 fun e w' => e = .returned (.tuple #[.int .i64 (l.getD k 0), .bool true]) ∧ w' = w1) := host_yes A'.out k (by omega) (by omega)
      have hr := hA.out k hlt
      have H2 : Hid (Calls Try.prog 15 #[.pointer (some ⟨p, 0, none⟩), .int .i64 (l.getD k 0)] w1 fun e w' => e = .returned (.tuple #[.int .i64 k, .bool true]) ∧ w' = w1) := by
        have := guest_any A'.out (l.getD k 0) (by unfold I64; omega)
        rw [hr.2] at this
        exact this
      have hr1 := hr.1.1
      have hr2 := hr.1.2
      clear hr
      generalize l.getD k 0 = h at H1 H2 hr1 hr2
      go_wp2_with (first | (go_at_call 14; refine H1.out.mono ?_; rintro e w1 ⟨rfl, rfl⟩) | (go_at_call 15; refine H2.out.mono ?_; rintro e w1 ⟨rfl, rfl⟩))
      go_roundw
      case rel => exact ⟨k + 1, by omega, by go_num, trivial⟩
      case measure => simp [intOf]; omega
    · obtain rfl : k = n := by omega
      have H1 : Hid (Calls Try.prog 14 #[.pointer (some ⟨p, 0, none⟩), .int .i64 k] w1 fun e w' => e = .returned (.tuple #[.int .i64 0, .bool false]) ∧ w' = w1) := host_no A'.out k (.inr (by omega))
      have H2 : Hid (Calls Try.prog 15 #[.pointer (some ⟨p, 0, none⟩), .int .i64 (a1 + k)] w1 fun e w' => e = .returned (.tuple #[.int .i64 0, .bool false]) ∧ w' = w1) := by
        have := guest_any A'.out (a1 + k) (by unfold I64; omega)
        rw [hB.out] at this
        exact this
      go_wp2_with (first | (go_at_call 14; refine H1.out.mono ?_; rintro e w1 ⟨rfl, rfl⟩) | (go_at_call 15; refine H2.out.mono ?_; rintro e w1 ⟨rfl, rfl⟩) | (go_at_call 11; refine (HW.out _).mono ?_; rintro e w4 ⟨rfl, KW⟩))
      go_ret
      exact ⟨rfl, kep_trans K'.out KW⟩

set_option maxRecDepth 100000 in
theorem lifted (os : Os) (started : os.Started) (H : Type) (enc : TypeId × Value → H) :
    ReturnsInHanded {} Try.checked os 6 .any (Rows.strewBackSpec.pre6 enc Try.prog Try.f6 Rows.strewBackRow.domain false) (Rows.strewBackSpec.post enc Try.prog Try.f6 false true false false) := by
  refine returnsInHanded_of_change (C := Try.checked) own started (by kernel_rfl) Try.func6
    (ChangeSpec.witness6 (enc := enc) (C := Try.checked) false ⟨#[], #[.int .u8 0, .int .u8 0, .int .u32 0], []⟩ 8 (by kernel_rfl) (by kernel_rfl) (by kernel_rfl) (by kernel_rfl)) ?_
  intro W base args ds gs before hval0 hW hcnd _
  have hval : ∀ (j : Nat) t v, Try.f6.params[j]? = some t → args[j]? = some v → Value.okWide Try.prog W .any base t v := hval0
  have hW' := hW
  obtain ⟨p, q, hA0, hV, rfl, hfz, hnd⟩ := hW
  have hA : DataW.TrodAll enc Try.prog W 0 (fun _ => true) true Try.f6.params.toList args.toList ds p := hA0
  rw [Try.params6] at hA hval
  obtain ⟨v0, vs0, d0, ds0, p0, q0, hargs, rfl, rfl, h0, r0⟩ := trodAll_cons hA
  obtain ⟨v1, vs1, d1, ds1, p1, q1, rfl, rfl, rfl, h1, r1⟩ := trodAll_cons r0
  obtain ⟨v2, vs2, d2, ds2, p2, q2, rfl, rfl, rfl, h2, r2⟩ := trodAll_cons r1
  obtain ⟨rfl, rfl, rfl⟩ := trodAll_nil r2
  obtain rfl : args = #[v0, v1, v2] := by cases args; simp_all
  obtain ⟨rfl, rfl⟩ := trodVars_none hV
  have k0 := h0
  have lt0 : ∀ x ∈ p0, x.block < W.heap.size := by obtain ⟨m, hm⟩ := k0; exact DataW.trod_lt m _ _ _ hm
  obtain ⟨a0, rfl, rfl, rfl, w0⟩ := open_int Try.underlying5 (hval 0 5 v0 rfl rfl) h0
  have k1 := h1
  have lt1 : ∀ x ∈ p1, x.block < W.heap.size := by obtain ⟨m, hm⟩ := k1; exact DataW.trod_lt m _ _ _ hm
  obtain ⟨a1, rfl, rfl, rfl, w1⟩ := open_int Try.underlying5 (hval 1 5 v1 rfl rfl) h1
  have k2 := h2
  have lt2 : ∀ x ∈ p2, x.block < W.heap.size := by obtain ⟨m, hm⟩ := k2; exact DataW.trod_lt m _ _ _ hm
  obtain ⟨a2, rfl, rfl, rfl, w2⟩ := open_int Try.underlying22 (hval 2 22 v2 rfl rfl) h2
  clear hA0 hval0
  refine (walk a0 w0 a1 w1 a2 w2 W ).mono fun e W' ⟨he, bel0⟩ => ?_
  have bel : Below W.heap.size W W' := bel0
  subst he
  exact ⟨_, rfl, _, _, _, [], _, [], hW', trodAll_mk1 (shut_bool Try.underlying4 _), (trodAll_cons_mk (Below.trod laidOut (by kernel_rfl) (of_decide_eq_true (by kernel_rfl)) k0 bel lt0) (trodAll_cons_mk (Below.trod laidOut (by kernel_rfl) (of_decide_eq_true (by kernel_rfl)) k1 bel lt1) (trodAll_cons_mk (Below.trod laidOut (by kernel_rfl) (of_decide_eq_true (by kernel_rfl)) k2 bel lt2) trodAll_mk0))), rfl, bel.frame _, fun h => by cases h⟩

theorem over : Rows.strewBackRow.holds Try.pinned (OpenSpec.ofChange Rows.strewBackSpec) :=
  OpenClaim.holds_of_wide 6 Try.f6 rfl rfl rfl rfl rfl rfl rfl ⟨rfl, rfl, rfl, rfl, rfl⟩ rfl rfl rfl rfl rfl (by kernel_rfl) Try.func6 (by kernel_rfl)
    (of_decide_eq_true (by kernel_rfl)) (by unfold Func.isWrapper; first | (rw [if_pos (by decide +kernel)]; kernel_rfl) | (rw [if_neg (by decide +kernel)]; exact ⟨rfl, rfl⟩))
    (fun os started H enc _ => lifted os started H enc)
end Go.Proofs.Ytmibiboboekniaa.strewBack
namespace Go.Proofs.Ytmibiboboekniaa

theorem strewBack_holds : Rows.StrewBackSaid := strewBack.over
#print axioms strewBack_holds
end Go.Proofs.Ytmibiboboekniaa
