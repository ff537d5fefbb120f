/- For every number of frames, address and word, the law RamWords returns true: a word is its four bytes, wherever it lies; outside, or where four does not divide the address, nothing is laid. -/
import Derived.Test.YtiegihaagolmdaaRows
import Derived.Test.YtiegihaagolmdaaMtwo
import Derived.WalkKit
import Derived.ProofKit
import Derived.OpenShut
import Derived.ShutString
import Derived.ChangeOld
import Derived.Below
import Derived.Lib.SmallJoins
namespace Go.Proofs.Ytiegihaagolmdaa.ramWords
open Go.ChangeShapes Go.WideShapes Go.ChangeAt Go.RowKit
set_option linter.unusedVariables false

theorem own : ownKnob Try.prog.godebug = none := by kernel_rfl
theorem laidOut : laidOutB Try.prog = true := by kernel_rfl

set_option maxHeartbeats 4000000 in
set_option maxRecDepth 100000 in
theorem walk (a0 : Int) (w0 : (Lit.int .i64 a0).wf = true) (a1 : Int) (w1 : (Lit.int .u32 a1).wf = true) (a2 : Int) (w2 : (Lit.int .u32 a2).wf = true) (w : World)  :
    Calls Try.prog 6 #[.int .i64 a0, .int .u32 a1, .int .u32 a2] w fun e w' => e = .returned (.bool true) ∧ Kep w w' := by
  have b0 := i64_of w0
  have b1 := u32_of w1
  have b2 := u32_of w2
  clear w0 w1 w2
  obtain ⟨a, rfl⟩ : ∃ a : Nat, a1 = a := ⟨a1.toNat, by omega⟩
  have hM : Hid (Calls Try.prog 9 #[.int .i64 a0] w _) := made_any w a0 b0.1 b0.2
  have hA : Hid (∀ w, Calls Try.prog 20 #[.int .u32 a] w fun e w' => ∃ b : Nat, e = .returned (.int .u32 b) ∧ (b : Int) < 4294967296 ∧ w' = w) := fun w => near_any w a b1.2
  clear b0 b1
  go_enter Try.func6, Try.ntmps6
  go_wp2_with fail
  refine hM.out.mono ?_
  rintro e w1 ⟨n, p, R, Rb, rfl, hn1, hn2, T, K1, gR, gRb⟩
  have T1 : Hid (Two w1 (.pointer (some ⟨p, 0, none⟩)) R n (some ⟨Rb, 0, none⟩) Rb (List.replicate (64 * n) 0)) := T
  have K1' : Hid (Kep w w1) := K1
  clear T K1 hM
  go_wp2_with fail
  refine (hA.out _).mono ?_
  rintro e w2 ⟨b, rfl, hb, hw⟩
  have T2 : Two w2 (.pointer (some ⟨p, 0, none⟩)) R n (some ⟨Rb, 0, none⟩) Rb (List.replicate (64 * n) 0) := by rw [hw]; exact T1.out.kep ((Kep.refl _).alloc _)
  have K2 : Hid (Kep w w2) := by rw [hw]; exact K1'.out.alloc _
  clear hw T1 K1' hA
  have hl : ((List.range n).length : Int) ≤ 512 := by simp; omega
  have hsw := setWord_put w2 _ _ _ _ T2.ram hl T2.row (fits_range T2.len) b hb a2 b2.1 b2.2
  have hlen : (List.replicate (64 * n) (0 : Int)).length = 64 * n := by simp
  rw [List.length_range] at hsw
  have hn1' : (1 : Int) ≤ n := by omega
  have hn2' : (n : Int) ≤ 5 := by omega
  by_cases hok : b % 4 = 0 ∧ b < 64 * n
  · rw [if_pos hok, decide_eq_true hok, pos_range hok.2] at hsw
    have hsw' : Hid (Calls Try.prog 13 #[.pointer (some ⟨p, 0, none⟩), .int .u32 b, .int .u32 a2] w2 fun e w' => e = .returned (.bool true) ∧ Put [R] w2 w' ∧ RowB w' R (setW (List.replicate (64 * n) 0) b a2)) := hsw
    have hfs : Hid (Fits (setW (List.replicate (64 * n) 0) b a2) (List.range n)) := fits_range (by rw [setW_len, hlen])
    have hr2 : Hid (Ram w2 (.pointer (some ⟨p, 0, none⟩)) R (List.range n)) := T2.ram
    have h3 : b + 3 < 64 * n := by omega
    have hby : Hid (Byts (setW (List.replicate (64 * n) 0) b a2)) := (byts_zero _).setW _ _
    have hb4 : ((b : Int) % 4 == 0) = true := by simp; omega
    have h3' : (b : Int) + 3 < 64 * n := by omega
    have hl' : Hid (((List.range n).length : Int) ≤ 512) := hl
    have hok' : Hid (b % 4 = 0 ∧ b < 64 * n) := hok
    clear hsw T2 hlen hl hb hok
    go_wp2_with (go_at_call 13; refine hsw'.out.mono ?_; rintro e w3 ⟨rfl, P3, R3⟩)
    have hB : Hid (∀ (t : Int) (j : Nat), j < 4 → t = (b : Int) + j → Calls Try.prog 17 #[.pointer (some ⟨p, 0, none⟩), .int .u32 t] w3 fun e w' => e = .returned (.tuple #[.int .u8 (byteJ a2 j), .bool true]) ∧ w' = w3) := by
      intro t j hj ht
      have := byte_any w3 _ _ _ _ (hr2.out.put P3) hl'.out R3 hfs.out (b + j) (by omega)
      rw [if_pos (by simp; omega), pos_range (by omega), setW_at _ _ _ (by simp; omega) j hj, show ((b + j : Nat) : Int) = t by omega] at this
      exact this
    have hW : Hid (Calls Try.prog 21 #[.pointer (some ⟨p, 0, none⟩), .int .u32 b] w3 fun e w' => e = .returned (.tuple #[.int .u32 a2, .bool true]) ∧ w' = w3) := by
      have := word_any w3 _ _ _ _ (hr2.out.put P3) hl'.out R3 hfs.out hby.out b (by omega)
      rw [if_pos (by rw [List.length_range]; exact hok'.out), pos_range hok'.out.2, setW_word _ _ _ (by simp; omega) b2.1 b2.2] at this
      exact this
    have K3 : Hid (Kep w w3) := K2.out.put P3 (by simpa using gR)
    have e0 : Hid (((byteJ a2 3 * 256 + byteJ a2 2) * 256 + byteJ a2 1) * 256 + byteJ a2 0 = a2) := by simp only [Hid, byteJ]; omega
    have y0 : 0 ≤ byteJ a2 0 ∧ byteJ a2 0 < 256 := by simp only [byteJ]; omega
    have y1 : 0 ≤ byteJ a2 1 ∧ byteJ a2 1 < 256 := by simp only [byteJ]; omega
    have y2 : 0 ≤ byteJ a2 2 ∧ byteJ a2 2 < 256 := by simp only [byteJ]; omega
    have y3 : 0 ≤ byteJ a2 3 ∧ byteJ a2 3 < 256 := by simp only [byteJ]; omega
    clear P3 R3 hsw' hr2 hfs hby hl' hok' K2
    go_wp2_with fail
    refine wp_loop_rounds 5 ?_
    rw [rounds_succ]
    go_wp2_with (go_at_call 17; refine (hB.out _ 3 (by decide) (by omega)).mono ?_; rintro e w4 ⟨rfl, rfl⟩)
    rw [rounds_succ]
    go_wp2_with (go_at_call 17; refine (hB.out _ 2 (by decide) (by omega)).mono ?_; rintro e w4 ⟨rfl, rfl⟩)
    rw [rounds_succ]
    go_wp2_with (go_at_call 17; refine (hB.out _ 1 (by decide) (by omega)).mono ?_; rintro e w4 ⟨rfl, rfl⟩)
    rw [rounds_succ]
    go_wp2_with (go_at_call 17; refine (hB.out _ 0 (by decide) (by omega)).mono ?_; rintro e w4 ⟨rfl, rfl⟩)
    rw [rounds_succ]
    have e1 := e0.out
    go_wp2_with (go_at_call 21; refine hW.out.mono ?_; rintro e w4 ⟨rfl, rfl⟩)
    all_goals
      go_ret
      exact ⟨rfl, K3.out⟩
  · rw [if_neg hok, decide_eq_false hok] at hsw
    have hsw' : Hid (Calls Try.prog 13 #[.pointer (some ⟨p, 0, none⟩), .int .u32 b, .int .u32 a2] w2 fun e w' => e = .returned (.bool false) ∧ Put [R] w2 w' ∧ RowB w' R (List.replicate (64 * n) 0)) := hsw
    have T2' : Hid (Two w2 (.pointer (some ⟨p, 0, none⟩)) R n (some ⟨Rb, 0, none⟩) Rb (List.replicate (64 * n) 0)) := T2
    have hl' : Hid (((List.range n).length : Int) ≤ 512) := hl
    have hok' : Hid (¬ (b % 4 = 0 ∧ b < 64 * n)) := hok
    have hb' : Hid ((b : Int) < 4294967296) := hb
    clear hsw T2 hl hok hlen
    go_wp2_with fail
    refine hsw'.out.mono ?_
    rintro e w3 ⟨rfl, P3, R3⟩
    have hr3 := T2'.out.ram.put P3
    have hS : Hid (Calls Try.prog 16 #[.pointer (some ⟨p, 0, none⟩)] w3 fun e w' => e = .returned (.int .u32 (64 * n)) ∧ w' = w3) := by
      have := size_any w3 _ _ _ hr3 hl'.out
      rw [List.length_range] at this
      exact this
    have hW : Hid (Calls Try.prog 21 #[.pointer (some ⟨p, 0, none⟩), .int .u32 b] w3 fun e w' => e = .returned (.tuple #[.int .u32 0, .bool false]) ∧ w' = w3) := by
      have := word_any w3 _ _ _ _ hr3 hl'.out R3 (fits_range T2'.out.len) T2'.out.byts b hb'.out
      rw [if_neg (by rw [List.length_range]; exact hok'.out)] at this
      exact this
    have K3 : Hid (Kep w w3) := K2.out.put P3 (by simpa using gR)
    clear P3 R3 hsw' hr3 T2' K2
    by_cases h4 : b % 4 = 0
    · have h5 : ((b : Int) % 4 != 0) = false := by simp; omega
      have h6 : 64 * (n : Int) ≤ b := by have := hok'.out; omega
      have h7 : decide (64 * (n : Int) ≤ b) = true := decide_eq_true h6
      go_wp2_with (first | (go_at_call 21; refine hW.out.mono ?_; rintro e w4 ⟨rfl, rfl⟩) | (go_at_call 16; refine hS.out.mono ?_; rintro e w4 ⟨rfl, rfl⟩))
      go_ret
      exact ⟨rfl, K3.out⟩
    · have h5 : ((b : Int) % 4 != 0) = true := by simp; omega
      go_wp2_with (first | (go_at_call 21; refine hW.out.mono ?_; rintro e w4 ⟨rfl, rfl⟩) | (go_at_call 16; refine hS.out.mono ?_; rintro e w4 ⟨rfl, rfl⟩))
      go_ret
      exact ⟨rfl, K3.out⟩

set_option maxRecDepth 100000 in
theorem lifted (os : Os) (started : os.Started) (H : Type) (enc : TypeId × Value → H) :
    ReturnsInHanded {} Try.checked os 6 .any (Rows.ramWordsSpec.pre6 enc Try.prog Try.f6 Rows.ramWordsRow.domain false) (Rows.ramWordsSpec.post enc Try.prog Try.f6 false true false false) := by
  refine returnsInHanded_of_change (C := Try.checked) own started (by kernel_rfl) Try.func6
    (ChangeSpec.witness6 (enc := enc) (C := Try.checked) false ⟨#[], #[.int .i64 0, .int .u32 0, .int .u32 0], []⟩ 8 (by kernel_rfl) (by kernel_rfl) (by kernel_rfl) (by kernel_rfl)) ?_
  intro W base args ds gs before hval0 hW hcnd _
  have hval : ∀ (j : Nat) t v, Try.f6.params[j]? = some t → args[j]? = some v → Value.okWide Try.prog W .any base t v := hval0
  have hW' := hW
  obtain ⟨p, q, hA0, hV, rfl, hfz, hnd⟩ := hW
  have hA : DataW.TrodAll enc Try.prog W 0 (fun _ => true) true Try.f6.params.toList args.toList ds p := hA0
  rw [Try.params6] at hA hval
  obtain ⟨v0, vs0, d0, ds0, p0, q0, hargs, rfl, rfl, h0, r0⟩ := trodAll_cons hA
  obtain ⟨v1, vs1, d1, ds1, p1, q1, rfl, rfl, rfl, h1, r1⟩ := trodAll_cons r0
  obtain ⟨v2, vs2, d2, ds2, p2, q2, rfl, rfl, rfl, h2, r2⟩ := trodAll_cons r1
  obtain ⟨rfl, rfl, rfl⟩ := trodAll_nil r2
  obtain rfl : args = #[v0, v1, v2] := by cases args; simp_all
  obtain ⟨rfl, rfl⟩ := trodVars_none hV
  have k0 := h0
  have lt0 : ∀ x ∈ p0, x.block < W.heap.size := by obtain ⟨m, hm⟩ := k0; exact DataW.trod_lt m _ _ _ hm
  obtain ⟨a0, rfl, rfl, rfl, w0⟩ := open_int Try.underlying3 (hval 0 3 v0 rfl rfl) h0
  have k1 := h1
  have lt1 : ∀ x ∈ p1, x.block < W.heap.size := by obtain ⟨m, hm⟩ := k1; exact DataW.trod_lt m _ _ _ hm
  obtain ⟨a1, rfl, rfl, rfl, w1⟩ := open_int Try.underlying29 (hval 1 29 v1 rfl rfl) h1
  have k2 := h2
  have lt2 : ∀ x ∈ p2, x.block < W.heap.size := by obtain ⟨m, hm⟩ := k2; exact DataW.trod_lt m _ _ _ hm
  obtain ⟨a2, rfl, rfl, rfl, w2⟩ := open_int Try.underlying29 (hval 2 29 v2 rfl rfl) h2
  clear hA0 hval0
  refine (walk a0 w0 a1 w1 a2 w2 W ).mono fun e W' ⟨he, bel0⟩ => ?_
  have bel : Below W.heap.size W W' := bel0
  subst he
  exact ⟨_, rfl, _, _, _, [], _, [], hW', trodAll_mk1 (shut_bool Try.underlying4 _), (trodAll_cons_mk (Below.trod laidOut (by kernel_rfl) (of_decide_eq_true (by kernel_rfl)) k0 bel lt0) (trodAll_cons_mk (Below.trod laidOut (by kernel_rfl) (of_decide_eq_true (by kernel_rfl)) k1 bel lt1) (trodAll_cons_mk (Below.trod laidOut (by kernel_rfl) (of_decide_eq_true (by kernel_rfl)) k2 bel lt2) trodAll_mk0))), rfl, bel.frame _, fun h => by cases h⟩

theorem over : Rows.ramWordsRow.holds Try.pinned (OpenSpec.ofChange Rows.ramWordsSpec) :=
  OpenClaim.holds_of_wide 6 Try.f6 rfl rfl rfl rfl rfl rfl rfl ⟨rfl, rfl, rfl, rfl, rfl⟩ rfl rfl rfl rfl rfl (by kernel_rfl) Try.func6 (by kernel_rfl)
    (of_decide_eq_true (by kernel_rfl)) (by unfold Func.isWrapper; first | (rw [if_pos (by decide +kernel)]; kernel_rfl) | (rw [if_neg (by decide +kernel)]; exact ⟨rfl, rfl⟩))
    (fun os started H enc _ => lifted os started H enc)
end Go.Proofs.Ytiegihaagolmdaa.ramWords
namespace Go.Proofs.Ytiegihaagolmdaa

theorem ramWords_holds : Rows.RamWordsSaid := ramWords.over
#print axioms ramWords_holds
end Go.Proofs.Ytiegihaagolmdaa
