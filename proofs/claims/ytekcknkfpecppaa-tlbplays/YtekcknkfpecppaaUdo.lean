/- A TLB of 1 to 9 slots is made; a call but Look is done. -/
import Derived.Test.YtekcknkfpecppaaUput
namespace Go.Proofs.Ytekcknkfpecppaa
open Go.RowKit
set_option linter.unusedVariables false

theorem PagesOk.none (n : Nat) : PagesOk (List.replicate n none) := fun p b f h => by
  have := (List.mem_replicate.1 h).2
  cases this
theorem PagesOk.set {S : List Sl} (h : PagesOk S) (k : Nat) (s : Sl) (hs : ∀ p b f, s = some (p, b, f) → (Lit.int .u32 p).wf = true) : PagesOk (S.set k s) := fun p b f hm => by
  rcases List.mem_or_eq_of_mem_set hm with h1 | h1
  · exact h p b f h1
  · exact hs p b f h1.symm
theorem PagesOk.put {S : List Sl} (h : PagesOk S) (page : Nat) (hp : (page : Int) < 4294967296) (b f : Int) : PagesOk (putS S page b f) := h.set _ _ fun p b f e => by
  simp at e
  rw [← e.1]; exact wf_page hp
theorem PagesOk.drop {S : List Sl} (h : PagesOk S) (page : Nat) : PagesOk (dropS S page) := by
  unfold dropS
  split
  · exact h.set _ _ fun p b f e => by cases e
  · exact h
/-- What a call leaves in the slots. -/
def stepS (S : List Sl) (kd : Int) (page : Nat) (b f : Int) : List Sl :=
  if kd = 0 then putS S page b f else if kd = 1 then dropS S page else if kd = 2 then List.replicate S.length none else S
theorem PagesOk.step {S : List Sl} (h : PagesOk S) (kd : Int) (page : Nat) (hp : (page : Int) < 4294967296) (b f : Int) : PagesOk (stepS S kd page b f) := by
  unfold stepS
  split
  · exact h.put page hp b f
  · split
    · exact h.drop page
    · split
      · exact .none _
      · exact h
theorem putS_len (S : List Sl) (page : Nat) (b f : Int) : (putS S page b f).length = S.length := by simp [putS]
theorem dropS_len (S : List Sl) (page : Nat) : (dropS S page).length = S.length := by unfold dropS; split <;> simp
theorem stepS_len (S : List Sl) (kd : Int) (page : Nat) (b f : Int) : (stepS S kd page b f).length = S.length := by
  unfold stepS
  split
  · exact putS_len ..
  · split
    · exact dropS_len ..
    · split <;> simp

theorem made_any (w : World) (a : Int) (h0 : -9223372036854775808 ≤ a) (h1 : a ≤ 9223372036854775807) :
    Calls Try.prog 8 #[.int .i64 a] w fun e w' => ∃ n : Nat, 1 ≤ n ∧ n ≤ 9 ∧ e = .returned (.tuple #[.pointer (some ⟨w.heap.size + 1, 0, none⟩), .int .i64 n]) ∧ Kep w w' ∧ Tlb w' (w.heap.size + 1) w.heap.size (List.replicate n none) 0 0 := by
  obtain ⟨n, hn, hn1, hn9⟩ : ∃ n : Nat, wrap64 (1 + wrap64 ((IntKind.u64.wrap a).tmod 9)) = n ∧ (1 : Int) ≤ n ∧ (n : Int) ≤ 9 := by
    refine ⟨(1 + a % 18446744073709551616 % 9).toNat, ?_, by omega, by omega⟩
    have e1 : IntKind.u64.wrap a = a % 18446744073709551616 := by rw [IntKind.wrap_u64]
    rw [e1, Int.tmod_eq_emod_of_nonneg (by omega)]
    unfold wrap64
    omega
  have HN : Hid (Calls Try.prog 13 #[.int .i64 n] w fun e w' => e = .returned (.tuple #[.pointer (some ⟨w.heap.size + 1, 0, none⟩), .int .i64 0]) ∧ Kep w w' ∧ Tlb w' (w.heap.size + 1) w.heap.size (List.replicate n none) 0 0) := new_any w n (by omega) (by omega)
  go_enter Try.func8, Try.ntmps8
  go_wp2_with fail
  refine HN.out.mono ?_
  rintro e w1 ⟨rfl, k1, t1⟩
  have Q : Hid (Kep w w1 ∧ Tlb w1 (w.heap.size + 1) w.heap.size (List.replicate n none) 0 0) := ⟨k1, t1⟩
  clear k1 t1 HN
  go_wp2_with fail
  go_ret2
  exact ⟨n, by omega, by omega, rfl, Q.out⟩

theorem made_own (w : World) (a : Int) (h0 : -9223372036854775808 ≤ a) (h1 : a ≤ 9223372036854775807) :
    Calls Try.prog 8 #[.int .i64 a] w fun e w' => ∃ n p R : Nat, e = .returned (.tuple #[.pointer (some ⟨p, 0, none⟩), .int .i64 n]) ∧ 1 ≤ n ∧ n ≤ 9 ∧ Kep w w' ∧ Tlb w' p R (List.replicate n none) 0 0 ∧ w.heap.size ≤ p ∧ w.heap.size ≤ R := by
  refine (made_any w a h0 h1).mono ?_
  rintro e w' ⟨n, g1, g2, rfl, k, t⟩
  exact ⟨n, _, _, rfl, g1, g2, k, t, by omega, by omega⟩

theorem do_any {w : World} {p R : Nat} {S : List Sl} {h m : Int} (T : Tlb w p R S h m) (ok : PagesOk S) (kd : Int) (page : Nat) (hp : (page : Int) < 4294967296) (b f : Int) :
    Calls Try.prog 9 #[.pointer (some ⟨p, 0, none⟩), .agg #[.int .i64 kd, .int .u32 page, .int .u32 b, .int .i64 f]] w fun e w' => e = .returned (.tuple #[]) ∧ Put [R] w w' ∧ Tlb w' p R (stepS S kd page b f) h m := by
  have T0 : Hid (Tlb (w.alloc (.cells #[.int .i64 kd, .int .u32 page, .int .u32 b, .int .i64 f] 29)) p R S h m) := T.kep ((Kep.refl _).alloc _)
  have P0 : Hid (Put [R] w (w.alloc (.cells #[.int .i64 kd, .int .u32 page, .int .u32 b, .int .i64 f] 29))) := (Put.refl _).alloc _
  clear T
  by_cases h0 : kd = 0
  · subst h0
    go_enter Try.func9, Try.ntmps9
    go_wp2_with (go_at_call 14; refine (put_any T0.out page hp b f).mono ?_; rintro e w1 ⟨rfl, p1, t1⟩; have Q : Hid (Put [R] w w1 ∧ Tlb w1 p R (putS S page b f) h m) := ⟨P0.out.trans p1, t1⟩; clear p1 t1)
    go_end0
    exact ⟨rfl, Q.out.1, by simpa [stepS] using Q.out.2⟩
  · have g0 : (kd == 0) = false := by simpa using h0
    by_cases h1 : kd = 1
    · subst h1
      go_enter Try.func9, Try.ntmps9
      go_wp2_with (go_at_call 15; refine (drop_any T0.out ok page hp).mono ?_; rintro e w1 ⟨rfl, p1, t1⟩; have Q : Hid (Put [R] w w1 ∧ Tlb w1 p R (dropS S page) h m) := ⟨P0.out.trans p1, t1⟩; clear p1 t1)
      go_end0
      exact ⟨rfl, Q.out.1, by simpa [stepS] using Q.out.2⟩
    · have g1 : (kd == 1) = false := by simpa using h1
      by_cases h2 : kd = 2
      · subst h2
        go_enter Try.func9, Try.ntmps9
        go_wp2_with (go_at_call 16; refine (flush_any T0.out).mono ?_; rintro e w1 ⟨rfl, p1, t1⟩; have Q : Hid (Put [R] w w1 ∧ Tlb w1 p R (List.replicate S.length none) h m) := ⟨P0.out.trans p1, t1⟩; clear p1 t1)
        go_end0
        exact ⟨rfl, Q.out.1, by simpa [stepS] using Q.out.2⟩
      · have g2 : (kd == 2) = false := by simpa using h2
        have hs : Hid (stepS S kd page b f = S) := by unfold Hid stepS; rw [if_neg h0, if_neg h1, if_neg h2]
        clear h0 h1 h2
        go_enter Try.func9, Try.ntmps9
        go_wp2_with fail
        go_end0
        exact ⟨rfl, P0.out, by rw [hs.out]; exact T0.out⟩

theorem NoT.kep {w w' : World} {v : Value} (h : NoT w v) (k : Kep w w') : NoT w' v := by
  rcases h with h | ⟨p, e, hc⟩
  · exact .inl h
  · exact .inr ⟨p, e, (k.cell (World.block_lt_of_cell? w _ hc)).trans hc⟩
theorem do_nox (w : World) (v : Value) (h : NoT w v) (kd page b f : Int) :
    Calls Try.prog 9 #[v, .agg #[.int .i64 kd, .int .u32 page, .int .u32 b, .int .i64 f]] w fun e w' => e = .returned (.tuple #[]) ∧ w' = w.alloc (.cells #[.int .i64 kd, .int .u32 page, .int .u32 b, .int .i64 f] 29) := by
  have N : Hid (NoT (w.alloc (.cells #[.int .i64 kd, .int .u32 page, .int .u32 b, .int .i64 f] 29)) v) := h.kep ((Kep.refl _).alloc _)
  clear h
  by_cases h0 : kd = 0
  · subst h0
    go_enter Try.func9, Try.ntmps9
    go_wp2_with (go_at_call 14; refine (put_nox _ v N.out page b f).mono ?_; rintro e w1 ⟨rfl, rfl⟩)
    go_end0
    exact ⟨rfl, rfl⟩
  · have g0 : (kd == 0) = false := by simpa using h0
    by_cases h1 : kd = 1
    · subst h1
      go_enter Try.func9, Try.ntmps9
      go_wp2_with (go_at_call 15; refine (drop_nox _ v N.out page).mono ?_; rintro e w1 ⟨rfl, rfl⟩)
      go_end0
      exact ⟨rfl, rfl⟩
    · have g1 : (kd == 1) = false := by simpa using h1
      by_cases h2 : kd = 2
      · subst h2
        go_enter Try.func9, Try.ntmps9
        go_wp2_with (go_at_call 16; refine (flush_nox _ v N.out).mono ?_; rintro e w1 ⟨rfl, rfl⟩)
        go_end0
        exact ⟨rfl, rfl⟩
      · have g2 : (kd == 2) = false := by simpa using h2
        clear h0 h1 h2
        go_enter Try.func9, Try.ntmps9
        go_wp2_with fail
        go_end0
        exact ⟨rfl, rfl⟩
end Go.Proofs.Ytekcknkfpecppaa
