/- What stub.lay and stub.within answer: the bytes of one or of two instructions, one behind the other. -/
import Derived.Test.YtpalbpjmjbcelaaDoorEncb
import Derived.Laws.AppendOwn
import Derived.Handy
namespace Go.Proofs.YtpalbpjmjbcelaaDoor
open Go.RowKit
set_option linter.unusedVariables false
set_option linter.unusedSimpArgs false

theorem stwithin (n m : Int) (w : World) :
    Calls Tryd.prog 54 #[.int .i64 n, .int .i64 m] w fun e w' => e = .returned (.bool (decide (0 ≤ n ∧ n ≤ m))) ∧ w' = w := by
  by_cases h0 : 0 ≤ n
  · by_cases h1 : n ≤ m
    · rw [show decide (0 ≤ n ∧ n ≤ m) = true from by simp [h0, h1]]
      go_enter Tryd.func54, Tryd.ntmps54
      go_wp2
      go_ret
      exact ⟨rfl, rfl⟩
    · rw [show decide (0 ≤ n ∧ n ≤ m) = false from by simp [h0, h1]]
      go_enter Tryd.func54, Tryd.ntmps54
      go_wp2
      go_ret
      exact ⟨rfl, rfl⟩
  · rw [show decide (0 ≤ n ∧ n ≤ m) = false from by simp [h0]]
    go_enter Tryd.func54, Tryd.ntmps54
    go_wp2
    go_ret
    exact ⟨rfl, rfl⟩

/-- An instruction's bytes, of a host's, as Encode answers them. -/
theorem stenc (op imm : Int) (l : List Int) (k : Nat) (h : (op = 112 ∧ 0 ≤ imm ∧ imm ≤ 255 ∧ l = [112, imm] ∧ k = 2) ∨ (op = 113 ∧ 0 ≤ imm ∧ imm ≤ 65535 ∧ l = [113, imm % 256, imm / 256] ∧ k = 3) ∨ (op = 64 ∧ -32768 ≤ imm ∧ imm ≤ 32767 ∧ l = [64, imm % 256, imm / 256 % 256] ∧ k = 3)) (w : World) (hT : Tabs w) :
    Calls Tryd.prog 42 #[.agg (insA op 0 0 imm), .bool true] w fun e w' => ∃ B : Nat, e = .returned (.tuple #[.slice (some ⟨B, 0, none⟩) k k, .int .i64 0]) ∧
      w'.ownsRow w.heap.size 5 1 (.slice (some ⟨B, 0, none⟩) k k) k (bs l) ∧ Kep w w' := by
  rcases h with ⟨rfl, h0, h1, rfl, rfl⟩ | ⟨rfl, h0, h1, rfl, rfl⟩ | ⟨rfl, h0, h1, rfl, rfl⟩
  · have e : encL 4 112 0 0 imm = [112, imm] := by
      show [112, imm / 2 ^ (8 * 0) % 256] = _
      rw [show imm / 2 ^ (8 * 0) % 256 = imm from by omega]
    have := encode_ok 4 (by decide) (by decide) 112 0 0 imm true (by decide) (by simp [mayB, f1, f2, lo, hi]; omega) w (by decide) (by decide) (by omega) (by omega) (by decide) (by decide) (by decide) (by decide) hT
    rw [e] at this
    exact this
  · have e : encL 8 113 0 0 imm = [113, imm % 256, imm / 256] := by
      show [113, imm / 2 ^ (8 * 0) % 256, imm / 2 ^ (8 * 1) % 256] = _
      rw [show imm / 2 ^ (8 * 0) % 256 = imm % 256 from by omega, show imm / 2 ^ (8 * 1) % 256 = imm / 256 from by omega]
    have := encode_ok 8 (by decide) (by decide) 113 0 0 imm true (by decide) (by simp [mayB, f1, f2, lo, hi]; omega) w (by decide) (by decide) (by omega) (by omega) (by decide) (by decide) (by decide) (by decide) hT
    rw [e] at this
    exact this
  · have e : encL 7 64 0 0 imm = [64, imm % 256, imm / 256 % 256] := by
      show [64, imm / 2 ^ (8 * 0) % 256, imm / 2 ^ (8 * 1) % 256] = _
      rw [show imm / 2 ^ (8 * 0) % 256 = imm % 256 from by omega, show imm / 2 ^ (8 * 1) % 256 = imm / 256 % 256 from by omega]
    have := encode_ok 7 (by decide) (by decide) 64 0 0 imm true (by decide) (by simp [mayB, f1, f2, lo, hi]; omega) w (by decide) (by decide) (by omega) (by omega) (by decide) (by decide) (by decide) (by decide) hT
    rw [e] at this
    exact this

theorem st_own {w : World} {base n : Nat} {v : Value} {xs : List Value} (h : w.ownsRow base 5 1 v n xs) (hn : 0 < n) : ∃ C c, v = .slice (some ⟨C, 0, none⟩) n c ∧ base ≤ C := by
  rcases h.2 with ⟨_, h1⟩ | ⟨g, cap, cur, h1, h2, _⟩
  · omega
  · exact ⟨g, cap, h1, h2⟩

/-- One instruction laid: a jump. -/
theorem stlay1 (imm : Int) (h0 : -32768 ≤ imm) (h1 : imm ≤ 32767) (B : Nat) (w : World) (hb : B < w.heap.size) (c0 : w.cell? ⟨B, 0, none⟩ = some (.int .u8 64)) (c1 : w.cell? ⟨B, 1, none⟩ = some (.int .u8 0)) (c2 : w.cell? ⟨B, 2, none⟩ = some (.int .u8 0)) (c3 : w.cell? ⟨B, 3, none⟩ = some (.int .i32 imm)) (hT : Tabs w) :
    Calls Tryd.prog 55 #[.slice (some ⟨B, 0, none⟩) 1 1] w fun e w' => ∃ C c : Nat, e = .returned (.tuple #[.slice (some ⟨C, 0, none⟩) 3 c, .int .i64 0]) ∧
      w'.ownsRow w.heap.size 5 1 (.slice (some ⟨C, 0, none⟩) 3 c) 3 (bs [64, imm % 256, imm / 256 % 256]) ∧ Kep w w' := by
  obtain ⟨i5, hi5, hz0, hz1, hz2⟩ := info_parts info5
  have hT' : Hid (Tabs w) := hT
  have hl1 : Hid (-32768 ≤ imm ∧ imm ≤ 32767) := ⟨h0, h1⟩
  clear hT h0 h1
  go_enter Tryd.func55, Tryd.ntmps55
  go_wp2_with fail
  refine wp_loop_rounds 2 ?_
  rw [rounds_succ]
  go_wp2_with fail
  refine (stenc 64 imm _ 3 (.inr (.inr ⟨rfl, hl1.out.1, hl1.out.2, rfl, rfl⟩)) _ (hT'.grown ((Kep.refl _).alloc _))).mono ?_
  rintro e w1 ⟨C, rfl, hown, g1⟩
  have G1 : Hid (Kep w w1) := kep_trans ((Kep.refl _).alloc _) g1
  have hcl := World.ownsRow.cells hown rfl
  clear g1 hown
  go_wp2_with (at_builtin; (refine wpList_append_own _ rfl _ _ 30 rfl w.heap.size 5 i5 (.int .u8 0) 1 1 Tryd.underlying30 hi5 hz0 hz1 hz2 rfl (by decide) (.slice none 0 0) 0 [] rfl (World.ownsRow_nil _ _ _ _) ⟨C, 0, none⟩ 3 3 (bs [64, imm % 256, imm / 256 % 256]) rfl rfl hcl (by simp [Value.oneCell']) (by unfold maxLen; omega) (by omega) (by have := G1.out.size; omega) ?_); (intro v5 w5 hown5 hgrow5 hnil5; obtain ⟨C5, c5, hv5, hC5⟩ := st_own hown5 (by omega); subst hv5; have hg5 : Hid (Kep w w5) := G1.out.by hgrow5 (by intro j hj; cases hj); have hown6 : Hid (w5.ownsRow w.heap.size 5 1 (.slice (some ⟨C5, 0, none⟩) 3 c5) 3 (bs [64, imm % 256, imm / 256 % 256])) := hown5; clear hgrow5 hown5 hnil5))
  rw [rounds_succ]
  go_wp2_with fail
  go_ret2
  exact ⟨C5, c5, rfl, hown6, hg5⟩

/-- Two instructions laid: a stub. -/
theorem stlay2 (n x : Int) (hn : 0 ≤ n ∧ n ≤ 255) (hx : 0 ≤ x ∧ x ≤ 65535) (B : Nat) (w : World) (hb : B < w.heap.size) (c0 : w.cell? ⟨B, 0, none⟩ = some (.int .u8 112)) (c1 : w.cell? ⟨B, 1, none⟩ = some (.int .u8 0)) (c2 : w.cell? ⟨B, 2, none⟩ = some (.int .u8 0)) (c3 : w.cell? ⟨B, 3, none⟩ = some (.int .i32 n))
    (c4 : w.cell? ⟨B, 4, none⟩ = some (.int .u8 113)) (c5 : w.cell? ⟨B, 5, none⟩ = some (.int .u8 0)) (c6 : w.cell? ⟨B, 6, none⟩ = some (.int .u8 0)) (c7 : w.cell? ⟨B, 7, none⟩ = some (.int .i32 x)) (hT : Tabs w) :
    Calls Tryd.prog 55 #[.slice (some ⟨B, 0, none⟩) 2 2] w fun e w' => ∃ C c : Nat, e = .returned (.tuple #[.slice (some ⟨C, 0, none⟩) 5 c, .int .i64 0]) ∧
      w'.ownsRow w.heap.size 5 1 (.slice (some ⟨C, 0, none⟩) 5 c) 5 (bs [112, n, 113, x % 256, x / 256]) ∧ Kep w w' := by
  obtain ⟨i5, hi5, hz0, hz1, hz2⟩ := info_parts info5
  have hT' : Hid (Tabs w) := hT
  have hn' : Hid (0 ≤ n ∧ n ≤ 255) := hn
  have hx' : Hid (0 ≤ x ∧ x ≤ 65535) := hx
  clear hT hn hx
  go_enter Tryd.func55, Tryd.ntmps55
  go_wp2_with fail
  refine wp_loop_rounds 3 ?_
  rw [rounds_succ]
  go_wp2_with fail
  refine (stenc 112 n _ 2 (.inl ⟨rfl, hn'.out.1, hn'.out.2, rfl, rfl⟩) _ (hT'.grown ((Kep.refl _).alloc _))).mono ?_
  rintro e w1 ⟨C, rfl, hown, g1⟩
  have G1 : Hid (Kep w w1) := kep_trans ((Kep.refl _).alloc _) g1
  have hcl := World.ownsRow.cells hown rfl
  clear g1 hown
  go_wp2_with (at_builtin; (refine wpList_append_own _ rfl _ _ 30 rfl w.heap.size 5 i5 (.int .u8 0) 1 1 Tryd.underlying30 hi5 hz0 hz1 hz2 rfl (by decide) (.slice none 0 0) 0 [] rfl (World.ownsRow_nil _ _ _ _) ⟨C, 0, none⟩ 2 2 (bs [112, n]) rfl rfl hcl (by simp [Value.oneCell']) (by unfold maxLen; omega) (by omega) (by have := G1.out.size; omega) ?_); (intro v5 w5 hown5 hgrow5 hnil5; obtain ⟨C5, k5, hv5, hC5⟩ := st_own hown5 (by omega); subst hv5; have hg5 : Hid (Kep w w5) := G1.out.by hgrow5 (by intro j hj; cases hj); have hown6 : Hid (w5.ownsRow w.heap.size 5 1 (.slice (some ⟨C5, 0, none⟩) 2 k5) 2 (bs [112, n])) := hown5; clear hgrow5 hown5 hnil5 hcl G1))
  have d4 := (hg5.cell (o := 4) hb).trans c4
  have d5 := (hg5.cell (o := 5) hb).trans c5
  have d6 := (hg5.cell (o := 6) hb).trans c6
  have d7 := (hg5.cell (o := 7) hb).trans c7
  clear c0 c1 c2 c3 c4 c5 c6 c7
  rw [rounds_succ]
  go_wp2_with fail
  refine (stenc 113 x _ 3 (.inr (.inl ⟨rfl, hx'.out.1, hx'.out.2, rfl, rfl⟩)) _ (hT'.grown (hg5.alloc _))).mono ?_
  rintro e w6 ⟨D, rfl, hown, g6⟩
  have G6 : Hid (Kep w w6) := kep_trans (hg5.alloc _) g6
  have hcl := World.ownsRow.cells hown rfl
  have hown7 : Hid (w6.ownsRow w.heap.size 5 1 (.slice (some ⟨C5, 0, none⟩) 2 k5) 2 (bs [112, n])) := by
    obtain ⟨h1, h2⟩ := hown6.out
    refine ⟨h1, ?_⟩
    rcases h2 with h2 | ⟨g, cp, cur, e1, e2, e3, e4⟩
    · exact .inl h2
    · exact .inr ⟨g, cp, cur, e1, e2, g6.block (((Kep.refl _).alloc _).block e3), e4⟩
  clear g6 hown hown6 hg5 d4 d5 d6 d7
  go_wp2_with (at_builtin; (refine wpList_append_own _ rfl _ _ 30 rfl w.heap.size 5 i5 (.int .u8 0) 1 1 Tryd.underlying30 hi5 hz0 hz1 hz2 rfl (by decide) (.slice (some ⟨C5, 0, none⟩) 2 k5) 2 (bs [112, n]) rfl hown7.out ⟨D, 0, none⟩ 3 3 (bs [113, x % 256, x / 256]) rfl rfl hcl (by simp [Value.oneCell']) (by unfold maxLen; omega) (by omega) (by have := G6.out.size; omega) ?_); (intro v8 w8 hown8 hgrow8 hnil8; obtain ⟨C8, k8, hv8, hC8⟩ := st_own hown8 (by omega); subst hv8; have hg8 : Hid (Kep w w8) := G6.out.by hgrow8 (by intro j hj; simp [Value.ownBlock] at hj; omega); have hown9 : Hid (w8.ownsRow w.heap.size 5 1 (.slice (some ⟨C8, 0, none⟩) 5 k8) 5 (bs [112, n, 113, x % 256, x / 256])) := hown8; clear hgrow8 hown8 hnil8))
  rw [rounds_succ]
  go_wp2_with fail
  go_ret2
  exact ⟨C8, k8, rfl, hown9, hg8⟩
end Go.Proofs.YtpalbpjmjbcelaaDoor
