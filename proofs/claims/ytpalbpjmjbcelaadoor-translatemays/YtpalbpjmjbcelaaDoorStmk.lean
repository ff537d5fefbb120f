/- What stub.Stub and stub.Jump answer, and what 'works' of layer 19 does. -/
import Derived.Test.YtpalbpjmjbcelaaDoorStlay
import Derived.Test.YtpalbpjmjbcelaaDoorStrb
namespace Go.Proofs.YtpalbpjmjbcelaaDoor
open Go.RowKit
set_option linter.unusedVariables false
set_option linter.unusedSimpArgs false

theorem ststub_no (n x : Int) (h : ¬ ((0 ≤ n ∧ n ≤ 255) ∧ 0 ≤ x ∧ x ≤ 65535)) (w : World) :
    Calls Tryd.prog 44 #[.int .i64 n, .int .i64 x] w fun e w' => e = .returned (.tuple #[.slice none 0 0, .int .i64 2]) ∧ w' = w := by
  by_cases hn : 0 ≤ n ∧ n ≤ 255
  · have hx : decide (0 ≤ x ∧ x ≤ 65535) = false := decide_eq_false (fun q => h ⟨hn, q⟩)
    have hn' : decide (0 ≤ n ∧ n ≤ 255) = true := decide_eq_true hn
    clear h hn
    go_enter Tryd.func44, Tryd.ntmps44
    go_wp2_with fail
    refine (stwithin n 255 w).mono ?_
    rw [hn']
    rintro e w1 ⟨rfl, hq⟩
    rw [hq]; clear hq w1
    go_wp2_with fail
    refine (stwithin x 65535 w).mono ?_
    rw [hx]
    rintro e w1 ⟨rfl, hq⟩
    rw [hq]; clear hq w1
    go_wp2_with fail
    go_ret2
    exact ⟨rfl, rfl⟩
  · have hn' : decide (0 ≤ n ∧ n ≤ 255) = false := decide_eq_false hn
    clear h hn
    go_enter Tryd.func44, Tryd.ntmps44
    go_wp2_with fail
    refine (stwithin n 255 w).mono ?_
    rw [hn']
    rintro e w1 ⟨rfl, hq⟩
    rw [hq]; clear hq w1
    go_wp2_with fail
    go_ret2
    exact ⟨rfl, rfl⟩

theorem ststub_ok (n x : Int) (h0 : 0 ≤ n) (h1 : n ≤ 255) (h2 : 0 ≤ x) (h3 : x ≤ 65535) (w : World) (hT : Tabs w) :
    Calls Tryd.prog 44 #[.int .i64 n, .int .i64 x] w fun e w' => ∃ C c : Nat, e = .returned (.tuple #[.slice (some ⟨C, 0, none⟩) 5 c, .int .i64 0]) ∧
      w'.ownsRow w.heap.size 5 1 (.slice (some ⟨C, 0, none⟩) 5 c) 5 (bs [112, n, 113, x % 256, x / 256]) ∧ Kep w w' := by
  have hn' : decide (0 ≤ n ∧ n ≤ 255) = true := by simp [h0, h1]
  have hx' : decide (0 ≤ x ∧ x ≤ 65535) = true := by simp [h2, h3]
  have hT' : Hid (Tabs w) := hT
  clear hT
  go_enter Tryd.func44, Tryd.ntmps44
  go_wp2_with fail
  refine (stwithin n 255 w).mono ?_
  rw [hn']
  rintro e w1 ⟨rfl, hq⟩
  rw [hq]; clear hq w1
  go_wp2_with fail
  refine (stwithin x 65535 w).mono ?_
  rw [hx']
  rintro e w1 ⟨rfl, hq⟩
  rw [hq]; clear hq w1 hn' hx'
  go_wp2_with fail
  refine (stlay2 n x ⟨h0, h1⟩ ⟨h2, h3⟩ w.heap.size _ (by simp) (by simp) (by simp) (by simp) (by simp) (by simp) (by simp) (by simp) (by simp) (hT'.grown ((Kep.refl _).alloc _))).mono ?_
  rintro e w1 ⟨C, c, rfl, hown, g1⟩
  have G1 : Hid (Kep w w1) := kep_trans ((Kep.refl _).alloc _) g1
  have hown1 : Hid (w1.ownsRow w.heap.size 5 1 (.slice (some ⟨C, 0, none⟩) 5 c) 5 (bs [112, n, 113, x % 256, x / 256])) := owns_mono hown (by simp)
  clear g1 hown
  go_wp2_with fail
  go_ret2
  exact ⟨C, c, rfl, hown1, G1⟩

/-- A row of bytes that was made, as a string, in this world and in any that keeps it. -/
theorem st_str {w w' : World} {base B n c : Nat} {ns : List Int} (h : w.ownsRow base 5 1 (.slice (some ⟨B, 0, none⟩) n c) n (bs ns)) (k : Kep w w') :
    Sem.run Tryd.prog (convert 30 9 (.slice (some ⟨B, 0, none⟩) n c)) w' = .ok (.string (strOf ns)) w' := by
  obtain ⟨h1, h2⟩ := h
  refine owned_string (w := w') (base := 0) ⟨h1, ?_⟩
  rcases h2 with h2 | ⟨g, cp, cur, e1, e2, e3, e4⟩
  · exact .inl h2
  · exact .inr ⟨g, cp, cur, e1, Nat.zero_le _, k.block e3, e4⟩

end Go.Proofs.YtpalbpjmjbcelaaDoor
