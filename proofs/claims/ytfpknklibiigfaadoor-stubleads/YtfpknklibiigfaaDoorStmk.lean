/- What stub.Stub and stub.Jump answer, and what 'works' of layer 19 does. -/
import Derived.Test.YtfpknklibiigfaaDoorStlay
import Derived.Test.YtfpknklibiigfaaDoorStrb
namespace Go.Proofs.YtfpknklibiigfaaDoor
open Go.RowKit
set_option linter.unusedVariables false
set_option linter.unusedSimpArgs false

theorem ststub_no (n x : Int) (h : ¬ ((0 ≤ n ∧ n ≤ 255) ∧ 0 ≤ x ∧ x ≤ 65535)) (w : World) :
    Calls Tryd.prog 8 #[.int .i64 n, .int .i64 x] w fun e w' => e = .returned (.tuple #[.slice none 0 0, .int .i64 2]) ∧ w' = w := by
  by_cases hn : 0 ≤ n ∧ n ≤ 255
  · have hx : decide (0 ≤ x ∧ x ≤ 65535) = false := decide_eq_false (fun q => h ⟨hn, q⟩)
    have hn' : decide (0 ≤ n ∧ n ≤ 255) = true := decide_eq_true hn
    clear h hn
    go_enter Tryd.func8, Tryd.ntmps8
    go_wp2_with fail
    refine (stwithin n 255 w).mono ?_
    rw [hn']
    rintro e w1 ⟨rfl, hq⟩
    rw [hq]; clear hq w1
    go_wp2_with fail
    refine (stwithin x 65535 w).mono ?_
    rw [hx]
    rintro e w1 ⟨rfl, hq⟩
    rw [hq]; clear hq w1
    go_wp2_with fail
    go_ret2
    exact ⟨rfl, rfl⟩
  · have hn' : decide (0 ≤ n ∧ n ≤ 255) = false := decide_eq_false hn
    clear h hn
    go_enter Tryd.func8, Tryd.ntmps8
    go_wp2_with fail
    refine (stwithin n 255 w).mono ?_
    rw [hn']
    rintro e w1 ⟨rfl, hq⟩
    rw [hq]; clear hq w1
    go_wp2_with fail
    go_ret2
    exact ⟨rfl, rfl⟩

theorem ststub_ok (n x : Int) (h0 : 0 ≤ n) (h1 : n ≤ 255) (h2 : 0 ≤ x) (h3 : x ≤ 65535) (w : World) (hT : Tabs w) :
    Calls Tryd.prog 8 #[.int .i64 n, .int .i64 x] w fun e w' => ∃ C c : Nat, e = .returned (.tuple #[.slice (some ⟨C, 0, none⟩) 5 c, .int .i64 0]) ∧
      w'.ownsRow w.heap.size 5 1 (.slice (some ⟨C, 0, none⟩) 5 c) 5 (bs [112, n, 113, x % 256, x / 256]) ∧ Kep w w' := by
  have hn' : decide (0 ≤ n ∧ n ≤ 255) = true := by simp [h0, h1]
  have hx' : decide (0 ≤ x ∧ x ≤ 65535) = true := by simp [h2, h3]
  have hT' : Hid (Tabs w) := hT
  clear hT
  go_enter Tryd.func8, Tryd.ntmps8
  go_wp2_with fail
  refine (stwithin n 255 w).mono ?_
  rw [hn']
  rintro e w1 ⟨rfl, hq⟩
  rw [hq]; clear hq w1
  go_wp2_with fail
  refine (stwithin x 65535 w).mono ?_
  rw [hx']
  rintro e w1 ⟨rfl, hq⟩
  rw [hq]; clear hq w1 hn' hx'
  go_wp2_with fail
  refine (stlay2 n x ⟨h0, h1⟩ ⟨h2, h3⟩ w.heap.size _ (by simp) (by simp) (by simp) (by simp) (by simp) (by simp) (by simp) (by simp) (by simp) (hT'.grown ((Kep.refl _).alloc _))).mono ?_
  rintro e w1 ⟨C, c, rfl, hown, g1⟩
  have G1 : Hid (Kep w w1) := kep_trans ((Kep.refl _).alloc _) g1
  have hown1 : Hid (w1.ownsRow w.heap.size 5 1 (.slice (some ⟨C, 0, none⟩) 5 c) 5 (bs [112, n, 113, x % 256, x / 256])) := owns_mono hown (by simp)
  clear g1 hown
  go_wp2_with fail
  go_ret2
  exact ⟨C, c, rfl, hown1, G1⟩

def jfar (a t : Int) : Int := t - a - 3
def jokB (a t : Int) : Bool := decide ((0 ≤ a ∧ a ≤ 32767) ∧ 0 ≤ t ∧ t ≤ 32767)
theorem stjump_no (a t : Int) (h : jokB a t = false) (w : World) :
    Calls Tryd.prog 11 #[.int .i64 a, .int .i64 t] w fun e w' => e = .returned (.tuple #[.slice none 0 0, .int .i64 2]) ∧ w' = w := by
  have h' : ¬ ((0 ≤ a ∧ a ≤ 32767) ∧ 0 ≤ t ∧ t ≤ 32767) := by simpa [jokB] using h
  clear h
  by_cases hn : 0 ≤ a ∧ a ≤ 32767
  · have hx : decide (0 ≤ t ∧ t ≤ 32767) = false := decide_eq_false (fun q => h' ⟨hn, q⟩)
    have hn' : decide (0 ≤ a ∧ a ≤ 32767) = true := decide_eq_true hn
    clear h' hn
    go_enter Tryd.func11, Tryd.ntmps11
    go_wp2_with fail
    refine (stwithin a 32767 w).mono ?_
    rw [hn']
    rintro e w1 ⟨rfl, hq⟩
    rw [hq]; clear hq w1
    go_wp2_with fail
    refine (stwithin t 32767 w).mono ?_
    rw [hx]
    rintro e w1 ⟨rfl, hq⟩
    rw [hq]; clear hq w1
    go_wp2_with fail
    go_ret2
    exact ⟨rfl, rfl⟩
  · have hn' : decide (0 ≤ a ∧ a ≤ 32767) = false := decide_eq_false hn
    clear h' hn
    go_enter Tryd.func11, Tryd.ntmps11
    go_wp2_with fail
    refine (stwithin a 32767 w).mono ?_
    rw [hn']
    rintro e w1 ⟨rfl, hq⟩
    rw [hq]; clear hq w1
    go_wp2_with fail
    go_ret2
    exact ⟨rfl, rfl⟩

theorem stjump_long (a t : Int) (h : jokB a t = true) (hf : jfar a t < -32768) (w : World) (hT : Tabs w) :
    Calls Tryd.prog 11 #[.int .i64 a, .int .i64 t] w fun e w' => e = .returned (.tuple #[.slice none 0 0, .int .i64 3]) ∧ Kep w w' := by
  have h' : (0 ≤ a ∧ a ≤ 32767) ∧ 0 ≤ t ∧ t ≤ 32767 := by simpa [jokB] using h
  obtain ⟨⟨h0, h1⟩, h2, h3⟩ := h'
  unfold jfar at hf
  have hn' : decide (0 ≤ a ∧ a ≤ 32767) = true := by simp [h0, h1]
  have hx' : decide (0 ≤ t ∧ t ≤ 32767) = true := by simp [h2, h3]
  have hT' : Hid (Tabs w) := hT
  clear hT h
  go_enter Tryd.func11, Tryd.ntmps11
  go_wp2_with fail
  refine (stwithin a 32767 w).mono ?_
  rw [hn']
  rintro e w1 ⟨rfl, hq⟩
  rw [hq]; clear hq w1
  go_wp2_with fail
  refine (stwithin t 32767 w).mono ?_
  rw [hx']
  rintro e w1 ⟨rfl, hq⟩
  rw [hq]; clear hq w1 hn' hx'
  go_wp2_with fail
  refine (bytes_any 64 true _ (by decide) (by decide) hT').mono ?_
  rintro e w1 ⟨rfl, g1⟩
  rw [show sz (rowOf 64 true) = 3 from rfl]
  have G1 : Hid (Kep w w1) := g1
  clear g1
  go_wp2_with fail
  go_ret2
  exact ⟨rfl, G1⟩

theorem stjump_ok (a t : Int) (h : jokB a t = true) (hf : -32768 ≤ jfar a t) (w : World) (hT : Tabs w) :
    Calls Tryd.prog 11 #[.int .i64 a, .int .i64 t] w fun e w' => ∃ C c : Nat, e = .returned (.tuple #[.slice (some ⟨C, 0, none⟩) 3 c, .int .i64 0]) ∧
      w'.ownsRow w.heap.size 5 1 (.slice (some ⟨C, 0, none⟩) 3 c) 3 (bs [64, jfar a t % 256, jfar a t / 256 % 256]) ∧ Kep w w' := by
  have h' : (0 ≤ a ∧ a ≤ 32767) ∧ 0 ≤ t ∧ t ≤ 32767 := by simpa [jokB] using h
  obtain ⟨⟨h0, h1⟩, h2, h3⟩ := h'
  have hn' : decide (0 ≤ a ∧ a ≤ 32767) = true := by simp [h0, h1]
  have hx' : decide (0 ≤ t ∧ t ≤ 32767) = true := by simp [h2, h3]
  have hT' : Hid (Tabs w) := hT
  clear hT h
  obtain ⟨f, hF⟩ : ∃ f, jfar a t = f := ⟨_, rfl⟩
  have hF' : Hid (t - a - 3 = f) := by rw [← hF]; rfl
  rw [hF] at hf ⊢
  have hf2 : f ≤ 32767 := by have := hF'.out; omega
  clear hF
  go_enter Tryd.func11, Tryd.ntmps11
  go_wp2_with fail
  refine (stwithin a 32767 w).mono ?_
  rw [hn']
  rintro e w1 ⟨rfl, hq⟩
  rw [hq]; clear hq w1
  go_wp2_with fail
  refine (stwithin t 32767 w).mono ?_
  rw [hx']
  rintro e w1 ⟨rfl, hq⟩
  rw [hq]; clear hq w1 hn' hx'
  go_wp2_with fail
  refine (bytes_any 64 true _ (by decide) (by decide) hT').mono ?_
  rintro e w1 ⟨rfl, g1⟩
  rw [show sz (rowOf 64 true) = 3 from rfl]
  have G1 : Hid (Kep w w1) := g1
  have hT1 : Hid (Tabs w1) := hT'.grown g1
  clear g1
  have hfe := hF'.out
  go_wp2_with fail
  refine (stlay1 f hf hf2 w1.heap.size _ (by simp) (by simp) (by simp) (by simp) (by simp) (hT1.grown ((Kep.refl _).alloc _))).mono ?_
  rintro e w2 ⟨C, c, rfl, hown, g2⟩
  have G2 : Hid (Kep w w2) := kep_trans (G1.out.alloc _) g2
  have hown1 : Hid (w2.ownsRow w.heap.size 5 1 (.slice (some ⟨C, 0, none⟩) 3 c) 3 (bs [64, f % 256, f / 256 % 256])) := owns_mono hown (by have := G1.out.size; simp; omega)
  clear g2 hown hfe
  go_wp2_with fail
  go_ret2
  exact ⟨C, c, rfl, hown1, G2⟩

/-- A row of bytes that was made, as a string, in this world and in any that keeps it. -/
theorem st_str {w w' : World} {base B n c : Nat} {ns : List Int} (h : w.ownsRow base 5 1 (.slice (some ⟨B, 0, none⟩) n c) n (bs ns)) (k : Kep w w') :
    Sem.run Tryd.prog (convert 22 9 (.slice (some ⟨B, 0, none⟩) n c)) w' = .ok (.string (strOf ns)) w' := by
  obtain ⟨h1, h2⟩ := h
  refine owned_string (w := w') (base := 0) ⟨h1, ?_⟩
  rcases h2 with h2 | ⟨g, cp, cur, e1, e2, e3, e4⟩
  · exact .inl h2
  · exact .inr ⟨g, cp, cur, e1, Nat.zero_le _, k.block e3, e4⟩

theorem works19_any (w : World) (hT : Tabs w) :
    Calls Tryd.prog 9 #[] w fun e w' => e = .returned (.bool true) ∧ Kep w w' := by
  go_enter Tryd.func9, Tryd.ntmps9
  go_wp2_with fail
  refine (ststub_ok 3 258 (by decide) (by decide) (by decide) (by decide) _ hT).mono ?_
  rintro e w1 ⟨C, c, rfl, hown, g1⟩
  have hc := st_str hown (Kep.refl _)
  have e2 : strOf [112, 3, 113, 258 % 256, 258 / 256] = ⟨#[112, 3, 113, 2, 1]⟩ := by decide
  rw [e2] at hc
  clear hown e2
  go_wp2_with fail
  go_ret
  exact ⟨rfl, g1⟩
end Go.Proofs.YtfpknklibiigfaaDoor
