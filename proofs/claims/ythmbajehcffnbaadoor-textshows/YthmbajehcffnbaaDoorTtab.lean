/- The code's two tables of forms and the library's table of powers of ten: what the row lists of them is what Env says. -/
import Derived.Test.YthmbajehcffnbaaDoorRows
import Derived.Test.YthmbajehcffnbaaDoorFormm
import Derived.Test.YthmbajehcffnbaaDoorShelf
import Derived.Lib.LaidTab
namespace Go.Proofs.YthmbajehcffnbaaDoor
open Go.RowKit

def pow10C : Array Value := (Lib.pow10Tab.map fun z => Value.int .u64 z).toArray
def Env (w : World) : Prop := Tabs w ∧ ∃ t, w.heap[2]? = some (.cells pow10C t (0, 0))
theorem Env.grown {w w' : World} (h : Env w) (g : Kep w w') : Env w' := by
  obtain ⟨h0, t, h1⟩ := h
  exact ⟨h0.grown g, t, g.block h1⟩
theorem Env.tab {w : World} (h : Env w) : Lib.TabIs Tryd.prog w "internal/strconv.uint64pow10" .u64 Lib.pow10Tab := by
  obtain ⟨_, t, h1⟩ := h
  unfold Lib.TabIs World.var?
  rw [show Tryd.prog.globalNamed "internal/strconv.uint64pow10" = some 2 by kernel_rfl]
  simp only [Option.bind_some, h1]
  rfl
theorem env_of_laid {W : World} (h : laidMetH Tryd.prog [("math/bits.deBruijn32tab", Rows.laid_math_bits_deBruijn32tab), ("math/bits.deBruijn64tab", Rows.laid_math_bits_deBruijn64tab), ("internal/strconv.uint64pow10", Rows.laid_internal_strconv_uint64pow10), ("mummer/isa.forms", Rows.laid_mummer_isa_forms), ("mummer/isa.spans", Rows.laid_mummer_isa_spans)] W) : Env W := by
  rw [MakeChecks.laidMetH_plain _ _ _ (by kernel_rfl)] at h
  have h2 := laid_rest (laid_rest h)
  have h3 := laid_rest h2
  refine ⟨⟨laid_block 4 formsC (show Tryd.prog.globalNamed "mummer/isa.forms" = some 0 by kernel_rfl) (show (Tryd.prog.globals[0]?).map (·.type) = some 61 by kernel_rfl) (by kernel_rfl) (by kernel_rfl) (by rw [show formsC.size = 50 from by kernel_rfl]; decide) h3,
    laid_block 4 spansC (show Tryd.prog.globalNamed "mummer/isa.spans" = some 1 by kernel_rfl) (show (Tryd.prog.globals[1]?).map (·.type) = some 77 by kernel_rfl) (by kernel_rfl) (by kernel_rfl) (by rw [show spansC.size = 56 from by kernel_rfl]; decide) (laid_rest h3)⟩,
    laid_block 4 pow10C (show Tryd.prog.globalNamed "internal/strconv.uint64pow10" = some 2 by kernel_rfl) (show (Tryd.prog.globals[2]?).map (·.type) = some 91 by kernel_rfl) (by kernel_rfl) (by kernel_rfl) (by rw [show pow10C.size = 20 from by kernel_rfl]; decide) h2⟩

/-- A digit. -/
def dg (a : Int) : UInt8 := UInt8.ofNat (48 + a.toNat)
theorem itoa_digit (a : Int) (h0 : 0 ≤ a) (h1 : a ≤ 7) (w : World) :
    Calls Tryd.prog 16 #[.int .i64 a] w fun e w' => e = .returned (.string ⟨#[dg a]⟩) ∧ w' = w := by
  obtain ⟨i, rfl⟩ : ∃ i : Nat, a = i := ⟨a.toNat, by omega⟩
  have h := Tryd.strconv_Itoa_small i (by omega) w
  rw [Lib.decDigits_one (by omega)] at h
  exact h
theorem itoa_any (n : Int) (h0 : -2147483648 ≤ n) (h1 : n ≤ 2147483647) (w : World) (hE : Env w) :
    Calls Tryd.prog 16 #[.int .i64 n] w fun e w' => e = .returned (.string ⟨(Lib.itoa n).toArray⟩) ∧ Kep w w' :=
  (Tryd.strconv_Itoa n (by omega) (by omega) w hE.tab).mono fun e w' ⟨he, k, os, hw⟩ => ⟨he, by
    subst hw
    exact ⟨rfl, rfl, rfl, by simp [Sort.grow], fun j hj => by simp [Sort.grow, Array.getElem?_append_left hj]⟩⟩
end Go.Proofs.YthmbajehcffnbaaDoor
