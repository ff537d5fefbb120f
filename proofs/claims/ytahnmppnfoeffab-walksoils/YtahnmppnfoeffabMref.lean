/- The document's memory: a row of bytes. -/
import Derived.Test.YtahnmppnfoeffabMcopy
namespace Go.Proofs.Ytahnmppnfoeffab
open Go.RowKit
set_option linter.unusedVariables false

/-- The document's memory with the bytes B, in the row Rb. -/
structure Refd (w : World) (x : Option Addr) (Rb : Nat) (B : List Int) : Prop where
  row : RowB w Rb B
  adr : B ≠ [] → x = some ⟨Rb, 0, none⟩
  max : (B.length : Int) ≤ 32768
theorem Refd.kep {w w' : World} {x : Option Addr} {Rb : Nat} {B : List Int} (h : Refd w x Rb B) (k : Kep w w') : Refd w' x Rb B := ⟨h.row.kep k, h.adr, h.max⟩
theorem Refd.put {w w' : World} {x : Option Addr} {Rb : Nat} {B : List Int} {l : List Nat} (h : Refd w x Rb B) (k : Put l w w') (hl : Rb ∉ l) : Refd w' x Rb B := ⟨h.row.put k hl, h.adr, h.max⟩
abbrev refV (x : Option Addr) (n : Nat) : Value := .agg #[.slice x n n]

set_option maxRecDepth 100000 in
theorem refWord_any (w : World) (x : Option Addr) (Rb : Nat) (B : List Int) (h : Refd w x Rb B) (hb : Byts B) (h4 : B.length % 4 = 0) (a : Nat) (ha : (a : Int) < 4294967296) :
    Calls Try.prog 25 #[refV x B.length, .int .u32 a] w fun e w' => e = .returned (.tuple (if a % 4 = 0 ∧ a < B.length then #[.int .u32 (wordAt B a), .bool true] else #[.int .u32 0, .bool false])) ∧ Kep w w' := by
  obtain ⟨n, hn⟩ : ∃ n, n = B.length := ⟨_, rfl⟩
  have hmax := h.max
  by_cases h5 : a % 4 = 0
  · have h6 : ((a : Int) % 4 != 0) = false := by simp; omega
    by_cases hl : a < B.length
    · rw [if_pos ⟨h5, hl⟩]
      have hr : ∀ o, RowB (w.alloc o) Rb B := fun o => h.row.kep ((Kep.refl _).alloc o)
      have c0 : ∀ o, (w.alloc o).cell? ⟨Rb, a, none⟩ = some (.int .u8 (B.getD a 0)) := fun o => (hr o).cell hl
      have c1 : ∀ o, (w.alloc o).cell? ⟨Rb, a + 1, none⟩ = some (.int .u8 (B.getD (a + 1) 0)) := fun o => (hr o).cell (by omega)
      have c2 : ∀ o, (w.alloc o).cell? ⟨Rb, a + 2, none⟩ = some (.int .u8 (B.getD (a + 2) 0)) := fun o => (hr o).cell (by omega)
      have c3 : ∀ o, (w.alloc o).cell? ⟨Rb, a + 3, none⟩ = some (.int .u8 (B.getD (a + 3) 0)) := fun o => (hr o).cell (by omega)
      have hx := h.adr (by intro e; subst e; simp at hl)
      subst hx
      have r0 := hb.at a
      have r1 := hb.at (a + 1)
      have r2 := hb.at (a + 2)
      have r3 := hb.at (a + 3)
      unfold wordAt wordI
      generalize B.getD a 0 = b0 at c0 r0
      generalize B.getD (a + 1) 0 = b1 at c1 r1
      generalize B.getD (a + 2) 0 = b2 at c2 r2
      generalize B.getD (a + 3) 0 = b3 at c3 r3
      rw [← hn] at hl hmax ⊢
      have hl' : (a : Int) + 3 < n := by omega
      clear h hn hr hb ha hl
      go_enter Try.func25, Try.ntmps25
      go_wp2
      go_quiet (fail)
      go_wp2
      go_ret2
      exact ⟨rfl, ((Kep.refl _).alloc _).drewN _⟩
    · rw [if_neg (by omega)]
      rw [← hn] at hl hmax ⊢
      have hl' : (n : Int) ≤ a := by omega
      clear h hn
      go_enter Try.func25, Try.ntmps25
      go_wp2
      go_ret2
      exact ⟨rfl, (Kep.refl _).alloc _⟩
  · have h6 : ((a : Int) % 4 != 0) = true := by simp; omega
    rw [if_neg (by omega)]
    rw [← hn] at hmax ⊢
    clear h hn
    go_enter Try.func25, Try.ntmps25
    go_wp2
    go_ret2
    exact ⟨rfl, (Kep.refl _).alloc _⟩

set_option maxRecDepth 100000 in
theorem refSetWord_any (w : World) (x : Option Addr) (Rb : Nat) (B : List Int) (h : Refd w x Rb B) (h4 : B.length % 4 = 0) (a : Nat) (ha : (a : Int) < 4294967296) (z : Int) (z0 : 0 ≤ z) (z1 : z < 4294967296) :
    Calls Try.prog 17 #[refV x B.length, .int .u32 a, .int .u32 z] w fun e w' => e = .returned (.bool (decide (a % 4 = 0 ∧ a < B.length))) ∧ Put [Rb] w w' ∧ RowB w' Rb (if a % 4 = 0 ∧ a < B.length then setW B a z else B) := by
  obtain ⟨n, hn⟩ : ∃ n, n = B.length := ⟨_, rfl⟩
  have hmax := h.max
  have hr : Hid (∀ o, RowB (w.alloc o) Rb B) := fun o => h.row.kep ((Kep.refl _).alloc o)
  by_cases h5 : a % 4 = 0
  · have h6 : ((a : Int) % 4 != 0) = false := by simp; omega
    by_cases hl : a < B.length
    · rw [if_pos ⟨h5, hl⟩, decide_eq_true ⟨h5, hl⟩]
      have hB : B ≠ [] := by intro e; subst e; simp at hl
      have c0 : ∀ o, (w.alloc o).cell? ⟨Rb, a, none⟩ = some (.int .u8 (B.getD a 0)) := fun o => (hr.out o).cell hl
      have c1 : ∀ o, (w.alloc o).cell? ⟨Rb, a + 1, none⟩ = some (.int .u8 (B.getD (a + 1) 0)) := fun o => (hr.out o).cell (by omega)
      have c2 : ∀ o, (w.alloc o).cell? ⟨Rb, a + 2, none⟩ = some (.int .u8 (B.getD (a + 2) 0)) := fun o => (hr.out o).cell (by omega)
      have c3 : ∀ o, (w.alloc o).cell? ⟨Rb, a + 3, none⟩ = some (.int .u8 (B.getD (a + 3) 0)) := fun o => (hr.out o).cell (by omega)
      have f : ∀ o k, (w.alloc o).frozen? ⟨Rb, k, none⟩ = false := fun o k => by simp only [World.frozen?, hr.out o hB]; simp
      have hne : w.heap.size ≠ Rb := by have := h.row.lt hB; omega
      have hne' : Rb ≠ w.heap.size := fun e => hne e.symm
      have hx := h.adr hB
      subst hx
      generalize B.getD a 0 = b0 at c0
      generalize B.getD (a + 1) 0 = b1 at c1
      generalize B.getD (a + 2) 0 = b2 at c2
      generalize B.getD (a + 3) 0 = b3 at c3
      rw [← hn] at hl hmax ⊢
      have hl' : (a : Int) + 3 < n := by omega
      clear h hn ha hl
      go_enter Try.func17, Try.ntmps17
      go_wp2
      go_rounds 5
      go_ret
      refine ⟨rfl, ((((Put.of_kep ((Kep.refl _).alloc _)).setCell (by simp) _).setCell (by simp) _).setCell (by simp) _).setCell (by simp) _, ?_⟩
      unfold setW
      rw [show z / 65536 = z / 256 / 256 by omega, show z / 16777216 = z / 256 / 256 / 256 by omega]
      exact ((((hr.out _).set _ _).set _ _).set _ _).set _ _
    · rw [if_neg (by omega), decide_eq_false (by omega)]
      rw [← hn] at hl hmax ⊢
      have hl' : (n : Int) ≤ a := by omega
      clear h hn
      go_enter Try.func17, Try.ntmps17
      go_wp2
      go_ret
      exact ⟨rfl, Put.of_kep ((Kep.refl _).alloc _), hr.out _⟩
  · have h6 : ((a : Int) % 4 != 0) = true := by simp; omega
    rw [if_neg (by omega), decide_eq_false (by omega)]
    rw [← hn] at hmax ⊢
    clear h hn
    go_enter Try.func17, Try.ntmps17
    go_wp2
    go_ret
    exact ⟨rfl, Put.of_kep ((Kep.refl _).alloc _), hr.out _⟩

theorem results1 {P : Program} {fn : Func} {p : Tmp} {ty : TypeId} (h : fn.results = #[.cell p ty]) (tmps : Array Value) (w : World) (g : Nat) (t : TypeId) (cs : Array Value) (fr : Nat × Nat) (d : TypeDesc)
    (hp : tmps.getD p undef = .pointer (some ⟨g, 0, none⟩)) (hg : w.heap[g]? = some (.cells cs t fr))
    (hu : P.underlying ty = some d) (hd : (match d with | .struct _ | .array _ _ => true | _ => false) = true) (hi : (P.info? ty).map (·.size) = some cs.size) :
    (results fn tmps).run P w = .ok (.agg cs) w := by
  have hp' : tmps[p]?.getD undef = .pointer (some ⟨g, 0, none⟩) := by simpa using hp
  simp [results, h, hp', asAddr, run_loadVar_row w g t ty cs fr d hg hu hd hi]
theorem size_ref : (Try.prog.info? 31).map (·.size) = some 1 := by kernel_rfl

set_option maxRecDepth 100000 in
theorem refNew_any (w : World) (n : Nat) (h1 : (1 : Int) ≤ n) (h2 : (n : Int) ≤ 512) :
    Calls Try.prog 15 #[.int .i64 n] w fun e w' => e = .returned (refV (some ⟨w.heap.size + 1, 0, none⟩) (64 * n)) ∧ Kep w w' ∧ w'.heap[w.heap.size + 1]? = some (.cells (byt (List.replicate (64 * n) 0)).toArray 5 (0, 0)) := by
  have m1 := make_row (n * 64) (by omega)
  have e1 : ((n * 64 : Nat) : Int) = (n : Int) * 64 := by omega
  rw [e1] at m1
  have e2 : 64 * n = n * 64 := by omega
  rw [e2]
  clear e1 e2
  generalize (byt (List.replicate (n * 64) 0)).toArray = Z at m1
  go_enter Try.func15, Try.ntmps15
  go_wp2
  refine bodyPost_ret (results1 rfl _ _ w.heap.size 31 #[.slice (some ⟨w.heap.size + 1, 0, none⟩) (n * 64) (n * 64)] (0, 0) _ rfl ?_ Try.underlying31 rfl size_ref) rfl ⟨rfl, ((Kep.refl _).alloc _).alloc _, ?_⟩
  · exact (hsk _ _ _ (by simp)).trans (hat _ _ _ rfl)
  · exact hat _ _ _ (by simp)
end Go.Proofs.Ytahnmppnfoeffab
