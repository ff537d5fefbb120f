/- One round of a Come: an event has come. -/
import Derived.Test.YtpieeefeicdfgabVdue
import Derived.Test.YtpieeefeicdfgabVreg
namespace Go.Proofs.Ytpieeefeicdfgab
open Go.RowKit Go.Shelf
set_option linter.unusedVariables false
set_option linter.unusedSimpArgs false
attribute [local go_sem] Oper.semAt_some

theorem Sli.celled {w : World} {e : TypeId} {z : Nat} {v : Value} {n : Nat} {xs : List Value} {F : List Nat} (h : Sli w e z v n xs F) : ∀ g ∈ F, ∃ cs t fr, w.heap[g]? = some (.cells cs t fr) := by
  rcases h with ⟨h0, ⟨_, _, rfl⟩ | ⟨g, off, cap, cur, rfl, rfl, hg, r⟩⟩
  · simp
  · intro b hb; obtain rfl : b = g := by simpa using hb
    exact ⟨_, _, _, hg⟩
theorem Dev.celled {w : World} {p : Nat} {s : DS} {F : List Nat} (h : Dev w p s F) : ∀ g ∈ F, ∃ cs t fr, w.heap[g]? = some (.cells cs t fr) := by
  obtain ⟨vs, vq, vo, vb, Fs, Fq, Fo, Fb, h, rfl⟩ := h
  intro g hg
  simp only [List.mem_cons, List.mem_append] at hg
  rcases hg with rfl | hg | hg | hg | hg
  · exact ⟨_, _, _, h.box⟩
  · exact h.sc.celled g hg
  · exact h.q.celled g hg
  · exact h.o.celled g hg
  · exact h.d.celled g hg
theorem ComeA.keeps {w : World} {p : Nat} {F0 : List Nat} {v : Value} {R : Nat} {ix : List Nat} {step : Int} {x : CS} {W W' : World} {F : List Nat} {vc : Value} {Gc : List Nat} {vw : Value} {Gw : List Nat} (A : ComeA w p F0 v R ix step x W F vc Gc vw Gw) (P : Put (rwL R x.B ++ F) W W') (b : Nat) : KeepsFrom b W W' :=
  KeepsFrom.of_put P fun g hg _ => by
    rcases List.mem_append.1 hg with h | h
    · have := mem_rwL h
      rcases A.mem with ⟨_, _, h0⟩ | ⟨_, hm, _⟩
      · exact absurd h0 this.2
      · rw [this.1]; exact ⟨_, _, _, hm.row this.2⟩
    · exact A.dev.celled g h
theorem Sli.keeps {w w' : World} {e : TypeId} {z : Nat} {v : Value} {n : Nat} {xs : List Value} {F : List Nat} (h : Sli w e z v n xs F) (P : Put F w w') (b : Nat) : KeepsFrom b w w' := KeepsFrom.of_put P fun g hg _ => h.celled g hg
theorem kep_keeps {w w' : World} (k : Kep w w') (b : Nat) : KeepsFrom b w w' := KeepsFrom.of_put (Put.of_kep (l := []) k) (by simp)

/-- Nothing appended. -/
theorem run_append_none {P : Program} {w : World} (t ty e : TypeId) (i : TypeInfo) (z : Nat) (ht : P.underlying t = some (.slice e)) (hi : P.info? e = some i) (hsize : i.size = z) {v : Value} {n : Nat} {xs : List Value} {F : List Nat} (h : Sli w e z v n xs F) :
    (Builtin.append_ #[t, t] ty #[v, .slice none 0 0]).run P w = .ok v w := by
  rcases h with ⟨h0, ⟨rfl, rfl, rfl⟩ | ⟨g, off, cap, cur, rfl, rfl, hg, h2, h3, h4, h5⟩⟩
  · simp [Builtin.append_, run_underlying ht, sizeOf, typeInfo, hi, Builtin.lenOf, Builtin.firstCells, loadCells, loadCellsFrom]
  · simp [Builtin.append_, run_underlying ht, sizeOf, typeInfo, hi, Builtin.lenOf, Builtin.firstCells, loadCells, loadCellsFrom, h2, storeCells]
theorem info_int : (Try.prog.info? 3).map (fun i => (i.zero, i.size, i.bytes)) = some (some (.int .i64 0), 1, 8) := by kernel_rfl
/-- No frame appended, or one. -/
theorem run_append_frames {W : World} {vw vf : Value} {n : Nat} {xs : List Value} {ys : List Int} {Gw G : List Nat} (hw : Sli W 3 1 vw n xs Gw) (hf : Sli W 3 1 vf ys.length (ys.map (Value.int .i64)) G) (hy : ys.length ≤ 1) (hn : n ≤ 64) :
    ∃ v' w' G', (Builtin.append_ #[29, 29] 29 #[vw, vf]).run Try.prog W = .ok v' w' ∧ Sli w' 3 1 v' (n + ys.length) (xs ++ ys.map (Value.int .i64)) G' ∧ Put Gw W w' ∧ ∀ g ∈ G', g ∈ Gw ∨ W.heap.size ≤ g := by
  obtain ⟨i0, hi, hz0, hz1, hz2⟩ := info_parts info_int
  rcases hf.form with ⟨rfl, hl, hx, _⟩ | ⟨g, off, cap, rfl, _, h1, h2, h3, h4, _⟩
  · obtain rfl : ys = [] := List.eq_nil_of_length_eq_zero hl
    exact ⟨vw, W, Gw, run_append_none _ _ _ i0 1 Try.underlying29 hi hz1 hw, by simpa using hw, Put.refl _, fun g hg => .inl hg⟩
  · match ys, hy with
    | [], _ =>
      have hr : (Builtin.append_ #[29, 29] 29 #[vw, .slice (some ⟨g, off, none⟩) 0 cap]).run Try.prog W = .ok vw W := by
        rcases hw with ⟨h0, ⟨rfl, rfl, rfl⟩ | ⟨g', off', cap', cur, rfl, rfl, hg, h2', h3', h4', h5'⟩⟩
        · simp [Builtin.append_, run_underlying Try.underlying29, sizeOf, typeInfo, hi, Builtin.lenOf, Builtin.firstCells, loadCells, loadCellsFrom]
        · simp [Builtin.append_, run_underlying Try.underlying29, sizeOf, typeInfo, hi, Builtin.lenOf, Builtin.firstCells, loadCells, loadCellsFrom, h2', storeCells]
      exact ⟨vw, W, Gw, hr, by simpa using hw, Put.refl _, fun g hg => .inl hg⟩
    | [y], _ =>
      obtain ⟨v', w', G', r1, r2, r3, r4⟩ := run_append_sli (P := Try.prog) 29 29 3 i0 _ 1 8 Try.underlying29 hi hz0 hz1 hz2 rfl (by decide) hw ⟨g, off, none⟩ cap [.int .i64 y] rfl (fun j u hj => by rw [Addr.add_lit]; exact h4 j u hj) (by simp [Value.oneCell']) (by unfold maxLen; omega) (by omega)
      exact ⟨v', w', G', r1, r2, r3, r4⟩
theorem ev_slice (q : Nat) : True := trivial
end Go.Proofs.Ytpieeefeicdfgab
