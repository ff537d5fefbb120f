/- What comes, by the document: what holds between two events. -/
import Derived.Test.YtpieeefeicdfgabVrdo
import Derived.Test.YtpieeefeicdfgabVrdn
import Derived.Test.YtpieeefeicdfgabVrdw
import Derived.Test.YtpieeefeicdfgabVround
namespace Go.Proofs.Ytpieeefeicdfgab
open Go.RowKit
set_option linter.unusedVariables false
set_option linter.unusedSimpArgs false

/-- The frames that were written, as a row of answers. -/
def wrow (n : Nat) (f : List Int) : List Value := (List.range n).map fun (i : Nat) => Value.bool (decide ((i : Int) ∈ f))
theorem wrow_len (n : Nat) (f : List Int) : (wrow n f).length = n := by simp [wrow]
theorem wrow_at (n : Nat) (f : List Int) (i : Nat) (h : i < n) : (wrow n f)[i]? = some (.bool (decide ((i : Int) ∈ f))) := by simp [wrow, h]
theorem wrow_nil (n : Nat) : wrow n [] = List.replicate n (.bool false) := by
  refine List.ext_getElem? fun j => ?_
  by_cases h : j < n
  · rw [wrow_at _ _ _ h]; simp [h]
  · rw [List.getElem?_eq_none (by rw [wrow_len]; omega), List.getElem?_eq_none (by simp; omega)]
theorem wrow_set (n : Nat) (t : Nat) (h : t < n) : (wrow n []).set t (.bool true) = wrow n [(t : Int)] := by
  refine List.ext_getElem? fun j => ?_
  rw [List.getElem?_set, wrow_len]
  by_cases hj : j < n
  · rw [wrow_at _ _ _ hj, wrow_at _ _ _ hj]
    by_cases e : t = j
    · subst e; simp [hj]
    · rw [if_neg e]; simp; omega
  · rw [if_neg (by omega), List.getElem?_eq_none (by rw [wrow_len]; omega), List.getElem?_eq_none (by rw [wrow_len]; omega)]

/-- Between two events. -/
structure RCA (w : World) (p : Nat) (vS : Value) (E0 : List Ev) (F0 : List Nat) (Rb n : Nat) (x : CS) (W : World) (F : List Nat) (vl : Value) (Gl : List Nat) (vw : Value) (Gw : List Nat) : Prop where
  dev : RDv W p x.s vS E0 F
  row : RowB W Rb x.B
  bx : W.heap[w.heap.size]? = some (.cells #[.slice (some ⟨Rb, 0, none⟩) (64 * n) (64 * n)] 42 (0, 0))
  l : Sli W 68 3 vl x.c.length (evs x.c) Gl
  wr : Sli W 4 1 vw n (wrow n x.f) Gw
  put : Put (Rb :: F0) w W
  fF : ∀ g ∈ F, g ∈ F0 ∨ w.heap.size < g
  gl : ∀ g ∈ Gl, w.heap.size < g ∧ g ∉ F
  gw : ∀ g ∈ Gw, w.heap.size < g ∧ g ∉ F ∧ g ∉ Gl
  f0 : ∀ g ∈ F0, g < w.heap.size
  r0 : Rb < w.heap.size
  rF : Rb ∉ F0
  ok : x.Ok (List.range n)
  len : x.B.length = 64 * n
  cnt : x.c.length + x.s.E.length ≤ 64
  one : x.f = [] ∨ x.s.s ≠ 1
  fs : x.f = [] ∨ ∃ t : Nat, t < n ∧ x.f = [(t : Int)]
  big : w.heap.size < W.heap.size
theorem RCA.rb {w : World} {p : Nat} {vS : Value} {E0 : List Ev} {F0 : List Nat} {Rb n : Nat} {x : CS} {W : World} {F : List Nat} {vl : Value} {Gl : List Nat} {vw : Value} {Gw : List Nat} (A : RCA w p vS E0 F0 Rb n x W F vl Gl vw Gw) : Rb ∉ F := fun h => by
  rcases A.fF Rb h with h1 | h1
  · exact A.rF h1
  · have := A.r0; omega
/-- A turn of the devices and of the memory's row. -/
theorem RCA.turn {w : World} {p : Nat} {vS : Value} {E0 : List Ev} {F0 : List Nat} {Rb n : Nat} {x : CS} {W W' : World} {F F' : List Nat} {vl : Value} {Gl : List Nat} {vw : Value} {Gw : List Nat} (A : RCA w p vS E0 F0 Rb n x W F vl Gl vw Gw)
    (P : Put (Rb :: F) W W') {s' : DS} {B' : List Int} (d' : RDv W' p s' vS E0 F') (r' : RowB W' Rb B') (hF : ∀ g ∈ F', g ∈ F ∨ W.heap.size ≤ g) (hB : B'.length = x.B.length) (ok : CS.Ok (List.range n) ⟨s', B', x.c, x.f⟩) (hl : s'.E.length ≤ x.s.E.length) (ho : x.f = [] ∨ s'.s ≠ 1) :
    RCA w p vS E0 F0 Rb n ⟨s', B', x.c, x.f⟩ W' F' vl Gl vw Gw := by
  have hbig := A.big
  have hr0 := A.r0
  have hn : ∀ g, w.heap.size ≤ g → g ∉ F → g ∉ Rb :: F := fun g h1 h2 hm => by
    rcases List.mem_cons.1 hm with rfl | hm
    · omega
    · exact h2 hm
  have hbx : w.heap.size ∉ Rb :: F := hn _ (Nat.le_refl _) fun h => by
    rcases A.fF _ h with h1 | h1
    · have := A.f0 _ h1; omega
    · omega
  refine ⟨d', r', P.keeps A.bx hbx, A.l.put P fun g h => hn g (Nat.le_of_lt (A.gl g h).1) (A.gl g h).2, A.wr.put P fun g h => hn g (Nat.le_of_lt (A.gw g h).1) (A.gw g h).2.1, ?_, ?_, ?_, ?_, A.f0, A.r0, A.rF, ok, hB.trans A.len, Nat.le_trans (Nat.add_le_add_left hl _) A.cnt, ho, A.fs, Nat.lt_of_lt_of_le hbig P.size⟩
  · refine A.put.onto P fun g hm hlt => ?_
    rcases List.mem_cons.1 hm with rfl | hm
    · simp
    · rcases A.fF g hm with h3 | h3
      · simp [h3]
      · omega
  · intro g h
    rcases hF g h with h1 | h1
    · exact A.fF g h1
    · exact .inr (by omega)
  · intro g h
    refine ⟨(A.gl g h).1, fun hm => ?_⟩
    rcases hF g hm with h1 | h1
    · exact (A.gl g h).2 h1
    · have := A.l.lt g h; omega
  · intro g h
    refine ⟨(A.gw g h).1, fun hm => ?_, (A.gw g h).2.2⟩
    rcases hF g hm with h1 | h1
    · exact (A.gw g h).2.1 h1
    · have := A.wr.lt g h; omega
theorem RCA.kep {w : World} {p : Nat} {vS : Value} {E0 : List Ev} {F0 : List Nat} {Rb n : Nat} {x : CS} {W W' : World} {F : List Nat} {vl : Value} {Gl : List Nat} {vw : Value} {Gw : List Nat} (A : RCA w p vS E0 F0 Rb n x W F vl Gl vw Gw) (K : Kep W W') : RCA w p vS E0 F0 Rb n x W' F vl Gl vw Gw :=
  A.turn (Put.of_kep K) (A.dev.kep K) (A.row.kep K) (fun g h => .inl h) rfl A.ok (Nat.le_refl _) A.one
/-- An event more in the answer. -/
theorem RCA.more {w : World} {p : Nat} {vS : Value} {E0 : List Ev} {F0 : List Nat} {Rb n : Nat} {x : CS} {W W' : World} {F : List Nat} {vl vl' : Value} {Gl Gl' : List Nat} {vw : Value} {Gw : List Nat} (A : RCA w p vS E0 F0 Rb n x W F vl Gl vw Gw) (e : Ev)
    (P : Put Gl W W') (S : Sli W' 68 3 vl' (x.c.length + 1) (evs x.c ++ evV e) Gl') (hG : ∀ g ∈ Gl', g ∈ Gl ∨ W.heap.size ≤ g) (hc : x.c.length + 1 + x.s.E.length ≤ 64) : RCA w p vS E0 F0 Rb n ⟨x.s, x.B, x.c ++ [e], x.f⟩ W' F vl' Gl' vw Gw := by
  have hbig := A.big
  have hr0 := A.r0
  refine ⟨A.dev.put P fun g h hm => (A.gl g hm).2 h, A.row.put P fun hm => ?_, P.keeps A.bx fun hm => ?_, ?_, A.wr.put P fun g h hm => (A.gw g h).2.2 hm, ?_, A.fF, ?_, ?_, A.f0, A.r0, A.rF, ⟨A.ok.s, A.ok.B, A.ok.fits⟩, A.len, ?_, A.one, A.fs, Nat.lt_of_lt_of_le hbig P.size⟩
  · have := (A.gl _ hm).1; omega
  · have := (A.gl _ hm).1; omega
  · rw [List.length_append, evs_append]
    have e1 : evs [e] = evV e := by simp [evs]
    rw [e1]; exact S
  · refine A.put.onto P fun g hm hlt => ?_
    have := (A.gl g hm).1; omega
  · intro g h
    rcases hG g h with h1 | h1
    · exact A.gl g h1
    · exact ⟨by omega, fun hm => by have := A.dev.lt g hm; omega⟩
  · intro g h
    refine ⟨(A.gw g h).1, (A.gw g h).2.1, fun hm => ?_⟩
    rcases hG g hm with h1 | h1
    · exact (A.gw g h).2.2 h1
    · have := A.wr.lt g h; omega
  · simp only [List.length_append, List.length_singleton]; exact hc
/-- A frame more that was written. -/
theorem RCA.wrote {w : World} {p : Nat} {vS : Value} {E0 : List Ev} {F0 : List Nat} {Rb n : Nat} {x : CS} {W : World} {F : List Nat} {vl : Value} {Gl : List Nat} {gw off cap : Nat} {Gw : List Nat} (A : RCA w p vS E0 F0 Rb n x W F vl Gl (.slice (some ⟨gw, off, none⟩) n cap) Gw) (hf : x.f = []) (t : Nat) (ht : t < n) (hs : x.s.s ≠ 1) :
    RCA w p vS E0 F0 Rb n ⟨x.s, x.B, x.c, [(t : Int)]⟩ (W.setCell ⟨gw, off + t, none⟩ (.bool true)) F vl Gl (.slice (some ⟨gw, off, none⟩) n cap) Gw := by
  have hbig := A.big
  have hr0 := A.r0
  have hs' := A.wr
  rw [hf] at hs'
  have s1 := hs'.store t ht [.bool true] rfl
  rw [Nat.mul_one] at s1
  have hGw : Gw = [gw] := (hs'.there t ht).2.1
  have e : (wrow n []).take t ++ [.bool true] ++ (wrow n []).drop (t + 1) = wrow n [(t : Int)] := by
    rw [← wrow_set n t ht, List.set_eq_take_append_cons_drop, if_pos (by rw [wrow_len]; exact ht)]; simp
  rw [e] at s1
  have P : Put [gw] W (W.setCell ⟨gw, off + t, none⟩ (.bool true)) := (Put.refl W).setCell (by simp) _
  have hgw := A.gw gw (by rw [hGw]; simp)
  have ng : ∀ g, g ≠ gw → g ∉ [gw] := fun g h hm => h (by simpa using hm)
  refine ⟨A.dev.put P fun g h => ng g (fun e => hgw.2.1 (e ▸ h)), A.row.put P (ng _ (by omega)), P.keeps A.bx (ng _ (by omega)), A.l.put P fun g h => ng g (fun e => hgw.2.2 (e ▸ h)), s1, ?_, A.fF, A.gl, A.gw, A.f0, A.r0, A.rF, ⟨A.ok.s, A.ok.B, A.ok.fits⟩, A.len, A.cnt, .inr hs, .inr ⟨t, ht, rfl⟩, Nat.lt_of_lt_of_le hbig P.size⟩
  refine A.put.onto P fun g hm hlt => ?_
  simp at hm; omega
end Go.Proofs.Ytpieeefeicdfgab
