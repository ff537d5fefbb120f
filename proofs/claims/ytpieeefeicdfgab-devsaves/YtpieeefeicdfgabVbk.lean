/- Devices beside a memory and the document's memory. -/
import Derived.Test.YtpieeefeicdfgabVmem
namespace Go.Proofs.Ytpieeefeicdfgab
open Go.RowKit
set_option linter.unusedVariables false

/-- No block of devices is one of an elder or newer memory's own: they bear other marks. -/
theorem Sli.off {w : World} {e : TypeId} {z : Nat} {u : Value} {n : Nat} {xs : List Value} {F : List Nat} (h : Sli w e z u n xs F) {v : Value} {R : Nat} {ix : List Nat} (hr : Ram w v R ix) (h1 : e ≠ 127) (h2 : e ≠ 37) : Off w v F := by
  rcases h with ⟨_, ⟨_, _, rfl⟩ | ⟨g, off, cap, cur, _, rfl, hg, _⟩⟩
  · exact fun p e => ⟨by simp, by simp⟩
  · exact off_tag hr hg h1 h2
theorem Dev.off {w : World} {p : Nat} {s : DS} {F : List Nat} (h : Dev w p s F) {v : Value} {R : Nat} {ix : List Nat} (hr : Ram w v R ix) : Off w v F := by
  obtain ⟨vs, vq, vo, vb, Fs, Fq, Fo, Fb, D, rfl⟩ := h
  have h0 : Off w v [p] := off_tag hr D.box (by decide) (by decide)
  exact (h0.app ((D.sc.off hr (by decide) (by decide)).app ((D.q.off hr (by decide) (by decide)).app ((D.o.off hr (by decide) (by decide)).app (D.d.off hr (by decide) (by decide)))))).sub (by simp)
/-- Devices s at p, a memory of five frames with the bytes B, the document's with the bytes C in a box at g. -/
def BK (w : World) (p : Nat) (s : DS) (pr R : Nat) (B : List Int) (Rb g : Nat) (C : List Int) (W : World) : Prop := ∃ F, Dev W p s F ∧ s.Ok ∧ MemS W (.pointer (some ⟨pr, 0, none⟩)) R (List.range 5) B F ∧ B.length = 320 ∧ Byts B ∧ RowB W Rb C ∧ C.length = 320 ∧ W.heap[g]? = some (.cells #[.slice (some ⟨Rb, 0, none⟩) 320 320] 42 (0, 0)) ∧ (∀ x ∈ F, w.heap.size ≤ x ∧ x ≠ Rb ∧ x ≠ g) ∧ R ≠ Rb ∧ R ≠ g ∧ w.heap.size ≤ R ∧ Kep w W
theorem ne320 {B : List Int} (h : B.length = 320) : B ≠ [] := by intro e; rw [e] at h; simp at h
theorem MemS.real {w : World} {v : Value} {R : Nat} {ix F : List Nat} {B : List Int} (h : MemS w v R ix B F) (hB : B ≠ []) : Mem w v R ix B := by
  rcases h with ⟨_, _, h⟩ | ⟨_, h, _⟩
  · exact absurd h hB
  · exact h
theorem BK.kep {w : World} {p : Nat} {s : DS} {pr R : Nat} {B : List Int} {Rb g : Nat} {C : List Int} {W W' : World} (h : BK w p s pr R B Rb g C W) (k : Kep W W') : BK w p s pr R B Rb g C W' := by
  obtain ⟨F, d, ok, m, lB, bB, rC, lC, bx, f, n1, n2, n3, K⟩ := h
  exact ⟨F, d.kep k, ok, m.kep k, lB, bB, rC.kep k, lC, k.block bx, f, n1, n2, n3, kep_trans K k⟩
theorem BK.world {w : World} {p : Nat} {s : DS} {pr R : Nat} {B : List Int} {Rb g : Nat} {C : List Int} {W : World} (h : BK w p s pr R B Rb g C W) : Kep w W := by
  obtain ⟨F, d, ok, m, lB, bB, rC, lC, bx, f, n1, n2, n3, K⟩ := h; exact K
theorem BK.box {w : World} {p : Nat} {s : DS} {pr R : Nat} {B : List Int} {Rb g : Nat} {C : List Int} {W : World} (h : BK w p s pr R B Rb g C W) : W.cell? ⟨g, 0, none⟩ = some (.slice (some ⟨Rb, 0, none⟩) 320 320) := by
  obtain ⟨F, d, ok, m, lB, bB, rC, lC, bx, f, n1, n2, n3, K⟩ := h
  rw [cell_of_block bx]; rfl
theorem writeS_ok {s : DS} (h : s.Ok) (port v : Int) (hv : 0 ≤ v ∧ v < 4294967296) : (writeS s port v).Ok := by
  unfold writeS
  split
  · exact ⟨h.b, h.m, h.q, h.qb, h.d, h.d6, h.db, h.n, h.a, h.f, h.t, h.cmd, h.ev⟩
  split
  · exact ⟨h.b, h.m, h.q, h.qb, h.d, h.d6, h.db, hv, h.a, h.f, h.t, h.cmd, h.ev⟩
  split
  · exact ⟨h.b, h.m, h.q, h.qb, h.d, h.d6, h.db, h.n, hv, h.f, h.t, h.cmd, h.ev⟩
  split
  · unfold giveS
    split
    · rename_i hg
      exact ⟨h.b, h.m, h.q, h.qb, h.d, h.d6, h.db, h.n, h.a, h.n, h.a, .inl ⟨rfl, hg.2⟩, h.ev⟩
    · exact h
  split
  · exact ⟨h.b, ⟨by show 0 ≤ v % 8; omega, by show v % 8 ≤ 7; omega⟩, h.q, h.qb, h.d, h.d6, h.db, h.n, h.a, h.f, h.t, h.cmd, h.ev⟩
  split
  · exact Ok.bits h (clr_low h.b)
  · exact h
theorem BK.write {w : World} {p : Nat} {s : DS} {pr R : Nat} {B : List Int} {Rb g : Nat} {C : List Int} {W : World} (h : BK w p s pr R B Rb g C W) (hO : s.O = []) (port v : Int) (hv : 0 ≤ v ∧ v < 4294967296) {s' : DS} (hs : writeS s port v = s') :
    Calls Try.prog 10 #[.pointer (some ⟨p, 0, none⟩), .int .i64 port, .int .u32 v] W fun e W' => e = .returned (.tuple #[]) ∧ BK w p s' pr R B Rb g C W' := by
  obtain ⟨F, d, ok, m, lB, bB, rC, lC, bx, f, n1, n2, n3, K⟩ := h
  refine (write_dev d ok (by rw [hO]; decide) port v hv).mono ?_
  rintro e W' ⟨rfl, F', d', k', f'⟩
  have lb := rC.lt (ne320 lC)
  have lg := block_lt bx
  have ok' := writeS_ok ok port v hv
  rw [hs] at d' ok'
  refine ⟨rfl, F', d', ok', m.put k' f', lB, bB, rC.put k' (fun hx => (f Rb hx).2.1 rfl), lC, k'.keeps bx (fun hx => (f g hx).2.2 rfl), fun x hx => ?_, n1, n2, n3, K.put k' (fun x hx => (f x hx).1)⟩
  rcases f' x hx with h | h
  · exact f x h
  · exact ⟨by have := K.size; omega, by omega, by omega⟩
theorem BK.in {w : World} {p : Nat} {s : DS} {pr R : Nat} {B : List Int} {Rb g : Nat} {C : List Int} {W : World} (h : BK w p s pr R B Rb g C W) (port : Int) {r : Int} (hr : inI s port = r) :
    Calls Try.prog 9 #[.pointer (some ⟨p, 0, none⟩), .int .i64 port] W fun e W' => e = .returned (.int .u32 r) ∧ W' = W := by
  obtain ⟨F, d, ok, _⟩ := h
  have := in_any d ok port
  rw [hr] at this; exact this
theorem BK.come {w : World} {p : Nat} {s : DS} {pr R : Nat} {B : List Int} {Rb g : Nat} {C : List Int} {W : World} (h : BK w p s pr R B Rb g C W) (hE : s.E.length ≤ 64) (step : Int) {x : CS} (hx : comeC step (List.range 5) ⟨s, B, [], []⟩ = x) :
    Calls Try.prog 8 #[.pointer (some ⟨p, 0, none⟩), .int .i64 step, .pointer (some ⟨pr, 0, none⟩)] W fun e W' => ∃ (vc : Value) (xw : Option Addr) (cw : Nat), e = .returned (.tuple #[vc, .slice xw x.f.length cw]) ∧ (x.f.length : Int) ≤ cw ∧ (cw : Int) ≤ 9223372036854775807 ∧ Lies W' xw (x.f.map (Value.int .i64)) ∧ BK w p x.s pr R x.B Rb g C W' := by
  obtain ⟨F, d, ok, m, lB, bB, rC, lC, bx, f, n1, n2, n3, K⟩ := h
  refine (come_any W p s F d ok hE _ R (List.range 5) B m bB (fits_range lB) step).mono ?_
  rw [hx]
  rintro e W' ⟨vc, vw, F', Gc, Gw, rfl, d', m', sc, sw, k', f', _, _, ok', _, _, lB'⟩
  obtain ⟨xw, cw, rfl, hl, h1, h2, _⟩ := sw.lies
  have lb := rC.lt (ne320 lC)
  have lg := block_lt bx
  have hrw : rwL R B = [R] := by unfold rwL; rw [if_neg (ne320 lB)]
  rw [hrw] at k'
  refine ⟨vc, xw, cw, rfl, by omega, by unfold maxLen at h2; omega, hl, F', d', ok'.s, m', by rw [lB', lB], ok'.B, rC.put k' ?_, lC, k'.keeps bx ?_, fun y hy => ?_, n1, n2, n3, K.put k' ?_⟩
  · intro hm
    rcases List.mem_append.1 hm with h | h
    · exact n1 (List.mem_singleton.1 h).symm
    · exact (f Rb h).2.1 rfl
  · intro hm
    rcases List.mem_append.1 hm with h | h
    · exact n2 (List.mem_singleton.1 h).symm
    · exact (f g h).2.2 rfl
  · rcases f' y hy with h | h
    · exact f y h
    · exact ⟨by have := K.size; omega, by omega, by omega⟩
  · intro y hm
    rcases List.mem_append.1 hm with h | h
    · obtain rfl : y = R := by simpa using h
      exact n3
    · exact (f y h).1
theorem BK.frame {w : World} {p : Nat} {s : DS} {pr R : Nat} {B : List Int} {Rb g : Nat} {C : List Int} {W : World} (h : BK w p s pr R B Rb g C W) (k : Nat) (hk : k < 5) :
    Calls Try.prog 54 #[.pointer (some ⟨pr, 0, none⟩), .int .i64 k] W fun e w' => ∃ u : Value, e = .returned u ∧ Str w' u (strL (frameL B k)) ∧ Kep W w' := by
  obtain ⟨F, d, ok, m, lB, bB, rC, lC, bx, f, n1, n2, n3, K⟩ := h
  have M := m.real (ne320 lB)
  have hl := frameL_len (B := B) (i := k) (by omega)
  refine (frame_yes W _ R _ B M.ram M.row (fits_range lB) k (by simpa using hk)).mono ?_
  rintro e w' ⟨rfl, K, hb⟩
  have hg : (List.range 5).getD k 0 = k := by simp [List.getD, hk]
  rw [hg] at hb
  refine ⟨_, rfl, rd_str ⟨W.heap.size, 0, 64, by rw [hl], ?_⟩ (by intro e; rw [e] at hl; simp at hl), K⟩
  intro j u hu
  rw [Addr.add_lit, Nat.zero_add, cell_of_block hb]
  simpa using hu
theorem BK.rframe {w : World} {p : Nat} {s : DS} {pr R : Nat} {B : List Int} {Rb g : Nat} {C : List Int} {W : World} (h : BK w p s pr R B Rb g C W) (k : Nat) (hk : k < 5) :
    Calls Try.prog 55 #[refV (some ⟨Rb, 0, none⟩) 320, .int .i64 k] W fun e w' => ∃ u : Value, e = .returned u ∧ Str w' u (strL (frameL C k)) ∧ Kep W w' := by
  obtain ⟨F, d, ok, m, lB, bB, rC, lC, bx, f, n1, n2, n3, K⟩ := h
  have hl := frameL_len (B := C) (i := k) (by omega)
  have := refFrame_yes W (some ⟨Rb, 0, none⟩) Rb C ⟨rC, fun _ => rfl, by omega⟩ 5 lC k hk
  rw [lC] at this
  refine this.mono ?_
  rintro e w' ⟨u, rfl, hr, K⟩
  exact ⟨u, rfl, rd_str hr (by intro e; rw [e] at hl; simp at hl), K⟩
theorem BK.disk {w : World} {p : Nat} {s : DS} {pr R : Nat} {B : List Int} {Rb g : Nat} {C : List Int} {W : World} (h : BK w p s pr R B Rb g C W) (hD : s.D.length = 512) :
    Calls Try.prog 20 #[.pointer (some ⟨p, 0, none⟩)] W fun e w' => ∃ (q off cap : Nat), e = .returned (.slice (some ⟨q, off, none⟩) 512 cap) ∧ (512 : Int) ≤ cap ∧ (cap : Int) ≤ 9223372036854775807 ∧ Lies w' (some ⟨q, off, none⟩) (byt s.D) ∧ Kep W w' := by
  obtain ⟨F, d, ok, _⟩ := h
  refine (disk_any d ok).mono ?_
  rintro e w' ⟨v, rfl, ⟨G, sl, _⟩, K⟩
  rcases sl.form with ⟨_, h0, _⟩ | ⟨q, off, cap, rfl, _, h1, h2, h3, h4, _⟩
  · omega
  · rw [hD] at h1 ⊢
    exact ⟨q, off, cap, rfl, by omega, by unfold maxLen at h2; omega, .inr ⟨q, off, rfl, h3, h4⟩, K⟩
end Go.Proofs.Ytpieeefeicdfgab
