/- The shadow beside the document's. -/
import Derived.Test.YthgkkjcemjadoaaSdrnew
import Derived.Test.YthgkkjcemjadoaaSdworks
namespace Go.Proofs.Ythgkkjcemjadoaa
open Go.RowKit
set_option linter.unusedVariables false
set_option linter.unusedSimpArgs false

/-- The document's pages and tables are the shadow's. -/
structure DEq (s : SD) (L : List Bool) (T : List Nat) (P : List (Nat × Nat)) (most : Nat) : Prop where
  pages : P = pg 0 s.E
  len : T.length = nTrue L
  most : L.length = most
  tabs : ∀ k, k ∈ T ↔ s.D.getD k 0 ≠ 0
/-- Both; the document's lies at r, from b1 on. -/
structure DM (w wr : World) (p pv R q M r b1 most : Nat) (Fs : List Nat) (s : SD) (B : List Int) (L : List Bool) (T : List Nat) (P : List (Nat × Nat)) (F G : List Nat) (g m : Int) : Prop where
  sh : ShW wr p pv R 40 8 20 q M Z5 s B L g m Fs
  dir : DInv 8 s B
  ref : RS wr r most T P F G
  kep : Kep w wr
  old : p < b1 ∧ R < b1 ∧ q < b1 ∧ M < b1 ∧ ∀ x ∈ Fs, x < b1
  new : b1 ≤ r ∧ (∀ x ∈ F, b1 ≤ x) ∧ ∀ x ∈ G, b1 ≤ x
  late : w.heap.size ≤ b1 ∧ Late w p R q M
section
variable {w wr : World} {p pv R q M r b1 most : Nat} {Fs : List Nat} {s : SD} {B : List Int} {L : List Bool} {T : List Nat} {P : List (Nat × Nat)} {F G : List Nat} {g m : Int}
theorem DM.kp {w' : World} (h : DM w wr p pv R q M r b1 most Fs s B L T P F G g m) (k : Kep wr w') : DM w w' p pv R q M r b1 most Fs s B L T P F G g m :=
  ⟨h.sh.kep k, h.dir, h.ref.kep k, kep_trans h.kep k, h.old, h.new, h.late⟩
theorem DM.turn {w' : World} {s' : SD} {B' : List Int} {L' : List Bool} {g' m' : Int} (h : DM w wr p pv R q M r b1 most Fs s B L T P F G g m) (S : ShW w' p pv R 40 8 20 q M Z5 s' B' L' g' m' Fs) (D : DInv 8 s' B') (k : Put [p, R, q, M] wr w') : DM w w' p pv R q M r b1 most Fs s' B' L' T P F G g' m' := by
  obtain ⟨o1, o2, o3, o4, _⟩ := h.old
  obtain ⟨n1, n2, n3⟩ := h.new
  obtain ⟨l1, l2⟩ := h.late
  refine ⟨S, D, h.ref.put k (by simp; omega) (fun x hx => ?_) (fun x hx => ?_), h.kep.put k (by unfold Late at l2; simp; omega), h.old, h.new, h.late⟩
  · have := n2 x hx; simp; omega
  · have := n3 x hx; simp; omega
theorem DM.lt (h : DM w wr p pv R q M r b1 most Fs s B L T P F G g m) : b1 ≤ wr.heap.size := by
  obtain ⟨_, _, hb, _⟩ := h.ref.box
  have := block_lt hb
  have := h.new.1
  omega
theorem DM.gtags (h : DM w wr p pv R q M r b1 most Fs s B L T P F G g m) {z : Nat} {cs : Array Value} {t : TypeId} {fr : Nat × Nat} (hz : wr.heap[z]? = some (.cells cs t fr)) (h1 : t ≠ 32) (h2 : t ≠ 34) : z ∉ r :: G := by
  obtain ⟨_, _, hb, _, ht⟩ := h.ref.box
  intro hm
  rcases List.mem_cons.1 hm with rfl | hm
  · rw [hb] at hz; simp at hz; exact h1 hz.2.1.symm
  · obtain ⟨cur, hc⟩ := ht.tag hm
    rw [hc] at hz; simp at hz; exact h2 hz.2.1.symm
theorem DM.rturn {w' : World} {T' : List Nat} {P' : List (Nat × Nat)} {F' G' : List Nat} (h : DM w wr p pv R q M r b1 most Fs s B L T P F G g m) (a : RS w' r most T' P' F' G') (k : Put (r :: G) wr w') (hF : ∀ x ∈ F', wr.heap.size ≤ x) (hG : ∀ x ∈ G', x ∈ G ∨ wr.heap.size ≤ x) : DM w w' p pv R q M r b1 most Fs s B L T' P' F' G' g m := by
  obtain ⟨o1, o2, o3, o4, o5⟩ := h.old
  obtain ⟨n1, n2, n3⟩ := h.new
  have hlt := h.lt
  have far : ∀ z, z < b1 → z ∉ r :: G := fun z hz hm => by
    rcases List.mem_cons.1 hm with rfl | hm
    · omega
    · have := n3 z hm; omega
  have tg : Tagd wr R (r :: G) := by
    obtain ⟨_, _, hb, _, ht⟩ := h.ref.box
    intro z hz
    rcases List.mem_cons.1 hz with rfl | hz
    · exact .inr fun cs t fr hc => by rw [hb] at hc; simp at hc; obtain ⟨_, rfl, _⟩ := hc; exact ⟨by decide, by decide⟩
    · obtain ⟨cur, hg⟩ := ht.tag hz
      exact .inr fun cs t fr hc => by rw [hg] at hc; simp at hc; obtain ⟨_, rfl, _⟩ := hc; exact ⟨by decide, by decide⟩
  refine ⟨⟨h.sh.sh.put k (far p o1) (fun x hx => far x (o5 x hx)), ram_tags h.sh.ram k tg, h.sh.row.put k (far R o2), h.sh.pool.put k (far q o3) (far M o4), h.sh.inv⟩, h.dir, a, h.kep.put k (fun x hx => ?_), h.old, ⟨n1, fun x hx => ?_, fun x hx => ?_⟩, h.late⟩
  · have := h.late.1
    rcases List.mem_cons.1 hx with rfl | hx
    · omega
    · have := n3 x hx; omega
  · have := hF x hx; omega
  · rcases hG x hx with e | e
    · exact n3 x e
    · omega
theorem DEq.put {s' : SD} {L' : List Bool} {va fr x : Nat} (e : DEq s L T P most) (hE : s.E.length = 512) (hv : va < 32768) (hf : fr < 40) (pr : PutR 40 s L va fr x true s' L') (T' : List Nat) (hT : T' = if va / 1024 ∈ T then T else T ++ [va / 1024]) : DEq s' L' T' (insL (va / 64, entN fr x) (without (va / 64) P)) most := by
  obtain ⟨_, _, hl, _, hy⟩ := pr
  obtain ⟨y1, y2, y3⟩ := hy rfl
  have hi : va / 64 < s.E.length := by omega
  have hin := e.tabs (va / 1024)
  refine ⟨?_, ?_, hl.trans e.most, fun k => ?_⟩
  · rw [e.pages, without_pg hi, insL_pg hi (entN_ok x hf).2, y1]; rfl
  · rw [hT, y3, ← e.len]
    by_cases hm : va / 1024 ∈ T
    · rw [if_pos hm, if_neg (hin.1 hm)]; rfl
    · rw [if_neg hm, if_pos (Classical.byContradiction fun h => hm (hin.2 h))]; simp
  · have hk := e.tabs k
    have := y2 k
    rw [hT]
    by_cases hm : va / 1024 ∈ T
    · rw [if_pos hm, hk]
      constructor
      · exact fun h1 h2 => h1 (this.1 h2).1
      · intro h1 h2
        by_cases ek : k = va / 1024
        · subst ek; exact hin.1 hm h2
        · exact h1 (this.2 ⟨h2, ek⟩)
    · rw [if_neg hm, List.mem_append, List.mem_singleton, hk]
      constructor
      · rintro (h1 | h1) h2
        · exact h1 (this.1 h2).1
        · exact (this.1 h2).2 h1
      · intro h1
        by_cases ek : k = va / 1024
        · exact .inr ek
        · exact .inl fun h2 => h1 (this.2 ⟨h2, ek⟩)
/-- The document's Put, behind the shadow's. -/
theorem DM.rput {s' : SD} {B' : List Int} {L' : List Bool} {b : Bool} {va x : Nat} {fr : Int} (h : DM w wr p pv R q M r b1 most Fs s' B' L' T P F G g m) (e : DEq s L T P most) (pr : PutR 40 s L va fr x b s' L') (hU : va < 16384 ∨ s.U = []) (hva : va < 4294967296) (hx : x < 4294967296) (hm : most ≤ 12) (hE : s.E.length = 512) :
    Calls Try.prog 26 #[.pointer (some ⟨r, 0, none⟩), .int .u32 va, .int .i64 fr, .int .u32 x] wr fun e w' => e = .returned (.bool b) ∧ Put (r :: G) wr w' ∧ ∃ T' P' F' G', DM w w' p pv R q M r b1 most Fs s' B' L' T' P' F' G' g m ∧ DEq s' L' T' P' most := by
  have hTl : T.length ≤ 12 := by have := e.len; have := nTrue_le L; have := e.most; omega
  have hPl : P.length ≤ 600 := by rw [e.pages]; have := pg_len s.E 0; omega
  have hb := pr.1
  by_cases hno : 32768 ≤ va ∨ fr < 0 ∨ 40 ≤ fr
  · have : b = false := by rw [hb]; exact decide_eq_false fun hh => by obtain ⟨h1, h2, h3, _⟩ := hh; omega
    subst this
    obtain ⟨rfl, rfl⟩ := pr.2.2.2.1 rfl
    refine (rs_put_no1 wr r most T P F G h.ref va fr _ hno).mono ?_
    rintro e' w' ⟨rfl, rfl⟩
    exact ⟨rfl, Put.refl _, T, P, F, G, h, e⟩
  · have hv : va < 32768 := by omega
    have hok : va < 16384 ∨ (va < 32768 ∧ s.U = []) := hU.imp id fun e => ⟨hv, e⟩
    obtain ⟨fn, rfl⟩ : ∃ fn : Nat, fr = fn := ⟨fr.toNat, by omega⟩
    have hf : fn < 40 := by omega
    have hin := e.tabs (va / 1024)
    by_cases hm' : va / 1024 ∈ T
    · have hbt : b = true := by
        rw [hb]; exact decide_eq_true ⟨hok, by omega, by omega, .inl (hin.1 hm')⟩
      subst hbt
      have D := DEq.put e hE hv hf pr T (by rw [if_pos hm'])
      refine (rs_put_has wr r most T P F G h.ref va fn x hv hf hx (by omega) hPl (by omega) hm').mono ?_
      rintro e' w' ⟨rfl, F', G', a, k, hF, hG⟩
      exact ⟨rfl, k, T, _, F', G', h.rturn a k hF hG, D⟩
    · have hD0 : s.D.getD (va / 1024) 0 = 0 := Classical.byContradiction fun hh => hm' (hin.2 hh)
      by_cases hl : T.length < most
      · have hbt : b = true := by
          rw [hb]; exact decide_eq_true ⟨hok, by omega, by omega, .inr (by rw [← e.len, e.most]; exact hl)⟩
        subst hbt
        have D := DEq.put e hE hv hf pr (T ++ [va / 1024]) (by rw [if_neg hm'])
        refine (rs_put_new wr r most T P F G h.ref va fn x hv hf hx (by omega) hPl (by omega) hm' hl).mono ?_
        rintro e' w' ⟨rfl, F', G', a, k, hF, hG⟩
        exact ⟨rfl, k, _, _, F', G', h.rturn a k hF hG, D⟩
      · have hbf : b = false := by
          rw [hb]; exact decide_eq_false fun hh => by
            obtain ⟨_, _, _, h4⟩ := hh
            rcases h4 with h4 | h4
            · exact h4 hD0
            · rw [← e.len, e.most] at h4; exact hl h4
        subst hbf
        obtain ⟨rfl, rfl⟩ := pr.2.2.2.1 rfl
        refine (rs_put_full wr r most T P F G h.ref va fn x hv hf hx (by omega) hPl (by omega) hm' (by omega)).mono ?_
        rintro e' w' ⟨rfl, k⟩
        exact ⟨rfl, Put.of_kep k, T, P, F, G, h.kp k, e⟩
theorem DM.rdrop {s' : SD} {B' : List Int} {va : Nat} (h : DM w wr p pv R q M r b1 most Fs s' B' L T P F G g m) (e : DEq s L T P most) (hD : s'.D = s.D) (hEE : s'.E = s.E.set (va / 64) 0) (hva : va < 4294967296) (hE : s.E.length = 512) :
    Calls Try.prog 27 #[.pointer (some ⟨r, 0, none⟩), .int .u32 va] wr fun e w' => e = .returned (.tuple #[]) ∧ ∃ T' P' F' G', DM w w' p pv R q M r b1 most Fs s' B' L T' P' F' G' g m ∧ DEq s' L T' P' most := by
  have hPl : P.length ≤ 600 := by rw [e.pages]; have := pg_len s.E 0; omega
  have hP : without (va / 64) P = pg 0 s'.E := by
    rw [e.pages, hEE]
    by_cases hi : va / 64 < s.E.length
    · exact without_pg hi
    · exact without_far (by omega)
  refine (rs_drop wr r most T P F G h.ref va hva hPl).mono ?_
  rintro e' w' ⟨F', rfl, a, k, hF⟩
  exact ⟨rfl, T, _, F', G, h.rturn a (k.mono (by simp)) hF (fun x hx => .inl hx), hP, e.len, e.most, fun k => by rw [hD]; exact e.tabs k⟩
theorem DM.rclear {B' : List Int} {L' : List Bool} (h : DM w wr p pv R q M r b1 most Fs (clrS s) B' L' T P F G g m) (hl : L'.length = most) (h0 : nTrue L' = 0) :
    Calls Try.prog 29 #[.pointer (some ⟨r, 0, none⟩)] wr fun e w' => e = .returned (.tuple #[]) ∧ ∃ T' P' F' G', DM w w' p pv R q M r b1 most Fs (clrS s) B' L' T' P' F' G' g m ∧ DEq (clrS s) L' T' P' most := by
  refine (rs_clear wr r most T P F G h.ref).mono ?_
  rintro e' w' ⟨rfl, a, k⟩
  refine ⟨rfl, [], [], [], [], h.rturn a (k.mono (by simp)) (by simp) (by simp), ?_, by simp [h0], hl, fun k => ?_⟩
  · exact (pg_zero 512 0).symm
  · have : (clrS s).D.getD k 0 = 0 := grep 32 k
    exact ⟨fun h => by simp at h, fun h => absurd this h⟩
end
/-- Both in a round: k calls have been. -/
def DR (w wr : World) (p pv R q M r b1 most : Nat) (Fs : List Nat) (U : List Nat) (k : Nat) : Prop :=
  ∃ s B L T P F G g m, DM w wr p pv R q M r b1 most Fs s B L T P F G g m ∧ DEq s L T P most ∧ s.U = U ∧ (0 ≤ g ∧ g ≤ (k : Int)) ∧ (0 ≤ m ∧ m ≤ (k : Int))
theorem DR.kp {w wr w' : World} {p pv R q M r b1 most : Nat} {Fs U : List Nat} {k : Nat} (h : DR w wr p pv R q M r b1 most Fs U k) (K : Kep wr w') : DR w w' p pv R q M r b1 most Fs U k := by
  obtain ⟨s, B, L, T, P, F, G, g, m, a, r⟩ := h
  exact ⟨s, B, L, T, P, F, G, g, m, a.kp K, r⟩
theorem DR.kep {w wr : World} {p pv R q M r b1 most : Nat} {Fs U : List Nat} {k : Nat} (h : DR w wr p pv R q M r b1 most Fs U k) : Kep w wr := by
  obtain ⟨s, B, L, T, P, F, G, g, m, a, _⟩ := h
  exact a.kep
theorem DR.more {w wr : World} {p pv R q M r b1 most : Nat} {Fs U : List Nat} {k : Nat} (h : DR w wr p pv R q M r b1 most Fs U k) : DR w wr p pv R q M r b1 most Fs U (k + 1) := by
  obtain ⟨s, B, L, T, P, F, G, g, m, a, b, c, d, e⟩ := h
  exact ⟨s, B, L, T, P, F, G, g, m, a, b, c, by omega, by omega⟩
end Go.Proofs.Ythgkkjcemjadoaa
