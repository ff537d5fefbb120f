/- Two answers and two memories are the same: told so; devices beside the document's: what holds between two steps, a step, a copy, the start and the end. What devices have, saved: whether a status and a command fit together; the call Save. What was saved is loaded, or refused. Two of what was saved are the same: told so; what Load refuses. What comes in: two rows of steps; what was saved. Devices saved and loaded in the law's walk: what is saved, as one array; other devices of the same data. -/
import Derived.Test.YtpieeefeicdfgabVcl
import Derived.Test.YtpieeefeicdfgabVbk
import Derived.Test.YtpieeefeicdfgabVrde
import Derived.Test.YtpieeefeicdfgabVout
import Derived.Test.YtpieeefeicdfgabVerr
import Derived.ChangeKeysEq
import Derived.Deep.RegionHeld3
import Derived.Deep.Cut
import Derived.DeepKeys
import Derived.Great.Walk
import Derived.SizedLaws
import Derived.Deep.CutRange
namespace Go.Proofs.Ytpieeefeicdfgab
open Go.RowKit
set_option linter.unusedVariables false
set_option linter.unusedSimpArgs false

set_option maxHeartbeats 4000000 in
set_option maxRecDepth 100000 in
theorem lsame_any (w : World) (xa xb xx xy : Option Addr) (ca cb cx cy : Nat) (C : List Ev) (f : List Int) (hC : (C.length : Int) ≤ 64) (hf : (f.length : Int) ≤ 64) (ha : Lies w xa (evs C)) (hb : Lies w xb (evs C)) (hx : Lies w xx (f.map (Value.int .i64))) (hy : Lies w xy (f.map (Value.int .i64))) (h1 : C.length ≤ ca) (h2 : C.length ≤ cb) (h3 : f.length ≤ cx) (h4 : f.length ≤ cy) :
    Calls Try.prog 45 #[.slice xa C.length ca, .slice xb C.length cb, .slice xx f.length cx, .slice xy f.length cy] w fun e w' => e = .returned (.bool true) ∧ Kep w w' := by
  have Ha : Hid (Lies w xa (evs C)) := ha
  have Hb : Hid (Lies w xb (evs C)) := hb
  have Hx : Hid (Lies w xx (f.map (Value.int .i64))) := hx
  have Hy : Hid (Lies w xy (f.map (Value.int .i64))) := hy
  obtain ⟨n, hn⟩ : ∃ n, Hid (n = C.length) := ⟨_, rfl⟩
  obtain ⟨m, hm⟩ : ∃ m, Hid (m = f.length) := ⟨_, rfl⟩
  rw [← hn.out, ← hm.out]
  rw [← hn.out] at hC h1 h2
  rw [← hm.out] at hf h3 h4
  clear ha hb hx hy
  go_enter Try.func45, Try.ntmps45
  go_wp2_with fail
  go_loopw [9] (fun i wr => ∃ k : Nat, (k : Int) ≤ n ∧ i = .int .i64 k ∧ Hid (Kep w wr)) (fun i _ => n - (intOf i).toNat)
  case atStart => exact ⟨0, by omega, rfl, Kep.refl _⟩
  case round =>
    obtain ⟨k, hk, rfl, K⟩ := hrel
    by_cases hlt : k < n
    · have hlt' : (k : Int) < n := by omega
      have hln := hn.out
      obtain ⟨e, he⟩ : ∃ e, C[k]? = some e := ⟨_, List.getElem?_eq_getElem (by omega)⟩
      obtain ⟨e0, e1, e2⟩ := e
      rcases (Ha.out.kep K.out) with h0 | ⟨b, off, rfl, _, hca⟩
      · have := evs_len C; rw [h0] at this; simp at this; omega
      rcases (Hb.out.kep K.out) with h0 | ⟨b', off', rfl, _, hcb⟩
      · have := evs_len C; rw [h0] at this; simp at this; omega
      have v0 : (evs C)[k * 3 + 0]? = some (.int .i64 e0) := by have := evs_at C k _ he 0 (by omega); simpa [evV] using this
      have v1 : (evs C)[k * 3 + 1]? = some (.int .i64 e1) := by have := evs_at C k _ he 1 (by omega); simpa [evV] using this
      have v2 : (evs C)[k * 3 + 2]? = some (.int .u8 e2) := by have := evs_at C k _ he 2 (by omega); simpa [evV] using this
      have p0 : wr.cell? ⟨b, off + k * 3, none⟩ = some (.int .i64 e0) := hca _ _ v0
      have p1 : wr.cell? ⟨b, off + k * 3 + 1, none⟩ = some (.int .i64 e1) := by rw [Nat.add_assoc]; exact hca _ _ v1
      have p2 : wr.cell? ⟨b, off + k * 3 + 2, none⟩ = some (.int .u8 e2) := by rw [Nat.add_assoc]; exact hca _ _ v2
      have r0 : wr.cell? ⟨b', off' + k * 3, none⟩ = some (.int .i64 e0) := hcb _ _ v0
      have r1 : wr.cell? ⟨b', off' + k * 3 + 1, none⟩ = some (.int .i64 e1) := by rw [Nat.add_assoc]; exact hcb _ _ v1
      have r2 : wr.cell? ⟨b', off' + k * 3 + 2, none⟩ = some (.int .u8 e2) := by rw [Nat.add_assoc]; exact hcb _ _ v2
      have hsm := ev_same e0 e1 e2
      clear hca hcb he hln v0 v1 v2 hlt hk
      go_wp2_with fail
      go_quiet (fail)
      go_wp2_with fail
      go_roundw
      case rel => exact ⟨k + 1, by omega, by go_num, K.out.drewN _⟩
      case measure => simp [intOf]; omega
    · have K' := K
      clear K Ha Hb hk
      go_wp2_with fail
      go_loopw [10] (fun i wz => ∃ j : Nat, (j : Int) ≤ m ∧ i = .int .i64 j ∧ Hid (Kep w wz)) (fun i _ => m - (intOf i).toNat)
      case atStart => exact ⟨0, by omega, rfl, K'⟩
      case round =>
        rename World => wz
        obtain ⟨j, hj, rfl, K⟩ := hrel
        by_cases hlt2 : j < m
        · have hlt' : (j : Int) < m := by omega
          have hln := hm.out
          obtain ⟨e, he⟩ : ∃ e, f[j]? = some e := ⟨_, List.getElem?_eq_getElem (by omega)⟩
          have v0 : (f.map (Value.int .i64))[j]? = some (.int .i64 e) := by rw [List.getElem?_map, he]; rfl
          rcases (Hx.out.kep K.out) with h0 | ⟨b, off, rfl, _, hca⟩
          · have := congrArg List.length h0; simp at this; rw [this] at hln; simp at hln; omega
          rcases (Hy.out.kep K.out) with h0 | ⟨b', off', rfl, _, hcb⟩
          · have := congrArg List.length h0; simp at this; rw [this] at hln; simp at hln; omega
          have p0 : wz.cell? ⟨b, off + j, none⟩ = some (.int .i64 e) := hca _ _ v0
          have r0 : wz.cell? ⟨b', off' + j, none⟩ = some (.int .i64 e) := hcb _ _ v0
          clear hca hcb he hln v0 hlt2 hj
          go_wp2_with fail
          go_quiet (fail)
          go_wp2_with fail
          go_roundw
          case rel => exact ⟨j + 1, by omega, by go_num, K.out.drewN _⟩
          case measure => simp [intOf]; omega
        · go_wp2_with fail
          go_ret
          exact ⟨rfl, K.out⟩

set_option maxHeartbeats 4000000 in
set_option maxRecDepth 100000 in
theorem alike_any (w : World) (v : Value) (R n : Nat) (x : Option Addr) (Rb : Nat) (B : List Int) (h : Two w v R n x Rb B) :
    Calls Try.prog 21 #[v, refV x B.length] w fun e w' => e = .returned (.bool true) ∧ Kep w w' := by
  have h' : Hid (Two w v R n x Rb B) := h
  have hlen := h.len
  rw [hlen]
  have hn : (n : Int) ≤ 512 := by have := h.le; omega
  have H1 : Hid (∀ w' (k : Nat), Kep w w' → k < n → Calls Try.prog 54 #[v, .int .i64 k] w' fun e w'' => ∃ u : Value, e = .returned u ∧ Str w'' u (strL (frameL B k)) ∧ Kep w' w'') := fun w' k K hk => frame_str w' v R n x Rb B (h'.out.kep K) k hk
  have H2 : Hid (∀ w' (k : Nat), Kep w w' → k < n → Calls Try.prog 55 #[refV x (64 * n), .int .i64 k] w' fun e w'' => ∃ u : Value, e = .returned u ∧ Str w'' u (strL (frameL B k)) ∧ Kep w' w'') := fun w' k K hk => by rw [← hlen]; exact refFrame_str w' v R n x Rb B (h'.out.kep K) k hk
  clear h hlen
  go_enter Try.func21, Try.ntmps21
  go_wp2_with fail
  go_loopw [5] (fun i wr => ∃ k : Nat, (k : Int) ≤ n ∧ i = .int .i64 k ∧ Hid (Kep (w.alloc (.cells #[.slice x (64 * n) (64 * n)] 42)) wr)) (fun i _ => n - (intOf i).toNat)
  case atStart => exact ⟨0, by omega, rfl, Kep.refl _⟩
  case round =>
    obtain ⟨k, hk, rfl, K⟩ := hrel
    have hbx : wr.heap[w.heap.size]? = some (.cells #[.slice x (64 * n) (64 * n)] 42 (0, 0)) := K.out.block (hat _ _ _ rfl)
    have c0 : wr.cell? ⟨w.heap.size, 0, none⟩ = some (.slice x (64 * n) (64 * n)) := by rw [cell_of_block hbx]; rfl
    have lw := block_lt hbx
    have K0 : Hid (Kep w wr) := kep_trans ((Kep.refl w).alloc _) K.out
    by_cases hlt : k < n
    · have hlt' : (k : Int) < n := by omega
      have G1 : Hid (∀ w', Kep wr w' → Calls Try.prog 54 #[v, .int .i64 k] w' fun e w'' => ∃ u : Value, e = .returned u ∧ Str w'' u (strL (frameL B k)) ∧ Kep w' w'') := fun w' K' => H1.out w' k (kep_trans K0.out K') hlt
      have G2 : Hid (∀ w', Kep wr w' → Calls Try.prog 55 #[refV x (64 * n), .int .i64 k] w' fun e w'' => ∃ u : Value, e = .returned u ∧ Str w'' u (strL (frameL B k)) ∧ Kep w' w'') := fun w' K' => H2.out w' k (kep_trans K0.out K') hlt
      generalize strL (frameL B k) = s at G1 G2
      clear hbx
      have K1 : Hid (Kep wr wr.drew) := (Kep.refl _).drew
      go_wp2_with fail
      go_region_with (first
        | (go_at_call 54; refine (G1.out _ K1.out).mono ?_; rintro e wa ⟨u1, rfl, s1, k1⟩; have j1 : Hid (Kep wr wa) := kep_trans K1.out k1; have z1 := s1 wa (Kep.refl _); have z0 := (j1.out.cell (o := 0) lw).trans c0; have s1' : Hid (Str wa u1 s) := s1; clear s1 k1)
        | (go_at_call 55; refine (G2.out _ j1.out).mono ?_; rintro e wb ⟨u2, rfl, s2, k2⟩; have z2 := s2 wb (Kep.refl _); have z3 := s1'.out wb k2; have z4 := (k2.cell (o := 0) (j1.out.lt lw)).trans z0; have j2 : Hid (Kep wr wb) := kep_trans j1.out k2; clear s2 k2))
      all_goals
        go_wp2_with fail
        go_roundw
        case rel => exact ⟨k + 1, by omega, by go_num, kep_trans K.out j2.out⟩
        case measure => simp [intOf]; omega
    · clear hbx H1 H2
      go_wp2_with fail
      go_ret
      exact ⟨rfl, K0.out⟩

theorem MemS.farB {w : World} {v : Value} {R : Nat} {ix F : List Nat} {B : List Int} (h : MemS w v R ix B F) (hB : B ≠ []) : Far w v R F := by
  rcases h with ⟨_, _, h⟩ | ⟨_, _, h⟩
  · exact absurd h hB
  · exact h
theorem MemS.less {w : World} {v : Value} {R : Nat} {ix F G : List Nat} {B : List Int} (h : MemS w v R ix B F) (hs : ∀ g ∈ G, g ∈ F) : MemS w v R ix B G := by
  rcases h with h | ⟨h1, h2, h3⟩
  · exact .inl h
  · exact .inr ⟨h1, h2, h3.sub hs⟩
/-- The document's devices may have other data (t) than the devices (s), and its memory other bytes (C): between the two halves of a step. -/
structure PKA (w : World) (p q : Nat) (s t : DS) (vS : Value) (E0 : List Ev) (pr R Rb gb : Nat) (ob : Obj) (B C : List Int) (W : World) (F G : List Nat) : Prop where
  dev : Dev W p s F
  ref : RDv W q t vS E0 G
  oks : s.Ok
  okt : t.Ok
  mem : MemS W (.pointer (some ⟨pr, 0, none⟩)) R (List.range 5) B (Rb :: (F ++ G))
  row : RowB W Rb C
  lB : B.length = 320
  lC : C.length = 320
  bC : Byts C
  kep : Kep w W
  fg : ∀ g ∈ F, w.heap.size ≤ g ∧ g ≠ Rb ∧ g ∉ G
  gg : ∀ g ∈ G, w.heap.size ≤ g ∧ g ≠ Rb
  r : w.heap.size ≤ R
  rb : w.heap.size ≤ Rb
  bx : W.heap[gb]? = some ob
  bn : gb ≠ R ∧ gb ≠ Rb ∧ gb ∉ F ∧ gb ∉ G
theorem PKA.mk5 {w : World} {p q : Nat} {s t : DS} {vS : Value} {E0 : List Ev} {pr R Rb gb : Nat} {ob : Obj} {B C : List Int} {W : World} {F G : List Nat} (A : PKA w p q s t vS E0 pr R Rb gb ob B C W F G) : Mem W (.pointer (some ⟨pr, 0, none⟩)) R (List.range 5) B := A.mem.real (ne320 A.lB)
theorem PKA.lrb {w : World} {p q : Nat} {s t : DS} {vS : Value} {E0 : List Ev} {pr R Rb gb : Nat} {ob : Obj} {B C : List Int} {W : World} {F G : List Nat} (A : PKA w p q s t vS E0 pr R Rb gb ob B C W F G) : Rb < W.heap.size := A.row.lt (ne320 A.lC)
/-- The devices turn. -/
theorem PKA.code {w : World} {p q : Nat} {s t : DS} {vS : Value} {E0 : List Ev} {pr R Rb gb : Nat} {ob : Obj} {B C : List Int} {W W' : World} {F G F' : List Nat} (A : PKA w p q s t vS E0 pr R Rb gb ob B C W F G) {s' : DS} (P : Put F W W') (d : Dev W' p s' F') (hF : ∀ g ∈ F', g ∈ F ∨ W.heap.size ≤ g) (ok : s'.Ok) : PKA w p q s' t vS E0 pr R Rb gb ob B C W' F' G := by
  have lb := A.lrb
  have ks := A.kep.size
  refine ⟨d, A.ref.put P fun g hg hm => (A.fg g hm).2.2 hg, ok, A.okt, A.mem.put (P.mono fun g hg => ?_) fun g hg => ?_, A.row.put P fun hm => (A.fg _ hm).2.1 rfl, A.lB, A.lC, A.bC, A.kep.put P fun g hg => (A.fg g hg).1, fun g hg => ?_, A.gg, A.r, A.rb, P.keeps A.bx A.bn.2.2.1, A.bn.1, A.bn.2.1, fun hm => ?_, A.bn.2.2.2⟩
  · simp [hg]
  · simp only [List.mem_cons, List.mem_append] at hg ⊢
    rcases hg with h | h | h
    · exact .inl (.inl h)
    · exact (hF g h).imp (fun h => .inr (.inl h)) id
    · exact .inl (.inr (.inr h))
  · rcases hF g hg with h | h
    · exact A.fg g h
    · exact ⟨by omega, by omega, fun hm => by have := A.ref.lt g hm; omega⟩
  · rcases hF gb hm with h | h
    · exact A.bn.2.2.1 h
    · have := block_lt A.bx; omega
/-- The document's devices turn. -/
theorem PKA.reff {w : World} {p q : Nat} {s t : DS} {vS : Value} {E0 : List Ev} {pr R Rb gb : Nat} {ob : Obj} {B C : List Int} {W W' : World} {F G G' : List Nat} (A : PKA w p q s t vS E0 pr R Rb gb ob B C W F G) {t' : DS} (P : Put G W W') (d : RDv W' q t' vS E0 G') (hG : ∀ g ∈ G', g ∈ G ∨ W.heap.size ≤ g) (ok : t'.Ok) : PKA w p q s t' vS E0 pr R Rb gb ob B C W' F G' := by
  have lb := A.lrb
  have ks := A.kep.size
  refine ⟨A.dev.put P fun g hg hm => (A.fg g hg).2.2 hm, d, A.oks, ok, A.mem.put (P.mono fun g hg => ?_) fun g hg => ?_, A.row.put P fun hm => (A.gg _ hm).2 rfl, A.lB, A.lC, A.bC, A.kep.put P fun g hg => (A.gg g hg).1, fun g hg => ⟨(A.fg g hg).1, (A.fg g hg).2.1, fun hm => ?_⟩, fun g hg => ?_, A.r, A.rb, P.keeps A.bx A.bn.2.2.2, A.bn.1, A.bn.2.1, A.bn.2.2.1, fun hm => ?_⟩
  · simp [hg]
  · simp only [List.mem_cons, List.mem_append] at hg ⊢
    rcases hg with h | h | h
    · exact .inl (.inl h)
    · exact .inl (.inr (.inl h))
    · exact (hG g h).imp (fun h => .inr (.inr h)) id
  · rcases hG g hm with h | h
    · exact (A.fg g hg).2.2 h
    · have := A.dev.lt g hg; omega
  · rcases hG g hg with h | h
    · exact A.gg g h
    · exact ⟨by omega, by omega⟩
  · rcases hG gb hm with h | h
    · exact A.bn.2.2.2 h
    · have := block_lt A.bx; omega
theorem PKA.kept {w : World} {p q : Nat} {s t : DS} {vS : Value} {E0 : List Ev} {pr R Rb gb : Nat} {ob : Obj} {B C : List Int} {W W' : World} {F G : List Nat} (A : PKA w p q s t vS E0 pr R Rb gb ob B C W F G) (K : Kep W W') : PKA w p q s t vS E0 pr R Rb gb ob B C W' F G := A.code (Put.of_kep K) (A.dev.kep K) (fun g hg => .inl hg) A.oks
/-- Events come, by the devices. -/
theorem PKA.came {w : World} {p q : Nat} {s t : DS} {vS : Value} {E0 : List Ev} {pr R Rb gb : Nat} {ob : Obj} {B C : List Int} {W W' : World} {F G F' : List Nat} (A : PKA w p q s t vS E0 pr R Rb gb ob B C W F G) {s' : DS} {B' : List Int} (P : Put ([R] ++ F) W W') (d : Dev W' p s' F') (m : MemS W' (.pointer (some ⟨pr, 0, none⟩)) R (List.range 5) B' F') (hB : B'.length = B.length) (hF : ∀ g ∈ F', g ∈ F ∨ W.heap.size ≤ g) (ok : s'.Ok) : PKA w p q s' t vS E0 pr R Rb gb ob B' C W' F' G := by
  have lb := A.lrb
  have ks := A.kep.size
  have far := A.mem.farB (ne320 A.lB)
  have hRG : R ∉ G := fun h => far.row (by simp [h])
  have hRb : R ≠ Rb := fun h => far.row (by simp [h])
  have hB' : B' ≠ [] := ne320 (hB.trans A.lB)
  have hP : ∀ g, g ≠ R → g ∉ F → g ∉ [R] ++ F := fun g h1 h2 hm => by
    rcases List.mem_append.1 hm with h | h
    · exact h1 (by simpa using h)
    · exact h2 h
  have hoffP : Off W (.pointer (some ⟨pr, 0, none⟩)) ([R] ++ F) := by
    have := (A.mem.less (G := F) (fun g hg => by simp [hg])).off
    have e : rwL R B = [R] := by unfold rwL; rw [if_neg (ne320 A.lB)]
    rw [e] at this; exact this
  have hoffG : Off W' (.pointer (some ⟨pr, 0, none⟩)) (Rb :: G) := Off.stay A.mk5.ram (far.off.sub (by simp +contextual)) P hoffP
  refine ⟨d, A.ref.put P fun g hg => hP g (fun e => hRG (e ▸ hg)) (fun h => (A.fg g h).2.2 hg), ok, A.okt, ?_, A.row.put P (hP Rb (Ne.symm hRb) fun h => (A.fg _ h).2.1 rfl), hB.trans A.lB, A.lC, A.bC, A.kep.put P fun g hg => ?_, fun g hg => ?_, A.gg, A.r, A.rb, P.keeps A.bx (hP gb A.bn.1 A.bn.2.2.1), A.bn.1, A.bn.2.1, fun hm => ?_, A.bn.2.2.2⟩
  · have mr := m.farB hB'
    refine .inr ⟨hB', m.real hB', ⟨fun x e => ⟨fun hm => ?_, fun y n c hc hm => ?_⟩, fun hm => ?_⟩⟩
    · simp only [List.mem_cons, List.mem_append] at hm
      rcases hm with h | h | h
      · exact (hoffG x e).1 (by simp [h])
      · exact (mr.off x e).1 h
      · exact (hoffG x e).1 (by simp [h])
    · simp only [List.mem_cons, List.mem_append] at hm
      rcases hm with h | h | h
      · exact (hoffG x e).2 y n c hc (by simp [h])
      · exact (mr.off x e).2 y n c hc h
      · exact (hoffG x e).2 y n c hc (by simp [h])
    · simp only [List.mem_cons, List.mem_append] at hm
      rcases hm with h | h | h
      · exact hRb h
      · exact mr.row h
      · exact hRG h
  · rcases List.mem_append.1 hg with h | h
    · obtain rfl : g = R := by simpa using h
      exact A.r
    · exact (A.fg g h).1
  · rcases hF g hg with h | h
    · exact A.fg g h
    · exact ⟨by omega, by omega, fun hm => by have := A.ref.lt g hm; omega⟩
  · rcases hF gb hm with h | h
    · exact A.bn.2.2.1 h
    · have := block_lt A.bx; omega
/-- Events come, by the document. -/
theorem PKA.rcame {w : World} {p q : Nat} {s t : DS} {vS : Value} {E0 : List Ev} {pr R Rb gb : Nat} {ob : Obj} {B C : List Int} {W W' : World} {F G G' : List Nat} (A : PKA w p q s t vS E0 pr R Rb gb ob B C W F G) {t' : DS} {C' : List Int} (P : Put (Rb :: G) W W') (d : RDv W' q t' vS E0 G') (r : RowB W' Rb C') (hC : C'.length = 320) (bC : Byts C') (hG : ∀ g ∈ G', g ∈ G ∨ W.heap.size ≤ g) (ok : t'.Ok) : PKA w p q s t' vS E0 pr R Rb gb ob B C' W' F G' := by
  have lb := A.lrb
  have ks := A.kep.size
  refine ⟨A.dev.put P fun g hg hm => ?_, d, A.oks, ok, A.mem.put (P.mono fun g hg => ?_) fun g hg => ?_, r, A.lB, hC, bC, A.kep.put P fun g hg => ?_, fun g hg => ⟨(A.fg g hg).1, (A.fg g hg).2.1, fun hm => ?_⟩, fun g hg => ?_, A.r, A.rb, P.keeps A.bx (fun hm => ?_), A.bn.1, A.bn.2.1, A.bn.2.2.1, fun hm => ?_⟩
  · rcases List.mem_cons.1 hm with h | h
    · exact (A.fg g hg).2.1 h
    · exact (A.fg g hg).2.2 h
  · simp only [List.mem_cons, List.mem_append] at hg ⊢
    exact hg.imp id .inr
  · simp only [List.mem_cons, List.mem_append] at hg ⊢
    rcases hg with h | h | h
    · exact .inl (.inl h)
    · exact .inl (.inr (.inl h))
    · exact (hG g h).imp (fun h => .inr (.inr h)) id
  · rcases List.mem_cons.1 hg with h | h
    · rw [h]; exact A.rb
    · exact (A.gg g h).1
  · rcases hG g hm with h | h
    · exact (A.fg g hg).2.2 h
    · have := A.dev.lt g hg; omega
  · rcases hG g hg with h | h
    · exact A.gg g h
    · exact ⟨by omega, by omega⟩
  · rcases List.mem_cons.1 hm with h | h
    · exact A.bn.2.1 h
    · exact A.bn.2.2.2 h
  · rcases hG gb hm with h | h
    · exact A.bn.2.2.2 h
    · have := block_lt A.bx; omega
theorem readS_ok {s : DS} (h : s.Ok) (port : Int) : (readS s port).Ok := by
  unfold readS; split
  · exact ⟨h.b, h.m, by show (s.Q.drop 1).length ≤ 32; have := h.q; simp; omega, fun b hb => h.qb b (List.drop_subset _ _ hb), h.d, h.d6, h.db, h.n, h.a, h.f, h.t, h.cmd, h.ev⟩
  · exact h
theorem takenS_ok {s : DS} (h : s.Ok) (cause : Int) : (takenS s cause).Ok := by
  unfold takenS
  split
  · exact Ok.bits h (clr_low h.b)
  split
  · exact Ok.bits h (clr_low h.b)
  split
  · exact Ok.bits h (clr_low h.b)
  · exact h

/-- Between two steps. -/
def PKS (w : World) (p q : Nat) (vS : Value) (E0 : List Ev) (pr R Rb gb : Nat) (ob : Obj) (m : Nat) (W : World) : Prop := ∃ s B F G, PKA w p q s s vS E0 pr R Rb gb ob B B W F G ∧ s.O.length ≤ m
theorem nextV_form (s : DS) (n : Int) : ∃ a b, nextV s n = #[.int .i64 a, .bool b] := by
  unfold nextV; split
  · exact ⟨_, _, rfl⟩
  · exact ⟨_, _, rfl⟩
abbrev stpC (kd nn vv : Int) : Obj := .cells #[.int .i64 kd, .int .i64 nn, .int .u32 vv] 49
abbrev ramC (Rb : Nat) : Obj := .cells #[.slice (some ⟨Rb, 0, none⟩) 320 320] 42
theorem takenS_O (s : DS) (c : Int) : (takenS s c).O = s.O := by unfold takenS; split; rfl; split; rfl; split <;> rfl
theorem readS_O (s : DS) (c : Int) : (readS s c).O = s.O := by unfold readS; split <;> rfl
theorem writeS_O (s : DS) (c v : Int) : (writeS s c v).O.length ≤ s.O.length + 1 := by
  unfold writeS
  split
  · simp
  split
  · simp
  split
  · simp
  split
  · unfold giveS; split <;> simp
  split
  · simp
  split <;> simp
theorem nxt_O (step : Int) (ix : List Nat) (x : CS) : (nxt step ix x).s.O = x.s.O := by
  unfold nxt; split
  · rfl
  · exact evS_O _ _ _ _
theorem comeN_O (step : Int) (ix : List Nat) : ∀ (n : Nat) (x : CS), (comeN step ix n x).s.O = x.s.O
  | 0, x => rfl
  | n + 1, x => by
    unfold comeN; split
    · rw [comeN_O step ix n, nxt_O]
    · rfl
theorem comeC_O (step : Int) (ix : List Nat) (x : CS) : (comeC step ix x).s.O = x.s.O := comeN_O _ _ _ _

set_option maxHeartbeats 8000000 in
set_option maxRecDepth 100000 in
theorem step_any {w : World} {p q : Nat} {xS : Option Addr} {cS : Nat} {E0 : List Ev} {pr R Rb gb : Nat} {ob : Obj} {m : Nat} {W : World} (h : PKS w p q (.slice xS E0.length cS) E0 pr R Rb gb ob m W) (hE : E0.length ≤ 64) (hS : Lies w xS (evs E0)) (hm : (m : Int) < 900000) (kd nn vv : Int) (hnn : -9223372036854775808 ≤ nn ∧ nn ≤ 9223372036854775807) (hvv : 0 ≤ vv ∧ vv < 4294967296) :
    Calls Try.prog 15 #[.pointer (some ⟨p, 0, none⟩), .pointer (some ⟨q, 0, none⟩), .agg #[.int .i64 kd, .int .i64 nn, .int .u32 vv], .pointer (some ⟨pr, 0, none⟩), refV (some ⟨Rb, 0, none⟩) 320] W fun e W' => e = .returned (.bool true) ∧ PKS w p q (.slice xS E0.length cS) E0 pr R Rb gb ob (m + 1) W' := by
  obtain ⟨s, B, F, G, A, hO⟩ := h
  obtain ⟨V, hV⟩ : ∃ V, Hid (V = (W.alloc (stpC kd nn vv)).alloc (ramC Rb)) := ⟨_, rfl⟩
  have KV : Kep W V := by rw [hV.out]; exact ((Kep.refl _).alloc _).alloc _
  have A1 := A.kept KV
  have bs : V.heap[W.heap.size]? = some (.cells #[.int .i64 kd, .int .i64 nn, .int .u32 vv] 49 (0, 0)) := by rw [hV.out]; exact (hsk _ _ _ (by simp)).trans (hat _ _ _ rfl)
  have br : V.heap[W.heap.size + 1]? = some (.cells #[.slice (some ⟨Rb, 0, none⟩) 320 320] 42 (0, 0)) := by rw [hV.out]; exact hat _ _ _ (by simp)
  have lt1 : ∀ g ∈ F, g < W.heap.size := A.dev.lt
  have lt2 : ∀ g ∈ G, g < W.heap.size := A.ref.lt
  have lt3 := A.lrb
  have lt4 := A.mk5.row.lt (ne320 A.lB)
  have CSx : Hid (∀ V' l, Put l V V' → (∀ g ∈ l, g < W.heap.size) → V'.cell? ⟨W.heap.size, 0, none⟩ = some (.int .i64 kd) ∧ V'.cell? ⟨W.heap.size, 1, none⟩ = some (.int .i64 nn) ∧ V'.cell? ⟨W.heap.size, 2, none⟩ = some (.int .u32 vv) ∧ V'.cell? ⟨W.heap.size + 1, 0, none⟩ = some (.slice (some ⟨Rb, 0, none⟩) 320 320)) := fun V' l P hl => by
    have b1 := P.keeps bs (fun hm => by have := hl _ hm; omega)
    have b2 := P.keeps br (fun hm => by have := hl _ hm; omega)
    exact ⟨(cell_of_block b1).trans rfl, (cell_of_block b1).trans rfl, (cell_of_block b1).trans rfl, (cell_of_block b2).trans rfl⟩
  obtain ⟨x0, x1, x2, x3⟩ := CSx.out V [] (Put.refl _) (by simp)
  have hA : Hid (PKA w p q s s (.slice xS E0.length cS) E0 pr R Rb gb ob B B V F G) := A1
  have hO1 : Hid (s.O.length ≤ m) := hO
  have hE' : Hid (E0.length ≤ 64) := hE
  have hsE : Hid (s.E.length ≤ 64) := by
    obtain ⟨c, k, f, t, vq, vo, vd, Fq, Fo, Fd, D, _⟩ := A.ref
    rw [Hid, D.E, List.length_drop]; omega
  have hS' : Hid (∀ V', Kep w V' → Lies V' xS (evs E0)) := fun V' K => hS.kep K
  by_cases h0 : kd = 0
  · subst h0
    obtain ⟨a, b, hv⟩ := nextV_form s nn
    have H1 : Hid (Calls Try.prog 42 #[.pointer (some ⟨p, 0, none⟩), .int .i64 nn] V fun e w' => e = .returned (.tuple #[.int .i64 a, .bool b]) ∧ w' = V) := by
      have := next_any A1.dev A1.oks hsE.out nn hnn
      rw [hv] at this; exact this
    have H2 : Hid (Calls Try.prog 43 #[.pointer (some ⟨q, 0, none⟩), .int .i64 nn] V fun e w' => e = .returned (.tuple #[.int .i64 a, .bool b]) ∧ Kep V w') := by
      have := rnext_any A1.ref A1.okt hE (hS'.out V A1.kep) nn hnn
      rw [hv] at this; exact this
    clear A A1 hS hE hv bs br KV hnn hvv hm lt1 lt2 lt3 lt4 CSx hO
    go_enter Try.func15, Try.ntmps15
    go_wp2_with fail
    rw [← hV.out]
    refine H1.out.mono ?_
    rintro e w1 ⟨rfl, hq⟩
    rw [hq]
    clear hq H1
    go_wp2_with fail
    refine H2.out.mono ?_
    rintro e w2 ⟨rfl, k2⟩
    have K2 : Hid (Kep V w2) := k2
    clear k2 H2
    go_wp2_with fail
    all_goals
      go_ret
      exact ⟨by simp, s, B, F, G, hA.out.kept K2.out, Nat.le_succ_of_le hO1.out⟩
  have t0 : (kd == 0) = false := by simp [h0]
  by_cases h1 : kd = 1
  · subst h1
    have e5 : rwL R B = [R] := by unfold rwL; rw [if_neg (ne320 A.lB)]
    have hl5 : B.length = 64 * 5 := A.lB
    have H1 : Hid (Calls Try.prog 8 #[.pointer (some ⟨p, 0, none⟩), .int .i64 nn, .pointer (some ⟨pr, 0, none⟩)] V (ComeP V p F (.pointer (some ⟨pr, 0, none⟩)) R (List.range 5) B (comeC nn (List.range 5) ⟨s, B, [], []⟩))) := come_any V p s F A1.dev A1.oks hsE.out _ R (List.range 5) B (A1.mem.less (fun g hg => by simp [hg])) A1.mk5.byts (fits_range hl5) nn
    have hRF : ∀ g ∈ [R] ++ F, g < W.heap.size := fun g hg => by
      rcases List.mem_append.1 hg with h | h
      · obtain rfl : g = R := by simpa using h
        exact lt4
      · exact lt1 g h
    have hRF' : Hid (∀ g ∈ [R] ++ F, g < W.heap.size) := hRF
    have hGv : Hid (∀ g ∈ Rb :: G, g < V.heap.size) := fun g hg => by
      have hs := KV.size
      rcases List.mem_cons.1 hg with rfl | h
      · omega
      · have := lt2 g h; omega
    have e5' : Hid (rwL R B = [R]) := e5
    have hlB : Hid (B.length = 320) := A.lB
    have hbB : Hid (Byts B) := A1.mk5.byts
    clear A A1 hE bs br KV hnn hvv hm lt1 lt2 lt3 lt4 hO e5 hl5 hRF
    go_enter Try.func15, Try.ntmps15
    go_wp2_with fail
    rw [← hV.out]
    refine H1.out.mono ?_
    rintro e V1 ⟨vc, vw, F', Gc, Gw, rfl, d1, m1, sc1, sw1, P1, f1, gc1, gw1, ok1, lc1, lf1, lb1⟩
    rw [e5'.out] at P1
    have A2 : Hid _ := hA.out.came P1 d1 m1 lb1 f1 ok1.s
    obtain ⟨y0, y1, y2, y3⟩ := CSx.out V1 _ P1 hRF'.out
    obtain ⟨x, hx⟩ : ∃ x, Hid (x = comeC nn (List.range 5) ⟨s, B, [], []⟩) := ⟨_, rfl⟩
    rw [← hx.out] at A2 sc1 sw1 lc1 lf1
    obtain ⟨xc, cc, hvc, lyc, lec, _⟩ := sc1.lies
    obtain ⟨xw, cw, hvw, lyw, lew, _⟩ := sw1.lies
    have H2 : Hid (Calls Try.prog 44 #[.pointer (some ⟨q, 0, none⟩), .int .i64 nn, refV (some ⟨Rb, 0, none⟩) 320] V1 fun e w' => ∃ (x : CS) (vl vf : Value) (F Gl Gf : List Nat), x = comeC nn (List.range 5) ⟨s, B, [], []⟩ ∧ e = .returned (.tuple #[vl, vf]) ∧ RDv w' q x.s (.slice xS E0.length cS) E0 F ∧ RowB w' Rb x.B ∧ Sli w' 68 3 vl x.c.length (evs x.c) Gl ∧ Sli w' 3 1 vf x.f.length (x.f.map (Value.int .i64)) Gf ∧ Put (Rb :: G) V1 w' ∧ (∀ g ∈ F, g ∈ G ∨ V1.heap.size ≤ g) ∧ x.Ok (List.range 5) ∧ x.B.length = 64 * 5 ∧ x.c.length ≤ 64) := rcome_any A2.out.ref A2.out.okt hE'.out A2.out.kep hS (fun g hg => (A2.out.gg g hg).1) 5 Rb B (by decide) (by decide) A2.out.row hlB.out hbB.out (fun h => (A2.out.gg _ h).2 rfl) A2.out.rb nn
    have Sc : Hid (Sli V1 68 3 (.slice xc x.c.length cc) x.c.length (evs x.c) Gc) := by rw [← hvc]; exact sc1
    have Sw : Hid (Sli V1 3 1 (.slice xw x.f.length cw) x.f.length (x.f.map (Value.int .i64)) Gw) := by rw [← hvw]; exact sw1
    have gc1' : Hid (∀ g ∈ Gc, g ∉ Rb :: G) := fun g hg hm => by have := (gc1 g hg).1; have := hGv.out g hm; omega
    have gw1' : Hid (∀ g ∈ Gw, g ∉ Rb :: G) := fun g hg hm => by have := (gw1 g hg).1; have := hGv.out g hm; omega
    have hlf : Hid ((x.f.length : Int) ≤ 64) := by unfold Hid; omega
    subst hvc hvw
    clear d1 m1 sc1 sw1 P1 f1 gc1 gw1 ok1 lb1 H1 lyc lyw x0 x1 x2 x3 hS CSx
    go_wp2_with fail
    refine H2.out.mono ?_
    rintro e V2 ⟨x', vl, vf, G', Gl, Gf, hx', rfl, d2, r2, sl2, sf2, P2, g2, ok2, lb2, lc2⟩
    obtain rfl : x = x' := by rw [hx.out, hx']
    have A3 : Hid _ := A2.out.rcame P2 d2 r2 lb2 ok2.B g2 ok2.s
    obtain ⟨xl, cl, hvl, lyl, lel, _⟩ := sl2.lies
    obtain ⟨xf, cf, hvf, lyf, lef, _⟩ := sf2.lies
    obtain ⟨_, _, e1, lyc, lec', _⟩ := (Sc.out.put P2 gc1'.out).lies
    obtain ⟨_, _, e2, lyw, lew', _⟩ := (Sw.out.put P2 gw1'.out).lies
    cases e1
    cases e2
    subst hvl hvf
    have H3 : Hid (Calls Try.prog 45 #[.slice xc x.c.length cc, .slice xl x.c.length cl, .slice xw x.f.length cw, .slice xf x.f.length cf] V2 fun e w' => e = .returned (.bool true) ∧ Kep V2 w') := lsame_any V2 xc xl xw xf cc cl cw cf x.c x.f (by omega) hlf.out lyc lyl lyw lyf lec lel lew lef
    have hxO : Hid (x.s.O = s.O) := by rw [Hid, hx.out]; exact comeC_O _ _ _
    clear d2 r2 sl2 sf2 P2 g2 ok2 lb2 lc2 lyl lyf lyc lyw H2 hx' y0 y1 y2 y3 A2 Sc Sw lec' lew'
    go_wp2_with fail
    refine H3.out.mono ?_
    rintro e V3 ⟨rfl, k3⟩
    have K3 : Hid (Kep V2 V3) := k3
    clear k3 H3
    go_wp2_with fail
    go_ret
    exact ⟨rfl, x.s, x.B, F', G', A3.out.kept K3.out, by rw [hxO.out]; exact Nat.le_succ_of_le hO1.out⟩
  have t1 : (kd == 1) = false := by simp [h1]
  by_cases h2 : kd = 2
  · subst h2
    have H1 : Hid (∀ V', Kep V V' → Calls Try.prog 11 #[.pointer (some ⟨p, 0, none⟩), .int .u32 vv] V' fun e w' => e = .returned (.int .i64 (wantsI vv (clrI s.b s.m))) ∧ Kep V' w') := fun V' K => vwants_any (A1.dev.kep K) A1.oks vv hvv
    have H2 : Hid (∀ V', Kep V V' → Calls Try.prog 46 #[.pointer (some ⟨q, 0, none⟩), .int .u32 vv] V' fun e w' => e = .returned (.int .i64 (wantsI vv (clrI s.b s.m))) ∧ w' = V') := fun V' K => rdwants_any (A1.ref.kep K) A1.okt vv hvv
    generalize wantsI vv (clrI s.b s.m) = r at H1 H2
    have y2 : ∀ i : KW V, i.val.cell? ⟨W.heap.size, 2, none⟩ = some (.int .u32 vv) := fun i => KW.cell x2 i
    have hne : Nonempty (KW V) := ⟨⟨_, Kep.refl _⟩⟩
    clear A A1 hS hE bs br KV hnn hvv hm lt1 lt2 lt3 lt4 CSx hO
    go_enter Try.func15, Try.ntmps15
    go_wp2_with fail
    rw [← hV.out]
    refine region_kw (by kernel_rfl) (by kernel_rfl) ?_
    repeat (go_big_quiet_step (first
      | (go_at_call 11; refine (H1.out _ (KW.ok _)).mono ?_; rintro e w8 ⟨rfl, k8⟩; exact ⟨rfl, ⟨_, kep_trans (KW.ok _) k8⟩, rfl⟩)
      | (go_at_call 46; refine (H2.out _ (KW.ok _)).mono ?_; rintro e w8 ⟨rfl, rfl⟩; exact ⟨rfl, _, rfl⟩)))
    refine wpQuiet_nil ?_
    rintro _ ⟨i, rfl⟩
    have G3 : Hid (Kep V i.val) := i.ok
    go_wp2_with fail
    go_ret
    exact ⟨rfl, s, B, F, G, hA.out.kept G3.out, Nat.le_succ_of_le hO1.out⟩
  have t2 : (kd == 2) = false := by simp [h2]
  by_cases h3 : kd = 3
  · subst h3
    have H1 : Hid (Calls Try.prog 12 #[.pointer (some ⟨p, 0, none⟩), .int .i64 nn] V fun e w' => e = .returned (.tuple #[]) ∧ Dev w' p (takenS s nn) F ∧ Put F V w') := taken_dev A1.dev A1.oks nn
    have lt1' : Hid (∀ g ∈ F, g < W.heap.size) := lt1
    clear A A1 hS hE bs br KV hnn hvv hm lt1 lt2 lt3 lt4 hO
    go_enter Try.func15, Try.ntmps15
    go_wp2_with fail
    rw [← hV.out]
    refine H1.out.mono ?_
    rintro e V1 ⟨rfl, d1, P1⟩
    have A2 : Hid _ := hA.out.code P1 d1 (fun g hg => .inl hg) (takenS_ok hA.out.oks nn)
    obtain ⟨y0, y1, y2, y3⟩ := CSx.out V1 _ P1 lt1'.out
    have H2 : Hid (Calls Try.prog 47 #[.pointer (some ⟨q, 0, none⟩), .int .i64 nn] V1 fun e w' => e = .returned (.tuple #[]) ∧ RDv w' q (takenS s nn) (.slice xS E0.length cS) E0 G ∧ Put G V1 w') := rtaken_any A2.out.ref A2.out.okt nn
    clear d1 P1 H1 x0 x1 x2 x3 CSx
    go_wp2_with fail
    refine H2.out.mono ?_
    rintro e V2 ⟨rfl, d2, P2⟩
    have A3 : Hid _ := A2.out.reff P2 d2 (fun g hg => .inl hg) (takenS_ok A2.out.okt nn)
    clear d2 P2 H2 A2
    go_wp2_with fail
    go_ret
    exact ⟨rfl, _, B, F, G, A3.out, by rw [takenS_O]; exact Nat.le_succ_of_le hO1.out⟩
  have t3 : (kd == 3) = false := by simp [h3]
  by_cases h4 : kd = 4
  · subst h4
    have H1 : Hid (∀ V', Kep V V' → Calls Try.prog 9 #[.pointer (some ⟨p, 0, none⟩), .int .i64 nn] V' fun e w' => e = .returned (.int .u32 (inI s nn)) ∧ w' = V') := fun V' K => in_any (A1.dev.kep K) A1.oks nn
    have H2 : Hid (∀ V', Kep V V' → Calls Try.prog 48 #[.pointer (some ⟨q, 0, none⟩), .int .i64 nn] V' fun e w' => e = .returned (.int .u32 (inI s nn)) ∧ Kep V' w') := fun V' K => rin_any (A1.ref.kep K) A1.okt nn
    generalize inI s nn = r at H1 H2
    have y2 : ∀ i : KW V, i.val.cell? ⟨W.heap.size, 1, none⟩ = some (.int .i64 nn) := fun i => KW.cell x1 i
    have hne : Nonempty (KW V) := ⟨⟨_, Kep.refl _⟩⟩
    clear A A1 hS hE bs br KV hnn hvv hm lt1 lt2 lt3 lt4 CSx hO
    go_enter Try.func15, Try.ntmps15
    go_wp2_with fail
    rw [← hV.out]
    refine region_kw (by kernel_rfl) (by kernel_rfl) ?_
    repeat (go_big_quiet_step (first
      | (go_at_call 9; refine (H1.out _ (KW.ok _)).mono ?_; rintro e w8 ⟨rfl, rfl⟩; exact ⟨rfl, _, rfl⟩)
      | (go_at_call 48; refine (H2.out _ (KW.ok _)).mono ?_; rintro e w8 ⟨rfl, k8⟩; exact ⟨rfl, ⟨_, kep_trans (KW.ok _) k8⟩, rfl⟩)))
    refine wpQuiet_nil ?_
    rintro _ ⟨i, rfl⟩
    have G3 : Hid (Kep V i.val) := i.ok
    go_wp2_with fail
    go_ret
    exact ⟨rfl, s, B, F, G, hA.out.kept G3.out, Nat.le_succ_of_le hO1.out⟩
  have t4 : (kd == 4) = false := by simp [h4]
  by_cases h5 : kd = 5
  · subst h5
    have H1 : Hid (Calls Try.prog 27 #[.pointer (some ⟨p, 0, none⟩), .int .i64 nn] V.drew fun e w' => e = .returned (.int .u32 (inI s nn)) ∧ Dev w' p (readS s nn) F ∧ Put F V.drew w') := read_dev (A1.dev.kep ((Kep.refl V).drew)) A1.oks nn
    have lt1' : Hid (∀ g ∈ F, g < W.heap.size) := lt1
    have hAd : Hid (PKA w p q s s (.slice xS E0.length cS) E0 pr R Rb gb ob B B V.drew F G) := A1.kept ((Kep.refl V).drew)
    have xd : V.drew.cell? ⟨W.heap.size, 1, none⟩ = some (.int .i64 nn) := x1
    have CD : Hid (∀ V', Put F V.drew V' → V'.cell? ⟨W.heap.size, 1, none⟩ = some (.int .i64 nn)) := fun V' P => (CSx.out V' F ⟨P.os, P.tape, P.output, P.size, P.block⟩ lt1).2.1
    have H2 : Hid (∀ V', PKA w p q (readS s nn) s (.slice xS E0.length cS) E0 pr R Rb gb ob B B V' F G → Calls Try.prog 49 #[.pointer (some ⟨q, 0, none⟩), .int .i64 nn] V' fun e w' => e = .returned (.int .u32 (inI s nn)) ∧ ∃ F', RDv w' q (readS s nn) (.slice xS E0.length cS) E0 F' ∧ Put G V' w' ∧ ∀ g ∈ F', g ∈ G ∨ V'.heap.size ≤ g) := fun V' A' => rread_any A'.ref A'.okt nn
    have CE : Hid (∀ V' V'', Put F V.drew V' → Put G V' V'' → V''.cell? ⟨W.heap.size, 1, none⟩ = some (.int .i64 nn)) := fun V' V'' P P' => by
      have h1 := (CSx.out V' F ⟨P.os, P.tape, P.output, P.size, P.block⟩ lt1).2.1
      have hb := World.block_lt_of_cell? V' _ h1
      exact (P'.cell hb (fun hm => by have := lt2 W.heap.size hm; omega)).trans h1
    generalize inI s nn = r at H1 H2
    clear A A1 hS hE bs br KV hnn hvv hm lt1 lt2 lt3 lt4 CSx hO
    go_enter Try.func15, Try.ntmps15
    go_wp2_with fail
    rw [← hV.out]
    go_region_held3 (fun w' => w'.cell? ⟨W.heap.size, 1, none⟩ = some (.int .i64 nn)) (assumption) (first
      | (go_at_call 27; refine H1.out.mono ?_; rintro e V1 ⟨rfl, d1, P1⟩; have A2 : Hid (PKA w p q (readS s nn) s (.slice xS E0.length cS) E0 pr R Rb gb ob B B V1 F G) := hAd.out.code P1 d1 (fun g hg => .inl hg) (readS_ok hAd.out.oks nn); have P1' : Hid (Put F V.drew V1) := P1; have z1 := CD.out V1 P1; clear d1 P1)
      | (go_at_call 49; refine (H2.out _ A2.out).mono ?_; rintro e V2 ⟨rfl, G', d2, P2, g2⟩; have A3 : Hid (PKA w p q (readS s nn) (readS s nn) (.slice xS E0.length cS) E0 pr R Rb gb ob B B V2 F G') := A2.out.reff P2 d2 g2 (readS_ok A2.out.okt nn); have z2 := CE.out _ V2 P1'.out P2; clear d2 P2 g2))
    all_goals
      go_wp2_with fail
      go_ret
      exact ⟨rfl, _, B, F, G', A3.out, by rw [readS_O]; exact Nat.le_succ_of_le hO1.out⟩
  have t5 : (kd == 5) = false := by simp [h5]
  by_cases h6 : kd = 6
  · subst h6
    have hOm : (s.O.length : Int) < 1000000 := by omega
    have hOm' : Hid ((s.O.length : Int) < 1000000) := hOm
    have H1 : Hid (Calls Try.prog 10 #[.pointer (some ⟨p, 0, none⟩), .int .i64 nn, .int .u32 vv] V fun e w' => e = .returned (.tuple #[]) ∧ ∃ F', Dev w' p (writeS s nn vv) F' ∧ Put F V w' ∧ ∀ g ∈ F', g ∈ F ∨ V.heap.size ≤ g) := write_dev A1.dev A1.oks hOm nn vv hvv
    have lt1' : Hid (∀ g ∈ F, g < W.heap.size) := lt1
    have hvv' : Hid (0 ≤ vv ∧ vv < 4294967296) := hvv
    clear A A1 hS hE bs br KV hnn hvv hm lt1 lt2 lt3 lt4 hO hOm
    go_enter Try.func15, Try.ntmps15
    go_wp2_with fail
    rw [← hV.out]
    refine H1.out.mono ?_
    rintro e V1 ⟨rfl, F', d1, P1, f1⟩
    have A2 : Hid _ := hA.out.code P1 d1 f1 (writeS_ok hA.out.oks nn vv hvv'.out)
    obtain ⟨y0, y1, y2, y3⟩ := CSx.out V1 _ P1 lt1'.out
    have H2 : Hid (Calls Try.prog 50 #[.pointer (some ⟨q, 0, none⟩), .int .i64 nn, .int .u32 vv] V1 fun e w' => e = .returned (.tuple #[]) ∧ ∃ G', RDv w' q (writeS s nn vv) (.slice xS E0.length cS) E0 G' ∧ Put G V1 w' ∧ ∀ g ∈ G', g ∈ G ∨ V1.heap.size ≤ g) := rwrite_any A2.out.ref A2.out.okt hOm'.out nn vv hvv'.out
    clear d1 P1 f1 H1 x0 x1 x2 x3 CSx
    go_wp2_with fail
    refine H2.out.mono ?_
    rintro e V2 ⟨rfl, G', d2, P2, g2⟩
    have A3 : Hid _ := A2.out.reff P2 d2 g2 (writeS_ok A2.out.okt nn vv hvv'.out)
    clear d2 P2 g2 H2 A2
    go_wp2_with fail
    go_ret
    exact ⟨rfl, _, B, F', G', A3.out, Nat.le_trans (writeS_O s nn vv) (Nat.succ_le_succ hO1.out)⟩
  have t6 : (kd == 6) = false := by simp [h6]
  clear A A1 hS hE bs br KV hnn hvv hm lt1 lt2 lt3 lt4 CSx hO h0 h1 h2 h3 h4 h5 h6
  go_enter Try.func15, Try.ntmps15
  go_wp2_with fail
  rw [← hV.out]
  go_ret
  exact ⟨rfl, s, B, F, G, hA.out, Nat.le_succ_of_le hO1.out⟩

abbrev zDev : Array Value := #[.bool false, .slice none 0 0, .int .u32 0, .int .u32 0, .slice none 0 0, .slice none 0 0, .slice none 0 0, .int .u32 0, .int .u32 0, .int .u32 0, .int .u32 0, .int .u32 0, .int .u32 0]
theorem size_dev : (Try.prog.info? 82).map (·.size) = some 13 := by kernel_rfl

theorem RDv.off {w : World} {p : Nat} {s : DS} {vS : Value} {E0 : List Ev} {F : List Nat} (h : RDv w p s vS E0 F) {v : Value} {R : Nat} {ix : List Nat} (hr : Ram w v R ix) : Off w v F := by
  obtain ⟨c, k, f, t, vq, vo, vd, Fq, Fo, Fd, D, rfl⟩ := h
  have h0 : Off w v [p] := off_tag hr D.box (by decide) (by decide)
  exact (h0.app ((D.q.off hr (by decide) (by decide)).app ((D.o.off hr (by decide) (by decide)).app (D.d.off hr (by decide) (by decide))))).sub (by simp)
theorem pka_start {w w5 w7 W : World} {p q : Nat} {s : DS} {vS : Value} {E0 : List Ev} {pr R Rb : Nat} {B : List Int} {F G : List Nat} (K5 : Kep w w5) (d : Dev w5 p s F) (hF : ∀ g ∈ F, w.heap.size ≤ g) (ok : s.Ok) (K7 : Kep w5 w7) (T : Two w7 (.pointer (some ⟨pr, 0, none⟩)) R 5 (some ⟨Rb, 0, none⟩) Rb B) (hR : w5.heap.size ≤ R) (hRb : w5.heap.size ≤ Rb)
    (K8 : Kep (w7.alloc (ramC Rb)) W) (r : RDv W q s vS E0 G) (hG : ∀ g ∈ G, (w7.alloc (ramC Rb)).heap.size ≤ g) : PKA w p q s s vS E0 pr R Rb w7.heap.size (ramC Rb) B B W F G := by
  have k1 : Kep w7 W := kep_trans ((Kep.refl w7).alloc _) K8
  have k2 : Kep w5 W := kep_trans K7 k1
  have s5 := K5.size
  have s7 := K7.size
  have lB : B.length = 320 := T.len
  have lR := T.lR
  have lRb := T.lRb
  have hl := d.lt
  have hr := T.ram.kep k1
  have hG' : ∀ g ∈ G, w7.heap.size + 1 ≤ g := fun g hg => by have := hG g hg; rw [World.size_alloc] at this; exact this
  have hoRb : Off W (.pointer (some ⟨pr, 0, none⟩)) [Rb] := (Off.stay (m := []) T.ram T.off (Put.of_kep k1) (fun p e => ⟨by simp, by simp⟩)).sub (by simp)
  have ho : Off W (.pointer (some ⟨pr, 0, none⟩)) (Rb :: (F ++ G)) := (hoRb.app (((d.kep k2).off hr).app (r.off hr))).sub (by simp)
  refine ⟨d.kep k2, r, ok, ok, .inr ⟨ne320 lB, ⟨hr, T.row.kep k1, fits_range T.len, T.byts, by decide⟩, ⟨ho, fun hm => ?_⟩⟩, T.ref.row.kep k1, lB, lB, T.byts, kep_trans K5 k2, fun g hg => ⟨hF g hg, ?_, fun hm => ?_⟩, fun g hg => ⟨?_, ?_⟩, by omega, by omega, K8.block (hat _ _ _ rfl), by omega, by omega, fun hm => ?_, fun hm => ?_⟩
  · simp only [List.mem_cons, List.mem_append] at hm
    rcases hm with h | h | h
    · exact T.ne h
    · have := hl R h; omega
    · have := hG' R h; omega
  · have := hl g hg; omega
  · have := hl g hg; have := hG' g hm; omega
  · have := hG' g hg; omega
  · have := hG' g hg; omega
  · have := hl _ hm; omega
  · have := hG' _ hm; omega
/-- What went out, and the disk, by the document. -/
theorem RDv.outs {w : World} {p : Nat} {s : DS} {vS : Value} {E0 : List Ev} {F : List Nat} (h : RDv w p s vS E0 F) : ∃ vo vd, w.cell? ⟨p, 5, none⟩ = some vo ∧ w.cell? ⟨p, 6, none⟩ = some vd ∧ Str w vo (strL s.O) ∧ Str w vd (strL s.D) := by
  obtain ⟨c, k, f, t, vq, vo, vd, Fq, Fo, Fd, D, _⟩ := h
  exact ⟨vo, vd, D.c' 5, D.c' 6, D.o.str, D.d.str⟩
theorem Two.of_pka {w : World} {p q : Nat} {s t : DS} {vS : Value} {E0 : List Ev} {pr R Rb gb : Nat} {ob : Obj} {B : List Int} {W : World} {F G : List Nat} (A : PKA w p q s t vS E0 pr R Rb gb ob B B W F G) : Two W (.pointer (some ⟨pr, 0, none⟩)) R 5 (some ⟨Rb, 0, none⟩) Rb B := by
  have far := A.mem.farB (ne320 A.lB)
  have M := A.mk5
  exact ⟨M.ram, M.row, ⟨A.row, fun _ => rfl, by have := A.lB; omega⟩, A.lB, M.byts, fun e => far.row (by simp [e]), by decide, off_of M.ram A.row (ne320 A.lB), M.row.lt (ne320 A.lB), A.lrb⟩

end Go.Proofs.Ytpieeefeicdfgab

namespace Go.Proofs.Ytpieeefeicdfgab
open Go.RowKit
set_option linter.unusedVariables false
set_option linter.unusedSimpArgs false

/-- May a disk of that status have that command? -/
def fitsB (st k f t : Int) : Bool := (decide (st = 1) && decide (k = 1 ∨ k = 2)) || (decide (st = 0 ∨ st = 2) && decide (k = 0 ∧ f = 0 ∧ t = 0))
theorem cmd_key (a b c : Int) (ha : (Lit.int .u32 a).wf = true) (hb : (Lit.int .u32 b).wf = true) (hc : (Lit.int .u32 c).wf = true) :
    Try.prog.keyLits 2 74 (Value.agg #[.int .u32 a, .int .u32 b, .int .u32 c]).cells.toList = some [.int .u32 a, .int .u32 b, .int .u32 c] := by
  have cI : Try.prog.cellsOf 74 = 3 := by kernel_rfl
  have c21 : Try.prog.cellsOf 23 = 1 := by kernel_rfl
  simp [Program.keyLits, Try.underlying74, Try.underlying23, Value.cells, cI, c21, ha, hb, hc]
theorem cmd_same (a b c : Int) (ha : (Lit.int .u32 a).wf = true) (hb : (Lit.int .u32 b).wf = true) (hc : (Lit.int .u32 c).wf = true) (w : World) :
    Sem.run Try.prog (Op.equalIn 10000 74 (.agg #[.int .u32 a, .int .u32 b, .int .u32 c]) (.agg #[.int .u32 0, .int .u32 0, .int .u32 0])) w = .ok (decide (a = 0 ∧ b = 0 ∧ c = 0)) w := by
  obtain ⟨r, hr, hiff⟩ := run_equalIn_deep (P := Try.prog) 9998 2 74 (by kernel_rfl) w 2 2 (.agg #[.int .u32 a, .int .u32 b, .int .u32 c]) (.agg #[.int .u32 0, .int .u32 0, .int .u32 0]) _ _ (by kernel_rfl) (by kernel_rfl) (cmd_key a b c ha hb hc) (cmd_key 0 0 0 (by decide) (by decide) (by decide))
  have e : r = decide (a = 0 ∧ b = 0 ∧ c = 0) := by rw [Bool.eq_iff_iff, hiff]; simp
  rw [hr, e]
theorem wf_u32 {a : Int} (h : 0 ≤ a ∧ a < 4294967296) : (Lit.int .u32 a).wf = true := by
  simp [Lit.wf, IntKind.min, IntKind.max, IntKind.signed, IntKind.bits]; omega

set_option maxHeartbeats 2000000 in
theorem fits_any (w : World) (st k f t : Int) (hk : 0 ≤ k ∧ k < 4294967296) (hf : 0 ≤ f ∧ f < 4294967296) (ht : 0 ≤ t ∧ t < 4294967296) :
    Calls Try.prog 52 #[.int .u32 st, .agg #[.int .u32 k, .int .u32 f, .int .u32 t]] w fun e w' => e = .returned (.bool (fitsB st k f t)) ∧ Kep w w' := by
  have H : Hid (∀ w, Calls Try.prog 63 #[.int .u32 k] w fun e w' => e = .returned (.bool (decide (k = 1 ∨ k = 2))) ∧ w' = w) := fun w => isCommand_any w k
  have Q : ∀ w, Sem.run Try.prog (Op.equalIn 10000 74 (.agg #[.int .u32 k, .int .u32 f, .int .u32 t]) (.agg #[.int .u32 0, .int .u32 0, .int .u32 0])) w = .ok (decide (k = 0 ∧ f = 0 ∧ t = 0)) w := cmd_same k f t (wf_u32 hk) (wf_u32 hf) (wf_u32 ht)
  obtain ⟨r, hr⟩ : ∃ r, Hid (r = fitsB st k f t) := ⟨_, rfl⟩
  rw [← hr.out]
  have hfit : Hid (∀ c z : Bool, c = decide (k = 1 ∨ k = 2) → z = decide (k = 0 ∧ f = 0 ∧ t = 0) → r = ((decide (st = 1) && c) || (decide (st = 0 ∨ st = 2) && z))) := by
    rintro c z rfl rfl; rw [hr.out]; rfl
  obtain ⟨c, hc⟩ : ∃ c, c = decide (k = 1 ∨ k = 2) := ⟨_, rfl⟩
  obtain ⟨z, hz⟩ : ∃ z, z = decide (k = 0 ∧ f = 0 ∧ t = 0) := ⟨_, rfl⟩
  rw [← hc] at H
  rw [← hz] at Q
  have hfin : Hid (r = ((decide (st = 1) && c) || (decide (st = 0 ∨ st = 2) && z))) := hfit.out c z hc hz
  clear hc hz hfit hr hk hf ht
  by_cases h1 : st = 1
  · subst h1
    obtain rfl : r = c := by rw [hfin.out]; simp
    clear hfin
    go_enter Try.func52, Try.ntmps52
    go_wp2_with (go_at_call 63; refine (H.out _).mono ?_; rintro e w1 ⟨rfl, hq⟩; rw [hq]; clear hq)
    go_ret
    exact ⟨rfl, (Kep.refl _).alloc _⟩
  · have t1 : (st == 1) = false := by simp [h1]
    by_cases h2 : st = 0 ∨ st = 2
    · obtain rfl : r = z := by rw [hfin.out]; simp [h1, h2]
      clear hfin
      rcases h2 with rfl | rfl
      all_goals
        go_enter Try.func52, Try.ntmps52
        go_wp2_with fail
        go_ret
        exact ⟨rfl, (Kep.refl _).alloc _⟩
    · obtain rfl : r = false := by rw [hfin.out]; simp [h1, h2]
      clear hfin
      have t0 : (st == 0) = false := by simp; omega
      have t2 : (st == 2) = false := by simp; omega
      clear h1 h2
      go_enter Try.func52, Try.ntmps52
      go_wp2_with fail
      go_ret
      exact ⟨rfl, (Kep.refl _).alloc _⟩

/-- The cells of what is saved: the first 23 of them, then what devices have. -/
def savL (H : List Value) (vo vd vq vs : Value) (b m n a s k f t : Int) : List Value := H ++ [vo, vd, vq, vs, .int .u32 b, .int .u32 m, .int .u32 n, .int .u32 a, .int .u32 s, .int .u32 k, .int .u32 f, .int .u32 t]
/-- The first 23 cells where no machine is saved. -/
def zH : List Value := [.int .i64 0, .slice none 0 0, .int .u32 0, .int .u32 0, .int .u32 0, .int .u32 0, .int .u32 0, .int .u32 0, .int .u32 0, .int .u32 0, .int .u32 0, .int .u32 0, .int .u32 0, .int .u32 0, .int .u32 0, .int .u32 0, .int .u32 0, .int .u32 0, .int .u32 0, .int .u32 0, .bool false, .int .i64 0, .slice none 0 0]
theorem sav_one {H : List Value} (hH : H.all (·.oneCell') = true) (xo : Option Addr) (no co : Nat) (xd : Option Addr) (nd cd : Nat) (xq : Option Addr) (nq cq : Nat) (xs : Option Addr) (ns cs : Nat) (b m n a s k f t : Int) :
    ((savL H (.slice xo no co) (.slice xd nd cd) (.slice xq nq cq) (.slice xs ns cs) b m n a s k f t).toArray.all fun x => x.oneCell') = true := by
  rw [List.all_toArray, savL, List.all_append, hH]; simp [Value.oneCell']
abbrev savZ : Array Value := (savL zH (.slice none 0 0) (.slice none 0 0) (.slice none 0 0) (.slice none 0 0) 0 0 0 0 0 0 0 0).toArray
theorem size_sav : (Try.prog.info? 55).map (·.size) = some 35 := by kernel_rfl
/-- A slice that was handed out, newer than w. -/
def OwnN (w w' : World) (e : TypeId) (z : Nat) (v : Value) (n : Nat) (xs : List Value) : Prop := ∃ G, Sli w' e z v n xs G ∧ ∀ g ∈ G, w.heap.size ≤ g
/-- What Save answers: four slices of the caller's own. -/
structure Savd (w w' : World) (s : DS) (xo : Option Addr) (co : Nat) (xd : Option Addr) (cd : Nat) (xq : Option Addr) (cq : Nat) (xs : Option Addr) (cs : Nat) : Prop where
  o : OwnN w w' 5 1 (.slice xo s.O.length co) s.O.length (byt s.O)
  d : OwnN w w' 5 1 (.slice xd s.D.length cd) s.D.length (byt s.D)
  q : OwnN w w' 5 1 (.slice xq s.Q.length cq) s.Q.length (byt s.Q)
  e : OwnN w w' 68 3 (.slice xs s.E.length cs) s.E.length (evs s.E)
theorem Sli.ne_tag {w : World} {e : TypeId} {z : Nat} {v : Value} {n : Nat} {xs : List Value} {G : List Nat} {g r : Nat} {t : TypeId} {cs : Array Value} {fr : Nat × Nat} (h : Sli w e z v n xs G) (hg : g ∈ G) (hb : w.heap[r]? = some (.cells cs t fr)) (hne : e ≠ t) : g ≠ r := by
  rintro rfl
  rcases h with ⟨_, ⟨_, _, rfl⟩ | ⟨g', off, cap, cur, rfl, rfl, hg', _⟩⟩
  · simp at hg
  · obtain rfl : g = g' := by simpa using hg
    rw [hb] at hg'
    simp only [Option.some.injEq, Obj.cells.injEq] at hg'
    exact hne hg'.2.1.symm
theorem OwnN.kep {w w' w'' : World} {e : TypeId} {z : Nat} {v : Value} {n : Nat} {xs : List Value} (h : OwnN w w' e z v n xs) (k : Kep w' w'') : OwnN w w'' e z v n xs := by
  obtain ⟨G, h1, h2⟩ := h
  exact ⟨G, h1.kep k, h2⟩
theorem OwnN.elder {w0 w w' : World} {e : TypeId} {z : Nat} {v : Value} {n : Nat} {xs : List Value} (h : OwnN w w' e z v n xs) (k : Kep w0 w) : OwnN w0 w' e z v n xs := by
  obtain ⟨G, h1, h2⟩ := h
  exact ⟨G, h1, fun g hg => Nat.le_trans k.size (h2 g hg)⟩

set_option maxHeartbeats 8000000 in
set_option maxRecDepth 100000 in
theorem save_any {w : World} {p : Nat} {s : DS} {F : List Nat} (h : Dev w p s F) (ok : s.Ok) (hE : s.E.length ≤ 64) (hO : (s.O.length : Int) ≤ 140737488355328) :
    Calls Try.prog 16 #[.pointer (some ⟨p, 0, none⟩)] w fun e w' => ∃ xo co xd cd xq cq xs cs, e = .returned (.agg (savL zH (.slice xo s.O.length co) (.slice xd s.D.length cd) (.slice xq s.Q.length cq) (.slice xs s.E.length cs) s.b s.m s.n s.a s.s s.k s.f s.t).toArray) ∧ Savd w w' s xo co xd cd xq cq xs cs ∧ Kep w w' := by
  have h' : Hid (Dev w p s F) := h
  have ok' : Hid s.Ok := ok
  have HW : Hid (∀ w', Kep w w' → Calls Try.prog 28 #[.pointer (some ⟨p, 0, none⟩)] w' fun e w'' => e = .returned (.bool true) ∧ w'' = w') := fun w' k => (h.kep k).works
  have HO : Hid (∀ w', Kep w w' → Calls Try.prog 19 #[.pointer (some ⟨p, 0, none⟩)] w' fun e w'' => ∃ x c, e = .returned (.slice x s.O.length c) ∧ OwnN w w'' 5 1 (.slice x s.O.length c) s.O.length (byt s.O) ∧ Kep w' w'') := fun w' k => by
    refine (output_any (h.kep k) hO).mono ?_
    rintro e w'' ⟨v, rfl, ⟨G, sl, hG⟩, k2⟩
    obtain ⟨x, c, rfl, _⟩ := sl.lies
    exact ⟨x, c, rfl, ⟨G, sl, fun g hg => Nat.le_trans k.size (hG g hg)⟩, k2⟩
  have HD : Hid (∀ w', Kep w w' → Calls Try.prog 20 #[.pointer (some ⟨p, 0, none⟩)] w' fun e w'' => ∃ x c, e = .returned (.slice x s.D.length c) ∧ OwnN w w'' 5 1 (.slice x s.D.length c) s.D.length (byt s.D) ∧ Kep w' w'') := fun w' k => by
    refine (disk_any (h.kep k) ok).mono ?_
    rintro e w'' ⟨v, rfl, ⟨G, sl, hG⟩, k2⟩
    obtain ⟨x, c, rfl, _⟩ := sl.lies
    exact ⟨x, c, rfl, ⟨G, sl, fun g hg => Nat.le_trans k.size (hG g hg)⟩, k2⟩
  obtain ⟨vs, vq, vo, vb, Fs, Fq, Fo, Fb, D, hF⟩ := h
  obtain ⟨xs0, cs0, hvs, hls, _⟩ := D.sc.lies
  obtain ⟨xq0, cq0, hvq, hlq, _⟩ := D.q.lies
  subst hvs hvq
  have HQ : Hid (∀ w', Kep w w' → Calls Try.prog 51 #[.slice xq0 s.Q.length cq0] w' fun e w'' => ∃ x c, e = .returned (.slice x s.Q.length c) ∧ OwnN w w'' 5 1 (.slice x s.Q.length c) s.Q.length (byt s.Q) ∧ Kep w' w'') := fun w' k => by
    refine (clone_u8 w' xq0 s.Q.length cq0 (byt s.Q) (by rw [byt_len]; omega) (hlq.kep k) (byt_ones _) (by have := ok.q; omega)).mono ?_
    rintro e w'' ⟨v, rfl, ho, k2⟩
    obtain ⟨x, c, rfl⟩ := owns_form ho
    obtain ⟨G, s1, s2⟩ := Sli.of_owns ho
    exact ⟨x, c, rfl, ⟨G, s1, fun g hg => Nat.le_trans k.size (s2 g hg)⟩, k2⟩
  have HS : Hid (∀ w', Kep w w' → Calls Try.prog 25 #[.slice xs0 s.E.length cs0] w' fun e w'' => ∃ x c, e = .returned (.slice x s.E.length c) ∧ OwnN w w'' 68 3 (.slice x s.E.length c) s.E.length (evs s.E) ∧ Kep w' w'') := fun w' k => by
    refine (clone_ev w' xs0 s.E.length cs0 (evs s.E) (by rw [evs_len]) (hls.kep k) (evs_ones _) (by omega)).mono ?_
    rintro e w'' ⟨v, rfl, ho, k2⟩
    obtain ⟨x, c, rfl⟩ := owns_form ho
    obtain ⟨G, s1, s2⟩ := Sli.of_owns ho
    exact ⟨x, c, rfl, ⟨G, s1, fun g hg => Nat.le_trans k.size (s2 g hg)⟩, k2⟩
  have lp : p < w.heap.size := block_lt D.box
  have CW : Hid (∀ w', Kep w w' → w'.cell? ⟨p, 1, none⟩ = some (.slice xs0 s.E.length cs0) ∧ w'.cell? ⟨p, 2, none⟩ = some (.int .u32 s.b) ∧ w'.cell? ⟨p, 3, none⟩ = some (.int .u32 s.m) ∧ w'.cell? ⟨p, 4, none⟩ = some (.slice xq0 s.Q.length cq0) ∧ w'.cell? ⟨p, 7, none⟩ = some (.int .u32 s.n) ∧ w'.cell? ⟨p, 8, none⟩ = some (.int .u32 s.a) ∧ w'.cell? ⟨p, 9, none⟩ = some (.int .u32 s.s) ∧ w'.cell? ⟨p, 10, none⟩ = some (.int .u32 s.k) ∧ w'.cell? ⟨p, 11, none⟩ = some (.int .u32 s.f) ∧ w'.cell? ⟨p, 12, none⟩ = some (.int .u32 s.t)) := fun w' K => by
    have hb := K.block D.box
    exact ⟨(cell_of_block hb).trans rfl, (cell_of_block hb).trans rfl, (cell_of_block hb).trans rfl, (cell_of_block hb).trans rfl, (cell_of_block hb).trans rfl, (cell_of_block hb).trans rfl, (cell_of_block hb).trans rfl, (cell_of_block hb).trans rfl, (cell_of_block hb).trans rfl, (cell_of_block hb).trans rfl⟩
  have z0 : ∀ w : World, Sem.run Try.prog (zeroValue 55) w = .ok (.agg savZ) w := fun w => by kernel_rfl
  have KA : Hid (Kep w (w.alloc (.cells savZ 55))) := (Kep.refl w).alloc _
  have BA : Hid ((w.alloc (.cells savZ 55)).heap[w.heap.size]? = some (.cells savZ 55 (0, 0))) := hat _ _ _ rfl
  have hzs : Hid ((savZ : Array Value).size = 35) := rfl
  generalize savZ = Z at z0 KA BA hzs
  clear D hls hlq hF ok hE hO
  go_enter Try.func16, Try.ntmps16
  go_upto_region 1 with fail
  generalize w.alloc (.cells Z 55) = V at KA BA ⊢
  obtain ⟨r, hr⟩ : ∃ r, Hid (r = w.heap.size) := ⟨_, rfl⟩
  rw [← hr.out] at BA ⊢
  go_upto_region 3 with (go_at_call 28; refine (HW.out _ KA.out).mono ?_; rintro e w1 ⟨rfl, hq⟩; rw [hq]; clear hq)
  refine wp_region_held_drew (S := fun w' => w'.cell? ⟨p, 1, none⟩ = some (.slice xs0 s.E.length cs0) ∧ w'.cell? ⟨p, 2, none⟩ = some (.int .u32 s.b) ∧ w'.cell? ⟨p, 3, none⟩ = some (.int .u32 s.m) ∧ w'.cell? ⟨p, 4, none⟩ = some (.slice xq0 s.Q.length cq0) ∧ w'.cell? ⟨p, 7, none⟩ = some (.int .u32 s.n) ∧ w'.cell? ⟨p, 8, none⟩ = some (.int .u32 s.a) ∧ w'.cell? ⟨p, 9, none⟩ = some (.int .u32 s.s) ∧ w'.cell? ⟨p, 10, none⟩ = some (.int .u32 s.k) ∧ w'.cell? ⟨p, 11, none⟩ = some (.int .u32 s.f) ∧ w'.cell? ⟨p, 12, none⟩ = some (.int .u32 s.t)) (by kernel_rfl) (CW.out V KA.out) (fun hH => ?_)
  refine wpAnyH_take (i := 0) (v := .pointer (some ⟨p, 0, none⟩)) rfl (by kernel_rfl) (by kernel_rfl) (by kernel_rfl) (fun _ _ _ h => h) (.inl ⟨by rfl, by intro w hS; obtain ⟨c1, c2, c3, c4, c7, c8, c9, c10, c11, c12⟩ := hS; go_simp⟩) hH ?_
  (try dsimp only [Act.put]); (try simp only [Act.put, List.setIfInBounds_toArray, List.set_cons_zero, List.set_cons_succ])
  refine wpAnyH_take (i := 2) (v := .pointer (some ⟨p, 0, none⟩)) rfl (by kernel_rfl) (by kernel_rfl) (by kernel_rfl) (fun _ _ _ h => h) (.inl ⟨by rfl, by intro w hS; obtain ⟨c1, c2, c3, c4, c7, c8, c9, c10, c11, c12⟩ := hS; go_simp⟩) hH ?_
  (try dsimp only [Act.put]); (try simp only [Act.put, List.setIfInBounds_toArray, List.set_cons_zero, List.set_cons_succ])
  refine wpAnyH_take (i := 4) (v := .pointer (some ⟨p, 0, none⟩)) rfl (by kernel_rfl) (by kernel_rfl) (by kernel_rfl) (fun _ _ _ h => h) (.inl ⟨by rfl, by intro w hS; obtain ⟨c1, c2, c3, c4, c7, c8, c9, c10, c11, c12⟩ := hS; go_simp⟩) hH ?_
  (try dsimp only [Act.put]); (try simp only [Act.put, List.setIfInBounds_toArray, List.set_cons_zero, List.set_cons_succ])
  refine wpAnyH_take (i := 5) (v := .pointer (some ⟨p, 0, none⟩)) rfl (by kernel_rfl) (by kernel_rfl) (by kernel_rfl) (fun _ _ _ h => h) (.inl ⟨by rfl, by intro w hS; obtain ⟨c1, c2, c3, c4, c7, c8, c9, c10, c11, c12⟩ := hS; go_simp⟩) hH ?_
  (try dsimp only [Act.put]); (try simp only [Act.put, List.setIfInBounds_toArray, List.set_cons_zero, List.set_cons_succ])
  refine wpAnyH_take (i := 6) (v := .pointer (some ⟨p, 4, none⟩)) rfl (by kernel_rfl) (by kernel_rfl) (by kernel_rfl) (fun _ _ _ h => h) (.inl ⟨by rfl, by intro w hS; obtain ⟨c1, c2, c3, c4, c7, c8, c9, c10, c11, c12⟩ := hS; go_simp⟩) hH ?_
  (try dsimp only [Act.put]); (try simp only [Act.put, List.setIfInBounds_toArray, List.set_cons_zero, List.set_cons_succ])
  refine wpAnyH_take (i := 7) (v := .pointer (some ⟨p, 4, none⟩)) rfl (by kernel_rfl) (by kernel_rfl) (by kernel_rfl) (fun _ _ _ h => h) (.inl ⟨by rfl, by intro w hS; obtain ⟨c1, c2, c3, c4, c7, c8, c9, c10, c11, c12⟩ := hS; go_simp⟩) hH ?_
  (try dsimp only [Act.put]); (try simp only [Act.put, List.setIfInBounds_toArray, List.set_cons_zero, List.set_cons_succ])
  refine wpAnyH_take (i := 8) (v := .slice xq0 s.Q.length cq0) rfl (by kernel_rfl) (by kernel_rfl) (by kernel_rfl) (fun _ _ _ h => h) (.inl ⟨by rfl, by intro w hS; obtain ⟨c1, c2, c3, c4, c7, c8, c9, c10, c11, c12⟩ := hS; go_simp⟩) hH ?_
  (try dsimp only [Act.put]); (try simp only [Act.put, List.setIfInBounds_toArray, List.set_cons_zero, List.set_cons_succ])
  refine wpAnyH_take (i := 10) (v := .pointer (some ⟨p, 0, none⟩)) rfl (by kernel_rfl) (by kernel_rfl) (by kernel_rfl) (fun _ _ _ h => h) (.inl ⟨by rfl, by intro w hS; obtain ⟨c1, c2, c3, c4, c7, c8, c9, c10, c11, c12⟩ := hS; go_simp⟩) hH ?_
  (try dsimp only [Act.put]); (try simp only [Act.put, List.setIfInBounds_toArray, List.set_cons_zero, List.set_cons_succ])
  refine wpAnyH_take (i := 11) (v := .pointer (some ⟨p, 0, none⟩)) rfl (by kernel_rfl) (by kernel_rfl) (by kernel_rfl) (fun _ _ _ h => h) (.inl ⟨by rfl, by intro w hS; obtain ⟨c1, c2, c3, c4, c7, c8, c9, c10, c11, c12⟩ := hS; go_simp⟩) hH ?_
  (try dsimp only [Act.put]); (try simp only [Act.put, List.setIfInBounds_toArray, List.set_cons_zero, List.set_cons_succ])
  refine wpAnyH_take (i := 12) (v := .pointer (some ⟨p, 1, none⟩)) rfl (by kernel_rfl) (by kernel_rfl) (by kernel_rfl) (fun _ _ _ h => h) (.inl ⟨by rfl, by intro w hS; obtain ⟨c1, c2, c3, c4, c7, c8, c9, c10, c11, c12⟩ := hS; go_simp⟩) hH ?_
  (try dsimp only [Act.put]); (try simp only [Act.put, List.setIfInBounds_toArray, List.set_cons_zero, List.set_cons_succ])
  refine wpAnyH_take (i := 13) (v := .slice xs0 s.E.length cs0) rfl (by kernel_rfl) (by kernel_rfl) (by kernel_rfl) (fun _ _ _ h => h) (.inl ⟨by rfl, by intro w hS; obtain ⟨c1, c2, c3, c4, c7, c8, c9, c10, c11, c12⟩ := hS; go_simp⟩) hH ?_
  (try dsimp only [Act.put]); (try simp only [Act.put, List.setIfInBounds_toArray, List.set_cons_zero, List.set_cons_succ])
  refine wpAnyH_take (i := 15) (v := .pointer (some ⟨p, 0, none⟩)) rfl (by kernel_rfl) (by kernel_rfl) (by kernel_rfl) (fun _ _ _ h => h) (.inl ⟨by rfl, by intro w hS; obtain ⟨c1, c2, c3, c4, c7, c8, c9, c10, c11, c12⟩ := hS; go_simp⟩) hH ?_
  (try dsimp only [Act.put]); (try simp only [Act.put, List.setIfInBounds_toArray, List.set_cons_zero, List.set_cons_succ])
  refine wpAnyH_take (i := 16) (v := .pointer (some ⟨p, 0, none⟩)) rfl (by kernel_rfl) (by kernel_rfl) (by kernel_rfl) (fun _ _ _ h => h) (.inl ⟨by rfl, by intro w hS; obtain ⟨c1, c2, c3, c4, c7, c8, c9, c10, c11, c12⟩ := hS; go_simp⟩) hH ?_
  (try dsimp only [Act.put]); (try simp only [Act.put, List.setIfInBounds_toArray, List.set_cons_zero, List.set_cons_succ])
  refine wpAnyH_take (i := 17) (v := .pointer (some ⟨p, 2, none⟩)) rfl (by kernel_rfl) (by kernel_rfl) (by kernel_rfl) (fun _ _ _ h => h) (.inl ⟨by rfl, by intro w hS; obtain ⟨c1, c2, c3, c4, c7, c8, c9, c10, c11, c12⟩ := hS; go_simp⟩) hH ?_
  (try dsimp only [Act.put]); (try simp only [Act.put, List.setIfInBounds_toArray, List.set_cons_zero, List.set_cons_succ])
  refine wpAnyH_take (i := 18) (v := .pointer (some ⟨p, 2, none⟩)) rfl (by kernel_rfl) (by kernel_rfl) (by kernel_rfl) (fun _ _ _ h => h) (.inl ⟨by rfl, by intro w hS; obtain ⟨c1, c2, c3, c4, c7, c8, c9, c10, c11, c12⟩ := hS; go_simp⟩) hH ?_
  (try dsimp only [Act.put]); (try simp only [Act.put, List.setIfInBounds_toArray, List.set_cons_zero, List.set_cons_succ])
  refine wpAnyH_take (i := 19) (v := .int .u32 s.b) rfl (by kernel_rfl) (by kernel_rfl) (by kernel_rfl) (fun _ _ _ h => h) (.inl ⟨by rfl, by intro w hS; obtain ⟨c1, c2, c3, c4, c7, c8, c9, c10, c11, c12⟩ := hS; go_simp⟩) hH ?_
  (try dsimp only [Act.put]); (try simp only [Act.put, List.setIfInBounds_toArray, List.set_cons_zero, List.set_cons_succ])
  refine wpAnyH_take (i := 20) (v := .pointer (some ⟨p, 0, none⟩)) rfl (by kernel_rfl) (by kernel_rfl) (by kernel_rfl) (fun _ _ _ h => h) (.inl ⟨by rfl, by intro w hS; obtain ⟨c1, c2, c3, c4, c7, c8, c9, c10, c11, c12⟩ := hS; go_simp⟩) hH ?_
  (try dsimp only [Act.put]); (try simp only [Act.put, List.setIfInBounds_toArray, List.set_cons_zero, List.set_cons_succ])
  refine wpAnyH_take (i := 21) (v := .pointer (some ⟨p, 0, none⟩)) rfl (by kernel_rfl) (by kernel_rfl) (by kernel_rfl) (fun _ _ _ h => h) (.inl ⟨by rfl, by intro w hS; obtain ⟨c1, c2, c3, c4, c7, c8, c9, c10, c11, c12⟩ := hS; go_simp⟩) hH ?_
  (try dsimp only [Act.put]); (try simp only [Act.put, List.setIfInBounds_toArray, List.set_cons_zero, List.set_cons_succ])
  refine wpAnyH_take (i := 22) (v := .pointer (some ⟨p, 2, none⟩)) rfl (by kernel_rfl) (by kernel_rfl) (by kernel_rfl) (fun _ _ _ h => h) (.inl ⟨by rfl, by intro w hS; obtain ⟨c1, c2, c3, c4, c7, c8, c9, c10, c11, c12⟩ := hS; go_simp⟩) hH ?_
  (try dsimp only [Act.put]); (try simp only [Act.put, List.setIfInBounds_toArray, List.set_cons_zero, List.set_cons_succ])
  refine wpAnyH_take (i := 23) (v := .pointer (some ⟨p, 3, none⟩)) rfl (by kernel_rfl) (by kernel_rfl) (by kernel_rfl) (fun _ _ _ h => h) (.inl ⟨by rfl, by intro w hS; obtain ⟨c1, c2, c3, c4, c7, c8, c9, c10, c11, c12⟩ := hS; go_simp⟩) hH ?_
  (try dsimp only [Act.put]); (try simp only [Act.put, List.setIfInBounds_toArray, List.set_cons_zero, List.set_cons_succ])
  refine wpAnyH_take (i := 24) (v := .int .u32 s.m) rfl (by kernel_rfl) (by kernel_rfl) (by kernel_rfl) (fun _ _ _ h => h) (.inl ⟨by rfl, by intro w hS; obtain ⟨c1, c2, c3, c4, c7, c8, c9, c10, c11, c12⟩ := hS; go_simp⟩) hH ?_
  (try dsimp only [Act.put]); (try simp only [Act.put, List.setIfInBounds_toArray, List.set_cons_zero, List.set_cons_succ])
  refine wpAnyH_take (i := 25) (v := .pointer (some ⟨p, 0, none⟩)) rfl (by kernel_rfl) (by kernel_rfl) (by kernel_rfl) (fun _ _ _ h => h) (.inl ⟨by rfl, by intro w hS; obtain ⟨c1, c2, c3, c4, c7, c8, c9, c10, c11, c12⟩ := hS; go_simp⟩) hH ?_
  (try dsimp only [Act.put]); (try simp only [Act.put, List.setIfInBounds_toArray, List.set_cons_zero, List.set_cons_succ])
  refine wpAnyH_take (i := 26) (v := .pointer (some ⟨p, 0, none⟩)) rfl (by kernel_rfl) (by kernel_rfl) (by kernel_rfl) (fun _ _ _ h => h) (.inl ⟨by rfl, by intro w hS; obtain ⟨c1, c2, c3, c4, c7, c8, c9, c10, c11, c12⟩ := hS; go_simp⟩) hH ?_
  (try dsimp only [Act.put]); (try simp only [Act.put, List.setIfInBounds_toArray, List.set_cons_zero, List.set_cons_succ])
  refine wpAnyH_take (i := 27) (v := .pointer (some ⟨p, 6, none⟩)) rfl (by kernel_rfl) (by kernel_rfl) (by kernel_rfl) (fun _ _ _ h => h) (.inl ⟨by rfl, by intro w hS; obtain ⟨c1, c2, c3, c4, c7, c8, c9, c10, c11, c12⟩ := hS; go_simp⟩) hH ?_
  (try dsimp only [Act.put]); (try simp only [Act.put, List.setIfInBounds_toArray, List.set_cons_zero, List.set_cons_succ])
  refine wpAnyH_take (i := 28) (v := .pointer (some ⟨p, 7, none⟩)) rfl (by kernel_rfl) (by kernel_rfl) (by kernel_rfl) (fun _ _ _ h => h) (.inl ⟨by rfl, by intro w hS; obtain ⟨c1, c2, c3, c4, c7, c8, c9, c10, c11, c12⟩ := hS; go_simp⟩) hH ?_
  (try dsimp only [Act.put]); (try simp only [Act.put, List.setIfInBounds_toArray, List.set_cons_zero, List.set_cons_succ])
  refine wpAnyH_take (i := 29) (v := .int .u32 s.n) rfl (by kernel_rfl) (by kernel_rfl) (by kernel_rfl) (fun _ _ _ h => h) (.inl ⟨by rfl, by intro w hS; obtain ⟨c1, c2, c3, c4, c7, c8, c9, c10, c11, c12⟩ := hS; go_simp⟩) hH ?_
  (try dsimp only [Act.put]); (try simp only [Act.put, List.setIfInBounds_toArray, List.set_cons_zero, List.set_cons_succ])
  refine wpAnyH_take (i := 30) (v := .pointer (some ⟨p, 0, none⟩)) rfl (by kernel_rfl) (by kernel_rfl) (by kernel_rfl) (fun _ _ _ h => h) (.inl ⟨by rfl, by intro w hS; obtain ⟨c1, c2, c3, c4, c7, c8, c9, c10, c11, c12⟩ := hS; go_simp⟩) hH ?_
  (try dsimp only [Act.put]); (try simp only [Act.put, List.setIfInBounds_toArray, List.set_cons_zero, List.set_cons_succ])
  refine wpAnyH_take (i := 31) (v := .pointer (some ⟨p, 0, none⟩)) rfl (by kernel_rfl) (by kernel_rfl) (by kernel_rfl) (fun _ _ _ h => h) (.inl ⟨by rfl, by intro w hS; obtain ⟨c1, c2, c3, c4, c7, c8, c9, c10, c11, c12⟩ := hS; go_simp⟩) hH ?_
  (try dsimp only [Act.put]); (try simp only [Act.put, List.setIfInBounds_toArray, List.set_cons_zero, List.set_cons_succ])
  refine wpAnyH_take (i := 32) (v := .pointer (some ⟨p, 6, none⟩)) rfl (by kernel_rfl) (by kernel_rfl) (by kernel_rfl) (fun _ _ _ h => h) (.inl ⟨by rfl, by intro w hS; obtain ⟨c1, c2, c3, c4, c7, c8, c9, c10, c11, c12⟩ := hS; go_simp⟩) hH ?_
  (try dsimp only [Act.put]); (try simp only [Act.put, List.setIfInBounds_toArray, List.set_cons_zero, List.set_cons_succ])
  refine wpAnyH_take (i := 33) (v := .pointer (some ⟨p, 8, none⟩)) rfl (by kernel_rfl) (by kernel_rfl) (by kernel_rfl) (fun _ _ _ h => h) (.inl ⟨by rfl, by intro w hS; obtain ⟨c1, c2, c3, c4, c7, c8, c9, c10, c11, c12⟩ := hS; go_simp⟩) hH ?_
  (try dsimp only [Act.put]); (try simp only [Act.put, List.setIfInBounds_toArray, List.set_cons_zero, List.set_cons_succ])
  refine wpAnyH_take (i := 34) (v := .int .u32 s.a) rfl (by kernel_rfl) (by kernel_rfl) (by kernel_rfl) (fun _ _ _ h => h) (.inl ⟨by rfl, by intro w hS; obtain ⟨c1, c2, c3, c4, c7, c8, c9, c10, c11, c12⟩ := hS; go_simp⟩) hH ?_
  (try dsimp only [Act.put]); (try simp only [Act.put, List.setIfInBounds_toArray, List.set_cons_zero, List.set_cons_succ])
  refine wpAnyH_take (i := 35) (v := .pointer (some ⟨p, 0, none⟩)) rfl (by kernel_rfl) (by kernel_rfl) (by kernel_rfl) (fun _ _ _ h => h) (.inl ⟨by rfl, by intro w hS; obtain ⟨c1, c2, c3, c4, c7, c8, c9, c10, c11, c12⟩ := hS; go_simp⟩) hH ?_
  (try dsimp only [Act.put]); (try simp only [Act.put, List.setIfInBounds_toArray, List.set_cons_zero, List.set_cons_succ])
  refine wpAnyH_take (i := 36) (v := .pointer (some ⟨p, 0, none⟩)) rfl (by kernel_rfl) (by kernel_rfl) (by kernel_rfl) (fun _ _ _ h => h) (.inl ⟨by rfl, by intro w hS; obtain ⟨c1, c2, c3, c4, c7, c8, c9, c10, c11, c12⟩ := hS; go_simp⟩) hH ?_
  (try dsimp only [Act.put]); (try simp only [Act.put, List.setIfInBounds_toArray, List.set_cons_zero, List.set_cons_succ])
  refine wpAnyH_take (i := 37) (v := .pointer (some ⟨p, 6, none⟩)) rfl (by kernel_rfl) (by kernel_rfl) (by kernel_rfl) (fun _ _ _ h => h) (.inl ⟨by rfl, by intro w hS; obtain ⟨c1, c2, c3, c4, c7, c8, c9, c10, c11, c12⟩ := hS; go_simp⟩) hH ?_
  (try dsimp only [Act.put]); (try simp only [Act.put, List.setIfInBounds_toArray, List.set_cons_zero, List.set_cons_succ])
  refine wpAnyH_take (i := 38) (v := .pointer (some ⟨p, 9, none⟩)) rfl (by kernel_rfl) (by kernel_rfl) (by kernel_rfl) (fun _ _ _ h => h) (.inl ⟨by rfl, by intro w hS; obtain ⟨c1, c2, c3, c4, c7, c8, c9, c10, c11, c12⟩ := hS; go_simp⟩) hH ?_
  (try dsimp only [Act.put]); (try simp only [Act.put, List.setIfInBounds_toArray, List.set_cons_zero, List.set_cons_succ])
  refine wpAnyH_take (i := 39) (v := .int .u32 s.s) rfl (by kernel_rfl) (by kernel_rfl) (by kernel_rfl) (fun _ _ _ h => h) (.inl ⟨by rfl, by intro w hS; obtain ⟨c1, c2, c3, c4, c7, c8, c9, c10, c11, c12⟩ := hS; go_simp⟩) hH ?_
  (try dsimp only [Act.put]); (try simp only [Act.put, List.setIfInBounds_toArray, List.set_cons_zero, List.set_cons_succ])
  refine wpAnyH_take (i := 40) (v := .pointer (some ⟨p, 0, none⟩)) rfl (by kernel_rfl) (by kernel_rfl) (by kernel_rfl) (fun _ _ _ h => h) (.inl ⟨by rfl, by intro w hS; obtain ⟨c1, c2, c3, c4, c7, c8, c9, c10, c11, c12⟩ := hS; go_simp⟩) hH ?_
  (try dsimp only [Act.put]); (try simp only [Act.put, List.setIfInBounds_toArray, List.set_cons_zero, List.set_cons_succ])
  refine wpAnyH_take (i := 41) (v := .pointer (some ⟨p, 0, none⟩)) rfl (by kernel_rfl) (by kernel_rfl) (by kernel_rfl) (fun _ _ _ h => h) (.inl ⟨by rfl, by intro w hS; obtain ⟨c1, c2, c3, c4, c7, c8, c9, c10, c11, c12⟩ := hS; go_simp⟩) hH ?_
  (try dsimp only [Act.put]); (try simp only [Act.put, List.setIfInBounds_toArray, List.set_cons_zero, List.set_cons_succ])
  refine wpAnyH_take (i := 42) (v := .pointer (some ⟨p, 6, none⟩)) rfl (by kernel_rfl) (by kernel_rfl) (by kernel_rfl) (fun _ _ _ h => h) (.inl ⟨by rfl, by intro w hS; obtain ⟨c1, c2, c3, c4, c7, c8, c9, c10, c11, c12⟩ := hS; go_simp⟩) hH ?_
  (try dsimp only [Act.put]); (try simp only [Act.put, List.setIfInBounds_toArray, List.set_cons_zero, List.set_cons_succ])
  refine wpAnyH_take (i := 43) (v := .pointer (some ⟨p, 10, none⟩)) rfl (by kernel_rfl) (by kernel_rfl) (by kernel_rfl) (fun _ _ _ h => h) (.inl ⟨by rfl, by intro w hS; obtain ⟨c1, c2, c3, c4, c7, c8, c9, c10, c11, c12⟩ := hS; go_simp⟩) hH ?_
  (try dsimp only [Act.put]); (try simp only [Act.put, List.setIfInBounds_toArray, List.set_cons_zero, List.set_cons_succ])
  refine wpAnyH_take (i := 44) (v := .pointer (some ⟨p, 10, none⟩)) rfl (by kernel_rfl) (by kernel_rfl) (by kernel_rfl) (fun _ _ _ h => h) (.inl ⟨by rfl, by intro w hS; obtain ⟨c1, c2, c3, c4, c7, c8, c9, c10, c11, c12⟩ := hS; go_simp⟩) hH ?_
  (try dsimp only [Act.put]); (try simp only [Act.put, List.setIfInBounds_toArray, List.set_cons_zero, List.set_cons_succ])
  refine wpAnyH_take (i := 45) (v := .int .u32 s.k) rfl (by kernel_rfl) (by kernel_rfl) (by kernel_rfl) (fun _ _ _ h => h) (.inl ⟨by rfl, by intro w hS; obtain ⟨c1, c2, c3, c4, c7, c8, c9, c10, c11, c12⟩ := hS; go_simp⟩) hH ?_
  (try dsimp only [Act.put]); (try simp only [Act.put, List.setIfInBounds_toArray, List.set_cons_zero, List.set_cons_succ])
  refine wpAnyH_take (i := 46) (v := .pointer (some ⟨p, 0, none⟩)) rfl (by kernel_rfl) (by kernel_rfl) (by kernel_rfl) (fun _ _ _ h => h) (.inl ⟨by rfl, by intro w hS; obtain ⟨c1, c2, c3, c4, c7, c8, c9, c10, c11, c12⟩ := hS; go_simp⟩) hH ?_
  (try dsimp only [Act.put]); (try simp only [Act.put, List.setIfInBounds_toArray, List.set_cons_zero, List.set_cons_succ])
  refine wpAnyH_take (i := 47) (v := .pointer (some ⟨p, 0, none⟩)) rfl (by kernel_rfl) (by kernel_rfl) (by kernel_rfl) (fun _ _ _ h => h) (.inl ⟨by rfl, by intro w hS; obtain ⟨c1, c2, c3, c4, c7, c8, c9, c10, c11, c12⟩ := hS; go_simp⟩) hH ?_
  (try dsimp only [Act.put]); (try simp only [Act.put, List.setIfInBounds_toArray, List.set_cons_zero, List.set_cons_succ])
  refine wpAnyH_take (i := 48) (v := .pointer (some ⟨p, 6, none⟩)) rfl (by kernel_rfl) (by kernel_rfl) (by kernel_rfl) (fun _ _ _ h => h) (.inl ⟨by rfl, by intro w hS; obtain ⟨c1, c2, c3, c4, c7, c8, c9, c10, c11, c12⟩ := hS; go_simp⟩) hH ?_
  (try dsimp only [Act.put]); (try simp only [Act.put, List.setIfInBounds_toArray, List.set_cons_zero, List.set_cons_succ])
  refine wpAnyH_take (i := 49) (v := .pointer (some ⟨p, 10, none⟩)) rfl (by kernel_rfl) (by kernel_rfl) (by kernel_rfl) (fun _ _ _ h => h) (.inl ⟨by rfl, by intro w hS; obtain ⟨c1, c2, c3, c4, c7, c8, c9, c10, c11, c12⟩ := hS; go_simp⟩) hH ?_
  (try dsimp only [Act.put]); (try simp only [Act.put, List.setIfInBounds_toArray, List.set_cons_zero, List.set_cons_succ])
  refine wpAnyH_take (i := 50) (v := .pointer (some ⟨p, 11, none⟩)) rfl (by kernel_rfl) (by kernel_rfl) (by kernel_rfl) (fun _ _ _ h => h) (.inl ⟨by rfl, by intro w hS; obtain ⟨c1, c2, c3, c4, c7, c8, c9, c10, c11, c12⟩ := hS; go_simp⟩) hH ?_
  (try dsimp only [Act.put]); (try simp only [Act.put, List.setIfInBounds_toArray, List.set_cons_zero, List.set_cons_succ])
  refine wpAnyH_take (i := 51) (v := .int .u32 s.f) rfl (by kernel_rfl) (by kernel_rfl) (by kernel_rfl) (fun _ _ _ h => h) (.inl ⟨by rfl, by intro w hS; obtain ⟨c1, c2, c3, c4, c7, c8, c9, c10, c11, c12⟩ := hS; go_simp⟩) hH ?_
  (try dsimp only [Act.put]); (try simp only [Act.put, List.setIfInBounds_toArray, List.set_cons_zero, List.set_cons_succ])
  refine wpAnyH_take (i := 52) (v := .pointer (some ⟨p, 0, none⟩)) rfl (by kernel_rfl) (by kernel_rfl) (by kernel_rfl) (fun _ _ _ h => h) (.inl ⟨by rfl, by intro w hS; obtain ⟨c1, c2, c3, c4, c7, c8, c9, c10, c11, c12⟩ := hS; go_simp⟩) hH ?_
  (try dsimp only [Act.put]); (try simp only [Act.put, List.setIfInBounds_toArray, List.set_cons_zero, List.set_cons_succ])
  refine wpAnyH_take (i := 53) (v := .pointer (some ⟨p, 0, none⟩)) rfl (by kernel_rfl) (by kernel_rfl) (by kernel_rfl) (fun _ _ _ h => h) (.inl ⟨by rfl, by intro w hS; obtain ⟨c1, c2, c3, c4, c7, c8, c9, c10, c11, c12⟩ := hS; go_simp⟩) hH ?_
  (try dsimp only [Act.put]); (try simp only [Act.put, List.setIfInBounds_toArray, List.set_cons_zero, List.set_cons_succ])
  refine wpAnyH_take (i := 54) (v := .pointer (some ⟨p, 6, none⟩)) rfl (by kernel_rfl) (by kernel_rfl) (by kernel_rfl) (fun _ _ _ h => h) (.inl ⟨by rfl, by intro w hS; obtain ⟨c1, c2, c3, c4, c7, c8, c9, c10, c11, c12⟩ := hS; go_simp⟩) hH ?_
  (try dsimp only [Act.put]); (try simp only [Act.put, List.setIfInBounds_toArray, List.set_cons_zero, List.set_cons_succ])
  refine wpAnyH_take (i := 55) (v := .pointer (some ⟨p, 10, none⟩)) rfl (by kernel_rfl) (by kernel_rfl) (by kernel_rfl) (fun _ _ _ h => h) (.inl ⟨by rfl, by intro w hS; obtain ⟨c1, c2, c3, c4, c7, c8, c9, c10, c11, c12⟩ := hS; go_simp⟩) hH ?_
  (try dsimp only [Act.put]); (try simp only [Act.put, List.setIfInBounds_toArray, List.set_cons_zero, List.set_cons_succ])
  refine wpAnyH_take (i := 56) (v := .pointer (some ⟨p, 12, none⟩)) rfl (by kernel_rfl) (by kernel_rfl) (by kernel_rfl) (fun _ _ _ h => h) (.inl ⟨by rfl, by intro w hS; obtain ⟨c1, c2, c3, c4, c7, c8, c9, c10, c11, c12⟩ := hS; go_simp⟩) hH ?_
  (try dsimp only [Act.put]); (try simp only [Act.put, List.setIfInBounds_toArray, List.set_cons_zero, List.set_cons_succ])
  refine wpAnyH_take (i := 57) (v := .int .u32 s.t) rfl (by kernel_rfl) (by kernel_rfl) (by kernel_rfl) (fun _ _ _ h => h) (.inl ⟨by rfl, by intro w hS; obtain ⟨c1, c2, c3, c4, c7, c8, c9, c10, c11, c12⟩ := hS; go_simp⟩) hH ?_
  (try dsimp only [Act.put]); (try simp only [Act.put, List.setIfInBounds_toArray, List.set_cons_zero, List.set_cons_succ])
  have K0 : Hid (Kep w V.drew) := KA.out.drew
  refine wpAnyH_ready (rs := [1]) (by kernel_rfl) (by simp) ?_
  refine AllReadyH.cons rfl (fun K hK => ?_) AllReadyH.nil
  rw [if_pos (by rfl)]
  go_simp
  refine (HO.out _ K0.out).mono ?_
  rintro e w1 ⟨xo, co, rfl, o1, k1⟩
  refine hK.out _ _ (CW.out _ (kep_trans K0.out k1)) (fun hH => ?_)
  clear hK K
  (try dsimp only [Act.put]); (try simp only [Act.put, List.setIfInBounds_toArray, List.set_cons_zero, List.set_cons_succ])
  have O1 : Hid _ := o1
  have Q1 : Hid (Kep V.drew w1) := k1
  have K1 : Hid (Kep w w1) := kep_trans K0.out k1
  clear o1 k1
  refine wpAnyH_ready (rs := [3]) (by kernel_rfl) (by simp) ?_
  refine AllReadyH.cons rfl (fun K hK => ?_) AllReadyH.nil
  rw [if_pos (by rfl)]
  go_simp
  refine (HD.out _ K1.out).mono ?_
  rintro e w2 ⟨xd, cd, rfl, o2, k2⟩
  refine hK.out _ _ (CW.out _ (kep_trans K1.out k2)) (fun hH => ?_)
  clear hK K
  (try dsimp only [Act.put]); (try simp only [Act.put, List.setIfInBounds_toArray, List.set_cons_zero, List.set_cons_succ])
  have O2 : Hid _ := o2
  have Q2 : Hid (Kep w1 w2) := k2
  have K2 : Hid (Kep w w2) := kep_trans K1.out k2
  clear o2 k2
  refine wpAnyH_ready (rs := [9]) (by kernel_rfl) (by simp) ?_
  refine AllReadyH.cons rfl (fun K hK => ?_) AllReadyH.nil
  rw [if_pos (by rfl)]
  go_simp
  refine (HQ.out _ K2.out).mono ?_
  rintro e w3 ⟨xq, cq, rfl, o3, k3⟩
  refine hK.out _ _ (CW.out _ (kep_trans K2.out k3)) (fun hH => ?_)
  clear hK K
  (try dsimp only [Act.put]); (try simp only [Act.put, List.setIfInBounds_toArray, List.set_cons_zero, List.set_cons_succ])
  have O3 : Hid _ := o3
  have Q3 : Hid (Kep w2 w3) := k3
  have K3 : Hid (Kep w w3) := kep_trans K2.out k3
  clear o3 k3
  refine wpAnyH_ready (rs := [14]) (by kernel_rfl) (by simp) ?_
  refine AllReadyH.cons rfl (fun K hK => ?_) AllReadyH.nil
  rw [if_pos (by rfl)]
  go_simp
  refine (HS.out _ K3.out).mono ?_
  rintro e w4 ⟨xs, cs, rfl, o4, k4⟩
  refine hK.out _ _ (CW.out _ (kep_trans K3.out k4)) (fun hH => ?_)
  clear hK K
  (try dsimp only [Act.put]); (try simp only [Act.put, List.setIfInBounds_toArray, List.set_cons_zero, List.set_cons_succ])
  have O4 : Hid _ := o4
  have Q4 : Hid (Kep w3 w4) := k4
  have K4 : Hid (Kep w w4) := kep_trans K3.out k4
  clear o4 k4
  refine wpAnyH_take (i := 58) (v := .agg (savL zH (.slice xo s.O.length co) (.slice xd s.D.length cd) (.slice xq s.Q.length cq) (.slice xs s.E.length cs) s.b s.m s.n s.a s.s s.k s.f s.t).toArray) rfl (by kernel_rfl) (by kernel_rfl) (by kernel_rfl) (fun _ _ _ h => h) (.inl ⟨by rfl, by intro w hS; kernel_rfl⟩) hH ?_
  (try simp only [List.getElem_toArray, List.getElem_cons_zero, List.getElem_cons_succ, Act.put, List.setIfInBounds_toArray, List.set_cons_zero, List.set_cons_succ])
  refine wpAnyH_ready (rs := [59]) (by kernel_rfl) (by simp) ?_
  refine AllReadyH.cons rfl (fun K hK => ?_) AllReadyH.nil
  rw [if_pos (by rfl)]
  have B4 : w4.heap[r]? = some (.cells Z 55 (0, 0)) := Q4.out.block (Q3.out.block (Q2.out.block (Q1.out.block BA.out)))
  refine wp_store_row 55 _ _ rfl r (savL zH (.slice xo s.O.length co) (.slice xd s.D.length cd) (.slice xq s.Q.length cq) (.slice xs s.E.length cs) s.b s.m s.n s.a s.s s.k s.f s.t).toArray rfl rfl 55 Z B4 (by exact size_sav) (by rw [hzs.out]; rfl) (sav_one (H := zH) rfl _ _ _ _ _ _ _ _ _ _ _ _ _ _ _ _ _ _ _ _) ?_
  have KR : Hid (Kep w (w4.setRow r (savL zH (.slice xo s.O.length co) (.slice xd s.D.length cd) (.slice xq s.Q.length cq) (.slice xs s.E.length cs) s.b s.m s.n s.a s.s s.k s.f s.t).toArray)) := K4.out.setRow _ _ (by rw [hr.out]; exact Nat.le_refl _)
  have BR : Hid ((w4.setRow r (savL zH (.slice xo s.O.length co) (.slice xd s.D.length cd) (.slice xq s.Q.length cq) (.slice xs s.E.length cs) s.b s.m s.n s.a s.s s.k s.f s.t).toArray).heap[r]? = some (.cells (savL zH (.slice xo s.O.length co) (.slice xd s.D.length cd) (.slice xq s.Q.length cq) (.slice xs s.E.length cs) s.b s.m s.n s.a s.s s.k s.f s.t).toArray 55 (0, 0))) := setRow_heap _ _ _ _ _ _ B4
  have PR : Hid (Put [r] w4 (w4.setRow r (savL zH (.slice xo s.O.length co) (.slice xd s.D.length cd) (.slice xq s.Q.length cq) (.slice xs s.E.length cs) s.b s.m s.n s.a s.s s.k s.f s.t).toArray)) := (Put.refl w4).setRow (by simp) _
  refine hK.out _ _ (CW.out _ KR.out) (fun hH => ?_)
  clear hK K
  (try simp only [List.getElem_toArray, List.getElem_cons_zero, List.getElem_cons_succ, Act.put, List.setIfInBounds_toArray, List.set_cons_zero, List.set_cons_succ])
  refine wpAnyH_done (by kernel_rfl) ?_ _
  generalize w4.setRow r (savL zH (.slice xo s.O.length co) (.slice xd s.D.length cd) (.slice xq s.Q.length cq) (.slice xs s.E.length cs) s.b s.m s.n s.a s.s s.k s.f s.t).toArray = W at KR BR PR ⊢
  go_wp2_with fail
  refine bodyPost_ret (results_cell_row rfl _ _ r 55 _ (0, 0) _ (by kernel_rfl) BR.out Try.underlying55 rfl (by exact size_sav)) rfl ⟨xo, co, xd, cd, xq, cq, xs, cs, rfl, ⟨?_, ?_, ?_, ?_⟩, KR.out⟩
  · obtain ⟨G, s1, s2⟩ := OwnN.kep O1.out (kep_trans Q2.out (kep_trans Q3.out Q4.out))
    exact ⟨G, s1.put PR.out (fun g hg hm => s1.ne_tag hg B4 (by decide) (by simpa using hm)), s2⟩
  · obtain ⟨G, s1, s2⟩ := OwnN.kep O2.out (kep_trans Q3.out Q4.out)
    exact ⟨G, s1.put PR.out (fun g hg hm => s1.ne_tag hg B4 (by decide) (by simpa using hm)), s2⟩
  · obtain ⟨G, s1, s2⟩ := OwnN.kep O3.out (Q4.out)
    exact ⟨G, s1.put PR.out (fun g hg hm => s1.ne_tag hg B4 (by decide) (by simpa using hm)), s2⟩
  · obtain ⟨G, s1, s2⟩ := OwnN.kep O4.out (Kep.refl _)
    exact ⟨G, s1.put PR.out (fun g hg hm => s1.ne_tag hg B4 (by decide) (by simpa using hm)), s2⟩
end Go.Proofs.Ytpieeefeicdfgab

namespace Go.Proofs.Ytpieeefeicdfgab
open Go.RowKit
set_option linter.unusedVariables false
set_option linter.unusedSimpArgs false

theorem sav_at {H : List Value} (hH : H.length = 23) (vo vd vq vs : Value) (b m n a s k f t : Int) (j : Nat) : (savL H vo vd vq vs b m n a s k f t).toArray[23 + j]? = ([vo, vd, vq, vs, .int .u32 b, .int .u32 m, .int .u32 n, .int .u32 a, .int .u32 s, .int .u32 k, .int .u32 f, .int .u32 t] : List Value)[j]? := by
  rw [List.getElem?_toArray, savL, List.getElem?_append_right (by omega)]
  congr 1; omega
/-- A box that has what is saved: its cells. -/
theorem sav_box {H : List Value} (hH : H.length = 23) (vo vd vq vs : Value) (b m n a s k f t : Int) {w : World} {r : Nat} (h : w.heap[r]? = some (.cells (savL H vo vd vq vs b m n a s k f t).toArray 55 (0, 0))) :
    w.cell? ⟨r, 23, none⟩ = some vo ∧ w.cell? ⟨r, 24, none⟩ = some vd ∧ w.cell? ⟨r, 25, none⟩ = some vq ∧ w.cell? ⟨r, 26, none⟩ = some vs ∧ w.cell? ⟨r, 27, none⟩ = some (.int .u32 b) ∧ w.cell? ⟨r, 28, none⟩ = some (.int .u32 m) ∧ w.cell? ⟨r, 29, none⟩ = some (.int .u32 n) ∧ w.cell? ⟨r, 30, none⟩ = some (.int .u32 a) ∧ w.cell? ⟨r, 31, none⟩ = some (.int .u32 s) ∧ w.cell? ⟨r, 32, none⟩ = some (.int .u32 k) ∧ w.cell? ⟨r, 33, none⟩ = some (.int .u32 f) ∧ w.cell? ⟨r, 34, none⟩ = some (.int .u32 t) := by
  have c := sav_at hH vo vd vq vs b m n a s k f t
  exact ⟨(cell_of_block h).trans (c 0), (cell_of_block h).trans (c 1), (cell_of_block h).trans (c 2), (cell_of_block h).trans (c 3), (cell_of_block h).trans (c 4), (cell_of_block h).trans (c 5), (cell_of_block h).trans (c 6), (cell_of_block h).trans (c 7), (cell_of_block h).trans (c 8), (cell_of_block h).trans (c 9), (cell_of_block h).trans (c 10), (cell_of_block h).trans (c 11)⟩
/-- What is handed in: four slices that are only read, numbers that are ones. -/
structure SavIn (w : World) (E : List Ev) (Z Q O : List Int) (xo : Option Addr) (xd : Option Addr) (cd : Nat) (xq : Option Addr) (xs : Option Addr) (cs : Nat) (st k f t : Int) : Prop where
  o : Lies w xo (byt O)
  d : Lies w xd (byt Z)
  q : Lies w xq (byt Q)
  e : Lies w xs (evs E)
  ol : (O.length : Int) ≤ 140737488355328
  ql : (Q.length : Int) ≤ 9223372036854775807
  dc : Z.length ≤ cd
  dm : (cd : Int) ≤ 9223372036854775807
  ec : E.length ≤ cs
  em : (cs : Int) ≤ 9223372036854775807
  st : 0 ≤ st ∧ st < 4294967296
  k : 0 ≤ k ∧ k < 4294967296
  f : 0 ≤ f ∧ f < 4294967296
  t : 0 ≤ t ∧ t < 4294967296
theorem SavIn.kep {w w' : World} {E : List Ev} {Z Q O : List Int} {xo : Option Addr} {xd : Option Addr} {cd : Nat} {xq : Option Addr} {xs : Option Addr} {cs : Nat} {st k f t : Int} (h : SavIn w E Z Q O xo xd cd xq xs cs st k f t) (K : Kep w w') : SavIn w' E Z Q O xo xd cd xq xs cs st k f t :=
  ⟨h.o.kep K, h.d.kep K, h.q.kep K, h.e.kep K, h.ol, h.ql, h.dc, h.dm, h.ec, h.em, h.st, h.k, h.f, h.t⟩

set_option maxHeartbeats 16000000 in
set_option maxRecDepth 100000 in
theorem load_ok {w : World} {H : List Value} (hH : H.length = 23) {E : List Ev} {Z Q O : List Int} {xo : Option Addr} {co : Nat} {xd : Option Addr} {cd : Nat} {xq : Option Addr} {cq : Nat} {xs : Option Addr} {cs : Nat} {b m n a st k f t : Int} (I : SavIn w E Z Q O xo xd cd xq xs cs st k f t)
    (he : errI E Z = 0) (hQ : Q.length ≤ 32) (hb : b ≤ 7) (hm : m ≤ 7) (hfit : fitsB st k f t = true) :
    Calls Try.prog 17 #[.agg (savL H (.slice xo O.length co) (.slice xd Z.length cd) (.slice xq Q.length cq) (.slice xs E.length cs) b m n a st k f t).toArray] w fun e w' => ∃ p F, e = .returned (.tuple #[.pointer (some ⟨p, 0, none⟩), .int .i64 0]) ∧ Dev w' p ⟨E, b, m, Q, O, Z, n, a, st, k, f, t⟩ F ∧ Kep w w' ∧ ∀ g ∈ F, w.heap.size ≤ g := by
  obtain ⟨X, hX⟩ : ∃ X, Hid (X = (savL H (.slice xo O.length co) (.slice xd Z.length cd) (.slice xq Q.length cq) (.slice xs E.length cs) b m n a st k f t).toArray) := ⟨_, rfl⟩
  rw [← hX.out]
  have CX0 : Hid (∀ (w' : World) (r : Nat), w'.heap[r]? = some (.cells X 55 (0, 0)) → w'.cell? ⟨r, 23, none⟩ = some (.slice xo O.length co) ∧ w'.cell? ⟨r, 24, none⟩ = some (.slice xd Z.length cd) ∧ w'.cell? ⟨r, 25, none⟩ = some (.slice xq Q.length cq) ∧ w'.cell? ⟨r, 26, none⟩ = some (.slice xs E.length cs) ∧ w'.cell? ⟨r, 27, none⟩ = some (.int .u32 b) ∧ w'.cell? ⟨r, 28, none⟩ = some (.int .u32 m) ∧ w'.cell? ⟨r, 29, none⟩ = some (.int .u32 n) ∧ w'.cell? ⟨r, 30, none⟩ = some (.int .u32 a) ∧ w'.cell? ⟨r, 31, none⟩ = some (.int .u32 st) ∧ w'.cell? ⟨r, 32, none⟩ = some (.int .u32 k) ∧ w'.cell? ⟨r, 33, none⟩ = some (.int .u32 f) ∧ w'.cell? ⟨r, 34, none⟩ = some (.int .u32 t)) := fun w' r h => by
    rw [hX.out] at h; exact sav_box hH _ _ _ _ _ _ _ _ _ _ _ _ h
  have KA : Hid (Kep w (w.alloc (.cells X 55))) := (Kep.refl w).alloc _
  have BA : Hid ((w.alloc (.cells X 55)).heap[w.heap.size]? = some (.cells X 55 (0, 0))) := hat _ _ _ rfl
  have HN : Hid (∀ V, Kep w V → Calls Try.prog 6 #[.slice xs E.length cs, .slice xd Z.length cd] V fun e w' => ∃ p F, e = .returned (.tuple #[.pointer (some ⟨p, 0, none⟩), .int .i64 0]) ∧ Dev w' p (ds0 E Z) F ∧ Kep V w' ∧ ∀ g ∈ F, V.heap.size ≤ g) := fun V K => vnew_ok V xs E.length cs E rfl I.ec (I.e.kep K) xd Z.length cd Z rfl I.dc I.dm (I.d.kep K) he
  have HQ : Hid (∀ w', Kep w w' → Calls Try.prog 51 #[.slice xq Q.length cq] w' fun e w'' => ∃ x c, e = .returned (.slice x Q.length c) ∧ OwnN w' w'' 5 1 (.slice x Q.length c) Q.length (byt Q) ∧ Kep w' w'') := fun w' K => by
    refine (clone_u8 w' xq Q.length cq (byt Q) (by rw [byt_len]; omega) (I.q.kep K) (byt_ones _) (by omega)).mono ?_
    rintro e w'' ⟨v, rfl, ho, k2⟩
    obtain ⟨x, c, rfl⟩ := owns_form ho
    obtain ⟨G, s1, s2⟩ := Sli.of_owns ho
    exact ⟨x, c, rfl, ⟨G, s1, s2⟩, k2⟩
  have HO : Hid (∀ w', Kep w w' → Calls Try.prog 51 #[.slice xo O.length co] w' fun e w'' => ∃ x c, e = .returned (.slice x O.length c) ∧ OwnN w' w'' 5 1 (.slice x O.length c) O.length (byt O) ∧ Kep w' w'') := fun w' K => by
    refine (clone_u8 w' xo O.length co (byt O) (by rw [byt_len]; omega) (I.o.kep K) (byt_ones _) (by have := I.ol; omega)).mono ?_
    rintro e w'' ⟨v, rfl, ho, k2⟩
    obtain ⟨x, c, rfl⟩ := owns_form ho
    obtain ⟨G, s1, s2⟩ := Sli.of_owns ho
    exact ⟨x, c, rfl, ⟨G, s1, s2⟩, k2⟩
  have HF : Hid (∀ w, Calls Try.prog 52 #[.int .u32 st, .agg #[.int .u32 k, .int .u32 f, .int .u32 t]] w fun e w' => e = .returned (.bool true) ∧ Kep w w') := fun w => by
    have := fits_any w st k f t I.k I.f I.t
    rw [hfit] at this; exact this
  have tq : decide ((32 : Int) < (Q.length : Int)) = false := decide_eq_false (by omega)
  have tq' : decide (32 < Q.length) = false := decide_eq_false (by omega)
  have tb : decide ((7 : Int) < b) = false := decide_eq_false (by omega)
  have tm : decide ((7 : Int) < m) = false := decide_eq_false (by omega)
  clear hX I he hQ hb hm hfit hH
  go_enter Try.func17, Try.ntmps17
  go_upto_region 1 with fail
  generalize w.alloc (.cells X 55) = V at KA BA ⊢
  obtain ⟨r, hr⟩ : ∃ r, Hid (r = w.heap.size) := ⟨_, rfl⟩
  rw [← hr.out] at BA ⊢
  have CX : Hid (∀ w' : World, w'.heap[r]? = some (.cells X 55 (0, 0)) → w'.cell? ⟨r, 23, none⟩ = some (.slice xo O.length co) ∧ w'.cell? ⟨r, 24, none⟩ = some (.slice xd Z.length cd) ∧ w'.cell? ⟨r, 25, none⟩ = some (.slice xq Q.length cq) ∧ w'.cell? ⟨r, 26, none⟩ = some (.slice xs E.length cs) ∧ w'.cell? ⟨r, 27, none⟩ = some (.int .u32 b) ∧ w'.cell? ⟨r, 28, none⟩ = some (.int .u32 m) ∧ w'.cell? ⟨r, 29, none⟩ = some (.int .u32 n) ∧ w'.cell? ⟨r, 30, none⟩ = some (.int .u32 a) ∧ w'.cell? ⟨r, 31, none⟩ = some (.int .u32 st) ∧ w'.cell? ⟨r, 32, none⟩ = some (.int .u32 k) ∧ w'.cell? ⟨r, 33, none⟩ = some (.int .u32 f) ∧ w'.cell? ⟨r, 34, none⟩ = some (.int .u32 t)) := fun w' h => CX0.out w' r h
  obtain ⟨_, c24, _, c26, _⟩ := CX.out V BA.out
  clear CX0
  go_wp2_with fail
  refine (HN.out V KA.out).mono ?_
  rintro e w1 ⟨p, F, rfl, d1, k1, f1⟩
  obtain ⟨vs, vq0, vo0, vb, Fs, Fq0, Fo0, Fb, D, hF⟩ := d1
  have D1 : Hid (DevAt w1 p (ds0 E Z) vs vq0 vo0 vb Fs Fq0 Fo0 Fb) := D
  have lF : Hid (∀ g ∈ F, V.heap.size ≤ g) := f1
  have hF' : Hid (F = p :: (Fs ++ (Fq0 ++ (Fo0 ++ Fb)))) := hF
  have K1 : Hid (Kep V w1) := k1
  have XR1 : Hid (w1.heap[r]? = some (.cells X 55 (0, 0))) := k1.block BA.out
  obtain ⟨_, _, c25, _, c27, c28, _, _, c31, c32, c33, c34⟩ := CX.out w1 XR1.out
  have lr := block_lt XR1.out
  have ltp : Hid (p < w1.heap.size ∧ V.heap.size ≤ p ∧ r < V.heap.size) := ⟨block_lt D.box, f1 p (by rw [hF]; simp), block_lt BA.out⟩
  have ltF : Hid ((∀ g ∈ Fs, g < w1.heap.size ∧ V.heap.size ≤ g) ∧ (∀ g ∈ Fb, g < w1.heap.size ∧ V.heap.size ≤ g)) := ⟨fun g hg => ⟨D.sc.lt g hg, f1 g (by rw [hF]; simp [hg])⟩, fun g hg => ⟨D.d.lt g hg, f1 g (by rw [hF]; simp [hg])⟩⟩
  clear D f1 hF k1 HN c24 c26
  go_upto_region 9 with (go_at_call 52; refine (HF.out _).mono ?_; rintro e w2 ⟨rfl, k2⟩; have K2' : Hid (Kep (w1.alloc (.cells #[.int .u32 k, .int .u32 f, .int .u32 t] 74)) w2) := k2; clear k2)
  obtain ⟨u, hu⟩ : ∃ u, Hid (u = w1.heap.size) := ⟨_, rfl⟩
  have UR2 : Hid (w2.heap[u]? = some (.cells #[.int .u32 k, .int .u32 f, .int .u32 t] 74 (0, 0))) := by rw [hu.out]; exact K2'.out.block (hat _ _ _ rfl)
  have K2 : Hid (Kep w1 w2) := kep_trans ((Kep.refl w1).alloc _) K2'.out
  rw [← hu.out]
  have XR2 : Hid (w2.heap[r]? = some (.cells X 55 (0, 0))) := K2.out.block XR1.out
  have B2 : Hid (w2.heap[p]? = some (.cells (devC (ds0 E Z) vs vq0 vo0 vb) 82 (0, 0))) := K2.out.block D1.out.box
  have nrp : Hid (r ∉ [p]) := by have := ltp.out; show r ∉ [p]; simp; omega
  have nup : Hid (u ∉ [p]) := by have := ltp.out; have := hu.out; show u ∉ [p]; simp; omega
  have CU : Hid (∀ w' : World, w'.heap[u]? = some (.cells #[.int .u32 k, .int .u32 f, .int .u32 t] 74 (0, 0)) → w'.cell? ⟨u, 0, none⟩ = some (.int .u32 k) ∧ w'.cell? ⟨u, 1, none⟩ = some (.int .u32 f) ∧ w'.cell? ⟨u, 2, none⟩ = some (.int .u32 t)) := fun w' h => ⟨(cell_of_block h).trans rfl, (cell_of_block h).trans rfl, (cell_of_block h).trans rfl⟩
  clear c25 c27 c28 c31 c32 c33 c34 lr
  obtain ⟨_, _, _, _, c27, c28, _⟩ := CX.out w2 XR2.out
  have d2 : w2.cell? ⟨p, 2, none⟩ = some (.int .u32 0) := (cell_of_block B2.out).trans rfl
  have d3 : w2.cell? ⟨p, 3, none⟩ = some (.int .u32 0) := (cell_of_block B2.out).trans rfl
  have f2 : w2.frozen? ⟨p, 2, none⟩ = false := by simp [World.frozen?, B2.out]
  have f3 : w2.frozen? ⟨p, 3, none⟩ = false := by simp [World.frozen?, B2.out]
  have P3 : Hid (Put [p] w2 ((w2.setCell ⟨p, 2, none⟩ (.int .u32 b)).setCell ⟨p, 3, none⟩ (.int .u32 m))) := ((Put.refl _).setCell (by simp) _).setCell (by simp) _
  have B3a : Hid ((w2.setCell ⟨p, 2, none⟩ (.int .u32 b)).heap[p]? = some (.cells (devC ⟨E, b, 0, [], [], Z, 0, 0, 0, 0, 0, 0⟩ vs vq0 vo0 vb) 82 (0, 0))) := box_set B2.out _
  have B3 : Hid (((w2.setCell ⟨p, 2, none⟩ (.int .u32 b)).setCell ⟨p, 3, none⟩ (.int .u32 m)).heap[p]? = some (.cells (devC ⟨E, b, m, [], [], Z, 0, 0, 0, 0, 0, 0⟩ vs vq0 vo0 vb) 82 (0, 0))) := box_set B3a.out _
  go_upto_region 10 with fail
  generalize (w2.setCell ⟨p, 2, none⟩ (.int .u32 b)).setCell ⟨p, 3, none⟩ (.int .u32 m) = W3 at P3 B3 ⊢
  clear c27 c28 d2 d3 f2 f3 B3a
  have XR3 : Hid (W3.heap[r]? = some (.cells X 55 (0, 0))) := P3.out.keeps XR2.out nrp.out
  have UR3 : Hid (W3.heap[u]? = some (.cells #[.int .u32 k, .int .u32 f, .int .u32 t] 74 (0, 0))) := P3.out.keeps UR2.out nup.out
  have hpw : Hid (∀ g ∈ [p], w.heap.size ≤ g) := fun g hg => by
    obtain rfl : g = p := by simpa using hg
    have := ltp.out; have := KA.out.size; omega
  have KW2 : Hid (Kep w w2) := kep_trans KA.out (kep_trans K1.out K2.out)
  have KW3 : Hid (Kep w W3) := KW2.out.put P3.out hpw.out
  refine wp_region_held_drew (S := fun w' => w'.heap[r]? = some (.cells X 55 (0, 0)) ∧ w'.heap[u]? = some (.cells #[.int .u32 k, .int .u32 f, .int .u32 t] 74 (0, 0))) (by kernel_rfl) ⟨XR3.out, UR3.out⟩ (fun hH => ?_)
  refine wpAnyH_take (i := 0) (v := .pointer (some ⟨p, 0, none⟩)) rfl (by kernel_rfl) (by kernel_rfl) (by kernel_rfl) (fun _ _ _ h => h) (.inl ⟨by rfl, by intro w hS; obtain ⟨c23, c24, c25, c26, c27, c28, c29, c30, c31, c32, c33, c34⟩ := CX.out w hS.1; obtain ⟨u0, u1, u2⟩ := CU.out w hS.2; go_simp⟩) hH ?_
  (try dsimp only [Act.put]); (try simp only [List.getElem_toArray, List.getElem_cons_zero, List.getElem_cons_succ, Act.put, List.setIfInBounds_toArray, List.set_cons_zero, List.set_cons_succ])
  refine wpAnyH_take (i := 1) (v := .pointer (some ⟨r, 25, none⟩)) rfl (by kernel_rfl) (by kernel_rfl) (by kernel_rfl) (fun _ _ _ h => h) (.inl ⟨by rfl, by intro w hS; obtain ⟨c23, c24, c25, c26, c27, c28, c29, c30, c31, c32, c33, c34⟩ := CX.out w hS.1; obtain ⟨u0, u1, u2⟩ := CU.out w hS.2; go_simp⟩) hH ?_
  (try dsimp only [Act.put]); (try simp only [List.getElem_toArray, List.getElem_cons_zero, List.getElem_cons_succ, Act.put, List.setIfInBounds_toArray, List.set_cons_zero, List.set_cons_succ])
  refine wpAnyH_take (i := 2) (v := .slice xq Q.length cq) rfl (by kernel_rfl) (by kernel_rfl) (by kernel_rfl) (fun _ _ _ h => h) (.inl ⟨by rfl, by intro w hS; obtain ⟨c23, c24, c25, c26, c27, c28, c29, c30, c31, c32, c33, c34⟩ := CX.out w hS.1; obtain ⟨u0, u1, u2⟩ := CU.out w hS.2; go_simp⟩) hH ?_
  (try dsimp only [Act.put]); (try simp only [List.getElem_toArray, List.getElem_cons_zero, List.getElem_cons_succ, Act.put, List.setIfInBounds_toArray, List.set_cons_zero, List.set_cons_succ])
  refine wpAnyH_take (i := 4) (v := .pointer (some ⟨r, 23, none⟩)) rfl (by kernel_rfl) (by kernel_rfl) (by kernel_rfl) (fun _ _ _ h => h) (.inl ⟨by rfl, by intro w hS; obtain ⟨c23, c24, c25, c26, c27, c28, c29, c30, c31, c32, c33, c34⟩ := CX.out w hS.1; obtain ⟨u0, u1, u2⟩ := CU.out w hS.2; go_simp⟩) hH ?_
  (try dsimp only [Act.put]); (try simp only [List.getElem_toArray, List.getElem_cons_zero, List.getElem_cons_succ, Act.put, List.setIfInBounds_toArray, List.set_cons_zero, List.set_cons_succ])
  refine wpAnyH_take (i := 5) (v := .slice xo O.length co) rfl (by kernel_rfl) (by kernel_rfl) (by kernel_rfl) (fun _ _ _ h => h) (.inl ⟨by rfl, by intro w hS; obtain ⟨c23, c24, c25, c26, c27, c28, c29, c30, c31, c32, c33, c34⟩ := CX.out w hS.1; obtain ⟨u0, u1, u2⟩ := CU.out w hS.2; go_simp⟩) hH ?_
  (try dsimp only [Act.put]); (try simp only [List.getElem_toArray, List.getElem_cons_zero, List.getElem_cons_succ, Act.put, List.setIfInBounds_toArray, List.set_cons_zero, List.set_cons_succ])
  have K3d : Hid (Kep W3 W3.drew) := (Kep.refl W3).drew
  refine wpAnyH_ready (rs := [3]) (by kernel_rfl) (by simp) ?_
  refine AllReadyH.cons rfl (fun K hK => ?_) AllReadyH.nil
  rw [if_pos (by rfl)]
  go_simp
  refine (HQ.out _ (kep_trans KW3.out K3d.out)).mono ?_
  rintro e w4 ⟨yq, dq, rfl, o4, k4⟩
  refine hK.out _ _ ⟨k4.block hH.1, k4.block hH.2⟩ (fun hH => ?_)
  clear hK K
  (try dsimp only [Act.put]); (try simp only [List.getElem_toArray, List.getElem_cons_zero, List.getElem_cons_succ, Act.put, List.setIfInBounds_toArray, List.set_cons_zero, List.set_cons_succ])
  have KA4 : Hid (Kep W3 w4) := kep_trans K3d.out k4
  have O4 : Hid (OwnN W3 w4 5 1 (.slice yq Q.length dq) Q.length (byt Q)) := o4.elder K3d.out
  clear o4 k4
  refine wpAnyH_ready (rs := [6]) (by kernel_rfl) (by simp) ?_
  refine AllReadyH.cons rfl (fun K hK => ?_) AllReadyH.nil
  rw [if_pos (by rfl)]
  go_simp
  refine (HO.out _ (kep_trans KW3.out KA4.out)).mono ?_
  rintro e w5 ⟨yo, d0, rfl, o5, k5⟩
  refine hK.out _ _ ⟨k5.block hH.1, k5.block hH.2⟩ (fun hH => ?_)
  clear hK K
  (try dsimp only [Act.put]); (try simp only [List.getElem_toArray, List.getElem_cons_zero, List.getElem_cons_succ, Act.put, List.setIfInBounds_toArray, List.set_cons_zero, List.set_cons_succ])
  have KA5 : Hid (Kep w4 w5) := k5
  have O5 : Hid (OwnN w4 w5 5 1 (.slice yo O.length d0) O.length (byt O)) := o5
  clear o5 k5
  refine wpAnyH_take (i := 7) (v := .agg #[.slice yq Q.length dq, .slice yo O.length d0]) rfl (by kernel_rfl) (by kernel_rfl) (by kernel_rfl) (fun _ _ _ h => h) (.inl ⟨by rfl, by intro w hS; obtain ⟨c23, c24, c25, c26, c27, c28, c29, c30, c31, c32, c33, c34⟩ := CX.out w hS.1; obtain ⟨u0, u1, u2⟩ := CU.out w hS.2; go_simp⟩) hH ?_
  (try dsimp only [Act.put]); (try simp only [List.getElem_toArray, List.getElem_cons_zero, List.getElem_cons_succ, Act.put, List.setIfInBounds_toArray, List.set_cons_zero, List.set_cons_succ])
  refine wpAnyH_take (i := 8) (v := .pointer (some ⟨p, 0, none⟩)) rfl (by kernel_rfl) (by kernel_rfl) (by kernel_rfl) (fun _ _ _ h => h) (.inl ⟨by rfl, by intro w hS; obtain ⟨c23, c24, c25, c26, c27, c28, c29, c30, c31, c32, c33, c34⟩ := CX.out w hS.1; obtain ⟨u0, u1, u2⟩ := CU.out w hS.2; go_simp⟩) hH ?_
  (try dsimp only [Act.put]); (try simp only [List.getElem_toArray, List.getElem_cons_zero, List.getElem_cons_succ, Act.put, List.setIfInBounds_toArray, List.set_cons_zero, List.set_cons_succ])
  refine wpAnyH_take (i := 9) (v := .pointer (some ⟨p, 4, none⟩)) rfl (by kernel_rfl) (by kernel_rfl) (by kernel_rfl) (fun _ _ _ h => h) (.inl ⟨by rfl, by intro w hS; obtain ⟨c23, c24, c25, c26, c27, c28, c29, c30, c31, c32, c33, c34⟩ := CX.out w hS.1; obtain ⟨u0, u1, u2⟩ := CU.out w hS.2; go_simp⟩) hH ?_
  (try dsimp only [Act.put]); (try simp only [List.getElem_toArray, List.getElem_cons_zero, List.getElem_cons_succ, Act.put, List.setIfInBounds_toArray, List.set_cons_zero, List.set_cons_succ])
  have B5 : Hid (w5.heap[p]? = some (.cells (devC ⟨E, b, m, [], [], Z, 0, 0, 0, 0, 0, 0⟩ vs vq0 vo0 vb) 82 (0, 0))) := KA5.out.block (KA4.out.block B3.out)
  have B5' : Hid ((w5.setCell ⟨p, 4, none⟩ (.slice yq Q.length dq)).heap[p]? = some (.cells (devC ⟨E, b, m, [], [], Z, 0, 0, 0, 0, 0, 0⟩ vs (.slice yq Q.length dq) vo0 vb) 82 (0, 0))) := box_set B5.out _
  have d4 : w5.cell? ⟨p, 4, none⟩ = some vq0 := (cell_of_block B5.out).trans rfl
  have d5 : w5.cell? ⟨p, 5, none⟩ = some vo0 := (cell_of_block B5.out).trans rfl
  have f4 : w5.frozen? ⟨p, 4, none⟩ = false := by simp [World.frozen?, B5.out]
  have f5 : w5.frozen? ⟨p, 5, none⟩ = false := by simp [World.frozen?, B5.out]
  have P6 : Hid (Put [p] w5 ((w5.setCell ⟨p, 4, none⟩ (.slice yq Q.length dq)).setCell ⟨p, 5, none⟩ (.slice yo O.length d0))) := ((Put.refl _).setCell (by simp) _).setCell (by simp) _
  have B6 : Hid (((w5.setCell ⟨p, 4, none⟩ (.slice yq Q.length dq)).setCell ⟨p, 5, none⟩ (.slice yo O.length d0)).heap[p]? = some (.cells (devC ⟨E, b, m, [], [], Z, 0, 0, 0, 0, 0, 0⟩ vs (.slice yq Q.length dq) (.slice yo O.length d0) vb) 82 (0, 0))) := box_set B5'.out _
  refine wpAnyH_ready (rs := [10]) (by kernel_rfl) (by simp) ?_
  refine AllReadyH.cons rfl (fun K hK => ?_) AllReadyH.nil
  rw [if_pos (by rfl)]
  go_simp
  refine hK.out _ _ ⟨P6.out.keeps hH.1 nrp.out, P6.out.keeps hH.2 nup.out⟩ (fun hH => ?_)
  clear hK K
  (try dsimp only [Act.put]); (try simp only [List.getElem_toArray, List.getElem_cons_zero, List.getElem_cons_succ, Act.put, List.setIfInBounds_toArray, List.set_cons_zero, List.set_cons_succ])
  refine wpAnyH_done (by kernel_rfl) ?_ _
  generalize (w5.setCell ⟨p, 4, none⟩ (.slice yq Q.length dq)).setCell ⟨p, 5, none⟩ (.slice yo O.length d0) = W6 at P6 B6 hH ⊢
  have XR6 : Hid (W6.heap[r]? = some (.cells X 55 (0, 0))) := hH.1
  have UR6 : Hid (W6.heap[u]? = some (.cells #[.int .u32 k, .int .u32 f, .int .u32 t] 74 (0, 0))) := hH.2
  clear d4 d5 f4 f5 B5 B5' hH
  go_upto_region 11 with fail
  refine wp_region_held_drew (S := fun w' => w'.heap[r]? = some (.cells X 55 (0, 0)) ∧ w'.heap[u]? = some (.cells #[.int .u32 k, .int .u32 f, .int .u32 t] 74 (0, 0))) (by kernel_rfl) ⟨XR6.out, UR6.out⟩ (fun hH => ?_)
  have B7 : Hid (W6.drew.heap[p]? = some (.cells (devC ⟨E, b, m, [], [], Z, 0, 0, 0, 0, 0, 0⟩ vs (.slice yq Q.length dq) (.slice yo O.length d0) vb) 82 (0, 0))) := B6.out
  have P7 : Hid (Put [p] W6 W6.drew) := Put.mono (Put.of_kep (l := []) ((Kep.refl W6).drew)) (by simp)
  generalize W6.drew = V7 at hH B7 P7 ⊢
  refine wpAnyH_take (i := 0) (v := .pointer (some ⟨p, 0, none⟩)) rfl (by kernel_rfl) (by kernel_rfl) (by kernel_rfl) (fun _ _ _ h => h) (.inl ⟨by rfl, by intro w hS; obtain ⟨c23, c24, c25, c26, c27, c28, c29, c30, c31, c32, c33, c34⟩ := CX.out w hS.1; obtain ⟨u0, u1, u2⟩ := CU.out w hS.2; go_simp⟩) hH ?_
  (try dsimp only [Act.put]); (try simp only [List.getElem_toArray, List.getElem_cons_zero, List.getElem_cons_succ, Act.put, List.setIfInBounds_toArray, List.set_cons_zero, List.set_cons_succ])
  refine wpAnyH_take (i := 1) (v := .pointer (some ⟨p, 0, none⟩)) rfl (by kernel_rfl) (by kernel_rfl) (by kernel_rfl) (fun _ _ _ h => h) (.inl ⟨by rfl, by intro w hS; obtain ⟨c23, c24, c25, c26, c27, c28, c29, c30, c31, c32, c33, c34⟩ := CX.out w hS.1; obtain ⟨u0, u1, u2⟩ := CU.out w hS.2; go_simp⟩) hH ?_
  (try dsimp only [Act.put]); (try simp only [List.getElem_toArray, List.getElem_cons_zero, List.getElem_cons_succ, Act.put, List.setIfInBounds_toArray, List.set_cons_zero, List.set_cons_succ])
  refine wpAnyH_take (i := 2) (v := .pointer (some ⟨p, 0, none⟩)) rfl (by kernel_rfl) (by kernel_rfl) (by kernel_rfl) (fun _ _ _ h => h) (.inl ⟨by rfl, by intro w hS; obtain ⟨c23, c24, c25, c26, c27, c28, c29, c30, c31, c32, c33, c34⟩ := CX.out w hS.1; obtain ⟨u0, u1, u2⟩ := CU.out w hS.2; go_simp⟩) hH ?_
  (try dsimp only [Act.put]); (try simp only [List.getElem_toArray, List.getElem_cons_zero, List.getElem_cons_succ, Act.put, List.setIfInBounds_toArray, List.set_cons_zero, List.set_cons_succ])
  refine wpAnyH_take (i := 3) (v := .pointer (some ⟨p, 0, none⟩)) rfl (by kernel_rfl) (by kernel_rfl) (by kernel_rfl) (fun _ _ _ h => h) (.inl ⟨by rfl, by intro w hS; obtain ⟨c23, c24, c25, c26, c27, c28, c29, c30, c31, c32, c33, c34⟩ := CX.out w hS.1; obtain ⟨u0, u1, u2⟩ := CU.out w hS.2; go_simp⟩) hH ?_
  (try dsimp only [Act.put]); (try simp only [List.getElem_toArray, List.getElem_cons_zero, List.getElem_cons_succ, Act.put, List.setIfInBounds_toArray, List.set_cons_zero, List.set_cons_succ])
  refine wpAnyH_take (i := 4) (v := .pointer (some ⟨r, 29, none⟩)) rfl (by kernel_rfl) (by kernel_rfl) (by kernel_rfl) (fun _ _ _ h => h) (.inl ⟨by rfl, by intro w hS; obtain ⟨c23, c24, c25, c26, c27, c28, c29, c30, c31, c32, c33, c34⟩ := CX.out w hS.1; obtain ⟨u0, u1, u2⟩ := CU.out w hS.2; go_simp⟩) hH ?_
  (try dsimp only [Act.put]); (try simp only [List.getElem_toArray, List.getElem_cons_zero, List.getElem_cons_succ, Act.put, List.setIfInBounds_toArray, List.set_cons_zero, List.set_cons_succ])
  refine wpAnyH_take (i := 5) (v := .int .u32 n) rfl (by kernel_rfl) (by kernel_rfl) (by kernel_rfl) (fun _ _ _ h => h) (.inl ⟨by rfl, by intro w hS; obtain ⟨c23, c24, c25, c26, c27, c28, c29, c30, c31, c32, c33, c34⟩ := CX.out w hS.1; obtain ⟨u0, u1, u2⟩ := CU.out w hS.2; go_simp⟩) hH ?_
  (try dsimp only [Act.put]); (try simp only [List.getElem_toArray, List.getElem_cons_zero, List.getElem_cons_succ, Act.put, List.setIfInBounds_toArray, List.set_cons_zero, List.set_cons_succ])
  refine wpAnyH_take (i := 6) (v := .pointer (some ⟨r, 30, none⟩)) rfl (by kernel_rfl) (by kernel_rfl) (by kernel_rfl) (fun _ _ _ h => h) (.inl ⟨by rfl, by intro w hS; obtain ⟨c23, c24, c25, c26, c27, c28, c29, c30, c31, c32, c33, c34⟩ := CX.out w hS.1; obtain ⟨u0, u1, u2⟩ := CU.out w hS.2; go_simp⟩) hH ?_
  (try dsimp only [Act.put]); (try simp only [List.getElem_toArray, List.getElem_cons_zero, List.getElem_cons_succ, Act.put, List.setIfInBounds_toArray, List.set_cons_zero, List.set_cons_succ])
  refine wpAnyH_take (i := 7) (v := .int .u32 a) rfl (by kernel_rfl) (by kernel_rfl) (by kernel_rfl) (fun _ _ _ h => h) (.inl ⟨by rfl, by intro w hS; obtain ⟨c23, c24, c25, c26, c27, c28, c29, c30, c31, c32, c33, c34⟩ := CX.out w hS.1; obtain ⟨u0, u1, u2⟩ := CU.out w hS.2; go_simp⟩) hH ?_
  (try dsimp only [Act.put]); (try simp only [List.getElem_toArray, List.getElem_cons_zero, List.getElem_cons_succ, Act.put, List.setIfInBounds_toArray, List.set_cons_zero, List.set_cons_succ])
  refine wpAnyH_take (i := 8) (v := .pointer (some ⟨r, 31, none⟩)) rfl (by kernel_rfl) (by kernel_rfl) (by kernel_rfl) (fun _ _ _ h => h) (.inl ⟨by rfl, by intro w hS; obtain ⟨c23, c24, c25, c26, c27, c28, c29, c30, c31, c32, c33, c34⟩ := CX.out w hS.1; obtain ⟨u0, u1, u2⟩ := CU.out w hS.2; go_simp⟩) hH ?_
  (try dsimp only [Act.put]); (try simp only [List.getElem_toArray, List.getElem_cons_zero, List.getElem_cons_succ, Act.put, List.setIfInBounds_toArray, List.set_cons_zero, List.set_cons_succ])
  refine wpAnyH_take (i := 9) (v := .int .u32 st) rfl (by kernel_rfl) (by kernel_rfl) (by kernel_rfl) (fun _ _ _ h => h) (.inl ⟨by rfl, by intro w hS; obtain ⟨c23, c24, c25, c26, c27, c28, c29, c30, c31, c32, c33, c34⟩ := CX.out w hS.1; obtain ⟨u0, u1, u2⟩ := CU.out w hS.2; go_simp⟩) hH ?_
  (try dsimp only [Act.put]); (try simp only [List.getElem_toArray, List.getElem_cons_zero, List.getElem_cons_succ, Act.put, List.setIfInBounds_toArray, List.set_cons_zero, List.set_cons_succ])
  refine wpAnyH_take (i := 10) (v := .agg #[.int .u32 k, .int .u32 f, .int .u32 t]) rfl (by kernel_rfl) (by kernel_rfl) (by kernel_rfl) (fun _ _ _ h => h) (.inl ⟨by rfl, by intro w hS; obtain ⟨c23, c24, c25, c26, c27, c28, c29, c30, c31, c32, c33, c34⟩ := CX.out w hS.1; obtain ⟨u0, u1, u2⟩ := CU.out w hS.2; go_simp⟩) hH ?_
  (try dsimp only [Act.put]); (try simp only [List.getElem_toArray, List.getElem_cons_zero, List.getElem_cons_succ, Act.put, List.setIfInBounds_toArray, List.set_cons_zero, List.set_cons_succ])
  refine wpAnyH_take (i := 11) (v := .pointer (some ⟨p, 0, none⟩)) rfl (by kernel_rfl) (by kernel_rfl) (by kernel_rfl) (fun _ _ _ h => h) (.inl ⟨by rfl, by intro w hS; obtain ⟨c23, c24, c25, c26, c27, c28, c29, c30, c31, c32, c33, c34⟩ := CX.out w hS.1; obtain ⟨u0, u1, u2⟩ := CU.out w hS.2; go_simp⟩) hH ?_
  (try dsimp only [Act.put]); (try simp only [List.getElem_toArray, List.getElem_cons_zero, List.getElem_cons_succ, Act.put, List.setIfInBounds_toArray, List.set_cons_zero, List.set_cons_succ])
  refine wpAnyH_take (i := 12) (v := .pointer (some ⟨p, 6, none⟩)) rfl (by kernel_rfl) (by kernel_rfl) (by kernel_rfl) (fun _ _ _ h => h) (.inl ⟨by rfl, by intro w hS; obtain ⟨c23, c24, c25, c26, c27, c28, c29, c30, c31, c32, c33, c34⟩ := CX.out w hS.1; obtain ⟨u0, u1, u2⟩ := CU.out w hS.2; go_simp⟩) hH ?_
  (try dsimp only [Act.put]); (try simp only [List.getElem_toArray, List.getElem_cons_zero, List.getElem_cons_succ, Act.put, List.setIfInBounds_toArray, List.set_cons_zero, List.set_cons_succ])
  refine wpAnyH_take (i := 13) (v := .pointer (some ⟨p, 7, none⟩)) rfl (by kernel_rfl) (by kernel_rfl) (by kernel_rfl) (fun _ _ _ h => h) (.inl ⟨by rfl, by intro w hS; obtain ⟨c23, c24, c25, c26, c27, c28, c29, c30, c31, c32, c33, c34⟩ := CX.out w hS.1; obtain ⟨u0, u1, u2⟩ := CU.out w hS.2; go_simp⟩) hH ?_
  (try dsimp only [Act.put]); (try simp only [List.getElem_toArray, List.getElem_cons_zero, List.getElem_cons_succ, Act.put, List.setIfInBounds_toArray, List.set_cons_zero, List.set_cons_succ])
  have e7 : (V7).cell? ⟨p, 7, none⟩ = some (.int .u32 0) := (cell_of_block B7.out).trans rfl
  have g7 : (V7).frozen? ⟨p, 7, none⟩ = false := by simp [World.frozen?, B7.out]
  refine wpAnyH_ready (rs := [14]) (by kernel_rfl) (by simp) ?_
  refine AllReadyH.cons rfl (fun K hK => ?_) AllReadyH.nil
  rw [if_pos (by rfl)]
  go_simp
  have BA0 : Hid ((V7.setCell ⟨p, 7, none⟩ (.int .u32 n)).heap[p]? = some (.cells (devC ⟨E, b, m, [], [], Z, n, 0, 0, 0, 0, 0⟩ vs (.slice yq Q.length dq) (.slice yo O.length d0) vb) 82 (0, 0))) := box_set B7.out _
  have PA : Hid (Put [p] W6 (V7.setCell ⟨p, 7, none⟩ (.int .u32 n))) := (P7.out.setCell (by simp) _)
  refine hK.out _ _ ⟨PA.out.keeps XR6.out nrp.out, PA.out.keeps UR6.out nup.out⟩ (fun hH => ?_)
  clear hK K
  (try dsimp only [Act.put]); (try simp only [List.getElem_toArray, List.getElem_cons_zero, List.getElem_cons_succ, Act.put, List.setIfInBounds_toArray, List.set_cons_zero, List.set_cons_succ])
  generalize (V7.setCell ⟨p, 7, none⟩ (.int .u32 n)) = VA at BA0 PA hH ⊢
  clear e7 g7 
  refine wpAnyH_take (i := 15) (v := .pointer (some ⟨p, 0, none⟩)) rfl (by kernel_rfl) (by kernel_rfl) (by kernel_rfl) (fun _ _ _ h => h) (.inl ⟨by rfl, by intro w hS; obtain ⟨c23, c24, c25, c26, c27, c28, c29, c30, c31, c32, c33, c34⟩ := CX.out w hS.1; obtain ⟨u0, u1, u2⟩ := CU.out w hS.2; go_simp⟩) hH ?_
  (try dsimp only [Act.put]); (try simp only [List.getElem_toArray, List.getElem_cons_zero, List.getElem_cons_succ, Act.put, List.setIfInBounds_toArray, List.set_cons_zero, List.set_cons_succ])
  refine wpAnyH_take (i := 16) (v := .pointer (some ⟨p, 6, none⟩)) rfl (by kernel_rfl) (by kernel_rfl) (by kernel_rfl) (fun _ _ _ h => h) (.inl ⟨by rfl, by intro w hS; obtain ⟨c23, c24, c25, c26, c27, c28, c29, c30, c31, c32, c33, c34⟩ := CX.out w hS.1; obtain ⟨u0, u1, u2⟩ := CU.out w hS.2; go_simp⟩) hH ?_
  (try dsimp only [Act.put]); (try simp only [List.getElem_toArray, List.getElem_cons_zero, List.getElem_cons_succ, Act.put, List.setIfInBounds_toArray, List.set_cons_zero, List.set_cons_succ])
  refine wpAnyH_take (i := 17) (v := .pointer (some ⟨p, 8, none⟩)) rfl (by kernel_rfl) (by kernel_rfl) (by kernel_rfl) (fun _ _ _ h => h) (.inl ⟨by rfl, by intro w hS; obtain ⟨c23, c24, c25, c26, c27, c28, c29, c30, c31, c32, c33, c34⟩ := CX.out w hS.1; obtain ⟨u0, u1, u2⟩ := CU.out w hS.2; go_simp⟩) hH ?_
  (try dsimp only [Act.put]); (try simp only [List.getElem_toArray, List.getElem_cons_zero, List.getElem_cons_succ, Act.put, List.setIfInBounds_toArray, List.set_cons_zero, List.set_cons_succ])
  have e8 : (VA).cell? ⟨p, 8, none⟩ = some (.int .u32 0) := (cell_of_block BA0.out).trans rfl
  have g8 : (VA).frozen? ⟨p, 8, none⟩ = false := by simp [World.frozen?, BA0.out]
  refine wpAnyH_ready (rs := [18]) (by kernel_rfl) (by simp) ?_
  refine AllReadyH.cons rfl (fun K hK => ?_) AllReadyH.nil
  rw [if_pos (by rfl)]
  go_simp
  have BB0 : Hid ((VA.setCell ⟨p, 8, none⟩ (.int .u32 a)).heap[p]? = some (.cells (devC ⟨E, b, m, [], [], Z, n, a, 0, 0, 0, 0⟩ vs (.slice yq Q.length dq) (.slice yo O.length d0) vb) 82 (0, 0))) := box_set BA0.out _
  have PB : Hid (Put [p] W6 (VA.setCell ⟨p, 8, none⟩ (.int .u32 a))) := (PA.out.setCell (by simp) _)
  refine hK.out _ _ ⟨PB.out.keeps XR6.out nrp.out, PB.out.keeps UR6.out nup.out⟩ (fun hH => ?_)
  clear hK K
  (try dsimp only [Act.put]); (try simp only [List.getElem_toArray, List.getElem_cons_zero, List.getElem_cons_succ, Act.put, List.setIfInBounds_toArray, List.set_cons_zero, List.set_cons_succ])
  generalize (VA.setCell ⟨p, 8, none⟩ (.int .u32 a)) = VB at BB0 PB hH ⊢
  clear e8 g8 
  refine wpAnyH_take (i := 19) (v := .pointer (some ⟨p, 0, none⟩)) rfl (by kernel_rfl) (by kernel_rfl) (by kernel_rfl) (fun _ _ _ h => h) (.inl ⟨by rfl, by intro w hS; obtain ⟨c23, c24, c25, c26, c27, c28, c29, c30, c31, c32, c33, c34⟩ := CX.out w hS.1; obtain ⟨u0, u1, u2⟩ := CU.out w hS.2; go_simp⟩) hH ?_
  (try dsimp only [Act.put]); (try simp only [List.getElem_toArray, List.getElem_cons_zero, List.getElem_cons_succ, Act.put, List.setIfInBounds_toArray, List.set_cons_zero, List.set_cons_succ])
  refine wpAnyH_take (i := 20) (v := .pointer (some ⟨p, 6, none⟩)) rfl (by kernel_rfl) (by kernel_rfl) (by kernel_rfl) (fun _ _ _ h => h) (.inl ⟨by rfl, by intro w hS; obtain ⟨c23, c24, c25, c26, c27, c28, c29, c30, c31, c32, c33, c34⟩ := CX.out w hS.1; obtain ⟨u0, u1, u2⟩ := CU.out w hS.2; go_simp⟩) hH ?_
  (try dsimp only [Act.put]); (try simp only [List.getElem_toArray, List.getElem_cons_zero, List.getElem_cons_succ, Act.put, List.setIfInBounds_toArray, List.set_cons_zero, List.set_cons_succ])
  refine wpAnyH_take (i := 21) (v := .pointer (some ⟨p, 9, none⟩)) rfl (by kernel_rfl) (by kernel_rfl) (by kernel_rfl) (fun _ _ _ h => h) (.inl ⟨by rfl, by intro w hS; obtain ⟨c23, c24, c25, c26, c27, c28, c29, c30, c31, c32, c33, c34⟩ := CX.out w hS.1; obtain ⟨u0, u1, u2⟩ := CU.out w hS.2; go_simp⟩) hH ?_
  (try dsimp only [Act.put]); (try simp only [List.getElem_toArray, List.getElem_cons_zero, List.getElem_cons_succ, Act.put, List.setIfInBounds_toArray, List.set_cons_zero, List.set_cons_succ])
  have e9 : (VB).cell? ⟨p, 9, none⟩ = some (.int .u32 0) := (cell_of_block BB0.out).trans rfl
  have g9 : (VB).frozen? ⟨p, 9, none⟩ = false := by simp [World.frozen?, BB0.out]
  refine wpAnyH_ready (rs := [22]) (by kernel_rfl) (by simp) ?_
  refine AllReadyH.cons rfl (fun K hK => ?_) AllReadyH.nil
  rw [if_pos (by rfl)]
  go_simp
  have BC0 : Hid ((VB.setCell ⟨p, 9, none⟩ (.int .u32 st)).heap[p]? = some (.cells (devC ⟨E, b, m, [], [], Z, n, a, st, 0, 0, 0⟩ vs (.slice yq Q.length dq) (.slice yo O.length d0) vb) 82 (0, 0))) := box_set BB0.out _
  have PC : Hid (Put [p] W6 (VB.setCell ⟨p, 9, none⟩ (.int .u32 st))) := (PB.out.setCell (by simp) _)
  refine hK.out _ _ ⟨PC.out.keeps XR6.out nrp.out, PC.out.keeps UR6.out nup.out⟩ (fun hH => ?_)
  clear hK K
  (try dsimp only [Act.put]); (try simp only [List.getElem_toArray, List.getElem_cons_zero, List.getElem_cons_succ, Act.put, List.setIfInBounds_toArray, List.set_cons_zero, List.set_cons_succ])
  generalize (VB.setCell ⟨p, 9, none⟩ (.int .u32 st)) = VC at BC0 PC hH ⊢
  clear e9 g9 
  refine wpAnyH_take (i := 23) (v := .pointer (some ⟨p, 0, none⟩)) rfl (by kernel_rfl) (by kernel_rfl) (by kernel_rfl) (fun _ _ _ h => h) (.inl ⟨by rfl, by intro w hS; obtain ⟨c23, c24, c25, c26, c27, c28, c29, c30, c31, c32, c33, c34⟩ := CX.out w hS.1; obtain ⟨u0, u1, u2⟩ := CU.out w hS.2; go_simp⟩) hH ?_
  (try dsimp only [Act.put]); (try simp only [List.getElem_toArray, List.getElem_cons_zero, List.getElem_cons_succ, Act.put, List.setIfInBounds_toArray, List.set_cons_zero, List.set_cons_succ])
  refine wpAnyH_take (i := 24) (v := .pointer (some ⟨p, 6, none⟩)) rfl (by kernel_rfl) (by kernel_rfl) (by kernel_rfl) (fun _ _ _ h => h) (.inl ⟨by rfl, by intro w hS; obtain ⟨c23, c24, c25, c26, c27, c28, c29, c30, c31, c32, c33, c34⟩ := CX.out w hS.1; obtain ⟨u0, u1, u2⟩ := CU.out w hS.2; go_simp⟩) hH ?_
  (try dsimp only [Act.put]); (try simp only [List.getElem_toArray, List.getElem_cons_zero, List.getElem_cons_succ, Act.put, List.setIfInBounds_toArray, List.set_cons_zero, List.set_cons_succ])
  refine wpAnyH_take (i := 25) (v := .pointer (some ⟨p, 10, none⟩)) rfl (by kernel_rfl) (by kernel_rfl) (by kernel_rfl) (fun _ _ _ h => h) (.inl ⟨by rfl, by intro w hS; obtain ⟨c23, c24, c25, c26, c27, c28, c29, c30, c31, c32, c33, c34⟩ := CX.out w hS.1; obtain ⟨u0, u1, u2⟩ := CU.out w hS.2; go_simp⟩) hH ?_
  (try dsimp only [Act.put]); (try simp only [List.getElem_toArray, List.getElem_cons_zero, List.getElem_cons_succ, Act.put, List.setIfInBounds_toArray, List.set_cons_zero, List.set_cons_succ])
  have e10 : (VC).cell? ⟨p, 10, none⟩ = some (.int .u32 0) := (cell_of_block BC0.out).trans rfl
  have g10 : (VC).frozen? ⟨p, 10, none⟩ = false := by simp [World.frozen?, BC0.out]
  have e11 : (VC).cell? ⟨p, 11, none⟩ = some (.int .u32 0) := (cell_of_block BC0.out).trans rfl
  have g11 : (VC).frozen? ⟨p, 11, none⟩ = false := by simp [World.frozen?, BC0.out]
  have e12 : (VC).cell? ⟨p, 12, none⟩ = some (.int .u32 0) := (cell_of_block BC0.out).trans rfl
  have g12 : (VC).frozen? ⟨p, 12, none⟩ = false := by simp [World.frozen?, BC0.out]
  refine wpAnyH_ready (rs := [26]) (by kernel_rfl) (by simp) ?_
  refine AllReadyH.cons rfl (fun K hK => ?_) AllReadyH.nil
  rw [if_pos (by rfl)]
  go_simp
  have BD0 : Hid ((VC.setCell ⟨p, 10, none⟩ (.int .u32 k)).heap[p]? = some (.cells (devC ⟨E, b, m, [], [], Z, n, a, st, k, 0, 0⟩ vs (.slice yq Q.length dq) (.slice yo O.length d0) vb) 82 (0, 0))) := box_set BC0.out _
  have BD1 : Hid (((VC.setCell ⟨p, 10, none⟩ (.int .u32 k)).setCell ⟨p, 11, none⟩ (.int .u32 f)).heap[p]? = some (.cells (devC ⟨E, b, m, [], [], Z, n, a, st, k, f, 0⟩ vs (.slice yq Q.length dq) (.slice yo O.length d0) vb) 82 (0, 0))) := box_set BD0.out _
  have BD2 : Hid ((((VC.setCell ⟨p, 10, none⟩ (.int .u32 k)).setCell ⟨p, 11, none⟩ (.int .u32 f)).setCell ⟨p, 12, none⟩ (.int .u32 t)).heap[p]? = some (.cells (devC ⟨E, b, m, [], [], Z, n, a, st, k, f, t⟩ vs (.slice yq Q.length dq) (.slice yo O.length d0) vb) 82 (0, 0))) := box_set BD1.out _
  have PD : Hid (Put [p] W6 (((VC.setCell ⟨p, 10, none⟩ (.int .u32 k)).setCell ⟨p, 11, none⟩ (.int .u32 f)).setCell ⟨p, 12, none⟩ (.int .u32 t))) := (((PC.out.setCell (by simp) _).setCell (by simp) _).setCell (by simp) _)
  refine hK.out _ _ ⟨PD.out.keeps XR6.out nrp.out, PD.out.keeps UR6.out nup.out⟩ (fun hH => ?_)
  clear hK K
  (try dsimp only [Act.put]); (try simp only [List.getElem_toArray, List.getElem_cons_zero, List.getElem_cons_succ, Act.put, List.setIfInBounds_toArray, List.set_cons_zero, List.set_cons_succ])
  generalize (((VC.setCell ⟨p, 10, none⟩ (.int .u32 k)).setCell ⟨p, 11, none⟩ (.int .u32 f)).setCell ⟨p, 12, none⟩ (.int .u32 t)) = VD at BD2 PD hH ⊢
  clear e10 g10 e11 g11 e12 g12 BD0 BD1
  refine wpAnyH_done (by kernel_rfl) ?_ _
  go_wp2_with fail
  go_ret2
  obtain ⟨Gq, sq, gq⟩ := O4.out
  obtain ⟨Go, so, go⟩ := O5.out
  have hV : V.heap.size ≤ w1.heap.size := K1.out.size
  have h13 : w1.heap.size ≤ W3.heap.size := Nat.le_trans K2.out.size P3.out.size
  have h34 : W3.heap.size ≤ w4.heap.size := KA4.out.size
  have hwV := KA.out.size
  obtain ⟨hp1, hp2, hp3⟩ := ltp.out
  obtain ⟨hFs, hFb⟩ := ltF.out
  have lq : ∀ g ∈ Gq, g < w4.heap.size := sq.lt
  have nq : p ∉ Gq := fun h => by have := gq p h; omega
  have no : p ∉ Go := fun h => by have := go p h; omega
  have np : ∀ {G : List Nat}, p ∉ G → ∀ g ∈ G, g ∉ [p] := fun hG g hg h => by simp at h; subst h; exact hG hg
  have D := D1.out
  have s1 : Sli VD 68 3 vs E.length (evs E) Fs := (((((D.sc.kep K2.out).put P3.out (np D.ps)).kep KA4.out).kep KA5.out).put P6.out (np D.ps)).put PD.out (np D.ps)
  have s4 : Sli VD 106 64 vb (Z.length / 64) (byt Z) Fb := (((((D.d.kep K2.out).put P3.out (np D.pb)).kep KA4.out).kep KA5.out).put P6.out (np D.pb)).put PD.out (np D.pb)
  have s2 := ((sq.kep KA5.out).put P6.out (np nq)).put PD.out (np nq)
  have s3 := (so.put P6.out (np no)).put PD.out (np no)
  refine ⟨p, p :: (Fs ++ (Gq ++ (Go ++ Fb))), rfl, ⟨vs, _, _, vb, Fs, Gq, Go, Fb, ⟨BD2.out, s1, s2, s3, s4, D.ps, nq, no, D.pb, fun g x y => ?_, fun g x y => ?_, D.sb, fun g x y => ?_, fun g x y => ?_, fun g x y => ?_⟩, rfl⟩, ?_, fun g hg => ?_⟩
  · have := (hFs g x).1; have := gq g y; omega
  · have := (hFs g x).1; have := go g y; omega
  · have := lq g x; have := go g y; omega
  · have := gq g x; have := (hFb g y).1; omega
  · have := go g x; have := (hFb g y).1; omega
  · exact (((kep_trans KW3.out (kep_trans KA4.out KA5.out)).put P6.out hpw.out)).put PD.out hpw.out
  · simp only [List.mem_cons, List.mem_append] at hg
    rcases hg with rfl | h | h | h | h
    · omega
    · have := (hFs g h).2; omega
    · have := gq g h; omega
    · have := go g h; omega
    · have := (hFb g h).2; omega
end Go.Proofs.Ytpieeefeicdfgab

namespace Go.Proofs.Ytpieeefeicdfgab
open Go.RowKit
set_option linter.unusedVariables false
set_option linter.unusedSimpArgs false

set_option maxHeartbeats 8000000 in
set_option maxRecDepth 100000 in
theorem saved_any {w : World} {H H' : List Value} (hH : H.length = 23) (hH' : H'.length = 23) {E : List Ev} {Z Q O : List Int} {xo xd xq xs yo yd yq ys : Option Addr} {co cd cq cs eo ed eq es : Nat} {b m n a st k f t : Int}
    (hE : E.length ≤ 64) (hc : E.length ≤ cs) (hc' : E.length ≤ es) (h1 : Lies w xo (byt O)) (h2 : Lies w xd (byt Z)) (h3 : Lies w xq (byt Q)) (h4 : Lies w xs (evs E)) (g1 : Lies w yo (byt O)) (g2 : Lies w yd (byt Z)) (g3 : Lies w yq (byt Q)) (g4 : Lies w ys (evs E)) :
    Calls Try.prog 18 #[.agg (savL H (.slice xo O.length co) (.slice xd Z.length cd) (.slice xq Q.length cq) (.slice xs E.length cs) b m n a st k f t).toArray, .agg (savL H' (.slice yo O.length eo) (.slice yd Z.length ed) (.slice yq Q.length eq) (.slice ys E.length es) b m n a st k f t).toArray] w fun e w' => e = .returned (.bool true) ∧ Kep w w' := by
  obtain ⟨X, hX⟩ : ∃ X, Hid (X = (savL H (.slice xo O.length co) (.slice xd Z.length cd) (.slice xq Q.length cq) (.slice xs E.length cs) b m n a st k f t).toArray) := ⟨_, rfl⟩
  obtain ⟨Y, hY⟩ : ∃ Y, Hid (Y = (savL H' (.slice yo O.length eo) (.slice yd Z.length ed) (.slice yq Q.length eq) (.slice ys E.length es) b m n a st k f t).toArray) := ⟨_, rfl⟩
  rw [← hX.out, ← hY.out]
  obtain ⟨r, hr⟩ : ∃ r, Hid (r = w.heap.size) := ⟨_, rfl⟩
  obtain ⟨u, hu⟩ : ∃ u, Hid (u = w.heap.size + 1) := ⟨_, rfl⟩
  have KA : Hid (Kep w ((w.alloc (.cells X 55)).alloc (.cells Y 55))) := ((Kep.refl w).alloc _).alloc _
  have B1 : Hid (((w.alloc (.cells X 55)).alloc (.cells Y 55)).heap[r]? = some (.cells X 55 (0, 0))) := by rw [hr.out]; exact (hsk _ _ _ (by simp)).trans (hat _ _ _ rfl)
  have B2 : Hid (((w.alloc (.cells X 55)).alloc (.cells Y 55)).heap[u]? = some (.cells Y 55 (0, 0))) := by rw [hu.out]; exact hat _ _ _ (by simp)
  have CX : Hid (∀ w' : World, w'.heap[r]? = some (.cells X 55 (0, 0)) → w'.cell? ⟨r, 23, none⟩ = some (.slice xo O.length co) ∧ w'.cell? ⟨r, 24, none⟩ = some (.slice xd Z.length cd) ∧ w'.cell? ⟨r, 25, none⟩ = some (.slice xq Q.length cq) ∧ w'.cell? ⟨r, 26, none⟩ = some (.slice xs E.length cs) ∧ w'.cell? ⟨r, 27, none⟩ = some (.int .u32 b) ∧ w'.cell? ⟨r, 28, none⟩ = some (.int .u32 m) ∧ w'.cell? ⟨r, 29, none⟩ = some (.int .u32 n) ∧ w'.cell? ⟨r, 30, none⟩ = some (.int .u32 a) ∧ w'.cell? ⟨r, 31, none⟩ = some (.int .u32 st) ∧ w'.cell? ⟨r, 32, none⟩ = some (.int .u32 k) ∧ w'.cell? ⟨r, 33, none⟩ = some (.int .u32 f) ∧ w'.cell? ⟨r, 34, none⟩ = some (.int .u32 t)) := fun w' h => by
    rw [hX.out] at h; exact sav_box hH _ _ _ _ _ _ _ _ _ _ _ _ h
  have CY : Hid (∀ w' : World, w'.heap[u]? = some (.cells Y 55 (0, 0)) → w'.cell? ⟨u, 23, none⟩ = some (.slice yo O.length eo) ∧ w'.cell? ⟨u, 24, none⟩ = some (.slice yd Z.length ed) ∧ w'.cell? ⟨u, 25, none⟩ = some (.slice yq Q.length eq) ∧ w'.cell? ⟨u, 26, none⟩ = some (.slice ys E.length es) ∧ w'.cell? ⟨u, 27, none⟩ = some (.int .u32 b) ∧ w'.cell? ⟨u, 28, none⟩ = some (.int .u32 m) ∧ w'.cell? ⟨u, 29, none⟩ = some (.int .u32 n) ∧ w'.cell? ⟨u, 30, none⟩ = some (.int .u32 a) ∧ w'.cell? ⟨u, 31, none⟩ = some (.int .u32 st) ∧ w'.cell? ⟨u, 32, none⟩ = some (.int .u32 k) ∧ w'.cell? ⟨u, 33, none⟩ = some (.int .u32 f) ∧ w'.cell? ⟨u, 34, none⟩ = some (.int .u32 t)) := fun w' h => by
    rw [hY.out] at h; exact sav_box hH' _ _ _ _ _ _ _ _ _ _ _ _ h
  have SO : Hid (Str w (.slice xo O.length co) (strL O) ∧ Str w (.slice yo O.length eo) (strL O)) := ⟨h1.strAny, g1.strAny⟩
  have SZ : Hid (Str w (.slice xd Z.length cd) (strL Z) ∧ Str w (.slice yd Z.length ed) (strL Z)) := ⟨h2.strAny, g2.strAny⟩
  have SQ : Hid (Str w (.slice xq Q.length cq) (strL Q) ∧ Str w (.slice yq Q.length eq) (strL Q)) := ⟨h3.strAny, g3.strAny⟩
  have Ha : Hid (Lies w xs (evs E)) := h4
  have Hb : Hid (Lies w ys (evs E)) := g4
  obtain ⟨len, hn⟩ : ∃ n, Hid (n = E.length) := ⟨_, rfl⟩
  have hlen : (len : Int) ≤ 64 := by have := hn.out; omega
  have hlc : (len : Int) ≤ cs := by have := hn.out; omega
  have hle : (len : Int) ≤ es := by have := hn.out; omega
  rw [← hn.out] at CX CY
  generalize strL O = sO at SO
  generalize strL Z = sZ at SZ
  generalize strL Q = sQ at SQ
  clear h1 h2 h3 h4 g1 g2 g3 g4 hX hY hH hH' hE hc hc'
  go_enter Try.func18, Try.ntmps18
  go_upto_region 1 with fail
  generalize (w.alloc (.cells X 55)).alloc (.cells Y 55) = V at KA B1 B2 ⊢
  rw [← hu.out, ← hr.out]
  obtain ⟨_, _, _, c26, _⟩ := CX.out V B1.out
  obtain ⟨_, _, _, e26, _⟩ := CY.out V B2.out
  go_wp2_with fail
  clear c26 e26
  go_loopw [5] (fun i wr => ∃ k : Nat, (k : Int) ≤ len ∧ i = .int .i64 k ∧ Hid (Kep V wr)) (fun i _ => len - (intOf i).toNat)
  case atStart => exact ⟨0, by omega, rfl, Kep.refl _⟩
  case round =>
    obtain ⟨i, hk, rfl, K⟩ := hrel
    have KW : Hid (Kep w wr) := kep_trans KA.out K.out
    obtain ⟨c23, c24, c25, c26, c27, c28, c29, c30, c31, c32, c33, c34⟩ := CX.out wr (K.out.block B1.out)
    obtain ⟨e23, e24, e25, e26, e27, e28, e29, e30, e31, e32, e33, e34⟩ := CY.out wr (K.out.block B2.out)
    by_cases hlt : i < len
    · have hlt' : (i : Int) < len := by omega
      have hln := hn.out
      obtain ⟨e, he⟩ : ∃ e, E[i]? = some e := ⟨_, List.getElem?_eq_getElem (by omega)⟩
      obtain ⟨e0, e1, e2⟩ := e
      rcases (Ha.out.kep KW.out) with h0 | ⟨b1, off, rfl, _, hca⟩
      · have := evs_len E; rw [h0] at this; simp at this; omega
      rcases (Hb.out.kep KW.out) with h0 | ⟨b', off', rfl, _, hcb⟩
      · have := evs_len E; rw [h0] at this; simp at this; omega
      have v0 : (evs E)[i * 3 + 0]? = some (.int .i64 e0) := by have := evs_at E i _ he 0 (by omega); simpa [evV] using this
      have v1 : (evs E)[i * 3 + 1]? = some (.int .i64 e1) := by have := evs_at E i _ he 1 (by omega); simpa [evV] using this
      have v2 : (evs E)[i * 3 + 2]? = some (.int .u8 e2) := by have := evs_at E i _ he 2 (by omega); simpa [evV] using this
      have p0 : wr.cell? ⟨b1, off + i * 3, none⟩ = some (.int .i64 e0) := hca _ _ v0
      have p1 : wr.cell? ⟨b1, off + i * 3 + 1, none⟩ = some (.int .i64 e1) := by rw [Nat.add_assoc]; exact hca _ _ v1
      have p2 : wr.cell? ⟨b1, off + i * 3 + 2, none⟩ = some (.int .u8 e2) := by rw [Nat.add_assoc]; exact hca _ _ v2
      have r0 : wr.cell? ⟨b', off' + i * 3, none⟩ = some (.int .i64 e0) := hcb _ _ v0
      have r1 : wr.cell? ⟨b', off' + i * 3 + 1, none⟩ = some (.int .i64 e1) := by rw [Nat.add_assoc]; exact hcb _ _ v1
      have r2 : wr.cell? ⟨b', off' + i * 3 + 2, none⟩ = some (.int .u8 e2) := by rw [Nat.add_assoc]; exact hcb _ _ v2
      have hsm := ev_same e0 e1 e2
      clear hca hcb he hln v0 v1 v2 hlt hk
      clear c23 c24 c25 c27 c28 c29 c30 c31 c32 c33 c34 e23 e24 e25 e27 e28 e29 e30 e31 e32 e33 e34
      go_wp2_with fail
      go_quiet (fail)
      go_wp2_with fail
      go_roundw
      case rel => exact ⟨i + 1, by omega, by go_num, K.out.drewN _⟩
      case measure => simp [intOf]; omega
    · have z1 := SO.out.1 wr KW.out
      have z2 := SO.out.2 wr KW.out
      have z3 := SZ.out.1 wr KW.out
      have z4 := SZ.out.2 wr KW.out
      have z5 := SQ.out.1 wr KW.out
      have z6 := SQ.out.2 wr KW.out
      have t1 : decide ((i : Int) < len) = false := decide_eq_false (by omega)
      have t2 : decide (i < len) = false := decide_eq_false hlt
      clear hlt hk
      go_wp2_with fail
      go_ret
      exact ⟨rfl, KW.out⟩

/-- Load's error. -/
def loadI (E : List Ev) (Z Q : List Int) (b m st k f t : Int) : Int := if errI E Z = 0 then (if 32 < Q.length then 3 else if 7 < b ∨ 7 < m ∨ fitsB st k f t = false then 2 else 0) else errI E Z

set_option maxHeartbeats 8000000 in
set_option maxRecDepth 100000 in
theorem load_no {w : World} {H : List Value} (hH : H.length = 23) {E : List Ev} {Z Q O : List Int} {xo : Option Addr} {co : Nat} {xd : Option Addr} {cd : Nat} {xq : Option Addr} {cq : Nat} {xs : Option Addr} {cs : Nat} {b m n a st k f t : Int} (I : SavIn w E Z Q O xo xd cd xq xs cs st k f t)
    (he : loadI E Z Q b m st k f t ≠ 0) :
    Calls Try.prog 17 #[.agg (savL H (.slice xo O.length co) (.slice xd Z.length cd) (.slice xq Q.length cq) (.slice xs E.length cs) b m n a st k f t).toArray] w fun e w' => e = .returned (.tuple #[.pointer none, .int .i64 (loadI E Z Q b m st k f t)]) ∧ Kep w w' := by
  obtain ⟨X, hX⟩ : ∃ X, Hid (X = (savL H (.slice xo O.length co) (.slice xd Z.length cd) (.slice xq Q.length cq) (.slice xs E.length cs) b m n a st k f t).toArray) := ⟨_, rfl⟩
  rw [← hX.out]
  have CX0 : Hid (∀ (w' : World) (r : Nat), w'.heap[r]? = some (.cells X 55 (0, 0)) → w'.cell? ⟨r, 23, none⟩ = some (.slice xo O.length co) ∧ w'.cell? ⟨r, 24, none⟩ = some (.slice xd Z.length cd) ∧ w'.cell? ⟨r, 25, none⟩ = some (.slice xq Q.length cq) ∧ w'.cell? ⟨r, 26, none⟩ = some (.slice xs E.length cs) ∧ w'.cell? ⟨r, 27, none⟩ = some (.int .u32 b) ∧ w'.cell? ⟨r, 28, none⟩ = some (.int .u32 m) ∧ w'.cell? ⟨r, 29, none⟩ = some (.int .u32 n) ∧ w'.cell? ⟨r, 30, none⟩ = some (.int .u32 a) ∧ w'.cell? ⟨r, 31, none⟩ = some (.int .u32 st) ∧ w'.cell? ⟨r, 32, none⟩ = some (.int .u32 k) ∧ w'.cell? ⟨r, 33, none⟩ = some (.int .u32 f) ∧ w'.cell? ⟨r, 34, none⟩ = some (.int .u32 t)) := fun w' r h => by
    rw [hX.out] at h; exact sav_box hH _ _ _ _ _ _ _ _ _ _ _ _ h
  have KA : Hid (Kep w (w.alloc (.cells X 55))) := (Kep.refl w).alloc _
  have BA : Hid ((w.alloc (.cells X 55)).heap[w.heap.size]? = some (.cells X 55 (0, 0))) := hat _ _ _ rfl
  by_cases h0 : errI E Z = 0
  · have HN : Hid (∀ V, Kep w V → Calls Try.prog 6 #[.slice xs E.length cs, .slice xd Z.length cd] V fun e w' => ∃ p F, e = .returned (.tuple #[.pointer (some ⟨p, 0, none⟩), .int .i64 0]) ∧ Dev w' p (ds0 E Z) F ∧ Kep V w' ∧ ∀ g ∈ F, V.heap.size ≤ g) := fun V K => vnew_ok V xs E.length cs E rfl I.ec (I.e.kep K) xd Z.length cd Z rfl I.dc I.dm (I.d.kep K) h0
    have HF : Hid (∀ w, Calls Try.prog 52 #[.int .u32 st, .agg #[.int .u32 k, .int .u32 f, .int .u32 t]] w fun e w' => e = .returned (.bool (fitsB st k f t)) ∧ Kep w w') := fun w => fits_any w st k f t I.k I.f I.t
    have hq2 : (Q.length : Int) ≤ 9223372036854775807 := I.ql
    by_cases hQ : 32 < Q.length
    · have ev : loadI E Z Q b m st k f t = 3 := by unfold loadI; rw [if_pos h0, if_pos hQ]
      rw [ev]
      have tq : decide ((32 : Int) < (Q.length : Int)) = true := decide_eq_true (by omega)
      have tq' : decide (32 < Q.length) = true := decide_eq_true (by omega)
      clear hX I he hQ h0 hH ev HF
      go_enter Try.func17, Try.ntmps17
      go_upto_region 1 with fail
      generalize w.alloc (.cells X 55) = V at KA BA ⊢
      generalize w.heap.size = r at BA ⊢
      obtain ⟨_, c24, _, c26, _⟩ := CX0.out V r BA.out
      go_wp2_with fail
      refine (HN.out V KA.out).mono ?_
      rintro e w1 ⟨p, F, rfl, d1, k1, f1⟩
      have K1 : Hid (Kep V w1) := k1
      obtain ⟨_, _, c25, _⟩ := CX0.out w1 r (k1.block BA.out)
      clear d1 k1 f1 c24 c26
      go_wp2_with fail
      go_ret2
      exact ⟨rfl, kep_trans KA.out K1.out⟩
    · have ev : loadI E Z Q b m st k f t = 2 := by
        unfold loadI at he ⊢
        rw [if_pos h0, if_neg hQ] at he ⊢
        split at he
        · rename_i h; rw [if_pos h]
        · exact absurd rfl he
      have hcase : 7 < b ∨ (¬ 7 < b ∧ 7 < m) ∨ (¬ 7 < b ∧ ¬ 7 < m ∧ fitsB st k f t = false) := by
        unfold loadI at ev
        rw [if_pos h0, if_neg hQ] at ev
        split at ev
        · rename_i h
          by_cases h1 : 7 < b
          · exact .inl h1
          · by_cases h2 : 7 < m
            · exact .inr (.inl ⟨h1, h2⟩)
            · rcases h with h | h | h
              · exact absurd h h1
              · exact absurd h h2
              · exact .inr (.inr ⟨h1, h2, h⟩)
        · cases ev
      rw [ev]
      have tq : decide ((32 : Int) < (Q.length : Int)) = false := decide_eq_false (by omega)
      have tq' : decide (32 < Q.length) = false := decide_eq_false (by omega)
      have hT : (decide ((7 : Int) < b) = true) ∨ (decide ((7 : Int) < b) = false ∧ decide ((7 : Int) < m) = true) ∨ (decide ((7 : Int) < b) = false ∧ decide ((7 : Int) < m) = false ∧ fitsB st k f t = false) := by
        rcases hcase with h | ⟨h1, h2⟩ | ⟨h1, h2, h3⟩
        · exact .inl (decide_eq_true h)
        · exact .inr (.inl ⟨decide_eq_false h1, decide_eq_true h2⟩)
        · exact .inr (.inr ⟨decide_eq_false h1, decide_eq_false h2, h3⟩)
      clear hX I he hQ h0 hH ev hcase
      go_enter Try.func17, Try.ntmps17
      go_upto_region 1 with fail
      generalize w.alloc (.cells X 55) = V at KA BA ⊢
      generalize w.heap.size = r at BA ⊢
      obtain ⟨_, c24, _, c26, _⟩ := CX0.out V r BA.out
      go_wp2_with fail
      refine (HN.out V KA.out).mono ?_
      rintro e w1 ⟨p, F, rfl, d1, k1, f1⟩
      have K1 : Hid (Kep w w1) := kep_trans KA.out k1
      have lr := block_lt (k1.block BA.out)
      obtain ⟨_, _, c25, _, c27, c28, _, _, c31, c32, c33, c34⟩ := CX0.out w1 r (k1.block BA.out)
      have K2 : Hid (∀ w2, Kep (w1.alloc (.cells #[.int .u32 k, .int .u32 f, .int .u32 t] 74)) w2 → Kep w w2) := fun w2 h => kep_trans K1.out (kep_trans ((Kep.refl w1).alloc _) h)
      clear d1 k1 f1 c24 c26 HN CX0 KA BA
      rcases hT with h1 | ⟨h1, h2⟩ | ⟨h1, h2, h3⟩
      · clear HF
        go_wp2_with fail
        go_ret2
        exact ⟨rfl, K2.out _ (Kep.refl _)⟩
      · clear HF
        go_wp2_with fail
        go_ret2
        exact ⟨rfl, K2.out _ (Kep.refl _)⟩
      · rw [h3] at HF
        clear h3
        go_wp2_with (go_at_call 52; refine (HF.out _).mono ?_; rintro e w2 ⟨rfl, k2⟩; have K3 : Hid (Kep (w1.alloc (.cells #[.int .u32 k, .int .u32 f, .int .u32 t] 74)) w2) := k2; clear k2)
        go_ret2
        exact ⟨rfl, K2.out _ K3.out⟩
  · have ev : loadI E Z Q b m st k f t = errI E Z := by unfold loadI; rw [if_neg h0]
    rw [ev]
    have HN : Hid (∀ V, Kep w V → Calls Try.prog 6 #[.slice xs E.length cs, .slice xd Z.length cd] V fun e w' => e = .returned (.tuple #[.pointer none, .int .i64 (errI E Z)]) ∧ Kep V w') := fun V K => vnew_no V xs E.length cs E rfl I.ec I.em (I.e.kep K) xd Z.length cd Z rfl I.dc I.dm h0
    have h23 : errI E Z = 2 ∨ errI E Z = 3 := (errI_cases E Z).resolve_left h0
    clear hX I he h0 hH ev
    rcases h23 with h | h
    all_goals
      rw [h] at HN ⊢
      clear h
      go_enter Try.func17, Try.ntmps17
      go_upto_region 1 with fail
      generalize w.alloc (.cells X 55) = V at KA BA ⊢
      generalize w.heap.size = r at BA ⊢
      obtain ⟨_, c24, _, c26, _⟩ := CX0.out V r BA.out
      go_wp2_with fail
      refine (HN.out V KA.out).mono ?_
      rintro e w1 ⟨rfl, k1⟩
      have K1 : Hid (Kep V w1) := k1
      clear k1 c24 c26
      go_wp2_with fail
      go_ret2
      exact ⟨rfl, kep_trans KA.out K1.out⟩
end Go.Proofs.Ytpieeefeicdfgab

namespace Go.Proofs.Ytpieeefeicdfgab
open Go.RowKit Go.WideShapes Go.ChangeShapes Go.ChangeAt
set_option linter.unusedVariables false

theorem stps_one {H : Type} {enc : TypeId × Value → H} {w : World} {base : Nat} {sp : Nat → Bool} {held : Bool} {fuel : Nat} {v : Value} {y : DataW H × List MemPlace}
    (h : DataW.trod enc Try.prog w base sp held fuel 38 [v] = some y) : ∃ x l c E, v = .slice x l c ∧ StpRow w x l c E := by
  rcases Go.Deep.open_slice Try.underlying38 h with ⟨hcs, _⟩ | ⟨a, l, c, m, n, D, Pl, hcs, _⟩
  · obtain rfl : v = .slice none 0 0 := by simpa using hcs
    obtain ⟨E, hE⟩ := stps_of (x := none) (len := 0) (cap := 0) h
    exact ⟨_, _, _, E, rfl, hE⟩
  · obtain rfl : v = .slice (some a) l c := by simpa using hcs
    obtain ⟨E, hE⟩ := stps_of (x := some a) (len := l) (cap := c) h
    exact ⟨_, _, _, E, rfl, hE⟩
theorem evs_one {H : Type} {enc : TypeId × Value → H} {w : World} {base : Nat} {sp : Nat → Bool} {held : Bool} {fuel : Nat} {v : Value} {y : DataW H × List MemPlace}
    (h : DataW.trod enc Try.prog w base sp held fuel 22 [v] = some y) : ∃ x l c E, v = .slice x l c ∧ EvRow w x l c E := by
  rcases Go.Deep.open_slice Try.underlying22 h with ⟨hcs, _⟩ | ⟨a, l, c, m, n, D, Pl, hcs, _⟩
  · obtain rfl : v = .slice none 0 0 := by simpa using hcs
    obtain ⟨E, hE⟩ := evs_of (x := none) (len := 0) (cap := 0) h
    exact ⟨_, _, _, E, rfl, hE⟩
  · obtain rfl : v = .slice (some a) l c := by simpa using hcs
    obtain ⟨E, hE⟩ := evs_of (x := some a) (len := l) (cap := c) h
    exact ⟨_, _, _, E, rfl, hE⟩
set_option maxRecDepth 100000 in
/-- Two rows of steps by value. -/
theorem open_stp2 {H : Type} {enc : TypeId × Value → H} {w : World} {r : Reach} {b0 base : Nat} {sp : Nat → Bool} {held : Bool} {v : Value} {d : DataW H} {p : List MemPlace} (hv : Value.okWide Try.prog w r b0 39 v) (h : DataW.Trod enc Try.prog w base sp held 39 v d p) :
    ∃ (x : Option Addr) (l c : Nat) (E : List Stp) (x' : Option Addr) (l' c' : Nat) (E' : List Stp), v = .agg #[.slice x l c, .slice x' l' c'] ∧ StpRow w x l c E ∧ StpRow w x' l' c' E' := by
  have ht := Try.underlying39
  have hc : Try.prog.cellsOf 38 = 1 := by kernel_rfl
  have hn : Try.prog.cellsOf 39 = 2 := by kernel_rfl
  obtain ⟨cs, rfl, hsz⟩ : ∃ cs, v = .agg cs ∧ cs.size = Try.prog.cellsOf 39 := by
    simp only [Value.okWide, ht] at hv
    obtain ⟨cs, h1, h2, _⟩ := hv
    exact ⟨cs, h1, h2⟩
  rw [hn] at hsz
  obtain ⟨fuel, hf⟩ := h
  obtain ⟨xs, m, _, _, hl, hxl, hx⟩ := DataW.trod_array ht hf
  obtain ⟨l⟩ := cs
  obtain ⟨v0, v1, rfl⟩ := list2 l hsz
  have h0 := hx 0 (by omega)
  have h1 := hx 1 (by omega)
  rw [hc, List.getElem?_eq_getElem (by omega)] at h0 h1
  obtain ⟨x, l, c, E, rfl, hE⟩ := stps_one (v := v0) h0
  obtain ⟨x', l', c', E', rfl, hE'⟩ := stps_one (v := v1) h1
  exact ⟨x, l, c, E, x', l', c', E', rfl, hE, hE'⟩

theorem list12 {α : Type} (l : List α) (h : l.length = 12) : ∃ a b c d e f g h i j k m, l = [a, b, c, d, e, f, g, h, i, j, k, m] := by
  match l, h with
  | [a, b, c, d, e, f, g, h, i, j, k, m], _ => exact ⟨a, b, c, d, e, f, g, h, i, j, k, m, rfl⟩
theorem bytesOf_u8 : Try.prog.bytesOf 5 = 1 := by kernel_rfl
/-- A slice of bytes, with its reach. -/
theorem bsl_sized {H : Type} {enc : TypeId × Value → H} {w : World} {base : Nat} {sp : Nat → Bool} {held : Bool} {fuel : Nat} {v : Value} {y : DataW H × List MemPlace}
    (h : DataW.trod enc Try.prog w base sp held fuel 37 [v] = some y) (hz : ∀ n ∈ y.1.weights Try.prog 37, n ≤ reachBytes) : ∃ (x : Option Addr) (l c : Nat) (zs : List Int), v = .slice x l c ∧ BSl w x l c zs ∧ (zs.length : Int) ≤ 140737488355328 := by
  obtain ⟨x, l, c, zs, rfl, hb⟩ := bsl_of h
  refine ⟨x, l, c, zs, rfl, hb, ?_⟩
  have hl := hb.1
  rcases open_ints Try.underlying37 Try.underlying5 (by kernel_rfl) h with ⟨hcs, _⟩ | ⟨a, l', c', zs', hcs, _, hl', hm, hz', hy, _⟩
  · simp at hcs; omega
  · simp at hcs
    obtain ⟨_, rfl, _⟩ := hcs
    have h1 := hz (zs'.length * 1) (by
      rw [hy]
      simp only [DataW.weights, Try.underlying37, List.mem_cons]
      left
      rw [bytesOf_u8, lits, lits, List.length_map, List.length_map, List.length_take, List.length_drop]
      have : l ≤ zs'.length := by rw [hz']; split <;> omega
      omega)
    have h2 := reachBytes_lt
    have e3 : (2 : Nat) ^ 47 = 140737488355328 := by decide
    have : l ≤ zs'.length := by rw [hz']; split <;> omega
    omega
/-- What was saved, as it came in. -/
structure SavP (w : World) (E : List Ev) (Z Q O : List Int) (xo : Option Addr) (xd : Option Addr) (cd : Nat) (xq : Option Addr) (xs : Option Addr) (cs : Nat) (b m n a st k f t : Int) : Prop where
  sav : SavIn w E Z Q O xo xd cd xq xs cs st k f t
  eb : ∀ e ∈ E, 0 ≤ e.2.2 ∧ e.2.2 < 256
  qb : Byts Q
  db : Byts Z
  b : 0 ≤ b ∧ b < 4294967296
  m : 0 ≤ m ∧ m < 4294967296
  n : 0 ≤ n ∧ n < 4294967296
  a : 0 ≤ a ∧ a < 4294967296
theorem u32_one {H : Type} {enc : TypeId × Value → H} {w : World} {base : Nat} {sp : Nat → Bool} {held : Bool} {fuel : Nat} {v : Value} {y : DataW H × List MemPlace}
    (h : DataW.trod enc Try.prog w base sp held fuel 23 [v] = some y) : ∃ a : Int, v = .int .u32 a ∧ 0 ≤ a ∧ a < 4294967296 := by
  obtain ⟨a, e, _, q⟩ := DataW.trod_int Try.underlying23 h
  exact ⟨a, by simpa using e, u32_of q⟩

set_option maxRecDepth 100000 in
set_option maxHeartbeats 4000000 in
theorem open_sav {H : Type} {enc : TypeId × Value → H} {w : World} {r : Reach} {b0 base : Nat} {sp : Nat → Bool} {held : Bool} {v : Value} {d : DataW H} {p : List MemPlace} (hv : Value.okWide Try.prog w r b0 55 v) (h : DataW.Trod enc Try.prog w base sp held 55 v d p) (hz : ∀ n ∈ d.weights Try.prog 55, n ≤ reachBytes) :
    ∃ (T : List Value) (E : List Ev) (Z Q O : List Int) (xo : Option Addr) (co : Nat) (xd : Option Addr) (cd : Nat) (xq : Option Addr) (cq : Nat) (xs : Option Addr) (cs : Nat) (b m n a st k f t : Int), v = .agg (savL T (.slice xo O.length co) (.slice xd Z.length cd) (.slice xq Q.length cq) (.slice xs E.length cs) b m n a st k f t).toArray ∧ T.length = 23 ∧ SavP w E Z Q O xo xd cd xq xs cs b m n a st k f t := by
  have ht := Try.underlying55
  have c1 : Try.prog.cellsOf 37 = 1 := by kernel_rfl
  have c2 : Try.prog.cellsOf 22 = 1 := by kernel_rfl
  have c3 : Try.prog.cellsOf 23 = 1 := by kernel_rfl
  have hn : Try.prog.cellsOf 55 = 35 := by kernel_rfl
  obtain ⟨cs, rfl, hsz⟩ := okWide_struct ht hv
  rw [hn] at hsz
  obtain ⟨fuel, hf⟩ := h
  obtain ⟨xs, nn, _, hd, hl, hxl, hx⟩ := DataW.trod_struct ht hf
  obtain ⟨rfl, rfl⟩ : d = .agg (xs.map (·.1)) ∧ p = xs.flatMap (·.2) := by simpa using hd
  have hxs : xs.length = 17 := hxl
  obtain ⟨L⟩ := cs
  have hL : L.length = 35 := hsz
  obtain ⟨T, hT, R, hR, rfl⟩ : ∃ T, T.length = 23 ∧ ∃ R, R.length = 12 ∧ L = T ++ R := ⟨L.take 23, by simp; omega, L.drop 23, by simp; omega, (List.take_append_drop 23 L).symm⟩
  obtain ⟨v0, v1, v2, v3, v4, v5, v6, v7, v8, v9, v10, v11, rfl⟩ := list12 R hR
  have hdr : ∀ j, ((T ++ [v0, v1, v2, v3, v4, v5, v6, v7, v8, v9, v10, v11]).drop (23 + j)) = [v0, v1, v2, v3, v4, v5, v6, v7, v8, v9, v10, v11].drop j := fun j => by
    rw [List.drop_append, List.drop_eq_nil_of_le (by omega), List.nil_append, hT, Nat.add_sub_cancel_left]
  have hw : ∀ (j : Nat) (t : TypeId) (y : DataW H × List MemPlace), ((Try.prog.fieldsOf 55).toList.map (·.type))[j]? = some t → xs[j]? = some y → ∀ n ∈ y.1.weights Try.prog t, n ≤ reachBytes := fun j t y hj hy n hnn => by
    refine hz n ?_
    simp only [DataW.weights, ht]
    exact DataW.weights_mem_each (j := j) (t := t) (d := y.1) hj (by rw [List.getElem?_map, hy]; rfl) n hnn
  have g5 : DataW.trod enc Try.prog w base sp held nn 37 (((T ++ [v0, v1, v2, v3, v4, v5, v6, v7, v8, v9, v10, v11]).drop (23 + 0)).take (Try.prog.cellsOf 37)) = xs[5]? := hx 5 _ rfl
  rw [c1, hdr 0, List.getElem?_eq_getElem (by omega)] at g5
  have g6 : DataW.trod enc Try.prog w base sp held nn 37 (((T ++ [v0, v1, v2, v3, v4, v5, v6, v7, v8, v9, v10, v11]).drop (23 + 1)).take (Try.prog.cellsOf 37)) = xs[6]? := hx 6 _ rfl
  rw [c1, hdr 1, List.getElem?_eq_getElem (by omega)] at g6
  have g7 : DataW.trod enc Try.prog w base sp held nn 37 (((T ++ [v0, v1, v2, v3, v4, v5, v6, v7, v8, v9, v10, v11]).drop (23 + 2)).take (Try.prog.cellsOf 37)) = xs[7]? := hx 7 _ rfl
  rw [c1, hdr 2, List.getElem?_eq_getElem (by omega)] at g7
  have g8 : DataW.trod enc Try.prog w base sp held nn 22 (((T ++ [v0, v1, v2, v3, v4, v5, v6, v7, v8, v9, v10, v11]).drop (23 + 3)).take (Try.prog.cellsOf 22)) = xs[8]? := hx 8 _ rfl
  rw [c2, hdr 3, List.getElem?_eq_getElem (by omega)] at g8
  have g9 : DataW.trod enc Try.prog w base sp held nn 23 (((T ++ [v0, v1, v2, v3, v4, v5, v6, v7, v8, v9, v10, v11]).drop (23 + 4)).take (Try.prog.cellsOf 23)) = xs[9]? := hx 9 _ rfl
  rw [c3, hdr 4, List.getElem?_eq_getElem (by omega)] at g9
  have g10 : DataW.trod enc Try.prog w base sp held nn 23 (((T ++ [v0, v1, v2, v3, v4, v5, v6, v7, v8, v9, v10, v11]).drop (23 + 5)).take (Try.prog.cellsOf 23)) = xs[10]? := hx 10 _ rfl
  rw [c3, hdr 5, List.getElem?_eq_getElem (by omega)] at g10
  have g11 : DataW.trod enc Try.prog w base sp held nn 23 (((T ++ [v0, v1, v2, v3, v4, v5, v6, v7, v8, v9, v10, v11]).drop (23 + 6)).take (Try.prog.cellsOf 23)) = xs[11]? := hx 11 _ rfl
  rw [c3, hdr 6, List.getElem?_eq_getElem (by omega)] at g11
  have g12 : DataW.trod enc Try.prog w base sp held nn 23 (((T ++ [v0, v1, v2, v3, v4, v5, v6, v7, v8, v9, v10, v11]).drop (23 + 7)).take (Try.prog.cellsOf 23)) = xs[12]? := hx 12 _ rfl
  rw [c3, hdr 7, List.getElem?_eq_getElem (by omega)] at g12
  have g13 : DataW.trod enc Try.prog w base sp held nn 23 (((T ++ [v0, v1, v2, v3, v4, v5, v6, v7, v8, v9, v10, v11]).drop (23 + 8)).take (Try.prog.cellsOf 23)) = xs[13]? := hx 13 _ rfl
  rw [c3, hdr 8, List.getElem?_eq_getElem (by omega)] at g13
  have g14 : DataW.trod enc Try.prog w base sp held nn 23 (((T ++ [v0, v1, v2, v3, v4, v5, v6, v7, v8, v9, v10, v11]).drop (23 + 9)).take (Try.prog.cellsOf 23)) = xs[14]? := hx 14 _ rfl
  rw [c3, hdr 9, List.getElem?_eq_getElem (by omega)] at g14
  have g15 : DataW.trod enc Try.prog w base sp held nn 23 (((T ++ [v0, v1, v2, v3, v4, v5, v6, v7, v8, v9, v10, v11]).drop (23 + 10)).take (Try.prog.cellsOf 23)) = xs[15]? := hx 15 _ rfl
  rw [c3, hdr 10, List.getElem?_eq_getElem (by omega)] at g15
  have g16 : DataW.trod enc Try.prog w base sp held nn 23 (((T ++ [v0, v1, v2, v3, v4, v5, v6, v7, v8, v9, v10, v11]).drop (23 + 11)).take (Try.prog.cellsOf 23)) = xs[16]? := hx 16 _ rfl
  rw [c3, hdr 11, List.getElem?_eq_getElem (by omega)] at g16
  obtain ⟨xo, lo, co, O, rfl, b5, s5⟩ := bsl_sized (v := v0) g5 (hw 5 _ xs[5] rfl (List.getElem?_eq_getElem (by omega)))
  obtain ⟨xd, ld, cd, Z, rfl, b6, _⟩ := bsl_sized (v := v1) g6 (hw 6 _ xs[6] rfl (List.getElem?_eq_getElem (by omega)))
  obtain ⟨xq, lq, cq, Q, rfl, b7, _⟩ := bsl_sized (v := v2) g7 (hw 7 _ xs[7] rfl (List.getElem?_eq_getElem (by omega)))
  obtain ⟨xe, le, ce, E, rfl, b8⟩ := evs_one (v := v3) g8
  obtain ⟨b, rfl, rb⟩ := u32_one (v := v4) g9
  obtain ⟨m, rfl, rm⟩ := u32_one (v := v5) g10
  obtain ⟨n, rfl, rn⟩ := u32_one (v := v6) g11
  obtain ⟨a, rfl, ra⟩ := u32_one (v := v7) g12
  obtain ⟨st, rfl, rst⟩ := u32_one (v := v8) g13
  obtain ⟨k, rfl, rk⟩ := u32_one (v := v9) g14
  obtain ⟨f, rfl, rf⟩ := u32_one (v := v10) g15
  obtain ⟨t, rfl, rt⟩ := u32_one (v := v11) g16
  obtain rfl : O.length = lo := b5.1
  obtain rfl : Z.length = ld := b6.1
  obtain rfl : Q.length = lq := b7.1
  obtain rfl : E.length = le := b8.hl
  have hq1 := b7.2.1
  have hq2 := b7.2.2.1
  exact ⟨T, E, Z, Q, O, xo, co, xd, cd, xq, cq, xe, ce, b, m, n, a, st, k, f, t, rfl, hT, ⟨⟨b5.lies, b6.lies, b7.lies, b8.lies, s5, by omega, b6.2.1, b6.2.2.1, b8.hle, b8.hmax, rst, rk, rf, rt⟩, b8.byte, b7.2.2.2.2, b6.2.2.2.2, rb, rm, rn, ra⟩⟩
end Go.Proofs.Ytpieeefeicdfgab

namespace Go.Proofs.Ytpieeefeicdfgab
open Go.RowKit
set_option linter.unusedVariables false
set_option linter.unusedSimpArgs false

theorem ownN_lies3 {w w' : World} {e : TypeId} {z : Nat} {x : Option Addr} {n c : Nat} {xs : List Value} (h : OwnN w w' e z (.slice x n c) n xs) : Lies w' x xs ∧ n ≤ c ∧ (c : Int) ≤ 9223372036854775807 := by
  obtain ⟨G, s, _⟩ := h
  obtain ⟨x', c', e, h1, h2, h3, _⟩ := s.lies
  cases e
  exact ⟨h1, h2, by unfold maxLen at h3; omega⟩
theorem err_of_ok {s : DS} (ok : s.Ok) (hE : s.E.length ≤ 64) : errI s.E s.D = 0 := by
  unfold errI
  rw [if_neg (by have := ok.d; omega), if_neg]
  simp only [not_or, Bool.not_eq_true, List.any_eq_false]
  exact ⟨fun e he => by simp [(ok.ev e he).1], by have := ok.d6; omega⟩
theorem fit_of_ok {s : DS} (ok : s.Ok) : fitsB s.s s.k s.f s.t = true := by
  unfold fitsB
  simp only [Bool.or_eq_true, Bool.and_eq_true, decide_eq_true_eq]
  exact ok.cmd
/-- X is what was saved of devices with the data s. -/
def SavX (W : World) (s : DS) (X : Array Value) : Prop := ∃ xo co xd cd xq cq xs cs, X = (savL zH (.slice xo s.O.length co) (.slice xd s.D.length cd) (.slice xq s.Q.length cq) (.slice xs s.E.length cs) s.b s.m s.n s.a s.s s.k s.f s.t).toArray ∧ SavIn W s.E s.D s.Q s.O xo xd cd xq xs cs s.s s.k s.f s.t
theorem SavX.kep {W W' : World} {s : DS} {X : Array Value} (h : SavX W s X) (K : Kep W W') : SavX W' s X := by
  obtain ⟨xo, co, xd, cd, xq, cq, xs, cs, e, I⟩ := h
  exact ⟨xo, co, xd, cd, xq, cq, xs, cs, e, I.kep K⟩
theorem SavX.size {W : World} {s : DS} {X : Array Value} (h : SavX W s X) : X.size = 35 := by
  obtain ⟨xo, co, xd, cd, xq, cq, xs, cs, rfl, _⟩ := h
  rfl
theorem SavX.one {W : World} {s : DS} {X : Array Value} (h : SavX W s X) : (X.all fun x => x.oneCell') = true := by
  obtain ⟨xo, co, xd, cd, xq, cq, xs, cs, rfl, _⟩ := h
  exact sav_one (H := zH) rfl _ _ _ _ _ _ _ _ _ _ _ _ _ _ _ _ _ _ _ _
theorem savx_save {W : World} {p : Nat} {s : DS} {F : List Nat} (h : Dev W p s F) (ok : s.Ok) (hE : s.E.length ≤ 64) (hO : (s.O.length : Int) ≤ 1000000) :
    Calls Try.prog 16 #[.pointer (some ⟨p, 0, none⟩)] W fun e W' => ∃ X, e = .returned (.agg X) ∧ SavX W' s X ∧ Kep W W' := by
  refine (save_any h ok hE (by omega)).mono ?_
  rintro e W' ⟨xo, co, xd, cd, xq, cq, xs, cs, rfl, sd, K⟩
  obtain ⟨o1, o2, o3⟩ := ownN_lies3 sd.o
  obtain ⟨d1, d2, d3⟩ := ownN_lies3 sd.d
  obtain ⟨q1, q2, q3⟩ := ownN_lies3 sd.q
  obtain ⟨e1, e2, e3⟩ := ownN_lies3 sd.e
  have hc := ok.cmd
  have hq := ok.q
  exact ⟨_, rfl, ⟨xo, co, xd, cd, xq, cq, xs, cs, rfl, ⟨o1, d1, q1, e1, by omega, by omega, d2, d3, e2, e3, by omega, by omega, ok.f, ok.t⟩⟩, K⟩
theorem savx_load {W : World} {s : DS} {X : Array Value} (h : SavX W s X) (ok : s.Ok) (hE : s.E.length ≤ 64) :
    Calls Try.prog 17 #[.agg X] W fun e W' => ∃ p F, e = .returned (.tuple #[.pointer (some ⟨p, 0, none⟩), .int .i64 0]) ∧ Dev W' p s F ∧ Kep W W' ∧ ∀ g ∈ F, W.heap.size ≤ g := by
  obtain ⟨xo, co, xd, cd, xq, cq, xs, cs, rfl, I⟩ := h
  exact load_ok (H := zH) rfl I (err_of_ok ok hE) ok.q ok.b.2 ok.m.2 (fit_of_ok ok)
theorem savx_saved {W : World} {s : DS} {X Y : Array Value} (h : SavX W s X) (h' : SavX W s Y) (hE : s.E.length ≤ 64) :
    Calls Try.prog 18 #[.agg X, .agg Y] W fun e W' => e = .returned (.bool true) ∧ Kep W W' := by
  obtain ⟨xo, co, xd, cd, xq, cq, xs, cs, rfl, I⟩ := h
  obtain ⟨yo, eo, yd, ed, yq, eq, ys, es, rfl, J⟩ := h'
  exact saved_any (H := zH) (H' := zH) rfl rfl hE I.ec J.ec I.o I.d I.q I.e J.o J.d J.q J.e
/-- Other devices of the same data in the place of the first ones. -/
theorem PKA.swap {w : World} {p q : Nat} {s t : DS} {vS : Value} {E0 : List Ev} {pr R Rb gb : Nat} {ob : Obj} {B C : List Int} {W W' : World} {F G F' : List Nat} {p' : Nat} (A : PKA w p q s t vS E0 pr R Rb gb ob B C W F G) (K : Kep W W') (d : Dev W' p' s F') (hF : ∀ g ∈ F', W.heap.size ≤ g) : PKA w p' q s t vS E0 pr R Rb gb ob B C W' F' G := by
  have lb := A.lrb
  have ks := A.kep.size
  have P : Put [] W W' := Put.of_kep K
  refine ⟨d, A.ref.kep K, A.oks, A.okt, A.mem.put (Put.of_kep K) fun g hg => ?_, A.row.kep K, A.lB, A.lC, A.bC, kep_trans A.kep K, fun g hg => ?_, A.gg, A.r, A.rb, K.block A.bx, A.bn.1, A.bn.2.1, fun hm => ?_, A.bn.2.2.2⟩
  · simp only [List.mem_cons, List.mem_append] at hg ⊢
    rcases hg with h | h | h
    · exact .inl (.inl h)
    · exact .inr (hF g h)
    · exact .inl (.inr (.inr h))
  · have := hF g hg
    exact ⟨by omega, by omega, fun hm => by have := A.ref.lt g hm; omega⟩
  · have := hF gb hm; have := block_lt A.bx; omega
theorem PKA.e64 {w : World} {p q : Nat} {s t : DS} {vS : Value} {E0 : List Ev} {pr R Rb gb : Nat} {ob : Obj} {B C : List Int} {W : World} {F G : List Nat} (A : PKA w p q s t vS E0 pr R Rb gb ob B C W F G) (h : E0.length ≤ 64) : t.E.length ≤ 64 := by
  obtain ⟨_, _, _, _, _, _, _, _, _, _, D, _⟩ := A.ref
  rw [D.E, List.length_drop]; omega
theorem stp_at : ∀ (E : List Stp) (k : Nat) (e : Stp), E[k]? = some e → ∀ j, j < 3 → (E.flatMap stpV)[k * 3 + j]? = (stpV e)[j]?
  | [], k, e, h, j, hj => by simp at h
  | x :: E, 0, e, h, j, hj => by
    simp at h; subst h
    rw [List.flatMap_cons, List.getElem?_append_left (by simp [stpV]; omega)]
    simp
  | x :: E, k + 1, e, h, j, hj => by
    rw [List.flatMap_cons, List.getElem?_append_right (by simp [stpV]; omega), ← stp_at E k e (by simpa using h) j hj]
    congr 1; simp [stpV]; omega
/-- A step of a row that came in: its cells, wherever what came in is kept. -/
theorem stp_cells {w : World} {x : Option Addr} {len cap : Nat} {z : List Stp} (h : StpRow w x len cap z) {k : Nat} (hk : k < len) : ∃ (b off : Nat) (kd nn vv : Int), x = some ⟨b, off, none⟩ ∧ ((-9223372036854775808 ≤ nn ∧ nn ≤ 9223372036854775807) ∧ (0 ≤ vv ∧ vv < 4294967296)) ∧ ∀ w', Kep w w' → w'.cell? ⟨b, off + k * 3, none⟩ = some (.int .i64 kd) ∧ w'.cell? ⟨b, off + k * 3 + 1, none⟩ = some (.int .i64 nn) ∧ w'.cell? ⟨b, off + k * 3 + 2, none⟩ = some (.int .u32 vv) := by
  have hl : k < z.length := by rw [h.hl]; exact hk
  obtain ⟨e, hez⟩ : ∃ e, z[k]? = some e := ⟨_, List.getElem?_eq_getElem hl⟩
  obtain ⟨kd, nn, vv⟩ := e
  have hgood := h.good (kd, nn, vv) (List.mem_of_getElem? hez)
  rcases h.lies with h0 | ⟨b, off, hxs, hb, hcell⟩
  · have := stp_at z k _ hez 0 (by omega); rw [h0] at this; simp [stpV] at this
  refine ⟨b, off, kd, nn, vv, hxs, hgood, fun w' K => ⟨?_, ?_, ?_⟩⟩
  · exact (K.cell hb).trans (hcell _ _ (by have := stp_at z k _ hez 0 (by omega); simpa [stpV] using this))
  · rw [Nat.add_assoc]; exact (K.cell hb).trans (hcell _ _ (by have := stp_at z k _ hez 1 (by omega); simpa [stpV] using this))
  · rw [Nat.add_assoc]; exact (K.cell hb).trans (hcell _ _ (by have := stp_at z k _ hez 2 (by omega); simpa [stpV] using this))
end Go.Proofs.Ytpieeefeicdfgab
