/- Two answers and two memories are the same: told so; devices beside the document's: what holds between two steps, a step, a copy, the start and the end. -/
import Derived.Test.YtpieeefeicdfgaaVcl
import Derived.Test.YtpieeefeicdfgaaVbk
import Derived.Test.YtpieeefeicdfgaaVrde
import Derived.Test.YtpieeefeicdfgaaVout
import Derived.Test.YtpieeefeicdfgaaVerr
import Derived.ChangeKeysEq
import Derived.Deep.RegionHeld3
import Derived.Deep.Cut
namespace Go.Proofs.Ytpieeefeicdfgaa
open Go.RowKit
set_option linter.unusedVariables false
set_option linter.unusedSimpArgs false

theorem evf_same {P : Program} (w : World) (d : Nat) (xs : Array Value) : ∀ (fs : List Field), (∀ f ∈ fs, ∃ v, (Go.part f.type xs f.offset).run P w = .ok v w ∧ (Op.equalIn d f.type v v).run P w = .ok true w) → (Op.eqFields d xs xs fs).run P w = .ok true w
  | [], _ => by simp [Op.eqFields]
  | f :: fs, h => by
    obtain ⟨v, h1, h2⟩ := h f (by simp)
    have ih := evf_same w d xs fs (fun g hg => h g (by simp [hg]))
    simp only [Op.eqFields]
    split
    · simp only [Sem.run_bind, h1, h2, Result.andThen_ok, Bool.not_true, Bool.false_eq_true, if_false]
      exact ih
    · exact ih
theorem ev_same (a b c : Int) (w : World) : (Op.equalIn 10000 74 (.agg #[.int .i64 a, .int .i64 b, .int .u8 c]) (.agg #[.int .i64 a, .int .i64 b, .int .u8 c])).run Try.prog w = .ok true w := by
  rw [run_equalIn_agg (P := Try.prog) w 9999 74 _ _ (by kernel_rfl) (by kernel_rfl)]
  refine evf_same w 9999 _ _ (fun f hf => ?_)
  have hall : ((Try.prog.fieldsOf 74).toList.all fun f => (f.type == 3 && f.offset == 0) || (f.type == 3 && f.offset == 1) || (f.type == 5 && f.offset == 2)) = true := by kernel_rfl
  have h := List.all_eq_true.1 hall f hf
  simp only [Bool.or_eq_true, Bool.and_eq_true, beq_iff_eq] at h
  rcases h with (⟨h1, h2⟩ | ⟨h1, h2⟩) | ⟨h1, h2⟩
  all_goals rw [h1, h2]
  · exact ⟨.int .i64 a, by kernel_rfl, by rw [run_equalIn_int w 9998 _ _ _ _ _ Try.underlying3]; simp⟩
  · exact ⟨.int .i64 b, by kernel_rfl, by rw [run_equalIn_int w 9998 _ _ _ _ _ Try.underlying3]; simp⟩
  · exact ⟨.int .u8 c, by kernel_rfl, by rw [run_equalIn_int w 9998 _ _ _ _ _ Try.underlying5]; simp⟩

set_option maxHeartbeats 4000000 in
set_option maxRecDepth 100000 in
theorem lsame_any (w : World) (xa xb xx xy : Option Addr) (ca cb cx cy : Nat) (C : List Ev) (f : List Int) (hC : (C.length : Int) ≤ 64) (hf : (f.length : Int) ≤ 64) (ha : Lies w xa (evs C)) (hb : Lies w xb (evs C)) (hx : Lies w xx (f.map (Value.int .i64))) (hy : Lies w xy (f.map (Value.int .i64))) (h1 : C.length ≤ ca) (h2 : C.length ≤ cb) (h3 : f.length ≤ cx) (h4 : f.length ≤ cy) :
    Calls Try.prog 52 #[.slice xa C.length ca, .slice xb C.length cb, .slice xx f.length cx, .slice xy f.length cy] w fun e w' => e = .returned (.bool true) ∧ Kep w w' := by
  have Ha : Hid (Lies w xa (evs C)) := ha
  have Hb : Hid (Lies w xb (evs C)) := hb
  have Hx : Hid (Lies w xx (f.map (Value.int .i64))) := hx
  have Hy : Hid (Lies w xy (f.map (Value.int .i64))) := hy
  obtain ⟨n, hn⟩ : ∃ n, Hid (n = C.length) := ⟨_, rfl⟩
  obtain ⟨m, hm⟩ : ∃ m, Hid (m = f.length) := ⟨_, rfl⟩
  rw [← hn.out, ← hm.out]
  rw [← hn.out] at hC h1 h2
  rw [← hm.out] at hf h3 h4
  clear ha hb hx hy
  go_enter Try.func52, Try.ntmps52
  go_wp2_with fail
  go_loopw [9] (fun i wr => ∃ k : Nat, (k : Int) ≤ n ∧ i = .int .i64 k ∧ Hid (Kep w wr)) (fun i _ => n - (intOf i).toNat)
  case atStart => exact ⟨0, by omega, rfl, Kep.refl _⟩
  case round =>
    obtain ⟨k, hk, rfl, K⟩ := hrel
    by_cases hlt : k < n
    · have hlt' : (k : Int) < n := by omega
      have hln := hn.out
      obtain ⟨e, he⟩ : ∃ e, C[k]? = some e := ⟨_, List.getElem?_eq_getElem (by omega)⟩
      obtain ⟨e0, e1, e2⟩ := e
      rcases (Ha.out.kep K.out) with h0 | ⟨b, off, rfl, _, hca⟩
      · have := evs_len C; rw [h0] at this; simp at this; omega
      rcases (Hb.out.kep K.out) with h0 | ⟨b', off', rfl, _, hcb⟩
      · have := evs_len C; rw [h0] at this; simp at this; omega
      have v0 : (evs C)[k * 3 + 0]? = some (.int .i64 e0) := by have := evs_at C k _ he 0 (by omega); simpa [evV] using this
      have v1 : (evs C)[k * 3 + 1]? = some (.int .i64 e1) := by have := evs_at C k _ he 1 (by omega); simpa [evV] using this
      have v2 : (evs C)[k * 3 + 2]? = some (.int .u8 e2) := by have := evs_at C k _ he 2 (by omega); simpa [evV] using this
      have p0 : wr.cell? ⟨b, off + k * 3, none⟩ = some (.int .i64 e0) := hca _ _ v0
      have p1 : wr.cell? ⟨b, off + k * 3 + 1, none⟩ = some (.int .i64 e1) := by rw [Nat.add_assoc]; exact hca _ _ v1
      have p2 : wr.cell? ⟨b, off + k * 3 + 2, none⟩ = some (.int .u8 e2) := by rw [Nat.add_assoc]; exact hca _ _ v2
      have r0 : wr.cell? ⟨b', off' + k * 3, none⟩ = some (.int .i64 e0) := hcb _ _ v0
      have r1 : wr.cell? ⟨b', off' + k * 3 + 1, none⟩ = some (.int .i64 e1) := by rw [Nat.add_assoc]; exact hcb _ _ v1
      have r2 : wr.cell? ⟨b', off' + k * 3 + 2, none⟩ = some (.int .u8 e2) := by rw [Nat.add_assoc]; exact hcb _ _ v2
      have hsm := ev_same e0 e1 e2
      clear hca hcb he hln v0 v1 v2 hlt hk
      go_wp2_with fail
      go_quiet (fail)
      go_wp2_with fail
      go_roundw
      case rel => exact ⟨k + 1, by omega, by go_num, K.out.drewN _⟩
      case measure => simp [intOf]; omega
    · have K' := K
      clear K Ha Hb hk
      go_wp2_with fail
      go_loopw [10] (fun i wz => ∃ j : Nat, (j : Int) ≤ m ∧ i = .int .i64 j ∧ Hid (Kep w wz)) (fun i _ => m - (intOf i).toNat)
      case atStart => exact ⟨0, by omega, rfl, K'⟩
      case round =>
        rename World => wz
        obtain ⟨j, hj, rfl, K⟩ := hrel
        by_cases hlt2 : j < m
        · have hlt' : (j : Int) < m := by omega
          have hln := hm.out
          obtain ⟨e, he⟩ : ∃ e, f[j]? = some e := ⟨_, List.getElem?_eq_getElem (by omega)⟩
          have v0 : (f.map (Value.int .i64))[j]? = some (.int .i64 e) := by rw [List.getElem?_map, he]; rfl
          rcases (Hx.out.kep K.out) with h0 | ⟨b, off, rfl, _, hca⟩
          · have := congrArg List.length h0; simp at this; rw [this] at hln; simp at hln; omega
          rcases (Hy.out.kep K.out) with h0 | ⟨b', off', rfl, _, hcb⟩
          · have := congrArg List.length h0; simp at this; rw [this] at hln; simp at hln; omega
          have p0 : wz.cell? ⟨b, off + j, none⟩ = some (.int .i64 e) := hca _ _ v0
          have r0 : wz.cell? ⟨b', off' + j, none⟩ = some (.int .i64 e) := hcb _ _ v0
          clear hca hcb he hln v0 hlt2 hj
          go_wp2_with fail
          go_quiet (fail)
          go_wp2_with fail
          go_roundw
          case rel => exact ⟨j + 1, by omega, by go_num, K.out.drewN _⟩
          case measure => simp [intOf]; omega
        · go_wp2_with fail
          go_ret
          exact ⟨rfl, K.out⟩

set_option maxHeartbeats 4000000 in
set_option maxRecDepth 100000 in
theorem alike_any (w : World) (v : Value) (R n : Nat) (x : Option Addr) (Rb : Nat) (B : List Int) (h : Two w v R n x Rb B) :
    Calls Try.prog 24 #[v, refV x B.length] w fun e w' => e = .returned (.bool true) ∧ Kep w w' := by
  have h' : Hid (Two w v R n x Rb B) := h
  have hlen := h.len
  rw [hlen]
  have hn : (n : Int) ≤ 512 := by have := h.le; omega
  have H1 : Hid (∀ w' (k : Nat), Kep w w' → k < n → Calls Try.prog 28 #[v, .int .i64 k] w' fun e w'' => ∃ u : Value, e = .returned u ∧ Str w'' u (strL (frameL B k)) ∧ Kep w' w'') := fun w' k K hk => frame_str w' v R n x Rb B (h'.out.kep K) k hk
  have H2 : Hid (∀ w' (k : Nat), Kep w w' → k < n → Calls Try.prog 27 #[refV x (64 * n), .int .i64 k] w' fun e w'' => ∃ u : Value, e = .returned u ∧ Str w'' u (strL (frameL B k)) ∧ Kep w' w'') := fun w' k K hk => by rw [← hlen]; exact refFrame_str w' v R n x Rb B (h'.out.kep K) k hk
  clear h hlen
  go_enter Try.func24, Try.ntmps24
  go_wp2_with fail
  go_loopw [5] (fun i wr => ∃ k : Nat, (k : Int) ≤ n ∧ i = .int .i64 k ∧ Hid (Kep (w.alloc (.cells #[.slice x (64 * n) (64 * n)] 33)) wr)) (fun i _ => n - (intOf i).toNat)
  case atStart => exact ⟨0, by omega, rfl, Kep.refl _⟩
  case round =>
    obtain ⟨k, hk, rfl, K⟩ := hrel
    have hbx : wr.heap[w.heap.size]? = some (.cells #[.slice x (64 * n) (64 * n)] 33 (0, 0)) := K.out.block (hat _ _ _ rfl)
    have c0 : wr.cell? ⟨w.heap.size, 0, none⟩ = some (.slice x (64 * n) (64 * n)) := by rw [cell_of_block hbx]; rfl
    have lw := block_lt hbx
    have K0 : Hid (Kep w wr) := kep_trans ((Kep.refl w).alloc _) K.out
    by_cases hlt : k < n
    · have hlt' : (k : Int) < n := by omega
      have G1 : Hid (∀ w', Kep wr w' → Calls Try.prog 28 #[v, .int .i64 k] w' fun e w'' => ∃ u : Value, e = .returned u ∧ Str w'' u (strL (frameL B k)) ∧ Kep w' w'') := fun w' K' => H1.out w' k (kep_trans K0.out K') hlt
      have G2 : Hid (∀ w', Kep wr w' → Calls Try.prog 27 #[refV x (64 * n), .int .i64 k] w' fun e w'' => ∃ u : Value, e = .returned u ∧ Str w'' u (strL (frameL B k)) ∧ Kep w' w'') := fun w' K' => H2.out w' k (kep_trans K0.out K') hlt
      generalize strL (frameL B k) = s at G1 G2
      clear hbx
      have K1 : Hid (Kep wr wr.drew) := (Kep.refl _).drew
      go_wp2_with fail
      go_region_with (first
        | (go_at_call 28; refine (G1.out _ K1.out).mono ?_; rintro e wa ⟨u1, rfl, s1, k1⟩; have j1 : Hid (Kep wr wa) := kep_trans K1.out k1; have z1 := s1 wa (Kep.refl _); have z0 := (j1.out.cell (o := 0) lw).trans c0; have s1' : Hid (Str wa u1 s) := s1; clear s1 k1)
        | (go_at_call 27; refine (G2.out _ j1.out).mono ?_; rintro e wb ⟨u2, rfl, s2, k2⟩; have z2 := s2 wb (Kep.refl _); have z3 := s1'.out wb k2; have z4 := (k2.cell (o := 0) (j1.out.lt lw)).trans z0; have j2 : Hid (Kep wr wb) := kep_trans j1.out k2; clear s2 k2))
      all_goals
        go_wp2_with fail
        go_roundw
        case rel => exact ⟨k + 1, by omega, by go_num, kep_trans K.out j2.out⟩
        case measure => simp [intOf]; omega
    · clear hbx H1 H2
      go_wp2_with fail
      go_ret
      exact ⟨rfl, K0.out⟩

theorem MemS.farB {w : World} {v : Value} {R : Nat} {ix F : List Nat} {B : List Int} (h : MemS w v R ix B F) (hB : B ≠ []) : Far w v R F := by
  rcases h with ⟨_, _, h⟩ | ⟨_, _, h⟩
  · exact absurd h hB
  · exact h
theorem MemS.less {w : World} {v : Value} {R : Nat} {ix F G : List Nat} {B : List Int} (h : MemS w v R ix B F) (hs : ∀ g ∈ G, g ∈ F) : MemS w v R ix B G := by
  rcases h with h | ⟨h1, h2, h3⟩
  · exact .inl h
  · exact .inr ⟨h1, h2, h3.sub hs⟩
/-- The document's devices may have other data (t) than the devices (s), and its memory other bytes (C): between the two halves of a step. -/
structure PKA (w : World) (p q : Nat) (s t : DS) (vS : Value) (E0 : List Ev) (pr R Rb gb : Nat) (ob : Obj) (B C : List Int) (W : World) (F G : List Nat) : Prop where
  dev : Dev W p s F
  ref : RDv W q t vS E0 G
  oks : s.Ok
  okt : t.Ok
  mem : MemS W (.pointer (some ⟨pr, 0, none⟩)) R (List.range 5) B (Rb :: (F ++ G))
  row : RowB W Rb C
  lB : B.length = 320
  lC : C.length = 320
  bC : Byts C
  kep : Kep w W
  fg : ∀ g ∈ F, w.heap.size ≤ g ∧ g ≠ Rb ∧ g ∉ G
  gg : ∀ g ∈ G, w.heap.size ≤ g ∧ g ≠ Rb
  r : w.heap.size ≤ R
  rb : w.heap.size ≤ Rb
  bx : W.heap[gb]? = some ob
  bn : gb ≠ R ∧ gb ≠ Rb ∧ gb ∉ F ∧ gb ∉ G
theorem PKA.mk5 {w : World} {p q : Nat} {s t : DS} {vS : Value} {E0 : List Ev} {pr R Rb gb : Nat} {ob : Obj} {B C : List Int} {W : World} {F G : List Nat} (A : PKA w p q s t vS E0 pr R Rb gb ob B C W F G) : Mem W (.pointer (some ⟨pr, 0, none⟩)) R (List.range 5) B := A.mem.real (ne320 A.lB)
theorem PKA.lrb {w : World} {p q : Nat} {s t : DS} {vS : Value} {E0 : List Ev} {pr R Rb gb : Nat} {ob : Obj} {B C : List Int} {W : World} {F G : List Nat} (A : PKA w p q s t vS E0 pr R Rb gb ob B C W F G) : Rb < W.heap.size := A.row.lt (ne320 A.lC)
/-- The devices turn. -/
theorem PKA.code {w : World} {p q : Nat} {s t : DS} {vS : Value} {E0 : List Ev} {pr R Rb gb : Nat} {ob : Obj} {B C : List Int} {W W' : World} {F G F' : List Nat} (A : PKA w p q s t vS E0 pr R Rb gb ob B C W F G) {s' : DS} (P : Put F W W') (d : Dev W' p s' F') (hF : ∀ g ∈ F', g ∈ F ∨ W.heap.size ≤ g) (ok : s'.Ok) : PKA w p q s' t vS E0 pr R Rb gb ob B C W' F' G := by
  have lb := A.lrb
  have ks := A.kep.size
  refine ⟨d, A.ref.put P fun g hg hm => (A.fg g hm).2.2 hg, ok, A.okt, A.mem.put (P.mono fun g hg => ?_) fun g hg => ?_, A.row.put P fun hm => (A.fg _ hm).2.1 rfl, A.lB, A.lC, A.bC, A.kep.put P fun g hg => (A.fg g hg).1, fun g hg => ?_, A.gg, A.r, A.rb, P.keeps A.bx A.bn.2.2.1, A.bn.1, A.bn.2.1, fun hm => ?_, A.bn.2.2.2⟩
  · simp [hg]
  · simp only [List.mem_cons, List.mem_append] at hg ⊢
    rcases hg with h | h | h
    · exact .inl (.inl h)
    · exact (hF g h).imp (fun h => .inr (.inl h)) id
    · exact .inl (.inr (.inr h))
  · rcases hF g hg with h | h
    · exact A.fg g h
    · exact ⟨by omega, by omega, fun hm => by have := A.ref.lt g hm; omega⟩
  · rcases hF gb hm with h | h
    · exact A.bn.2.2.1 h
    · have := block_lt A.bx; omega
/-- The document's devices turn. -/
theorem PKA.reff {w : World} {p q : Nat} {s t : DS} {vS : Value} {E0 : List Ev} {pr R Rb gb : Nat} {ob : Obj} {B C : List Int} {W W' : World} {F G G' : List Nat} (A : PKA w p q s t vS E0 pr R Rb gb ob B C W F G) {t' : DS} (P : Put G W W') (d : RDv W' q t' vS E0 G') (hG : ∀ g ∈ G', g ∈ G ∨ W.heap.size ≤ g) (ok : t'.Ok) : PKA w p q s t' vS E0 pr R Rb gb ob B C W' F G' := by
  have lb := A.lrb
  have ks := A.kep.size
  refine ⟨A.dev.put P fun g hg hm => (A.fg g hg).2.2 hm, d, A.oks, ok, A.mem.put (P.mono fun g hg => ?_) fun g hg => ?_, A.row.put P fun hm => (A.gg _ hm).2 rfl, A.lB, A.lC, A.bC, A.kep.put P fun g hg => (A.gg g hg).1, fun g hg => ⟨(A.fg g hg).1, (A.fg g hg).2.1, fun hm => ?_⟩, fun g hg => ?_, A.r, A.rb, P.keeps A.bx A.bn.2.2.2, A.bn.1, A.bn.2.1, A.bn.2.2.1, fun hm => ?_⟩
  · simp [hg]
  · simp only [List.mem_cons, List.mem_append] at hg ⊢
    rcases hg with h | h | h
    · exact .inl (.inl h)
    · exact .inl (.inr (.inl h))
    · exact (hG g h).imp (fun h => .inr (.inr h)) id
  · rcases hG g hm with h | h
    · exact (A.fg g hg).2.2 h
    · have := A.dev.lt g hg; omega
  · rcases hG g hg with h | h
    · exact A.gg g h
    · exact ⟨by omega, by omega⟩
  · rcases hG gb hm with h | h
    · exact A.bn.2.2.2 h
    · have := block_lt A.bx; omega
theorem PKA.kept {w : World} {p q : Nat} {s t : DS} {vS : Value} {E0 : List Ev} {pr R Rb gb : Nat} {ob : Obj} {B C : List Int} {W W' : World} {F G : List Nat} (A : PKA w p q s t vS E0 pr R Rb gb ob B C W F G) (K : Kep W W') : PKA w p q s t vS E0 pr R Rb gb ob B C W' F G := A.code (Put.of_kep K) (A.dev.kep K) (fun g hg => .inl hg) A.oks
/-- Events come, by the devices. -/
theorem PKA.came {w : World} {p q : Nat} {s t : DS} {vS : Value} {E0 : List Ev} {pr R Rb gb : Nat} {ob : Obj} {B C : List Int} {W W' : World} {F G F' : List Nat} (A : PKA w p q s t vS E0 pr R Rb gb ob B C W F G) {s' : DS} {B' : List Int} (P : Put ([R] ++ F) W W') (d : Dev W' p s' F') (m : MemS W' (.pointer (some ⟨pr, 0, none⟩)) R (List.range 5) B' F') (hB : B'.length = B.length) (hF : ∀ g ∈ F', g ∈ F ∨ W.heap.size ≤ g) (ok : s'.Ok) : PKA w p q s' t vS E0 pr R Rb gb ob B' C W' F' G := by
  have lb := A.lrb
  have ks := A.kep.size
  have far := A.mem.farB (ne320 A.lB)
  have hRG : R ∉ G := fun h => far.row (by simp [h])
  have hRb : R ≠ Rb := fun h => far.row (by simp [h])
  have hB' : B' ≠ [] := ne320 (hB.trans A.lB)
  have hP : ∀ g, g ≠ R → g ∉ F → g ∉ [R] ++ F := fun g h1 h2 hm => by
    rcases List.mem_append.1 hm with h | h
    · exact h1 (by simpa using h)
    · exact h2 h
  have hoffP : Off W (.pointer (some ⟨pr, 0, none⟩)) ([R] ++ F) := by
    have := (A.mem.less (G := F) (fun g hg => by simp [hg])).off
    have e : rwL R B = [R] := by unfold rwL; rw [if_neg (ne320 A.lB)]
    rw [e] at this; exact this
  have hoffG : Off W' (.pointer (some ⟨pr, 0, none⟩)) (Rb :: G) := Off.stay A.mk5.ram (far.off.sub (by simp +contextual)) P hoffP
  refine ⟨d, A.ref.put P fun g hg => hP g (fun e => hRG (e ▸ hg)) (fun h => (A.fg g h).2.2 hg), ok, A.okt, ?_, A.row.put P (hP Rb (Ne.symm hRb) fun h => (A.fg _ h).2.1 rfl), hB.trans A.lB, A.lC, A.bC, A.kep.put P fun g hg => ?_, fun g hg => ?_, A.gg, A.r, A.rb, P.keeps A.bx (hP gb A.bn.1 A.bn.2.2.1), A.bn.1, A.bn.2.1, fun hm => ?_, A.bn.2.2.2⟩
  · have mr := m.farB hB'
    refine .inr ⟨hB', m.real hB', ⟨fun x e => ⟨fun hm => ?_, fun y n c hc hm => ?_⟩, fun hm => ?_⟩⟩
    · simp only [List.mem_cons, List.mem_append] at hm
      rcases hm with h | h | h
      · exact (hoffG x e).1 (by simp [h])
      · exact (mr.off x e).1 h
      · exact (hoffG x e).1 (by simp [h])
    · simp only [List.mem_cons, List.mem_append] at hm
      rcases hm with h | h | h
      · exact (hoffG x e).2 y n c hc (by simp [h])
      · exact (mr.off x e).2 y n c hc h
      · exact (hoffG x e).2 y n c hc (by simp [h])
    · simp only [List.mem_cons, List.mem_append] at hm
      rcases hm with h | h | h
      · exact hRb h
      · exact mr.row h
      · exact hRG h
  · rcases List.mem_append.1 hg with h | h
    · obtain rfl : g = R := by simpa using h
      exact A.r
    · exact (A.fg g h).1
  · rcases hF g hg with h | h
    · exact A.fg g h
    · exact ⟨by omega, by omega, fun hm => by have := A.ref.lt g hm; omega⟩
  · rcases hF gb hm with h | h
    · exact A.bn.2.2.1 h
    · have := block_lt A.bx; omega
/-- Events come, by the document. -/
theorem PKA.rcame {w : World} {p q : Nat} {s t : DS} {vS : Value} {E0 : List Ev} {pr R Rb gb : Nat} {ob : Obj} {B C : List Int} {W W' : World} {F G G' : List Nat} (A : PKA w p q s t vS E0 pr R Rb gb ob B C W F G) {t' : DS} {C' : List Int} (P : Put (Rb :: G) W W') (d : RDv W' q t' vS E0 G') (r : RowB W' Rb C') (hC : C'.length = 320) (bC : Byts C') (hG : ∀ g ∈ G', g ∈ G ∨ W.heap.size ≤ g) (ok : t'.Ok) : PKA w p q s t' vS E0 pr R Rb gb ob B C' W' F G' := by
  have lb := A.lrb
  have ks := A.kep.size
  refine ⟨A.dev.put P fun g hg hm => ?_, d, A.oks, ok, A.mem.put (P.mono fun g hg => ?_) fun g hg => ?_, r, A.lB, hC, bC, A.kep.put P fun g hg => ?_, fun g hg => ⟨(A.fg g hg).1, (A.fg g hg).2.1, fun hm => ?_⟩, fun g hg => ?_, A.r, A.rb, P.keeps A.bx (fun hm => ?_), A.bn.1, A.bn.2.1, A.bn.2.2.1, fun hm => ?_⟩
  · rcases List.mem_cons.1 hm with h | h
    · exact (A.fg g hg).2.1 h
    · exact (A.fg g hg).2.2 h
  · simp only [List.mem_cons, List.mem_append] at hg ⊢
    exact hg.imp id .inr
  · simp only [List.mem_cons, List.mem_append] at hg ⊢
    rcases hg with h | h | h
    · exact .inl (.inl h)
    · exact .inl (.inr (.inl h))
    · exact (hG g h).imp (fun h => .inr (.inr h)) id
  · rcases List.mem_cons.1 hg with h | h
    · rw [h]; exact A.rb
    · exact (A.gg g h).1
  · rcases hG g hm with h | h
    · exact (A.fg g hg).2.2 h
    · have := A.dev.lt g hg; omega
  · rcases hG g hg with h | h
    · exact A.gg g h
    · exact ⟨by omega, by omega⟩
  · rcases List.mem_cons.1 hm with h | h
    · exact A.bn.2.1 h
    · exact A.bn.2.2.2 h
  · rcases hG gb hm with h | h
    · exact A.bn.2.2.2 h
    · have := block_lt A.bx; omega
theorem readS_ok {s : DS} (h : s.Ok) (port : Int) : (readS s port).Ok := by
  unfold readS; split
  · exact ⟨h.b, h.m, by show (s.Q.drop 1).length ≤ 32; have := h.q; simp; omega, fun b hb => h.qb b (List.drop_subset _ _ hb), h.d, h.d6, h.db, h.n, h.a, h.f, h.t, h.cmd, h.ev⟩
  · exact h
theorem takenS_ok {s : DS} (h : s.Ok) (cause : Int) : (takenS s cause).Ok := by
  unfold takenS
  split
  · exact Ok.bits h (clr_low h.b)
  split
  · exact Ok.bits h (clr_low h.b)
  split
  · exact Ok.bits h (clr_low h.b)
  · exact h

/-- Between two steps. -/
def PKS (w : World) (p q : Nat) (vS : Value) (E0 : List Ev) (pr R Rb gb : Nat) (ob : Obj) (m : Nat) (W : World) : Prop := ∃ s B F G, PKA w p q s s vS E0 pr R Rb gb ob B B W F G ∧ s.O.length ≤ m
theorem nextV_form (s : DS) (n : Int) : ∃ a b, nextV s n = #[.int .i64 a, .bool b] := by
  unfold nextV; split
  · exact ⟨_, _, rfl⟩
  · exact ⟨_, _, rfl⟩
abbrev stpC (kd nn vv : Int) : Obj := .cells #[.int .i64 kd, .int .i64 nn, .int .u32 vv] 40
abbrev ramC (Rb : Nat) : Obj := .cells #[.slice (some ⟨Rb, 0, none⟩) 320 320] 33
theorem takenS_O (s : DS) (c : Int) : (takenS s c).O = s.O := by unfold takenS; split; rfl; split; rfl; split <;> rfl
theorem readS_O (s : DS) (c : Int) : (readS s c).O = s.O := by unfold readS; split <;> rfl
theorem writeS_O (s : DS) (c v : Int) : (writeS s c v).O.length ≤ s.O.length + 1 := by
  unfold writeS
  split
  · simp
  split
  · simp
  split
  · simp
  split
  · unfold giveS; split <;> simp
  split
  · simp
  split <;> simp
theorem nxt_O (step : Int) (ix : List Nat) (x : CS) : (nxt step ix x).s.O = x.s.O := by
  unfold nxt; split
  · rfl
  · exact evS_O _ _ _ _
theorem comeN_O (step : Int) (ix : List Nat) : ∀ (n : Nat) (x : CS), (comeN step ix n x).s.O = x.s.O
  | 0, x => rfl
  | n + 1, x => by
    unfold comeN; split
    · rw [comeN_O step ix n, nxt_O]
    · rfl
theorem comeC_O (step : Int) (ix : List Nat) (x : CS) : (comeC step ix x).s.O = x.s.O := comeN_O _ _ _ _

set_option maxHeartbeats 8000000 in
set_option maxRecDepth 100000 in
theorem step_any {w : World} {p q : Nat} {xS : Option Addr} {cS : Nat} {E0 : List Ev} {pr R Rb gb : Nat} {ob : Obj} {m : Nat} {W : World} (h : PKS w p q (.slice xS E0.length cS) E0 pr R Rb gb ob m W) (hE : E0.length ≤ 64) (hS : Lies w xS (evs E0)) (hm : (m : Int) < 900000) (kd nn vv : Int) (hnn : -9223372036854775808 ≤ nn ∧ nn ≤ 9223372036854775807) (hvv : 0 ≤ vv ∧ vv < 4294967296) :
    Calls Try.prog 23 #[.pointer (some ⟨p, 0, none⟩), .pointer (some ⟨q, 0, none⟩), .agg #[.int .i64 kd, .int .i64 nn, .int .u32 vv], .pointer (some ⟨pr, 0, none⟩), refV (some ⟨Rb, 0, none⟩) 320] W fun e W' => e = .returned (.bool true) ∧ PKS w p q (.slice xS E0.length cS) E0 pr R Rb gb ob (m + 1) W' := by
  obtain ⟨s, B, F, G, A, hO⟩ := h
  obtain ⟨V, hV⟩ : ∃ V, Hid (V = (W.alloc (stpC kd nn vv)).alloc (ramC Rb)) := ⟨_, rfl⟩
  have KV : Kep W V := by rw [hV.out]; exact ((Kep.refl _).alloc _).alloc _
  have A1 := A.kept KV
  have bs : V.heap[W.heap.size]? = some (.cells #[.int .i64 kd, .int .i64 nn, .int .u32 vv] 40 (0, 0)) := by rw [hV.out]; exact (hsk _ _ _ (by simp)).trans (hat _ _ _ rfl)
  have br : V.heap[W.heap.size + 1]? = some (.cells #[.slice (some ⟨Rb, 0, none⟩) 320 320] 33 (0, 0)) := by rw [hV.out]; exact hat _ _ _ (by simp)
  have lt1 : ∀ g ∈ F, g < W.heap.size := A.dev.lt
  have lt2 : ∀ g ∈ G, g < W.heap.size := A.ref.lt
  have lt3 := A.lrb
  have lt4 := A.mk5.row.lt (ne320 A.lB)
  have CSx : Hid (∀ V' l, Put l V V' → (∀ g ∈ l, g < W.heap.size) → V'.cell? ⟨W.heap.size, 0, none⟩ = some (.int .i64 kd) ∧ V'.cell? ⟨W.heap.size, 1, none⟩ = some (.int .i64 nn) ∧ V'.cell? ⟨W.heap.size, 2, none⟩ = some (.int .u32 vv) ∧ V'.cell? ⟨W.heap.size + 1, 0, none⟩ = some (.slice (some ⟨Rb, 0, none⟩) 320 320)) := fun V' l P hl => by
    have b1 := P.keeps bs (fun hm => by have := hl _ hm; omega)
    have b2 := P.keeps br (fun hm => by have := hl _ hm; omega)
    exact ⟨(cell_of_block b1).trans rfl, (cell_of_block b1).trans rfl, (cell_of_block b1).trans rfl, (cell_of_block b2).trans rfl⟩
  obtain ⟨x0, x1, x2, x3⟩ := CSx.out V [] (Put.refl _) (by simp)
  have hA : Hid (PKA w p q s s (.slice xS E0.length cS) E0 pr R Rb gb ob B B V F G) := A1
  have hO1 : Hid (s.O.length ≤ m) := hO
  have hE' : Hid (E0.length ≤ 64) := hE
  have hsE : Hid (s.E.length ≤ 64) := by
    obtain ⟨c, k, f, t, vq, vo, vd, Fq, Fo, Fd, D, _⟩ := A.ref
    rw [Hid, D.E, List.length_drop]; omega
  have hS' : Hid (∀ V', Kep w V' → Lies V' xS (evs E0)) := fun V' K => hS.kep K
  by_cases h0 : kd = 0
  · subst h0
    obtain ⟨a, b, hv⟩ := nextV_form s nn
    have H1 : Hid (Calls Try.prog 25 #[.pointer (some ⟨p, 0, none⟩), .int .i64 nn] V fun e w' => e = .returned (.tuple #[.int .i64 a, .bool b]) ∧ w' = V) := by
      have := next_any A1.dev A1.oks hsE.out nn hnn
      rw [hv] at this; exact this
    have H2 : Hid (Calls Try.prog 50 #[.pointer (some ⟨q, 0, none⟩), .int .i64 nn] V fun e w' => e = .returned (.tuple #[.int .i64 a, .bool b]) ∧ Kep V w') := by
      have := rnext_any A1.ref A1.okt hE (hS'.out V A1.kep) nn hnn
      rw [hv] at this; exact this
    clear A A1 hS hE hv bs br KV hnn hvv hm lt1 lt2 lt3 lt4 CSx hO
    go_enter Try.func23, Try.ntmps23
    go_wp2_with fail
    rw [← hV.out]
    refine H1.out.mono ?_
    rintro e w1 ⟨rfl, hq⟩
    rw [hq]
    clear hq H1
    go_wp2_with fail
    refine H2.out.mono ?_
    rintro e w2 ⟨rfl, k2⟩
    have K2 : Hid (Kep V w2) := k2
    clear k2 H2
    go_wp2_with fail
    all_goals
      go_ret
      exact ⟨by simp, s, B, F, G, hA.out.kept K2.out, Nat.le_succ_of_le hO1.out⟩
  have t0 : (kd == 0) = false := by simp [h0]
  by_cases h1 : kd = 1
  · subst h1
    have e5 : rwL R B = [R] := by unfold rwL; rw [if_neg (ne320 A.lB)]
    have hl5 : B.length = 64 * 5 := A.lB
    have H1 : Hid (Calls Try.prog 20 #[.pointer (some ⟨p, 0, none⟩), .int .i64 nn, .pointer (some ⟨pr, 0, none⟩)] V (ComeP V p F (.pointer (some ⟨pr, 0, none⟩)) R (List.range 5) B (comeC nn (List.range 5) ⟨s, B, [], []⟩))) := come_any V p s F A1.dev A1.oks hsE.out _ R (List.range 5) B (A1.mem.less (fun g hg => by simp [hg])) A1.mk5.byts (fits_range hl5) nn
    have hRF : ∀ g ∈ [R] ++ F, g < W.heap.size := fun g hg => by
      rcases List.mem_append.1 hg with h | h
      · obtain rfl : g = R := by simpa using h
        exact lt4
      · exact lt1 g h
    have hRF' : Hid (∀ g ∈ [R] ++ F, g < W.heap.size) := hRF
    have hGv : Hid (∀ g ∈ Rb :: G, g < V.heap.size) := fun g hg => by
      have hs := KV.size
      rcases List.mem_cons.1 hg with rfl | h
      · omega
      · have := lt2 g h; omega
    have e5' : Hid (rwL R B = [R]) := e5
    have hlB : Hid (B.length = 320) := A.lB
    have hbB : Hid (Byts B) := A1.mk5.byts
    clear A A1 hE bs br KV hnn hvv hm lt1 lt2 lt3 lt4 hO e5 hl5 hRF
    go_enter Try.func23, Try.ntmps23
    go_wp2_with fail
    rw [← hV.out]
    refine H1.out.mono ?_
    rintro e V1 ⟨vc, vw, F', Gc, Gw, rfl, d1, m1, sc1, sw1, P1, f1, gc1, gw1, ok1, lc1, lf1, lb1⟩
    rw [e5'.out] at P1
    have A2 : Hid _ := hA.out.came P1 d1 m1 lb1 f1 ok1.s
    obtain ⟨y0, y1, y2, y3⟩ := CSx.out V1 _ P1 hRF'.out
    obtain ⟨x, hx⟩ : ∃ x, Hid (x = comeC nn (List.range 5) ⟨s, B, [], []⟩) := ⟨_, rfl⟩
    rw [← hx.out] at A2 sc1 sw1 lc1 lf1
    obtain ⟨xc, cc, hvc, lyc, lec, _⟩ := sc1.lies
    obtain ⟨xw, cw, hvw, lyw, lew, _⟩ := sw1.lies
    have H2 : Hid (Calls Try.prog 51 #[.pointer (some ⟨q, 0, none⟩), .int .i64 nn, refV (some ⟨Rb, 0, none⟩) 320] V1 fun e w' => ∃ (x : CS) (vl vf : Value) (F Gl Gf : List Nat), x = comeC nn (List.range 5) ⟨s, B, [], []⟩ ∧ e = .returned (.tuple #[vl, vf]) ∧ RDv w' q x.s (.slice xS E0.length cS) E0 F ∧ RowB w' Rb x.B ∧ Sli w' 74 3 vl x.c.length (evs x.c) Gl ∧ Sli w' 3 1 vf x.f.length (x.f.map (Value.int .i64)) Gf ∧ Put (Rb :: G) V1 w' ∧ (∀ g ∈ F, g ∈ G ∨ V1.heap.size ≤ g) ∧ x.Ok (List.range 5) ∧ x.B.length = 64 * 5 ∧ x.c.length ≤ 64) := rcome_any A2.out.ref A2.out.okt hE'.out A2.out.kep hS (fun g hg => (A2.out.gg g hg).1) 5 Rb B (by decide) (by decide) A2.out.row hlB.out hbB.out (fun h => (A2.out.gg _ h).2 rfl) A2.out.rb nn
    have Sc : Hid (Sli V1 74 3 (.slice xc x.c.length cc) x.c.length (evs x.c) Gc) := by rw [← hvc]; exact sc1
    have Sw : Hid (Sli V1 3 1 (.slice xw x.f.length cw) x.f.length (x.f.map (Value.int .i64)) Gw) := by rw [← hvw]; exact sw1
    have gc1' : Hid (∀ g ∈ Gc, g ∉ Rb :: G) := fun g hg hm => by have := (gc1 g hg).1; have := hGv.out g hm; omega
    have gw1' : Hid (∀ g ∈ Gw, g ∉ Rb :: G) := fun g hg hm => by have := (gw1 g hg).1; have := hGv.out g hm; omega
    have hlf : Hid ((x.f.length : Int) ≤ 64) := by unfold Hid; omega
    subst hvc hvw
    clear d1 m1 sc1 sw1 P1 f1 gc1 gw1 ok1 lb1 H1 lyc lyw x0 x1 x2 x3 hS CSx
    go_wp2_with fail
    refine H2.out.mono ?_
    rintro e V2 ⟨x', vl, vf, G', Gl, Gf, hx', rfl, d2, r2, sl2, sf2, P2, g2, ok2, lb2, lc2⟩
    obtain rfl : x = x' := by rw [hx.out, hx']
    have A3 : Hid _ := A2.out.rcame P2 d2 r2 lb2 ok2.B g2 ok2.s
    obtain ⟨xl, cl, hvl, lyl, lel, _⟩ := sl2.lies
    obtain ⟨xf, cf, hvf, lyf, lef, _⟩ := sf2.lies
    obtain ⟨_, _, e1, lyc, lec', _⟩ := (Sc.out.put P2 gc1'.out).lies
    obtain ⟨_, _, e2, lyw, lew', _⟩ := (Sw.out.put P2 gw1'.out).lies
    cases e1
    cases e2
    subst hvl hvf
    have H3 : Hid (Calls Try.prog 52 #[.slice xc x.c.length cc, .slice xl x.c.length cl, .slice xw x.f.length cw, .slice xf x.f.length cf] V2 fun e w' => e = .returned (.bool true) ∧ Kep V2 w') := lsame_any V2 xc xl xw xf cc cl cw cf x.c x.f (by omega) hlf.out lyc lyl lyw lyf lec lel lew lef
    have hxO : Hid (x.s.O = s.O) := by rw [Hid, hx.out]; exact comeC_O _ _ _
    clear d2 r2 sl2 sf2 P2 g2 ok2 lb2 lc2 lyl lyf lyc lyw H2 hx' y0 y1 y2 y3 A2 Sc Sw lec' lew'
    go_wp2_with fail
    refine H3.out.mono ?_
    rintro e V3 ⟨rfl, k3⟩
    have K3 : Hid (Kep V2 V3) := k3
    clear k3 H3
    go_wp2_with fail
    go_ret
    exact ⟨rfl, x.s, x.B, F', G', A3.out.kept K3.out, by rw [hxO.out]; exact Nat.le_succ_of_le hO1.out⟩
  have t1 : (kd == 1) = false := by simp [h1]
  by_cases h2 : kd = 2
  · subst h2
    have H1 : Hid (∀ V', Kep V V' → Calls Try.prog 26 #[.pointer (some ⟨p, 0, none⟩), .int .u32 vv] V' fun e w' => e = .returned (.int .i64 (wantsI vv (clrI s.b s.m))) ∧ Kep V' w') := fun V' K => vwants_any (A1.dev.kep K) A1.oks vv hvv
    have H2 : Hid (∀ V', Kep V V' → Calls Try.prog 53 #[.pointer (some ⟨q, 0, none⟩), .int .u32 vv] V' fun e w' => e = .returned (.int .i64 (wantsI vv (clrI s.b s.m))) ∧ w' = V') := fun V' K => rdwants_any (A1.ref.kep K) A1.okt vv hvv
    generalize wantsI vv (clrI s.b s.m) = r at H1 H2
    have y2 : ∀ i : KW V, i.val.cell? ⟨W.heap.size, 2, none⟩ = some (.int .u32 vv) := fun i => KW.cell x2 i
    have hne : Nonempty (KW V) := ⟨⟨_, Kep.refl _⟩⟩
    clear A A1 hS hE bs br KV hnn hvv hm lt1 lt2 lt3 lt4 CSx hO
    go_enter Try.func23, Try.ntmps23
    go_wp2_with fail
    rw [← hV.out]
    refine region_kw (by kernel_rfl) (by kernel_rfl) ?_
    repeat (go_big_quiet_step (first
      | (go_at_call 26; refine (H1.out _ (KW.ok _)).mono ?_; rintro e w8 ⟨rfl, k8⟩; exact ⟨rfl, ⟨_, kep_trans (KW.ok _) k8⟩, rfl⟩)
      | (go_at_call 53; refine (H2.out _ (KW.ok _)).mono ?_; rintro e w8 ⟨rfl, rfl⟩; exact ⟨rfl, _, rfl⟩)))
    refine wpQuiet_nil ?_
    rintro _ ⟨i, rfl⟩
    have G3 : Hid (Kep V i.val) := i.ok
    go_wp2_with fail
    go_ret
    exact ⟨rfl, s, B, F, G, hA.out.kept G3.out, Nat.le_succ_of_le hO1.out⟩
  have t2 : (kd == 2) = false := by simp [h2]
  by_cases h3 : kd = 3
  · subst h3
    have H1 : Hid (Calls Try.prog 22 #[.pointer (some ⟨p, 0, none⟩), .int .i64 nn] V fun e w' => e = .returned (.tuple #[]) ∧ Dev w' p (takenS s nn) F ∧ Put F V w') := taken_dev A1.dev A1.oks nn
    have lt1' : Hid (∀ g ∈ F, g < W.heap.size) := lt1
    clear A A1 hS hE bs br KV hnn hvv hm lt1 lt2 lt3 lt4 hO
    go_enter Try.func23, Try.ntmps23
    go_wp2_with fail
    rw [← hV.out]
    refine H1.out.mono ?_
    rintro e V1 ⟨rfl, d1, P1⟩
    have A2 : Hid _ := hA.out.code P1 d1 (fun g hg => .inl hg) (takenS_ok hA.out.oks nn)
    obtain ⟨y0, y1, y2, y3⟩ := CSx.out V1 _ P1 lt1'.out
    have H2 : Hid (Calls Try.prog 54 #[.pointer (some ⟨q, 0, none⟩), .int .i64 nn] V1 fun e w' => e = .returned (.tuple #[]) ∧ RDv w' q (takenS s nn) (.slice xS E0.length cS) E0 G ∧ Put G V1 w') := rtaken_any A2.out.ref A2.out.okt nn
    clear d1 P1 H1 x0 x1 x2 x3 CSx
    go_wp2_with fail
    refine H2.out.mono ?_
    rintro e V2 ⟨rfl, d2, P2⟩
    have A3 : Hid _ := A2.out.reff P2 d2 (fun g hg => .inl hg) (takenS_ok A2.out.okt nn)
    clear d2 P2 H2 A2
    go_wp2_with fail
    go_ret
    exact ⟨rfl, _, B, F, G, A3.out, by rw [takenS_O]; exact Nat.le_succ_of_le hO1.out⟩
  have t3 : (kd == 3) = false := by simp [h3]
  by_cases h4 : kd = 4
  · subst h4
    have H1 : Hid (∀ V', Kep V V' → Calls Try.prog 15 #[.pointer (some ⟨p, 0, none⟩), .int .i64 nn] V' fun e w' => e = .returned (.int .u32 (inI s nn)) ∧ w' = V') := fun V' K => in_any (A1.dev.kep K) A1.oks nn
    have H2 : Hid (∀ V', Kep V V' → Calls Try.prog 16 #[.pointer (some ⟨q, 0, none⟩), .int .i64 nn] V' fun e w' => e = .returned (.int .u32 (inI s nn)) ∧ Kep V' w') := fun V' K => rin_any (A1.ref.kep K) A1.okt nn
    generalize inI s nn = r at H1 H2
    have y2 : ∀ i : KW V, i.val.cell? ⟨W.heap.size, 1, none⟩ = some (.int .i64 nn) := fun i => KW.cell x1 i
    have hne : Nonempty (KW V) := ⟨⟨_, Kep.refl _⟩⟩
    clear A A1 hS hE bs br KV hnn hvv hm lt1 lt2 lt3 lt4 CSx hO
    go_enter Try.func23, Try.ntmps23
    go_wp2_with fail
    rw [← hV.out]
    refine region_kw (by kernel_rfl) (by kernel_rfl) ?_
    repeat (go_big_quiet_step (first
      | (go_at_call 15; refine (H1.out _ (KW.ok _)).mono ?_; rintro e w8 ⟨rfl, rfl⟩; exact ⟨rfl, _, rfl⟩)
      | (go_at_call 16; refine (H2.out _ (KW.ok _)).mono ?_; rintro e w8 ⟨rfl, k8⟩; exact ⟨rfl, ⟨_, kep_trans (KW.ok _) k8⟩, rfl⟩)))
    refine wpQuiet_nil ?_
    rintro _ ⟨i, rfl⟩
    have G3 : Hid (Kep V i.val) := i.ok
    go_wp2_with fail
    go_ret
    exact ⟨rfl, s, B, F, G, hA.out.kept G3.out, Nat.le_succ_of_le hO1.out⟩
  have t4 : (kd == 4) = false := by simp [h4]
  by_cases h5 : kd = 5
  · subst h5
    have H1 : Hid (Calls Try.prog 21 #[.pointer (some ⟨p, 0, none⟩), .int .i64 nn] V.drew fun e w' => e = .returned (.int .u32 (inI s nn)) ∧ Dev w' p (readS s nn) F ∧ Put F V.drew w') := read_dev (A1.dev.kep ((Kep.refl V).drew)) A1.oks nn
    have lt1' : Hid (∀ g ∈ F, g < W.heap.size) := lt1
    have hAd : Hid (PKA w p q s s (.slice xS E0.length cS) E0 pr R Rb gb ob B B V.drew F G) := A1.kept ((Kep.refl V).drew)
    have xd : V.drew.cell? ⟨W.heap.size, 1, none⟩ = some (.int .i64 nn) := x1
    have CD : Hid (∀ V', Put F V.drew V' → V'.cell? ⟨W.heap.size, 1, none⟩ = some (.int .i64 nn)) := fun V' P => (CSx.out V' F ⟨P.os, P.tape, P.output, P.size, P.block⟩ lt1).2.1
    have H2 : Hid (∀ V', PKA w p q (readS s nn) s (.slice xS E0.length cS) E0 pr R Rb gb ob B B V' F G → Calls Try.prog 55 #[.pointer (some ⟨q, 0, none⟩), .int .i64 nn] V' fun e w' => e = .returned (.int .u32 (inI s nn)) ∧ ∃ F', RDv w' q (readS s nn) (.slice xS E0.length cS) E0 F' ∧ Put G V' w' ∧ ∀ g ∈ F', g ∈ G ∨ V'.heap.size ≤ g) := fun V' A' => rread_any A'.ref A'.okt nn
    have CE : Hid (∀ V' V'', Put F V.drew V' → Put G V' V'' → V''.cell? ⟨W.heap.size, 1, none⟩ = some (.int .i64 nn)) := fun V' V'' P P' => by
      have h1 := (CSx.out V' F ⟨P.os, P.tape, P.output, P.size, P.block⟩ lt1).2.1
      have hb := World.block_lt_of_cell? V' _ h1
      exact (P'.cell hb (fun hm => by have := lt2 W.heap.size hm; omega)).trans h1
    generalize inI s nn = r at H1 H2
    clear A A1 hS hE bs br KV hnn hvv hm lt1 lt2 lt3 lt4 CSx hO
    go_enter Try.func23, Try.ntmps23
    go_wp2_with fail
    rw [← hV.out]
    go_region_held3 (fun w' => w'.cell? ⟨W.heap.size, 1, none⟩ = some (.int .i64 nn)) (assumption) (first
      | (go_at_call 21; refine H1.out.mono ?_; rintro e V1 ⟨rfl, d1, P1⟩; have A2 : Hid (PKA w p q (readS s nn) s (.slice xS E0.length cS) E0 pr R Rb gb ob B B V1 F G) := hAd.out.code P1 d1 (fun g hg => .inl hg) (readS_ok hAd.out.oks nn); have P1' : Hid (Put F V.drew V1) := P1; have z1 := CD.out V1 P1; clear d1 P1)
      | (go_at_call 55; refine (H2.out _ A2.out).mono ?_; rintro e V2 ⟨rfl, G', d2, P2, g2⟩; have A3 : Hid (PKA w p q (readS s nn) (readS s nn) (.slice xS E0.length cS) E0 pr R Rb gb ob B B V2 F G') := A2.out.reff P2 d2 g2 (readS_ok A2.out.okt nn); have z2 := CE.out _ V2 P1'.out P2; clear d2 P2 g2))
    all_goals
      go_wp2_with fail
      go_ret
      exact ⟨rfl, _, B, F, G', A3.out, by rw [readS_O]; exact Nat.le_succ_of_le hO1.out⟩
  have t5 : (kd == 5) = false := by simp [h5]
  by_cases h6 : kd = 6
  · subst h6
    have hOm : (s.O.length : Int) < 1000000 := by omega
    have hOm' : Hid ((s.O.length : Int) < 1000000) := hOm
    have H1 : Hid (Calls Try.prog 19 #[.pointer (some ⟨p, 0, none⟩), .int .i64 nn, .int .u32 vv] V fun e w' => e = .returned (.tuple #[]) ∧ ∃ F', Dev w' p (writeS s nn vv) F' ∧ Put F V w' ∧ ∀ g ∈ F', g ∈ F ∨ V.heap.size ≤ g) := write_dev A1.dev A1.oks hOm nn vv hvv
    have lt1' : Hid (∀ g ∈ F, g < W.heap.size) := lt1
    have hvv' : Hid (0 ≤ vv ∧ vv < 4294967296) := hvv
    clear A A1 hS hE bs br KV hnn hvv hm lt1 lt2 lt3 lt4 hO hOm
    go_enter Try.func23, Try.ntmps23
    go_wp2_with fail
    rw [← hV.out]
    refine H1.out.mono ?_
    rintro e V1 ⟨rfl, F', d1, P1, f1⟩
    have A2 : Hid _ := hA.out.code P1 d1 f1 (writeS_ok hA.out.oks nn vv hvv'.out)
    obtain ⟨y0, y1, y2, y3⟩ := CSx.out V1 _ P1 lt1'.out
    have H2 : Hid (Calls Try.prog 56 #[.pointer (some ⟨q, 0, none⟩), .int .i64 nn, .int .u32 vv] V1 fun e w' => e = .returned (.tuple #[]) ∧ ∃ G', RDv w' q (writeS s nn vv) (.slice xS E0.length cS) E0 G' ∧ Put G V1 w' ∧ ∀ g ∈ G', g ∈ G ∨ V1.heap.size ≤ g) := rwrite_any A2.out.ref A2.out.okt hOm'.out nn vv hvv'.out
    clear d1 P1 f1 H1 x0 x1 x2 x3 CSx
    go_wp2_with fail
    refine H2.out.mono ?_
    rintro e V2 ⟨rfl, G', d2, P2, g2⟩
    have A3 : Hid _ := A2.out.reff P2 d2 g2 (writeS_ok A2.out.okt nn vv hvv'.out)
    clear d2 P2 g2 H2 A2
    go_wp2_with fail
    go_ret
    exact ⟨rfl, _, B, F', G', A3.out, Nat.le_trans (writeS_O s nn vv) (Nat.succ_le_succ hO1.out)⟩
  have t6 : (kd == 6) = false := by simp [h6]
  clear A A1 hS hE bs br KV hnn hvv hm lt1 lt2 lt3 lt4 CSx hO h0 h1 h2 h3 h4 h5 h6
  go_enter Try.func23, Try.ntmps23
  go_wp2_with fail
  rw [← hV.out]
  go_ret
  exact ⟨rfl, s, B, F, G, hA.out, Nat.le_succ_of_le hO1.out⟩

abbrev zDev : Array Value := #[.bool false, .slice none 0 0, .int .u32 0, .int .u32 0, .slice none 0 0, .slice none 0 0, .slice none 0 0, .int .u32 0, .int .u32 0, .int .u32 0, .int .u32 0, .int .u32 0, .int .u32 0]
theorem size_dev : (Try.prog.info? 65).map (·.size) = some 13 := by kernel_rfl

set_option maxHeartbeats 4000000 in
set_option maxRecDepth 100000 in
theorem vcopy_any {w : World} {p : Nat} {s : DS} {F : List Nat} (h : Dev w p s F) (ok : s.Ok) (hE : s.E.length ≤ 64) (hO : (s.O.length : Int) ≤ 140737488355328) :
    Calls Try.prog 14 #[.pointer (some ⟨p, 0, none⟩)] w fun e w' => ∃ p' F', e = .returned (.pointer (some ⟨p', 0, none⟩)) ∧ Dev w' p' s F' ∧ Kep w w' ∧ ∀ g ∈ F', w.heap.size ≤ g := by
  have HW : (Hid (Calls Try.prog 37 #[.pointer (some ⟨p, 0, none⟩)] w fun e w' => e = .returned (.bool true) ∧ w' = w)) := h.works
  obtain ⟨vs, vq, vo, vb, Fs, Fq, Fo, Fb, D, hF⟩ := h
  have D' : Hid (DevAt w p s vs vq vo vb Fs Fq Fo Fb) := D
  obtain ⟨xs, cs, hvs, hls, _⟩ := D.sc.lies
  obtain ⟨xq, cq, hvq, hlq, _⟩ := D.q.lies
  obtain ⟨xo, co, hvo, hlo, _⟩ := D.o.lies
  obtain ⟨xb, cb, hvb, hlb, _⟩ := D.d.lies
  have D : DevAt w p s _ _ _ _ Fs Fq Fo Fb := D
  subst hvs hvq hvo hvb
  have HE : Hid (∀ w', Kep w w' → Calls Try.prog 31 #[.slice xs s.E.length cs] w' fun e w'' => ∃ v, e = .returned v ∧ w''.ownsRow w'.heap.size 74 3 v s.E.length (evs s.E) ∧ Kep w' w'') := fun w' K => clone_ev w' xs _ cs _ (evs_len _) (hls.kep K) (evs_ones _) (by omega)
  have HQ : Hid (∀ w', Kep w w' → Calls Try.prog 38 #[.slice xq s.Q.length cq] w' fun e w'' => ∃ v, e = .returned v ∧ w''.ownsRow w'.heap.size 5 1 v s.Q.length (byt s.Q) ∧ Kep w' w'') := fun w' K => clone_u8 w' xq _ cq _ (by rw [byt_len]; omega) (hlq.kep K) (byt_ones _) (by have := ok.q; omega)
  have HO : Hid (∀ w', Kep w w' → Calls Try.prog 38 #[.slice xo s.O.length co] w' fun e w'' => ∃ v, e = .returned v ∧ w''.ownsRow w'.heap.size 5 1 v s.O.length (byt s.O) ∧ Kep w' w'') := fun w' K => clone_u8 w' xo _ co _ (by rw [byt_len]; omega) (hlo.kep K) (byt_ones _) (by omega)
  have HB : Hid (∀ w', Kep w w' → Calls Try.prog 39 #[.slice xb (s.D.length / 64) cb] w' fun e w'' => ∃ v, e = .returned v ∧ w''.ownsRow w'.heap.size 90 64 v (s.D.length / 64) (byt s.D) ∧ Kep w' w'') := fun w' K => clone_blk w' xb _ cb _ (by rw [byt_len]; have := ok.d6; omega) (hlb.kep K) (byt_ones _) (by have := ok.d; omega)
  have CW : Hid (∀ w', Kep w w' → w'.cell? ⟨p, 1, none⟩ = some (.slice xs s.E.length cs) ∧ w'.cell? ⟨p, 4, none⟩ = some (.slice xq s.Q.length cq) ∧ w'.cell? ⟨p, 5, none⟩ = some (.slice xo s.O.length co) ∧ w'.cell? ⟨p, 6, none⟩ = some (.slice xb (s.D.length / 64) cb)) := fun w' K => ⟨(D.kep K).c 1, (D.kep K).c 4, (D.kep K).c 5, (D.kep K).c 6⟩
  have hone : Hid (∀ u ∈ (devC s (.slice xs s.E.length cs) (.slice xq s.Q.length cq) (.slice xo s.O.length co) (.slice xb (s.D.length / 64) cb)).toList, u.oneCell' = true) := by unfold Hid; simp [Value.oneCell']
  have lp : p < w.heap.size := block_lt D.box
  have hbx : Hid (w.heap[p]? = some (.cells (devC s (.slice xs s.E.length cs) (.slice xq s.Q.length cq) (.slice xo s.O.length co) (.slice xb (s.D.length / 64) cb)) 65 (0, 0))) := D.box
  have hN : Hid ((w.alloc (.cells #[.bool true, (.slice xs s.E.length cs), .int .u32 s.b, .int .u32 s.m, (.slice xq s.Q.length cq), (.slice xo s.O.length co), (.slice xb (s.D.length / 64) cb), .int .u32 s.n, .int .u32 s.a, .int .u32 s.s, .int .u32 s.k, .int .u32 s.f, .int .u32 s.t] 65)).heap[w.heap.size]? = some (.cells #[.bool true, (.slice xs s.E.length cs), .int .u32 s.b, .int .u32 s.m, (.slice xq s.Q.length cq), (.slice xo s.O.length co), (.slice xb (s.D.length / 64) cb), .int .u32 s.n, .int .u32 s.a, .int .u32 s.s, .int .u32 s.k, .int .u32 s.f, .int .u32 s.t] 65 (0, 0)) ∧ Kep w (w.alloc (.cells #[.bool true, (.slice xs s.E.length cs), .int .u32 s.b, .int .u32 s.m, (.slice xq s.Q.length cq), (.slice xo s.O.length co), (.slice xb (s.D.length / 64) cb), .int .u32 s.n, .int .u32 s.a, .int .u32 s.s, .int .u32 s.k, .int .u32 s.f, .int .u32 s.t] 65))) := ⟨hat _ _ _ rfl, (Kep.refl w).alloc _⟩
  clear D hls hlq hlo hlb hF ok hE hO
  go_enter Try.func14, Try.ntmps14
  go_upto_region 4 with (first
    | (go_at_call 37; refine HW.out.mono ?_; rintro e w1 ⟨rfl, hq⟩; rw [hq]; clear hq)
    | (refine wpList_load_row (by rfl) 65 (.tmp 8) (by rfl) p (by rfl) 65 (devC s (.slice xs s.E.length cs) (.slice xq s.Q.length cq) (.slice xo s.O.length co) (.slice xb (s.D.length / 64) cb)) (0, 0) _ ((hsk _ _ _ lp).trans hbx.out) Try.underlying65 rfl size_dev ?_)
    | (refine wpList_load_row (by rfl) 65 (.tmp 8) (by rfl) p (by rfl) 65 (devC s (.slice xs s.E.length cs) (.slice xq s.Q.length cq) (.slice xo s.O.length co) (.slice xb (s.D.length / 64) cb)) (0, 0) _ hbx.out Try.underlying65 rfl size_dev ?_)
    | (refine wpList_store_row (by rfl) 65 (.tmp 3) (.tmp 9) (by rfl) w.heap.size (devC s (.slice xs s.E.length cs) (.slice xq s.Q.length cq) (.slice xo s.O.length co) (.slice xb (s.D.length / 64) cb)) (by rfl) (by rfl) 65 zDev (hat _ _ _ rfl) size_dev (by rfl) hone.out ?_))
  obtain ⟨hb0, k0⟩ := hN.out
  have B0 : Hid _ := hb0
  have K0 : Hid _ := k0
  clear hb0 k0 hN
  generalize w.alloc (.cells #[.bool true, (.slice xs s.E.length cs), .int .u32 s.b, .int .u32 s.m, (.slice xq s.Q.length cq), (.slice xo s.O.length co), (.slice xb (s.D.length / 64) cb), .int .u32 s.n, .int .u32 s.a, .int .u32 s.s, .int .u32 s.k, .int .u32 s.f, .int .u32 s.t] 65) = W0 at B0 K0 ⊢
  obtain ⟨q, hq⟩ : ∃ q, Hid (q = w.heap.size) := ⟨_, rfl⟩
  rw [← hq.out] at B0 ⊢
  have hqp : q ≠ p := by have := hq.out; omega
  have c1 : W0.cell? ⟨p, 1, none⟩ = some (.slice xs s.E.length cs) := (CW.out W0 K0.out).1
  go_wp2_with fail
  refine (HE.out W0 K0.out).mono ?_
  rintro e V0 ⟨vv0, rfl, o0, k0⟩
  obtain ⟨y0, z0, rfl⟩ := owns_form o0
  obtain ⟨G0, S0', g0'⟩ := Sli.of_owns o0
  have S0 : Hid (Sli V0 74 3 (.slice y0 s.E.length z0) s.E.length (evs s.E) G0) := S0'
  have g0 : Hid (∀ g ∈ G0, W0.heap.size ≤ g) := g0'
  have BV : Hid (V0.heap[q]? = some (.cells (devC s (.slice xs s.E.length cs) (.slice xq s.Q.length cq) (.slice xo s.O.length co) (.slice xb (s.D.length / 64) cb)) 65 (0, 0))) := k0.block B0.out
  have KV : Hid (Kep w V0) := kep_trans K0.out k0
  have kk0 : Hid (Kep W0 V0) := k0
  have zz0 : Hid (w.heap.size ≤ W0.heap.size ∧ q < W0.heap.size) := ⟨K0.out.size, block_lt B0.out⟩
  have d1 : V0.cell? ⟨q, 1, none⟩ = some (.slice xs s.E.length cs) := (cell_of_block BV.out).trans rfl
  have f1 : V0.frozen? ⟨q, 1, none⟩ = false := by simp [World.frozen?, BV.out]
  have PV0 : Hid (Put [q] V0 (V0.setCell ⟨q, 1, none⟩ (.slice y0 s.E.length z0))) := (Put.refl _).setCell (by simp) _
  have B1 : Hid ((V0.setCell ⟨q, 1, none⟩ (.slice y0 s.E.length z0)).heap[q]? = some (.cells (devC s (.slice y0 s.E.length z0) (.slice xq s.Q.length cq) (.slice xo s.O.length co) (.slice xb (s.D.length / 64) cb)) 65 (0, 0))) := box_set BV.out _
  have K1 : Hid (Kep w (V0.setCell ⟨q, 1, none⟩ (.slice y0 s.E.length z0))) := KV.out.setCell (by show w.heap.size ≤ q; rw [hq.out]; exact Nat.le_refl _) _
  clear c1 S0' g0' k0 o0 BV KV
  go_upto_region 5 with fail
  generalize V0.setCell ⟨q, 1, none⟩ (.slice y0 s.E.length z0) = W1 at B1 K1 PV0 ⊢
  clear d1 f1
  have c4 : W1.cell? ⟨p, 4, none⟩ = some (.slice xq s.Q.length cq) := (CW.out W1 K1.out).2.1
  go_wp2_with fail
  refine (HQ.out W1 K1.out).mono ?_
  rintro e V1 ⟨vv1, rfl, o1, k1⟩
  obtain ⟨y1, z1, rfl⟩ := owns_form o1
  obtain ⟨G1, S1', g1'⟩ := Sli.of_owns o1
  have S1 : Hid (Sli V1 5 1 (.slice y1 s.Q.length z1) s.Q.length (byt s.Q) G1) := S1'
  have g1 : Hid (∀ g ∈ G1, W1.heap.size ≤ g) := g1'
  have BV : Hid (V1.heap[q]? = some (.cells (devC s (.slice y0 s.E.length z0) (.slice xq s.Q.length cq) (.slice xo s.O.length co) (.slice xb (s.D.length / 64) cb)) 65 (0, 0))) := k1.block B1.out
  have KV : Hid (Kep w V1) := kep_trans K1.out k1
  have kk1 : Hid (Kep W1 V1) := k1
  have zz1 : Hid (w.heap.size ≤ W1.heap.size ∧ q < W1.heap.size) := ⟨K1.out.size, block_lt B1.out⟩
  have d4 : V1.cell? ⟨q, 4, none⟩ = some (.slice xq s.Q.length cq) := (cell_of_block BV.out).trans rfl
  have f4 : V1.frozen? ⟨q, 4, none⟩ = false := by simp [World.frozen?, BV.out]
  have PV1 : Hid (Put [q] V1 (V1.setCell ⟨q, 4, none⟩ (.slice y1 s.Q.length z1))) := (Put.refl _).setCell (by simp) _
  have B2 : Hid ((V1.setCell ⟨q, 4, none⟩ (.slice y1 s.Q.length z1)).heap[q]? = some (.cells (devC s (.slice y0 s.E.length z0) (.slice y1 s.Q.length z1) (.slice xo s.O.length co) (.slice xb (s.D.length / 64) cb)) 65 (0, 0))) := box_set BV.out _
  have K2 : Hid (Kep w (V1.setCell ⟨q, 4, none⟩ (.slice y1 s.Q.length z1))) := KV.out.setCell (by show w.heap.size ≤ q; rw [hq.out]; exact Nat.le_refl _) _
  clear c4 S1' g1' k1 o1 BV KV
  go_upto_region 6 with fail
  generalize V1.setCell ⟨q, 4, none⟩ (.slice y1 s.Q.length z1) = W2 at B2 K2 PV1 ⊢
  clear d4 f4
  have c5 : W2.cell? ⟨p, 5, none⟩ = some (.slice xo s.O.length co) := (CW.out W2 K2.out).2.2.1
  go_wp2_with fail
  refine (HO.out W2 K2.out).mono ?_
  rintro e V2 ⟨vv2, rfl, o2, k2⟩
  obtain ⟨y2, z2, rfl⟩ := owns_form o2
  obtain ⟨G2, S2', g2'⟩ := Sli.of_owns o2
  have S2 : Hid (Sli V2 5 1 (.slice y2 s.O.length z2) s.O.length (byt s.O) G2) := S2'
  have g2 : Hid (∀ g ∈ G2, W2.heap.size ≤ g) := g2'
  have BV : Hid (V2.heap[q]? = some (.cells (devC s (.slice y0 s.E.length z0) (.slice y1 s.Q.length z1) (.slice xo s.O.length co) (.slice xb (s.D.length / 64) cb)) 65 (0, 0))) := k2.block B2.out
  have KV : Hid (Kep w V2) := kep_trans K2.out k2
  have kk2 : Hid (Kep W2 V2) := k2
  have zz2 : Hid (w.heap.size ≤ W2.heap.size ∧ q < W2.heap.size) := ⟨K2.out.size, block_lt B2.out⟩
  have d5 : V2.cell? ⟨q, 5, none⟩ = some (.slice xo s.O.length co) := (cell_of_block BV.out).trans rfl
  have f5 : V2.frozen? ⟨q, 5, none⟩ = false := by simp [World.frozen?, BV.out]
  have PV2 : Hid (Put [q] V2 (V2.setCell ⟨q, 5, none⟩ (.slice y2 s.O.length z2))) := (Put.refl _).setCell (by simp) _
  have B3 : Hid ((V2.setCell ⟨q, 5, none⟩ (.slice y2 s.O.length z2)).heap[q]? = some (.cells (devC s (.slice y0 s.E.length z0) (.slice y1 s.Q.length z1) (.slice y2 s.O.length z2) (.slice xb (s.D.length / 64) cb)) 65 (0, 0))) := box_set BV.out _
  have K3 : Hid (Kep w (V2.setCell ⟨q, 5, none⟩ (.slice y2 s.O.length z2))) := KV.out.setCell (by show w.heap.size ≤ q; rw [hq.out]; exact Nat.le_refl _) _
  clear c5 S2' g2' k2 o2 BV KV
  go_upto_region 7 with fail
  generalize V2.setCell ⟨q, 5, none⟩ (.slice y2 s.O.length z2) = W3 at B3 K3 PV2 ⊢
  clear d5 f5
  have c6 : W3.cell? ⟨p, 6, none⟩ = some (.slice xb (s.D.length / 64) cb) := (CW.out W3 K3.out).2.2.2
  go_wp2_with fail
  refine (HB.out W3 K3.out).mono ?_
  rintro e V3 ⟨vv3, rfl, o3, k3⟩
  obtain ⟨y3, z3, rfl⟩ := owns_form o3
  obtain ⟨G3, S3', g3'⟩ := Sli.of_owns o3
  have S3 : Hid (Sli V3 90 64 (.slice y3 (s.D.length / 64) z3) (s.D.length / 64) (byt s.D) G3) := S3'
  have g3 : Hid (∀ g ∈ G3, W3.heap.size ≤ g) := g3'
  have BV : Hid (V3.heap[q]? = some (.cells (devC s (.slice y0 s.E.length z0) (.slice y1 s.Q.length z1) (.slice y2 s.O.length z2) (.slice xb (s.D.length / 64) cb)) 65 (0, 0))) := k3.block B3.out
  have KV : Hid (Kep w V3) := kep_trans K3.out k3
  have kk3 : Hid (Kep W3 V3) := k3
  have zz3 : Hid (w.heap.size ≤ W3.heap.size ∧ q < W3.heap.size) := ⟨K3.out.size, block_lt B3.out⟩
  have d6 : V3.cell? ⟨q, 6, none⟩ = some (.slice xb (s.D.length / 64) cb) := (cell_of_block BV.out).trans rfl
  have f6 : V3.frozen? ⟨q, 6, none⟩ = false := by simp [World.frozen?, BV.out]
  have PV3 : Hid (Put [q] V3 (V3.setCell ⟨q, 6, none⟩ (.slice y3 (s.D.length / 64) z3))) := (Put.refl _).setCell (by simp) _
  have B4 : Hid ((V3.setCell ⟨q, 6, none⟩ (.slice y3 (s.D.length / 64) z3)).heap[q]? = some (.cells (devC s (.slice y0 s.E.length z0) (.slice y1 s.Q.length z1) (.slice y2 s.O.length z2) (.slice y3 (s.D.length / 64) z3)) 65 (0, 0))) := box_set BV.out _
  have K4 : Hid (Kep w (V3.setCell ⟨q, 6, none⟩ (.slice y3 (s.D.length / 64) z3))) := KV.out.setCell (by show w.heap.size ≤ q; rw [hq.out]; exact Nat.le_refl _) _
  clear c6 S3' g3' k3 o3 BV KV
  go_upto_region 8 with fail
  generalize V3.setCell ⟨q, 6, none⟩ (.slice y3 (s.D.length / 64) z3) = W4 at B4 K4 PV3 ⊢
  clear d6 f6
  go_wp2_with fail
  go_ret
  have n0 : q ∉ G0 := fun hm => by have := g0.out q hm; have := zz0.out.2; omega
  have n1 : q ∉ G1 := fun hm => by have := g1.out q hm; have := zz1.out.2; omega
  have n2 : q ∉ G2 := fun hm => by have := g2.out q hm; have := zz2.out.2; omega
  have n3 : q ∉ G3 := fun hm => by have := g3.out q hm; have := zz3.out.2; omega
  have np : ∀ {G : List Nat}, q ∉ G → ∀ g ∈ G, g ∉ [q] := fun hG g hg h => by simp at h; subst h; exact hG hg
  have T0 := S0.out.put PV0.out (np n0)
  have T1 := S1.out.put PV1.out (np n1)
  have T2 := S2.out.put PV2.out (np n2)
  have T3 := S3.out.put PV3.out (np n3)
  have T0' := (((((T0.kep kk1.out).put PV1.out (np n0)).kep kk2.out).put PV2.out (np n0)).kep kk3.out).put PV3.out (np n0)
  have T1' := (((T1.kep kk2.out).put PV2.out (np n1)).kep kk3.out).put PV3.out (np n1)
  have T2' := (T2.kep kk3.out).put PV3.out (np n2)
  have l0 : ∀ g ∈ G0, g < W1.heap.size := T0.lt
  have l1 : ∀ g ∈ G1, g < W2.heap.size := T1.lt
  have l2 : ∀ g ∈ G2, g < W3.heap.size := T2.lt
  have s1 : W1.heap.size ≤ W2.heap.size := Nat.le_trans kk1.out.size PV1.out.size
  have s2 : W2.heap.size ≤ W3.heap.size := Nat.le_trans kk2.out.size PV2.out.size
  have h1 := g1.out
  have h2 := g2.out
  have h3 := g3.out
  refine ⟨q, q :: (G0 ++ (G1 ++ (G2 ++ G3))), rfl, ⟨_, _, _, _, G0, G1, G2, G3, ⟨B4.out, T0', T1', T2', T3, n0, n1, n2, n3, fun g a b => by have := l0 g a; have := h1 g b; omega, fun g a b => by have := l0 g a; have := h2 g b; omega, fun g a b => by have := l0 g a; have := h3 g b; omega, fun g a b => by have := l1 g a; have := h2 g b; omega, fun g a b => by have := l1 g a; have := h3 g b; omega, fun g a b => by have := l2 g a; have := h3 g b; omega⟩, rfl⟩, K4.out, fun g hg => ?_⟩
  simp only [List.mem_cons, List.mem_append] at hg
  rcases hg with h | h | h | h | h
  · rw [h, hq.out]; exact Nat.le_refl _
  · exact Nat.le_trans zz0.out.1 (g0.out g h)
  · exact Nat.le_trans zz1.out.1 (h1 g h)
  · exact Nat.le_trans zz2.out.1 (h2 g h)
  · exact Nat.le_trans zz3.out.1 (h3 g h)

theorem RDv.off {w : World} {p : Nat} {s : DS} {vS : Value} {E0 : List Ev} {F : List Nat} (h : RDv w p s vS E0 F) {v : Value} {R : Nat} {ix : List Nat} (hr : Ram w v R ix) : Off w v F := by
  obtain ⟨c, k, f, t, vq, vo, vd, Fq, Fo, Fd, D, rfl⟩ := h
  have h0 : Off w v [p] := off_tag hr D.box (by decide) (by decide)
  exact (h0.app ((D.q.off hr (by decide) (by decide)).app ((D.o.off hr (by decide) (by decide)).app (D.d.off hr (by decide) (by decide))))).sub (by simp)
theorem pka_start {w w5 w7 W : World} {p q : Nat} {s : DS} {vS : Value} {E0 : List Ev} {pr R Rb : Nat} {B : List Int} {F G : List Nat} (K5 : Kep w w5) (d : Dev w5 p s F) (hF : ∀ g ∈ F, w.heap.size ≤ g) (ok : s.Ok) (K7 : Kep w5 w7) (T : Two w7 (.pointer (some ⟨pr, 0, none⟩)) R 5 (some ⟨Rb, 0, none⟩) Rb B) (hR : w5.heap.size ≤ R) (hRb : w5.heap.size ≤ Rb)
    (K8 : Kep (w7.alloc (ramC Rb)) W) (r : RDv W q s vS E0 G) (hG : ∀ g ∈ G, (w7.alloc (ramC Rb)).heap.size ≤ g) : PKA w p q s s vS E0 pr R Rb w7.heap.size (ramC Rb) B B W F G := by
  have k1 : Kep w7 W := kep_trans ((Kep.refl w7).alloc _) K8
  have k2 : Kep w5 W := kep_trans K7 k1
  have s5 := K5.size
  have s7 := K7.size
  have lB : B.length = 320 := T.len
  have lR := T.lR
  have lRb := T.lRb
  have hl := d.lt
  have hr := T.ram.kep k1
  have hG' : ∀ g ∈ G, w7.heap.size + 1 ≤ g := fun g hg => by have := hG g hg; rw [World.size_alloc] at this; exact this
  have hoRb : Off W (.pointer (some ⟨pr, 0, none⟩)) [Rb] := (Off.stay (m := []) T.ram T.off (Put.of_kep k1) (fun p e => ⟨by simp, by simp⟩)).sub (by simp)
  have ho : Off W (.pointer (some ⟨pr, 0, none⟩)) (Rb :: (F ++ G)) := (hoRb.app (((d.kep k2).off hr).app (r.off hr))).sub (by simp)
  refine ⟨d.kep k2, r, ok, ok, .inr ⟨ne320 lB, ⟨hr, T.row.kep k1, fits_range T.len, T.byts, by decide⟩, ⟨ho, fun hm => ?_⟩⟩, T.ref.row.kep k1, lB, lB, T.byts, kep_trans K5 k2, fun g hg => ⟨hF g hg, ?_, fun hm => ?_⟩, fun g hg => ⟨?_, ?_⟩, by omega, by omega, K8.block (hat _ _ _ rfl), by omega, by omega, fun hm => ?_, fun hm => ?_⟩
  · simp only [List.mem_cons, List.mem_append] at hm
    rcases hm with h | h | h
    · exact T.ne h
    · have := hl R h; omega
    · have := hG' R h; omega
  · have := hl g hg; omega
  · have := hl g hg; have := hG' g hm; omega
  · have := hG' g hg; omega
  · have := hG' g hg; omega
  · have := hl _ hm; omega
  · have := hG' _ hm; omega
/-- What went out, and the disk, by the document. -/
theorem RDv.outs {w : World} {p : Nat} {s : DS} {vS : Value} {E0 : List Ev} {F : List Nat} (h : RDv w p s vS E0 F) : ∃ vo vd, w.cell? ⟨p, 5, none⟩ = some vo ∧ w.cell? ⟨p, 6, none⟩ = some vd ∧ Str w vo (strL s.O) ∧ Str w vd (strL s.D) := by
  obtain ⟨c, k, f, t, vq, vo, vd, Fq, Fo, Fd, D, _⟩ := h
  exact ⟨vo, vd, D.c' 5, D.c' 6, D.o.str, D.d.str⟩
theorem Two.of_pka {w : World} {p q : Nat} {s t : DS} {vS : Value} {E0 : List Ev} {pr R Rb gb : Nat} {ob : Obj} {B : List Int} {W : World} {F G : List Nat} (A : PKA w p q s t vS E0 pr R Rb gb ob B B W F G) : Two W (.pointer (some ⟨pr, 0, none⟩)) R 5 (some ⟨Rb, 0, none⟩) Rb B := by
  have far := A.mem.farB (ne320 A.lB)
  have M := A.mk5
  exact ⟨M.ram, M.row, ⟨A.row, fun _ => rfl, by have := A.lB; omega⟩, A.lB, M.byts, fun e => far.row (by simp [e]), by decide, off_of M.ram A.row (ne320 A.lB), M.row.lt (ne320 A.lB), A.lrb⟩

end Go.Proofs.Ytpieeefeicdfgaa
