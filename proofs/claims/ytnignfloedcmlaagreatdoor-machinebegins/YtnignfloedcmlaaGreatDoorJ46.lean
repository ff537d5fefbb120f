/- Part of a proof. -/
import Derived.ChangeKeysEq
import Derived.Deep.RegionHeld3
import Derived.Test.YtnignfloedcmlaaGreatDoorJ45
namespace Go.Proofs.YtnignfloedcmlaaGreatDoor
open Go.RowKit
set_option linter.unusedVariables false
set_option linter.unusedSimpArgs false
theorem info_note : (Tryz.prog.info? 76).map (fun i => (i.zero, i.size, i.bytes)) = some (some (.agg #[.int .i64 0, .int .i64 0, .int .u32 0, .int .u32 0]), 4, 24) := by kernel_rfl
theorem nts_one (N : List Nt) : ∀ u ∈ nts N, u.oneCell' = true := by
  intro u hu
  obtain ⟨e, _, he⟩ := List.mem_flatMap.1 hu
  simp only [ntV, List.mem_cons, List.not_mem_nil, or_false] at he
  rcases he with rfl | rfl | rfl | rfl <;> rfl
set_option maxHeartbeats 1000000 in
theorem clone_note (w : World) (x : Option Addr) (n cap : Nat) (xs : List Value) (hl : xs.length = n * 4) (h : Lies w x xs) (h1 : ∀ u ∈ xs, u.oneCell' = true) (hn : (n : Int) * 24 ≤ 140737488355328) :
    Calls Tryz.prog 35 #[.slice x n cap] w fun e w' => ∃ v, e = .returned v ∧ w'.ownsRow w.heap.size 76 4 v n xs ∧ Kep w w' := by
  obtain ⟨i0, hi, hz0, hz1, hz2⟩ := info_parts info_note
  cases x with
  | none =>
    have hq : ∀ w, (binOp .eql 51 (.slice none n cap) (.slice none 0 0)).run Tryz.prog w = .ok (.bool true) w := eqnil _ _ _ none n cap Tryz.underlying51
    have hx : xs = [] := by rcases h with h | ⟨_, _, e, _⟩; exact h; cases e
    subst hx
    have hn0 : n = 0 := by simp at hl; omega
    subst hn0
    clear hl h1 h hn
    go_enter Tryz.func35, Tryz.ntmps35
    go_wp2
    go_ret
    exact ⟨_, rfl, World.ownsRow_nil _ _ _ _, Kep.refl _⟩
  | some ad =>
    have hq : ∀ w, (binOp .eql 51 (.slice (some ad) n cap) (.slice none 0 0)).run Tryz.prog w = .ok (.bool false) w := eqnil _ _ _ (some ad) n cap Tryz.underlying51
    have hs : Hid (∀ j u, xs[j]? = some u → (w.alloc (.cells #[] 76)).cell? (ad.add j) = some u) := fun j u hj => by
      rcases (h.kep ((Kep.refl w).alloc (.cells #[] 76))) with rfl | ⟨b, off, e, _, hc⟩
      · simp at hj
      · cases e; rw [Addr.add_lit]; exact hc j u hj
    have hl' : Hid (xs.length = n * 4) := hl
    have h1' : Hid (∀ u ∈ xs, u.oneCell' = true) := h1
    clear h hl h1
    go_enter Tryz.func35, Tryz.ntmps35
    go_wp2_with (at_builtin; refine wpList_append_own _ rfl _ _ 51 rfl w.heap.size 76 i0 _ 4 24 Tryz.underlying51 hi hz0 hz1 hz2 rfl (by decide) (.slice (some ⟨w.heap.size, 0, none⟩) 0 0) 0 [] rfl (World.ownsRow_made w #[] 0 (Nat.le_refl _) (by simp) (by simp)) ad n cap xs rfl hl'.out hs.out h1'.out (by unfold maxLen; omega) (by omega) (by simp) ?_; intro v' w1 hown hgrow _)
    go_ret
    refine ⟨_, rfl, by simpa using hown, ((Kep.refl w).alloc _).by hgrow ?_⟩
    intro k hk
    simp [Value.ownBlock] at hk; omega
theorem msteps_any {w : World} {p pm R : Nat} {ix : List Nat} {x : MS} {G : List Nat} (H : Mach w p pm R ix x G) :
    Calls Tryz.prog 17 #[.pointer (some ⟨p, 0, none⟩)] w fun e w' => e = .returned (.int .i64 x.n) ∧ w' = w := by
  have HW := hidd H.works
  obtain ⟨q, vn, Fd, Fn, H, _⟩ := H
  have c1 : w.cell? ⟨p, 21, none⟩ = some (.int .i64 x.n) := H.box.cn
  clear H
  go_enter Tryz.func17, Tryz.ntmps17
  go_wp2_with (go_at_call 32; refine HW.out.mono ?_; rintro e w1 ⟨rfl, rfl⟩)
  go_ret
  exact ⟨rfl, rfl⟩
theorem mram_any {w : World} {p pm R : Nat} {ix : List Nat} {x : MS} {G : List Nat} (H : Mach w p pm R ix x G) :
    Calls Tryz.prog 21 #[.pointer (some ⟨p, 0, none⟩)] w fun e w' => e = .returned (mpt pm) ∧ w' = w := by
  have HW := hidd H.works
  obtain ⟨q, vn, Fd, Fn, H, _⟩ := H
  have c1 : w.cell? ⟨p, 0, none⟩ = some (mpt pm) := H.box.cm
  clear H
  go_enter Tryz.func21, Tryz.ntmps21
  go_wp2_with (go_at_call 32; refine HW.out.mono ?_; rintro e w1 ⟨rfl, rfl⟩)
  go_ret
  exact ⟨rfl, rfl⟩
theorem mdisk_any {w : World} {p pm R : Nat} {ix : List Nat} {x : MS} {G : List Nat} (H : Mach w p pm R ix x G) (ok : x.Ok) :
    Calls Tryz.prog 18 #[.pointer (some ⟨p, 0, none⟩)] w fun e w' => ∃ v, e = .returned v ∧ OwnB w w' v x.d.D ∧ Kep w w' := by
  have HW := hidd H.works
  obtain ⟨q, vn, Fd, Fn, H, _⟩ := H
  have c1 : w.cell? ⟨p, 1, none⟩ = some (.pointer (some ⟨q, 0, none⟩)) := H.box.cd
  have HO := hidd (disk_any H.dev ok.d)
  clear H ok
  go_enter Tryz.func18, Tryz.ntmps18
  go_wp2_with (first
    | (go_at_call 32; refine HW.out.mono ?_; rintro e w1 ⟨rfl, rfl⟩)
    | (go_at_call 34; refine HO.out.mono ?_; rintro e w2 ⟨v, rfl, o2, k2⟩))
  go_ret
  exact ⟨v, rfl, o2, k2⟩
def OwnT (w w' : World) (v : Value) (N : List Nt) : Prop := ∃ G, Sli w' 76 4 v N.length (nts N) G ∧ ∀ g ∈ G, w.heap.size ≤ g
theorem mnotes_any {w : World} {p pm R : Nat} {ix : List Nat} {x : MS} {G : List Nat} (H : Mach w p pm R ix x G) (hN : (x.N.length : Int) ≤ 5000000000) :
    Calls Tryz.prog 20 #[.pointer (some ⟨p, 0, none⟩)] w fun e w' => ∃ v, e = .returned v ∧ OwnT w w' v x.N ∧ Kep w w' := by
  have HW := hidd H.works
  obtain ⟨q, vn, Fd, Fn, H, _⟩ := H
  have c1 : w.cell? ⟨p, 22, none⟩ = some vn := H.box.cN
  obtain ⟨xv, cv, rfl, hl, _⟩ := H.nts.lies
  have HC := hidd (clone_note w xv x.N.length cv (nts x.N) (nts_len x.N) hl (nts_one x.N) (by omega))
  clear H hl hN
  go_enter Tryz.func20, Tryz.ntmps20
  go_wp2_with (first
    | (go_at_call 32; refine HW.out.mono ?_; rintro e w1 ⟨rfl, rfl⟩)
    | (go_at_call 35; refine HC.out.mono ?_; rintro e w2 ⟨v, rfl, o2, k2⟩))
  go_ret
  obtain ⟨G, s, hG⟩ := Sli.of_owns o2
  exact ⟨v, rfl, ⟨G, s, hG⟩, k2⟩
theorem fields_same {P : Program} (w : World) (d : Nat) (xs : Array Value) : ∀ (fs : List Field), (∀ f ∈ fs, ∃ v, (Go.part f.type xs f.offset).run P w = .ok v w ∧ (Op.equalIn d f.type v v).run P w = .ok true w) → (Op.eqFields d xs xs fs).run P w = .ok true w
  | [], _ => by simp [Op.eqFields]
  | f :: fs, h => by
    obtain ⟨v, h1, h2⟩ := h f (by simp)
    have ih := fields_same w d xs fs (fun g hg => h g (by simp [hg]))
    simp only [Op.eqFields]
    split
    · simp only [Sem.run_bind, h1, h2, Result.andThen_ok, Bool.not_true, Bool.false_eq_true, if_false]
      exact ih
    · exact ih
theorem items_same {P : Program} (w : World) (d : Nat) (e : TypeId) (k : IntKind) (c : Nat) (xs : Array Value) (hu : P.underlying e = some (.int k)) : ∀ (is : List Nat), (∀ i ∈ is, ∃ a, (Go.part e xs (i * c)).run P w = .ok (.int k a) w) → (Op.eqItems (d + 1) e c xs xs is).run P w = .ok true w
  | [], _ => by simp [Op.eqItems]
  | i :: is, h => by
    obtain ⟨a, h1⟩ := h i (by simp)
    have ih := items_same w d e k c xs hu is (fun g hg => h g (by simp [hg]))
    simp only [Op.eqItems, Sem.run_bind, h1, Result.andThen_ok, run_equalIn_int w d e k k a a hu, beq_self_eq_true, Bool.not_true, Bool.false_eq_true, if_false]
    exact ih
theorem arr8_same (a0 a1 a2 a3 a4 a5 a6 a7 : Int) (w : World) : (Op.equalIn 9999 24 (.agg #[.int .u32 a0, .int .u32 a1, .int .u32 a2, .int .u32 a3, .int .u32 a4, .int .u32 a5, .int .u32 a6, .int .u32 a7]) (.agg #[.int .u32 a0, .int .u32 a1, .int .u32 a2, .int .u32 a3, .int .u32 a4, .int .u32 a5, .int .u32 a6, .int .u32 a7])).run Tryz.prog w = .ok true w := by
  obtain ⟨i, hi⟩ : ∃ i, Tryz.prog.info? 23 = some i := Option.isSome_iff_exists.1 (by kernel_rfl)
  have e := run_equalIn_array (P := Tryz.prog) w 9998 #[.int .u32 a0, .int .u32 a1, .int .u32 a2, .int .u32 a3, .int .u32 a4, .int .u32 a5, .int .u32 a6, .int .u32 a7] #[.int .u32 a0, .int .u32 a1, .int .u32 a2, .int .u32 a3, .int .u32 a4, .int .u32 a5, .int .u32 a6, .int .u32 a7] Tryz.underlying24 hi
  rw [e]
  refine items_same w 9997 23 .u32 _ _ Tryz.underlying23 _ (fun i hm => ?_)
  have hc : Tryz.prog.cellsOf 23 = 1 := by kernel_rfl
  rw [hc]
  have h8 : i < 8 := by simpa using hm
  rcases (by omega : i = 0 ∨ i = 1 ∨ i = 2 ∨ i = 3 ∨ i = 4 ∨ i = 5 ∨ i = 6 ∨ i = 7) with rfl | rfl | rfl | rfl | rfl | rfl | rfl | rfl
  · exact ⟨a0, by kernel_rfl⟩
  · exact ⟨a1, by kernel_rfl⟩
  · exact ⟨a2, by kernel_rfl⟩
  · exact ⟨a3, by kernel_rfl⟩
  · exact ⟨a4, by kernel_rfl⟩
  · exact ⟨a5, by kernel_rfl⟩
  · exact ⟨a6, by kernel_rfl⟩
  · exact ⟨a7, by kernel_rfl⟩
theorem sta_same (s : Sta) (w : World) : (Op.equalIn 10000 26 (.agg s.v) (.agg s.v)).run Tryz.prog w = .ok true w := by
  rw [run_equalIn_agg (P := Tryz.prog) w 9999 26 s.v s.v (by kernel_rfl) (by kernel_rfl)]
  refine fields_same w 9999 s.v _ (fun f hf => ?_)
  have hall : ((Tryz.prog.fieldsOf 26).toList.all fun f => (f.type == 24 && f.offset == 0) || (f.type == 23 && f.offset == 8) || (f.type == 23 && f.offset == 9) || (f.type == 24 && f.offset == 10) || (f.type == 4 && f.offset == 18)) = true := by kernel_rfl
  have h := List.all_eq_true.1 hall f hf
  simp only [Bool.or_eq_true, Bool.and_eq_true, beq_iff_eq] at h
  rcases h with (((⟨h1, h2⟩ | ⟨h1, h2⟩) | ⟨h1, h2⟩) | ⟨h1, h2⟩) | ⟨h1, h2⟩
  all_goals rw [h1, h2]
  · exact ⟨.agg #[.int .u32 (s.r 0), .int .u32 (s.r 1), .int .u32 (s.r 2), .int .u32 (s.r 3), .int .u32 (s.r 4), .int .u32 (s.r 5), .int .u32 (s.r 6), .int .u32 (s.r 7)], by kernel_rfl, arr8_same _ _ _ _ _ _ _ _ w⟩
  · exact ⟨.int .u32 s.pc, by kernel_rfl, by rw [run_equalIn_int w 9998 _ _ _ _ _ Tryz.underlying23]; simp⟩
  · exact ⟨.int .u32 s.ps, by kernel_rfl, by rw [run_equalIn_int w 9998 _ _ _ _ _ Tryz.underlying23]; simp⟩
  · exact ⟨.agg #[.int .u32 (s.c 0), .int .u32 (s.c 1), .int .u32 (s.c 2), .int .u32 (s.c 3), .int .u32 (s.c 4), .int .u32 (s.c 5), .int .u32 (s.c 6), .int .u32 (s.c 7)], by kernel_rfl, arr8_same _ _ _ _ _ _ _ _ w⟩
  · exact ⟨.bool s.h, by kernel_rfl, by rw [run_equalIn_bool' w 9998 _ _ _ Tryz.underlying4]; simp⟩
theorem wpAnyH_to {P : Program} {ops : Array Oper} {Q : Exit → Act → World → Prop} {md : Region.Mode} {S S' : World → Prop} (hS : ∀ w, S' w → S w) : ∀ {fuel : Nat} {listed : Array Bool} {a : Act} {w : World}, wpAnyH P md ops Q S' fuel listed a w → wpAnyH P md ops Q S fuel listed a w
  | 0, _, _, _, h => h
  | fuel + 1, _, _, _, h => ⟨h.1, fun i hi => wpOp_mono (fun a' w' h' => ⟨hS w' h'.1, wpAnyH_to hS h'.2⟩) (h.2 i hi)⟩
theorem nt_same (a b c d : Int) (w : World) : (Op.equalIn 10000 76 (.agg #[.int .i64 a, .int .i64 b, .int .u32 c, .int .u32 d]) (.agg #[.int .i64 a, .int .i64 b, .int .u32 c, .int .u32 d])).run Tryz.prog w = .ok true w := by
  rw [run_equalIn_agg (P := Tryz.prog) w 9999 76 _ _ (by kernel_rfl) (by kernel_rfl)]
  refine fields_same w 9999 _ _ (fun f hf => ?_)
  have hall : ((Tryz.prog.fieldsOf 76).toList.all fun f => (f.type == 3 && f.offset == 0) || (f.type == 3 && f.offset == 1) || (f.type == 23 && f.offset == 2) || (f.type == 23 && f.offset == 3)) = true := by kernel_rfl
  have h := List.all_eq_true.1 hall f hf
  simp only [Bool.or_eq_true, Bool.and_eq_true, beq_iff_eq] at h
  rcases h with ((⟨h1, h2⟩ | ⟨h1, h2⟩) | ⟨h1, h2⟩) | ⟨h1, h2⟩
  all_goals rw [h1, h2]
  · exact ⟨.int .i64 a, by kernel_rfl, by rw [run_equalIn_int w 9998 _ _ _ _ _ Tryz.underlying3]; simp⟩
  · exact ⟨.int .i64 b, by kernel_rfl, by rw [run_equalIn_int w 9998 _ _ _ _ _ Tryz.underlying3]; simp⟩
  · exact ⟨.int .u32 c, by kernel_rfl, by rw [run_equalIn_int w 9998 _ _ _ _ _ Tryz.underlying23]; simp⟩
  · exact ⟨.int .u32 d, by kernel_rfl, by rw [run_equalIn_int w 9998 _ _ _ _ _ Tryz.underlying23]; simp⟩
set_option maxHeartbeats 2000000 in
theorem notes12_same (w : World) (x y : Option Addr) (c d : Nat) (N : List Nt) (hN : (N.length : Int) ≤ 900000) (hx : Lies w x (nts N)) (hy : Lies w y (nts N)) :
    Calls Tryz.prog 19 #[.slice x N.length c, .slice y N.length d] w fun e w' => e = .returned (.bool true) ∧ Kep w w' := by
  have hx' : Hid (Lies w x (nts N)) := hx
  have hy' : Hid (Lies w y (nts N)) := hy
  have hs := @nt_same
  obtain ⟨n, hn⟩ : ∃ n, Hid (N.length = n) := ⟨_, rfl⟩
  rw [hn.out] at hN
  rw [hn.out]
  clear hx hy
  go_enter Tryz.func19, Tryz.ntmps19
  go_wp2_with fail
  go_loopw [5] (fun i wr => ∃ k : Nat, (k : Int) ≤ n ∧ i = .int .i64 k ∧ Hid (Kep w wr)) (fun i _ => n - (intOf i).toNat)
  case atStart => exact ⟨0, by omega, rfl, Kep.refl _⟩
  case round =>
    obtain ⟨k, hk, rfl, K⟩ := hrel
    by_cases hlt : k < n
    · have hkN : k < N.length := by rw [hn.out]; exact hlt
      obtain ⟨e, he⟩ : ∃ e, N[k]? = some e := ⟨_, List.getElem?_eq_getElem hkN⟩
      have hne : nts N ≠ [] := fun e => by have := congrArg List.length e; rw [nts_len] at this; simp at this; omega
      obtain ⟨R, o, rfl, _, hc⟩ := (hx'.out.kep K.out).resolve_left hne
      obtain ⟨S, u, rfl, _, hd⟩ := (hy'.out.kep K.out).resolve_left hne
      have at_ : ∀ j, j < 4 → (nts N)[k * 4 + j]? = (ntV e)[j]? := fun j hj => nts_at N k e he j hj
      have c0 : wr.cell? ⟨R, o + k * 4, none⟩ = some (.int .i64 e.1) := hc _ _ (at_ 0 (by omega))
      have c1 : wr.cell? ⟨R, o + k * 4 + 1, none⟩ = some (.int .i64 e.2.1) := hc _ _ (at_ 1 (by omega))
      have c2 : wr.cell? ⟨R, o + k * 4 + 2, none⟩ = some (.int .u32 e.2.2.1) := hc _ _ (at_ 2 (by omega))
      have c3 : wr.cell? ⟨R, o + k * 4 + 3, none⟩ = some (.int .u32 e.2.2.2) := hc _ _ (at_ 3 (by omega))
      have d0 : wr.cell? ⟨S, u + k * 4, none⟩ = some (.int .i64 e.1) := hd _ _ (at_ 0 (by omega))
      have d1 : wr.cell? ⟨S, u + k * 4 + 1, none⟩ = some (.int .i64 e.2.1) := hd _ _ (at_ 1 (by omega))
      have d2 : wr.cell? ⟨S, u + k * 4 + 2, none⟩ = some (.int .u32 e.2.2.1) := hd _ _ (at_ 2 (by omega))
      have d3 : wr.cell? ⟨S, u + k * 4 + 3, none⟩ = some (.int .u32 e.2.2.2) := hd _ _ (at_ 3 (by omega))
      clear hc hd hx' hy' at_ he hne
      generalize e.1 = e0 at *
      generalize e.2.1 = e1 at *
      generalize e.2.2.1 = e2 at *
      generalize e.2.2.2 = e3 at *
      have hlt' : (k : Int) < n := by omega
      have hq := hs e0 e1 e2 e3
      clear hs
      go_wp2_with fail
      go_region
      all_goals
        go_wp2_with fail
        go_roundw
        case rel => exact ⟨k + 1, by omega, by go_num, K.out.drew⟩
        case measure => simp [intOf]; omega
    · obtain rfl : k = n := by omega
      clear hs
      go_wp2_with fail
      go_ret
      exact ⟨rfl, K.out⟩
abbrev rdC (s : DS) (vS : Value) (c : Nat) (k f t : Int) (vq vo vd : Value) : Array Value := #[vS, .int .i64 c, .int .u32 s.b, .int .u32 s.m, vq, vo, vd, .int .u32 s.n, .int .u32 s.a, .int .u32 s.s, .int .u32 k, .int .u32 f, .int .u32 t]
structure RDAt (w : World) (p : Nat) (s : DS) (vS : Value) (E0 : List Ev) (c : Nat) (k f t : Int) (vq vo vd : Value) (Fq Fo Fd : List Nat) : Prop where
  box : w.heap[p]? = some (.cells (rdC s vS c k f t vq vo vd) 56 (0, 0))
  q : Sli w 5 1 vq s.Q.length (byt s.Q) Fq
  o : Sli w 5 1 vo s.O.length (byt s.O) Fo
  d : Sli w 5 1 vd s.D.length (byt s.D) Fd
  E : s.E = E0.drop c
  lc : c ≤ E0.length
  cmd : s.s = 1 → k = s.k ∧ f = s.f ∧ t = s.t
  pq : p ∉ Fq
  po : p ∉ Fo
  pd : p ∉ Fd
  qo : ∀ g ∈ Fq, g ∉ Fo
  qd : ∀ g ∈ Fq, g ∉ Fd
  od : ∀ g ∈ Fo, g ∉ Fd
def RDv (w : World) (p : Nat) (s : DS) (vS : Value) (E0 : List Ev) (F : List Nat) : Prop := ∃ c k f t vq vo vd Fq Fo Fd, RDAt w p s vS E0 c k f t vq vo vd Fq Fo Fd ∧ F = p :: (Fq ++ (Fo ++ Fd))
theorem RDAt.put {w w' : World} {p : Nat} {s : DS} {vS : Value} {E0 : List Ev} {c : Nat} {k f t : Int} {vq vo vd : Value} {Fq Fo Fd l : List Nat} (h : RDAt w p s vS E0 c k f t vq vo vd Fq Fo Fd) (P : Put l w w') (hl : ∀ g ∈ p :: (Fq ++ (Fo ++ Fd)), g ∉ l) : RDAt w' p s vS E0 c k f t vq vo vd Fq Fo Fd :=
  ⟨P.keeps h.box (hl p (by simp)), h.q.put P fun g hg => hl g (by simp [hg]), h.o.put P fun g hg => hl g (by simp [hg]), h.d.put P fun g hg => hl g (by simp [hg]), h.E, h.lc, h.cmd, h.pq, h.po, h.pd, h.qo, h.qd, h.od⟩
theorem RDv.put {w w' : World} {p : Nat} {s : DS} {vS : Value} {E0 : List Ev} {F l : List Nat} (h : RDv w p s vS E0 F) (P : Put l w w') (hl : ∀ g ∈ F, g ∉ l) : RDv w' p s vS E0 F := by
  obtain ⟨c, k, f, t, vq, vo, vd, Fq, Fo, Fd, h, rfl⟩ := h
  exact ⟨c, k, f, t, vq, vo, vd, Fq, Fo, Fd, h.put P hl, rfl⟩
theorem RDv.kep {w w' : World} {p : Nat} {s : DS} {vS : Value} {E0 : List Ev} {F : List Nat} (h : RDv w p s vS E0 F) (K : Kep w w') : RDv w' p s vS E0 F := h.put (l := []) (Put.of_kep K) (by simp)
theorem RDv.lt {w : World} {p : Nat} {s : DS} {vS : Value} {E0 : List Ev} {F : List Nat} (h : RDv w p s vS E0 F) : ∀ g ∈ F, g < w.heap.size := by
  obtain ⟨c, k, f, t, vq, vo, vd, Fq, Fo, Fd, h, rfl⟩ := h
  intro g hg
  simp only [List.mem_cons, List.mem_append] at hg
  rcases hg with rfl | hg | hg | hg
  · exact block_lt h.box
  · exact h.q.lt g hg
  · exact h.o.lt g hg
  · exact h.d.lt g hg
theorem own_grow {w wr : World} {x : Int} {k : Nat} {v : Value} {xs : List Value} (O : wr.ownsRow w.heap.size 5 1 v k xs) : (wr.alloc (.cells #[.int .u8 x] 5)).ownsRow w.heap.size 5 1 v k xs := (Soft.of_kep (B := 0) ((Kep.refl wr).alloc _)).owns O
set_option maxHeartbeats 1000000 in
theorem rnew11_any (w : World) (xS : Option Addr) (cS : Nat) (E0 : List Ev) (x1 : Option Addr) (c1 : Nat) (Z : List Int) (hn : (Z.length : Int) ≤ 2048) (hc : Z.length ≤ c1) (hl : Lies w x1 (byt Z)) :
    Calls Tryz.prog 26 #[.slice xS E0.length cS, .slice x1 Z.length c1] w fun e w' => ∃ p F, e = .returned (.pointer (some ⟨p, 0, none⟩)) ∧ RDv w' p (ds0 E0 Z) (.slice xS E0.length cS) E0 F ∧ Kep w w' ∧ ∀ g ∈ F, w.heap.size ≤ g := by
  obtain ⟨i0, hi, hz0, hz1, hz2⟩ := info_parts vinfo_u8
  have hl' : Hid (Lies w x1 (byt Z)) := hl
  have hc' : (Z.length : Int) ≤ c1 := by omega
  obtain ⟨n, hZ⟩ : ∃ n, Hid (n = Z.length) := ⟨_, rfl⟩
  obtain ⟨nS, hE⟩ : ∃ n, Hid (n = E0.length) := ⟨_, rfl⟩
  rw [← hZ.out, ← hE.out]
  rw [← hZ.out] at hn hc'
  clear hl hc
  go_enter Tryz.func26, Tryz.ntmps26
  go_wp2_with fail
  go_loopw [5, 6] (fun a i wr => ∃ k : Nat, (k : Int) ≤ n ∧ i = .int .i64 k ∧ Hid (Kep w wr) ∧ Hid (wr.ownsRow w.heap.size 5 1 a k (byt (Z.take k)))) (fun _ i _ => n - (intOf i).toNat)
  case atStart => exact ⟨0, by omega, rfl, Kep.refl _, World.ownsRow_nil _ _ _ _⟩
  case round =>
    obtain ⟨k, hk, rfl, K, O⟩ := hrel
    by_cases hlt : k < n
    · have hlt' : (k : Int) < n := by omega
      have hlen := hZ.out
      obtain ⟨x, hx⟩ : ∃ x, Z[k]? = some x := ⟨_, List.getElem?_eq_getElem (by omega)⟩
      rcases (hl'.out.kep K.out) with h0 | ⟨b, off, rfl, hb, hcell⟩
      · have := congrArg List.length h0; rw [byt_len] at this; simp only [List.length_nil] at this; omega
      have cx : wr.cell? ⟨b, off + k, none⟩ = some (.int .u8 x) := hcell k _ (by rw [byt_at, hx]; rfl)
      obtain ⟨xa, ca, rfl⟩ := owns_form O.out
      have hnx : Hid (byt (Z.take (k + 1)) = byt (Z.take k) ++ [.int .u8 x]) := by rw [Hid, List.take_add_one, hx]; simp [byt]
      have oB : Hid ((wr.alloc (.cells #[.int .u8 x] 5)).ownsRow w.heap.size 5 1 (.slice xa k ca) k (byt (Z.take k))) := own_grow O.out
      have sB : Hid (w.heap.size ≤ (wr.alloc (.cells #[.int .u8 x] 5)).heap.size) := by have := K.out.size; rw [Hid, World.size_alloc]; omega
      clear hcell hlen hx hlt
      go_wp2_with (at_builtin; refine wpList_append_own _ rfl (.tmp 13) (.tmp 18) 22 rfl w.heap.size 5 i0 _ 1 1 Tryz.underlying22 hi hz0 hz1 hz2 rfl (by decide) _ k (byt (Z.take k)) rfl oB.out ⟨wr.heap.size, 0, none⟩ 1 1 [.int .u8 x] rfl rfl cell_news (by simp [Value.oneCell']) (by unfold maxLen; omega) (by omega) sB.out ?_; intro v' w1 hown hgrow _; have hown' : Hid _ := hown; have hgrow' : Hid _ := hgrow; clear hown hgrow)
      go_roundw
      case rel =>
        refine ⟨k + 1, by omega, by go_num, (kep_trans K.out ((Kep.refl wr).alloc _)).by hgrow'.out (fun b e => (World.ownsRow.lt oB.out b e).1), ?_⟩
        rw [Hid, hnx.out]; exact hown'.out
      case measure => simp [intOf]; omega
    · obtain ⟨xa, ca, rfl⟩ := owns_form O.out
      clear hl'
      go_wp2_with fail
      go_ret
      obtain ⟨G, s1, s2⟩ := Sli.of_owns O.out
      have hkn : k = n := by omega
      rw [List.take_of_length_le (by have := hZ.out; omega)] at s1
      have kA : Kep wr (wr.alloc (.cells (rdC (ds0 E0 Z) (.slice xS nS cS) 0 0 0 0 (.slice none 0 0) (.slice none 0 0) (.slice xa k ca)) 56)) := (Kep.refl _).alloc _
      have hG : wr.heap.size ∉ G := fun hm => by have := s1.lt _ hm; omega
      refine ⟨wr.heap.size, wr.heap.size :: ([] ++ ([] ++ G)), rfl, ⟨0, 0, 0, 0, _, _, _, [], [], G, ⟨hat _ _ _ rfl, Sli.nil _ _ _, Sli.nil _ _ _, ?_, by simp [ds0], by omega, by simp [ds0], by simp, by simp, hG, by simp, by simp, by simp⟩, rfl⟩, kep_trans K.out kA, ?_⟩
      · have := s1.kep kA
        show Sli _ 5 1 _ Z.length (byt Z) G
        rw [← hZ.out, ← hkn]; exact this
      · intro g hg
        simp at hg
        rcases hg with rfl | hg
        · exact K.out.size
        · exact s2 g hg
def RBx (w : World) (q : Nat) (vd vr : Value) (s : Sta) (n : Int) (vn : Value) : Prop := w.heap[q]? = some (.cells (mchV vd vr s n vn) 53 (0, 0))
theorem RBx.cd {w : World} {p : Nat} {vm vd : Value} {s : Sta} {n : Int} {vn : Value} (h : RBx w p vm vd s n vn) : w.cell? ⟨p, 0, none⟩ = some vm := cell_of_block h
theorem RBx.cr {w : World} {p : Nat} {vm vd : Value} {s : Sta} {n : Int} {vn : Value} (h : RBx w p vm vd s n vn) : w.cell? ⟨p, 1, none⟩ = some vd := cell_of_block h
theorem RBx.cn {w : World} {p : Nat} {vm vd : Value} {s : Sta} {n : Int} {vn : Value} (h : RBx w p vm vd s n vn) : w.cell? ⟨p, 21, none⟩ = some (.int .i64 n) := cell_of_block h
theorem RBx.cN {w : World} {p : Nat} {vm vd : Value} {s : Sta} {n : Int} {vn : Value} (h : RBx w p vm vd s n vn) : w.cell? ⟨p, 22, none⟩ = some vn := cell_of_block h
theorem RBx.kep {w w' : World} {p : Nat} {vm vd : Value} {s : Sta} {n : Int} {vn : Value} (h : RBx w p vm vd s n vn) (k : Kep w w') : RBx w' p vm vd s n vn := k.block h
theorem RBx.st {w : World} {p : Nat} {vm vd : Value} {s : Sta} {n : Int} {vn : Value} (h : RBx w p vm vd s n vn) : w.rangeAt p 2 s.v.toList := fun j v hv => by
  have hj : j < s.v.toList.length := (List.getElem?_eq_some_iff.1 hv).1
  rw [cell_of_block h, ← Array.getElem?_toList, mch_parts, List.getElem?_append_right (by simp), List.getElem?_append_left (by simpa using hj), ← hv]
  congr 1
  simp
abbrev rsl (Rb n : Nat) : Value := .slice (some ⟨Rb, 0, none⟩) n n
structure RMAt (w : World) (q Rb : Nat) (x : MS) (vS : Value) (E0 : List Ev) (d : Nat) (vn : Value) (Fd Fn : List Nat) : Prop where
  box : RBx w q (mpt d) (rsl Rb x.B.length) x.s x.n vn
  dev : RDv w d x.d vS E0 Fd
  nts : Sli w 76 4 vn x.N.length (nts x.N) Fn
  row : RowB w Rb x.B
  max : (x.B.length : Int) ≤ 32768
  far : Rb ∉ q :: (Fd ++ Fn)
  pd : q ∉ Fd
  pn : q ∉ Fn
  dn : ∀ g ∈ Fd, g ∉ Fn
  lo : ∀ g ∈ Rb :: (q :: (Fd ++ Fn)), 2 ≤ g
def RMach (w : World) (q Rb : Nat) (x : MS) (vS : Value) (E0 : List Ev) (G : List Nat) : Prop := ∃ d vn Fd Fn, RMAt w q Rb x vS E0 d vn Fd Fn ∧ G = q :: (Fd ++ Fn)
end Go.Proofs.YtnignfloedcmlaaGreatDoor
