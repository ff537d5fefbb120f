/- What devices have, saved: whether a status and a command fit together; the call Save. -/
import Derived.Test.YtpieeefeicdfgabVout
import Derived.Test.YtpieeefeicdfgabVerr
import Derived.DeepKeys
import Derived.Deep.RegionHeld3
import Derived.Great.Walk
import Derived.Deep.Cut
namespace Go.Proofs.Ytpieeefeicdfgab
open Go.RowKit
set_option linter.unusedVariables false
set_option linter.unusedSimpArgs false

/-- May a disk of that status have that command? -/
def fitsB (st k f t : Int) : Bool := (decide (st = 1) && decide (k = 1 ∨ k = 2)) || (decide (st = 0 ∨ st = 2) && decide (k = 0 ∧ f = 0 ∧ t = 0))
theorem cmd_key (a b c : Int) (ha : (Lit.int .u32 a).wf = true) (hb : (Lit.int .u32 b).wf = true) (hc : (Lit.int .u32 c).wf = true) :
    Try.prog.keyLits 2 74 (Value.agg #[.int .u32 a, .int .u32 b, .int .u32 c]).cells.toList = some [.int .u32 a, .int .u32 b, .int .u32 c] := by
  have cI : Try.prog.cellsOf 74 = 3 := by kernel_rfl
  have c21 : Try.prog.cellsOf 23 = 1 := by kernel_rfl
  simp [Program.keyLits, Try.underlying74, Try.underlying23, Value.cells, cI, c21, ha, hb, hc]
theorem cmd_same (a b c : Int) (ha : (Lit.int .u32 a).wf = true) (hb : (Lit.int .u32 b).wf = true) (hc : (Lit.int .u32 c).wf = true) (w : World) :
    Sem.run Try.prog (Op.equalIn 10000 74 (.agg #[.int .u32 a, .int .u32 b, .int .u32 c]) (.agg #[.int .u32 0, .int .u32 0, .int .u32 0])) w = .ok (decide (a = 0 ∧ b = 0 ∧ c = 0)) w := by
  obtain ⟨r, hr, hiff⟩ := run_equalIn_deep (P := Try.prog) 9998 2 74 (by kernel_rfl) w 2 2 (.agg #[.int .u32 a, .int .u32 b, .int .u32 c]) (.agg #[.int .u32 0, .int .u32 0, .int .u32 0]) _ _ (by kernel_rfl) (by kernel_rfl) (cmd_key a b c ha hb hc) (cmd_key 0 0 0 (by decide) (by decide) (by decide))
  have e : r = decide (a = 0 ∧ b = 0 ∧ c = 0) := by rw [Bool.eq_iff_iff, hiff]; simp
  rw [hr, e]
theorem wf_u32 {a : Int} (h : 0 ≤ a ∧ a < 4294967296) : (Lit.int .u32 a).wf = true := by
  simp [Lit.wf, IntKind.min, IntKind.max, IntKind.signed, IntKind.bits]; omega

set_option maxHeartbeats 2000000 in
theorem fits_any (w : World) (st k f t : Int) (hk : 0 ≤ k ∧ k < 4294967296) (hf : 0 ≤ f ∧ f < 4294967296) (ht : 0 ≤ t ∧ t < 4294967296) :
    Calls Try.prog 52 #[.int .u32 st, .agg #[.int .u32 k, .int .u32 f, .int .u32 t]] w fun e w' => e = .returned (.bool (fitsB st k f t)) ∧ Kep w w' := by
  have H : Hid (∀ w, Calls Try.prog 63 #[.int .u32 k] w fun e w' => e = .returned (.bool (decide (k = 1 ∨ k = 2))) ∧ w' = w) := fun w => isCommand_any w k
  have Q : ∀ w, Sem.run Try.prog (Op.equalIn 10000 74 (.agg #[.int .u32 k, .int .u32 f, .int .u32 t]) (.agg #[.int .u32 0, .int .u32 0, .int .u32 0])) w = .ok (decide (k = 0 ∧ f = 0 ∧ t = 0)) w := cmd_same k f t (wf_u32 hk) (wf_u32 hf) (wf_u32 ht)
  obtain ⟨r, hr⟩ : ∃ r, Hid (r = fitsB st k f t) := ⟨_, rfl⟩
  rw [← hr.out]
  have hfit : Hid (∀ c z : Bool, c = decide (k = 1 ∨ k = 2) → z = decide (k = 0 ∧ f = 0 ∧ t = 0) → r = ((decide (st = 1) && c) || (decide (st = 0 ∨ st = 2) && z))) := by
    rintro c z rfl rfl; rw [hr.out]; rfl
  obtain ⟨c, hc⟩ : ∃ c, c = decide (k = 1 ∨ k = 2) := ⟨_, rfl⟩
  obtain ⟨z, hz⟩ : ∃ z, z = decide (k = 0 ∧ f = 0 ∧ t = 0) := ⟨_, rfl⟩
  rw [← hc] at H
  rw [← hz] at Q
  have hfin : Hid (r = ((decide (st = 1) && c) || (decide (st = 0 ∨ st = 2) && z))) := hfit.out c z hc hz
  clear hc hz hfit hr hk hf ht
  by_cases h1 : st = 1
  · subst h1
    obtain rfl : r = c := by rw [hfin.out]; simp
    clear hfin
    go_enter Try.func52, Try.ntmps52
    go_wp2_with (go_at_call 63; refine (H.out _).mono ?_; rintro e w1 ⟨rfl, hq⟩; rw [hq]; clear hq)
    go_ret
    exact ⟨rfl, (Kep.refl _).alloc _⟩
  · have t1 : (st == 1) = false := by simp [h1]
    by_cases h2 : st = 0 ∨ st = 2
    · obtain rfl : r = z := by rw [hfin.out]; simp [h1, h2]
      clear hfin
      rcases h2 with rfl | rfl
      all_goals
        go_enter Try.func52, Try.ntmps52
        go_wp2_with fail
        go_ret
        exact ⟨rfl, (Kep.refl _).alloc _⟩
    · obtain rfl : r = false := by rw [hfin.out]; simp [h1, h2]
      clear hfin
      have t0 : (st == 0) = false := by simp; omega
      have t2 : (st == 2) = false := by simp; omega
      clear h1 h2
      go_enter Try.func52, Try.ntmps52
      go_wp2_with fail
      go_ret
      exact ⟨rfl, (Kep.refl _).alloc _⟩

/-- The cells of what is saved: the first 23 of them, then what devices have. -/
def savL (H : List Value) (vo vd vq vs : Value) (b m n a s k f t : Int) : List Value := H ++ [vo, vd, vq, vs, .int .u32 b, .int .u32 m, .int .u32 n, .int .u32 a, .int .u32 s, .int .u32 k, .int .u32 f, .int .u32 t]
/-- The first 23 cells where no machine is saved. -/
def zH : List Value := [.int .i64 0, .slice none 0 0, .int .u32 0, .int .u32 0, .int .u32 0, .int .u32 0, .int .u32 0, .int .u32 0, .int .u32 0, .int .u32 0, .int .u32 0, .int .u32 0, .int .u32 0, .int .u32 0, .int .u32 0, .int .u32 0, .int .u32 0, .int .u32 0, .int .u32 0, .int .u32 0, .bool false, .int .i64 0, .slice none 0 0]
theorem sav_one {H : List Value} (hH : H.all (·.oneCell') = true) (xo : Option Addr) (no co : Nat) (xd : Option Addr) (nd cd : Nat) (xq : Option Addr) (nq cq : Nat) (xs : Option Addr) (ns cs : Nat) (b m n a s k f t : Int) :
    ((savL H (.slice xo no co) (.slice xd nd cd) (.slice xq nq cq) (.slice xs ns cs) b m n a s k f t).toArray.all fun x => x.oneCell') = true := by
  rw [List.all_toArray, savL, List.all_append, hH]; simp [Value.oneCell']
abbrev savZ : Array Value := (savL zH (.slice none 0 0) (.slice none 0 0) (.slice none 0 0) (.slice none 0 0) 0 0 0 0 0 0 0 0).toArray
theorem size_sav : (Try.prog.info? 55).map (·.size) = some 35 := by kernel_rfl
/-- A slice that was handed out, newer than w. -/
def OwnN (w w' : World) (e : TypeId) (z : Nat) (v : Value) (n : Nat) (xs : List Value) : Prop := ∃ G, Sli w' e z v n xs G ∧ ∀ g ∈ G, w.heap.size ≤ g
/-- What Save answers: four slices of the caller's own. -/
structure Savd (w w' : World) (s : DS) (xo : Option Addr) (co : Nat) (xd : Option Addr) (cd : Nat) (xq : Option Addr) (cq : Nat) (xs : Option Addr) (cs : Nat) : Prop where
  o : OwnN w w' 5 1 (.slice xo s.O.length co) s.O.length (byt s.O)
  d : OwnN w w' 5 1 (.slice xd s.D.length cd) s.D.length (byt s.D)
  q : OwnN w w' 5 1 (.slice xq s.Q.length cq) s.Q.length (byt s.Q)
  e : OwnN w w' 68 3 (.slice xs s.E.length cs) s.E.length (evs s.E)
theorem Sli.ne_tag {w : World} {e : TypeId} {z : Nat} {v : Value} {n : Nat} {xs : List Value} {G : List Nat} {g r : Nat} {t : TypeId} {cs : Array Value} {fr : Nat × Nat} (h : Sli w e z v n xs G) (hg : g ∈ G) (hb : w.heap[r]? = some (.cells cs t fr)) (hne : e ≠ t) : g ≠ r := by
  rintro rfl
  rcases h with ⟨_, ⟨_, _, rfl⟩ | ⟨g', off, cap, cur, rfl, rfl, hg', _⟩⟩
  · simp at hg
  · obtain rfl : g = g' := by simpa using hg
    rw [hb] at hg'
    simp only [Option.some.injEq, Obj.cells.injEq] at hg'
    exact hne hg'.2.1.symm
theorem OwnN.kep {w w' w'' : World} {e : TypeId} {z : Nat} {v : Value} {n : Nat} {xs : List Value} (h : OwnN w w' e z v n xs) (k : Kep w' w'') : OwnN w w'' e z v n xs := by
  obtain ⟨G, h1, h2⟩ := h
  exact ⟨G, h1.kep k, h2⟩
theorem OwnN.elder {w0 w w' : World} {e : TypeId} {z : Nat} {v : Value} {n : Nat} {xs : List Value} (h : OwnN w w' e z v n xs) (k : Kep w0 w) : OwnN w0 w' e z v n xs := by
  obtain ⟨G, h1, h2⟩ := h
  exact ⟨G, h1, fun g hg => Nat.le_trans k.size (h2 g hg)⟩

set_option maxHeartbeats 8000000 in
set_option maxRecDepth 100000 in
theorem save_any {w : World} {p : Nat} {s : DS} {F : List Nat} (h : Dev w p s F) (ok : s.Ok) (hE : s.E.length ≤ 64) (hO : (s.O.length : Int) ≤ 140737488355328) :
    Calls Try.prog 16 #[.pointer (some ⟨p, 0, none⟩)] w fun e w' => ∃ xo co xd cd xq cq xs cs, e = .returned (.agg (savL zH (.slice xo s.O.length co) (.slice xd s.D.length cd) (.slice xq s.Q.length cq) (.slice xs s.E.length cs) s.b s.m s.n s.a s.s s.k s.f s.t).toArray) ∧ Savd w w' s xo co xd cd xq cq xs cs ∧ Kep w w' := by
  have h' : Hid (Dev w p s F) := h
  have ok' : Hid s.Ok := ok
  have HW : Hid (∀ w', Kep w w' → Calls Try.prog 28 #[.pointer (some ⟨p, 0, none⟩)] w' fun e w'' => e = .returned (.bool true) ∧ w'' = w') := fun w' k => (h.kep k).works
  have HO : Hid (∀ w', Kep w w' → Calls Try.prog 19 #[.pointer (some ⟨p, 0, none⟩)] w' fun e w'' => ∃ x c, e = .returned (.slice x s.O.length c) ∧ OwnN w w'' 5 1 (.slice x s.O.length c) s.O.length (byt s.O) ∧ Kep w' w'') := fun w' k => by
    refine (output_any (h.kep k) hO).mono ?_
    rintro e w'' ⟨v, rfl, ⟨G, sl, hG⟩, k2⟩
    obtain ⟨x, c, rfl, _⟩ := sl.lies
    exact ⟨x, c, rfl, ⟨G, sl, fun g hg => Nat.le_trans k.size (hG g hg)⟩, k2⟩
  have HD : Hid (∀ w', Kep w w' → Calls Try.prog 20 #[.pointer (some ⟨p, 0, none⟩)] w' fun e w'' => ∃ x c, e = .returned (.slice x s.D.length c) ∧ OwnN w w'' 5 1 (.slice x s.D.length c) s.D.length (byt s.D) ∧ Kep w' w'') := fun w' k => by
    refine (disk_any (h.kep k) ok).mono ?_
    rintro e w'' ⟨v, rfl, ⟨G, sl, hG⟩, k2⟩
    obtain ⟨x, c, rfl, _⟩ := sl.lies
    exact ⟨x, c, rfl, ⟨G, sl, fun g hg => Nat.le_trans k.size (hG g hg)⟩, k2⟩
  obtain ⟨vs, vq, vo, vb, Fs, Fq, Fo, Fb, D, hF⟩ := h
  obtain ⟨xs0, cs0, hvs, hls, _⟩ := D.sc.lies
  obtain ⟨xq0, cq0, hvq, hlq, _⟩ := D.q.lies
  subst hvs hvq
  have HQ : Hid (∀ w', Kep w w' → Calls Try.prog 51 #[.slice xq0 s.Q.length cq0] w' fun e w'' => ∃ x c, e = .returned (.slice x s.Q.length c) ∧ OwnN w w'' 5 1 (.slice x s.Q.length c) s.Q.length (byt s.Q) ∧ Kep w' w'') := fun w' k => by
    refine (clone_u8 w' xq0 s.Q.length cq0 (byt s.Q) (by rw [byt_len]; omega) (hlq.kep k) (byt_ones _) (by have := ok.q; omega)).mono ?_
    rintro e w'' ⟨v, rfl, ho, k2⟩
    obtain ⟨x, c, rfl⟩ := owns_form ho
    obtain ⟨G, s1, s2⟩ := Sli.of_owns ho
    exact ⟨x, c, rfl, ⟨G, s1, fun g hg => Nat.le_trans k.size (s2 g hg)⟩, k2⟩
  have HS : Hid (∀ w', Kep w w' → Calls Try.prog 25 #[.slice xs0 s.E.length cs0] w' fun e w'' => ∃ x c, e = .returned (.slice x s.E.length c) ∧ OwnN w w'' 68 3 (.slice x s.E.length c) s.E.length (evs s.E) ∧ Kep w' w'') := fun w' k => by
    refine (clone_ev w' xs0 s.E.length cs0 (evs s.E) (by rw [evs_len]) (hls.kep k) (evs_ones _) (by omega)).mono ?_
    rintro e w'' ⟨v, rfl, ho, k2⟩
    obtain ⟨x, c, rfl⟩ := owns_form ho
    obtain ⟨G, s1, s2⟩ := Sli.of_owns ho
    exact ⟨x, c, rfl, ⟨G, s1, fun g hg => Nat.le_trans k.size (s2 g hg)⟩, k2⟩
  have lp : p < w.heap.size := block_lt D.box
  have CW : Hid (∀ w', Kep w w' → w'.cell? ⟨p, 1, none⟩ = some (.slice xs0 s.E.length cs0) ∧ w'.cell? ⟨p, 2, none⟩ = some (.int .u32 s.b) ∧ w'.cell? ⟨p, 3, none⟩ = some (.int .u32 s.m) ∧ w'.cell? ⟨p, 4, none⟩ = some (.slice xq0 s.Q.length cq0) ∧ w'.cell? ⟨p, 7, none⟩ = some (.int .u32 s.n) ∧ w'.cell? ⟨p, 8, none⟩ = some (.int .u32 s.a) ∧ w'.cell? ⟨p, 9, none⟩ = some (.int .u32 s.s) ∧ w'.cell? ⟨p, 10, none⟩ = some (.int .u32 s.k) ∧ w'.cell? ⟨p, 11, none⟩ = some (.int .u32 s.f) ∧ w'.cell? ⟨p, 12, none⟩ = some (.int .u32 s.t)) := fun w' K => by
    have hb := K.block D.box
    exact ⟨(cell_of_block hb).trans rfl, (cell_of_block hb).trans rfl, (cell_of_block hb).trans rfl, (cell_of_block hb).trans rfl, (cell_of_block hb).trans rfl, (cell_of_block hb).trans rfl, (cell_of_block hb).trans rfl, (cell_of_block hb).trans rfl, (cell_of_block hb).trans rfl, (cell_of_block hb).trans rfl⟩
  have z0 : ∀ w : World, Sem.run Try.prog (zeroValue 55) w = .ok (.agg savZ) w := fun w => by kernel_rfl
  have KA : Hid (Kep w (w.alloc (.cells savZ 55))) := (Kep.refl w).alloc _
  have BA : Hid ((w.alloc (.cells savZ 55)).heap[w.heap.size]? = some (.cells savZ 55 (0, 0))) := hat _ _ _ rfl
  have hzs : Hid ((savZ : Array Value).size = 35) := rfl
  generalize savZ = Z at z0 KA BA hzs
  clear D hls hlq hF ok hE hO
  go_enter Try.func16, Try.ntmps16
  go_upto_region 1 with fail
  generalize w.alloc (.cells Z 55) = V at KA BA ⊢
  obtain ⟨r, hr⟩ : ∃ r, Hid (r = w.heap.size) := ⟨_, rfl⟩
  rw [← hr.out] at BA ⊢
  go_upto_region 3 with (go_at_call 28; refine (HW.out _ KA.out).mono ?_; rintro e w1 ⟨rfl, hq⟩; rw [hq]; clear hq)
  refine wp_region_held_drew (S := fun w' => w'.cell? ⟨p, 1, none⟩ = some (.slice xs0 s.E.length cs0) ∧ w'.cell? ⟨p, 2, none⟩ = some (.int .u32 s.b) ∧ w'.cell? ⟨p, 3, none⟩ = some (.int .u32 s.m) ∧ w'.cell? ⟨p, 4, none⟩ = some (.slice xq0 s.Q.length cq0) ∧ w'.cell? ⟨p, 7, none⟩ = some (.int .u32 s.n) ∧ w'.cell? ⟨p, 8, none⟩ = some (.int .u32 s.a) ∧ w'.cell? ⟨p, 9, none⟩ = some (.int .u32 s.s) ∧ w'.cell? ⟨p, 10, none⟩ = some (.int .u32 s.k) ∧ w'.cell? ⟨p, 11, none⟩ = some (.int .u32 s.f) ∧ w'.cell? ⟨p, 12, none⟩ = some (.int .u32 s.t)) (by kernel_rfl) (CW.out V KA.out) (fun hH => ?_)
  refine wpAnyH_take (i := 0) (v := .pointer (some ⟨p, 0, none⟩)) rfl (by kernel_rfl) (by kernel_rfl) (by kernel_rfl) (fun _ _ _ h => h) (.inl ⟨by rfl, by intro w hS; obtain ⟨c1, c2, c3, c4, c7, c8, c9, c10, c11, c12⟩ := hS; go_simp⟩) hH ?_
  (try dsimp only [Act.put]); (try simp only [Act.put, List.setIfInBounds_toArray, List.set_cons_zero, List.set_cons_succ])
  refine wpAnyH_take (i := 2) (v := .pointer (some ⟨p, 0, none⟩)) rfl (by kernel_rfl) (by kernel_rfl) (by kernel_rfl) (fun _ _ _ h => h) (.inl ⟨by rfl, by intro w hS; obtain ⟨c1, c2, c3, c4, c7, c8, c9, c10, c11, c12⟩ := hS; go_simp⟩) hH ?_
  (try dsimp only [Act.put]); (try simp only [Act.put, List.setIfInBounds_toArray, List.set_cons_zero, List.set_cons_succ])
  refine wpAnyH_take (i := 4) (v := .pointer (some ⟨p, 0, none⟩)) rfl (by kernel_rfl) (by kernel_rfl) (by kernel_rfl) (fun _ _ _ h => h) (.inl ⟨by rfl, by intro w hS; obtain ⟨c1, c2, c3, c4, c7, c8, c9, c10, c11, c12⟩ := hS; go_simp⟩) hH ?_
  (try dsimp only [Act.put]); (try simp only [Act.put, List.setIfInBounds_toArray, List.set_cons_zero, List.set_cons_succ])
  refine wpAnyH_take (i := 5) (v := .pointer (some ⟨p, 0, none⟩)) rfl (by kernel_rfl) (by kernel_rfl) (by kernel_rfl) (fun _ _ _ h => h) (.inl ⟨by rfl, by intro w hS; obtain ⟨c1, c2, c3, c4, c7, c8, c9, c10, c11, c12⟩ := hS; go_simp⟩) hH ?_
  (try dsimp only [Act.put]); (try simp only [Act.put, List.setIfInBounds_toArray, List.set_cons_zero, List.set_cons_succ])
  refine wpAnyH_take (i := 6) (v := .pointer (some ⟨p, 4, none⟩)) rfl (by kernel_rfl) (by kernel_rfl) (by kernel_rfl) (fun _ _ _ h => h) (.inl ⟨by rfl, by intro w hS; obtain ⟨c1, c2, c3, c4, c7, c8, c9, c10, c11, c12⟩ := hS; go_simp⟩) hH ?_
  (try dsimp only [Act.put]); (try simp only [Act.put, List.setIfInBounds_toArray, List.set_cons_zero, List.set_cons_succ])
  refine wpAnyH_take (i := 7) (v := .pointer (some ⟨p, 4, none⟩)) rfl (by kernel_rfl) (by kernel_rfl) (by kernel_rfl) (fun _ _ _ h => h) (.inl ⟨by rfl, by intro w hS; obtain ⟨c1, c2, c3, c4, c7, c8, c9, c10, c11, c12⟩ := hS; go_simp⟩) hH ?_
  (try dsimp only [Act.put]); (try simp only [Act.put, List.setIfInBounds_toArray, List.set_cons_zero, List.set_cons_succ])
  refine wpAnyH_take (i := 8) (v := .slice xq0 s.Q.length cq0) rfl (by kernel_rfl) (by kernel_rfl) (by kernel_rfl) (fun _ _ _ h => h) (.inl ⟨by rfl, by intro w hS; obtain ⟨c1, c2, c3, c4, c7, c8, c9, c10, c11, c12⟩ := hS; go_simp⟩) hH ?_
  (try dsimp only [Act.put]); (try simp only [Act.put, List.setIfInBounds_toArray, List.set_cons_zero, List.set_cons_succ])
  refine wpAnyH_take (i := 10) (v := .pointer (some ⟨p, 0, none⟩)) rfl (by kernel_rfl) (by kernel_rfl) (by kernel_rfl) (fun _ _ _ h => h) (.inl ⟨by rfl, by intro w hS; obtain ⟨c1, c2, c3, c4, c7, c8, c9, c10, c11, c12⟩ := hS; go_simp⟩) hH ?_
  (try dsimp only [Act.put]); (try simp only [Act.put, List.setIfInBounds_toArray, List.set_cons_zero, List.set_cons_succ])
  refine wpAnyH_take (i := 11) (v := .pointer (some ⟨p, 0, none⟩)) rfl (by kernel_rfl) (by kernel_rfl) (by kernel_rfl) (fun _ _ _ h => h) (.inl ⟨by rfl, by intro w hS; obtain ⟨c1, c2, c3, c4, c7, c8, c9, c10, c11, c12⟩ := hS; go_simp⟩) hH ?_
  (try dsimp only [Act.put]); (try simp only [Act.put, List.setIfInBounds_toArray, List.set_cons_zero, List.set_cons_succ])
  refine wpAnyH_take (i := 12) (v := .pointer (some ⟨p, 1, none⟩)) rfl (by kernel_rfl) (by kernel_rfl) (by kernel_rfl) (fun _ _ _ h => h) (.inl ⟨by rfl, by intro w hS; obtain ⟨c1, c2, c3, c4, c7, c8, c9, c10, c11, c12⟩ := hS; go_simp⟩) hH ?_
  (try dsimp only [Act.put]); (try simp only [Act.put, List.setIfInBounds_toArray, List.set_cons_zero, List.set_cons_succ])
  refine wpAnyH_take (i := 13) (v := .slice xs0 s.E.length cs0) rfl (by kernel_rfl) (by kernel_rfl) (by kernel_rfl) (fun _ _ _ h => h) (.inl ⟨by rfl, by intro w hS; obtain ⟨c1, c2, c3, c4, c7, c8, c9, c10, c11, c12⟩ := hS; go_simp⟩) hH ?_
  (try dsimp only [Act.put]); (try simp only [Act.put, List.setIfInBounds_toArray, List.set_cons_zero, List.set_cons_succ])
  refine wpAnyH_take (i := 15) (v := .pointer (some ⟨p, 0, none⟩)) rfl (by kernel_rfl) (by kernel_rfl) (by kernel_rfl) (fun _ _ _ h => h) (.inl ⟨by rfl, by intro w hS; obtain ⟨c1, c2, c3, c4, c7, c8, c9, c10, c11, c12⟩ := hS; go_simp⟩) hH ?_
  (try dsimp only [Act.put]); (try simp only [Act.put, List.setIfInBounds_toArray, List.set_cons_zero, List.set_cons_succ])
  refine wpAnyH_take (i := 16) (v := .pointer (some ⟨p, 0, none⟩)) rfl (by kernel_rfl) (by kernel_rfl) (by kernel_rfl) (fun _ _ _ h => h) (.inl ⟨by rfl, by intro w hS; obtain ⟨c1, c2, c3, c4, c7, c8, c9, c10, c11, c12⟩ := hS; go_simp⟩) hH ?_
  (try dsimp only [Act.put]); (try simp only [Act.put, List.setIfInBounds_toArray, List.set_cons_zero, List.set_cons_succ])
  refine wpAnyH_take (i := 17) (v := .pointer (some ⟨p, 2, none⟩)) rfl (by kernel_rfl) (by kernel_rfl) (by kernel_rfl) (fun _ _ _ h => h) (.inl ⟨by rfl, by intro w hS; obtain ⟨c1, c2, c3, c4, c7, c8, c9, c10, c11, c12⟩ := hS; go_simp⟩) hH ?_
  (try dsimp only [Act.put]); (try simp only [Act.put, List.setIfInBounds_toArray, List.set_cons_zero, List.set_cons_succ])
  refine wpAnyH_take (i := 18) (v := .pointer (some ⟨p, 2, none⟩)) rfl (by kernel_rfl) (by kernel_rfl) (by kernel_rfl) (fun _ _ _ h => h) (.inl ⟨by rfl, by intro w hS; obtain ⟨c1, c2, c3, c4, c7, c8, c9, c10, c11, c12⟩ := hS; go_simp⟩) hH ?_
  (try dsimp only [Act.put]); (try simp only [Act.put, List.setIfInBounds_toArray, List.set_cons_zero, List.set_cons_succ])
  refine wpAnyH_take (i := 19) (v := .int .u32 s.b) rfl (by kernel_rfl) (by kernel_rfl) (by kernel_rfl) (fun _ _ _ h => h) (.inl ⟨by rfl, by intro w hS; obtain ⟨c1, c2, c3, c4, c7, c8, c9, c10, c11, c12⟩ := hS; go_simp⟩) hH ?_
  (try dsimp only [Act.put]); (try simp only [Act.put, List.setIfInBounds_toArray, List.set_cons_zero, List.set_cons_succ])
  refine wpAnyH_take (i := 20) (v := .pointer (some ⟨p, 0, none⟩)) rfl (by kernel_rfl) (by kernel_rfl) (by kernel_rfl) (fun _ _ _ h => h) (.inl ⟨by rfl, by intro w hS; obtain ⟨c1, c2, c3, c4, c7, c8, c9, c10, c11, c12⟩ := hS; go_simp⟩) hH ?_
  (try dsimp only [Act.put]); (try simp only [Act.put, List.setIfInBounds_toArray, List.set_cons_zero, List.set_cons_succ])
  refine wpAnyH_take (i := 21) (v := .pointer (some ⟨p, 0, none⟩)) rfl (by kernel_rfl) (by kernel_rfl) (by kernel_rfl) (fun _ _ _ h => h) (.inl ⟨by rfl, by intro w hS; obtain ⟨c1, c2, c3, c4, c7, c8, c9, c10, c11, c12⟩ := hS; go_simp⟩) hH ?_
  (try dsimp only [Act.put]); (try simp only [Act.put, List.setIfInBounds_toArray, List.set_cons_zero, List.set_cons_succ])
  refine wpAnyH_take (i := 22) (v := .pointer (some ⟨p, 2, none⟩)) rfl (by kernel_rfl) (by kernel_rfl) (by kernel_rfl) (fun _ _ _ h => h) (.inl ⟨by rfl, by intro w hS; obtain ⟨c1, c2, c3, c4, c7, c8, c9, c10, c11, c12⟩ := hS; go_simp⟩) hH ?_
  (try dsimp only [Act.put]); (try simp only [Act.put, List.setIfInBounds_toArray, List.set_cons_zero, List.set_cons_succ])
  refine wpAnyH_take (i := 23) (v := .pointer (some ⟨p, 3, none⟩)) rfl (by kernel_rfl) (by kernel_rfl) (by kernel_rfl) (fun _ _ _ h => h) (.inl ⟨by rfl, by intro w hS; obtain ⟨c1, c2, c3, c4, c7, c8, c9, c10, c11, c12⟩ := hS; go_simp⟩) hH ?_
  (try dsimp only [Act.put]); (try simp only [Act.put, List.setIfInBounds_toArray, List.set_cons_zero, List.set_cons_succ])
  refine wpAnyH_take (i := 24) (v := .int .u32 s.m) rfl (by kernel_rfl) (by kernel_rfl) (by kernel_rfl) (fun _ _ _ h => h) (.inl ⟨by rfl, by intro w hS; obtain ⟨c1, c2, c3, c4, c7, c8, c9, c10, c11, c12⟩ := hS; go_simp⟩) hH ?_
  (try dsimp only [Act.put]); (try simp only [Act.put, List.setIfInBounds_toArray, List.set_cons_zero, List.set_cons_succ])
  refine wpAnyH_take (i := 25) (v := .pointer (some ⟨p, 0, none⟩)) rfl (by kernel_rfl) (by kernel_rfl) (by kernel_rfl) (fun _ _ _ h => h) (.inl ⟨by rfl, by intro w hS; obtain ⟨c1, c2, c3, c4, c7, c8, c9, c10, c11, c12⟩ := hS; go_simp⟩) hH ?_
  (try dsimp only [Act.put]); (try simp only [Act.put, List.setIfInBounds_toArray, List.set_cons_zero, List.set_cons_succ])
  refine wpAnyH_take (i := 26) (v := .pointer (some ⟨p, 0, none⟩)) rfl (by kernel_rfl) (by kernel_rfl) (by kernel_rfl) (fun _ _ _ h => h) (.inl ⟨by rfl, by intro w hS; obtain ⟨c1, c2, c3, c4, c7, c8, c9, c10, c11, c12⟩ := hS; go_simp⟩) hH ?_
  (try dsimp only [Act.put]); (try simp only [Act.put, List.setIfInBounds_toArray, List.set_cons_zero, List.set_cons_succ])
  refine wpAnyH_take (i := 27) (v := .pointer (some ⟨p, 6, none⟩)) rfl (by kernel_rfl) (by kernel_rfl) (by kernel_rfl) (fun _ _ _ h => h) (.inl ⟨by rfl, by intro w hS; obtain ⟨c1, c2, c3, c4, c7, c8, c9, c10, c11, c12⟩ := hS; go_simp⟩) hH ?_
  (try dsimp only [Act.put]); (try simp only [Act.put, List.setIfInBounds_toArray, List.set_cons_zero, List.set_cons_succ])
  refine wpAnyH_take (i := 28) (v := .pointer (some ⟨p, 7, none⟩)) rfl (by kernel_rfl) (by kernel_rfl) (by kernel_rfl) (fun _ _ _ h => h) (.inl ⟨by rfl, by intro w hS; obtain ⟨c1, c2, c3, c4, c7, c8, c9, c10, c11, c12⟩ := hS; go_simp⟩) hH ?_
  (try dsimp only [Act.put]); (try simp only [Act.put, List.setIfInBounds_toArray, List.set_cons_zero, List.set_cons_succ])
  refine wpAnyH_take (i := 29) (v := .int .u32 s.n) rfl (by kernel_rfl) (by kernel_rfl) (by kernel_rfl) (fun _ _ _ h => h) (.inl ⟨by rfl, by intro w hS; obtain ⟨c1, c2, c3, c4, c7, c8, c9, c10, c11, c12⟩ := hS; go_simp⟩) hH ?_
  (try dsimp only [Act.put]); (try simp only [Act.put, List.setIfInBounds_toArray, List.set_cons_zero, List.set_cons_succ])
  refine wpAnyH_take (i := 30) (v := .pointer (some ⟨p, 0, none⟩)) rfl (by kernel_rfl) (by kernel_rfl) (by kernel_rfl) (fun _ _ _ h => h) (.inl ⟨by rfl, by intro w hS; obtain ⟨c1, c2, c3, c4, c7, c8, c9, c10, c11, c12⟩ := hS; go_simp⟩) hH ?_
  (try dsimp only [Act.put]); (try simp only [Act.put, List.setIfInBounds_toArray, List.set_cons_zero, List.set_cons_succ])
  refine wpAnyH_take (i := 31) (v := .pointer (some ⟨p, 0, none⟩)) rfl (by kernel_rfl) (by kernel_rfl) (by kernel_rfl) (fun _ _ _ h => h) (.inl ⟨by rfl, by intro w hS; obtain ⟨c1, c2, c3, c4, c7, c8, c9, c10, c11, c12⟩ := hS; go_simp⟩) hH ?_
  (try dsimp only [Act.put]); (try simp only [Act.put, List.setIfInBounds_toArray, List.set_cons_zero, List.set_cons_succ])
  refine wpAnyH_take (i := 32) (v := .pointer (some ⟨p, 6, none⟩)) rfl (by kernel_rfl) (by kernel_rfl) (by kernel_rfl) (fun _ _ _ h => h) (.inl ⟨by rfl, by intro w hS; obtain ⟨c1, c2, c3, c4, c7, c8, c9, c10, c11, c12⟩ := hS; go_simp⟩) hH ?_
  (try dsimp only [Act.put]); (try simp only [Act.put, List.setIfInBounds_toArray, List.set_cons_zero, List.set_cons_succ])
  refine wpAnyH_take (i := 33) (v := .pointer (some ⟨p, 8, none⟩)) rfl (by kernel_rfl) (by kernel_rfl) (by kernel_rfl) (fun _ _ _ h => h) (.inl ⟨by rfl, by intro w hS; obtain ⟨c1, c2, c3, c4, c7, c8, c9, c10, c11, c12⟩ := hS; go_simp⟩) hH ?_
  (try dsimp only [Act.put]); (try simp only [Act.put, List.setIfInBounds_toArray, List.set_cons_zero, List.set_cons_succ])
  refine wpAnyH_take (i := 34) (v := .int .u32 s.a) rfl (by kernel_rfl) (by kernel_rfl) (by kernel_rfl) (fun _ _ _ h => h) (.inl ⟨by rfl, by intro w hS; obtain ⟨c1, c2, c3, c4, c7, c8, c9, c10, c11, c12⟩ := hS; go_simp⟩) hH ?_
  (try dsimp only [Act.put]); (try simp only [Act.put, List.setIfInBounds_toArray, List.set_cons_zero, List.set_cons_succ])
  refine wpAnyH_take (i := 35) (v := .pointer (some ⟨p, 0, none⟩)) rfl (by kernel_rfl) (by kernel_rfl) (by kernel_rfl) (fun _ _ _ h => h) (.inl ⟨by rfl, by intro w hS; obtain ⟨c1, c2, c3, c4, c7, c8, c9, c10, c11, c12⟩ := hS; go_simp⟩) hH ?_
  (try dsimp only [Act.put]); (try simp only [Act.put, List.setIfInBounds_toArray, List.set_cons_zero, List.set_cons_succ])
  refine wpAnyH_take (i := 36) (v := .pointer (some ⟨p, 0, none⟩)) rfl (by kernel_rfl) (by kernel_rfl) (by kernel_rfl) (fun _ _ _ h => h) (.inl ⟨by rfl, by intro w hS; obtain ⟨c1, c2, c3, c4, c7, c8, c9, c10, c11, c12⟩ := hS; go_simp⟩) hH ?_
  (try dsimp only [Act.put]); (try simp only [Act.put, List.setIfInBounds_toArray, List.set_cons_zero, List.set_cons_succ])
  refine wpAnyH_take (i := 37) (v := .pointer (some ⟨p, 6, none⟩)) rfl (by kernel_rfl) (by kernel_rfl) (by kernel_rfl) (fun _ _ _ h => h) (.inl ⟨by rfl, by intro w hS; obtain ⟨c1, c2, c3, c4, c7, c8, c9, c10, c11, c12⟩ := hS; go_simp⟩) hH ?_
  (try dsimp only [Act.put]); (try simp only [Act.put, List.setIfInBounds_toArray, List.set_cons_zero, List.set_cons_succ])
  refine wpAnyH_take (i := 38) (v := .pointer (some ⟨p, 9, none⟩)) rfl (by kernel_rfl) (by kernel_rfl) (by kernel_rfl) (fun _ _ _ h => h) (.inl ⟨by rfl, by intro w hS; obtain ⟨c1, c2, c3, c4, c7, c8, c9, c10, c11, c12⟩ := hS; go_simp⟩) hH ?_
  (try dsimp only [Act.put]); (try simp only [Act.put, List.setIfInBounds_toArray, List.set_cons_zero, List.set_cons_succ])
  refine wpAnyH_take (i := 39) (v := .int .u32 s.s) rfl (by kernel_rfl) (by kernel_rfl) (by kernel_rfl) (fun _ _ _ h => h) (.inl ⟨by rfl, by intro w hS; obtain ⟨c1, c2, c3, c4, c7, c8, c9, c10, c11, c12⟩ := hS; go_simp⟩) hH ?_
  (try dsimp only [Act.put]); (try simp only [Act.put, List.setIfInBounds_toArray, List.set_cons_zero, List.set_cons_succ])
  refine wpAnyH_take (i := 40) (v := .pointer (some ⟨p, 0, none⟩)) rfl (by kernel_rfl) (by kernel_rfl) (by kernel_rfl) (fun _ _ _ h => h) (.inl ⟨by rfl, by intro w hS; obtain ⟨c1, c2, c3, c4, c7, c8, c9, c10, c11, c12⟩ := hS; go_simp⟩) hH ?_
  (try dsimp only [Act.put]); (try simp only [Act.put, List.setIfInBounds_toArray, List.set_cons_zero, List.set_cons_succ])
  refine wpAnyH_take (i := 41) (v := .pointer (some ⟨p, 0, none⟩)) rfl (by kernel_rfl) (by kernel_rfl) (by kernel_rfl) (fun _ _ _ h => h) (.inl ⟨by rfl, by intro w hS; obtain ⟨c1, c2, c3, c4, c7, c8, c9, c10, c11, c12⟩ := hS; go_simp⟩) hH ?_
  (try dsimp only [Act.put]); (try simp only [Act.put, List.setIfInBounds_toArray, List.set_cons_zero, List.set_cons_succ])
  refine wpAnyH_take (i := 42) (v := .pointer (some ⟨p, 6, none⟩)) rfl (by kernel_rfl) (by kernel_rfl) (by kernel_rfl) (fun _ _ _ h => h) (.inl ⟨by rfl, by intro w hS; obtain ⟨c1, c2, c3, c4, c7, c8, c9, c10, c11, c12⟩ := hS; go_simp⟩) hH ?_
  (try dsimp only [Act.put]); (try simp only [Act.put, List.setIfInBounds_toArray, List.set_cons_zero, List.set_cons_succ])
  refine wpAnyH_take (i := 43) (v := .pointer (some ⟨p, 10, none⟩)) rfl (by kernel_rfl) (by kernel_rfl) (by kernel_rfl) (fun _ _ _ h => h) (.inl ⟨by rfl, by intro w hS; obtain ⟨c1, c2, c3, c4, c7, c8, c9, c10, c11, c12⟩ := hS; go_simp⟩) hH ?_
  (try dsimp only [Act.put]); (try simp only [Act.put, List.setIfInBounds_toArray, List.set_cons_zero, List.set_cons_succ])
  refine wpAnyH_take (i := 44) (v := .pointer (some ⟨p, 10, none⟩)) rfl (by kernel_rfl) (by kernel_rfl) (by kernel_rfl) (fun _ _ _ h => h) (.inl ⟨by rfl, by intro w hS; obtain ⟨c1, c2, c3, c4, c7, c8, c9, c10, c11, c12⟩ := hS; go_simp⟩) hH ?_
  (try dsimp only [Act.put]); (try simp only [Act.put, List.setIfInBounds_toArray, List.set_cons_zero, List.set_cons_succ])
  refine wpAnyH_take (i := 45) (v := .int .u32 s.k) rfl (by kernel_rfl) (by kernel_rfl) (by kernel_rfl) (fun _ _ _ h => h) (.inl ⟨by rfl, by intro w hS; obtain ⟨c1, c2, c3, c4, c7, c8, c9, c10, c11, c12⟩ := hS; go_simp⟩) hH ?_
  (try dsimp only [Act.put]); (try simp only [Act.put, List.setIfInBounds_toArray, List.set_cons_zero, List.set_cons_succ])
  refine wpAnyH_take (i := 46) (v := .pointer (some ⟨p, 0, none⟩)) rfl (by kernel_rfl) (by kernel_rfl) (by kernel_rfl) (fun _ _ _ h => h) (.inl ⟨by rfl, by intro w hS; obtain ⟨c1, c2, c3, c4, c7, c8, c9, c10, c11, c12⟩ := hS; go_simp⟩) hH ?_
  (try dsimp only [Act.put]); (try simp only [Act.put, List.setIfInBounds_toArray, List.set_cons_zero, List.set_cons_succ])
  refine wpAnyH_take (i := 47) (v := .pointer (some ⟨p, 0, none⟩)) rfl (by kernel_rfl) (by kernel_rfl) (by kernel_rfl) (fun _ _ _ h => h) (.inl ⟨by rfl, by intro w hS; obtain ⟨c1, c2, c3, c4, c7, c8, c9, c10, c11, c12⟩ := hS; go_simp⟩) hH ?_
  (try dsimp only [Act.put]); (try simp only [Act.put, List.setIfInBounds_toArray, List.set_cons_zero, List.set_cons_succ])
  refine wpAnyH_take (i := 48) (v := .pointer (some ⟨p, 6, none⟩)) rfl (by kernel_rfl) (by kernel_rfl) (by kernel_rfl) (fun _ _ _ h => h) (.inl ⟨by rfl, by intro w hS; obtain ⟨c1, c2, c3, c4, c7, c8, c9, c10, c11, c12⟩ := hS; go_simp⟩) hH ?_
  (try dsimp only [Act.put]); (try simp only [Act.put, List.setIfInBounds_toArray, List.set_cons_zero, List.set_cons_succ])
  refine wpAnyH_take (i := 49) (v := .pointer (some ⟨p, 10, none⟩)) rfl (by kernel_rfl) (by kernel_rfl) (by kernel_rfl) (fun _ _ _ h => h) (.inl ⟨by rfl, by intro w hS; obtain ⟨c1, c2, c3, c4, c7, c8, c9, c10, c11, c12⟩ := hS; go_simp⟩) hH ?_
  (try dsimp only [Act.put]); (try simp only [Act.put, List.setIfInBounds_toArray, List.set_cons_zero, List.set_cons_succ])
  refine wpAnyH_take (i := 50) (v := .pointer (some ⟨p, 11, none⟩)) rfl (by kernel_rfl) (by kernel_rfl) (by kernel_rfl) (fun _ _ _ h => h) (.inl ⟨by rfl, by intro w hS; obtain ⟨c1, c2, c3, c4, c7, c8, c9, c10, c11, c12⟩ := hS; go_simp⟩) hH ?_
  (try dsimp only [Act.put]); (try simp only [Act.put, List.setIfInBounds_toArray, List.set_cons_zero, List.set_cons_succ])
  refine wpAnyH_take (i := 51) (v := .int .u32 s.f) rfl (by kernel_rfl) (by kernel_rfl) (by kernel_rfl) (fun _ _ _ h => h) (.inl ⟨by rfl, by intro w hS; obtain ⟨c1, c2, c3, c4, c7, c8, c9, c10, c11, c12⟩ := hS; go_simp⟩) hH ?_
  (try dsimp only [Act.put]); (try simp only [Act.put, List.setIfInBounds_toArray, List.set_cons_zero, List.set_cons_succ])
  refine wpAnyH_take (i := 52) (v := .pointer (some ⟨p, 0, none⟩)) rfl (by kernel_rfl) (by kernel_rfl) (by kernel_rfl) (fun _ _ _ h => h) (.inl ⟨by rfl, by intro w hS; obtain ⟨c1, c2, c3, c4, c7, c8, c9, c10, c11, c12⟩ := hS; go_simp⟩) hH ?_
  (try dsimp only [Act.put]); (try simp only [Act.put, List.setIfInBounds_toArray, List.set_cons_zero, List.set_cons_succ])
  refine wpAnyH_take (i := 53) (v := .pointer (some ⟨p, 0, none⟩)) rfl (by kernel_rfl) (by kernel_rfl) (by kernel_rfl) (fun _ _ _ h => h) (.inl ⟨by rfl, by intro w hS; obtain ⟨c1, c2, c3, c4, c7, c8, c9, c10, c11, c12⟩ := hS; go_simp⟩) hH ?_
  (try dsimp only [Act.put]); (try simp only [Act.put, List.setIfInBounds_toArray, List.set_cons_zero, List.set_cons_succ])
  refine wpAnyH_take (i := 54) (v := .pointer (some ⟨p, 6, none⟩)) rfl (by kernel_rfl) (by kernel_rfl) (by kernel_rfl) (fun _ _ _ h => h) (.inl ⟨by rfl, by intro w hS; obtain ⟨c1, c2, c3, c4, c7, c8, c9, c10, c11, c12⟩ := hS; go_simp⟩) hH ?_
  (try dsimp only [Act.put]); (try simp only [Act.put, List.setIfInBounds_toArray, List.set_cons_zero, List.set_cons_succ])
  refine wpAnyH_take (i := 55) (v := .pointer (some ⟨p, 10, none⟩)) rfl (by kernel_rfl) (by kernel_rfl) (by kernel_rfl) (fun _ _ _ h => h) (.inl ⟨by rfl, by intro w hS; obtain ⟨c1, c2, c3, c4, c7, c8, c9, c10, c11, c12⟩ := hS; go_simp⟩) hH ?_
  (try dsimp only [Act.put]); (try simp only [Act.put, List.setIfInBounds_toArray, List.set_cons_zero, List.set_cons_succ])
  refine wpAnyH_take (i := 56) (v := .pointer (some ⟨p, 12, none⟩)) rfl (by kernel_rfl) (by kernel_rfl) (by kernel_rfl) (fun _ _ _ h => h) (.inl ⟨by rfl, by intro w hS; obtain ⟨c1, c2, c3, c4, c7, c8, c9, c10, c11, c12⟩ := hS; go_simp⟩) hH ?_
  (try dsimp only [Act.put]); (try simp only [Act.put, List.setIfInBounds_toArray, List.set_cons_zero, List.set_cons_succ])
  refine wpAnyH_take (i := 57) (v := .int .u32 s.t) rfl (by kernel_rfl) (by kernel_rfl) (by kernel_rfl) (fun _ _ _ h => h) (.inl ⟨by rfl, by intro w hS; obtain ⟨c1, c2, c3, c4, c7, c8, c9, c10, c11, c12⟩ := hS; go_simp⟩) hH ?_
  (try dsimp only [Act.put]); (try simp only [Act.put, List.setIfInBounds_toArray, List.set_cons_zero, List.set_cons_succ])
  have K0 : Hid (Kep w V.drew) := KA.out.drew
  refine wpAnyH_ready (rs := [1]) (by kernel_rfl) (by simp) ?_
  refine AllReadyH.cons rfl (fun K hK => ?_) AllReadyH.nil
  rw [if_pos (by rfl)]
  go_simp
  refine (HO.out _ K0.out).mono ?_
  rintro e w1 ⟨xo, co, rfl, o1, k1⟩
  refine hK.out _ _ (CW.out _ (kep_trans K0.out k1)) (fun hH => ?_)
  clear hK K
  (try dsimp only [Act.put]); (try simp only [Act.put, List.setIfInBounds_toArray, List.set_cons_zero, List.set_cons_succ])
  have O1 : Hid _ := o1
  have Q1 : Hid (Kep V.drew w1) := k1
  have K1 : Hid (Kep w w1) := kep_trans K0.out k1
  clear o1 k1
  refine wpAnyH_ready (rs := [3]) (by kernel_rfl) (by simp) ?_
  refine AllReadyH.cons rfl (fun K hK => ?_) AllReadyH.nil
  rw [if_pos (by rfl)]
  go_simp
  refine (HD.out _ K1.out).mono ?_
  rintro e w2 ⟨xd, cd, rfl, o2, k2⟩
  refine hK.out _ _ (CW.out _ (kep_trans K1.out k2)) (fun hH => ?_)
  clear hK K
  (try dsimp only [Act.put]); (try simp only [Act.put, List.setIfInBounds_toArray, List.set_cons_zero, List.set_cons_succ])
  have O2 : Hid _ := o2
  have Q2 : Hid (Kep w1 w2) := k2
  have K2 : Hid (Kep w w2) := kep_trans K1.out k2
  clear o2 k2
  refine wpAnyH_ready (rs := [9]) (by kernel_rfl) (by simp) ?_
  refine AllReadyH.cons rfl (fun K hK => ?_) AllReadyH.nil
  rw [if_pos (by rfl)]
  go_simp
  refine (HQ.out _ K2.out).mono ?_
  rintro e w3 ⟨xq, cq, rfl, o3, k3⟩
  refine hK.out _ _ (CW.out _ (kep_trans K2.out k3)) (fun hH => ?_)
  clear hK K
  (try dsimp only [Act.put]); (try simp only [Act.put, List.setIfInBounds_toArray, List.set_cons_zero, List.set_cons_succ])
  have O3 : Hid _ := o3
  have Q3 : Hid (Kep w2 w3) := k3
  have K3 : Hid (Kep w w3) := kep_trans K2.out k3
  clear o3 k3
  refine wpAnyH_ready (rs := [14]) (by kernel_rfl) (by simp) ?_
  refine AllReadyH.cons rfl (fun K hK => ?_) AllReadyH.nil
  rw [if_pos (by rfl)]
  go_simp
  refine (HS.out _ K3.out).mono ?_
  rintro e w4 ⟨xs, cs, rfl, o4, k4⟩
  refine hK.out _ _ (CW.out _ (kep_trans K3.out k4)) (fun hH => ?_)
  clear hK K
  (try dsimp only [Act.put]); (try simp only [Act.put, List.setIfInBounds_toArray, List.set_cons_zero, List.set_cons_succ])
  have O4 : Hid _ := o4
  have Q4 : Hid (Kep w3 w4) := k4
  have K4 : Hid (Kep w w4) := kep_trans K3.out k4
  clear o4 k4
  refine wpAnyH_take (i := 58) (v := .agg (savL zH (.slice xo s.O.length co) (.slice xd s.D.length cd) (.slice xq s.Q.length cq) (.slice xs s.E.length cs) s.b s.m s.n s.a s.s s.k s.f s.t).toArray) rfl (by kernel_rfl) (by kernel_rfl) (by kernel_rfl) (fun _ _ _ h => h) (.inl ⟨by rfl, by intro w hS; kernel_rfl⟩) hH ?_
  (try simp only [List.getElem_toArray, List.getElem_cons_zero, List.getElem_cons_succ, Act.put, List.setIfInBounds_toArray, List.set_cons_zero, List.set_cons_succ])
  refine wpAnyH_ready (rs := [59]) (by kernel_rfl) (by simp) ?_
  refine AllReadyH.cons rfl (fun K hK => ?_) AllReadyH.nil
  rw [if_pos (by rfl)]
  have B4 : w4.heap[r]? = some (.cells Z 55 (0, 0)) := Q4.out.block (Q3.out.block (Q2.out.block (Q1.out.block BA.out)))
  refine wp_store_row 55 _ _ rfl r (savL zH (.slice xo s.O.length co) (.slice xd s.D.length cd) (.slice xq s.Q.length cq) (.slice xs s.E.length cs) s.b s.m s.n s.a s.s s.k s.f s.t).toArray rfl rfl 55 Z B4 (by exact size_sav) (by rw [hzs.out]; rfl) (sav_one (H := zH) rfl _ _ _ _ _ _ _ _ _ _ _ _ _ _ _ _ _ _ _ _) ?_
  have KR : Hid (Kep w (w4.setRow r (savL zH (.slice xo s.O.length co) (.slice xd s.D.length cd) (.slice xq s.Q.length cq) (.slice xs s.E.length cs) s.b s.m s.n s.a s.s s.k s.f s.t).toArray)) := K4.out.setRow _ _ (by rw [hr.out]; exact Nat.le_refl _)
  have BR : Hid ((w4.setRow r (savL zH (.slice xo s.O.length co) (.slice xd s.D.length cd) (.slice xq s.Q.length cq) (.slice xs s.E.length cs) s.b s.m s.n s.a s.s s.k s.f s.t).toArray).heap[r]? = some (.cells (savL zH (.slice xo s.O.length co) (.slice xd s.D.length cd) (.slice xq s.Q.length cq) (.slice xs s.E.length cs) s.b s.m s.n s.a s.s s.k s.f s.t).toArray 55 (0, 0))) := setRow_heap _ _ _ _ _ _ B4
  have PR : Hid (Put [r] w4 (w4.setRow r (savL zH (.slice xo s.O.length co) (.slice xd s.D.length cd) (.slice xq s.Q.length cq) (.slice xs s.E.length cs) s.b s.m s.n s.a s.s s.k s.f s.t).toArray)) := (Put.refl w4).setRow (by simp) _
  refine hK.out _ _ (CW.out _ KR.out) (fun hH => ?_)
  clear hK K
  (try simp only [List.getElem_toArray, List.getElem_cons_zero, List.getElem_cons_succ, Act.put, List.setIfInBounds_toArray, List.set_cons_zero, List.set_cons_succ])
  refine wpAnyH_done (by kernel_rfl) ?_ _
  generalize w4.setRow r (savL zH (.slice xo s.O.length co) (.slice xd s.D.length cd) (.slice xq s.Q.length cq) (.slice xs s.E.length cs) s.b s.m s.n s.a s.s s.k s.f s.t).toArray = W at KR BR PR ⊢
  go_wp2_with fail
  refine bodyPost_ret (results_cell_row rfl _ _ r 55 _ (0, 0) _ (by kernel_rfl) BR.out Try.underlying55 rfl (by exact size_sav)) rfl ⟨xo, co, xd, cd, xq, cq, xs, cs, rfl, ⟨?_, ?_, ?_, ?_⟩, KR.out⟩
  · obtain ⟨G, s1, s2⟩ := OwnN.kep O1.out (kep_trans Q2.out (kep_trans Q3.out Q4.out))
    exact ⟨G, s1.put PR.out (fun g hg hm => s1.ne_tag hg B4 (by decide) (by simpa using hm)), s2⟩
  · obtain ⟨G, s1, s2⟩ := OwnN.kep O2.out (kep_trans Q3.out Q4.out)
    exact ⟨G, s1.put PR.out (fun g hg hm => s1.ne_tag hg B4 (by decide) (by simpa using hm)), s2⟩
  · obtain ⟨G, s1, s2⟩ := OwnN.kep O3.out (Q4.out)
    exact ⟨G, s1.put PR.out (fun g hg hm => s1.ne_tag hg B4 (by decide) (by simpa using hm)), s2⟩
  · obtain ⟨G, s1, s2⟩ := OwnN.kep O4.out (Kep.refl _)
    exact ⟨G, s1.put PR.out (fun g hg hm => s1.ne_tag hg B4 (by decide) (by simpa using hm)), s2⟩
end Go.Proofs.Ytpieeefeicdfgab
