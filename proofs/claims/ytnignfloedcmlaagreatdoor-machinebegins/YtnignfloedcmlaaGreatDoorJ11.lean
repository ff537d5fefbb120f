/- Part of a proof. -/
import Derived.Test.YtnignfloedcmlaaGreatDoorJ10
namespace Go.Proofs.YtnignfloedcmlaaGreatDoor
open Go.RowKit Go.Shelf
set_option linter.unusedVariables false
attribute [local go_sem] Oper.semAt_some
theorem due_any (w : World) (p : Nat) (step : Int) :
    Calls Tryz.prog 59 #[.pointer (some ⟨p, 0, none⟩), .int .i64 step] w fun e w' => e = .returned (.func (.func 72) #[] #[.pointer (some ⟨w.heap.size, 0, none⟩), .pointer (some ⟨w.heap.size + 1, 0, none⟩)]) ∧ w' = (w.alloc (.cells #[.pointer (some ⟨p, 0, none⟩)] 68)).alloc (.cells #[.int .i64 step] 3) := by
  have hmf : ∀ (fn : Fn) (first cap : Array Value) (w : World), (Instr.makeFunc fn first cap).run Tryz.prog w = .ok (.func fn first cap) w := fun _ _ _ _ => rfl
  go_enter Tryz.func59, Tryz.ntmps59
  go_wp2
  go_ret
  exact ⟨rfl, rfl⟩
def leftN (p : Nat) (W : World) : Nat := match W.cell? ⟨p, 1, none⟩ with
  | some (.slice _ n _) => n
  | _ => 0
def ComeM (w : World) (p : Nat) (F0 : List Nat) (v : Value) (R : Nat) (ix : List Nat) (step : Int) (x : CS) (y : Ev) (W : World) : Prop :=
  ∃ e r, x.s.E = e :: r ∧ e.1 ≤ step ∧ y = (step, e.2.1, e.2.2) ∧ (wrongB e = false ∧ 0 ≤ e.2.2 ∧ e.2.2 < 256) ∧ x.c.length + x.s.E.length ≤ 64 ∧ ComeI w p F0 v R ix step { x with s := { x.s with E := r } } W
theorem ComeI.left {w : World} {p : Nat} {F0 : List Nat} {v : Value} {R : Nat} {ix : List Nat} {step : Int} {x : CS} {W : World} (h : ComeI w p F0 v R ix step x W) : leftN p W = x.s.E.length := by
  obtain ⟨F, vc, Gc, vw, Gw, A⟩ := h
  obtain ⟨vs, vq, vo, vb, Fs, Fq, Fo, Fb, D, _⟩ := A.dev
  obtain ⟨xs, cs, hv, _⟩ := D.sc.lies
  unfold leftN
  rw [show W.cell? ⟨p, 1, none⟩ = some vs from D.c 1, hv]
set_option maxRecDepth 100000 in
set_option maxHeartbeats 4000000 in
theorem due1_in (d l B0 : Nat) (hd : 1 ≤ d) (w : World) (p : Nat) (F0 : List Nat) (v : Value) (R : Nat) (ix : List Nat) (step : Int) (x0 : CS)
    (J : CS → World → Prop) (Jm : CS → Ev → World → Prop) (W : World) (hJ : ∀ x W, J x W → ComeI w p F0 v R ix step x W) (hJm : ∀ s x W W', J s W → KeepsFrom B0 W W' → ComeM w p F0 v R ix step s x W' → Jm s x W') (hJJ : ∀ s W W', J s W → KeepsFrom B0 W W' → ComeI w p F0 v R ix step s W' → J s W')
    (hY : ∀ s x W, Jm s x W → YieldAt Fence.wide (d - 1) Tryz.prog l #[.agg (evV x).toArray] W fun e W' => e = .returned (.bool true) ∧ J (nxt step ix s) W') (h0 : J x0 W) :
    CallsIn Fence.wide d Tryz.prog 72 (#[.func (.yield l) #[] #[]] ++ #[.pointer (some ⟨w.heap.size + 4, 0, none⟩), .pointer (some ⟨w.heap.size + 5, 0, none⟩)]) W fun e W' => (∃ v, e = .returned v) ∧ ∃ s, dueB step s.s = false ∧ J s W' := by
  have hJ' : Hid _ := hJ
  have hJm' : Hid _ := hJm
  have hJJ' : Hid _ := hJJ
  have hY' : Hid _ := hY
  have h0' : Hid (J x0 W) := h0
  clear hJ hJm hJJ hY h0
  refine callsIn_of_wp Tryz.func72 rfl trivial ?_ rfl
  simp only [Tryz.ntmps72, List.size_toArray, List.length_cons, List.length_nil, Nat.reduceAdd, Nat.reduceSub, Array.replicate_succ, Array.replicate_zero, List.push_toArray, List.append_toArray, List.nil_append, List.cons_append]
  gi_wp2_with fail
  gi_loopw [4] (fun _ wr => ∃ x : CS, Hid (J x wr)) (fun _ wr => leftN p wr)
  case atStart => exact ⟨x0, h0'⟩
  case round =>
    obtain ⟨x, hJx⟩ := hrel
    obtain ⟨F, vc, Gc, vw, Gw, A⟩ := hJ'.out x wr hJx.out
    obtain ⟨vs, vq, vo, vb, Fs, Fq, Fo, Fb, D, hF⟩ := A.dev
    have A' : Hid (ComeA w p F0 v R ix step x wr F vc Gc vw Gw) := A
    have D' : Hid (DevAt wr p x.s vs vq vo vb Fs Fq Fo Fb) := D
    have c4 := A.b4.cell
    have c5 := A.b5.cell
    have c1 : wr.cell? ⟨p, 1, none⟩ = some vs := D.c 1
    have fz := D.fz 1
    obtain ⟨xs, cs, hv, hlies, hle, hmx, _⟩ := D.sc.lies
    have hn64 : (x.s.E.length : Int) ≤ 64 := by have := A.len; omega
    cases hE : x.s.E with
    | nil =>
      rw [hE] at hv
      simp only [List.length_nil] at hv
      subst hv
      have hdue : Hid (dueB step x.s = false) := by unfold Hid dueB; rw [hE]
      clear A D hlies hE hn64 hle
      gi_wp2_with fail
      gi_big_quiet_th (fail)
      gi_wp2_with fail
      go_end0
      refine ⟨⟨_, rfl⟩, x, hdue.out, hJJ'.out x wr _ hJx.out (KeepsFrom.of_put ((Put.refl (l := []) wr).drewN _) (by simp)) ⟨F, vc, Gc, vw, Gw, A'.out.kep ((Kep.refl _).drewN _)⟩⟩
    | cons e r =>
      obtain ⟨ea, eb, ec⟩ := e
      rw [hE] at hv hlies hle hn64
      have hn1 : (1 : Int) ≤ (((ea, eb, ec) :: r).length : Int) := by simp only [List.length_cons]; omega
      have hle' : (((ea, eb, ec) :: r).length : Int) ≤ cs := by omega
      have hmx' : (cs : Int) ≤ 9223372036854775807 := by unfold maxLen at hmx; omega
      rcases hlies with hlies | ⟨b, off, hxs, hb, hcell⟩
      · rw [evs_cons] at hlies; simp [evV] at hlies
      subst hxs
      have e0 : wr.cell? ⟨b, off, none⟩ = some (.int .i64 ea) := hcell 0 _ rfl
      have e1 : wr.cell? ⟨b, off + 1, none⟩ = some (.int .i64 eb) := hcell 1 _ rfl
      have e2 : wr.cell? ⟨b, off + 2, none⟩ = some (.int .u8 ec) := hcell 2 _ rfl
      have hE' : Hid (x.s.E = (ea, eb, ec) :: r) := hE
      by_cases hdu : ea ≤ step
      · obtain ⟨v', hs', hrun⟩ := D.sc.tail (P := Tryz.prog) 37 (by rw [hE]; simp) (by kernel_rfl) (fun w => by kernel_rfl)
        obtain ⟨x1, c1', hv', _⟩ := hs'.lies
        have hs2 : Hid (Sli wr 74 3 v' r.length (evs r) Fs) := by rw [hE] at hs'; show Sli wr 74 3 v' r.length (evs r) Fs; simpa [evs_cons, evV] using hs'
        rw [hE] at hv'
        simp only [List.length_cons, Nat.add_sub_cancel] at hv'
        subst hv'
        subst hv
        have t1 : decide (ea ≤ step) = true := decide_eq_true hdu
        have hdu' : Hid (ea ≤ step) := hdu
        obtain ⟨n, hn⟩ : ∃ n, Hid (n = ((ea, eb, ec) :: r).length) := ⟨_, rfl⟩
        rw [← hn.out] at hn1 hle' c1 hrun hn64
        have hn0 : decide (0 < n) = true := decide_eq_true (by omega)
        have lp : p < wr.heap.size := World.block_lt_of_cell? _ _ c1
        have lb4 : w.heap.size + 4 < wr.heap.size := World.block_lt_of_cell? _ _ c4
        clear A D hE hcell hle hmx hdu hs'
        gi_wp2_with fail
        gi_big_quiet_th (fail)
        have kd : Kep wr (wr.drewN nq) := (Kep.refl wr).drewN nq
        have hJd : Hid (J x (wr.drewN nq)) := hJJ'.out x wr _ hJx.out (KeepsFrom.of_put (Put.of_kep (l := []) kd) (by simp)) ⟨F, vc, Gc, vw, Gw, A'.out.kep kd⟩
        have A2 : Hid (ComeA w p F0 v R ix step x (wr.drewN nq) F vc Gc vw Gw) := A'.out.kep kd
        have D2 : Hid (DevAt (wr.drewN nq) p x.s _ vq vo vb Fs Fq Fo Fb) := D'.out.kep kd
        have S2 : Hid (Sli (wr.drewN nq) 74 3 (.slice x1 r.length c1') r.length (evs r) Fs) := hs2.out.kep kd
        have c4 : (wr.drewN nq).cell? ⟨w.heap.size + 4, 0, none⟩ = some (.pointer (some ⟨p, 0, none⟩)) := c4
        have c5 : (wr.drewN nq).cell? ⟨w.heap.size + 5, 0, none⟩ = some (.int .i64 step) := c5
        have c1 : (wr.drewN nq).cell? ⟨p, 1, none⟩ = some (.slice (some ⟨b, off, none⟩) n cs) := c1
        have fz : (wr.drewN nq).frozen? ⟨p, 1, none⟩ = false := fz
        have e0 : (wr.drewN nq).cell? ⟨b, off, none⟩ = some (.int .i64 ea) := e0
        have e1 : (wr.drewN nq).cell? ⟨b, off + 1, none⟩ = some (.int .i64 eb) := e1
        have e2 : (wr.drewN nq).cell? ⟨b, off + 2, none⟩ = some (.int .u8 ec) := e2
        have lp : p < (wr.drewN nq).heap.size := lp
        have lb4 : w.heap.size + 4 < (wr.drewN nq).heap.size := lb4
        have hl2 : Hid (leftN p wr = x.s.E.length) := ComeI.left ⟨F, vc, Gc, vw, Gw, A'.out⟩
        clear kd hJx A' D' hs2
        generalize wr.drewN nq = w2 at *
        obtain ⟨fn, tmps, assign, body, hy, hR⟩ := hY'.out x (step, eb, ec) (((w2.setCell ⟨p, 1, none⟩ (.slice x1 r.length c1')).alloc (.cells #[.int .i64 step, .int .i64 eb, .int .u8 ec] 74)).drew) (by
          obtain ⟨r1, r2⟩ := D2.out.news S2.out
          have k3 : Kep (w2.setCell ⟨p, 1, none⟩ (.slice x1 r.length c1')) (((w2.setCell ⟨p, 1, none⟩ (.slice x1 r.length c1')).alloc (.cells #[.int .i64 step, .int .i64 eb, .int .u8 ec] 74)).drew) := ((Kep.refl _).alloc _).drew
          have P3 := r2.trans (Put.of_kep k3)
          have hpF : p ∈ F := by rw [hF]; simp
          have A := A2.out
          refine hJm'.out x _ w2 _ hJd.out (KeepsFrom.of_put P3 (fun g hg _ => ⟨_, _, _, by simp at hg; subst hg; exact D2.out.box⟩)) ⟨(ea, eb, ec), r, hE'.out, hdu'.out, rfl, A.ok.s.ev (ea, eb, ec) (by rw [hE'.out]; simp), A.len, F, vc, Gc, vw, Gw, ?_⟩
          refine A.turn (P3.mono (by simp; exact .inr hpF)) (s' := { x.s with E := r }) ⟨_, _, _, _, _, _, _, _, r1.kep k3, hF⟩ (A.mem.put (P3.mono (by simpa using hpF)) (fun g hg => .inl hg)) (fun g hg => .inl hg) rfl ⟨⟨A.ok.s.b, A.ok.s.m, A.ok.s.q, A.ok.s.qb, A.ok.s.d, A.ok.s.d6, A.ok.s.db, A.ok.s.n, A.ok.s.a, A.ok.s.f, A.ok.s.t, A.ok.s.cmd, fun y hy => A.ok.s.ev y (by rw [hE'.out]; simp [show y ∈ r from hy])⟩, A.ok.B, A.ok.fits⟩ (by rw [hE'.out]; simp))
        have hR : Hid _ := hR
        have hp6 : p < w.heap.size ∨ w.heap.size + 6 ≤ p := by
          rcases A2.out.fF p (by rw [hF]; simp) with h | h
          · exact .inl (A2.out.f0 p h)
          · exact .inr h
        have hp5 : p ≠ w.heap.size + 5 := by omega
        have hp4 : p ≠ w.heap.size + 4 := by omega
        have hp5' : w.heap.size + 5 ≠ p := by omega
        have lb5 : w.heap.size + 5 < w2.heap.size := World.block_lt_of_cell? _ _ c5
        clear hp6
        have hy : (Instr.yield l #[.agg #[.int .i64 step, .int .i64 eb, .int .u8 ec]]).run Tryz.prog _ = _ := hy
        gi_wp2_with fail
        gi_region_with (fail)
        all_goals
          gi_wp2_with fail
          refine RoundIn.mono hR.out ?_
          rintro e W4 ⟨rfl, hJ4⟩
          have hJ4' : Hid (J (nxt step ix x) W4) := hJ4
          have hl4 : Hid (leftN p W4 + 1 = x.s.E.length) := by
            rw [Hid, ComeI.left (hJ'.out _ _ hJ4)]
            exact nxt_E (by unfold dueB; rw [hE'.out]; exact decide_eq_true hdu'.out)
          clear hJ4
          gi_wp2_with fail
          go_roundw
          case rel => exact ⟨nxt step ix x, hJ4'⟩
          case measure => have := hl4.out; have := hl2.out; omega
      · subst hv
        have t1 : decide (ea ≤ step) = false := decide_eq_false hdu
        have hdue : Hid (dueB step x.s = false) := by unfold Hid dueB; rw [hE]; exact t1
        generalize ((ea, eb, ec) :: r).length = n at hn1 hle' c1 hn64
        have hn0 : decide (0 < n) = true := decide_eq_true (by omega)
        clear A D hE hcell hle hmx hdu hE' e1 e2
        gi_wp2_with fail
        gi_big_quiet_th (fail)
        gi_wp2_with fail
        go_end0
        refine ⟨⟨_, rfl⟩, x, hdue.out, hJJ'.out x wr _ hJx.out (KeepsFrom.of_put ((Put.refl (l := []) wr).drewN _) (by simp)) ⟨F, vc, Gc, vw, Gw, A'.out.kep ((Kep.refl _).drewN _)⟩⟩
end Go.Proofs.YtnignfloedcmlaaGreatDoor
namespace Go.Proofs.YtnignfloedcmlaaGreatDoor
open Go.RowKit Go.Shelf
set_option linter.unusedVariables false
set_option linter.unusedSimpArgs false
attribute [local go_sem] Oper.semAt_some
theorem Sli.celled {w : World} {e : TypeId} {z : Nat} {v : Value} {n : Nat} {xs : List Value} {F : List Nat} (h : Sli w e z v n xs F) : ∀ g ∈ F, ∃ cs t fr, w.heap[g]? = some (.cells cs t fr) := by
  rcases h with ⟨h0, ⟨_, _, rfl⟩ | ⟨g, off, cap, cur, rfl, rfl, hg, r⟩⟩
  · simp
  · intro b hb; obtain rfl : b = g := by simpa using hb
    exact ⟨_, _, _, hg⟩
theorem Dev.celled {w : World} {p : Nat} {s : DS} {F : List Nat} (h : Dev w p s F) : ∀ g ∈ F, ∃ cs t fr, w.heap[g]? = some (.cells cs t fr) := by
  obtain ⟨vs, vq, vo, vb, Fs, Fq, Fo, Fb, h, rfl⟩ := h
  intro g hg
  simp only [List.mem_cons, List.mem_append] at hg
  rcases hg with rfl | hg | hg | hg | hg
  · exact ⟨_, _, _, h.box⟩
  · exact h.sc.celled g hg
  · exact h.q.celled g hg
  · exact h.o.celled g hg
  · exact h.d.celled g hg
theorem ComeA.keeps {w : World} {p : Nat} {F0 : List Nat} {v : Value} {R : Nat} {ix : List Nat} {step : Int} {x : CS} {W W' : World} {F : List Nat} {vc : Value} {Gc : List Nat} {vw : Value} {Gw : List Nat} (A : ComeA w p F0 v R ix step x W F vc Gc vw Gw) (P : Put (rwL R x.B ++ F) W W') (b : Nat) : KeepsFrom b W W' :=
  KeepsFrom.of_put P fun g hg _ => by
    rcases List.mem_append.1 hg with h | h
    · have := mem_rwL h
      rcases A.mem with ⟨_, _, h0⟩ | ⟨_, hm, _⟩
      · exact absurd h0 this.2
      · rw [this.1]; exact ⟨_, _, _, hm.row this.2⟩
    · exact A.dev.celled g h
theorem Sli.keeps {w w' : World} {e : TypeId} {z : Nat} {v : Value} {n : Nat} {xs : List Value} {F : List Nat} (h : Sli w e z v n xs F) (P : Put F w w') (b : Nat) : KeepsFrom b w w' := KeepsFrom.of_put P fun g hg _ => h.celled g hg
theorem kep_keeps {w w' : World} (k : Kep w w') (b : Nat) : KeepsFrom b w w' := KeepsFrom.of_put (Put.of_kep (l := []) k) (by simp)
theorem run_append_none {P : Program} {w : World} (t ty e : TypeId) (i : TypeInfo) (z : Nat) (ht : P.underlying t = some (.slice e)) (hi : P.info? e = some i) (hsize : i.size = z) {v : Value} {n : Nat} {xs : List Value} {F : List Nat} (h : Sli w e z v n xs F) :
    (Builtin.append_ #[t, t] ty #[v, .slice none 0 0]).run P w = .ok v w := by
  rcases h with ⟨h0, ⟨rfl, rfl, rfl⟩ | ⟨g, off, cap, cur, rfl, rfl, hg, h2, h3, h4, h5⟩⟩
  · simp [Builtin.append_, run_underlying ht, sizeOf, typeInfo, hi, Builtin.lenOf, Builtin.firstCells, loadCells, loadCellsFrom]
  · simp [Builtin.append_, run_underlying ht, sizeOf, typeInfo, hi, Builtin.lenOf, Builtin.firstCells, loadCells, loadCellsFrom, h2, storeCells]
theorem info_int : (Tryz.prog.info? 3).map (fun i => (i.zero, i.size, i.bytes)) = some (some (.int .i64 0), 1, 8) := by kernel_rfl
theorem run_append_frames {W : World} {vw vf : Value} {n : Nat} {xs : List Value} {ys : List Int} {Gw G : List Nat} (hw : Sli W 3 1 vw n xs Gw) (hf : Sli W 3 1 vf ys.length (ys.map (Value.int .i64)) G) (hy : ys.length ≤ 1) (hn : n ≤ 64) :
    ∃ v' w' G', (Builtin.append_ #[96, 96] 96 #[vw, vf]).run Tryz.prog W = .ok v' w' ∧ Sli w' 3 1 v' (n + ys.length) (xs ++ ys.map (Value.int .i64)) G' ∧ Put Gw W w' ∧ ∀ g ∈ G', g ∈ Gw ∨ W.heap.size ≤ g := by
  obtain ⟨i0, hi, hz0, hz1, hz2⟩ := info_parts info_int
  rcases hf.form with ⟨rfl, hl, hx, _⟩ | ⟨g, off, cap, rfl, _, h1, h2, h3, h4, _⟩
  · obtain rfl : ys = [] := List.eq_nil_of_length_eq_zero hl
    exact ⟨vw, W, Gw, run_append_none _ _ _ i0 1 Tryz.underlying96 hi hz1 hw, by simpa using hw, Put.refl _, fun g hg => .inl hg⟩
  · match ys, hy with
    | [], _ =>
      have hr : (Builtin.append_ #[96, 96] 96 #[vw, .slice (some ⟨g, off, none⟩) 0 cap]).run Tryz.prog W = .ok vw W := by
        rcases hw with ⟨h0, ⟨rfl, rfl, rfl⟩ | ⟨g', off', cap', cur, rfl, rfl, hg, h2', h3', h4', h5'⟩⟩
        · simp [Builtin.append_, run_underlying Tryz.underlying96, sizeOf, typeInfo, hi, Builtin.lenOf, Builtin.firstCells, loadCells, loadCellsFrom]
        · simp [Builtin.append_, run_underlying Tryz.underlying96, sizeOf, typeInfo, hi, Builtin.lenOf, Builtin.firstCells, loadCells, loadCellsFrom, h2', storeCells]
      exact ⟨vw, W, Gw, hr, by simpa using hw, Put.refl _, fun g hg => .inl hg⟩
    | [y], _ =>
      obtain ⟨v', w', G', r1, r2, r3, r4⟩ := run_append_sli (P := Tryz.prog) 96 96 3 i0 _ 1 8 Tryz.underlying96 hi hz0 hz1 hz2 rfl (by decide) hw ⟨g, off, none⟩ cap [.int .i64 y] rfl (fun j u hj => by rw [Addr.add_lit]; exact h4 j u hj) (by simp [Value.oneCell']) (by unfold maxLen; omega) (by omega)
      exact ⟨v', w', G', r1, r2, r3, r4⟩
end Go.Proofs.YtnignfloedcmlaaGreatDoor
