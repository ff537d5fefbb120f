/- Part of a proof. -/
import Derived.WalkMore
import Derived.Test.YtamffningddgbaaGreatDoorJ18
namespace Go.Proofs.YtamffningddgbaaGreatDoor
open Go.RowKit
set_option linter.unusedVariables false
set_option linter.unusedSimpArgs false
theorem mstN_range (m : Int) : 1 ≤ mstN m ∧ mstN m ≤ 32 ∧ (mstN m : Int) = min (max m 1) 32 := by unfold mstN; omega
structure Rnd (B : List Int) (ix : List Nat) (s : Sta) (m : Int) (k : Nat) (x : SB) : Prop where
  c : Cnt k x
  f : Foll s x
  km : k ≤ mstN m
  r : SB.run B ix s (mstN m - k) x = scnB B ix s m
  z : 1 ≤ k → (fetF B ix s).1 = 0
  t0 : x.t = 0
theorem Foll.range {s : Sta} {x : SB} (F : Foll s x) (ok : s.Ok) : 0 ≤ x.n ∧ x.n < 4294967296 := by
  have := ok.pc
  have e := F.n
  rcases Nat.eq_zero_or_pos x.R.length with h | h
  · omega
  · have := (F.at_ (x.R.length - 1) (by omega)).2
    omega
theorem rnd_zero {B : List Int} {ix : List Nat} {s : Sta} (ok : s.Ok) (m : Int) : Rnd B ix s m 0 (sb0 s) := ⟨cnt_zero s, foll_zero ok, Nat.zero_le _, rfl, by omega, rfl⟩
theorem resultsBB {P : Program} {fn : Func} {p q : Tmp} {ty ty' : TypeId} (h : fn.results = #[.cell p ty, .cell q ty']) (tmps : Array Value) (w : World) (g : Nat) (t : TypeId) (cs : Array Value) (fr : Nat × Nat) (d : TypeDesc)
    (g' : Nat) (t' : TypeId) (cs' : Array Value) (fr' : Nat × Nat) (d' : TypeDesc)
    (hp : tmps.getD p undef = .pointer (some ⟨g, 0, none⟩)) (hg : w.heap[g]? = some (.cells cs t fr))
    (hu : P.underlying ty = some d) (hd : (match d with | .struct _ | .array _ _ => true | _ => false) = true) (hi : (P.info? ty).map (·.size) = some cs.size)
    (hp' : tmps.getD q undef = .pointer (some ⟨g', 0, none⟩)) (hg' : w.heap[g']? = some (.cells cs' t' fr'))
    (hu' : P.underlying ty' = some d') (hd' : (match d' with | .struct _ | .array _ _ => true | _ => false) = true) (hi' : (P.info? ty').map (·.size) = some cs'.size) :
    (results fn tmps).run P w = .ok (.tuple #[.agg cs, .agg cs']) w := by
  have e1 : tmps[p]?.getD undef = .pointer (some ⟨g, 0, none⟩) := by simpa using hp
  have e2 : tmps[q]?.getD undef = .pointer (some ⟨g', 0, none⟩) := by simpa using hp'
  simp [results, h, e1, e2, asAddr, run_loadVar_row w g t ty cs fr d hg hu hd hi, run_loadVar_row w g' t' ty' cs' fr' d' hg' hu' hd' hi']
structure TlW (w W : World) (s : Sta) (st rb rf bb L : Nat) (I : List In4) (A : List Int) (R : List Sr) (C : Array Value) (vI vA vR : Value) : Prop where
  kp : Kep w W
  fx : st < L ∧ rb < L ∧ rf < L ∧ bb < L ∧ w.heap.size ≤ rb ∧ w.heap.size ≤ rf ∧ w.heap.size ≤ bb ∧ bb ≠ st ∧ bb ≠ rb ∧ bb ≠ rf ∧ rb ≠ rf
  cs : W.heap[st]? = some (.cells s.v 28 (0, 0))
  cb : W.heap[rb]? = some (.cells (blkC nilS nilS 0 0 0 nilS nilS) 40 (0, 0))
  cf : W.heap[rf]? = some (.cells #[.int .i64 0, .int .u32 0] 42 (0, 0))
  ct : W.heap[bb]? = some (.cells C 40 (0, 0))
  sr : ∃ FI FA FR, Sli W 53 4 vI I.length (inss I) FI ∧ Sli W 25 1 vA A.length (num .u32 A) FA ∧ Sli W 74 7 vR R.length (srs R) FR ∧ (∀ b ∈ FI, L ≤ b) ∧ (∀ b ∈ FA, L ≤ b) ∧ ∀ b ∈ FR, L ≤ b
  lL : L ≤ W.heap.size
theorem ScW.tl {w W : World} {s : Sta} {st rb rf bb p o kb L : Nat} {I : List In4} {A : List Int} {R : List Sr} {n t e : Int} {vI vA vR : Value} {FI FA FR : List Nat} (H : ScW w W s st rb rf bb p o kb L I A R n t e vI vA vR FI FA FR) : TlW w W s st rb rf bb L I A R (blkC vI vA n t e nilS nilS) vI vA vR :=
  have hi := H.fx.hi; have lo := H.fx.lo; have b1 := H.fx.b1
  ⟨H.kp, ⟨hi.1, hi.2.1, hi.2.2.1, hi.2.2.2.1, lo.2.1, lo.2.2.1, lo.2.2.2.1, b1.1, b1.2.1, b1.2.2.1, H.fx.r1⟩, H.cs, H.cb, H.cf, H.ct, ⟨FI, FA, FR, H.si, H.sa, H.sr, H.gi, H.ga, H.gr⟩, H.lL⟩
section
variable {w W W' : World} {s : Sta} {st rb rf bb L : Nat} {I : List In4} {A : List Int} {R : List Sr} {C C' : Array Value} {vI vA vR : Value}
theorem TlW.kep (H : TlW w W s st rb rf bb L I A R C vI vA vR) (k : Kep W W') : TlW w W' s st rb rf bb L I A R C vI vA vR := by
  obtain ⟨FI, FA, FR, h1, h2, h3, h4, h5, h6⟩ := H.sr
  exact ⟨kep_trans H.kp k, H.fx, k.block H.cs, k.block H.cb, k.block H.cf, k.block H.ct, ⟨FI, FA, FR, h1.kep k, h2.kep k, h3.kep k, h4, h5, h6⟩, Nat.le_trans H.lL k.size⟩
theorem TlW.box (H : TlW w W s st rb rf bb L I A R C vI vA vR) (k : Put [bb] W W') (hc : W'.heap[bb]? = some (.cells C' 40 (0, 0))) : TlW w W' s st rb rf bb L I A R C' vI vA vR := by
  obtain ⟨FI, FA, FR, h1, h2, h3, h4, h5, h6⟩ := H.sr
  have hf := H.fx
  have no : ∀ F : List Nat, (∀ b ∈ F, L ≤ b) → ∀ b ∈ F, b ∉ [bb] := fun F h b hb hm => by
    have := h b hb; simp at hm; omega
  exact ⟨H.kp.put k (by simp; omega), H.fx, k.keeps H.cs (by simp; omega), k.keeps H.cb (by simp; omega), k.keeps H.cf (by simp; omega), hc, ⟨FI, FA, FR, h1.put k (no _ h4), h2.put k (no _ h5), h3.put k (no _ h6), h4, h5, h6⟩, Nat.le_trans H.lL k.size⟩
theorem TlW.last (H : TlW w W s st rb rf bb L I A R C vI vA vR) (k : Put [rb, rf] W W') : Kep w W' ∧ Rowv W' vI I.length (inss I) ∧ Rowv W' vA A.length (num .u32 A) := by
  obtain ⟨FI, FA, FR, h1, h2, h3, h4, h5, h6⟩ := H.sr
  have hf := H.fx
  have no : ∀ F : List Nat, (∀ b ∈ F, L ≤ b) → ∀ b ∈ F, b ∉ [rb, rf] := fun F h b hb hm => by
    have := h b hb; simp at hm; omega
  exact ⟨H.kp.put k (by simp; omega), (h1.put k (no _ h4)).rowv, (h2.put k (no _ h5)).rowv⟩
end
theorem Lies.far {w w' : World} {x : Option Addr} {zs : List Value} {l : List Nat} {m : Nat} (h : Lies w x zs) (hx : ∀ b o t, x = some ⟨b, o, t⟩ → m ≤ b) (k : Put l w w') (hl : ∀ b ∈ l, b < m) : Lies w' x zs :=
  h.put k fun b off e _ hm => by have := hx b off none e; have := hl b hm; omega
theorem Sli.lie {w : World} {e : TypeId} {z : Nat} {x : Option Addr} {n c : Nat} {xs : List Value} {F : List Nat} (h : Sli w e z (.slice x n c) n xs F) : Lies w x xs := by
  obtain ⟨_, _, hv, h1, _⟩ := h.lies
  cases hv; exact h1
theorem TlW.lie {w W : World} {s : Sta} {st rb rf bb L : Nat} {I : List In4} {A : List Int} {R : List Sr} {C : Array Value} {vI vA : Value} {xr : Option Addr} {cr : Nat} (H : TlW w W s st rb rf bb L I A R C vI vA (.slice xr R.length cr)) : Lies W xr (srs R) := by
  obtain ⟨_, _, _, _, _, h, _⟩ := H.sr
  exact h.lie
theorem rowv_nil (w : World) : Rowv w nilS 0 (num .i64 []) := ⟨none, 0, rfl, Nat.le_refl _, by simp [maxLen], .inl rfl⟩
theorem endI_four (op : Int) : endI op = 1 ∨ endI op = 2 ∨ endI op = 3 ∨ endI op = 4 := by
  unfold endI
  split
  · exact .inl rfl
  · split
    · exact .inr (.inl rfl)
    · split
      · exact .inr (.inr (.inl rfl))
      · exact .inr (.inr (.inr rfl))
set_option maxHeartbeats 64000000 in
set_option maxRecDepth 100000 in
theorem scan_any {w : World} {pm R : Nat} {ix : List Nat} {B : List Int} (M : Mem w (mpt pm) R ix B) (hB : B ≠ []) {s : Sta} (ok : s.Ok) (hT : Tabs w) (m : Int) :
    Calls Tryz.prog 8 #[.pointer (some ⟨pm, 0, none⟩), .agg s.v, .int .i64 m] w fun e w' => ScnR w B ix s m e w' := by
  have HX : Hid ((ix.length : Int) ≤ 512) := M.max
  have HBY : Hid (Byts B) := M.byts
  have HO : Hid (∀ (W : World) (a : Int), Calls Tryz.prog 21 #[.pointer (some ⟨pm, 0, none⟩), .agg s.v, .int .u32 a] W fun e W1 => ∃ g r st, e = .returned (.func (.func 47) #[] #[.pointer (some ⟨g, 0, none⟩), .pointer (some ⟨r, 0, none⟩), .pointer (some ⟨st, 0, none⟩)]) ∧ HG W W1 pm g r st s a) := fun W a => bhg_any W pm s a
  have HFA : Hid (∀ (W : World), Kep w W → ∀ (a : Int) (W1 : World) (g r st : Nat), 0 ≤ a ∧ a < 4294967296 → HG W W1 pm g r st s a → ∀ W2, Kep W1 W2 → Calls Tryz.prog 20 #[.func (.func 47) #[] #[.pointer (some ⟨g, 0, none⟩), .pointer (some ⟨r, 0, none⟩), .pointer (some ⟨st, 0, none⟩)], .int .u32 a] W2 fun e w' => ∃ y c F, e = .returned (.tuple #[.agg (fetV B ix (s.go a)), .slice y (srE B ix (s.go a)).length c, .agg #[.int .i64 (fetF B ix (s.go a)).1, .int .u32 (fetF B ix (s.go a)).2]]) ∧ Put [g] W2 w' ∧
      Sli w' 74 7 (.slice y (srE B ix (s.go a)).length c) (srE B ix (s.go a)).length (srs (srE B ix (s.go a))) F ∧ ∀ b ∈ F, W2.heap.size ≤ b) := fun W k a W1 g r st ha H W2 k2 => bhf_any M hB ok hT ha k H k2
  have OK := hidd ok
  have e1 := (mstN_range m).2.2
  have MR := hidd (mstN_range m)
  obtain ⟨mst, hmst⟩ : ∃ mst, Hid (mstN m = mst) := ⟨_, rfl⟩
  rw [hmst.out] at e1
  clear M hB hT ok
  obtain ⟨V, hV⟩ : ∃ V, Hid (((w.alloc (.cells s.v 28)).alloc (.cells (blkC nilS nilS 0 0 0 nilS nilS) 40)).alloc (.cells #[.int .i64 0, .int .u32 0] 42) = V) := ⟨_, rfl⟩
  obtain ⟨st, qst⟩ : ∃ i, Hid (i = w.heap.size) := ⟨_, rfl⟩
  obtain ⟨rb, qrb⟩ : ∃ i, Hid (i = w.heap.size + 1) := ⟨_, rfl⟩
  obtain ⟨rf, qrf⟩ : ∃ i, Hid (i = w.heap.size + 2) := ⟨_, rfl⟩
  have KV : Kep w V := by rw [← hV.out]; exact (((Kep.refl w).alloc _).alloc _).alloc _
  have sV : V.heap.size = w.heap.size + 3 := by rw [← hV.out]; simp
  have bst : Hid (V.heap[st]? = some (.cells s.v 28 (0, 0))) := by rw [qst.out, ← hV.out]; exact ((Kep.refl _).alloc _).block (((Kep.refl _).alloc _).block (hat _ _ _ rfl))
  have brb : Hid (V.heap[rb]? = some (.cells (blkC nilS nilS 0 0 0 nilS nilS) 40 (0, 0))) := by rw [qrb.out, ← hV.out]; exact ((Kep.refl _).alloc _).block (hat _ _ _ (by simp))
  have brf : Hid (V.heap[rf]? = some (.cells #[.int .i64 0, .int .u32 0] 42 (0, 0))) := by rw [qrf.out, ← hV.out]; exact hat _ _ _ (by simp)
  have c8 : V.cell? ⟨st, 8, none⟩ = some (.int .u32 s.pc) := cell_of_block bst.out
  have KV' := hidd KV
  have sV' := hidd sV
  have E1 := hidd e1
  clear KV sV e1
  go_enter Tryz.func8, Tryz.ntmps8
  go_upto_region 1 with fail
  rw [hV.out, ← show w.heap.size + 2 = w.heap.size + 1 + 1 from rfl, ← qrf.out, ← qrb.out, ← qst.out]
  go_step3
  go_wp2_with fail
  obtain ⟨V2, hV2⟩ : ∃ V2, Hid (V.alloc (.cells (blkC nilS nilS s.pc 0 0 nilS nilS) 40) = V2) := ⟨_, rfl⟩
  obtain ⟨bb, qbb⟩ : ∃ i, Hid (i = V.heap.size) := ⟨_, rfl⟩
  rw [hV2.out, ← qbb.out]
  clear c8
  obtain ⟨p, qp⟩ : ∃ i, Hid (i = V2.heap.size + 2) := ⟨_, rfl⟩
  obtain ⟨o, qo⟩ : ∃ i, Hid (i = V2.heap.size) := ⟨_, rfl⟩
  obtain ⟨kb, qk⟩ : ∃ i, Hid (i = V2.heap.size + 1) := ⟨_, rfl⟩
  have HN := hidd (knew_any V2)
  rw [← qp.out, ← qk.out, ← qo.out] at HN
  refine HN.out.mono ?_
  rintro e V3 ⟨rfl, t3⟩
  have T3 := hidd t3
  clear t3 HN
  have Q0 : Hid (ScW w V3 s st rb rf bb p o kb V3.heap.size [] [] [] s.pc 0 0 nilS nilS nilS [] [] []) := by
    have h2 : V2.heap.size = w.heap.size + 4 := by rw [← hV2.out, World.size_alloc, sV'.out]
    have k2 : Kep V V2 := by rw [← hV2.out]; exact (Kep.refl _).alloc _
    have t := T3.out
    have k3 : Kep V V3 := kep_trans k2 t.kep
    have a1 := qst.out; have a2 := qrb.out; have a3 := qrf.out; have a4 := qbb.out; have a5 := sV'.out
    have l := t.asked.lt
    have lp := block_lt t.tab
    have g1 := t.go; have g2 := t.gk
    have po := t.po; have pk := t.pk
    have ok' := t.asked.1
    have lpw := qp.out; have low := qo.out; have lkw := qk.out
    refine ⟨⟨by omega, by omega, by omega, by omega, by omega, by omega⟩, k3.block bst.out, k3.block brb.out, k3.block brf.out, t.kep.block (by rw [← hV2.out, qbb.out]; exact hat _ _ _ rfl), ⟨t.tab, t.asked, t.po, t.pk, kep_trans KV'.out k3, by omega, by omega⟩, Sli.nil _ _ _, Sli.nil _ _ _, Sli.nil _ _ _, by simp, by simp, by simp, by simp, by simp, by simp, Nat.le_refl _⟩
  clear T3 bst brb brf
  generalize V3.heap.size = L at Q0
  go_wp2_with fail
  try rw [← E1.out]
  go_step3
  go_wp2_with fail
  go_loopw [10] (fun v wr => ∃ (x : SB) (k : Nat) (vI vA : Value) (xr : Option Addr) (cr : Nat) (FI FA FR : List Nat), v = .slice xr x.R.length cr ∧ (x.R.length : Int) ≤ 200 ∧ Hid (ScW w wr s st rb rf bb p o kb L x.I x.A x.R x.n x.t x.e vI vA (.slice xr x.R.length cr) FI FA FR) ∧ Hid (Rnd B ix s m k x)) (fun v _ => 1000 - lenV v)
  case atStart => exact ⟨sb0 s, 0, nilS, nilS, none, 0, [], [], [], rfl, by simp [sb0], Q0.out, rnd_zero OK.out m⟩
  case round =>
    obtain ⟨x, k, vI, vA, xr, cr, FI, FA, FR, rfl, hR200, Q, C⟩ := hrel
    clear Q0
    obtain ⟨xi, ci, hvi, _, hki, hci, _⟩ := Q.out.si.lies
    subst hvi
    obtain ⟨xa, ca, hva, _⟩ := Q.out.sa.lies
    subst hva
    obtain ⟨xI, xA, xR, xn, xe, xt⟩ := x
    obtain rfl : xt = 0 := C.out.t0
    have hk : Hid (xI.length = k) := C.out.c.i
    have hkm : k ≤ mst := by have := C.out.km; rw [hmst.out] at this; exact this
    have hm32 : mst ≤ 32 := by have := MR.out; rw [hmst.out] at this; exact this.2.1
    have xnr : Hid (0 ≤ xn ∧ xn < 4294967296) := C.out.f.range OK.out
    have c0 : wr.cell? ⟨bb, 0, none⟩ = some (.slice xi xI.length ci) := cell_of_block Q.out.ct
    by_cases hlt : k < mst
    · have hlt' : (xI.length : Int) < mst := by rw [hk.out]; omega
      obtain ⟨V, VS⟩ : ∃ V, Hid (fetV B ix (s.go xn) = V) := ⟨_, rfl⟩
      obtain ⟨fk, hfk⟩ : ∃ f, Hid ((fetF B ix (s.go xn)).1 = f) := ⟨_, rfl⟩
      obtain ⟨fa, hfa⟩ : ∃ f, Hid ((fetF B ix (s.go xn)).2 = f) := ⟨_, rfl⟩
      obtain ⟨E, hE⟩ : ∃ E, Hid (srE B ix (s.go xn) = E) := ⟨_, rfl⟩
      obtain ⟨ml, hml⟩ : ∃ ml, Hid (E.length = ml) := ⟨_, rfl⟩
      have V1 : Hid (V.all (·.oneCell') = true) := by rw [Hid, ← VS.out]; exact fetV_one _ _ _
      have V4 : Hid (V.size = 4) := by rw [Hid, ← VS.out]; exact fetV_size _ _ _
      have HF : Hid (∀ (W W1 : World) (g r st : Nat), Kep wr W → HG W W1 pm g r st s xn → ∀ W2, Kep W1 W2 → Calls Tryz.prog 20 #[.func (.func 47) #[] #[.pointer (some ⟨g, 0, none⟩), .pointer (some ⟨r, 0, none⟩), .pointer (some ⟨st, 0, none⟩)], .int .u32 xn] W2 fun e w' => ∃ y c F, e = .returned (.tuple #[.agg V, .slice y ml c, .agg #[.int .i64 fk, .int .u32 fa]]) ∧ Put [g] W2 w' ∧
          Sli w' 74 7 (.slice y ml c) ml (srs E) F ∧ ∀ b ∈ F, W2.heap.size ≤ b) := fun W W1 g r st k H W2 k2 => by
        have := HFA.out W (kep_trans Q.out.kp k) xn W1 g r st xnr.out H W2 k2
        rw [VS.out, hfk.out, hfa.out, hE.out, hml.out] at this
        exact this
      go_upto_region 6 with fail
      clear c0
      go_cut [11, 12, 13] from 27 to 38 (fun t11 t12 t13 wx => ∃ i1 i3 F y c, t11 = .pointer (some ⟨i1, 0, none⟩) ∧ t12 = .slice y ml c ∧ t13 = .pointer (some ⟨i3, 0, none⟩) ∧ GotC wr wx i1 i3 V fk fa (.slice y ml c) ml (srs E) F)
      case first =>
        refine wp_region_held_drew (S := fun w' => w'.heap[st]? = some (.cells s.v 28 (0, 0)) ∧ w'.heap[bb]? = some (.cells (blkC (.slice xi xI.length ci) (.slice xa xA.length ca) xn 0 xe nilS nilS) 40 (0, 0))) (by kernel_rfl) ⟨(drew_heap _ _).trans Q.out.cs, (drew_heap _ _).trans Q.out.ct⟩ (fun hH => ?_)
        have KD := hidd ((Kep.refl wr).drew)
        generalize wr.drew = D at hH KD ⊢
        refine wpAnyH_take (i := 0) (v := .pointer (some ⟨pm, 0, none⟩)) rfl (by kernel_rfl) (by kernel_rfl) (by kernel_rfl) (fun _ _ _ h => h) (.inl ⟨by rfl, by intro w hS; go_simp⟩) hH ?_
        (try simp only [jA, jB, jC, Act.put, jD, jE, jF])
        refine wpAnyH_take (i := 1) (v := .agg s.v) rfl (by kernel_rfl) (by kernel_rfl) (by kernel_rfl) (fun _ _ _ h => h) (yields_row rfl 28 _ (by rfl) st (by rfl) 28 s.v (0, 0) _ (fun w h => h.1) Tryz.underlying28 rfl size_sta) hH ?_
        (try simp only [jA, jB, jC, Act.put, jD, jE, jF])
        refine wpAnyH_take (i := 2) (v := .pointer (some ⟨bb, 2, none⟩)) rfl (by kernel_rfl) (by kernel_rfl) (by kernel_rfl) (fun _ _ _ h => h) (.inl ⟨by rfl, by intro w hS; go_simp⟩) hH ?_
        (try simp only [jA, jB, jC, Act.put, jD, jE, jF])
        refine wpAnyH_take (i := 3) (v := .int .u32 xn) rfl (by kernel_rfl) (by kernel_rfl) (by kernel_rfl) (fun _ _ _ h => h) (.inl ⟨by rfl, by intro w hS; have c2 : w.cell? ⟨bb, 2, none⟩ = some (.int .u32 xn) := cell_of_block hS.2; go_simp⟩) hH ?_
        (try simp only [jA, jB, jC, Act.put, jD, jE, jF])
        refine wpAnyH_take (i := 5) (v := .pointer (some ⟨bb, 2, none⟩)) rfl (by kernel_rfl) (by kernel_rfl) (by kernel_rfl) (fun _ _ _ h => h) (.inl ⟨by rfl, by intro w hS; go_simp⟩) hH ?_
        (try simp only [jA, jB, jC, Act.put, jD, jE, jF])
        refine wpAnyH_take (i := 6) (v := .int .u32 xn) rfl (by kernel_rfl) (by kernel_rfl) (by kernel_rfl) (fun _ _ _ h => h) (.inl ⟨by rfl, by intro w hS; have c2 : w.cell? ⟨bb, 2, none⟩ = some (.int .u32 xn) := cell_of_block hS.2; go_simp⟩) hH ?_
        (try simp only [jA, jB, jC, Act.put, jD, jE, jF])
        refine wpAnyH_ready (rs := [4, 12, 13]) (by kernel_rfl) (by simp) ?_
        refine AllReadyH.cons rfl (fun K hK => ?_) ?_
        · skip
          rw [if_pos (by rfl)]
          go_simp
          refine (HO.out D xn).mono ?_
          rintro e D4 ⟨g, r, t2, rfl, hg⟩
          refine hK.out _ _ ⟨hg.kep.block hH.1, hg.kep.block hH.2⟩ (fun hH => ?_)
          have HF0 := hidd (HF.out D D4 g r t2 KD.out hg)
          have gb := hidd hg.bg
          have gl : Hid (wr.heap.size ≤ g) := Nat.le_trans KD.out.size hg.lg
          have KD := hidd (kep_trans KD.out hg.kep)
          have KV := hidd (Kep.refl D4)
          clear hK K hg
          (try simp only [jA, jB, jC, Act.put, jD, jE, jF])
          refine wpAnyH_ready (rs := [7, 12, 13]) (by kernel_rfl) (by simp) ?_
          refine AllReadyH.cons rfl (fun K hK => ?_) ?_
          · skip
            rw [if_pos (by rfl)]
            go_simp
            refine (HF0.out D4 KV.out).mono ?_
            rintro e D47 ⟨y, c, F, rfl, p2, sl, hf⟩
            refine hK.out _ _ ⟨p2.keeps hH.1 (by simpa using ne_of hH.1 gb.out (by decide)), p2.keeps hH.2 (by simpa using ne_of hH.2 gb.out (by decide))⟩ (fun hH => ?_)
            have hF : Hid (∀ b ∈ F, wr.heap.size ≤ b) := fun b hb => Nat.le_trans KD.out.size (hf b hb)
            have SL := hidd sl
            have KD := hidd (KD.out.put p2 (by simpa using gl.out))
            clear hK K p2 sl hf HF0 KV gb gl
            (try simp only [jA, jB, jC, Act.put, jD, jE, jF])
            refine wpAnyH_take (i := 8) (v := .tuple #[.agg V, .slice y ml c, .agg #[.int .i64 fk, .int .u32 fa]]) rfl (by kernel_rfl) (by kernel_rfl) (by kernel_rfl) (fun _ _ _ h => h) (.inl ⟨by rfl, by intro w hS; go_simp⟩) hH ?_
            (try simp only [jA, jB, jC, Act.put, jD, jE, jF])
            refine wpAnyH_take (i := 9) (v := .agg V) rfl (by kernel_rfl) (by kernel_rfl) (by kernel_rfl) (fun _ _ _ h => h) (.inl ⟨by rfl, by intro w hS; go_simp⟩) hH ?_
            (try simp only [jA, jB, jC, Act.put, jD, jE, jF])
            refine wpAnyH_take (i := 10) (v := .slice y ml c) rfl (by kernel_rfl) (by kernel_rfl) (by kernel_rfl) (fun _ _ _ h => h) (.inl ⟨by rfl, by intro w hS; go_simp⟩) hH ?_
            (try simp only [jA, jB, jC, Act.put, jD, jE, jF])
            refine wpAnyH_take (i := 11) (v := .agg #[.int .i64 fk, .int .u32 fa]) rfl (by kernel_rfl) (by kernel_rfl) (by kernel_rfl) (fun _ _ _ h => h) (.inl ⟨by rfl, by intro w hS; go_simp⟩) hH ?_
            (try simp only [jA, jB, jC, Act.put, jD, jE, jF])
            refine wpAnyH_ready (rs := [12, 13]) (by kernel_rfl) (by simp) ?_
            refine AllReadyH.cons rfl (fun K hK => ?_) ?_
            · skip
              rw [if_pos (by rfl)]
              go_simp
              obtain ⟨D4712, eD4712⟩ : ∃ V, Hid (D47.alloc (.cells zeroI 53) = V) := ⟨_, rfl⟩
              obtain ⟨i1, ei1⟩ : ∃ x, Hid (x = D47.heap.size) := ⟨_, rfl⟩
              rw [eD4712.out, ← ei1.out]
              have kk : Kep D47 D4712 := by rw [← eD4712.out]; exact (Kep.refl _).alloc _
              refine hK.out _ _ ⟨kk.block hH.1, kk.block hH.2⟩ (fun hH => ?_)
              have b1 : Hid (D4712.heap[i1]? = some (.cells zeroI 53 (0, 0))) := by rw [← eD4712.out, ei1.out]; exact hat _ _ _ rfl
              have l1 : Hid (wr.heap.size ≤ i1) := by have := KD.out.size; have := ei1.out; show _ ≤ i1; omega
              have SL := hidd (SL.out.kep kk)
              have KD := hidd (kep_trans KD.out kk)
              clear hK K kk
              (try simp only [jA, jB, jC, Act.put, jD, jE, jF])
              refine wpAnyH_ready (rs := [13]) (by kernel_rfl) (by simp) ?_
              refine AllReadyH.cons rfl (fun K hK => ?_) AllReadyH.nil
              rw [if_pos (by rfl)]
              go_simp
              obtain ⟨D471213, eD471213⟩ : ∃ V, Hid (D4712.alloc (.cells #[.int .i64 0, .int .u32 0] 42) = V) := ⟨_, rfl⟩
              obtain ⟨i3, ei3⟩ : ∃ x, Hid (x = D4712.heap.size) := ⟨_, rfl⟩
              rw [eD471213.out, ← ei3.out]
              have kk : Kep D4712 D471213 := by rw [← eD471213.out]; exact (Kep.refl _).alloc _
              refine hK.out _ _ ⟨kk.block hH.1, kk.block hH.2⟩ (fun hH => ?_)
              have b3 : Hid (D471213.heap[i3]? = some (.cells #[.int .i64 0, .int .u32 0] 42 (0, 0))) := by rw [← eD471213.out, ei3.out]; exact hat _ _ _ rfl
              have l3 : Hid (wr.heap.size ≤ i3) := by have := KD.out.size; have := ei3.out; show _ ≤ i3; omega
              have b1 := hidd (kk.block b1.out)
              have SL := hidd (SL.out.kep kk)
              have KD := hidd (kep_trans KD.out kk)
              clear hK K kk
              (try simp only [jA, jB, jC, Act.put, jD, jE, jF])
              refine wpAnyH_ready (rs := [14]) (by kernel_rfl) (by simp) ?_
              refine AllReadyH.cons rfl (fun K hK => ?_) AllReadyH.nil
              rw [if_pos (by rfl)]
              refine wp_store_row 53 _ _ rfl i1 V rfl rfl 53 zeroI b1.out (by rw [V4.out]; exact size_insb) (by rw [V4.out]; rfl) V1.out ?_
              refine hK.out _ _ ⟨(setRow_other _ _ _ _ (ne_of hH.1 b1.out (by decide))).trans hH.1, (setRow_other _ _ _ _ (ne_of hH.2 b1.out (by decide))).trans hH.2⟩ (fun hH => ?_)
              clear hK K
              (try simp only [jA, jB, jC, Act.put, jD, jE, jF])
              refine wpAnyH_ready (rs := [15]) (by kernel_rfl) (by simp) ?_
              refine AllReadyH.cons rfl (fun K hK => ?_) AllReadyH.nil
              rw [if_pos (by rfl)]
              go_simp
              refine hK.out _ _ hH (fun hH => ?_)
              clear hK K
              (try simp only [jA, jB, jC, Act.put, jD, jE, jF])
              refine wpAnyH_ready (rs := [16]) (by kernel_rfl) (by simp) ?_
              refine AllReadyH.cons rfl (fun K hK => ?_) AllReadyH.nil
              rw [if_pos (by rfl)]
              refine wp_store_row 42 _ _ rfl i3 #[.int .i64 fk, .int .u32 fa] rfl rfl 42 #[.int .i64 0, .int .u32 0] ((setRow_other _ _ _ _ (ne_of b3.out b1.out (by decide))).trans b3.out) size_flt rfl (by simp [Value.oneCell']) ?_
              refine hK.out _ _ ⟨(setRow_other _ _ _ _ (ne_of hH.1 ((setRow_other _ _ _ _ (ne_of b3.out b1.out (by decide))).trans b3.out) (by decide))).trans hH.1, (setRow_other _ _ _ _ (ne_of hH.2 ((setRow_other _ _ _ _ (ne_of b3.out b1.out (by decide))).trans b3.out) (by decide))).trans hH.2⟩ (fun hH => ?_)
              clear hK K
              (try simp only [jA, jB, jC, Act.put, jD, jE, jF])
              refine wpAnyH_done (by kernel_rfl) ?_ _
              clear hH
              go_wp2_with fail
              go_meet
              exact ⟨i1, i3, F, y, c, rfl, rfl, rfl, got_stores KD.out b1.out b3.out l1.out l3.out SL.out hF.out⟩
            refine AllReadyH.cons rfl (fun K hK => ?_) AllReadyH.nil
            rw [if_pos (by rfl)]
            go_simp
            obtain ⟨D4713, eD4713⟩ : ∃ V, Hid (D47.alloc (.cells #[.int .i64 0, .int .u32 0] 42) = V) := ⟨_, rfl⟩
            obtain ⟨i3, ei3⟩ : ∃ x, Hid (x = D47.heap.size) := ⟨_, rfl⟩
            rw [eD4713.out, ← ei3.out]
            have kk : Kep D47 D4713 := by rw [← eD4713.out]; exact (Kep.refl _).alloc _
            refine hK.out _ _ ⟨kk.block hH.1, kk.block hH.2⟩ (fun hH => ?_)
            have b3 : Hid (D4713.heap[i3]? = some (.cells #[.int .i64 0, .int .u32 0] 42 (0, 0))) := by rw [← eD4713.out, ei3.out]; exact hat _ _ _ rfl
            have l3 : Hid (wr.heap.size ≤ i3) := by have := KD.out.size; have := ei3.out; show _ ≤ i3; omega
            have SL := hidd (SL.out.kep kk)
            have KD := hidd (kep_trans KD.out kk)
            clear hK K kk
            (try simp only [jA, jB, jC, Act.put, jD, jE, jF])
            refine wpAnyH_ready (rs := [12]) (by kernel_rfl) (by simp) ?_
            refine AllReadyH.cons rfl (fun K hK => ?_) AllReadyH.nil
            rw [if_pos (by rfl)]
            go_simp
            obtain ⟨D471312, eD471312⟩ : ∃ V, Hid (D4713.alloc (.cells zeroI 53) = V) := ⟨_, rfl⟩
            obtain ⟨i1, ei1⟩ : ∃ x, Hid (x = D4713.heap.size) := ⟨_, rfl⟩
            rw [eD471312.out, ← ei1.out]
            have kk : Kep D4713 D471312 := by rw [← eD471312.out]; exact (Kep.refl _).alloc _
            refine hK.out _ _ ⟨kk.block hH.1, kk.block hH.2⟩ (fun hH => ?_)
            have b1 : Hid (D471312.heap[i1]? = some (.cells zeroI 53 (0, 0))) := by rw [← eD471312.out, ei1.out]; exact hat _ _ _ rfl
            have l1 : Hid (wr.heap.size ≤ i1) := by have := KD.out.size; have := ei1.out; show _ ≤ i1; omega
            have b3 := hidd (kk.block b3.out)
            have SL := hidd (SL.out.kep kk)
            have KD := hidd (kep_trans KD.out kk)
            clear hK K kk
            (try simp only [jA, jB, jC, Act.put, jD, jE, jF])
            refine wpAnyH_ready (rs := [14]) (by kernel_rfl) (by simp) ?_
            refine AllReadyH.cons rfl (fun K hK => ?_) AllReadyH.nil
            rw [if_pos (by rfl)]
            refine wp_store_row 53 _ _ rfl i1 V rfl rfl 53 zeroI b1.out (by rw [V4.out]; exact size_insb) (by rw [V4.out]; rfl) V1.out ?_
            refine hK.out _ _ ⟨(setRow_other _ _ _ _ (ne_of hH.1 b1.out (by decide))).trans hH.1, (setRow_other _ _ _ _ (ne_of hH.2 b1.out (by decide))).trans hH.2⟩ (fun hH => ?_)
            clear hK K
            (try simp only [jA, jB, jC, Act.put, jD, jE, jF])
            refine wpAnyH_ready (rs := [15]) (by kernel_rfl) (by simp) ?_
            refine AllReadyH.cons rfl (fun K hK => ?_) AllReadyH.nil
            rw [if_pos (by rfl)]
            go_simp
            refine hK.out _ _ hH (fun hH => ?_)
            clear hK K
            (try simp only [jA, jB, jC, Act.put, jD, jE, jF])
            refine wpAnyH_ready (rs := [16]) (by kernel_rfl) (by simp) ?_
            refine AllReadyH.cons rfl (fun K hK => ?_) AllReadyH.nil
            rw [if_pos (by rfl)]
            refine wp_store_row 42 _ _ rfl i3 #[.int .i64 fk, .int .u32 fa] rfl rfl 42 #[.int .i64 0, .int .u32 0] ((setRow_other _ _ _ _ (ne_of b3.out b1.out (by decide))).trans b3.out) size_flt rfl (by simp [Value.oneCell']) ?_
            refine hK.out _ _ ⟨(setRow_other _ _ _ _ (ne_of hH.1 ((setRow_other _ _ _ _ (ne_of b3.out b1.out (by decide))).trans b3.out) (by decide))).trans hH.1, (setRow_other _ _ _ _ (ne_of hH.2 ((setRow_other _ _ _ _ (ne_of b3.out b1.out (by decide))).trans b3.out) (by decide))).trans hH.2⟩ (fun hH => ?_)
            clear hK K
            (try simp only [jA, jB, jC, Act.put, jD, jE, jF])
            refine wpAnyH_done (by kernel_rfl) ?_ _
            clear hH
            go_wp2_with fail
            go_meet
            exact ⟨i1, i3, F, y, c, rfl, rfl, rfl, got_stores KD.out b1.out b3.out l1.out l3.out SL.out hF.out⟩
          refine AllReadyH.cons rfl (fun K hK => ?_) ?_
          · skip
            rw [if_pos (by rfl)]
            go_simp
            obtain ⟨D412, eD412⟩ : ∃ V, Hid (D4.alloc (.cells zeroI 53) = V) := ⟨_, rfl⟩
            obtain ⟨i1, ei1⟩ : ∃ x, Hid (x = D4.heap.size) := ⟨_, rfl⟩
            rw [eD412.out, ← ei1.out]
            have kk : Kep D4 D412 := by rw [← eD412.out]; exact (Kep.refl _).alloc _
            refine hK.out _ _ ⟨kk.block hH.1, kk.block hH.2⟩ (fun hH => ?_)
            have b1 : Hid (D412.heap[i1]? = some (.cells zeroI 53 (0, 0))) := by rw [← eD412.out, ei1.out]; exact hat _ _ _ rfl
            have l1 : Hid (wr.heap.size ≤ i1) := by have := KD.out.size; have := ei1.out; show _ ≤ i1; omega
            have gb := hidd (kk.block gb.out)
            have KV := hidd (kep_trans KV.out kk)
            have KD := hidd (kep_trans KD.out kk)
            clear hK K kk
            (try simp only [jA, jB, jC, Act.put, jD, jE, jF])
            refine wpAnyH_ready (rs := [7, 13]) (by kernel_rfl) (by simp) ?_
            refine AllReadyH.cons rfl (fun K hK => ?_) ?_
            · skip
              rw [if_pos (by rfl)]
              go_simp
              refine (HF0.out D412 KV.out).mono ?_
              rintro e D4127 ⟨y, c, F, rfl, p2, sl, hf⟩
              refine hK.out _ _ ⟨p2.keeps hH.1 (by simpa using ne_of hH.1 gb.out (by decide)), p2.keeps hH.2 (by simpa using ne_of hH.2 gb.out (by decide))⟩ (fun hH => ?_)
              have hF : Hid (∀ b ∈ F, wr.heap.size ≤ b) := fun b hb => Nat.le_trans KD.out.size (hf b hb)
              have SL := hidd sl
              have b1 := hidd (p2.keeps b1.out (by simpa using ne_of b1.out gb.out (by decide)))
              have KD := hidd (KD.out.put p2 (by simpa using gl.out))
              clear hK K p2 sl hf HF0 KV gb gl
              (try simp only [jA, jB, jC, Act.put, jD, jE, jF])
              refine wpAnyH_take (i := 8) (v := .tuple #[.agg V, .slice y ml c, .agg #[.int .i64 fk, .int .u32 fa]]) rfl (by kernel_rfl) (by kernel_rfl) (by kernel_rfl) (fun _ _ _ h => h) (.inl ⟨by rfl, by intro w hS; go_simp⟩) hH ?_
              (try simp only [jA, jB, jC, Act.put, jD, jE, jF])
              refine wpAnyH_take (i := 9) (v := .agg V) rfl (by kernel_rfl) (by kernel_rfl) (by kernel_rfl) (fun _ _ _ h => h) (.inl ⟨by rfl, by intro w hS; go_simp⟩) hH ?_
              (try simp only [jA, jB, jC, Act.put, jD, jE, jF])
              refine wpAnyH_take (i := 10) (v := .slice y ml c) rfl (by kernel_rfl) (by kernel_rfl) (by kernel_rfl) (fun _ _ _ h => h) (.inl ⟨by rfl, by intro w hS; go_simp⟩) hH ?_
              (try simp only [jA, jB, jC, Act.put, jD, jE, jF])
              refine wpAnyH_take (i := 11) (v := .agg #[.int .i64 fk, .int .u32 fa]) rfl (by kernel_rfl) (by kernel_rfl) (by kernel_rfl) (fun _ _ _ h => h) (.inl ⟨by rfl, by intro w hS; go_simp⟩) hH ?_
              (try simp only [jA, jB, jC, Act.put, jD, jE, jF])
              refine wpAnyH_ready (rs := [13]) (by kernel_rfl) (by simp) ?_
              refine AllReadyH.cons rfl (fun K hK => ?_) AllReadyH.nil
              rw [if_pos (by rfl)]
              go_simp
              obtain ⟨D412713, eD412713⟩ : ∃ V, Hid (D4127.alloc (.cells #[.int .i64 0, .int .u32 0] 42) = V) := ⟨_, rfl⟩
              obtain ⟨i3, ei3⟩ : ∃ x, Hid (x = D4127.heap.size) := ⟨_, rfl⟩
              rw [eD412713.out, ← ei3.out]
              have kk : Kep D4127 D412713 := by rw [← eD412713.out]; exact (Kep.refl _).alloc _
              refine hK.out _ _ ⟨kk.block hH.1, kk.block hH.2⟩ (fun hH => ?_)
              have b3 : Hid (D412713.heap[i3]? = some (.cells #[.int .i64 0, .int .u32 0] 42 (0, 0))) := by rw [← eD412713.out, ei3.out]; exact hat _ _ _ rfl
              have l3 : Hid (wr.heap.size ≤ i3) := by have := KD.out.size; have := ei3.out; show _ ≤ i3; omega
              have b1 := hidd (kk.block b1.out)
              have SL := hidd (SL.out.kep kk)
              have KD := hidd (kep_trans KD.out kk)
              clear hK K kk
              (try simp only [jA, jB, jC, Act.put, jD, jE, jF])
              refine wpAnyH_ready (rs := [14]) (by kernel_rfl) (by simp) ?_
              refine AllReadyH.cons rfl (fun K hK => ?_) AllReadyH.nil
              rw [if_pos (by rfl)]
              refine wp_store_row 53 _ _ rfl i1 V rfl rfl 53 zeroI b1.out (by rw [V4.out]; exact size_insb) (by rw [V4.out]; rfl) V1.out ?_
              refine hK.out _ _ ⟨(setRow_other _ _ _ _ (ne_of hH.1 b1.out (by decide))).trans hH.1, (setRow_other _ _ _ _ (ne_of hH.2 b1.out (by decide))).trans hH.2⟩ (fun hH => ?_)
              clear hK K
              (try simp only [jA, jB, jC, Act.put, jD, jE, jF])
              refine wpAnyH_ready (rs := [15]) (by kernel_rfl) (by simp) ?_
              refine AllReadyH.cons rfl (fun K hK => ?_) AllReadyH.nil
              rw [if_pos (by rfl)]
              go_simp
              refine hK.out _ _ hH (fun hH => ?_)
              clear hK K
              (try simp only [jA, jB, jC, Act.put, jD, jE, jF])
              refine wpAnyH_ready (rs := [16]) (by kernel_rfl) (by simp) ?_
              refine AllReadyH.cons rfl (fun K hK => ?_) AllReadyH.nil
              rw [if_pos (by rfl)]
              refine wp_store_row 42 _ _ rfl i3 #[.int .i64 fk, .int .u32 fa] rfl rfl 42 #[.int .i64 0, .int .u32 0] ((setRow_other _ _ _ _ (ne_of b3.out b1.out (by decide))).trans b3.out) size_flt rfl (by simp [Value.oneCell']) ?_
              refine hK.out _ _ ⟨(setRow_other _ _ _ _ (ne_of hH.1 ((setRow_other _ _ _ _ (ne_of b3.out b1.out (by decide))).trans b3.out) (by decide))).trans hH.1, (setRow_other _ _ _ _ (ne_of hH.2 ((setRow_other _ _ _ _ (ne_of b3.out b1.out (by decide))).trans b3.out) (by decide))).trans hH.2⟩ (fun hH => ?_)
              clear hK K
              (try simp only [jA, jB, jC, Act.put, jD, jE, jF])
              refine wpAnyH_done (by kernel_rfl) ?_ _
              clear hH
              go_wp2_with fail
              go_meet
              exact ⟨i1, i3, F, y, c, rfl, rfl, rfl, got_stores KD.out b1.out b3.out l1.out l3.out SL.out hF.out⟩
            refine AllReadyH.cons rfl (fun K hK => ?_) AllReadyH.nil
            rw [if_pos (by rfl)]
            go_simp
            obtain ⟨D41213, eD41213⟩ : ∃ V, Hid (D412.alloc (.cells #[.int .i64 0, .int .u32 0] 42) = V) := ⟨_, rfl⟩
            obtain ⟨i3, ei3⟩ : ∃ x, Hid (x = D412.heap.size) := ⟨_, rfl⟩
            rw [eD41213.out, ← ei3.out]
            have kk : Kep D412 D41213 := by rw [← eD41213.out]; exact (Kep.refl _).alloc _
            refine hK.out _ _ ⟨kk.block hH.1, kk.block hH.2⟩ (fun hH => ?_)
            have b3 : Hid (D41213.heap[i3]? = some (.cells #[.int .i64 0, .int .u32 0] 42 (0, 0))) := by rw [← eD41213.out, ei3.out]; exact hat _ _ _ rfl
            have l3 : Hid (wr.heap.size ≤ i3) := by have := KD.out.size; have := ei3.out; show _ ≤ i3; omega
            have b1 := hidd (kk.block b1.out)
            have gb := hidd (kk.block gb.out)
            have KV := hidd (kep_trans KV.out kk)
            have KD := hidd (kep_trans KD.out kk)
            clear hK K kk
            (try simp only [jA, jB, jC, Act.put, jD, jE, jF])
            refine wpAnyH_ready (rs := [7]) (by kernel_rfl) (by simp) ?_
            refine AllReadyH.cons rfl (fun K hK => ?_) AllReadyH.nil
            rw [if_pos (by rfl)]
            go_simp
            refine (HF0.out D41213 KV.out).mono ?_
            rintro e D412137 ⟨y, c, F, rfl, p2, sl, hf⟩
            refine hK.out _ _ ⟨p2.keeps hH.1 (by simpa using ne_of hH.1 gb.out (by decide)), p2.keeps hH.2 (by simpa using ne_of hH.2 gb.out (by decide))⟩ (fun hH => ?_)
            have hF : Hid (∀ b ∈ F, wr.heap.size ≤ b) := fun b hb => Nat.le_trans KD.out.size (hf b hb)
            have SL := hidd sl
            have b1 := hidd (p2.keeps b1.out (by simpa using ne_of b1.out gb.out (by decide)))
            have b3 := hidd (p2.keeps b3.out (by simpa using ne_of b3.out gb.out (by decide)))
            have KD := hidd (KD.out.put p2 (by simpa using gl.out))
            clear hK K p2 sl hf HF0 KV gb gl
            (try simp only [jA, jB, jC, Act.put, jD, jE, jF])
            refine wpAnyH_take (i := 8) (v := .tuple #[.agg V, .slice y ml c, .agg #[.int .i64 fk, .int .u32 fa]]) rfl (by kernel_rfl) (by kernel_rfl) (by kernel_rfl) (fun _ _ _ h => h) (.inl ⟨by rfl, by intro w hS; go_simp⟩) hH ?_
            (try simp only [jA, jB, jC, Act.put, jD, jE, jF])
            refine wpAnyH_take (i := 9) (v := .agg V) rfl (by kernel_rfl) (by kernel_rfl) (by kernel_rfl) (fun _ _ _ h => h) (.inl ⟨by rfl, by intro w hS; go_simp⟩) hH ?_
            (try simp only [jA, jB, jC, Act.put, jD, jE, jF])
            refine wpAnyH_take (i := 10) (v := .slice y ml c) rfl (by kernel_rfl) (by kernel_rfl) (by kernel_rfl) (fun _ _ _ h => h) (.inl ⟨by rfl, by intro w hS; go_simp⟩) hH ?_
            (try simp only [jA, jB, jC, Act.put, jD, jE, jF])
            refine wpAnyH_take (i := 11) (v := .agg #[.int .i64 fk, .int .u32 fa]) rfl (by kernel_rfl) (by kernel_rfl) (by kernel_rfl) (fun _ _ _ h => h) (.inl ⟨by rfl, by intro w hS; go_simp⟩) hH ?_
            (try simp only [jA, jB, jC, Act.put, jD, jE, jF])
            refine wpAnyH_ready (rs := [14]) (by kernel_rfl) (by simp) ?_
            refine AllReadyH.cons rfl (fun K hK => ?_) AllReadyH.nil
            rw [if_pos (by rfl)]
            refine wp_store_row 53 _ _ rfl i1 V rfl rfl 53 zeroI b1.out (by rw [V4.out]; exact size_insb) (by rw [V4.out]; rfl) V1.out ?_
            refine hK.out _ _ ⟨(setRow_other _ _ _ _ (ne_of hH.1 b1.out (by decide))).trans hH.1, (setRow_other _ _ _ _ (ne_of hH.2 b1.out (by decide))).trans hH.2⟩ (fun hH => ?_)
            clear hK K
            (try simp only [jA, jB, jC, Act.put, jD, jE, jF])
            refine wpAnyH_ready (rs := [15]) (by kernel_rfl) (by simp) ?_
            refine AllReadyH.cons rfl (fun K hK => ?_) AllReadyH.nil
            rw [if_pos (by rfl)]
            go_simp
            refine hK.out _ _ hH (fun hH => ?_)
            clear hK K
            (try simp only [jA, jB, jC, Act.put, jD, jE, jF])
            refine wpAnyH_ready (rs := [16]) (by kernel_rfl) (by simp) ?_
            refine AllReadyH.cons rfl (fun K hK => ?_) AllReadyH.nil
            rw [if_pos (by rfl)]
            refine wp_store_row 42 _ _ rfl i3 #[.int .i64 fk, .int .u32 fa] rfl rfl 42 #[.int .i64 0, .int .u32 0] ((setRow_other _ _ _ _ (ne_of b3.out b1.out (by decide))).trans b3.out) size_flt rfl (by simp [Value.oneCell']) ?_
            refine hK.out _ _ ⟨(setRow_other _ _ _ _ (ne_of hH.1 ((setRow_other _ _ _ _ (ne_of b3.out b1.out (by decide))).trans b3.out) (by decide))).trans hH.1, (setRow_other _ _ _ _ (ne_of hH.2 ((setRow_other _ _ _ _ (ne_of b3.out b1.out (by decide))).trans b3.out) (by decide))).trans hH.2⟩ (fun hH => ?_)
            clear hK K
            (try simp only [jA, jB, jC, Act.put, jD, jE, jF])
            refine wpAnyH_done (by kernel_rfl) ?_ _
            clear hH
            go_wp2_with fail
            go_meet
            exact ⟨i1, i3, F, y, c, rfl, rfl, rfl, got_stores KD.out b1.out b3.out l1.out l3.out SL.out hF.out⟩
          refine AllReadyH.cons rfl (fun K hK => ?_) AllReadyH.nil
          rw [if_pos (by rfl)]
          go_simp
          obtain ⟨D413, eD413⟩ : ∃ V, Hid (D4.alloc (.cells #[.int .i64 0, .int .u32 0] 42) = V) := ⟨_, rfl⟩
          obtain ⟨i3, ei3⟩ : ∃ x, Hid (x = D4.heap.size) := ⟨_, rfl⟩
          rw [eD413.out, ← ei3.out]
          have kk : Kep D4 D413 := by rw [← eD413.out]; exact (Kep.refl _).alloc _
          refine hK.out _ _ ⟨kk.block hH.1, kk.block hH.2⟩ (fun hH => ?_)
          have b3 : Hid (D413.heap[i3]? = some (.cells #[.int .i64 0, .int .u32 0] 42 (0, 0))) := by rw [← eD413.out, ei3.out]; exact hat _ _ _ rfl
          have l3 : Hid (wr.heap.size ≤ i3) := by have := KD.out.size; have := ei3.out; show _ ≤ i3; omega
          have gb := hidd (kk.block gb.out)
          have KV := hidd (kep_trans KV.out kk)
          have KD := hidd (kep_trans KD.out kk)
          clear hK K kk
          (try simp only [jA, jB, jC, Act.put, jD, jE, jF])
          refine wpAnyH_ready (rs := [7, 12]) (by kernel_rfl) (by simp) ?_
          refine AllReadyH.cons rfl (fun K hK => ?_) ?_
          · skip
            rw [if_pos (by rfl)]
            go_simp
            refine (HF0.out D413 KV.out).mono ?_
            rintro e D4137 ⟨y, c, F, rfl, p2, sl, hf⟩
            refine hK.out _ _ ⟨p2.keeps hH.1 (by simpa using ne_of hH.1 gb.out (by decide)), p2.keeps hH.2 (by simpa using ne_of hH.2 gb.out (by decide))⟩ (fun hH => ?_)
            have hF : Hid (∀ b ∈ F, wr.heap.size ≤ b) := fun b hb => Nat.le_trans KD.out.size (hf b hb)
            have SL := hidd sl
            have b3 := hidd (p2.keeps b3.out (by simpa using ne_of b3.out gb.out (by decide)))
            have KD := hidd (KD.out.put p2 (by simpa using gl.out))
            clear hK K p2 sl hf HF0 KV gb gl
            (try simp only [jA, jB, jC, Act.put, jD, jE, jF])
            refine wpAnyH_take (i := 8) (v := .tuple #[.agg V, .slice y ml c, .agg #[.int .i64 fk, .int .u32 fa]]) rfl (by kernel_rfl) (by kernel_rfl) (by kernel_rfl) (fun _ _ _ h => h) (.inl ⟨by rfl, by intro w hS; go_simp⟩) hH ?_
            (try simp only [jA, jB, jC, Act.put, jD, jE, jF])
            refine wpAnyH_take (i := 9) (v := .agg V) rfl (by kernel_rfl) (by kernel_rfl) (by kernel_rfl) (fun _ _ _ h => h) (.inl ⟨by rfl, by intro w hS; go_simp⟩) hH ?_
            (try simp only [jA, jB, jC, Act.put, jD, jE, jF])
            refine wpAnyH_take (i := 10) (v := .slice y ml c) rfl (by kernel_rfl) (by kernel_rfl) (by kernel_rfl) (fun _ _ _ h => h) (.inl ⟨by rfl, by intro w hS; go_simp⟩) hH ?_
            (try simp only [jA, jB, jC, Act.put, jD, jE, jF])
            refine wpAnyH_take (i := 11) (v := .agg #[.int .i64 fk, .int .u32 fa]) rfl (by kernel_rfl) (by kernel_rfl) (by kernel_rfl) (fun _ _ _ h => h) (.inl ⟨by rfl, by intro w hS; go_simp⟩) hH ?_
            (try simp only [jA, jB, jC, Act.put, jD, jE, jF])
            refine wpAnyH_ready (rs := [12]) (by kernel_rfl) (by simp) ?_
            refine AllReadyH.cons rfl (fun K hK => ?_) AllReadyH.nil
            rw [if_pos (by rfl)]
            go_simp
            obtain ⟨D413712, eD413712⟩ : ∃ V, Hid (D4137.alloc (.cells zeroI 53) = V) := ⟨_, rfl⟩
            obtain ⟨i1, ei1⟩ : ∃ x, Hid (x = D4137.heap.size) := ⟨_, rfl⟩
            rw [eD413712.out, ← ei1.out]
            have kk : Kep D4137 D413712 := by rw [← eD413712.out]; exact (Kep.refl _).alloc _
            refine hK.out _ _ ⟨kk.block hH.1, kk.block hH.2⟩ (fun hH => ?_)
            have b1 : Hid (D413712.heap[i1]? = some (.cells zeroI 53 (0, 0))) := by rw [← eD413712.out, ei1.out]; exact hat _ _ _ rfl
            have l1 : Hid (wr.heap.size ≤ i1) := by have := KD.out.size; have := ei1.out; show _ ≤ i1; omega
            have b3 := hidd (kk.block b3.out)
            have SL := hidd (SL.out.kep kk)
            have KD := hidd (kep_trans KD.out kk)
            clear hK K kk
            (try simp only [jA, jB, jC, Act.put, jD, jE, jF])
            refine wpAnyH_ready (rs := [14]) (by kernel_rfl) (by simp) ?_
            refine AllReadyH.cons rfl (fun K hK => ?_) AllReadyH.nil
            rw [if_pos (by rfl)]
            refine wp_store_row 53 _ _ rfl i1 V rfl rfl 53 zeroI b1.out (by rw [V4.out]; exact size_insb) (by rw [V4.out]; rfl) V1.out ?_
            refine hK.out _ _ ⟨(setRow_other _ _ _ _ (ne_of hH.1 b1.out (by decide))).trans hH.1, (setRow_other _ _ _ _ (ne_of hH.2 b1.out (by decide))).trans hH.2⟩ (fun hH => ?_)
            clear hK K
            (try simp only [jA, jB, jC, Act.put, jD, jE, jF])
            refine wpAnyH_ready (rs := [15]) (by kernel_rfl) (by simp) ?_
            refine AllReadyH.cons rfl (fun K hK => ?_) AllReadyH.nil
            rw [if_pos (by rfl)]
            go_simp
            refine hK.out _ _ hH (fun hH => ?_)
            clear hK K
            (try simp only [jA, jB, jC, Act.put, jD, jE, jF])
            refine wpAnyH_ready (rs := [16]) (by kernel_rfl) (by simp) ?_
            refine AllReadyH.cons rfl (fun K hK => ?_) AllReadyH.nil
            rw [if_pos (by rfl)]
            refine wp_store_row 42 _ _ rfl i3 #[.int .i64 fk, .int .u32 fa] rfl rfl 42 #[.int .i64 0, .int .u32 0] ((setRow_other _ _ _ _ (ne_of b3.out b1.out (by decide))).trans b3.out) size_flt rfl (by simp [Value.oneCell']) ?_
            refine hK.out _ _ ⟨(setRow_other _ _ _ _ (ne_of hH.1 ((setRow_other _ _ _ _ (ne_of b3.out b1.out (by decide))).trans b3.out) (by decide))).trans hH.1, (setRow_other _ _ _ _ (ne_of hH.2 ((setRow_other _ _ _ _ (ne_of b3.out b1.out (by decide))).trans b3.out) (by decide))).trans hH.2⟩ (fun hH => ?_)
            clear hK K
            (try simp only [jA, jB, jC, Act.put, jD, jE, jF])
            refine wpAnyH_done (by kernel_rfl) ?_ _
            clear hH
            go_wp2_with fail
            go_meet
            exact ⟨i1, i3, F, y, c, rfl, rfl, rfl, got_stores KD.out b1.out b3.out l1.out l3.out SL.out hF.out⟩
          refine AllReadyH.cons rfl (fun K hK => ?_) AllReadyH.nil
          rw [if_pos (by rfl)]
          go_simp
          obtain ⟨D41312, eD41312⟩ : ∃ V, Hid (D413.alloc (.cells zeroI 53) = V) := ⟨_, rfl⟩
          obtain ⟨i1, ei1⟩ : ∃ x, Hid (x = D413.heap.size) := ⟨_, rfl⟩
          rw [eD41312.out, ← ei1.out]
          have kk : Kep D413 D41312 := by rw [← eD41312.out]; exact (Kep.refl _).alloc _
          refine hK.out _ _ ⟨kk.block hH.1, kk.block hH.2⟩ (fun hH => ?_)
          have b1 : Hid (D41312.heap[i1]? = some (.cells zeroI 53 (0, 0))) := by rw [← eD41312.out, ei1.out]; exact hat _ _ _ rfl
          have l1 : Hid (wr.heap.size ≤ i1) := by have := KD.out.size; have := ei1.out; show _ ≤ i1; omega
          have b3 := hidd (kk.block b3.out)
          have gb := hidd (kk.block gb.out)
          have KV := hidd (kep_trans KV.out kk)
          have KD := hidd (kep_trans KD.out kk)
          clear hK K kk
          (try simp only [jA, jB, jC, Act.put, jD, jE, jF])
          refine wpAnyH_ready (rs := [7]) (by kernel_rfl) (by simp) ?_
          refine AllReadyH.cons rfl (fun K hK => ?_) AllReadyH.nil
          rw [if_pos (by rfl)]
          go_simp
          refine (HF0.out D41312 KV.out).mono ?_
          rintro e D413127 ⟨y, c, F, rfl, p2, sl, hf⟩
          refine hK.out _ _ ⟨p2.keeps hH.1 (by simpa using ne_of hH.1 gb.out (by decide)), p2.keeps hH.2 (by simpa using ne_of hH.2 gb.out (by decide))⟩ (fun hH => ?_)
          have hF : Hid (∀ b ∈ F, wr.heap.size ≤ b) := fun b hb => Nat.le_trans KD.out.size (hf b hb)
          have SL := hidd sl
          have b1 := hidd (p2.keeps b1.out (by simpa using ne_of b1.out gb.out (by decide)))
          have b3 := hidd (p2.keeps b3.out (by simpa using ne_of b3.out gb.out (by decide)))
          have KD := hidd (KD.out.put p2 (by simpa using gl.out))
          clear hK K p2 sl hf HF0 KV gb gl
          (try simp only [jA, jB, jC, Act.put, jD, jE, jF])
          refine wpAnyH_take (i := 8) (v := .tuple #[.agg V, .slice y ml c, .agg #[.int .i64 fk, .int .u32 fa]]) rfl (by kernel_rfl) (by kernel_rfl) (by kernel_rfl) (fun _ _ _ h => h) (.inl ⟨by rfl, by intro w hS; go_simp⟩) hH ?_
          (try simp only [jA, jB, jC, Act.put, jD, jE, jF])
          refine wpAnyH_take (i := 9) (v := .agg V) rfl (by kernel_rfl) (by kernel_rfl) (by kernel_rfl) (fun _ _ _ h => h) (.inl ⟨by rfl, by intro w hS; go_simp⟩) hH ?_
          (try simp only [jA, jB, jC, Act.put, jD, jE, jF])
          refine wpAnyH_take (i := 10) (v := .slice y ml c) rfl (by kernel_rfl) (by kernel_rfl) (by kernel_rfl) (fun _ _ _ h => h) (.inl ⟨by rfl, by intro w hS; go_simp⟩) hH ?_
          (try simp only [jA, jB, jC, Act.put, jD, jE, jF])
          refine wpAnyH_take (i := 11) (v := .agg #[.int .i64 fk, .int .u32 fa]) rfl (by kernel_rfl) (by kernel_rfl) (by kernel_rfl) (fun _ _ _ h => h) (.inl ⟨by rfl, by intro w hS; go_simp⟩) hH ?_
          (try simp only [jA, jB, jC, Act.put, jD, jE, jF])
          refine wpAnyH_ready (rs := [14]) (by kernel_rfl) (by simp) ?_
          refine AllReadyH.cons rfl (fun K hK => ?_) AllReadyH.nil
          rw [if_pos (by rfl)]
          refine wp_store_row 53 _ _ rfl i1 V rfl rfl 53 zeroI b1.out (by rw [V4.out]; exact size_insb) (by rw [V4.out]; rfl) V1.out ?_
          refine hK.out _ _ ⟨(setRow_other _ _ _ _ (ne_of hH.1 b1.out (by decide))).trans hH.1, (setRow_other _ _ _ _ (ne_of hH.2 b1.out (by decide))).trans hH.2⟩ (fun hH => ?_)
          clear hK K
          (try simp only [jA, jB, jC, Act.put, jD, jE, jF])
          refine wpAnyH_ready (rs := [15]) (by kernel_rfl) (by simp) ?_
          refine AllReadyH.cons rfl (fun K hK => ?_) AllReadyH.nil
          rw [if_pos (by rfl)]
          go_simp
          refine hK.out _ _ hH (fun hH => ?_)
          clear hK K
          (try simp only [jA, jB, jC, Act.put, jD, jE, jF])
          refine wpAnyH_ready (rs := [16]) (by kernel_rfl) (by simp) ?_
          refine AllReadyH.cons rfl (fun K hK => ?_) AllReadyH.nil
          rw [if_pos (by rfl)]
          refine wp_store_row 42 _ _ rfl i3 #[.int .i64 fk, .int .u32 fa] rfl rfl 42 #[.int .i64 0, .int .u32 0] ((setRow_other _ _ _ _ (ne_of b3.out b1.out (by decide))).trans b3.out) size_flt rfl (by simp [Value.oneCell']) ?_
          refine hK.out _ _ ⟨(setRow_other _ _ _ _ (ne_of hH.1 ((setRow_other _ _ _ _ (ne_of b3.out b1.out (by decide))).trans b3.out) (by decide))).trans hH.1, (setRow_other _ _ _ _ (ne_of hH.2 ((setRow_other _ _ _ _ (ne_of b3.out b1.out (by decide))).trans b3.out) (by decide))).trans hH.2⟩ (fun hH => ?_)
          clear hK K
          (try simp only [jA, jB, jC, Act.put, jD, jE, jF])
          refine wpAnyH_done (by kernel_rfl) ?_ _
          clear hH
          go_wp2_with fail
          go_meet
          exact ⟨i1, i3, F, y, c, rfl, rfl, rfl, got_stores KD.out b1.out b3.out l1.out l3.out SL.out hF.out⟩
        refine AllReadyH.cons rfl (fun K hK => ?_) ?_
        · skip
          rw [if_pos (by rfl)]
          go_simp
          obtain ⟨D12, eD12⟩ : ∃ V, Hid (D.alloc (.cells zeroI 53) = V) := ⟨_, rfl⟩
          obtain ⟨i1, ei1⟩ : ∃ x, Hid (x = D.heap.size) := ⟨_, rfl⟩
          rw [eD12.out, ← ei1.out]
          have kk : Kep D D12 := by rw [← eD12.out]; exact (Kep.refl _).alloc _
          refine hK.out _ _ ⟨kk.block hH.1, kk.block hH.2⟩ (fun hH => ?_)
          have b1 : Hid (D12.heap[i1]? = some (.cells zeroI 53 (0, 0))) := by rw [← eD12.out, ei1.out]; exact hat _ _ _ rfl
          have l1 : Hid (wr.heap.size ≤ i1) := by have := KD.out.size; have := ei1.out; show _ ≤ i1; omega
          have KD := hidd (kep_trans KD.out kk)
          clear hK K kk
          (try simp only [jA, jB, jC, Act.put, jD, jE, jF])
          refine wpAnyH_ready (rs := [4, 13]) (by kernel_rfl) (by simp) ?_
          refine AllReadyH.cons rfl (fun K hK => ?_) ?_
          · skip
            rw [if_pos (by rfl)]
            go_simp
            refine (HO.out D12 xn).mono ?_
            rintro e D124 ⟨g, r, t2, rfl, hg⟩
            refine hK.out _ _ ⟨hg.kep.block hH.1, hg.kep.block hH.2⟩ (fun hH => ?_)
            have HF0 := hidd (HF.out D12 D124 g r t2 KD.out hg)
            have gb := hidd hg.bg
            have gl : Hid (wr.heap.size ≤ g) := Nat.le_trans KD.out.size hg.lg
            have b1 := hidd (hg.kep.block b1.out)
            have KD := hidd (kep_trans KD.out hg.kep)
            have KV := hidd (Kep.refl D124)
            clear hK K hg
            (try simp only [jA, jB, jC, Act.put, jD, jE, jF])
            refine wpAnyH_ready (rs := [7, 13]) (by kernel_rfl) (by simp) ?_
            refine AllReadyH.cons rfl (fun K hK => ?_) ?_
            · skip
              rw [if_pos (by rfl)]
              go_simp
              refine (HF0.out D124 KV.out).mono ?_
              rintro e D1247 ⟨y, c, F, rfl, p2, sl, hf⟩
              refine hK.out _ _ ⟨p2.keeps hH.1 (by simpa using ne_of hH.1 gb.out (by decide)), p2.keeps hH.2 (by simpa using ne_of hH.2 gb.out (by decide))⟩ (fun hH => ?_)
              have hF : Hid (∀ b ∈ F, wr.heap.size ≤ b) := fun b hb => Nat.le_trans KD.out.size (hf b hb)
              have SL := hidd sl
              have b1 := hidd (p2.keeps b1.out (by simpa using ne_of b1.out gb.out (by decide)))
              have KD := hidd (KD.out.put p2 (by simpa using gl.out))
              clear hK K p2 sl hf HF0 KV gb gl
              (try simp only [jA, jB, jC, Act.put, jD, jE, jF])
              refine wpAnyH_take (i := 8) (v := .tuple #[.agg V, .slice y ml c, .agg #[.int .i64 fk, .int .u32 fa]]) rfl (by kernel_rfl) (by kernel_rfl) (by kernel_rfl) (fun _ _ _ h => h) (.inl ⟨by rfl, by intro w hS; go_simp⟩) hH ?_
              (try simp only [jA, jB, jC, Act.put, jD, jE, jF])
              refine wpAnyH_take (i := 9) (v := .agg V) rfl (by kernel_rfl) (by kernel_rfl) (by kernel_rfl) (fun _ _ _ h => h) (.inl ⟨by rfl, by intro w hS; go_simp⟩) hH ?_
              (try simp only [jA, jB, jC, Act.put, jD, jE, jF])
              refine wpAnyH_take (i := 10) (v := .slice y ml c) rfl (by kernel_rfl) (by kernel_rfl) (by kernel_rfl) (fun _ _ _ h => h) (.inl ⟨by rfl, by intro w hS; go_simp⟩) hH ?_
              (try simp only [jA, jB, jC, Act.put, jD, jE, jF])
              refine wpAnyH_take (i := 11) (v := .agg #[.int .i64 fk, .int .u32 fa]) rfl (by kernel_rfl) (by kernel_rfl) (by kernel_rfl) (fun _ _ _ h => h) (.inl ⟨by rfl, by intro w hS; go_simp⟩) hH ?_
              (try simp only [jA, jB, jC, Act.put, jD, jE, jF])
              refine wpAnyH_ready (rs := [13]) (by kernel_rfl) (by simp) ?_
              refine AllReadyH.cons rfl (fun K hK => ?_) AllReadyH.nil
              rw [if_pos (by rfl)]
              go_simp
              obtain ⟨D124713, eD124713⟩ : ∃ V, Hid (D1247.alloc (.cells #[.int .i64 0, .int .u32 0] 42) = V) := ⟨_, rfl⟩
              obtain ⟨i3, ei3⟩ : ∃ x, Hid (x = D1247.heap.size) := ⟨_, rfl⟩
              rw [eD124713.out, ← ei3.out]
              have kk : Kep D1247 D124713 := by rw [← eD124713.out]; exact (Kep.refl _).alloc _
              refine hK.out _ _ ⟨kk.block hH.1, kk.block hH.2⟩ (fun hH => ?_)
              have b3 : Hid (D124713.heap[i3]? = some (.cells #[.int .i64 0, .int .u32 0] 42 (0, 0))) := by rw [← eD124713.out, ei3.out]; exact hat _ _ _ rfl
              have l3 : Hid (wr.heap.size ≤ i3) := by have := KD.out.size; have := ei3.out; show _ ≤ i3; omega
              have b1 := hidd (kk.block b1.out)
              have SL := hidd (SL.out.kep kk)
              have KD := hidd (kep_trans KD.out kk)
              clear hK K kk
              (try simp only [jA, jB, jC, Act.put, jD, jE, jF])
              refine wpAnyH_ready (rs := [14]) (by kernel_rfl) (by simp) ?_
              refine AllReadyH.cons rfl (fun K hK => ?_) AllReadyH.nil
              rw [if_pos (by rfl)]
              refine wp_store_row 53 _ _ rfl i1 V rfl rfl 53 zeroI b1.out (by rw [V4.out]; exact size_insb) (by rw [V4.out]; rfl) V1.out ?_
              refine hK.out _ _ ⟨(setRow_other _ _ _ _ (ne_of hH.1 b1.out (by decide))).trans hH.1, (setRow_other _ _ _ _ (ne_of hH.2 b1.out (by decide))).trans hH.2⟩ (fun hH => ?_)
              clear hK K
              (try simp only [jA, jB, jC, Act.put, jD, jE, jF])
              refine wpAnyH_ready (rs := [15]) (by kernel_rfl) (by simp) ?_
              refine AllReadyH.cons rfl (fun K hK => ?_) AllReadyH.nil
              rw [if_pos (by rfl)]
              go_simp
              refine hK.out _ _ hH (fun hH => ?_)
              clear hK K
              (try simp only [jA, jB, jC, Act.put, jD, jE, jF])
              refine wpAnyH_ready (rs := [16]) (by kernel_rfl) (by simp) ?_
              refine AllReadyH.cons rfl (fun K hK => ?_) AllReadyH.nil
              rw [if_pos (by rfl)]
              refine wp_store_row 42 _ _ rfl i3 #[.int .i64 fk, .int .u32 fa] rfl rfl 42 #[.int .i64 0, .int .u32 0] ((setRow_other _ _ _ _ (ne_of b3.out b1.out (by decide))).trans b3.out) size_flt rfl (by simp [Value.oneCell']) ?_
              refine hK.out _ _ ⟨(setRow_other _ _ _ _ (ne_of hH.1 ((setRow_other _ _ _ _ (ne_of b3.out b1.out (by decide))).trans b3.out) (by decide))).trans hH.1, (setRow_other _ _ _ _ (ne_of hH.2 ((setRow_other _ _ _ _ (ne_of b3.out b1.out (by decide))).trans b3.out) (by decide))).trans hH.2⟩ (fun hH => ?_)
              clear hK K
              (try simp only [jA, jB, jC, Act.put, jD, jE, jF])
              refine wpAnyH_done (by kernel_rfl) ?_ _
              clear hH
              go_wp2_with fail
              go_meet
              exact ⟨i1, i3, F, y, c, rfl, rfl, rfl, got_stores KD.out b1.out b3.out l1.out l3.out SL.out hF.out⟩
            refine AllReadyH.cons rfl (fun K hK => ?_) AllReadyH.nil
            rw [if_pos (by rfl)]
            go_simp
            obtain ⟨D12413, eD12413⟩ : ∃ V, Hid (D124.alloc (.cells #[.int .i64 0, .int .u32 0] 42) = V) := ⟨_, rfl⟩
            obtain ⟨i3, ei3⟩ : ∃ x, Hid (x = D124.heap.size) := ⟨_, rfl⟩
            rw [eD12413.out, ← ei3.out]
            have kk : Kep D124 D12413 := by rw [← eD12413.out]; exact (Kep.refl _).alloc _
            refine hK.out _ _ ⟨kk.block hH.1, kk.block hH.2⟩ (fun hH => ?_)
            have b3 : Hid (D12413.heap[i3]? = some (.cells #[.int .i64 0, .int .u32 0] 42 (0, 0))) := by rw [← eD12413.out, ei3.out]; exact hat _ _ _ rfl
            have l3 : Hid (wr.heap.size ≤ i3) := by have := KD.out.size; have := ei3.out; show _ ≤ i3; omega
            have b1 := hidd (kk.block b1.out)
            have gb := hidd (kk.block gb.out)
            have KV := hidd (kep_trans KV.out kk)
            have KD := hidd (kep_trans KD.out kk)
            clear hK K kk
            (try simp only [jA, jB, jC, Act.put, jD, jE, jF])
            refine wpAnyH_ready (rs := [7]) (by kernel_rfl) (by simp) ?_
            refine AllReadyH.cons rfl (fun K hK => ?_) AllReadyH.nil
            rw [if_pos (by rfl)]
            go_simp
            refine (HF0.out D12413 KV.out).mono ?_
            rintro e D124137 ⟨y, c, F, rfl, p2, sl, hf⟩
            refine hK.out _ _ ⟨p2.keeps hH.1 (by simpa using ne_of hH.1 gb.out (by decide)), p2.keeps hH.2 (by simpa using ne_of hH.2 gb.out (by decide))⟩ (fun hH => ?_)
            have hF : Hid (∀ b ∈ F, wr.heap.size ≤ b) := fun b hb => Nat.le_trans KD.out.size (hf b hb)
            have SL := hidd sl
            have b1 := hidd (p2.keeps b1.out (by simpa using ne_of b1.out gb.out (by decide)))
            have b3 := hidd (p2.keeps b3.out (by simpa using ne_of b3.out gb.out (by decide)))
            have KD := hidd (KD.out.put p2 (by simpa using gl.out))
            clear hK K p2 sl hf HF0 KV gb gl
            (try simp only [jA, jB, jC, Act.put, jD, jE, jF])
            refine wpAnyH_take (i := 8) (v := .tuple #[.agg V, .slice y ml c, .agg #[.int .i64 fk, .int .u32 fa]]) rfl (by kernel_rfl) (by kernel_rfl) (by kernel_rfl) (fun _ _ _ h => h) (.inl ⟨by rfl, by intro w hS; go_simp⟩) hH ?_
            (try simp only [jA, jB, jC, Act.put, jD, jE, jF])
            refine wpAnyH_take (i := 9) (v := .agg V) rfl (by kernel_rfl) (by kernel_rfl) (by kernel_rfl) (fun _ _ _ h => h) (.inl ⟨by rfl, by intro w hS; go_simp⟩) hH ?_
            (try simp only [jA, jB, jC, Act.put, jD, jE, jF])
            refine wpAnyH_take (i := 10) (v := .slice y ml c) rfl (by kernel_rfl) (by kernel_rfl) (by kernel_rfl) (fun _ _ _ h => h) (.inl ⟨by rfl, by intro w hS; go_simp⟩) hH ?_
            (try simp only [jA, jB, jC, Act.put, jD, jE, jF])
            refine wpAnyH_take (i := 11) (v := .agg #[.int .i64 fk, .int .u32 fa]) rfl (by kernel_rfl) (by kernel_rfl) (by kernel_rfl) (fun _ _ _ h => h) (.inl ⟨by rfl, by intro w hS; go_simp⟩) hH ?_
            (try simp only [jA, jB, jC, Act.put, jD, jE, jF])
            refine wpAnyH_ready (rs := [14]) (by kernel_rfl) (by simp) ?_
            refine AllReadyH.cons rfl (fun K hK => ?_) AllReadyH.nil
            rw [if_pos (by rfl)]
            refine wp_store_row 53 _ _ rfl i1 V rfl rfl 53 zeroI b1.out (by rw [V4.out]; exact size_insb) (by rw [V4.out]; rfl) V1.out ?_
            refine hK.out _ _ ⟨(setRow_other _ _ _ _ (ne_of hH.1 b1.out (by decide))).trans hH.1, (setRow_other _ _ _ _ (ne_of hH.2 b1.out (by decide))).trans hH.2⟩ (fun hH => ?_)
            clear hK K
            (try simp only [jA, jB, jC, Act.put, jD, jE, jF])
            refine wpAnyH_ready (rs := [15]) (by kernel_rfl) (by simp) ?_
            refine AllReadyH.cons rfl (fun K hK => ?_) AllReadyH.nil
            rw [if_pos (by rfl)]
            go_simp
            refine hK.out _ _ hH (fun hH => ?_)
            clear hK K
            (try simp only [jA, jB, jC, Act.put, jD, jE, jF])
            refine wpAnyH_ready (rs := [16]) (by kernel_rfl) (by simp) ?_
            refine AllReadyH.cons rfl (fun K hK => ?_) AllReadyH.nil
            rw [if_pos (by rfl)]
            refine wp_store_row 42 _ _ rfl i3 #[.int .i64 fk, .int .u32 fa] rfl rfl 42 #[.int .i64 0, .int .u32 0] ((setRow_other _ _ _ _ (ne_of b3.out b1.out (by decide))).trans b3.out) size_flt rfl (by simp [Value.oneCell']) ?_
            refine hK.out _ _ ⟨(setRow_other _ _ _ _ (ne_of hH.1 ((setRow_other _ _ _ _ (ne_of b3.out b1.out (by decide))).trans b3.out) (by decide))).trans hH.1, (setRow_other _ _ _ _ (ne_of hH.2 ((setRow_other _ _ _ _ (ne_of b3.out b1.out (by decide))).trans b3.out) (by decide))).trans hH.2⟩ (fun hH => ?_)
            clear hK K
            (try simp only [jA, jB, jC, Act.put, jD, jE, jF])
            refine wpAnyH_done (by kernel_rfl) ?_ _
            clear hH
            go_wp2_with fail
            go_meet
            exact ⟨i1, i3, F, y, c, rfl, rfl, rfl, got_stores KD.out b1.out b3.out l1.out l3.out SL.out hF.out⟩
          refine AllReadyH.cons rfl (fun K hK => ?_) AllReadyH.nil
          rw [if_pos (by rfl)]
          go_simp
          obtain ⟨D1213, eD1213⟩ : ∃ V, Hid (D12.alloc (.cells #[.int .i64 0, .int .u32 0] 42) = V) := ⟨_, rfl⟩
          obtain ⟨i3, ei3⟩ : ∃ x, Hid (x = D12.heap.size) := ⟨_, rfl⟩
          rw [eD1213.out, ← ei3.out]
          have kk : Kep D12 D1213 := by rw [← eD1213.out]; exact (Kep.refl _).alloc _
          refine hK.out _ _ ⟨kk.block hH.1, kk.block hH.2⟩ (fun hH => ?_)
          have b3 : Hid (D1213.heap[i3]? = some (.cells #[.int .i64 0, .int .u32 0] 42 (0, 0))) := by rw [← eD1213.out, ei3.out]; exact hat _ _ _ rfl
          have l3 : Hid (wr.heap.size ≤ i3) := by have := KD.out.size; have := ei3.out; show _ ≤ i3; omega
          have b1 := hidd (kk.block b1.out)
          have KD := hidd (kep_trans KD.out kk)
          clear hK K kk
          (try simp only [jA, jB, jC, Act.put, jD, jE, jF])
          refine wpAnyH_ready (rs := [4]) (by kernel_rfl) (by simp) ?_
          refine AllReadyH.cons rfl (fun K hK => ?_) AllReadyH.nil
          rw [if_pos (by rfl)]
          go_simp
          refine (HO.out D1213 xn).mono ?_
          rintro e D12134 ⟨g, r, t2, rfl, hg⟩
          refine hK.out _ _ ⟨hg.kep.block hH.1, hg.kep.block hH.2⟩ (fun hH => ?_)
          have HF0 := hidd (HF.out D1213 D12134 g r t2 KD.out hg)
          have gb := hidd hg.bg
          have gl : Hid (wr.heap.size ≤ g) := Nat.le_trans KD.out.size hg.lg
          have b1 := hidd (hg.kep.block b1.out)
          have b3 := hidd (hg.kep.block b3.out)
          have KD := hidd (kep_trans KD.out hg.kep)
          have KV := hidd (Kep.refl D12134)
          clear hK K hg
          (try simp only [jA, jB, jC, Act.put, jD, jE, jF])
          refine wpAnyH_ready (rs := [7]) (by kernel_rfl) (by simp) ?_
          refine AllReadyH.cons rfl (fun K hK => ?_) AllReadyH.nil
          rw [if_pos (by rfl)]
          go_simp
          refine (HF0.out D12134 KV.out).mono ?_
          rintro e D121347 ⟨y, c, F, rfl, p2, sl, hf⟩
          refine hK.out _ _ ⟨p2.keeps hH.1 (by simpa using ne_of hH.1 gb.out (by decide)), p2.keeps hH.2 (by simpa using ne_of hH.2 gb.out (by decide))⟩ (fun hH => ?_)
          have hF : Hid (∀ b ∈ F, wr.heap.size ≤ b) := fun b hb => Nat.le_trans KD.out.size (hf b hb)
          have SL := hidd sl
          have b1 := hidd (p2.keeps b1.out (by simpa using ne_of b1.out gb.out (by decide)))
          have b3 := hidd (p2.keeps b3.out (by simpa using ne_of b3.out gb.out (by decide)))
          have KD := hidd (KD.out.put p2 (by simpa using gl.out))
          clear hK K p2 sl hf HF0 KV gb gl
          (try simp only [jA, jB, jC, Act.put, jD, jE, jF])
          refine wpAnyH_take (i := 8) (v := .tuple #[.agg V, .slice y ml c, .agg #[.int .i64 fk, .int .u32 fa]]) rfl (by kernel_rfl) (by kernel_rfl) (by kernel_rfl) (fun _ _ _ h => h) (.inl ⟨by rfl, by intro w hS; go_simp⟩) hH ?_
          (try simp only [jA, jB, jC, Act.put, jD, jE, jF])
          refine wpAnyH_take (i := 9) (v := .agg V) rfl (by kernel_rfl) (by kernel_rfl) (by kernel_rfl) (fun _ _ _ h => h) (.inl ⟨by rfl, by intro w hS; go_simp⟩) hH ?_
          (try simp only [jA, jB, jC, Act.put, jD, jE, jF])
          refine wpAnyH_take (i := 10) (v := .slice y ml c) rfl (by kernel_rfl) (by kernel_rfl) (by kernel_rfl) (fun _ _ _ h => h) (.inl ⟨by rfl, by intro w hS; go_simp⟩) hH ?_
          (try simp only [jA, jB, jC, Act.put, jD, jE, jF])
          refine wpAnyH_take (i := 11) (v := .agg #[.int .i64 fk, .int .u32 fa]) rfl (by kernel_rfl) (by kernel_rfl) (by kernel_rfl) (fun _ _ _ h => h) (.inl ⟨by rfl, by intro w hS; go_simp⟩) hH ?_
          (try simp only [jA, jB, jC, Act.put, jD, jE, jF])
          refine wpAnyH_ready (rs := [14]) (by kernel_rfl) (by simp) ?_
          refine AllReadyH.cons rfl (fun K hK => ?_) AllReadyH.nil
          rw [if_pos (by rfl)]
          refine wp_store_row 53 _ _ rfl i1 V rfl rfl 53 zeroI b1.out (by rw [V4.out]; exact size_insb) (by rw [V4.out]; rfl) V1.out ?_
          refine hK.out _ _ ⟨(setRow_other _ _ _ _ (ne_of hH.1 b1.out (by decide))).trans hH.1, (setRow_other _ _ _ _ (ne_of hH.2 b1.out (by decide))).trans hH.2⟩ (fun hH => ?_)
          clear hK K
          (try simp only [jA, jB, jC, Act.put, jD, jE, jF])
          refine wpAnyH_ready (rs := [15]) (by kernel_rfl) (by simp) ?_
          refine AllReadyH.cons rfl (fun K hK => ?_) AllReadyH.nil
          rw [if_pos (by rfl)]
          go_simp
          refine hK.out _ _ hH (fun hH => ?_)
          clear hK K
          (try simp only [jA, jB, jC, Act.put, jD, jE, jF])
          refine wpAnyH_ready (rs := [16]) (by kernel_rfl) (by simp) ?_
          refine AllReadyH.cons rfl (fun K hK => ?_) AllReadyH.nil
          rw [if_pos (by rfl)]
          refine wp_store_row 42 _ _ rfl i3 #[.int .i64 fk, .int .u32 fa] rfl rfl 42 #[.int .i64 0, .int .u32 0] ((setRow_other _ _ _ _ (ne_of b3.out b1.out (by decide))).trans b3.out) size_flt rfl (by simp [Value.oneCell']) ?_
          refine hK.out _ _ ⟨(setRow_other _ _ _ _ (ne_of hH.1 ((setRow_other _ _ _ _ (ne_of b3.out b1.out (by decide))).trans b3.out) (by decide))).trans hH.1, (setRow_other _ _ _ _ (ne_of hH.2 ((setRow_other _ _ _ _ (ne_of b3.out b1.out (by decide))).trans b3.out) (by decide))).trans hH.2⟩ (fun hH => ?_)
          clear hK K
          (try simp only [jA, jB, jC, Act.put, jD, jE, jF])
          refine wpAnyH_done (by kernel_rfl) ?_ _
          clear hH
          go_wp2_with fail
          go_meet
          exact ⟨i1, i3, F, y, c, rfl, rfl, rfl, got_stores KD.out b1.out b3.out l1.out l3.out SL.out hF.out⟩
        refine AllReadyH.cons rfl (fun K hK => ?_) AllReadyH.nil
        rw [if_pos (by rfl)]
        go_simp
        obtain ⟨D13, eD13⟩ : ∃ V, Hid (D.alloc (.cells #[.int .i64 0, .int .u32 0] 42) = V) := ⟨_, rfl⟩
        obtain ⟨i3, ei3⟩ : ∃ x, Hid (x = D.heap.size) := ⟨_, rfl⟩
        rw [eD13.out, ← ei3.out]
        have kk : Kep D D13 := by rw [← eD13.out]; exact (Kep.refl _).alloc _
        refine hK.out _ _ ⟨kk.block hH.1, kk.block hH.2⟩ (fun hH => ?_)
        have b3 : Hid (D13.heap[i3]? = some (.cells #[.int .i64 0, .int .u32 0] 42 (0, 0))) := by rw [← eD13.out, ei3.out]; exact hat _ _ _ rfl
        have l3 : Hid (wr.heap.size ≤ i3) := by have := KD.out.size; have := ei3.out; show _ ≤ i3; omega
        have KD := hidd (kep_trans KD.out kk)
        clear hK K kk
        (try simp only [jA, jB, jC, Act.put, jD, jE, jF])
        refine wpAnyH_ready (rs := [4, 12]) (by kernel_rfl) (by simp) ?_
        refine AllReadyH.cons rfl (fun K hK => ?_) ?_
        · skip
          rw [if_pos (by rfl)]
          go_simp
          refine (HO.out D13 xn).mono ?_
          rintro e D134 ⟨g, r, t2, rfl, hg⟩
          refine hK.out _ _ ⟨hg.kep.block hH.1, hg.kep.block hH.2⟩ (fun hH => ?_)
          have HF0 := hidd (HF.out D13 D134 g r t2 KD.out hg)
          have gb := hidd hg.bg
          have gl : Hid (wr.heap.size ≤ g) := Nat.le_trans KD.out.size hg.lg
          have b3 := hidd (hg.kep.block b3.out)
          have KD := hidd (kep_trans KD.out hg.kep)
          have KV := hidd (Kep.refl D134)
          clear hK K hg
          (try simp only [jA, jB, jC, Act.put, jD, jE, jF])
          refine wpAnyH_ready (rs := [7, 12]) (by kernel_rfl) (by simp) ?_
          refine AllReadyH.cons rfl (fun K hK => ?_) ?_
          · skip
            rw [if_pos (by rfl)]
            go_simp
            refine (HF0.out D134 KV.out).mono ?_
            rintro e D1347 ⟨y, c, F, rfl, p2, sl, hf⟩
            refine hK.out _ _ ⟨p2.keeps hH.1 (by simpa using ne_of hH.1 gb.out (by decide)), p2.keeps hH.2 (by simpa using ne_of hH.2 gb.out (by decide))⟩ (fun hH => ?_)
            have hF : Hid (∀ b ∈ F, wr.heap.size ≤ b) := fun b hb => Nat.le_trans KD.out.size (hf b hb)
            have SL := hidd sl
            have b3 := hidd (p2.keeps b3.out (by simpa using ne_of b3.out gb.out (by decide)))
            have KD := hidd (KD.out.put p2 (by simpa using gl.out))
            clear hK K p2 sl hf HF0 KV gb gl
            (try simp only [jA, jB, jC, Act.put, jD, jE, jF])
            refine wpAnyH_take (i := 8) (v := .tuple #[.agg V, .slice y ml c, .agg #[.int .i64 fk, .int .u32 fa]]) rfl (by kernel_rfl) (by kernel_rfl) (by kernel_rfl) (fun _ _ _ h => h) (.inl ⟨by rfl, by intro w hS; go_simp⟩) hH ?_
            (try simp only [jA, jB, jC, Act.put, jD, jE, jF])
            refine wpAnyH_take (i := 9) (v := .agg V) rfl (by kernel_rfl) (by kernel_rfl) (by kernel_rfl) (fun _ _ _ h => h) (.inl ⟨by rfl, by intro w hS; go_simp⟩) hH ?_
            (try simp only [jA, jB, jC, Act.put, jD, jE, jF])
            refine wpAnyH_take (i := 10) (v := .slice y ml c) rfl (by kernel_rfl) (by kernel_rfl) (by kernel_rfl) (fun _ _ _ h => h) (.inl ⟨by rfl, by intro w hS; go_simp⟩) hH ?_
            (try simp only [jA, jB, jC, Act.put, jD, jE, jF])
            refine wpAnyH_take (i := 11) (v := .agg #[.int .i64 fk, .int .u32 fa]) rfl (by kernel_rfl) (by kernel_rfl) (by kernel_rfl) (fun _ _ _ h => h) (.inl ⟨by rfl, by intro w hS; go_simp⟩) hH ?_
            (try simp only [jA, jB, jC, Act.put, jD, jE, jF])
            refine wpAnyH_ready (rs := [12]) (by kernel_rfl) (by simp) ?_
            refine AllReadyH.cons rfl (fun K hK => ?_) AllReadyH.nil
            rw [if_pos (by rfl)]
            go_simp
            obtain ⟨D134712, eD134712⟩ : ∃ V, Hid (D1347.alloc (.cells zeroI 53) = V) := ⟨_, rfl⟩
            obtain ⟨i1, ei1⟩ : ∃ x, Hid (x = D1347.heap.size) := ⟨_, rfl⟩
            rw [eD134712.out, ← ei1.out]
            have kk : Kep D1347 D134712 := by rw [← eD134712.out]; exact (Kep.refl _).alloc _
            refine hK.out _ _ ⟨kk.block hH.1, kk.block hH.2⟩ (fun hH => ?_)
            have b1 : Hid (D134712.heap[i1]? = some (.cells zeroI 53 (0, 0))) := by rw [← eD134712.out, ei1.out]; exact hat _ _ _ rfl
            have l1 : Hid (wr.heap.size ≤ i1) := by have := KD.out.size; have := ei1.out; show _ ≤ i1; omega
            have b3 := hidd (kk.block b3.out)
            have SL := hidd (SL.out.kep kk)
            have KD := hidd (kep_trans KD.out kk)
            clear hK K kk
            (try simp only [jA, jB, jC, Act.put, jD, jE, jF])
            refine wpAnyH_ready (rs := [14]) (by kernel_rfl) (by simp) ?_
            refine AllReadyH.cons rfl (fun K hK => ?_) AllReadyH.nil
            rw [if_pos (by rfl)]
            refine wp_store_row 53 _ _ rfl i1 V rfl rfl 53 zeroI b1.out (by rw [V4.out]; exact size_insb) (by rw [V4.out]; rfl) V1.out ?_
            refine hK.out _ _ ⟨(setRow_other _ _ _ _ (ne_of hH.1 b1.out (by decide))).trans hH.1, (setRow_other _ _ _ _ (ne_of hH.2 b1.out (by decide))).trans hH.2⟩ (fun hH => ?_)
            clear hK K
            (try simp only [jA, jB, jC, Act.put, jD, jE, jF])
            refine wpAnyH_ready (rs := [15]) (by kernel_rfl) (by simp) ?_
            refine AllReadyH.cons rfl (fun K hK => ?_) AllReadyH.nil
            rw [if_pos (by rfl)]
            go_simp
            refine hK.out _ _ hH (fun hH => ?_)
            clear hK K
            (try simp only [jA, jB, jC, Act.put, jD, jE, jF])
            refine wpAnyH_ready (rs := [16]) (by kernel_rfl) (by simp) ?_
            refine AllReadyH.cons rfl (fun K hK => ?_) AllReadyH.nil
            rw [if_pos (by rfl)]
            refine wp_store_row 42 _ _ rfl i3 #[.int .i64 fk, .int .u32 fa] rfl rfl 42 #[.int .i64 0, .int .u32 0] ((setRow_other _ _ _ _ (ne_of b3.out b1.out (by decide))).trans b3.out) size_flt rfl (by simp [Value.oneCell']) ?_
            refine hK.out _ _ ⟨(setRow_other _ _ _ _ (ne_of hH.1 ((setRow_other _ _ _ _ (ne_of b3.out b1.out (by decide))).trans b3.out) (by decide))).trans hH.1, (setRow_other _ _ _ _ (ne_of hH.2 ((setRow_other _ _ _ _ (ne_of b3.out b1.out (by decide))).trans b3.out) (by decide))).trans hH.2⟩ (fun hH => ?_)
            clear hK K
            (try simp only [jA, jB, jC, Act.put, jD, jE, jF])
            refine wpAnyH_done (by kernel_rfl) ?_ _
            clear hH
            go_wp2_with fail
            go_meet
            exact ⟨i1, i3, F, y, c, rfl, rfl, rfl, got_stores KD.out b1.out b3.out l1.out l3.out SL.out hF.out⟩
          refine AllReadyH.cons rfl (fun K hK => ?_) AllReadyH.nil
          rw [if_pos (by rfl)]
          go_simp
          obtain ⟨D13412, eD13412⟩ : ∃ V, Hid (D134.alloc (.cells zeroI 53) = V) := ⟨_, rfl⟩
          obtain ⟨i1, ei1⟩ : ∃ x, Hid (x = D134.heap.size) := ⟨_, rfl⟩
          rw [eD13412.out, ← ei1.out]
          have kk : Kep D134 D13412 := by rw [← eD13412.out]; exact (Kep.refl _).alloc _
          refine hK.out _ _ ⟨kk.block hH.1, kk.block hH.2⟩ (fun hH => ?_)
          have b1 : Hid (D13412.heap[i1]? = some (.cells zeroI 53 (0, 0))) := by rw [← eD13412.out, ei1.out]; exact hat _ _ _ rfl
          have l1 : Hid (wr.heap.size ≤ i1) := by have := KD.out.size; have := ei1.out; show _ ≤ i1; omega
          have b3 := hidd (kk.block b3.out)
          have gb := hidd (kk.block gb.out)
          have KV := hidd (kep_trans KV.out kk)
          have KD := hidd (kep_trans KD.out kk)
          clear hK K kk
          (try simp only [jA, jB, jC, Act.put, jD, jE, jF])
          refine wpAnyH_ready (rs := [7]) (by kernel_rfl) (by simp) ?_
          refine AllReadyH.cons rfl (fun K hK => ?_) AllReadyH.nil
          rw [if_pos (by rfl)]
          go_simp
          refine (HF0.out D13412 KV.out).mono ?_
          rintro e D134127 ⟨y, c, F, rfl, p2, sl, hf⟩
          refine hK.out _ _ ⟨p2.keeps hH.1 (by simpa using ne_of hH.1 gb.out (by decide)), p2.keeps hH.2 (by simpa using ne_of hH.2 gb.out (by decide))⟩ (fun hH => ?_)
          have hF : Hid (∀ b ∈ F, wr.heap.size ≤ b) := fun b hb => Nat.le_trans KD.out.size (hf b hb)
          have SL := hidd sl
          have b1 := hidd (p2.keeps b1.out (by simpa using ne_of b1.out gb.out (by decide)))
          have b3 := hidd (p2.keeps b3.out (by simpa using ne_of b3.out gb.out (by decide)))
          have KD := hidd (KD.out.put p2 (by simpa using gl.out))
          clear hK K p2 sl hf HF0 KV gb gl
          (try simp only [jA, jB, jC, Act.put, jD, jE, jF])
          refine wpAnyH_take (i := 8) (v := .tuple #[.agg V, .slice y ml c, .agg #[.int .i64 fk, .int .u32 fa]]) rfl (by kernel_rfl) (by kernel_rfl) (by kernel_rfl) (fun _ _ _ h => h) (.inl ⟨by rfl, by intro w hS; go_simp⟩) hH ?_
          (try simp only [jA, jB, jC, Act.put, jD, jE, jF])
          refine wpAnyH_take (i := 9) (v := .agg V) rfl (by kernel_rfl) (by kernel_rfl) (by kernel_rfl) (fun _ _ _ h => h) (.inl ⟨by rfl, by intro w hS; go_simp⟩) hH ?_
          (try simp only [jA, jB, jC, Act.put, jD, jE, jF])
          refine wpAnyH_take (i := 10) (v := .slice y ml c) rfl (by kernel_rfl) (by kernel_rfl) (by kernel_rfl) (fun _ _ _ h => h) (.inl ⟨by rfl, by intro w hS; go_simp⟩) hH ?_
          (try simp only [jA, jB, jC, Act.put, jD, jE, jF])
          refine wpAnyH_take (i := 11) (v := .agg #[.int .i64 fk, .int .u32 fa]) rfl (by kernel_rfl) (by kernel_rfl) (by kernel_rfl) (fun _ _ _ h => h) (.inl ⟨by rfl, by intro w hS; go_simp⟩) hH ?_
          (try simp only [jA, jB, jC, Act.put, jD, jE, jF])
          refine wpAnyH_ready (rs := [14]) (by kernel_rfl) (by simp) ?_
          refine AllReadyH.cons rfl (fun K hK => ?_) AllReadyH.nil
          rw [if_pos (by rfl)]
          refine wp_store_row 53 _ _ rfl i1 V rfl rfl 53 zeroI b1.out (by rw [V4.out]; exact size_insb) (by rw [V4.out]; rfl) V1.out ?_
          refine hK.out _ _ ⟨(setRow_other _ _ _ _ (ne_of hH.1 b1.out (by decide))).trans hH.1, (setRow_other _ _ _ _ (ne_of hH.2 b1.out (by decide))).trans hH.2⟩ (fun hH => ?_)
          clear hK K
          (try simp only [jA, jB, jC, Act.put, jD, jE, jF])
          refine wpAnyH_ready (rs := [15]) (by kernel_rfl) (by simp) ?_
          refine AllReadyH.cons rfl (fun K hK => ?_) AllReadyH.nil
          rw [if_pos (by rfl)]
          go_simp
          refine hK.out _ _ hH (fun hH => ?_)
          clear hK K
          (try simp only [jA, jB, jC, Act.put, jD, jE, jF])
          refine wpAnyH_ready (rs := [16]) (by kernel_rfl) (by simp) ?_
          refine AllReadyH.cons rfl (fun K hK => ?_) AllReadyH.nil
          rw [if_pos (by rfl)]
          refine wp_store_row 42 _ _ rfl i3 #[.int .i64 fk, .int .u32 fa] rfl rfl 42 #[.int .i64 0, .int .u32 0] ((setRow_other _ _ _ _ (ne_of b3.out b1.out (by decide))).trans b3.out) size_flt rfl (by simp [Value.oneCell']) ?_
          refine hK.out _ _ ⟨(setRow_other _ _ _ _ (ne_of hH.1 ((setRow_other _ _ _ _ (ne_of b3.out b1.out (by decide))).trans b3.out) (by decide))).trans hH.1, (setRow_other _ _ _ _ (ne_of hH.2 ((setRow_other _ _ _ _ (ne_of b3.out b1.out (by decide))).trans b3.out) (by decide))).trans hH.2⟩ (fun hH => ?_)
          clear hK K
          (try simp only [jA, jB, jC, Act.put, jD, jE, jF])
          refine wpAnyH_done (by kernel_rfl) ?_ _
          clear hH
          go_wp2_with fail
          go_meet
          exact ⟨i1, i3, F, y, c, rfl, rfl, rfl, got_stores KD.out b1.out b3.out l1.out l3.out SL.out hF.out⟩
        refine AllReadyH.cons rfl (fun K hK => ?_) AllReadyH.nil
        rw [if_pos (by rfl)]
        go_simp
        obtain ⟨D1312, eD1312⟩ : ∃ V, Hid (D13.alloc (.cells zeroI 53) = V) := ⟨_, rfl⟩
        obtain ⟨i1, ei1⟩ : ∃ x, Hid (x = D13.heap.size) := ⟨_, rfl⟩
        rw [eD1312.out, ← ei1.out]
        have kk : Kep D13 D1312 := by rw [← eD1312.out]; exact (Kep.refl _).alloc _
        refine hK.out _ _ ⟨kk.block hH.1, kk.block hH.2⟩ (fun hH => ?_)
        have b1 : Hid (D1312.heap[i1]? = some (.cells zeroI 53 (0, 0))) := by rw [← eD1312.out, ei1.out]; exact hat _ _ _ rfl
        have l1 : Hid (wr.heap.size ≤ i1) := by have := KD.out.size; have := ei1.out; show _ ≤ i1; omega
        have b3 := hidd (kk.block b3.out)
        have KD := hidd (kep_trans KD.out kk)
        clear hK K kk
        (try simp only [jA, jB, jC, Act.put, jD, jE, jF])
        refine wpAnyH_ready (rs := [4]) (by kernel_rfl) (by simp) ?_
        refine AllReadyH.cons rfl (fun K hK => ?_) AllReadyH.nil
        rw [if_pos (by rfl)]
        go_simp
        refine (HO.out D1312 xn).mono ?_
        rintro e D13124 ⟨g, r, t2, rfl, hg⟩
        refine hK.out _ _ ⟨hg.kep.block hH.1, hg.kep.block hH.2⟩ (fun hH => ?_)
        have HF0 := hidd (HF.out D1312 D13124 g r t2 KD.out hg)
        have gb := hidd hg.bg
        have gl : Hid (wr.heap.size ≤ g) := Nat.le_trans KD.out.size hg.lg
        have b1 := hidd (hg.kep.block b1.out)
        have b3 := hidd (hg.kep.block b3.out)
        have KD := hidd (kep_trans KD.out hg.kep)
        have KV := hidd (Kep.refl D13124)
        clear hK K hg
        (try simp only [jA, jB, jC, Act.put, jD, jE, jF])
        refine wpAnyH_ready (rs := [7]) (by kernel_rfl) (by simp) ?_
        refine AllReadyH.cons rfl (fun K hK => ?_) AllReadyH.nil
        rw [if_pos (by rfl)]
        go_simp
        refine (HF0.out D13124 KV.out).mono ?_
        rintro e D131247 ⟨y, c, F, rfl, p2, sl, hf⟩
        refine hK.out _ _ ⟨p2.keeps hH.1 (by simpa using ne_of hH.1 gb.out (by decide)), p2.keeps hH.2 (by simpa using ne_of hH.2 gb.out (by decide))⟩ (fun hH => ?_)
        have hF : Hid (∀ b ∈ F, wr.heap.size ≤ b) := fun b hb => Nat.le_trans KD.out.size (hf b hb)
        have SL := hidd sl
        have b1 := hidd (p2.keeps b1.out (by simpa using ne_of b1.out gb.out (by decide)))
        have b3 := hidd (p2.keeps b3.out (by simpa using ne_of b3.out gb.out (by decide)))
        have KD := hidd (KD.out.put p2 (by simpa using gl.out))
        clear hK K p2 sl hf HF0 KV gb gl
        (try simp only [jA, jB, jC, Act.put, jD, jE, jF])
        refine wpAnyH_take (i := 8) (v := .tuple #[.agg V, .slice y ml c, .agg #[.int .i64 fk, .int .u32 fa]]) rfl (by kernel_rfl) (by kernel_rfl) (by kernel_rfl) (fun _ _ _ h => h) (.inl ⟨by rfl, by intro w hS; go_simp⟩) hH ?_
        (try simp only [jA, jB, jC, Act.put, jD, jE, jF])
        refine wpAnyH_take (i := 9) (v := .agg V) rfl (by kernel_rfl) (by kernel_rfl) (by kernel_rfl) (fun _ _ _ h => h) (.inl ⟨by rfl, by intro w hS; go_simp⟩) hH ?_
        (try simp only [jA, jB, jC, Act.put, jD, jE, jF])
        refine wpAnyH_take (i := 10) (v := .slice y ml c) rfl (by kernel_rfl) (by kernel_rfl) (by kernel_rfl) (fun _ _ _ h => h) (.inl ⟨by rfl, by intro w hS; go_simp⟩) hH ?_
        (try simp only [jA, jB, jC, Act.put, jD, jE, jF])
        refine wpAnyH_take (i := 11) (v := .agg #[.int .i64 fk, .int .u32 fa]) rfl (by kernel_rfl) (by kernel_rfl) (by kernel_rfl) (fun _ _ _ h => h) (.inl ⟨by rfl, by intro w hS; go_simp⟩) hH ?_
        (try simp only [jA, jB, jC, Act.put, jD, jE, jF])
        refine wpAnyH_ready (rs := [14]) (by kernel_rfl) (by simp) ?_
        refine AllReadyH.cons rfl (fun K hK => ?_) AllReadyH.nil
        rw [if_pos (by rfl)]
        refine wp_store_row 53 _ _ rfl i1 V rfl rfl 53 zeroI b1.out (by rw [V4.out]; exact size_insb) (by rw [V4.out]; rfl) V1.out ?_
        refine hK.out _ _ ⟨(setRow_other _ _ _ _ (ne_of hH.1 b1.out (by decide))).trans hH.1, (setRow_other _ _ _ _ (ne_of hH.2 b1.out (by decide))).trans hH.2⟩ (fun hH => ?_)
        clear hK K
        (try simp only [jA, jB, jC, Act.put, jD, jE, jF])
        refine wpAnyH_ready (rs := [15]) (by kernel_rfl) (by simp) ?_
        refine AllReadyH.cons rfl (fun K hK => ?_) AllReadyH.nil
        rw [if_pos (by rfl)]
        go_simp
        refine hK.out _ _ hH (fun hH => ?_)
        clear hK K
        (try simp only [jA, jB, jC, Act.put, jD, jE, jF])
        refine wpAnyH_ready (rs := [16]) (by kernel_rfl) (by simp) ?_
        refine AllReadyH.cons rfl (fun K hK => ?_) AllReadyH.nil
        rw [if_pos (by rfl)]
        refine wp_store_row 42 _ _ rfl i3 #[.int .i64 fk, .int .u32 fa] rfl rfl 42 #[.int .i64 0, .int .u32 0] ((setRow_other _ _ _ _ (ne_of b3.out b1.out (by decide))).trans b3.out) size_flt rfl (by simp [Value.oneCell']) ?_
        refine hK.out _ _ ⟨(setRow_other _ _ _ _ (ne_of hH.1 ((setRow_other _ _ _ _ (ne_of b3.out b1.out (by decide))).trans b3.out) (by decide))).trans hH.1, (setRow_other _ _ _ _ (ne_of hH.2 ((setRow_other _ _ _ _ (ne_of b3.out b1.out (by decide))).trans b3.out) (by decide))).trans hH.2⟩ (fun hH => ?_)
        clear hK K
        (try simp only [jA, jB, jC, Act.put, jD, jE, jF])
        refine wpAnyH_done (by kernel_rfl) ?_ _
        clear hH
        go_wp2_with fail
        go_meet
        exact ⟨i1, i3, F, y, c, rfl, rfl, rfl, got_stores KD.out b1.out b3.out l1.out l3.out SL.out hF.out⟩
      case rest =>
        rename World => w5
        obtain ⟨i1, i3, F, y, c, rfl, rfl, rfl, G⟩ := hcut
        have G5 := hidd G
        have Q5 := hidd (Q.out.kep G.kep)
        clear G HF
        have cr' : xR.length ≤ cr := by
          obtain ⟨_, _, hv, _, h1, _⟩ := Q5.out.sr.lies
          cases hv; exact h1
        obtain ⟨j0, hj, hy0, hy1, hy2⟩ := info_parts info_src
        have f0 : w5.cell? ⟨i3, 0, none⟩ = some (.int .i64 fk) := cell_of_block G5.out.bj
        have c0 : w5.cell? ⟨bb, 0, none⟩ = some (.slice xi xI.length ci) := cell_of_block Q5.out.ct
        have hRL : (xR.length : Int) ≤ 200 := hR200
        by_cases hf : fk = 0
        · subst hf
          obtain ⟨ef, eN1, eN6, eall⟩ := fet_all hfk.out
          obtain rfl : fa = 0 := by rw [← hfa.out, ef]
          have hEs : E = srF B ix (s.go xn) := by rw [← hE.out]; exact srE_yes hfk.out
          have hmlN : ml = fetN B ix (s.go xn) := by rw [← hml.out, hEs]; exact srN_len _ _ _ _
          obtain ⟨d0, hd0⟩ : ∃ d, Hid (fetO B ix (s.go xn) = d) := ⟨_, rfl⟩
          obtain ⟨d1, hd1⟩ : ∃ d, Hid (fetA B ix (s.go xn) = d) := ⟨_, rfl⟩
          obtain ⟨d2, hd2⟩ : ∃ d, Hid (fetB B ix (s.go xn) = d) := ⟨_, rfl⟩
          obtain ⟨d3, hd3⟩ : ∃ d, Hid (fetM B ix (s.go xn) = d) := ⟨_, rfl⟩
          obtain rfl : V = insA d0 d1 d2 d3 := by rw [← VS.out]; unfold fetV; rw [if_pos hfk.out, hd0.out, hd1.out, hd2.out, hd3.out]
          have hd0r := fetO_range HBY.out ix (s.go xn)
          rw [hd0.out] at hd0r
          have FM := C.out.f.more HX.out OK.out xnr.out.2 hfk.out
          have hm1 : 1 ≤ ml := by omega
          have hm6 : (ml : Int) ≤ 6 := by omega
          have FMh := hidd FM
          have HEs := hidd hEs
          have HmN := hidd hmlN
          have HD0 := hidd hd0r
          obtain ⟨yb, yo, rfl, _, _, hcells⟩ := G5.out.sl.cells hm1
          have HC5 := hidd hcells
          have hln : Hid ((srs E).length = ml * 7) := by rw [Hid, srs_len, hml.out]
          clear FM hEs hmlN eall ef eN1 eN6 hcells hd0r
          go_wp2_with (at_builtin; refine wpList_append_many rfl (.tmp 39) (.tmp 40) 65 rfl 74 j0 _ 7 48 Tryz.underlying65 hj hy0 hy1 hy2 rfl (by decide) _ xR.length (srs xR) FR rfl Q5.out.sr ⟨yb, yo, none⟩ ml c (srs E) rfl hln.out HC5.out (srs_one E) (by unfold maxLen; omega) (by omega) ?_; intro v6 w6 F6 S6 P6 H6 O6; obtain ⟨x6, c6, hv6, _⟩ := S6.out.lies; subst hv6; have f0' := cell_of_block (i := 0) (P6.out.keeps G5.out.bj (fun h => Q5.out.sr.ne G5.out.bj (by decide) _ h rfl)))
          have hRE : Hid (xR.length + ml = (xR ++ E).length) := by rw [Hid, List.length_append, hml.out]
          have S6' : Hid (Sli w6 74 7 (.slice x6 (xR ++ E).length c6) (xR ++ E).length (srs (xR ++ E)) F6) := by have := S6.out; rw [← srs_app, hRE.out] at this; exact this
          rw [hRE.out]
          have Q6 := hidd (Q5.out.behind P6.out O6.out)
          have G6 : Hid (w6.heap[i1]? = some (.cells (insA d0 d1 d2 d3) 53 (0, 0))) := P6.out.keeps G5.out.bi (fun h => Q5.out.sr.ne G5.out.bi (by decide) _ h rfl)
          have PG : Hid (∀ j (h : j < (xR ++ E).length), ((xR ++ E)[j]).1 = s.pc + j ∧ s.pc + j < 32768) := by rw [Hid, HEs.out]; exact FMh.out.1
          have NN : Hid ((xn + fetN B ix (s.go xn)) % 4294967296 = s.pc + (xR ++ E).length) := by rw [Hid, HEs.out]; exact FMh.out.2
          have LR : Hid (1 ≤ (xR ++ E).length ∧ (xR ++ E).length ≤ 206 ∧ (xR ++ E).length = xR.length + ml) := by rw [← hRE.out]; exact ⟨by omega, by omega, rfl⟩
          have RC6 : Hid ((xR ++ E).length ≤ c6 ∧ c6 ≤ maxLen) := by
            obtain ⟨_, _, hv, _, h1, h2, _⟩ := S6'.out.lies
            cases hv; exact ⟨h1, h2⟩
          obtain ⟨yR, hyR⟩ : ∃ l, Hid (xR ++ E = l) := ⟨_, rfl⟩
          rw [hyR.out] at S6' PG NN LR RC6 ⊢
          have PR := hidd (follow_rise OK.out.pc.1 PG.out)
          refine (pages_any (n := yR.length) (L := yR) (S6'.out.kep ((Kep.refl _).alloc _)).lie rfl LR.out.1 (by have := LR.out.2; omega) RC6.out.1 RC6.out.2 (hat _ _ _ rfl) PR.out.1 PR.out.2).mono ?_
          rintro e w7 ⟨yP, cP, rfl, lP, hP1, hP2, k7, nP⟩
          have K7 := kep_trans ((Kep.refl w6).alloc _) k7
          have Q7 := hidd (Q6.out.kep K7)
          have S7 := hidd (S6'.out.kep K7)
          have G7 := hidd (K7.block G6.out)
          clear K7 k7 lP hP1 hP2 nP S6' G6 PR f0 c0
          by_cases hpg : 2 < (pgL yR).length
          · skip
            have hpi : (2 : Int) < ((pgL yR).length : Int) := by omega
            have FT : Hid (scnB B ix s m = ⟨xI, xA, xR, xn, xe, 0⟩) := by
              have := C.out.r
              rw [run_stop _ (stop_pages (by show 2 < (pgL (xR ++ srF B ix (s.go xn))).length; rw [← HEs.out, hyR.out]; exact hpg))] at this
              exact this.symm
            have k1 : 1 ≤ k := by
              rcases Nat.eq_zero_or_pos k with h0 | h0
              · exfalso
                have h1 := C.out.f.n; have h2 := C.out.c.r
                rw [h0] at h2
                have h3 : xR.length = 0 := by have : ({ I := xI, A := xA, R := xR, n := xn, e := xe, t := 0 } : SB).R.length = xR.length := rfl; omega
                have h4 : xR = [] := List.eq_nil_of_length_eq_zero h3
                have h5 : xn = s.pc := by have e : ({ I := xI, A := xA, R := xR, n := xn, e := xe, t := 0 } : SB).R.length = xR.length := rfl; rw [e, h3] at h1; simpa using h1
                have h6 : yR = srF B ix (s.go s.pc) := by rw [← hyR.out, h4, HEs.out, h5]; rfl
                have h7 := first_two (B := B) (ix := ix) HX.out OK.out (by rw [← h5]; exact hfk.out)
                rw [← h6] at h7
                omega
              · exact h0
            have F0 := hidd (C.out.z k1)
            have R1 : Hid (1 ≤ xR.length) := C.out.c.r1 k1
            have R2 : Hid (xR.length ≤ 300) := by show xR.length ≤ 300; omega
            have QT := Q7
            have RC : Hid (xR.length ≤ cr ∧ cr ≤ maxLen) := by
              obtain ⟨_, _, hv, _, h1, h2, _⟩ := QT.out.sr.lies
              cases hv; exact ⟨h1, h2⟩
            clear k1
            go_wp2_with fail
            have QT := hidd QT.out
            try go_wp2_with fail
            have TL := hidd QT.out.tl
            refine (frames_any (n := xR.length) (QT.out.kep ((Kep.refl _).alloc _)).sr.lie rfl R1.out R2.out RC.out.1 RC.out.2 (hat _ _ _ rfl)).mono ?_
            rintro e w6 ⟨yF, cF, rfl, lF, hF1, hF2, k6, nF⟩
            have T6 := hidd ((TL.out.kep ((Kep.refl _).alloc _)).kep k6)
            have LF := hidd lF
            have NF : Hid (∀ b o t, yF = some ⟨b, o, t⟩ → L ≤ b) := fun b o t h => by have := nF b o t h; have := QT.out.lL; rw [World.size_alloc] at *; omega
            have HFc : Hid ((fmL xR).length ≤ cF ∧ cF ≤ maxLen) := ⟨hF1, hF2⟩
            have c5 : w6.cell? ⟨bb, 5, none⟩ = some (.slice none 0 0) := cell_of_block T6.out.ct
            have z5 := row_frozen T6.out.ct 5
            clear k6 lF hF1 hF2 nF TL QT
            go_upto_region 22 with fail
            have T7 : Hid (TlW w (w6.setCell ⟨bb, 5, none⟩ (.slice yF (fmL xR).length cF)) s st rb rf bb L xI xA xR (blkC (.slice xi xI.length ci) (.slice xa xA.length ca) xn 0 xe (.slice yF (fmL xR).length cF) nilS) (.slice xi xI.length ci) (.slice xa xA.length ca) (.slice xr xR.length cr)) := T6.out.box ((Put.refl _).setCell (by simp) _) (heap_setCell_row T6.out.ct _)
            have LF7 : Hid (Lies (w6.setCell ⟨bb, 5, none⟩ (.slice yF (fmL xR).length cF)) yF (num .i64 (fmL xR))) := LF.out.far NF.out ((Put.refl _).setCell (l := [bb]) (by simp) _) (by have := T6.out.fx; simp; omega)
            generalize w6.setCell ⟨bb, 5, none⟩ (.slice yF (fmL xR).length cF) = w7 at T7 LF7 ⊢
            clear c5 z5 T6 LF
            refine wp_region_lit ?_
            refine wpList_load_row (by rfl) 28 _ (by rfl) st (by rfl) 28 s.v (0, 0) _ T7.out.cs Tryz.underlying28 rfl (by exact size_sta) ?_
            go_wp2_with fail
            refine (paged_any w7 OK.out).mono ?_
            rintro e w8 ⟨rfl, k8⟩
            have T8 := hidd (T7.out.kep k8)
            have LF8 := hidd (LF7.out.kep k8)
            clear k8 T7 LF7
            cases hpg : pgB s with
            | false =>
              have eT : Hid (scnT s (scnB B ix s m) = []) := by unfold Hid scnT; rw [hpg]; rfl
              clear hpg
              go_upto_region 24 with fail
              refine wp_region_lit ?_
              refine wpList_load_row (by rfl) 40 _ (by rfl) bb (by rfl) 40 (blkC (.slice xi xI.length ci) (.slice xa xA.length ca) xn 0 xe (.slice yF (fmL xR).length cF) nilS) (0, 0) _ T8.out.ct Tryz.underlying40 rfl (by exact size_blk) ?_
              have nbf := T8.out.fx.2.2.2.2.2.2.2.2.2.2
              have hrf := hidd ((setRow_other w8 rb rf (blkC (.slice xi xI.length ci) (.slice xa xA.length ca) xn 0 xe (.slice yF (fmL xR).length cF) nilS) (Ne.symm nbf)).trans T8.out.cf)
              go_wp2_with (first
                | (refine wpList_store_row (by rfl) 40 _ _ (by rfl) rb (blkC (.slice xi xI.length ci) (.slice xa xA.length ca) xn 0 xe (.slice yF (fmL xR).length cF) nilS) (by rfl) (by rfl) 40 (blkC nilS nilS 0 0 0 nilS nilS) T8.out.cb (by exact size_blk) (by rfl) (by simp [Value.oneCell']) ?_)
                | (refine wpList_store_row (by rfl) 42 _ _ (by rfl) rf #[.int .i64 0, .int .u32 0] (by rfl) (by rfl) 42 #[.int .i64 0, .int .u32 0] hrf.out (by exact size_flt) (by rfl) (by simp [Value.oneCell']) ?_))
              have PX : Put [rb, rf] w8 ((w8.setRow rb (blkC (.slice xi xI.length ci) (.slice xa xA.length ca) xn 0 xe (.slice yF (fmL xR).length cF) nilS)).setRow rf #[.int .i64 0, .int .u32 0]) := ((Put.refl _).setRow (by simp) _).setRow (by simp) _
              obtain ⟨KX, RI, RA⟩ := T8.out.last PX
              have hfx := T8.out.fx
              try simp only [Exit.noGoto_ret, Exit.inBlock, Exit.then]
              refine bodyPost_ret (v := .tuple #[.agg (blkC (.slice xi xI.length ci) (.slice xa xA.length ca) xn 0 xe (.slice yF (fmL xR).length cF) nilS), .agg #[.int .i64 0, .int .u32 0]]) (resultsBB (p := 6) (q := 7) (ty := 40) (ty' := 42) rfl _ _ rb 40 (blkC (.slice xi xI.length ci) (.slice xa xA.length ca) xn 0 xe (.slice yF (fmL xR).length cF) nilS) (0, 0) _ rf 42 #[.int .i64 0, .int .u32 0] (0, 0) _ rfl ((setRow_other _ _ _ _ nbf).trans (setRow_heap _ _ _ _ _ _ T8.out.cb)) Tryz.underlying40 rfl size_blk rfl (setRow_heap _ _ _ _ _ _ hrf.out) Tryz.underlying42 rfl size_flt) rfl ⟨KX, .inr ⟨F0.out, .slice xi xI.length ci, .slice xa xA.length ca, .slice yF (fmL xR).length cF, nilS, ?_, ?_, ?_, ?_, ?_⟩⟩
              · rw [FT.out]
              · rw [FT.out]; exact RI
              · rw [FT.out]; exact RA
              · rw [FT.out]; exact ⟨yF, cF, rfl, HFc.out.1, HFc.out.2, LF8.out.far NF.out PX (by simp; omega)⟩
              · rw [eT.out]; exact rowv_nil _
            | true =>
              have eT : Hid (scnT s (scnB B ix s m) = tbL xR) := by unfold Hid scnT; rw [hpg, FT.out]; rfl
              clear hpg
              go_wp2_with fail
              refine (tables_any (n := xR.length) (T8.out.kep ((Kep.refl _).alloc _)).lie rfl R1.out R2.out RC.out.1 RC.out.2 (hat _ _ _ rfl)).mono ?_
              rintro e w9 ⟨yT, cT, rfl, lT, hT1, hT2, k9, nT⟩
              have T9 := hidd ((T8.out.kep ((Kep.refl _).alloc _)).kep k9)
              have LT := hidd lT
              have LF9 := hidd ((LF8.out.kep ((Kep.refl _).alloc _)).kep k9)
              have NT : Hid (∀ b o t, yT = some ⟨b, o, t⟩ → L ≤ b) := fun b o t h => by have := nT b o t h; have := T8.out.lL; rw [World.size_alloc] at *; omega
              have HTc : Hid ((tbL xR).length ≤ cT ∧ cT ≤ maxLen) := ⟨hT1, hT2⟩
              have c6 : w9.cell? ⟨bb, 6, none⟩ = some (.slice none 0 0) := cell_of_block T9.out.ct
              have z6 := row_frozen T9.out.ct 6
              clear k9 lT hT1 hT2 nT T8 LF8
              go_upto_region 24 with fail
              have TX : Hid (TlW w (w9.setCell ⟨bb, 6, none⟩ (.slice yT (tbL xR).length cT)) s st rb rf bb L xI xA xR (blkC (.slice xi xI.length ci) (.slice xa xA.length ca) xn 0 xe (.slice yF (fmL xR).length cF) (.slice yT (tbL xR).length cT)) (.slice xi xI.length ci) (.slice xa xA.length ca) (.slice xr xR.length cr)) := T9.out.box ((Put.refl _).setCell (by simp) _) (heap_setCell_row T9.out.ct _)
              have LFX : Hid (Lies (w9.setCell ⟨bb, 6, none⟩ (.slice yT (tbL xR).length cT)) yF (num .i64 (fmL xR))) := LF9.out.far NF.out ((Put.refl _).setCell (l := [bb]) (by simp) _) (by have := T9.out.fx; simp; omega)
              have LTX : Hid (Lies (w9.setCell ⟨bb, 6, none⟩ (.slice yT (tbL xR).length cT)) yT (num .i64 (tbL xR))) := LT.out.far NT.out ((Put.refl _).setCell (l := [bb]) (by simp) _) (by have := T9.out.fx; simp; omega)
              generalize w9.setCell ⟨bb, 6, none⟩ (.slice yT (tbL xR).length cT) = wX at TX LFX LTX ⊢
              clear c6 z6 T9 LF9 LT
              refine wp_region_lit ?_
              refine wpList_load_row (by rfl) 40 _ (by rfl) bb (by rfl) 40 (blkC (.slice xi xI.length ci) (.slice xa xA.length ca) xn 0 xe (.slice yF (fmL xR).length cF) (.slice yT (tbL xR).length cT)) (0, 0) _ TX.out.ct Tryz.underlying40 rfl (by exact size_blk) ?_
              have nbf := TX.out.fx.2.2.2.2.2.2.2.2.2.2
              have hrf := hidd ((setRow_other wX rb rf (blkC (.slice xi xI.length ci) (.slice xa xA.length ca) xn 0 xe (.slice yF (fmL xR).length cF) (.slice yT (tbL xR).length cT)) (Ne.symm nbf)).trans TX.out.cf)
              go_wp2_with (first
                | (refine wpList_store_row (by rfl) 40 _ _ (by rfl) rb (blkC (.slice xi xI.length ci) (.slice xa xA.length ca) xn 0 xe (.slice yF (fmL xR).length cF) (.slice yT (tbL xR).length cT)) (by rfl) (by rfl) 40 (blkC nilS nilS 0 0 0 nilS nilS) TX.out.cb (by exact size_blk) (by rfl) (by simp [Value.oneCell']) ?_)
                | (refine wpList_store_row (by rfl) 42 _ _ (by rfl) rf #[.int .i64 0, .int .u32 0] (by rfl) (by rfl) 42 #[.int .i64 0, .int .u32 0] hrf.out (by exact size_flt) (by rfl) (by simp [Value.oneCell']) ?_))
              have PX : Put [rb, rf] wX ((wX.setRow rb (blkC (.slice xi xI.length ci) (.slice xa xA.length ca) xn 0 xe (.slice yF (fmL xR).length cF) (.slice yT (tbL xR).length cT))).setRow rf #[.int .i64 0, .int .u32 0]) := ((Put.refl _).setRow (by simp) _).setRow (by simp) _
              obtain ⟨KX, RI, RA⟩ := TX.out.last PX
              have hfx := TX.out.fx
              try simp only [Exit.noGoto_ret, Exit.inBlock, Exit.then]
              refine bodyPost_ret (v := .tuple #[.agg (blkC (.slice xi xI.length ci) (.slice xa xA.length ca) xn 0 xe (.slice yF (fmL xR).length cF) (.slice yT (tbL xR).length cT)), .agg #[.int .i64 0, .int .u32 0]]) (resultsBB (p := 6) (q := 7) (ty := 40) (ty' := 42) rfl _ _ rb 40 (blkC (.slice xi xI.length ci) (.slice xa xA.length ca) xn 0 xe (.slice yF (fmL xR).length cF) (.slice yT (tbL xR).length cT)) (0, 0) _ rf 42 #[.int .i64 0, .int .u32 0] (0, 0) _ rfl ((setRow_other _ _ _ _ nbf).trans (setRow_heap _ _ _ _ _ _ TX.out.cb)) Tryz.underlying40 rfl size_blk rfl (setRow_heap _ _ _ _ _ _ hrf.out) Tryz.underlying42 rfl size_flt) rfl ⟨KX, .inr ⟨F0.out, .slice xi xI.length ci, .slice xa xA.length ca, .slice yF (fmL xR).length cF, .slice yT (tbL xR).length cT, ?_, ?_, ?_, ?_, ?_⟩⟩
              · rw [FT.out]
              · rw [FT.out]; exact RI
              · rw [FT.out]; exact RA
              · rw [FT.out]; exact ⟨yF, cF, rfl, HFc.out.1, HFc.out.2, LFX.out.far NF.out PX (by simp; omega)⟩
              · rw [eT.out]; exact ⟨yT, cT, rfl, HTc.out.1, HTc.out.2, LTX.out.far NT.out PX (by simp; omega)⟩
          · have hpi : ¬ (2 : Int) < ((pgL yR).length : Int) := by omega
            have STN : Hid (SB.stop B ix s ⟨xI, xA, xR, xn, xe, 0⟩ = false) := stop_not hfk.out (by show ¬ 2 < (pgL (xR ++ srF B ix (s.go xn))).length; rw [← HEs.out, hyR.out]; exact hpg)
            have Q8 := hidd (Q7.out.read (m := w5.heap.size) S7.out H6.out Q5.out.lL Q5.out.si.lt Q5.out.sa.lt)
            have T8 := hidd Q8.out.two
            have hL1 : (xI.length : Int) ≤ 32 := by omega
            have hL2 : (xA.length : Int) ≤ 32 := by have h := C.out.c.a; have e : ({ I := xI, A := xA, R := xR, n := xn, e := xe, t := 0 } : SB).A.length = xA.length := rfl; omega
            go_upto_region 13 with fail
            go_cut [] from 64 to 76 (fun wx => ∃ xi' ci' xa' ca' FI' FA', Hid (ScW w wx s st rb rf bb p o kb L (xI ++ [(d0, (d1 : Int), (d2 : Int), d3)]) (xA ++ [xn]) yR xn 0 xe (.slice xi' (xI ++ [(d0, (d1 : Int), (d2 : Int), d3)]).length ci') (.slice xa' (xA ++ [xn]).length ca') (.slice x6 yR.length c6) FI' FA' F6) ∧ Hid (wx.heap[i1]? = some (.cells (insA d0 d1 d2 d3) 53 (0, 0))))
            case first =>
              have fxx := T8.out.fx.hi
              have NBI : Hid (bb ∉ FI) := fun h => by have := T8.out.gi _ h; omega
              have NBA : Hid (bb ∉ FA) := fun h => by have := T8.out.ga _ h; omega
              have NA : Hid (i1 ∉ FA) := fun h => T8.out.sa.ne G7.out (by decide) _ h rfl
              have NI : Hid (i1 ∉ FI) := fun h => by have h1 := Q.out.si.lt _ h; have := G5.out.li; omega
              clear fxx
              refine wp_region_held_drew (S := fun w' => w'.heap[i1]? = some (.cells (insA d0 d1 d2 d3) 53 (0, 0)) ∧ w'.cell? ⟨bb, 2, none⟩ = some (.int .u32 xn)) (by kernel_rfl) ⟨(drew_heap _ _).trans G7.out, cell_of_block ((drew_heap _ _).trans T8.out.ct)⟩ (fun hH => ?_)
              have BQ := hidd (T8.out.kep ((Kep.refl w7).drew))
              generalize w7.drew = D at hH BQ ⊢
              refine wpAnyH_take (i := 0) (v := .pointer (some ⟨bb, 0, none⟩)) rfl (by kernel_rfl) (by kernel_rfl) (by kernel_rfl) (fun _ _ _ h => h) (.inl ⟨by rfl, by intro w hS; go_simp⟩) hH ?_
              (try simp only [jA, jB, jC, Act.put, jD, jE, jF])
              refine wpAnyH_take (i := 2) (v := .agg (insA d0 d1 d2 d3)) rfl (by kernel_rfl) (by kernel_rfl) (by kernel_rfl) (fun _ _ _ h => h) (yields_row rfl 53 _ (by rfl) i1 (by rfl) 53 (insA d0 d1 d2 d3) (0, 0) _ (fun w h => h.1) Tryz.underlying53 rfl size_insb) hH ?_
              (try simp only [jA, jB, jC, Act.put, jD, jE, jF])
              refine wpAnyH_take (i := 5) (v := .pointer (some ⟨bb, 1, none⟩)) rfl (by kernel_rfl) (by kernel_rfl) (by kernel_rfl) (fun _ _ _ h => h) (.inl ⟨by rfl, by intro w hS; go_simp⟩) hH ?_
              (try simp only [jA, jB, jC, Act.put, jD, jE, jF])
              refine wpAnyH_take (i := 7) (v := .pointer (some ⟨bb, 2, none⟩)) rfl (by kernel_rfl) (by kernel_rfl) (by kernel_rfl) (fun _ _ _ h => h) (.inl ⟨by rfl, by intro w hS; go_simp⟩) hH ?_
              (try simp only [jA, jB, jC, Act.put, jD, jE, jF])
              refine wpAnyH_take (i := 8) (v := .int .u32 xn) rfl (by kernel_rfl) (by kernel_rfl) (by kernel_rfl) (fun _ _ _ h => h) (.inl ⟨by rfl, by intro w hS; have c2 := hS.2; go_simp⟩) hH ?_
              (try simp only [jA, jB, jC, Act.put, jD, jE, jF])
              refine wpAnyH_ready (rs := [1, 3, 6, 9]) (by kernel_rfl) (by simp) ?_
              refine AllReadyH.cons rfl (fun K hK => ?_) ?_
              · skip
                rw [if_pos (by rfl)]
                have c0 : D.cell? ⟨bb, 0, none⟩ = some (.slice xi xI.length ci) := cell_of_block BQ.out.ct
                go_simp
                refine hK.out _ _ hH (fun hH => ?_)
                clear hK K c0
                (try simp only [jA, jB, jC, Act.put, jD, jE, jF])
                refine wpAnyH_ready (rs := [3, 6, 9]) (by kernel_rfl) (by simp) ?_
                refine AllReadyH.cons rfl (fun K hK => ?_) ?_
                · skip
                  rw [if_pos (by rfl)]
                  go_simp
                  obtain ⟨D3, eD3⟩ : ∃ V, Hid (D.alloc (.cells (insA d0 d1 d2 d3) 53) = V) := ⟨_, rfl⟩
                  obtain ⟨n3, en3⟩ : ∃ x, Hid (x = D.heap.size) := ⟨_, rfl⟩
                  rw [eD3.out, ← en3.out]
                  have kk : Kep D D3 := by rw [← eD3.out]; exact (Kep.refl _).alloc _
                  have BX3 : Hid (D3.heap[n3]? = some (.cells (insA d0 d1 d2 d3) 53 (0, 0))) := by rw [← eD3.out, en3.out]; exact hat _ _ _ rfl
                  have NX3 : Hid (∀ c ∈ FA, c ≠ n3) := fun c hc => by have := BQ.out.sa.lt c hc; have := en3.out; omega
                  have BQ := hidd (BQ.out.kep kk)
                  refine hK.out _ _ ⟨kk.block hH.1, (kk.cell (World.block_lt_of_cell? _ _ hH.2)).trans hH.2⟩ (fun hH => ?_)
                  clear hK K kk
                  (try simp only [jA, jB, jC, Act.put, jD, jE, jF])
                  refine wpAnyH_ready (rs := [4, 6, 9]) (by kernel_rfl) (by simp) ?_
                  refine AllReadyH.cons rfl (fun K hK => ?_) ?_
                  · skip
                    rw [if_pos (by rfl)]
                    obtain ⟨i0, hi, hz0, hz1, hz2⟩ := info_parts info_ins8
                    refine wp_append_sli (.tmp 65) (.tmp 67) 23 (by rfl) 53 i0 _ 4 8 Tryz.underlying23 hi hz0 hz1 hz2 (by rfl) (by decide) _ xI.length (inss xI) FI (by rfl) BQ.out.si ⟨n3, 0, none⟩ 1 (insA d0 d1 d2 d3).toList (by rfl) (by rfl) (World.news_of_block BX3.out) (by simp [Value.oneCell']) (by unfold maxLen; omega) (by omega) ?_
                    intro v4 D34 F4 S4 P4 H4
                    obtain ⟨xs4, cs4, hv4, _⟩ := S4.out.lies
                    subst hv4
                    have n1 : i1 ∉ FI := NI.out
                    refine hK.out _ _ ⟨P4.out.keeps hH.1 n1, (P4.out.cell (World.block_lt_of_cell? _ _ hH.2) NBI.out).trans hH.2⟩ (fun hH => ?_)
                    have BQ := hidd (BQ.out.insA S4.out P4.out H4.out)
                    clear hi hz0 hz1 hz2 hK K
                    (try simp only [jA, jB, jC, Act.put, jD, jE, jF])
                    refine wpAnyH_ready (rs := [6, 9]) (by kernel_rfl) (by simp) ?_
                    refine AllReadyH.cons rfl (fun K hK => ?_) ?_
                    · skip
                      rw [if_pos (by rfl)]
                      have c0 : D34.cell? ⟨bb, 1, none⟩ = some (.slice xa xA.length ca) := cell_of_block BQ.out.ct
                      go_simp
                      refine hK.out _ _ hH (fun hH => ?_)
                      clear hK K c0
                      (try simp only [jA, jB, jC, Act.put, jD, jE, jF])
                      refine wpAnyH_take (i := 11) (v := .pointer (some ⟨bb, 0, none⟩)) rfl (by kernel_rfl) (by kernel_rfl) (by kernel_rfl) (fun _ _ _ h => h) (.inl ⟨by rfl, by intro w hS; go_simp⟩) hH ?_
                      (try simp only [jA, jB, jC, Act.put, jD, jE, jF])
                      refine wpAnyH_ready (rs := [9]) (by kernel_rfl) (by simp) ?_
                      refine AllReadyH.cons rfl (fun K hK => ?_) AllReadyH.nil
                      rw [if_pos (by rfl)]
                      go_simp
                      obtain ⟨D349, eD349⟩ : ∃ V, Hid (D34.alloc (.cells #[.int .u32 xn] 25) = V) := ⟨_, rfl⟩
                      obtain ⟨n9, en9⟩ : ∃ x, Hid (x = D34.heap.size) := ⟨_, rfl⟩
                      rw [eD349.out, ← en9.out]
                      have kk : Kep D34 D349 := by rw [← eD349.out]; exact (Kep.refl _).alloc _
                      have BX9 : Hid (D349.heap[n9]? = some (.cells #[.int .u32 xn] 25 (0, 0))) := by rw [← eD349.out, en9.out]; exact hat _ _ _ rfl
                      have NX9 : Hid (∀ c ∈ F4, c ≠ n9) := fun c hc => by have := BQ.out.si.lt c hc; have := en9.out; omega
                      have BQ := hidd (BQ.out.kep kk)
                      refine hK.out _ _ ⟨kk.block hH.1, (kk.cell (World.block_lt_of_cell? _ _ hH.2)).trans hH.2⟩ (fun hH => ?_)
                      clear hK K kk
                      (try simp only [jA, jB, jC, Act.put, jD, jE, jF])
                      refine wpAnyH_ready (rs := [10]) (by kernel_rfl) (by simp) ?_
                      refine AllReadyH.cons rfl (fun K hK => ?_) AllReadyH.nil
                      rw [if_pos (by rfl)]
                      obtain ⟨i0, hi, hz0, hz1, hz2⟩ := info_parts info_u32
                      refine wp_append_sli (.tmp 70) (.tmp 73) 37 (by rfl) 25 i0 _ 1 4 Tryz.underlying37 hi hz0 hz1 hz2 (by rfl) (by decide) _ xA.length (num .u32 xA) FA (by rfl) BQ.out.sa ⟨n9, 0, none⟩ 1 [.int .u32 xn] (by rfl) (by rfl) (World.news_of_block BX9.out) (by simp [Value.oneCell']) (by unfold maxLen; omega) (by omega) ?_
                      intro v10 D34910 F10 S10 P10 H10
                      obtain ⟨xs10, cs10, hv10, _⟩ := S10.out.lies
                      subst hv10
                      refine hK.out _ _ ⟨P10.out.keeps hH.1 NA.out, (P10.out.cell (World.block_lt_of_cell? _ _ hH.2) NBA.out).trans hH.2⟩ (fun hH => ?_)
                      have BQ := hidd (BQ.out.atA S10.out P10.out H10.out)
                      clear hi hz0 hz1 hz2 hK K
                      (try simp only [jA, jB, jC, Act.put, jD, jE, jF])
                      refine wpAnyH_ready (rs := [12]) (by kernel_rfl) (by simp) ?_
                      refine AllReadyH.cons rfl (fun K hK => ?_) AllReadyH.nil
                      rw [if_pos (by rfl)]
                      have c0 : D34910.cell? ⟨bb, 0, none⟩ = some (.slice xi xI.length ci) := cell_of_block BQ.out.ct
                      have z0 := row_frozen BQ.out.ct 0
                      go_simp
                      have h1 := (heap_setCell_row BQ.out.ct (.slice xs4 (xI.length + 1) cs4) (k := 0))
                      refine hK.out _ _ ⟨(heap_setCell_other _ _ _ _ (ne_of hH.1 BQ.out.ct (by decide))).trans hH.1, cell_of_block h1⟩ (fun hH => ?_)
                      clear hK K c0 z0
                      (try simp only [jA, jB, jC, Act.put, jD, jE, jF])
                      refine wpAnyH_take (i := 13) (v := .pointer (some ⟨bb, 1, none⟩)) rfl (by kernel_rfl) (by kernel_rfl) (by kernel_rfl) (fun _ _ _ h => h) (.inl ⟨by rfl, by intro w hS; go_simp⟩) hH ?_
                      (try simp only [jA, jB, jC, Act.put, jD, jE, jF])
                      refine wpAnyH_ready (rs := [14]) (by kernel_rfl) (by simp) ?_
                      refine AllReadyH.cons rfl (fun K hK => ?_) AllReadyH.nil
                      rw [if_pos (by rfl)]
                      have c1 := cell_of_block (i := 1) h1
                      have z1 := row_frozen h1 1
                      go_simp
                      have h2 := (heap_setCell_row h1 (.slice xs10 (xA.length + 1) cs10) (k := 1))
                      refine hK.out _ _ ⟨(heap_setCell_other _ _ _ _ (ne_of hH.1 h1 (by decide))).trans hH.1, cell_of_block h2⟩ (fun hH => ?_)
                      clear hK K c1 z1
                      (try simp only [jA, jB, jC, Act.put, jD, jE, jF])
                      refine wpAnyH_done (by kernel_rfl) ?_ _
                      have GH := hidd hH.1
                      have H2 := hidd h2
                      clear hH h1 h2
                      go_wp2_with fail
                      go_meet
                      have fin := BQ.out.done (I' := xI ++ [(d0, (d1 : Int), (d2 : Int), d3)]) (A' := xA ++ [xn]) (((Put.refl D34910).setCell (by simp) _).setCell (by simp) _) H2.out (by simp [inss, inV]) (by simp) (by simp [num]) (by simp)
                      have l1 : xI.length + 1 = (xI ++ [(d0, (d1 : Int), (d2 : Int), d3)]).length := by simp
                      have l2 : xA.length + 1 = (xA ++ [xn]).length := by simp
                      rw [l1, l2] at fin
                      rw [l1, l2] at GH
                      rw [l1, l2]
                      exact ⟨xs4, cs4, xs10, cs10, _, _, fin, GH.out⟩
                    refine AllReadyH.cons rfl (fun K hK => ?_) AllReadyH.nil
                    rw [if_pos (by rfl)]
                    go_simp
                    obtain ⟨D349, eD349⟩ : ∃ V, Hid (D34.alloc (.cells #[.int .u32 xn] 25) = V) := ⟨_, rfl⟩
                    obtain ⟨n9, en9⟩ : ∃ x, Hid (x = D34.heap.size) := ⟨_, rfl⟩
                    rw [eD349.out, ← en9.out]
                    have kk : Kep D34 D349 := by rw [← eD349.out]; exact (Kep.refl _).alloc _
                    have BX9 : Hid (D349.heap[n9]? = some (.cells #[.int .u32 xn] 25 (0, 0))) := by rw [← eD349.out, en9.out]; exact hat _ _ _ rfl
                    have NX9 : Hid (∀ c ∈ F4, c ≠ n9) := fun c hc => by have := BQ.out.si.lt c hc; have := en9.out; omega
                    have BQ := hidd (BQ.out.kep kk)
                    refine hK.out _ _ ⟨kk.block hH.1, (kk.cell (World.block_lt_of_cell? _ _ hH.2)).trans hH.2⟩ (fun hH => ?_)
                    clear hK K kk
                    (try simp only [jA, jB, jC, Act.put, jD, jE, jF])
                    refine wpAnyH_ready (rs := [6]) (by kernel_rfl) (by simp) ?_
                    refine AllReadyH.cons rfl (fun K hK => ?_) AllReadyH.nil
                    rw [if_pos (by rfl)]
                    have c0 : D349.cell? ⟨bb, 1, none⟩ = some (.slice xa xA.length ca) := cell_of_block BQ.out.ct
                    go_simp
                    refine hK.out _ _ hH (fun hH => ?_)
                    clear hK K c0
                    (try simp only [jA, jB, jC, Act.put, jD, jE, jF])
                    refine wpAnyH_take (i := 11) (v := .pointer (some ⟨bb, 0, none⟩)) rfl (by kernel_rfl) (by kernel_rfl) (by kernel_rfl) (fun _ _ _ h => h) (.inl ⟨by rfl, by intro w hS; go_simp⟩) hH ?_
                    (try simp only [jA, jB, jC, Act.put, jD, jE, jF])
                    refine wpAnyH_ready (rs := [10]) (by kernel_rfl) (by simp) ?_
                    refine AllReadyH.cons rfl (fun K hK => ?_) AllReadyH.nil
                    rw [if_pos (by rfl)]
                    obtain ⟨i0, hi, hz0, hz1, hz2⟩ := info_parts info_u32
                    refine wp_append_sli (.tmp 70) (.tmp 73) 37 (by rfl) 25 i0 _ 1 4 Tryz.underlying37 hi hz0 hz1 hz2 (by rfl) (by decide) _ xA.length (num .u32 xA) FA (by rfl) BQ.out.sa ⟨n9, 0, none⟩ 1 [.int .u32 xn] (by rfl) (by rfl) (World.news_of_block BX9.out) (by simp [Value.oneCell']) (by unfold maxLen; omega) (by omega) ?_
                    intro v10 D34910 F10 S10 P10 H10
                    obtain ⟨xs10, cs10, hv10, _⟩ := S10.out.lies
                    subst hv10
                    refine hK.out _ _ ⟨P10.out.keeps hH.1 NA.out, (P10.out.cell (World.block_lt_of_cell? _ _ hH.2) NBA.out).trans hH.2⟩ (fun hH => ?_)
                    have BQ := hidd (BQ.out.atA S10.out P10.out H10.out)
                    clear hi hz0 hz1 hz2 hK K
                    (try simp only [jA, jB, jC, Act.put, jD, jE, jF])
                    refine wpAnyH_ready (rs := [12]) (by kernel_rfl) (by simp) ?_
                    refine AllReadyH.cons rfl (fun K hK => ?_) AllReadyH.nil
                    rw [if_pos (by rfl)]
                    have c0 : D34910.cell? ⟨bb, 0, none⟩ = some (.slice xi xI.length ci) := cell_of_block BQ.out.ct
                    have z0 := row_frozen BQ.out.ct 0
                    go_simp
                    have h1 := (heap_setCell_row BQ.out.ct (.slice xs4 (xI.length + 1) cs4) (k := 0))
                    refine hK.out _ _ ⟨(heap_setCell_other _ _ _ _ (ne_of hH.1 BQ.out.ct (by decide))).trans hH.1, cell_of_block h1⟩ (fun hH => ?_)
                    clear hK K c0 z0
                    (try simp only [jA, jB, jC, Act.put, jD, jE, jF])
                    refine wpAnyH_take (i := 13) (v := .pointer (some ⟨bb, 1, none⟩)) rfl (by kernel_rfl) (by kernel_rfl) (by kernel_rfl) (fun _ _ _ h => h) (.inl ⟨by rfl, by intro w hS; go_simp⟩) hH ?_
                    (try simp only [jA, jB, jC, Act.put, jD, jE, jF])
                    refine wpAnyH_ready (rs := [14]) (by kernel_rfl) (by simp) ?_
                    refine AllReadyH.cons rfl (fun K hK => ?_) AllReadyH.nil
                    rw [if_pos (by rfl)]
                    have c1 := cell_of_block (i := 1) h1
                    have z1 := row_frozen h1 1
                    go_simp
                    have h2 := (heap_setCell_row h1 (.slice xs10 (xA.length + 1) cs10) (k := 1))
                    refine hK.out _ _ ⟨(heap_setCell_other _ _ _ _ (ne_of hH.1 h1 (by decide))).trans hH.1, cell_of_block h2⟩ (fun hH => ?_)
                    clear hK K c1 z1
                    (try simp only [jA, jB, jC, Act.put, jD, jE, jF])
                    refine wpAnyH_done (by kernel_rfl) ?_ _
                    have GH := hidd hH.1
                    have H2 := hidd h2
                    clear hH h1 h2
                    go_wp2_with fail
                    go_meet
                    have fin := BQ.out.done (I' := xI ++ [(d0, (d1 : Int), (d2 : Int), d3)]) (A' := xA ++ [xn]) (((Put.refl D34910).setCell (by simp) _).setCell (by simp) _) H2.out (by simp [inss, inV]) (by simp) (by simp [num]) (by simp)
                    have l1 : xI.length + 1 = (xI ++ [(d0, (d1 : Int), (d2 : Int), d3)]).length := by simp
                    have l2 : xA.length + 1 = (xA ++ [xn]).length := by simp
                    rw [l1, l2] at fin
                    rw [l1, l2] at GH
                    rw [l1, l2]
                    exact ⟨xs4, cs4, xs10, cs10, _, _, fin, GH.out⟩
                  refine AllReadyH.cons rfl (fun K hK => ?_) ?_
                  · skip
                    rw [if_pos (by rfl)]
                    have c0 : D3.cell? ⟨bb, 1, none⟩ = some (.slice xa xA.length ca) := cell_of_block BQ.out.ct
                    go_simp
                    refine hK.out _ _ hH (fun hH => ?_)
                    clear hK K c0
                    (try simp only [jA, jB, jC, Act.put, jD, jE, jF])
                    refine wpAnyH_ready (rs := [4, 9]) (by kernel_rfl) (by simp) ?_
                    refine AllReadyH.cons rfl (fun K hK => ?_) ?_
                    · skip
                      rw [if_pos (by rfl)]
                      obtain ⟨i0, hi, hz0, hz1, hz2⟩ := info_parts info_ins8
                      refine wp_append_sli (.tmp 65) (.tmp 67) 23 (by rfl) 53 i0 _ 4 8 Tryz.underlying23 hi hz0 hz1 hz2 (by rfl) (by decide) _ xI.length (inss xI) FI (by rfl) BQ.out.si ⟨n3, 0, none⟩ 1 (insA d0 d1 d2 d3).toList (by rfl) (by rfl) (World.news_of_block BX3.out) (by simp [Value.oneCell']) (by unfold maxLen; omega) (by omega) ?_
                      intro v4 D34 F4 S4 P4 H4
                      obtain ⟨xs4, cs4, hv4, _⟩ := S4.out.lies
                      subst hv4
                      have n1 : i1 ∉ FI := NI.out
                      refine hK.out _ _ ⟨P4.out.keeps hH.1 n1, (P4.out.cell (World.block_lt_of_cell? _ _ hH.2) NBI.out).trans hH.2⟩ (fun hH => ?_)
                      have BQ := hidd (BQ.out.insA S4.out P4.out H4.out)
                      clear hi hz0 hz1 hz2 hK K
                      (try simp only [jA, jB, jC, Act.put, jD, jE, jF])
                      refine wpAnyH_take (i := 11) (v := .pointer (some ⟨bb, 0, none⟩)) rfl (by kernel_rfl) (by kernel_rfl) (by kernel_rfl) (fun _ _ _ h => h) (.inl ⟨by rfl, by intro w hS; go_simp⟩) hH ?_
                      (try simp only [jA, jB, jC, Act.put, jD, jE, jF])
                      refine wpAnyH_ready (rs := [9]) (by kernel_rfl) (by simp) ?_
                      refine AllReadyH.cons rfl (fun K hK => ?_) AllReadyH.nil
                      rw [if_pos (by rfl)]
                      go_simp
                      obtain ⟨D349, eD349⟩ : ∃ V, Hid (D34.alloc (.cells #[.int .u32 xn] 25) = V) := ⟨_, rfl⟩
                      obtain ⟨n9, en9⟩ : ∃ x, Hid (x = D34.heap.size) := ⟨_, rfl⟩
                      rw [eD349.out, ← en9.out]
                      have kk : Kep D34 D349 := by rw [← eD349.out]; exact (Kep.refl _).alloc _
                      have BX9 : Hid (D349.heap[n9]? = some (.cells #[.int .u32 xn] 25 (0, 0))) := by rw [← eD349.out, en9.out]; exact hat _ _ _ rfl
                      have NX9 : Hid (∀ c ∈ F4, c ≠ n9) := fun c hc => by have := BQ.out.si.lt c hc; have := en9.out; omega
                      have BQ := hidd (BQ.out.kep kk)
                      refine hK.out _ _ ⟨kk.block hH.1, (kk.cell (World.block_lt_of_cell? _ _ hH.2)).trans hH.2⟩ (fun hH => ?_)
                      clear hK K kk
                      (try simp only [jA, jB, jC, Act.put, jD, jE, jF])
                      refine wpAnyH_ready (rs := [10]) (by kernel_rfl) (by simp) ?_
                      refine AllReadyH.cons rfl (fun K hK => ?_) AllReadyH.nil
                      rw [if_pos (by rfl)]
                      obtain ⟨i0, hi, hz0, hz1, hz2⟩ := info_parts info_u32
                      refine wp_append_sli (.tmp 70) (.tmp 73) 37 (by rfl) 25 i0 _ 1 4 Tryz.underlying37 hi hz0 hz1 hz2 (by rfl) (by decide) _ xA.length (num .u32 xA) FA (by rfl) BQ.out.sa ⟨n9, 0, none⟩ 1 [.int .u32 xn] (by rfl) (by rfl) (World.news_of_block BX9.out) (by simp [Value.oneCell']) (by unfold maxLen; omega) (by omega) ?_
                      intro v10 D34910 F10 S10 P10 H10
                      obtain ⟨xs10, cs10, hv10, _⟩ := S10.out.lies
                      subst hv10
                      refine hK.out _ _ ⟨P10.out.keeps hH.1 NA.out, (P10.out.cell (World.block_lt_of_cell? _ _ hH.2) NBA.out).trans hH.2⟩ (fun hH => ?_)
                      have BQ := hidd (BQ.out.atA S10.out P10.out H10.out)
                      clear hi hz0 hz1 hz2 hK K
                      (try simp only [jA, jB, jC, Act.put, jD, jE, jF])
                      refine wpAnyH_ready (rs := [12]) (by kernel_rfl) (by simp) ?_
                      refine AllReadyH.cons rfl (fun K hK => ?_) AllReadyH.nil
                      rw [if_pos (by rfl)]
                      have c0 : D34910.cell? ⟨bb, 0, none⟩ = some (.slice xi xI.length ci) := cell_of_block BQ.out.ct
                      have z0 := row_frozen BQ.out.ct 0
                      go_simp
                      have h1 := (heap_setCell_row BQ.out.ct (.slice xs4 (xI.length + 1) cs4) (k := 0))
                      refine hK.out _ _ ⟨(heap_setCell_other _ _ _ _ (ne_of hH.1 BQ.out.ct (by decide))).trans hH.1, cell_of_block h1⟩ (fun hH => ?_)
                      clear hK K c0 z0
                      (try simp only [jA, jB, jC, Act.put, jD, jE, jF])
                      refine wpAnyH_take (i := 13) (v := .pointer (some ⟨bb, 1, none⟩)) rfl (by kernel_rfl) (by kernel_rfl) (by kernel_rfl) (fun _ _ _ h => h) (.inl ⟨by rfl, by intro w hS; go_simp⟩) hH ?_
                      (try simp only [jA, jB, jC, Act.put, jD, jE, jF])
                      refine wpAnyH_ready (rs := [14]) (by kernel_rfl) (by simp) ?_
                      refine AllReadyH.cons rfl (fun K hK => ?_) AllReadyH.nil
                      rw [if_pos (by rfl)]
                      have c1 := cell_of_block (i := 1) h1
                      have z1 := row_frozen h1 1
                      go_simp
                      have h2 := (heap_setCell_row h1 (.slice xs10 (xA.length + 1) cs10) (k := 1))
                      refine hK.out _ _ ⟨(heap_setCell_other _ _ _ _ (ne_of hH.1 h1 (by decide))).trans hH.1, cell_of_block h2⟩ (fun hH => ?_)
                      clear hK K c1 z1
                      (try simp only [jA, jB, jC, Act.put, jD, jE, jF])
                      refine wpAnyH_done (by kernel_rfl) ?_ _
                      have GH := hidd hH.1
                      have H2 := hidd h2
                      clear hH h1 h2
                      go_wp2_with fail
                      go_meet
                      have fin := BQ.out.done (I' := xI ++ [(d0, (d1 : Int), (d2 : Int), d3)]) (A' := xA ++ [xn]) (((Put.refl D34910).setCell (by simp) _).setCell (by simp) _) H2.out (by simp [inss, inV]) (by simp) (by simp [num]) (by simp)
                      have l1 : xI.length + 1 = (xI ++ [(d0, (d1 : Int), (d2 : Int), d3)]).length := by simp
                      have l2 : xA.length + 1 = (xA ++ [xn]).length := by simp
                      rw [l1, l2] at fin
                      rw [l1, l2] at GH
                      rw [l1, l2]
                      exact ⟨xs4, cs4, xs10, cs10, _, _, fin, GH.out⟩
                    refine AllReadyH.cons rfl (fun K hK => ?_) AllReadyH.nil
                    rw [if_pos (by rfl)]
                    go_simp
                    obtain ⟨D39, eD39⟩ : ∃ V, Hid (D3.alloc (.cells #[.int .u32 xn] 25) = V) := ⟨_, rfl⟩
                    obtain ⟨n9, en9⟩ : ∃ x, Hid (x = D3.heap.size) := ⟨_, rfl⟩
                    rw [eD39.out, ← en9.out]
                    have kk : Kep D3 D39 := by rw [← eD39.out]; exact (Kep.refl _).alloc _
                    have BX9 : Hid (D39.heap[n9]? = some (.cells #[.int .u32 xn] 25 (0, 0))) := by rw [← eD39.out, en9.out]; exact hat _ _ _ rfl
                    have NX9 : Hid (∀ c ∈ FI, c ≠ n9) := fun c hc => by have := BQ.out.si.lt c hc; have := en9.out; omega
                    have BQ := hidd (BQ.out.kep kk)
                    refine hK.out _ _ ⟨kk.block hH.1, (kk.cell (World.block_lt_of_cell? _ _ hH.2)).trans hH.2⟩ (fun hH => ?_)
                    have BX3 := hidd (kk.block BX3.out)
                    clear hK K kk
                    (try simp only [jA, jB, jC, Act.put, jD, jE, jF])
                    refine wpAnyH_ready (rs := [4]) (by kernel_rfl) (by simp) ?_
                    refine AllReadyH.cons rfl (fun K hK => ?_) AllReadyH.nil
                    rw [if_pos (by rfl)]
                    obtain ⟨i0, hi, hz0, hz1, hz2⟩ := info_parts info_ins8
                    refine wp_append_sli (.tmp 65) (.tmp 67) 23 (by rfl) 53 i0 _ 4 8 Tryz.underlying23 hi hz0 hz1 hz2 (by rfl) (by decide) _ xI.length (inss xI) FI (by rfl) BQ.out.si ⟨n3, 0, none⟩ 1 (insA d0 d1 d2 d3).toList (by rfl) (by rfl) (World.news_of_block BX3.out) (by simp [Value.oneCell']) (by unfold maxLen; omega) (by omega) ?_
                    intro v4 D394 F4 S4 P4 H4
                    obtain ⟨xs4, cs4, hv4, _⟩ := S4.out.lies
                    subst hv4
                    have n1 : i1 ∉ FI := NI.out
                    refine hK.out _ _ ⟨P4.out.keeps hH.1 n1, (P4.out.cell (World.block_lt_of_cell? _ _ hH.2) NBI.out).trans hH.2⟩ (fun hH => ?_)
                    have BX9 := hidd (P4.out.keeps BX9.out (fun h => NX9.out _ h rfl))
                    have BQ := hidd (BQ.out.insA S4.out P4.out H4.out)
                    clear hi hz0 hz1 hz2 hK K
                    (try simp only [jA, jB, jC, Act.put, jD, jE, jF])
                    refine wpAnyH_take (i := 11) (v := .pointer (some ⟨bb, 0, none⟩)) rfl (by kernel_rfl) (by kernel_rfl) (by kernel_rfl) (fun _ _ _ h => h) (.inl ⟨by rfl, by intro w hS; go_simp⟩) hH ?_
                    (try simp only [jA, jB, jC, Act.put, jD, jE, jF])
                    refine wpAnyH_ready (rs := [10]) (by kernel_rfl) (by simp) ?_
                    refine AllReadyH.cons rfl (fun K hK => ?_) AllReadyH.nil
                    rw [if_pos (by rfl)]
                    obtain ⟨i0, hi, hz0, hz1, hz2⟩ := info_parts info_u32
                    refine wp_append_sli (.tmp 70) (.tmp 73) 37 (by rfl) 25 i0 _ 1 4 Tryz.underlying37 hi hz0 hz1 hz2 (by rfl) (by decide) _ xA.length (num .u32 xA) FA (by rfl) BQ.out.sa ⟨n9, 0, none⟩ 1 [.int .u32 xn] (by rfl) (by rfl) (World.news_of_block BX9.out) (by simp [Value.oneCell']) (by unfold maxLen; omega) (by omega) ?_
                    intro v10 D39410 F10 S10 P10 H10
                    obtain ⟨xs10, cs10, hv10, _⟩ := S10.out.lies
                    subst hv10
                    refine hK.out _ _ ⟨P10.out.keeps hH.1 NA.out, (P10.out.cell (World.block_lt_of_cell? _ _ hH.2) NBA.out).trans hH.2⟩ (fun hH => ?_)
                    have BQ := hidd (BQ.out.atA S10.out P10.out H10.out)
                    clear hi hz0 hz1 hz2 hK K
                    (try simp only [jA, jB, jC, Act.put, jD, jE, jF])
                    refine wpAnyH_ready (rs := [12]) (by kernel_rfl) (by simp) ?_
                    refine AllReadyH.cons rfl (fun K hK => ?_) AllReadyH.nil
                    rw [if_pos (by rfl)]
                    have c0 : D39410.cell? ⟨bb, 0, none⟩ = some (.slice xi xI.length ci) := cell_of_block BQ.out.ct
                    have z0 := row_frozen BQ.out.ct 0
                    go_simp
                    have h1 := (heap_setCell_row BQ.out.ct (.slice xs4 (xI.length + 1) cs4) (k := 0))
                    refine hK.out _ _ ⟨(heap_setCell_other _ _ _ _ (ne_of hH.1 BQ.out.ct (by decide))).trans hH.1, cell_of_block h1⟩ (fun hH => ?_)
                    clear hK K c0 z0
                    (try simp only [jA, jB, jC, Act.put, jD, jE, jF])
                    refine wpAnyH_take (i := 13) (v := .pointer (some ⟨bb, 1, none⟩)) rfl (by kernel_rfl) (by kernel_rfl) (by kernel_rfl) (fun _ _ _ h => h) (.inl ⟨by rfl, by intro w hS; go_simp⟩) hH ?_
                    (try simp only [jA, jB, jC, Act.put, jD, jE, jF])
                    refine wpAnyH_ready (rs := [14]) (by kernel_rfl) (by simp) ?_
                    refine AllReadyH.cons rfl (fun K hK => ?_) AllReadyH.nil
                    rw [if_pos (by rfl)]
                    have c1 := cell_of_block (i := 1) h1
                    have z1 := row_frozen h1 1
                    go_simp
                    have h2 := (heap_setCell_row h1 (.slice xs10 (xA.length + 1) cs10) (k := 1))
                    refine hK.out _ _ ⟨(heap_setCell_other _ _ _ _ (ne_of hH.1 h1 (by decide))).trans hH.1, cell_of_block h2⟩ (fun hH => ?_)
                    clear hK K c1 z1
                    (try simp only [jA, jB, jC, Act.put, jD, jE, jF])
                    refine wpAnyH_done (by kernel_rfl) ?_ _
                    have GH := hidd hH.1
                    have H2 := hidd h2
                    clear hH h1 h2
                    go_wp2_with fail
                    go_meet
                    have fin := BQ.out.done (I' := xI ++ [(d0, (d1 : Int), (d2 : Int), d3)]) (A' := xA ++ [xn]) (((Put.refl D39410).setCell (by simp) _).setCell (by simp) _) H2.out (by simp [inss, inV]) (by simp) (by simp [num]) (by simp)
                    have l1 : xI.length + 1 = (xI ++ [(d0, (d1 : Int), (d2 : Int), d3)]).length := by simp
                    have l2 : xA.length + 1 = (xA ++ [xn]).length := by simp
                    rw [l1, l2] at fin
                    rw [l1, l2] at GH
                    rw [l1, l2]
                    exact ⟨xs4, cs4, xs10, cs10, _, _, fin, GH.out⟩
                  refine AllReadyH.cons rfl (fun K hK => ?_) AllReadyH.nil
                  rw [if_pos (by rfl)]
                  go_simp
                  obtain ⟨D39, eD39⟩ : ∃ V, Hid (D3.alloc (.cells #[.int .u32 xn] 25) = V) := ⟨_, rfl⟩
                  obtain ⟨n9, en9⟩ : ∃ x, Hid (x = D3.heap.size) := ⟨_, rfl⟩
                  rw [eD39.out, ← en9.out]
                  have kk : Kep D3 D39 := by rw [← eD39.out]; exact (Kep.refl _).alloc _
                  have BX9 : Hid (D39.heap[n9]? = some (.cells #[.int .u32 xn] 25 (0, 0))) := by rw [← eD39.out, en9.out]; exact hat _ _ _ rfl
                  have NX9 : Hid (∀ c ∈ FI, c ≠ n9) := fun c hc => by have := BQ.out.si.lt c hc; have := en9.out; omega
                  have BQ := hidd (BQ.out.kep kk)
                  refine hK.out _ _ ⟨kk.block hH.1, (kk.cell (World.block_lt_of_cell? _ _ hH.2)).trans hH.2⟩ (fun hH => ?_)
                  have BX3 := hidd (kk.block BX3.out)
                  clear hK K kk
                  (try simp only [jA, jB, jC, Act.put, jD, jE, jF])
                  refine wpAnyH_ready (rs := [4, 6]) (by kernel_rfl) (by simp) ?_
                  refine AllReadyH.cons rfl (fun K hK => ?_) ?_
                  · skip
                    rw [if_pos (by rfl)]
                    obtain ⟨i0, hi, hz0, hz1, hz2⟩ := info_parts info_ins8
                    refine wp_append_sli (.tmp 65) (.tmp 67) 23 (by rfl) 53 i0 _ 4 8 Tryz.underlying23 hi hz0 hz1 hz2 (by rfl) (by decide) _ xI.length (inss xI) FI (by rfl) BQ.out.si ⟨n3, 0, none⟩ 1 (insA d0 d1 d2 d3).toList (by rfl) (by rfl) (World.news_of_block BX3.out) (by simp [Value.oneCell']) (by unfold maxLen; omega) (by omega) ?_
                    intro v4 D394 F4 S4 P4 H4
                    obtain ⟨xs4, cs4, hv4, _⟩ := S4.out.lies
                    subst hv4
                    have n1 : i1 ∉ FI := NI.out
                    refine hK.out _ _ ⟨P4.out.keeps hH.1 n1, (P4.out.cell (World.block_lt_of_cell? _ _ hH.2) NBI.out).trans hH.2⟩ (fun hH => ?_)
                    have BX9 := hidd (P4.out.keeps BX9.out (fun h => NX9.out _ h rfl))
                    have BQ := hidd (BQ.out.insA S4.out P4.out H4.out)
                    clear hi hz0 hz1 hz2 hK K
                    (try simp only [jA, jB, jC, Act.put, jD, jE, jF])
                    refine wpAnyH_ready (rs := [6]) (by kernel_rfl) (by simp) ?_
                    refine AllReadyH.cons rfl (fun K hK => ?_) AllReadyH.nil
                    rw [if_pos (by rfl)]
                    have c0 : D394.cell? ⟨bb, 1, none⟩ = some (.slice xa xA.length ca) := cell_of_block BQ.out.ct
                    go_simp
                    refine hK.out _ _ hH (fun hH => ?_)
                    clear hK K c0
                    (try simp only [jA, jB, jC, Act.put, jD, jE, jF])
                    refine wpAnyH_take (i := 11) (v := .pointer (some ⟨bb, 0, none⟩)) rfl (by kernel_rfl) (by kernel_rfl) (by kernel_rfl) (fun _ _ _ h => h) (.inl ⟨by rfl, by intro w hS; go_simp⟩) hH ?_
                    (try simp only [jA, jB, jC, Act.put, jD, jE, jF])
                    refine wpAnyH_ready (rs := [10]) (by kernel_rfl) (by simp) ?_
                    refine AllReadyH.cons rfl (fun K hK => ?_) AllReadyH.nil
                    rw [if_pos (by rfl)]
                    obtain ⟨i0, hi, hz0, hz1, hz2⟩ := info_parts info_u32
                    refine wp_append_sli (.tmp 70) (.tmp 73) 37 (by rfl) 25 i0 _ 1 4 Tryz.underlying37 hi hz0 hz1 hz2 (by rfl) (by decide) _ xA.length (num .u32 xA) FA (by rfl) BQ.out.sa ⟨n9, 0, none⟩ 1 [.int .u32 xn] (by rfl) (by rfl) (World.news_of_block BX9.out) (by simp [Value.oneCell']) (by unfold maxLen; omega) (by omega) ?_
                    intro v10 D39410 F10 S10 P10 H10
                    obtain ⟨xs10, cs10, hv10, _⟩ := S10.out.lies
                    subst hv10
                    refine hK.out _ _ ⟨P10.out.keeps hH.1 NA.out, (P10.out.cell (World.block_lt_of_cell? _ _ hH.2) NBA.out).trans hH.2⟩ (fun hH => ?_)
                    have BQ := hidd (BQ.out.atA S10.out P10.out H10.out)
                    clear hi hz0 hz1 hz2 hK K
                    (try simp only [jA, jB, jC, Act.put, jD, jE, jF])
                    refine wpAnyH_ready (rs := [12]) (by kernel_rfl) (by simp) ?_
                    refine AllReadyH.cons rfl (fun K hK => ?_) AllReadyH.nil
                    rw [if_pos (by rfl)]
                    have c0 : D39410.cell? ⟨bb, 0, none⟩ = some (.slice xi xI.length ci) := cell_of_block BQ.out.ct
                    have z0 := row_frozen BQ.out.ct 0
                    go_simp
                    have h1 := (heap_setCell_row BQ.out.ct (.slice xs4 (xI.length + 1) cs4) (k := 0))
                    refine hK.out _ _ ⟨(heap_setCell_other _ _ _ _ (ne_of hH.1 BQ.out.ct (by decide))).trans hH.1, cell_of_block h1⟩ (fun hH => ?_)
                    clear hK K c0 z0
                    (try simp only [jA, jB, jC, Act.put, jD, jE, jF])
                    refine wpAnyH_take (i := 13) (v := .pointer (some ⟨bb, 1, none⟩)) rfl (by kernel_rfl) (by kernel_rfl) (by kernel_rfl) (fun _ _ _ h => h) (.inl ⟨by rfl, by intro w hS; go_simp⟩) hH ?_
                    (try simp only [jA, jB, jC, Act.put, jD, jE, jF])
                    refine wpAnyH_ready (rs := [14]) (by kernel_rfl) (by simp) ?_
                    refine AllReadyH.cons rfl (fun K hK => ?_) AllReadyH.nil
                    rw [if_pos (by rfl)]
                    have c1 := cell_of_block (i := 1) h1
                    have z1 := row_frozen h1 1
                    go_simp
                    have h2 := (heap_setCell_row h1 (.slice xs10 (xA.length + 1) cs10) (k := 1))
                    refine hK.out _ _ ⟨(heap_setCell_other _ _ _ _ (ne_of hH.1 h1 (by decide))).trans hH.1, cell_of_block h2⟩ (fun hH => ?_)
                    clear hK K c1 z1
                    (try simp only [jA, jB, jC, Act.put, jD, jE, jF])
                    refine wpAnyH_done (by kernel_rfl) ?_ _
                    have GH := hidd hH.1
                    have H2 := hidd h2
                    clear hH h1 h2
                    go_wp2_with fail
                    go_meet
                    have fin := BQ.out.done (I' := xI ++ [(d0, (d1 : Int), (d2 : Int), d3)]) (A' := xA ++ [xn]) (((Put.refl D39410).setCell (by simp) _).setCell (by simp) _) H2.out (by simp [inss, inV]) (by simp) (by simp [num]) (by simp)
                    have l1 : xI.length + 1 = (xI ++ [(d0, (d1 : Int), (d2 : Int), d3)]).length := by simp
                    have l2 : xA.length + 1 = (xA ++ [xn]).length := by simp
                    rw [l1, l2] at fin
                    rw [l1, l2] at GH
                    rw [l1, l2]
                    exact ⟨xs4, cs4, xs10, cs10, _, _, fin, GH.out⟩
                  refine AllReadyH.cons rfl (fun K hK => ?_) AllReadyH.nil
                  rw [if_pos (by rfl)]
                  have c0 : D39.cell? ⟨bb, 1, none⟩ = some (.slice xa xA.length ca) := cell_of_block BQ.out.ct
                  go_simp
                  refine hK.out _ _ hH (fun hH => ?_)
                  clear hK K c0
                  (try simp only [jA, jB, jC, Act.put, jD, jE, jF])
                  refine wpAnyH_ready (rs := [4]) (by kernel_rfl) (by simp) ?_
                  refine AllReadyH.cons rfl (fun K hK => ?_) AllReadyH.nil
                  rw [if_pos (by rfl)]
                  obtain ⟨i0, hi, hz0, hz1, hz2⟩ := info_parts info_ins8
                  refine wp_append_sli (.tmp 65) (.tmp 67) 23 (by rfl) 53 i0 _ 4 8 Tryz.underlying23 hi hz0 hz1 hz2 (by rfl) (by decide) _ xI.length (inss xI) FI (by rfl) BQ.out.si ⟨n3, 0, none⟩ 1 (insA d0 d1 d2 d3).toList (by rfl) (by rfl) (World.news_of_block BX3.out) (by simp [Value.oneCell']) (by unfold maxLen; omega) (by omega) ?_
                  intro v4 D394 F4 S4 P4 H4
                  obtain ⟨xs4, cs4, hv4, _⟩ := S4.out.lies
                  subst hv4
                  have n1 : i1 ∉ FI := NI.out
                  refine hK.out _ _ ⟨P4.out.keeps hH.1 n1, (P4.out.cell (World.block_lt_of_cell? _ _ hH.2) NBI.out).trans hH.2⟩ (fun hH => ?_)
                  have BX9 := hidd (P4.out.keeps BX9.out (fun h => NX9.out _ h rfl))
                  have BQ := hidd (BQ.out.insA S4.out P4.out H4.out)
                  clear hi hz0 hz1 hz2 hK K
                  (try simp only [jA, jB, jC, Act.put, jD, jE, jF])
                  refine wpAnyH_take (i := 11) (v := .pointer (some ⟨bb, 0, none⟩)) rfl (by kernel_rfl) (by kernel_rfl) (by kernel_rfl) (fun _ _ _ h => h) (.inl ⟨by rfl, by intro w hS; go_simp⟩) hH ?_
                  (try simp only [jA, jB, jC, Act.put, jD, jE, jF])
                  refine wpAnyH_ready (rs := [10]) (by kernel_rfl) (by simp) ?_
                  refine AllReadyH.cons rfl (fun K hK => ?_) AllReadyH.nil
                  rw [if_pos (by rfl)]
                  obtain ⟨i0, hi, hz0, hz1, hz2⟩ := info_parts info_u32
                  refine wp_append_sli (.tmp 70) (.tmp 73) 37 (by rfl) 25 i0 _ 1 4 Tryz.underlying37 hi hz0 hz1 hz2 (by rfl) (by decide) _ xA.length (num .u32 xA) FA (by rfl) BQ.out.sa ⟨n9, 0, none⟩ 1 [.int .u32 xn] (by rfl) (by rfl) (World.news_of_block BX9.out) (by simp [Value.oneCell']) (by unfold maxLen; omega) (by omega) ?_
                  intro v10 D39410 F10 S10 P10 H10
                  obtain ⟨xs10, cs10, hv10, _⟩ := S10.out.lies
                  subst hv10
                  refine hK.out _ _ ⟨P10.out.keeps hH.1 NA.out, (P10.out.cell (World.block_lt_of_cell? _ _ hH.2) NBA.out).trans hH.2⟩ (fun hH => ?_)
                  have BQ := hidd (BQ.out.atA S10.out P10.out H10.out)
                  clear hi hz0 hz1 hz2 hK K
                  (try simp only [jA, jB, jC, Act.put, jD, jE, jF])
                  refine wpAnyH_ready (rs := [12]) (by kernel_rfl) (by simp) ?_
                  refine AllReadyH.cons rfl (fun K hK => ?_) AllReadyH.nil
                  rw [if_pos (by rfl)]
                  have c0 : D39410.cell? ⟨bb, 0, none⟩ = some (.slice xi xI.length ci) := cell_of_block BQ.out.ct
                  have z0 := row_frozen BQ.out.ct 0
                  go_simp
                  have h1 := (heap_setCell_row BQ.out.ct (.slice xs4 (xI.length + 1) cs4) (k := 0))
                  refine hK.out _ _ ⟨(heap_setCell_other _ _ _ _ (ne_of hH.1 BQ.out.ct (by decide))).trans hH.1, cell_of_block h1⟩ (fun hH => ?_)
                  clear hK K c0 z0
                  (try simp only [jA, jB, jC, Act.put, jD, jE, jF])
                  refine wpAnyH_take (i := 13) (v := .pointer (some ⟨bb, 1, none⟩)) rfl (by kernel_rfl) (by kernel_rfl) (by kernel_rfl) (fun _ _ _ h => h) (.inl ⟨by rfl, by intro w hS; go_simp⟩) hH ?_
                  (try simp only [jA, jB, jC, Act.put, jD, jE, jF])
                  refine wpAnyH_ready (rs := [14]) (by kernel_rfl) (by simp) ?_
                  refine AllReadyH.cons rfl (fun K hK => ?_) AllReadyH.nil
                  rw [if_pos (by rfl)]
                  have c1 := cell_of_block (i := 1) h1
                  have z1 := row_frozen h1 1
                  go_simp
                  have h2 := (heap_setCell_row h1 (.slice xs10 (xA.length + 1) cs10) (k := 1))
                  refine hK.out _ _ ⟨(heap_setCell_other _ _ _ _ (ne_of hH.1 h1 (by decide))).trans hH.1, cell_of_block h2⟩ (fun hH => ?_)
                  clear hK K c1 z1
                  (try simp only [jA, jB, jC, Act.put, jD, jE, jF])
                  refine wpAnyH_done (by kernel_rfl) ?_ _
                  have GH := hidd hH.1
                  have H2 := hidd h2
                  clear hH h1 h2
                  go_wp2_with fail
                  go_meet
                  have fin := BQ.out.done (I' := xI ++ [(d0, (d1 : Int), (d2 : Int), d3)]) (A' := xA ++ [xn]) (((Put.refl D39410).setCell (by simp) _).setCell (by simp) _) H2.out (by simp [inss, inV]) (by simp) (by simp [num]) (by simp)
                  have l1 : xI.length + 1 = (xI ++ [(d0, (d1 : Int), (d2 : Int), d3)]).length := by simp
                  have l2 : xA.length + 1 = (xA ++ [xn]).length := by simp
                  rw [l1, l2] at fin
                  rw [l1, l2] at GH
                  rw [l1, l2]
                  exact ⟨xs4, cs4, xs10, cs10, _, _, fin, GH.out⟩
                refine AllReadyH.cons rfl (fun K hK => ?_) ?_
                · skip
                  rw [if_pos (by rfl)]
                  have c0 : D.cell? ⟨bb, 1, none⟩ = some (.slice xa xA.length ca) := cell_of_block BQ.out.ct
                  go_simp
                  refine hK.out _ _ hH (fun hH => ?_)
                  clear hK K c0
                  (try simp only [jA, jB, jC, Act.put, jD, jE, jF])
                  refine wpAnyH_ready (rs := [3, 9]) (by kernel_rfl) (by simp) ?_
                  refine AllReadyH.cons rfl (fun K hK => ?_) ?_
                  · skip
                    rw [if_pos (by rfl)]
                    go_simp
                    obtain ⟨D3, eD3⟩ : ∃ V, Hid (D.alloc (.cells (insA d0 d1 d2 d3) 53) = V) := ⟨_, rfl⟩
                    obtain ⟨n3, en3⟩ : ∃ x, Hid (x = D.heap.size) := ⟨_, rfl⟩
                    rw [eD3.out, ← en3.out]
                    have kk : Kep D D3 := by rw [← eD3.out]; exact (Kep.refl _).alloc _
                    have BX3 : Hid (D3.heap[n3]? = some (.cells (insA d0 d1 d2 d3) 53 (0, 0))) := by rw [← eD3.out, en3.out]; exact hat _ _ _ rfl
                    have NX3 : Hid (∀ c ∈ FA, c ≠ n3) := fun c hc => by have := BQ.out.sa.lt c hc; have := en3.out; omega
                    have BQ := hidd (BQ.out.kep kk)
                    refine hK.out _ _ ⟨kk.block hH.1, (kk.cell (World.block_lt_of_cell? _ _ hH.2)).trans hH.2⟩ (fun hH => ?_)
                    clear hK K kk
                    (try simp only [jA, jB, jC, Act.put, jD, jE, jF])
                    refine wpAnyH_ready (rs := [4, 9]) (by kernel_rfl) (by simp) ?_
                    refine AllReadyH.cons rfl (fun K hK => ?_) ?_
                    · skip
                      rw [if_pos (by rfl)]
                      obtain ⟨i0, hi, hz0, hz1, hz2⟩ := info_parts info_ins8
                      refine wp_append_sli (.tmp 65) (.tmp 67) 23 (by rfl) 53 i0 _ 4 8 Tryz.underlying23 hi hz0 hz1 hz2 (by rfl) (by decide) _ xI.length (inss xI) FI (by rfl) BQ.out.si ⟨n3, 0, none⟩ 1 (insA d0 d1 d2 d3).toList (by rfl) (by rfl) (World.news_of_block BX3.out) (by simp [Value.oneCell']) (by unfold maxLen; omega) (by omega) ?_
                      intro v4 D34 F4 S4 P4 H4
                      obtain ⟨xs4, cs4, hv4, _⟩ := S4.out.lies
                      subst hv4
                      have n1 : i1 ∉ FI := NI.out
                      refine hK.out _ _ ⟨P4.out.keeps hH.1 n1, (P4.out.cell (World.block_lt_of_cell? _ _ hH.2) NBI.out).trans hH.2⟩ (fun hH => ?_)
                      have BQ := hidd (BQ.out.insA S4.out P4.out H4.out)
                      clear hi hz0 hz1 hz2 hK K
                      (try simp only [jA, jB, jC, Act.put, jD, jE, jF])
                      refine wpAnyH_take (i := 11) (v := .pointer (some ⟨bb, 0, none⟩)) rfl (by kernel_rfl) (by kernel_rfl) (by kernel_rfl) (fun _ _ _ h => h) (.inl ⟨by rfl, by intro w hS; go_simp⟩) hH ?_
                      (try simp only [jA, jB, jC, Act.put, jD, jE, jF])
                      refine wpAnyH_ready (rs := [9]) (by kernel_rfl) (by simp) ?_
                      refine AllReadyH.cons rfl (fun K hK => ?_) AllReadyH.nil
                      rw [if_pos (by rfl)]
                      go_simp
                      obtain ⟨D349, eD349⟩ : ∃ V, Hid (D34.alloc (.cells #[.int .u32 xn] 25) = V) := ⟨_, rfl⟩
                      obtain ⟨n9, en9⟩ : ∃ x, Hid (x = D34.heap.size) := ⟨_, rfl⟩
                      rw [eD349.out, ← en9.out]
                      have kk : Kep D34 D349 := by rw [← eD349.out]; exact (Kep.refl _).alloc _
                      have BX9 : Hid (D349.heap[n9]? = some (.cells #[.int .u32 xn] 25 (0, 0))) := by rw [← eD349.out, en9.out]; exact hat _ _ _ rfl
                      have NX9 : Hid (∀ c ∈ F4, c ≠ n9) := fun c hc => by have := BQ.out.si.lt c hc; have := en9.out; omega
                      have BQ := hidd (BQ.out.kep kk)
                      refine hK.out _ _ ⟨kk.block hH.1, (kk.cell (World.block_lt_of_cell? _ _ hH.2)).trans hH.2⟩ (fun hH => ?_)
                      clear hK K kk
                      (try simp only [jA, jB, jC, Act.put, jD, jE, jF])
                      refine wpAnyH_ready (rs := [10]) (by kernel_rfl) (by simp) ?_
                      refine AllReadyH.cons rfl (fun K hK => ?_) AllReadyH.nil
                      rw [if_pos (by rfl)]
                      obtain ⟨i0, hi, hz0, hz1, hz2⟩ := info_parts info_u32
                      refine wp_append_sli (.tmp 70) (.tmp 73) 37 (by rfl) 25 i0 _ 1 4 Tryz.underlying37 hi hz0 hz1 hz2 (by rfl) (by decide) _ xA.length (num .u32 xA) FA (by rfl) BQ.out.sa ⟨n9, 0, none⟩ 1 [.int .u32 xn] (by rfl) (by rfl) (World.news_of_block BX9.out) (by simp [Value.oneCell']) (by unfold maxLen; omega) (by omega) ?_
                      intro v10 D34910 F10 S10 P10 H10
                      obtain ⟨xs10, cs10, hv10, _⟩ := S10.out.lies
                      subst hv10
                      refine hK.out _ _ ⟨P10.out.keeps hH.1 NA.out, (P10.out.cell (World.block_lt_of_cell? _ _ hH.2) NBA.out).trans hH.2⟩ (fun hH => ?_)
                      have BQ := hidd (BQ.out.atA S10.out P10.out H10.out)
                      clear hi hz0 hz1 hz2 hK K
                      (try simp only [jA, jB, jC, Act.put, jD, jE, jF])
                      refine wpAnyH_ready (rs := [12]) (by kernel_rfl) (by simp) ?_
                      refine AllReadyH.cons rfl (fun K hK => ?_) AllReadyH.nil
                      rw [if_pos (by rfl)]
                      have c0 : D34910.cell? ⟨bb, 0, none⟩ = some (.slice xi xI.length ci) := cell_of_block BQ.out.ct
                      have z0 := row_frozen BQ.out.ct 0
                      go_simp
                      have h1 := (heap_setCell_row BQ.out.ct (.slice xs4 (xI.length + 1) cs4) (k := 0))
                      refine hK.out _ _ ⟨(heap_setCell_other _ _ _ _ (ne_of hH.1 BQ.out.ct (by decide))).trans hH.1, cell_of_block h1⟩ (fun hH => ?_)
                      clear hK K c0 z0
                      (try simp only [jA, jB, jC, Act.put, jD, jE, jF])
                      refine wpAnyH_take (i := 13) (v := .pointer (some ⟨bb, 1, none⟩)) rfl (by kernel_rfl) (by kernel_rfl) (by kernel_rfl) (fun _ _ _ h => h) (.inl ⟨by rfl, by intro w hS; go_simp⟩) hH ?_
                      (try simp only [jA, jB, jC, Act.put, jD, jE, jF])
                      refine wpAnyH_ready (rs := [14]) (by kernel_rfl) (by simp) ?_
                      refine AllReadyH.cons rfl (fun K hK => ?_) AllReadyH.nil
                      rw [if_pos (by rfl)]
                      have c1 := cell_of_block (i := 1) h1
                      have z1 := row_frozen h1 1
                      go_simp
                      have h2 := (heap_setCell_row h1 (.slice xs10 (xA.length + 1) cs10) (k := 1))
                      refine hK.out _ _ ⟨(heap_setCell_other _ _ _ _ (ne_of hH.1 h1 (by decide))).trans hH.1, cell_of_block h2⟩ (fun hH => ?_)
                      clear hK K c1 z1
                      (try simp only [jA, jB, jC, Act.put, jD, jE, jF])
                      refine wpAnyH_done (by kernel_rfl) ?_ _
                      have GH := hidd hH.1
                      have H2 := hidd h2
                      clear hH h1 h2
                      go_wp2_with fail
                      go_meet
                      have fin := BQ.out.done (I' := xI ++ [(d0, (d1 : Int), (d2 : Int), d3)]) (A' := xA ++ [xn]) (((Put.refl D34910).setCell (by simp) _).setCell (by simp) _) H2.out (by simp [inss, inV]) (by simp) (by simp [num]) (by simp)
                      have l1 : xI.length + 1 = (xI ++ [(d0, (d1 : Int), (d2 : Int), d3)]).length := by simp
                      have l2 : xA.length + 1 = (xA ++ [xn]).length := by simp
                      rw [l1, l2] at fin
                      rw [l1, l2] at GH
                      rw [l1, l2]
                      exact ⟨xs4, cs4, xs10, cs10, _, _, fin, GH.out⟩
                    refine AllReadyH.cons rfl (fun K hK => ?_) AllReadyH.nil
                    rw [if_pos (by rfl)]
                    go_simp
                    obtain ⟨D39, eD39⟩ : ∃ V, Hid (D3.alloc (.cells #[.int .u32 xn] 25) = V) := ⟨_, rfl⟩
                    obtain ⟨n9, en9⟩ : ∃ x, Hid (x = D3.heap.size) := ⟨_, rfl⟩
                    rw [eD39.out, ← en9.out]
                    have kk : Kep D3 D39 := by rw [← eD39.out]; exact (Kep.refl _).alloc _
                    have BX9 : Hid (D39.heap[n9]? = some (.cells #[.int .u32 xn] 25 (0, 0))) := by rw [← eD39.out, en9.out]; exact hat _ _ _ rfl
                    have NX9 : Hid (∀ c ∈ FI, c ≠ n9) := fun c hc => by have := BQ.out.si.lt c hc; have := en9.out; omega
                    have BQ := hidd (BQ.out.kep kk)
                    refine hK.out _ _ ⟨kk.block hH.1, (kk.cell (World.block_lt_of_cell? _ _ hH.2)).trans hH.2⟩ (fun hH => ?_)
                    have BX3 := hidd (kk.block BX3.out)
                    clear hK K kk
                    (try simp only [jA, jB, jC, Act.put, jD, jE, jF])
                    refine wpAnyH_ready (rs := [4]) (by kernel_rfl) (by simp) ?_
                    refine AllReadyH.cons rfl (fun K hK => ?_) AllReadyH.nil
                    rw [if_pos (by rfl)]
                    obtain ⟨i0, hi, hz0, hz1, hz2⟩ := info_parts info_ins8
                    refine wp_append_sli (.tmp 65) (.tmp 67) 23 (by rfl) 53 i0 _ 4 8 Tryz.underlying23 hi hz0 hz1 hz2 (by rfl) (by decide) _ xI.length (inss xI) FI (by rfl) BQ.out.si ⟨n3, 0, none⟩ 1 (insA d0 d1 d2 d3).toList (by rfl) (by rfl) (World.news_of_block BX3.out) (by simp [Value.oneCell']) (by unfold maxLen; omega) (by omega) ?_
                    intro v4 D394 F4 S4 P4 H4
                    obtain ⟨xs4, cs4, hv4, _⟩ := S4.out.lies
                    subst hv4
                    have n1 : i1 ∉ FI := NI.out
                    refine hK.out _ _ ⟨P4.out.keeps hH.1 n1, (P4.out.cell (World.block_lt_of_cell? _ _ hH.2) NBI.out).trans hH.2⟩ (fun hH => ?_)
                    have BX9 := hidd (P4.out.keeps BX9.out (fun h => NX9.out _ h rfl))
                    have BQ := hidd (BQ.out.insA S4.out P4.out H4.out)
                    clear hi hz0 hz1 hz2 hK K
                    (try simp only [jA, jB, jC, Act.put, jD, jE, jF])
                    refine wpAnyH_take (i := 11) (v := .pointer (some ⟨bb, 0, none⟩)) rfl (by kernel_rfl) (by kernel_rfl) (by kernel_rfl) (fun _ _ _ h => h) (.inl ⟨by rfl, by intro w hS; go_simp⟩) hH ?_
                    (try simp only [jA, jB, jC, Act.put, jD, jE, jF])
                    refine wpAnyH_ready (rs := [10]) (by kernel_rfl) (by simp) ?_
                    refine AllReadyH.cons rfl (fun K hK => ?_) AllReadyH.nil
                    rw [if_pos (by rfl)]
                    obtain ⟨i0, hi, hz0, hz1, hz2⟩ := info_parts info_u32
                    refine wp_append_sli (.tmp 70) (.tmp 73) 37 (by rfl) 25 i0 _ 1 4 Tryz.underlying37 hi hz0 hz1 hz2 (by rfl) (by decide) _ xA.length (num .u32 xA) FA (by rfl) BQ.out.sa ⟨n9, 0, none⟩ 1 [.int .u32 xn] (by rfl) (by rfl) (World.news_of_block BX9.out) (by simp [Value.oneCell']) (by unfold maxLen; omega) (by omega) ?_
                    intro v10 D39410 F10 S10 P10 H10
                    obtain ⟨xs10, cs10, hv10, _⟩ := S10.out.lies
                    subst hv10
                    refine hK.out _ _ ⟨P10.out.keeps hH.1 NA.out, (P10.out.cell (World.block_lt_of_cell? _ _ hH.2) NBA.out).trans hH.2⟩ (fun hH => ?_)
                    have BQ := hidd (BQ.out.atA S10.out P10.out H10.out)
                    clear hi hz0 hz1 hz2 hK K
                    (try simp only [jA, jB, jC, Act.put, jD, jE, jF])
                    refine wpAnyH_ready (rs := [12]) (by kernel_rfl) (by simp) ?_
                    refine AllReadyH.cons rfl (fun K hK => ?_) AllReadyH.nil
                    rw [if_pos (by rfl)]
                    have c0 : D39410.cell? ⟨bb, 0, none⟩ = some (.slice xi xI.length ci) := cell_of_block BQ.out.ct
                    have z0 := row_frozen BQ.out.ct 0
                    go_simp
                    have h1 := (heap_setCell_row BQ.out.ct (.slice xs4 (xI.length + 1) cs4) (k := 0))
                    refine hK.out _ _ ⟨(heap_setCell_other _ _ _ _ (ne_of hH.1 BQ.out.ct (by decide))).trans hH.1, cell_of_block h1⟩ (fun hH => ?_)
                    clear hK K c0 z0
                    (try simp only [jA, jB, jC, Act.put, jD, jE, jF])
                    refine wpAnyH_take (i := 13) (v := .pointer (some ⟨bb, 1, none⟩)) rfl (by kernel_rfl) (by kernel_rfl) (by kernel_rfl) (fun _ _ _ h => h) (.inl ⟨by rfl, by intro w hS; go_simp⟩) hH ?_
                    (try simp only [jA, jB, jC, Act.put, jD, jE, jF])
                    refine wpAnyH_ready (rs := [14]) (by kernel_rfl) (by simp) ?_
                    refine AllReadyH.cons rfl (fun K hK => ?_) AllReadyH.nil
                    rw [if_pos (by rfl)]
                    have c1 := cell_of_block (i := 1) h1
                    have z1 := row_frozen h1 1
                    go_simp
                    have h2 := (heap_setCell_row h1 (.slice xs10 (xA.length + 1) cs10) (k := 1))
                    refine hK.out _ _ ⟨(heap_setCell_other _ _ _ _ (ne_of hH.1 h1 (by decide))).trans hH.1, cell_of_block h2⟩ (fun hH => ?_)
                    clear hK K c1 z1
                    (try simp only [jA, jB, jC, Act.put, jD, jE, jF])
                    refine wpAnyH_done (by kernel_rfl) ?_ _
                    have GH := hidd hH.1
                    have H2 := hidd h2
                    clear hH h1 h2
                    go_wp2_with fail
                    go_meet
                    have fin := BQ.out.done (I' := xI ++ [(d0, (d1 : Int), (d2 : Int), d3)]) (A' := xA ++ [xn]) (((Put.refl D39410).setCell (by simp) _).setCell (by simp) _) H2.out (by simp [inss, inV]) (by simp) (by simp [num]) (by simp)
                    have l1 : xI.length + 1 = (xI ++ [(d0, (d1 : Int), (d2 : Int), d3)]).length := by simp
                    have l2 : xA.length + 1 = (xA ++ [xn]).length := by simp
                    rw [l1, l2] at fin
                    rw [l1, l2] at GH
                    rw [l1, l2]
                    exact ⟨xs4, cs4, xs10, cs10, _, _, fin, GH.out⟩
                  refine AllReadyH.cons rfl (fun K hK => ?_) AllReadyH.nil
                  rw [if_pos (by rfl)]
                  go_simp
                  obtain ⟨D9, eD9⟩ : ∃ V, Hid (D.alloc (.cells #[.int .u32 xn] 25) = V) := ⟨_, rfl⟩
                  obtain ⟨n9, en9⟩ : ∃ x, Hid (x = D.heap.size) := ⟨_, rfl⟩
                  rw [eD9.out, ← en9.out]
                  have kk : Kep D D9 := by rw [← eD9.out]; exact (Kep.refl _).alloc _
                  have BX9 : Hid (D9.heap[n9]? = some (.cells #[.int .u32 xn] 25 (0, 0))) := by rw [← eD9.out, en9.out]; exact hat _ _ _ rfl
                  have NX9 : Hid (∀ c ∈ FI, c ≠ n9) := fun c hc => by have := BQ.out.si.lt c hc; have := en9.out; omega
                  have BQ := hidd (BQ.out.kep kk)
                  refine hK.out _ _ ⟨kk.block hH.1, (kk.cell (World.block_lt_of_cell? _ _ hH.2)).trans hH.2⟩ (fun hH => ?_)
                  clear hK K kk
                  (try simp only [jA, jB, jC, Act.put, jD, jE, jF])
                  refine wpAnyH_ready (rs := [3]) (by kernel_rfl) (by simp) ?_
                  refine AllReadyH.cons rfl (fun K hK => ?_) AllReadyH.nil
                  rw [if_pos (by rfl)]
                  go_simp
                  obtain ⟨D93, eD93⟩ : ∃ V, Hid (D9.alloc (.cells (insA d0 d1 d2 d3) 53) = V) := ⟨_, rfl⟩
                  obtain ⟨n3, en3⟩ : ∃ x, Hid (x = D9.heap.size) := ⟨_, rfl⟩
                  rw [eD93.out, ← en3.out]
                  have kk : Kep D9 D93 := by rw [← eD93.out]; exact (Kep.refl _).alloc _
                  have BX3 : Hid (D93.heap[n3]? = some (.cells (insA d0 d1 d2 d3) 53 (0, 0))) := by rw [← eD93.out, en3.out]; exact hat _ _ _ rfl
                  have NX3 : Hid (∀ c ∈ FA, c ≠ n3) := fun c hc => by have := BQ.out.sa.lt c hc; have := en3.out; omega
                  have BQ := hidd (BQ.out.kep kk)
                  refine hK.out _ _ ⟨kk.block hH.1, (kk.cell (World.block_lt_of_cell? _ _ hH.2)).trans hH.2⟩ (fun hH => ?_)
                  have BX9 := hidd (kk.block BX9.out)
                  clear hK K kk
                  (try simp only [jA, jB, jC, Act.put, jD, jE, jF])
                  refine wpAnyH_ready (rs := [4]) (by kernel_rfl) (by simp) ?_
                  refine AllReadyH.cons rfl (fun K hK => ?_) AllReadyH.nil
                  rw [if_pos (by rfl)]
                  obtain ⟨i0, hi, hz0, hz1, hz2⟩ := info_parts info_ins8
                  refine wp_append_sli (.tmp 65) (.tmp 67) 23 (by rfl) 53 i0 _ 4 8 Tryz.underlying23 hi hz0 hz1 hz2 (by rfl) (by decide) _ xI.length (inss xI) FI (by rfl) BQ.out.si ⟨n3, 0, none⟩ 1 (insA d0 d1 d2 d3).toList (by rfl) (by rfl) (World.news_of_block BX3.out) (by simp [Value.oneCell']) (by unfold maxLen; omega) (by omega) ?_
                  intro v4 D934 F4 S4 P4 H4
                  obtain ⟨xs4, cs4, hv4, _⟩ := S4.out.lies
                  subst hv4
                  have n1 : i1 ∉ FI := NI.out
                  refine hK.out _ _ ⟨P4.out.keeps hH.1 n1, (P4.out.cell (World.block_lt_of_cell? _ _ hH.2) NBI.out).trans hH.2⟩ (fun hH => ?_)
                  have BX9 := hidd (P4.out.keeps BX9.out (fun h => NX9.out _ h rfl))
                  have BQ := hidd (BQ.out.insA S4.out P4.out H4.out)
                  clear hi hz0 hz1 hz2 hK K
                  (try simp only [jA, jB, jC, Act.put, jD, jE, jF])
                  refine wpAnyH_take (i := 11) (v := .pointer (some ⟨bb, 0, none⟩)) rfl (by kernel_rfl) (by kernel_rfl) (by kernel_rfl) (fun _ _ _ h => h) (.inl ⟨by rfl, by intro w hS; go_simp⟩) hH ?_
                  (try simp only [jA, jB, jC, Act.put, jD, jE, jF])
                  refine wpAnyH_ready (rs := [10]) (by kernel_rfl) (by simp) ?_
                  refine AllReadyH.cons rfl (fun K hK => ?_) AllReadyH.nil
                  rw [if_pos (by rfl)]
                  obtain ⟨i0, hi, hz0, hz1, hz2⟩ := info_parts info_u32
                  refine wp_append_sli (.tmp 70) (.tmp 73) 37 (by rfl) 25 i0 _ 1 4 Tryz.underlying37 hi hz0 hz1 hz2 (by rfl) (by decide) _ xA.length (num .u32 xA) FA (by rfl) BQ.out.sa ⟨n9, 0, none⟩ 1 [.int .u32 xn] (by rfl) (by rfl) (World.news_of_block BX9.out) (by simp [Value.oneCell']) (by unfold maxLen; omega) (by omega) ?_
                  intro v10 D93410 F10 S10 P10 H10
                  obtain ⟨xs10, cs10, hv10, _⟩ := S10.out.lies
                  subst hv10
                  refine hK.out _ _ ⟨P10.out.keeps hH.1 NA.out, (P10.out.cell (World.block_lt_of_cell? _ _ hH.2) NBA.out).trans hH.2⟩ (fun hH => ?_)
                  have BQ := hidd (BQ.out.atA S10.out P10.out H10.out)
                  clear hi hz0 hz1 hz2 hK K
                  (try simp only [jA, jB, jC, Act.put, jD, jE, jF])
                  refine wpAnyH_ready (rs := [12]) (by kernel_rfl) (by simp) ?_
                  refine AllReadyH.cons rfl (fun K hK => ?_) AllReadyH.nil
                  rw [if_pos (by rfl)]
                  have c0 : D93410.cell? ⟨bb, 0, none⟩ = some (.slice xi xI.length ci) := cell_of_block BQ.out.ct
                  have z0 := row_frozen BQ.out.ct 0
                  go_simp
                  have h1 := (heap_setCell_row BQ.out.ct (.slice xs4 (xI.length + 1) cs4) (k := 0))
                  refine hK.out _ _ ⟨(heap_setCell_other _ _ _ _ (ne_of hH.1 BQ.out.ct (by decide))).trans hH.1, cell_of_block h1⟩ (fun hH => ?_)
                  clear hK K c0 z0
                  (try simp only [jA, jB, jC, Act.put, jD, jE, jF])
                  refine wpAnyH_take (i := 13) (v := .pointer (some ⟨bb, 1, none⟩)) rfl (by kernel_rfl) (by kernel_rfl) (by kernel_rfl) (fun _ _ _ h => h) (.inl ⟨by rfl, by intro w hS; go_simp⟩) hH ?_
                  (try simp only [jA, jB, jC, Act.put, jD, jE, jF])
                  refine wpAnyH_ready (rs := [14]) (by kernel_rfl) (by simp) ?_
                  refine AllReadyH.cons rfl (fun K hK => ?_) AllReadyH.nil
                  rw [if_pos (by rfl)]
                  have c1 := cell_of_block (i := 1) h1
                  have z1 := row_frozen h1 1
                  go_simp
                  have h2 := (heap_setCell_row h1 (.slice xs10 (xA.length + 1) cs10) (k := 1))
                  refine hK.out _ _ ⟨(heap_setCell_other _ _ _ _ (ne_of hH.1 h1 (by decide))).trans hH.1, cell_of_block h2⟩ (fun hH => ?_)
                  clear hK K c1 z1
                  (try simp only [jA, jB, jC, Act.put, jD, jE, jF])
                  refine wpAnyH_done (by kernel_rfl) ?_ _
                  have GH := hidd hH.1
                  have H2 := hidd h2
                  clear hH h1 h2
                  go_wp2_with fail
                  go_meet
                  have fin := BQ.out.done (I' := xI ++ [(d0, (d1 : Int), (d2 : Int), d3)]) (A' := xA ++ [xn]) (((Put.refl D93410).setCell (by simp) _).setCell (by simp) _) H2.out (by simp [inss, inV]) (by simp) (by simp [num]) (by simp)
                  have l1 : xI.length + 1 = (xI ++ [(d0, (d1 : Int), (d2 : Int), d3)]).length := by simp
                  have l2 : xA.length + 1 = (xA ++ [xn]).length := by simp
                  rw [l1, l2] at fin
                  rw [l1, l2] at GH
                  rw [l1, l2]
                  exact ⟨xs4, cs4, xs10, cs10, _, _, fin, GH.out⟩
                refine AllReadyH.cons rfl (fun K hK => ?_) AllReadyH.nil
                rw [if_pos (by rfl)]
                go_simp
                obtain ⟨D9, eD9⟩ : ∃ V, Hid (D.alloc (.cells #[.int .u32 xn] 25) = V) := ⟨_, rfl⟩
                obtain ⟨n9, en9⟩ : ∃ x, Hid (x = D.heap.size) := ⟨_, rfl⟩
                rw [eD9.out, ← en9.out]
                have kk : Kep D D9 := by rw [← eD9.out]; exact (Kep.refl _).alloc _
                have BX9 : Hid (D9.heap[n9]? = some (.cells #[.int .u32 xn] 25 (0, 0))) := by rw [← eD9.out, en9.out]; exact hat _ _ _ rfl
                have NX9 : Hid (∀ c ∈ FI, c ≠ n9) := fun c hc => by have := BQ.out.si.lt c hc; have := en9.out; omega
                have BQ := hidd (BQ.out.kep kk)
                refine hK.out _ _ ⟨kk.block hH.1, (kk.cell (World.block_lt_of_cell? _ _ hH.2)).trans hH.2⟩ (fun hH => ?_)
                clear hK K kk
                (try simp only [jA, jB, jC, Act.put, jD, jE, jF])
                refine wpAnyH_ready (rs := [3, 6]) (by kernel_rfl) (by simp) ?_
                refine AllReadyH.cons rfl (fun K hK => ?_) ?_
                · skip
                  rw [if_pos (by rfl)]
                  go_simp
                  obtain ⟨D93, eD93⟩ : ∃ V, Hid (D9.alloc (.cells (insA d0 d1 d2 d3) 53) = V) := ⟨_, rfl⟩
                  obtain ⟨n3, en3⟩ : ∃ x, Hid (x = D9.heap.size) := ⟨_, rfl⟩
                  rw [eD93.out, ← en3.out]
                  have kk : Kep D9 D93 := by rw [← eD93.out]; exact (Kep.refl _).alloc _
                  have BX3 : Hid (D93.heap[n3]? = some (.cells (insA d0 d1 d2 d3) 53 (0, 0))) := by rw [← eD93.out, en3.out]; exact hat _ _ _ rfl
                  have NX3 : Hid (∀ c ∈ FA, c ≠ n3) := fun c hc => by have := BQ.out.sa.lt c hc; have := en3.out; omega
                  have BQ := hidd (BQ.out.kep kk)
                  refine hK.out _ _ ⟨kk.block hH.1, (kk.cell (World.block_lt_of_cell? _ _ hH.2)).trans hH.2⟩ (fun hH => ?_)
                  have BX9 := hidd (kk.block BX9.out)
                  clear hK K kk
                  (try simp only [jA, jB, jC, Act.put, jD, jE, jF])
                  refine wpAnyH_ready (rs := [4, 6]) (by kernel_rfl) (by simp) ?_
                  refine AllReadyH.cons rfl (fun K hK => ?_) ?_
                  · skip
                    rw [if_pos (by rfl)]
                    obtain ⟨i0, hi, hz0, hz1, hz2⟩ := info_parts info_ins8
                    refine wp_append_sli (.tmp 65) (.tmp 67) 23 (by rfl) 53 i0 _ 4 8 Tryz.underlying23 hi hz0 hz1 hz2 (by rfl) (by decide) _ xI.length (inss xI) FI (by rfl) BQ.out.si ⟨n3, 0, none⟩ 1 (insA d0 d1 d2 d3).toList (by rfl) (by rfl) (World.news_of_block BX3.out) (by simp [Value.oneCell']) (by unfold maxLen; omega) (by omega) ?_
                    intro v4 D934 F4 S4 P4 H4
                    obtain ⟨xs4, cs4, hv4, _⟩ := S4.out.lies
                    subst hv4
                    have n1 : i1 ∉ FI := NI.out
                    refine hK.out _ _ ⟨P4.out.keeps hH.1 n1, (P4.out.cell (World.block_lt_of_cell? _ _ hH.2) NBI.out).trans hH.2⟩ (fun hH => ?_)
                    have BX9 := hidd (P4.out.keeps BX9.out (fun h => NX9.out _ h rfl))
                    have BQ := hidd (BQ.out.insA S4.out P4.out H4.out)
                    clear hi hz0 hz1 hz2 hK K
                    (try simp only [jA, jB, jC, Act.put, jD, jE, jF])
                    refine wpAnyH_ready (rs := [6]) (by kernel_rfl) (by simp) ?_
                    refine AllReadyH.cons rfl (fun K hK => ?_) AllReadyH.nil
                    rw [if_pos (by rfl)]
                    have c0 : D934.cell? ⟨bb, 1, none⟩ = some (.slice xa xA.length ca) := cell_of_block BQ.out.ct
                    go_simp
                    refine hK.out _ _ hH (fun hH => ?_)
                    clear hK K c0
                    (try simp only [jA, jB, jC, Act.put, jD, jE, jF])
                    refine wpAnyH_take (i := 11) (v := .pointer (some ⟨bb, 0, none⟩)) rfl (by kernel_rfl) (by kernel_rfl) (by kernel_rfl) (fun _ _ _ h => h) (.inl ⟨by rfl, by intro w hS; go_simp⟩) hH ?_
                    (try simp only [jA, jB, jC, Act.put, jD, jE, jF])
                    refine wpAnyH_ready (rs := [10]) (by kernel_rfl) (by simp) ?_
                    refine AllReadyH.cons rfl (fun K hK => ?_) AllReadyH.nil
                    rw [if_pos (by rfl)]
                    obtain ⟨i0, hi, hz0, hz1, hz2⟩ := info_parts info_u32
                    refine wp_append_sli (.tmp 70) (.tmp 73) 37 (by rfl) 25 i0 _ 1 4 Tryz.underlying37 hi hz0 hz1 hz2 (by rfl) (by decide) _ xA.length (num .u32 xA) FA (by rfl) BQ.out.sa ⟨n9, 0, none⟩ 1 [.int .u32 xn] (by rfl) (by rfl) (World.news_of_block BX9.out) (by simp [Value.oneCell']) (by unfold maxLen; omega) (by omega) ?_
                    intro v10 D93410 F10 S10 P10 H10
                    obtain ⟨xs10, cs10, hv10, _⟩ := S10.out.lies
                    subst hv10
                    refine hK.out _ _ ⟨P10.out.keeps hH.1 NA.out, (P10.out.cell (World.block_lt_of_cell? _ _ hH.2) NBA.out).trans hH.2⟩ (fun hH => ?_)
                    have BQ := hidd (BQ.out.atA S10.out P10.out H10.out)
                    clear hi hz0 hz1 hz2 hK K
                    (try simp only [jA, jB, jC, Act.put, jD, jE, jF])
                    refine wpAnyH_ready (rs := [12]) (by kernel_rfl) (by simp) ?_
                    refine AllReadyH.cons rfl (fun K hK => ?_) AllReadyH.nil
                    rw [if_pos (by rfl)]
                    have c0 : D93410.cell? ⟨bb, 0, none⟩ = some (.slice xi xI.length ci) := cell_of_block BQ.out.ct
                    have z0 := row_frozen BQ.out.ct 0
                    go_simp
                    have h1 := (heap_setCell_row BQ.out.ct (.slice xs4 (xI.length + 1) cs4) (k := 0))
                    refine hK.out _ _ ⟨(heap_setCell_other _ _ _ _ (ne_of hH.1 BQ.out.ct (by decide))).trans hH.1, cell_of_block h1⟩ (fun hH => ?_)
                    clear hK K c0 z0
                    (try simp only [jA, jB, jC, Act.put, jD, jE, jF])
                    refine wpAnyH_take (i := 13) (v := .pointer (some ⟨bb, 1, none⟩)) rfl (by kernel_rfl) (by kernel_rfl) (by kernel_rfl) (fun _ _ _ h => h) (.inl ⟨by rfl, by intro w hS; go_simp⟩) hH ?_
                    (try simp only [jA, jB, jC, Act.put, jD, jE, jF])
                    refine wpAnyH_ready (rs := [14]) (by kernel_rfl) (by simp) ?_
                    refine AllReadyH.cons rfl (fun K hK => ?_) AllReadyH.nil
                    rw [if_pos (by rfl)]
                    have c1 := cell_of_block (i := 1) h1
                    have z1 := row_frozen h1 1
                    go_simp
                    have h2 := (heap_setCell_row h1 (.slice xs10 (xA.length + 1) cs10) (k := 1))
                    refine hK.out _ _ ⟨(heap_setCell_other _ _ _ _ (ne_of hH.1 h1 (by decide))).trans hH.1, cell_of_block h2⟩ (fun hH => ?_)
                    clear hK K c1 z1
                    (try simp only [jA, jB, jC, Act.put, jD, jE, jF])
                    refine wpAnyH_done (by kernel_rfl) ?_ _
                    have GH := hidd hH.1
                    have H2 := hidd h2
                    clear hH h1 h2
                    go_wp2_with fail
                    go_meet
                    have fin := BQ.out.done (I' := xI ++ [(d0, (d1 : Int), (d2 : Int), d3)]) (A' := xA ++ [xn]) (((Put.refl D93410).setCell (by simp) _).setCell (by simp) _) H2.out (by simp [inss, inV]) (by simp) (by simp [num]) (by simp)
                    have l1 : xI.length + 1 = (xI ++ [(d0, (d1 : Int), (d2 : Int), d3)]).length := by simp
                    have l2 : xA.length + 1 = (xA ++ [xn]).length := by simp
                    rw [l1, l2] at fin
                    rw [l1, l2] at GH
                    rw [l1, l2]
                    exact ⟨xs4, cs4, xs10, cs10, _, _, fin, GH.out⟩
                  refine AllReadyH.cons rfl (fun K hK => ?_) AllReadyH.nil
                  rw [if_pos (by rfl)]
                  have c0 : D93.cell? ⟨bb, 1, none⟩ = some (.slice xa xA.length ca) := cell_of_block BQ.out.ct
                  go_simp
                  refine hK.out _ _ hH (fun hH => ?_)
                  clear hK K c0
                  (try simp only [jA, jB, jC, Act.put, jD, jE, jF])
                  refine wpAnyH_ready (rs := [4]) (by kernel_rfl) (by simp) ?_
                  refine AllReadyH.cons rfl (fun K hK => ?_) AllReadyH.nil
                  rw [if_pos (by rfl)]
                  obtain ⟨i0, hi, hz0, hz1, hz2⟩ := info_parts info_ins8
                  refine wp_append_sli (.tmp 65) (.tmp 67) 23 (by rfl) 53 i0 _ 4 8 Tryz.underlying23 hi hz0 hz1 hz2 (by rfl) (by decide) _ xI.length (inss xI) FI (by rfl) BQ.out.si ⟨n3, 0, none⟩ 1 (insA d0 d1 d2 d3).toList (by rfl) (by rfl) (World.news_of_block BX3.out) (by simp [Value.oneCell']) (by unfold maxLen; omega) (by omega) ?_
                  intro v4 D934 F4 S4 P4 H4
                  obtain ⟨xs4, cs4, hv4, _⟩ := S4.out.lies
                  subst hv4
                  have n1 : i1 ∉ FI := NI.out
                  refine hK.out _ _ ⟨P4.out.keeps hH.1 n1, (P4.out.cell (World.block_lt_of_cell? _ _ hH.2) NBI.out).trans hH.2⟩ (fun hH => ?_)
                  have BX9 := hidd (P4.out.keeps BX9.out (fun h => NX9.out _ h rfl))
                  have BQ := hidd (BQ.out.insA S4.out P4.out H4.out)
                  clear hi hz0 hz1 hz2 hK K
                  (try simp only [jA, jB, jC, Act.put, jD, jE, jF])
                  refine wpAnyH_take (i := 11) (v := .pointer (some ⟨bb, 0, none⟩)) rfl (by kernel_rfl) (by kernel_rfl) (by kernel_rfl) (fun _ _ _ h => h) (.inl ⟨by rfl, by intro w hS; go_simp⟩) hH ?_
                  (try simp only [jA, jB, jC, Act.put, jD, jE, jF])
                  refine wpAnyH_ready (rs := [10]) (by kernel_rfl) (by simp) ?_
                  refine AllReadyH.cons rfl (fun K hK => ?_) AllReadyH.nil
                  rw [if_pos (by rfl)]
                  obtain ⟨i0, hi, hz0, hz1, hz2⟩ := info_parts info_u32
                  refine wp_append_sli (.tmp 70) (.tmp 73) 37 (by rfl) 25 i0 _ 1 4 Tryz.underlying37 hi hz0 hz1 hz2 (by rfl) (by decide) _ xA.length (num .u32 xA) FA (by rfl) BQ.out.sa ⟨n9, 0, none⟩ 1 [.int .u32 xn] (by rfl) (by rfl) (World.news_of_block BX9.out) (by simp [Value.oneCell']) (by unfold maxLen; omega) (by omega) ?_
                  intro v10 D93410 F10 S10 P10 H10
                  obtain ⟨xs10, cs10, hv10, _⟩ := S10.out.lies
                  subst hv10
                  refine hK.out _ _ ⟨P10.out.keeps hH.1 NA.out, (P10.out.cell (World.block_lt_of_cell? _ _ hH.2) NBA.out).trans hH.2⟩ (fun hH => ?_)
                  have BQ := hidd (BQ.out.atA S10.out P10.out H10.out)
                  clear hi hz0 hz1 hz2 hK K
                  (try simp only [jA, jB, jC, Act.put, jD, jE, jF])
                  refine wpAnyH_ready (rs := [12]) (by kernel_rfl) (by simp) ?_
                  refine AllReadyH.cons rfl (fun K hK => ?_) AllReadyH.nil
                  rw [if_pos (by rfl)]
                  have c0 : D93410.cell? ⟨bb, 0, none⟩ = some (.slice xi xI.length ci) := cell_of_block BQ.out.ct
                  have z0 := row_frozen BQ.out.ct 0
                  go_simp
                  have h1 := (heap_setCell_row BQ.out.ct (.slice xs4 (xI.length + 1) cs4) (k := 0))
                  refine hK.out _ _ ⟨(heap_setCell_other _ _ _ _ (ne_of hH.1 BQ.out.ct (by decide))).trans hH.1, cell_of_block h1⟩ (fun hH => ?_)
                  clear hK K c0 z0
                  (try simp only [jA, jB, jC, Act.put, jD, jE, jF])
                  refine wpAnyH_take (i := 13) (v := .pointer (some ⟨bb, 1, none⟩)) rfl (by kernel_rfl) (by kernel_rfl) (by kernel_rfl) (fun _ _ _ h => h) (.inl ⟨by rfl, by intro w hS; go_simp⟩) hH ?_
                  (try simp only [jA, jB, jC, Act.put, jD, jE, jF])
                  refine wpAnyH_ready (rs := [14]) (by kernel_rfl) (by simp) ?_
                  refine AllReadyH.cons rfl (fun K hK => ?_) AllReadyH.nil
                  rw [if_pos (by rfl)]
                  have c1 := cell_of_block (i := 1) h1
                  have z1 := row_frozen h1 1
                  go_simp
                  have h2 := (heap_setCell_row h1 (.slice xs10 (xA.length + 1) cs10) (k := 1))
                  refine hK.out _ _ ⟨(heap_setCell_other _ _ _ _ (ne_of hH.1 h1 (by decide))).trans hH.1, cell_of_block h2⟩ (fun hH => ?_)
                  clear hK K c1 z1
                  (try simp only [jA, jB, jC, Act.put, jD, jE, jF])
                  refine wpAnyH_done (by kernel_rfl) ?_ _
                  have GH := hidd hH.1
                  have H2 := hidd h2
                  clear hH h1 h2
                  go_wp2_with fail
                  go_meet
                  have fin := BQ.out.done (I' := xI ++ [(d0, (d1 : Int), (d2 : Int), d3)]) (A' := xA ++ [xn]) (((Put.refl D93410).setCell (by simp) _).setCell (by simp) _) H2.out (by simp [inss, inV]) (by simp) (by simp [num]) (by simp)
                  have l1 : xI.length + 1 = (xI ++ [(d0, (d1 : Int), (d2 : Int), d3)]).length := by simp
                  have l2 : xA.length + 1 = (xA ++ [xn]).length := by simp
                  rw [l1, l2] at fin
                  rw [l1, l2] at GH
                  rw [l1, l2]
                  exact ⟨xs4, cs4, xs10, cs10, _, _, fin, GH.out⟩
                refine AllReadyH.cons rfl (fun K hK => ?_) AllReadyH.nil
                rw [if_pos (by rfl)]
                have c0 : D9.cell? ⟨bb, 1, none⟩ = some (.slice xa xA.length ca) := cell_of_block BQ.out.ct
                go_simp
                refine hK.out _ _ hH (fun hH => ?_)
                clear hK K c0
                (try simp only [jA, jB, jC, Act.put, jD, jE, jF])
                refine wpAnyH_ready (rs := [3]) (by kernel_rfl) (by simp) ?_
                refine AllReadyH.cons rfl (fun K hK => ?_) AllReadyH.nil
                rw [if_pos (by rfl)]
                go_simp
                obtain ⟨D93, eD93⟩ : ∃ V, Hid (D9.alloc (.cells (insA d0 d1 d2 d3) 53) = V) := ⟨_, rfl⟩
                obtain ⟨n3, en3⟩ : ∃ x, Hid (x = D9.heap.size) := ⟨_, rfl⟩
                rw [eD93.out, ← en3.out]
                have kk : Kep D9 D93 := by rw [← eD93.out]; exact (Kep.refl _).alloc _
                have BX3 : Hid (D93.heap[n3]? = some (.cells (insA d0 d1 d2 d3) 53 (0, 0))) := by rw [← eD93.out, en3.out]; exact hat _ _ _ rfl
                have NX3 : Hid (∀ c ∈ FA, c ≠ n3) := fun c hc => by have := BQ.out.sa.lt c hc; have := en3.out; omega
                have BQ := hidd (BQ.out.kep kk)
                refine hK.out _ _ ⟨kk.block hH.1, (kk.cell (World.block_lt_of_cell? _ _ hH.2)).trans hH.2⟩ (fun hH => ?_)
                have BX9 := hidd (kk.block BX9.out)
                clear hK K kk
                (try simp only [jA, jB, jC, Act.put, jD, jE, jF])
                refine wpAnyH_ready (rs := [4]) (by kernel_rfl) (by simp) ?_
                refine AllReadyH.cons rfl (fun K hK => ?_) AllReadyH.nil
                rw [if_pos (by rfl)]
                obtain ⟨i0, hi, hz0, hz1, hz2⟩ := info_parts info_ins8
                refine wp_append_sli (.tmp 65) (.tmp 67) 23 (by rfl) 53 i0 _ 4 8 Tryz.underlying23 hi hz0 hz1 hz2 (by rfl) (by decide) _ xI.length (inss xI) FI (by rfl) BQ.out.si ⟨n3, 0, none⟩ 1 (insA d0 d1 d2 d3).toList (by rfl) (by rfl) (World.news_of_block BX3.out) (by simp [Value.oneCell']) (by unfold maxLen; omega) (by omega) ?_
                intro v4 D934 F4 S4 P4 H4
                obtain ⟨xs4, cs4, hv4, _⟩ := S4.out.lies
                subst hv4
                have n1 : i1 ∉ FI := NI.out
                refine hK.out _ _ ⟨P4.out.keeps hH.1 n1, (P4.out.cell (World.block_lt_of_cell? _ _ hH.2) NBI.out).trans hH.2⟩ (fun hH => ?_)
                have BX9 := hidd (P4.out.keeps BX9.out (fun h => NX9.out _ h rfl))
                have BQ := hidd (BQ.out.insA S4.out P4.out H4.out)
                clear hi hz0 hz1 hz2 hK K
                (try simp only [jA, jB, jC, Act.put, jD, jE, jF])
                refine wpAnyH_take (i := 11) (v := .pointer (some ⟨bb, 0, none⟩)) rfl (by kernel_rfl) (by kernel_rfl) (by kernel_rfl) (fun _ _ _ h => h) (.inl ⟨by rfl, by intro w hS; go_simp⟩) hH ?_
                (try simp only [jA, jB, jC, Act.put, jD, jE, jF])
                refine wpAnyH_ready (rs := [10]) (by kernel_rfl) (by simp) ?_
                refine AllReadyH.cons rfl (fun K hK => ?_) AllReadyH.nil
                rw [if_pos (by rfl)]
                obtain ⟨i0, hi, hz0, hz1, hz2⟩ := info_parts info_u32
                refine wp_append_sli (.tmp 70) (.tmp 73) 37 (by rfl) 25 i0 _ 1 4 Tryz.underlying37 hi hz0 hz1 hz2 (by rfl) (by decide) _ xA.length (num .u32 xA) FA (by rfl) BQ.out.sa ⟨n9, 0, none⟩ 1 [.int .u32 xn] (by rfl) (by rfl) (World.news_of_block BX9.out) (by simp [Value.oneCell']) (by unfold maxLen; omega) (by omega) ?_
                intro v10 D93410 F10 S10 P10 H10
                obtain ⟨xs10, cs10, hv10, _⟩ := S10.out.lies
                subst hv10
                refine hK.out _ _ ⟨P10.out.keeps hH.1 NA.out, (P10.out.cell (World.block_lt_of_cell? _ _ hH.2) NBA.out).trans hH.2⟩ (fun hH => ?_)
                have BQ := hidd (BQ.out.atA S10.out P10.out H10.out)
                clear hi hz0 hz1 hz2 hK K
                (try simp only [jA, jB, jC, Act.put, jD, jE, jF])
                refine wpAnyH_ready (rs := [12]) (by kernel_rfl) (by simp) ?_
                refine AllReadyH.cons rfl (fun K hK => ?_) AllReadyH.nil
                rw [if_pos (by rfl)]
                have c0 : D93410.cell? ⟨bb, 0, none⟩ = some (.slice xi xI.length ci) := cell_of_block BQ.out.ct
                have z0 := row_frozen BQ.out.ct 0
                go_simp
                have h1 := (heap_setCell_row BQ.out.ct (.slice xs4 (xI.length + 1) cs4) (k := 0))
                refine hK.out _ _ ⟨(heap_setCell_other _ _ _ _ (ne_of hH.1 BQ.out.ct (by decide))).trans hH.1, cell_of_block h1⟩ (fun hH => ?_)
                clear hK K c0 z0
                (try simp only [jA, jB, jC, Act.put, jD, jE, jF])
                refine wpAnyH_take (i := 13) (v := .pointer (some ⟨bb, 1, none⟩)) rfl (by kernel_rfl) (by kernel_rfl) (by kernel_rfl) (fun _ _ _ h => h) (.inl ⟨by rfl, by intro w hS; go_simp⟩) hH ?_
                (try simp only [jA, jB, jC, Act.put, jD, jE, jF])
                refine wpAnyH_ready (rs := [14]) (by kernel_rfl) (by simp) ?_
                refine AllReadyH.cons rfl (fun K hK => ?_) AllReadyH.nil
                rw [if_pos (by rfl)]
                have c1 := cell_of_block (i := 1) h1
                have z1 := row_frozen h1 1
                go_simp
                have h2 := (heap_setCell_row h1 (.slice xs10 (xA.length + 1) cs10) (k := 1))
                refine hK.out _ _ ⟨(heap_setCell_other _ _ _ _ (ne_of hH.1 h1 (by decide))).trans hH.1, cell_of_block h2⟩ (fun hH => ?_)
                clear hK K c1 z1
                (try simp only [jA, jB, jC, Act.put, jD, jE, jF])
                refine wpAnyH_done (by kernel_rfl) ?_ _
                have GH := hidd hH.1
                have H2 := hidd h2
                clear hH h1 h2
                go_wp2_with fail
                go_meet
                have fin := BQ.out.done (I' := xI ++ [(d0, (d1 : Int), (d2 : Int), d3)]) (A' := xA ++ [xn]) (((Put.refl D93410).setCell (by simp) _).setCell (by simp) _) H2.out (by simp [inss, inV]) (by simp) (by simp [num]) (by simp)
                have l1 : xI.length + 1 = (xI ++ [(d0, (d1 : Int), (d2 : Int), d3)]).length := by simp
                have l2 : xA.length + 1 = (xA ++ [xn]).length := by simp
                rw [l1, l2] at fin
                rw [l1, l2] at GH
                rw [l1, l2]
                exact ⟨xs4, cs4, xs10, cs10, _, _, fin, GH.out⟩
              refine AllReadyH.cons rfl (fun K hK => ?_) ?_
              · skip
                rw [if_pos (by rfl)]
                go_simp
                obtain ⟨D3, eD3⟩ : ∃ V, Hid (D.alloc (.cells (insA d0 d1 d2 d3) 53) = V) := ⟨_, rfl⟩
                obtain ⟨n3, en3⟩ : ∃ x, Hid (x = D.heap.size) := ⟨_, rfl⟩
                rw [eD3.out, ← en3.out]
                have kk : Kep D D3 := by rw [← eD3.out]; exact (Kep.refl _).alloc _
                have BX3 : Hid (D3.heap[n3]? = some (.cells (insA d0 d1 d2 d3) 53 (0, 0))) := by rw [← eD3.out, en3.out]; exact hat _ _ _ rfl
                have NX3 : Hid (∀ c ∈ FA, c ≠ n3) := fun c hc => by have := BQ.out.sa.lt c hc; have := en3.out; omega
                have BQ := hidd (BQ.out.kep kk)
                refine hK.out _ _ ⟨kk.block hH.1, (kk.cell (World.block_lt_of_cell? _ _ hH.2)).trans hH.2⟩ (fun hH => ?_)
                clear hK K kk
                (try simp only [jA, jB, jC, Act.put, jD, jE, jF])
                refine wpAnyH_ready (rs := [1, 6, 9]) (by kernel_rfl) (by simp) ?_
                refine AllReadyH.cons rfl (fun K hK => ?_) ?_
                · skip
                  rw [if_pos (by rfl)]
                  have c0 : D3.cell? ⟨bb, 0, none⟩ = some (.slice xi xI.length ci) := cell_of_block BQ.out.ct
                  go_simp
                  refine hK.out _ _ hH (fun hH => ?_)
                  clear hK K c0
                  (try simp only [jA, jB, jC, Act.put, jD, jE, jF])
                  refine wpAnyH_ready (rs := [4, 6, 9]) (by kernel_rfl) (by simp) ?_
                  refine AllReadyH.cons rfl (fun K hK => ?_) ?_
                  · skip
                    rw [if_pos (by rfl)]
                    obtain ⟨i0, hi, hz0, hz1, hz2⟩ := info_parts info_ins8
                    refine wp_append_sli (.tmp 65) (.tmp 67) 23 (by rfl) 53 i0 _ 4 8 Tryz.underlying23 hi hz0 hz1 hz2 (by rfl) (by decide) _ xI.length (inss xI) FI (by rfl) BQ.out.si ⟨n3, 0, none⟩ 1 (insA d0 d1 d2 d3).toList (by rfl) (by rfl) (World.news_of_block BX3.out) (by simp [Value.oneCell']) (by unfold maxLen; omega) (by omega) ?_
                    intro v4 D34 F4 S4 P4 H4
                    obtain ⟨xs4, cs4, hv4, _⟩ := S4.out.lies
                    subst hv4
                    have n1 : i1 ∉ FI := NI.out
                    refine hK.out _ _ ⟨P4.out.keeps hH.1 n1, (P4.out.cell (World.block_lt_of_cell? _ _ hH.2) NBI.out).trans hH.2⟩ (fun hH => ?_)
                    have BQ := hidd (BQ.out.insA S4.out P4.out H4.out)
                    clear hi hz0 hz1 hz2 hK K
                    (try simp only [jA, jB, jC, Act.put, jD, jE, jF])
                    refine wpAnyH_ready (rs := [6, 9]) (by kernel_rfl) (by simp) ?_
                    refine AllReadyH.cons rfl (fun K hK => ?_) ?_
                    · skip
                      rw [if_pos (by rfl)]
                      have c0 : D34.cell? ⟨bb, 1, none⟩ = some (.slice xa xA.length ca) := cell_of_block BQ.out.ct
                      go_simp
                      refine hK.out _ _ hH (fun hH => ?_)
                      clear hK K c0
                      (try simp only [jA, jB, jC, Act.put, jD, jE, jF])
                      refine wpAnyH_take (i := 11) (v := .pointer (some ⟨bb, 0, none⟩)) rfl (by kernel_rfl) (by kernel_rfl) (by kernel_rfl) (fun _ _ _ h => h) (.inl ⟨by rfl, by intro w hS; go_simp⟩) hH ?_
                      (try simp only [jA, jB, jC, Act.put, jD, jE, jF])
                      refine wpAnyH_ready (rs := [9]) (by kernel_rfl) (by simp) ?_
                      refine AllReadyH.cons rfl (fun K hK => ?_) AllReadyH.nil
                      rw [if_pos (by rfl)]
                      go_simp
                      obtain ⟨D349, eD349⟩ : ∃ V, Hid (D34.alloc (.cells #[.int .u32 xn] 25) = V) := ⟨_, rfl⟩
                      obtain ⟨n9, en9⟩ : ∃ x, Hid (x = D34.heap.size) := ⟨_, rfl⟩
                      rw [eD349.out, ← en9.out]
                      have kk : Kep D34 D349 := by rw [← eD349.out]; exact (Kep.refl _).alloc _
                      have BX9 : Hid (D349.heap[n9]? = some (.cells #[.int .u32 xn] 25 (0, 0))) := by rw [← eD349.out, en9.out]; exact hat _ _ _ rfl
                      have NX9 : Hid (∀ c ∈ F4, c ≠ n9) := fun c hc => by have := BQ.out.si.lt c hc; have := en9.out; omega
                      have BQ := hidd (BQ.out.kep kk)
                      refine hK.out _ _ ⟨kk.block hH.1, (kk.cell (World.block_lt_of_cell? _ _ hH.2)).trans hH.2⟩ (fun hH => ?_)
                      clear hK K kk
                      (try simp only [jA, jB, jC, Act.put, jD, jE, jF])
                      refine wpAnyH_ready (rs := [10]) (by kernel_rfl) (by simp) ?_
                      refine AllReadyH.cons rfl (fun K hK => ?_) AllReadyH.nil
                      rw [if_pos (by rfl)]
                      obtain ⟨i0, hi, hz0, hz1, hz2⟩ := info_parts info_u32
                      refine wp_append_sli (.tmp 70) (.tmp 73) 37 (by rfl) 25 i0 _ 1 4 Tryz.underlying37 hi hz0 hz1 hz2 (by rfl) (by decide) _ xA.length (num .u32 xA) FA (by rfl) BQ.out.sa ⟨n9, 0, none⟩ 1 [.int .u32 xn] (by rfl) (by rfl) (World.news_of_block BX9.out) (by simp [Value.oneCell']) (by unfold maxLen; omega) (by omega) ?_
                      intro v10 D34910 F10 S10 P10 H10
                      obtain ⟨xs10, cs10, hv10, _⟩ := S10.out.lies
                      subst hv10
                      refine hK.out _ _ ⟨P10.out.keeps hH.1 NA.out, (P10.out.cell (World.block_lt_of_cell? _ _ hH.2) NBA.out).trans hH.2⟩ (fun hH => ?_)
                      have BQ := hidd (BQ.out.atA S10.out P10.out H10.out)
                      clear hi hz0 hz1 hz2 hK K
                      (try simp only [jA, jB, jC, Act.put, jD, jE, jF])
                      refine wpAnyH_ready (rs := [12]) (by kernel_rfl) (by simp) ?_
                      refine AllReadyH.cons rfl (fun K hK => ?_) AllReadyH.nil
                      rw [if_pos (by rfl)]
                      have c0 : D34910.cell? ⟨bb, 0, none⟩ = some (.slice xi xI.length ci) := cell_of_block BQ.out.ct
                      have z0 := row_frozen BQ.out.ct 0
                      go_simp
                      have h1 := (heap_setCell_row BQ.out.ct (.slice xs4 (xI.length + 1) cs4) (k := 0))
                      refine hK.out _ _ ⟨(heap_setCell_other _ _ _ _ (ne_of hH.1 BQ.out.ct (by decide))).trans hH.1, cell_of_block h1⟩ (fun hH => ?_)
                      clear hK K c0 z0
                      (try simp only [jA, jB, jC, Act.put, jD, jE, jF])
                      refine wpAnyH_take (i := 13) (v := .pointer (some ⟨bb, 1, none⟩)) rfl (by kernel_rfl) (by kernel_rfl) (by kernel_rfl) (fun _ _ _ h => h) (.inl ⟨by rfl, by intro w hS; go_simp⟩) hH ?_
                      (try simp only [jA, jB, jC, Act.put, jD, jE, jF])
                      refine wpAnyH_ready (rs := [14]) (by kernel_rfl) (by simp) ?_
                      refine AllReadyH.cons rfl (fun K hK => ?_) AllReadyH.nil
                      rw [if_pos (by rfl)]
                      have c1 := cell_of_block (i := 1) h1
                      have z1 := row_frozen h1 1
                      go_simp
                      have h2 := (heap_setCell_row h1 (.slice xs10 (xA.length + 1) cs10) (k := 1))
                      refine hK.out _ _ ⟨(heap_setCell_other _ _ _ _ (ne_of hH.1 h1 (by decide))).trans hH.1, cell_of_block h2⟩ (fun hH => ?_)
                      clear hK K c1 z1
                      (try simp only [jA, jB, jC, Act.put, jD, jE, jF])
                      refine wpAnyH_done (by kernel_rfl) ?_ _
                      have GH := hidd hH.1
                      have H2 := hidd h2
                      clear hH h1 h2
                      go_wp2_with fail
                      go_meet
                      have fin := BQ.out.done (I' := xI ++ [(d0, (d1 : Int), (d2 : Int), d3)]) (A' := xA ++ [xn]) (((Put.refl D34910).setCell (by simp) _).setCell (by simp) _) H2.out (by simp [inss, inV]) (by simp) (by simp [num]) (by simp)
                      have l1 : xI.length + 1 = (xI ++ [(d0, (d1 : Int), (d2 : Int), d3)]).length := by simp
                      have l2 : xA.length + 1 = (xA ++ [xn]).length := by simp
                      rw [l1, l2] at fin
                      rw [l1, l2] at GH
                      rw [l1, l2]
                      exact ⟨xs4, cs4, xs10, cs10, _, _, fin, GH.out⟩
                    refine AllReadyH.cons rfl (fun K hK => ?_) AllReadyH.nil
                    rw [if_pos (by rfl)]
                    go_simp
                    obtain ⟨D349, eD349⟩ : ∃ V, Hid (D34.alloc (.cells #[.int .u32 xn] 25) = V) := ⟨_, rfl⟩
                    obtain ⟨n9, en9⟩ : ∃ x, Hid (x = D34.heap.size) := ⟨_, rfl⟩
                    rw [eD349.out, ← en9.out]
                    have kk : Kep D34 D349 := by rw [← eD349.out]; exact (Kep.refl _).alloc _
                    have BX9 : Hid (D349.heap[n9]? = some (.cells #[.int .u32 xn] 25 (0, 0))) := by rw [← eD349.out, en9.out]; exact hat _ _ _ rfl
                    have NX9 : Hid (∀ c ∈ F4, c ≠ n9) := fun c hc => by have := BQ.out.si.lt c hc; have := en9.out; omega
                    have BQ := hidd (BQ.out.kep kk)
                    refine hK.out _ _ ⟨kk.block hH.1, (kk.cell (World.block_lt_of_cell? _ _ hH.2)).trans hH.2⟩ (fun hH => ?_)
                    clear hK K kk
                    (try simp only [jA, jB, jC, Act.put, jD, jE, jF])
                    refine wpAnyH_ready (rs := [6]) (by kernel_rfl) (by simp) ?_
                    refine AllReadyH.cons rfl (fun K hK => ?_) AllReadyH.nil
                    rw [if_pos (by rfl)]
                    have c0 : D349.cell? ⟨bb, 1, none⟩ = some (.slice xa xA.length ca) := cell_of_block BQ.out.ct
                    go_simp
                    refine hK.out _ _ hH (fun hH => ?_)
                    clear hK K c0
                    (try simp only [jA, jB, jC, Act.put, jD, jE, jF])
                    refine wpAnyH_take (i := 11) (v := .pointer (some ⟨bb, 0, none⟩)) rfl (by kernel_rfl) (by kernel_rfl) (by kernel_rfl) (fun _ _ _ h => h) (.inl ⟨by rfl, by intro w hS; go_simp⟩) hH ?_
                    (try simp only [jA, jB, jC, Act.put, jD, jE, jF])
                    refine wpAnyH_ready (rs := [10]) (by kernel_rfl) (by simp) ?_
                    refine AllReadyH.cons rfl (fun K hK => ?_) AllReadyH.nil
                    rw [if_pos (by rfl)]
                    obtain ⟨i0, hi, hz0, hz1, hz2⟩ := info_parts info_u32
                    refine wp_append_sli (.tmp 70) (.tmp 73) 37 (by rfl) 25 i0 _ 1 4 Tryz.underlying37 hi hz0 hz1 hz2 (by rfl) (by decide) _ xA.length (num .u32 xA) FA (by rfl) BQ.out.sa ⟨n9, 0, none⟩ 1 [.int .u32 xn] (by rfl) (by rfl) (World.news_of_block BX9.out) (by simp [Value.oneCell']) (by unfold maxLen; omega) (by omega) ?_
                    intro v10 D34910 F10 S10 P10 H10
                    obtain ⟨xs10, cs10, hv10, _⟩ := S10.out.lies
                    subst hv10
                    refine hK.out _ _ ⟨P10.out.keeps hH.1 NA.out, (P10.out.cell (World.block_lt_of_cell? _ _ hH.2) NBA.out).trans hH.2⟩ (fun hH => ?_)
                    have BQ := hidd (BQ.out.atA S10.out P10.out H10.out)
                    clear hi hz0 hz1 hz2 hK K
                    (try simp only [jA, jB, jC, Act.put, jD, jE, jF])
                    refine wpAnyH_ready (rs := [12]) (by kernel_rfl) (by simp) ?_
                    refine AllReadyH.cons rfl (fun K hK => ?_) AllReadyH.nil
                    rw [if_pos (by rfl)]
                    have c0 : D34910.cell? ⟨bb, 0, none⟩ = some (.slice xi xI.length ci) := cell_of_block BQ.out.ct
                    have z0 := row_frozen BQ.out.ct 0
                    go_simp
                    have h1 := (heap_setCell_row BQ.out.ct (.slice xs4 (xI.length + 1) cs4) (k := 0))
                    refine hK.out _ _ ⟨(heap_setCell_other _ _ _ _ (ne_of hH.1 BQ.out.ct (by decide))).trans hH.1, cell_of_block h1⟩ (fun hH => ?_)
                    clear hK K c0 z0
                    (try simp only [jA, jB, jC, Act.put, jD, jE, jF])
                    refine wpAnyH_take (i := 13) (v := .pointer (some ⟨bb, 1, none⟩)) rfl (by kernel_rfl) (by kernel_rfl) (by kernel_rfl) (fun _ _ _ h => h) (.inl ⟨by rfl, by intro w hS; go_simp⟩) hH ?_
                    (try simp only [jA, jB, jC, Act.put, jD, jE, jF])
                    refine wpAnyH_ready (rs := [14]) (by kernel_rfl) (by simp) ?_
                    refine AllReadyH.cons rfl (fun K hK => ?_) AllReadyH.nil
                    rw [if_pos (by rfl)]
                    have c1 := cell_of_block (i := 1) h1
                    have z1 := row_frozen h1 1
                    go_simp
                    have h2 := (heap_setCell_row h1 (.slice xs10 (xA.length + 1) cs10) (k := 1))
                    refine hK.out _ _ ⟨(heap_setCell_other _ _ _ _ (ne_of hH.1 h1 (by decide))).trans hH.1, cell_of_block h2⟩ (fun hH => ?_)
                    clear hK K c1 z1
                    (try simp only [jA, jB, jC, Act.put, jD, jE, jF])
                    refine wpAnyH_done (by kernel_rfl) ?_ _
                    have GH := hidd hH.1
                    have H2 := hidd h2
                    clear hH h1 h2
                    go_wp2_with fail
                    go_meet
                    have fin := BQ.out.done (I' := xI ++ [(d0, (d1 : Int), (d2 : Int), d3)]) (A' := xA ++ [xn]) (((Put.refl D34910).setCell (by simp) _).setCell (by simp) _) H2.out (by simp [inss, inV]) (by simp) (by simp [num]) (by simp)
                    have l1 : xI.length + 1 = (xI ++ [(d0, (d1 : Int), (d2 : Int), d3)]).length := by simp
                    have l2 : xA.length + 1 = (xA ++ [xn]).length := by simp
                    rw [l1, l2] at fin
                    rw [l1, l2] at GH
                    rw [l1, l2]
                    exact ⟨xs4, cs4, xs10, cs10, _, _, fin, GH.out⟩
                  refine AllReadyH.cons rfl (fun K hK => ?_) ?_
                  · skip
                    rw [if_pos (by rfl)]
                    have c0 : D3.cell? ⟨bb, 1, none⟩ = some (.slice xa xA.length ca) := cell_of_block BQ.out.ct
                    go_simp
                    refine hK.out _ _ hH (fun hH => ?_)
                    clear hK K c0
                    (try simp only [jA, jB, jC, Act.put, jD, jE, jF])
                    refine wpAnyH_ready (rs := [4, 9]) (by kernel_rfl) (by simp) ?_
                    refine AllReadyH.cons rfl (fun K hK => ?_) ?_
                    · skip
                      rw [if_pos (by rfl)]
                      obtain ⟨i0, hi, hz0, hz1, hz2⟩ := info_parts info_ins8
                      refine wp_append_sli (.tmp 65) (.tmp 67) 23 (by rfl) 53 i0 _ 4 8 Tryz.underlying23 hi hz0 hz1 hz2 (by rfl) (by decide) _ xI.length (inss xI) FI (by rfl) BQ.out.si ⟨n3, 0, none⟩ 1 (insA d0 d1 d2 d3).toList (by rfl) (by rfl) (World.news_of_block BX3.out) (by simp [Value.oneCell']) (by unfold maxLen; omega) (by omega) ?_
                      intro v4 D34 F4 S4 P4 H4
                      obtain ⟨xs4, cs4, hv4, _⟩ := S4.out.lies
                      subst hv4
                      have n1 : i1 ∉ FI := NI.out
                      refine hK.out _ _ ⟨P4.out.keeps hH.1 n1, (P4.out.cell (World.block_lt_of_cell? _ _ hH.2) NBI.out).trans hH.2⟩ (fun hH => ?_)
                      have BQ := hidd (BQ.out.insA S4.out P4.out H4.out)
                      clear hi hz0 hz1 hz2 hK K
                      (try simp only [jA, jB, jC, Act.put, jD, jE, jF])
                      refine wpAnyH_take (i := 11) (v := .pointer (some ⟨bb, 0, none⟩)) rfl (by kernel_rfl) (by kernel_rfl) (by kernel_rfl) (fun _ _ _ h => h) (.inl ⟨by rfl, by intro w hS; go_simp⟩) hH ?_
                      (try simp only [jA, jB, jC, Act.put, jD, jE, jF])
                      refine wpAnyH_ready (rs := [9]) (by kernel_rfl) (by simp) ?_
                      refine AllReadyH.cons rfl (fun K hK => ?_) AllReadyH.nil
                      rw [if_pos (by rfl)]
                      go_simp
                      obtain ⟨D349, eD349⟩ : ∃ V, Hid (D34.alloc (.cells #[.int .u32 xn] 25) = V) := ⟨_, rfl⟩
                      obtain ⟨n9, en9⟩ : ∃ x, Hid (x = D34.heap.size) := ⟨_, rfl⟩
                      rw [eD349.out, ← en9.out]
                      have kk : Kep D34 D349 := by rw [← eD349.out]; exact (Kep.refl _).alloc _
                      have BX9 : Hid (D349.heap[n9]? = some (.cells #[.int .u32 xn] 25 (0, 0))) := by rw [← eD349.out, en9.out]; exact hat _ _ _ rfl
                      have NX9 : Hid (∀ c ∈ F4, c ≠ n9) := fun c hc => by have := BQ.out.si.lt c hc; have := en9.out; omega
                      have BQ := hidd (BQ.out.kep kk)
                      refine hK.out _ _ ⟨kk.block hH.1, (kk.cell (World.block_lt_of_cell? _ _ hH.2)).trans hH.2⟩ (fun hH => ?_)
                      clear hK K kk
                      (try simp only [jA, jB, jC, Act.put, jD, jE, jF])
                      refine wpAnyH_ready (rs := [10]) (by kernel_rfl) (by simp) ?_
                      refine AllReadyH.cons rfl (fun K hK => ?_) AllReadyH.nil
                      rw [if_pos (by rfl)]
                      obtain ⟨i0, hi, hz0, hz1, hz2⟩ := info_parts info_u32
                      refine wp_append_sli (.tmp 70) (.tmp 73) 37 (by rfl) 25 i0 _ 1 4 Tryz.underlying37 hi hz0 hz1 hz2 (by rfl) (by decide) _ xA.length (num .u32 xA) FA (by rfl) BQ.out.sa ⟨n9, 0, none⟩ 1 [.int .u32 xn] (by rfl) (by rfl) (World.news_of_block BX9.out) (by simp [Value.oneCell']) (by unfold maxLen; omega) (by omega) ?_
                      intro v10 D34910 F10 S10 P10 H10
                      obtain ⟨xs10, cs10, hv10, _⟩ := S10.out.lies
                      subst hv10
                      refine hK.out _ _ ⟨P10.out.keeps hH.1 NA.out, (P10.out.cell (World.block_lt_of_cell? _ _ hH.2) NBA.out).trans hH.2⟩ (fun hH => ?_)
                      have BQ := hidd (BQ.out.atA S10.out P10.out H10.out)
                      clear hi hz0 hz1 hz2 hK K
                      (try simp only [jA, jB, jC, Act.put, jD, jE, jF])
                      refine wpAnyH_ready (rs := [12]) (by kernel_rfl) (by simp) ?_
                      refine AllReadyH.cons rfl (fun K hK => ?_) AllReadyH.nil
                      rw [if_pos (by rfl)]
                      have c0 : D34910.cell? ⟨bb, 0, none⟩ = some (.slice xi xI.length ci) := cell_of_block BQ.out.ct
                      have z0 := row_frozen BQ.out.ct 0
                      go_simp
                      have h1 := (heap_setCell_row BQ.out.ct (.slice xs4 (xI.length + 1) cs4) (k := 0))
                      refine hK.out _ _ ⟨(heap_setCell_other _ _ _ _ (ne_of hH.1 BQ.out.ct (by decide))).trans hH.1, cell_of_block h1⟩ (fun hH => ?_)
                      clear hK K c0 z0
                      (try simp only [jA, jB, jC, Act.put, jD, jE, jF])
                      refine wpAnyH_take (i := 13) (v := .pointer (some ⟨bb, 1, none⟩)) rfl (by kernel_rfl) (by kernel_rfl) (by kernel_rfl) (fun _ _ _ h => h) (.inl ⟨by rfl, by intro w hS; go_simp⟩) hH ?_
                      (try simp only [jA, jB, jC, Act.put, jD, jE, jF])
                      refine wpAnyH_ready (rs := [14]) (by kernel_rfl) (by simp) ?_
                      refine AllReadyH.cons rfl (fun K hK => ?_) AllReadyH.nil
                      rw [if_pos (by rfl)]
                      have c1 := cell_of_block (i := 1) h1
                      have z1 := row_frozen h1 1
                      go_simp
                      have h2 := (heap_setCell_row h1 (.slice xs10 (xA.length + 1) cs10) (k := 1))
                      refine hK.out _ _ ⟨(heap_setCell_other _ _ _ _ (ne_of hH.1 h1 (by decide))).trans hH.1, cell_of_block h2⟩ (fun hH => ?_)
                      clear hK K c1 z1
                      (try simp only [jA, jB, jC, Act.put, jD, jE, jF])
                      refine wpAnyH_done (by kernel_rfl) ?_ _
                      have GH := hidd hH.1
                      have H2 := hidd h2
                      clear hH h1 h2
                      go_wp2_with fail
                      go_meet
                      have fin := BQ.out.done (I' := xI ++ [(d0, (d1 : Int), (d2 : Int), d3)]) (A' := xA ++ [xn]) (((Put.refl D34910).setCell (by simp) _).setCell (by simp) _) H2.out (by simp [inss, inV]) (by simp) (by simp [num]) (by simp)
                      have l1 : xI.length + 1 = (xI ++ [(d0, (d1 : Int), (d2 : Int), d3)]).length := by simp
                      have l2 : xA.length + 1 = (xA ++ [xn]).length := by simp
                      rw [l1, l2] at fin
                      rw [l1, l2] at GH
                      rw [l1, l2]
                      exact ⟨xs4, cs4, xs10, cs10, _, _, fin, GH.out⟩
                    refine AllReadyH.cons rfl (fun K hK => ?_) AllReadyH.nil
                    rw [if_pos (by rfl)]
                    go_simp
                    obtain ⟨D39, eD39⟩ : ∃ V, Hid (D3.alloc (.cells #[.int .u32 xn] 25) = V) := ⟨_, rfl⟩
                    obtain ⟨n9, en9⟩ : ∃ x, Hid (x = D3.heap.size) := ⟨_, rfl⟩
                    rw [eD39.out, ← en9.out]
                    have kk : Kep D3 D39 := by rw [← eD39.out]; exact (Kep.refl _).alloc _
                    have BX9 : Hid (D39.heap[n9]? = some (.cells #[.int .u32 xn] 25 (0, 0))) := by rw [← eD39.out, en9.out]; exact hat _ _ _ rfl
                    have NX9 : Hid (∀ c ∈ FI, c ≠ n9) := fun c hc => by have := BQ.out.si.lt c hc; have := en9.out; omega
                    have BQ := hidd (BQ.out.kep kk)
                    refine hK.out _ _ ⟨kk.block hH.1, (kk.cell (World.block_lt_of_cell? _ _ hH.2)).trans hH.2⟩ (fun hH => ?_)
                    have BX3 := hidd (kk.block BX3.out)
                    clear hK K kk
                    (try simp only [jA, jB, jC, Act.put, jD, jE, jF])
                    refine wpAnyH_ready (rs := [4]) (by kernel_rfl) (by simp) ?_
                    refine AllReadyH.cons rfl (fun K hK => ?_) AllReadyH.nil
                    rw [if_pos (by rfl)]
                    obtain ⟨i0, hi, hz0, hz1, hz2⟩ := info_parts info_ins8
                    refine wp_append_sli (.tmp 65) (.tmp 67) 23 (by rfl) 53 i0 _ 4 8 Tryz.underlying23 hi hz0 hz1 hz2 (by rfl) (by decide) _ xI.length (inss xI) FI (by rfl) BQ.out.si ⟨n3, 0, none⟩ 1 (insA d0 d1 d2 d3).toList (by rfl) (by rfl) (World.news_of_block BX3.out) (by simp [Value.oneCell']) (by unfold maxLen; omega) (by omega) ?_
                    intro v4 D394 F4 S4 P4 H4
                    obtain ⟨xs4, cs4, hv4, _⟩ := S4.out.lies
                    subst hv4
                    have n1 : i1 ∉ FI := NI.out
                    refine hK.out _ _ ⟨P4.out.keeps hH.1 n1, (P4.out.cell (World.block_lt_of_cell? _ _ hH.2) NBI.out).trans hH.2⟩ (fun hH => ?_)
                    have BX9 := hidd (P4.out.keeps BX9.out (fun h => NX9.out _ h rfl))
                    have BQ := hidd (BQ.out.insA S4.out P4.out H4.out)
                    clear hi hz0 hz1 hz2 hK K
                    (try simp only [jA, jB, jC, Act.put, jD, jE, jF])
                    refine wpAnyH_take (i := 11) (v := .pointer (some ⟨bb, 0, none⟩)) rfl (by kernel_rfl) (by kernel_rfl) (by kernel_rfl) (fun _ _ _ h => h) (.inl ⟨by rfl, by intro w hS; go_simp⟩) hH ?_
                    (try simp only [jA, jB, jC, Act.put, jD, jE, jF])
                    refine wpAnyH_ready (rs := [10]) (by kernel_rfl) (by simp) ?_
                    refine AllReadyH.cons rfl (fun K hK => ?_) AllReadyH.nil
                    rw [if_pos (by rfl)]
                    obtain ⟨i0, hi, hz0, hz1, hz2⟩ := info_parts info_u32
                    refine wp_append_sli (.tmp 70) (.tmp 73) 37 (by rfl) 25 i0 _ 1 4 Tryz.underlying37 hi hz0 hz1 hz2 (by rfl) (by decide) _ xA.length (num .u32 xA) FA (by rfl) BQ.out.sa ⟨n9, 0, none⟩ 1 [.int .u32 xn] (by rfl) (by rfl) (World.news_of_block BX9.out) (by simp [Value.oneCell']) (by unfold maxLen; omega) (by omega) ?_
                    intro v10 D39410 F10 S10 P10 H10
                    obtain ⟨xs10, cs10, hv10, _⟩ := S10.out.lies
                    subst hv10
                    refine hK.out _ _ ⟨P10.out.keeps hH.1 NA.out, (P10.out.cell (World.block_lt_of_cell? _ _ hH.2) NBA.out).trans hH.2⟩ (fun hH => ?_)
                    have BQ := hidd (BQ.out.atA S10.out P10.out H10.out)
                    clear hi hz0 hz1 hz2 hK K
                    (try simp only [jA, jB, jC, Act.put, jD, jE, jF])
                    refine wpAnyH_ready (rs := [12]) (by kernel_rfl) (by simp) ?_
                    refine AllReadyH.cons rfl (fun K hK => ?_) AllReadyH.nil
                    rw [if_pos (by rfl)]
                    have c0 : D39410.cell? ⟨bb, 0, none⟩ = some (.slice xi xI.length ci) := cell_of_block BQ.out.ct
                    have z0 := row_frozen BQ.out.ct 0
                    go_simp
                    have h1 := (heap_setCell_row BQ.out.ct (.slice xs4 (xI.length + 1) cs4) (k := 0))
                    refine hK.out _ _ ⟨(heap_setCell_other _ _ _ _ (ne_of hH.1 BQ.out.ct (by decide))).trans hH.1, cell_of_block h1⟩ (fun hH => ?_)
                    clear hK K c0 z0
                    (try simp only [jA, jB, jC, Act.put, jD, jE, jF])
                    refine wpAnyH_take (i := 13) (v := .pointer (some ⟨bb, 1, none⟩)) rfl (by kernel_rfl) (by kernel_rfl) (by kernel_rfl) (fun _ _ _ h => h) (.inl ⟨by rfl, by intro w hS; go_simp⟩) hH ?_
                    (try simp only [jA, jB, jC, Act.put, jD, jE, jF])
                    refine wpAnyH_ready (rs := [14]) (by kernel_rfl) (by simp) ?_
                    refine AllReadyH.cons rfl (fun K hK => ?_) AllReadyH.nil
                    rw [if_pos (by rfl)]
                    have c1 := cell_of_block (i := 1) h1
                    have z1 := row_frozen h1 1
                    go_simp
                    have h2 := (heap_setCell_row h1 (.slice xs10 (xA.length + 1) cs10) (k := 1))
                    refine hK.out _ _ ⟨(heap_setCell_other _ _ _ _ (ne_of hH.1 h1 (by decide))).trans hH.1, cell_of_block h2⟩ (fun hH => ?_)
                    clear hK K c1 z1
                    (try simp only [jA, jB, jC, Act.put, jD, jE, jF])
                    refine wpAnyH_done (by kernel_rfl) ?_ _
                    have GH := hidd hH.1
                    have H2 := hidd h2
                    clear hH h1 h2
                    go_wp2_with fail
                    go_meet
                    have fin := BQ.out.done (I' := xI ++ [(d0, (d1 : Int), (d2 : Int), d3)]) (A' := xA ++ [xn]) (((Put.refl D39410).setCell (by simp) _).setCell (by simp) _) H2.out (by simp [inss, inV]) (by simp) (by simp [num]) (by simp)
                    have l1 : xI.length + 1 = (xI ++ [(d0, (d1 : Int), (d2 : Int), d3)]).length := by simp
                    have l2 : xA.length + 1 = (xA ++ [xn]).length := by simp
                    rw [l1, l2] at fin
                    rw [l1, l2] at GH
                    rw [l1, l2]
                    exact ⟨xs4, cs4, xs10, cs10, _, _, fin, GH.out⟩
                  refine AllReadyH.cons rfl (fun K hK => ?_) AllReadyH.nil
                  rw [if_pos (by rfl)]
                  go_simp
                  obtain ⟨D39, eD39⟩ : ∃ V, Hid (D3.alloc (.cells #[.int .u32 xn] 25) = V) := ⟨_, rfl⟩
                  obtain ⟨n9, en9⟩ : ∃ x, Hid (x = D3.heap.size) := ⟨_, rfl⟩
                  rw [eD39.out, ← en9.out]
                  have kk : Kep D3 D39 := by rw [← eD39.out]; exact (Kep.refl _).alloc _
                  have BX9 : Hid (D39.heap[n9]? = some (.cells #[.int .u32 xn] 25 (0, 0))) := by rw [← eD39.out, en9.out]; exact hat _ _ _ rfl
                  have NX9 : Hid (∀ c ∈ FI, c ≠ n9) := fun c hc => by have := BQ.out.si.lt c hc; have := en9.out; omega
                  have BQ := hidd (BQ.out.kep kk)
                  refine hK.out _ _ ⟨kk.block hH.1, (kk.cell (World.block_lt_of_cell? _ _ hH.2)).trans hH.2⟩ (fun hH => ?_)
                  have BX3 := hidd (kk.block BX3.out)
                  clear hK K kk
                  (try simp only [jA, jB, jC, Act.put, jD, jE, jF])
                  refine wpAnyH_ready (rs := [4, 6]) (by kernel_rfl) (by simp) ?_
                  refine AllReadyH.cons rfl (fun K hK => ?_) ?_
                  · skip
                    rw [if_pos (by rfl)]
                    obtain ⟨i0, hi, hz0, hz1, hz2⟩ := info_parts info_ins8
                    refine wp_append_sli (.tmp 65) (.tmp 67) 23 (by rfl) 53 i0 _ 4 8 Tryz.underlying23 hi hz0 hz1 hz2 (by rfl) (by decide) _ xI.length (inss xI) FI (by rfl) BQ.out.si ⟨n3, 0, none⟩ 1 (insA d0 d1 d2 d3).toList (by rfl) (by rfl) (World.news_of_block BX3.out) (by simp [Value.oneCell']) (by unfold maxLen; omega) (by omega) ?_
                    intro v4 D394 F4 S4 P4 H4
                    obtain ⟨xs4, cs4, hv4, _⟩ := S4.out.lies
                    subst hv4
                    have n1 : i1 ∉ FI := NI.out
                    refine hK.out _ _ ⟨P4.out.keeps hH.1 n1, (P4.out.cell (World.block_lt_of_cell? _ _ hH.2) NBI.out).trans hH.2⟩ (fun hH => ?_)
                    have BX9 := hidd (P4.out.keeps BX9.out (fun h => NX9.out _ h rfl))
                    have BQ := hidd (BQ.out.insA S4.out P4.out H4.out)
                    clear hi hz0 hz1 hz2 hK K
                    (try simp only [jA, jB, jC, Act.put, jD, jE, jF])
                    refine wpAnyH_ready (rs := [6]) (by kernel_rfl) (by simp) ?_
                    refine AllReadyH.cons rfl (fun K hK => ?_) AllReadyH.nil
                    rw [if_pos (by rfl)]
                    have c0 : D394.cell? ⟨bb, 1, none⟩ = some (.slice xa xA.length ca) := cell_of_block BQ.out.ct
                    go_simp
                    refine hK.out _ _ hH (fun hH => ?_)
                    clear hK K c0
                    (try simp only [jA, jB, jC, Act.put, jD, jE, jF])
                    refine wpAnyH_take (i := 11) (v := .pointer (some ⟨bb, 0, none⟩)) rfl (by kernel_rfl) (by kernel_rfl) (by kernel_rfl) (fun _ _ _ h => h) (.inl ⟨by rfl, by intro w hS; go_simp⟩) hH ?_
                    (try simp only [jA, jB, jC, Act.put, jD, jE, jF])
                    refine wpAnyH_ready (rs := [10]) (by kernel_rfl) (by simp) ?_
                    refine AllReadyH.cons rfl (fun K hK => ?_) AllReadyH.nil
                    rw [if_pos (by rfl)]
                    obtain ⟨i0, hi, hz0, hz1, hz2⟩ := info_parts info_u32
                    refine wp_append_sli (.tmp 70) (.tmp 73) 37 (by rfl) 25 i0 _ 1 4 Tryz.underlying37 hi hz0 hz1 hz2 (by rfl) (by decide) _ xA.length (num .u32 xA) FA (by rfl) BQ.out.sa ⟨n9, 0, none⟩ 1 [.int .u32 xn] (by rfl) (by rfl) (World.news_of_block BX9.out) (by simp [Value.oneCell']) (by unfold maxLen; omega) (by omega) ?_
                    intro v10 D39410 F10 S10 P10 H10
                    obtain ⟨xs10, cs10, hv10, _⟩ := S10.out.lies
                    subst hv10
                    refine hK.out _ _ ⟨P10.out.keeps hH.1 NA.out, (P10.out.cell (World.block_lt_of_cell? _ _ hH.2) NBA.out).trans hH.2⟩ (fun hH => ?_)
                    have BQ := hidd (BQ.out.atA S10.out P10.out H10.out)
                    clear hi hz0 hz1 hz2 hK K
                    (try simp only [jA, jB, jC, Act.put, jD, jE, jF])
                    refine wpAnyH_ready (rs := [12]) (by kernel_rfl) (by simp) ?_
                    refine AllReadyH.cons rfl (fun K hK => ?_) AllReadyH.nil
                    rw [if_pos (by rfl)]
                    have c0 : D39410.cell? ⟨bb, 0, none⟩ = some (.slice xi xI.length ci) := cell_of_block BQ.out.ct
                    have z0 := row_frozen BQ.out.ct 0
                    go_simp
                    have h1 := (heap_setCell_row BQ.out.ct (.slice xs4 (xI.length + 1) cs4) (k := 0))
                    refine hK.out _ _ ⟨(heap_setCell_other _ _ _ _ (ne_of hH.1 BQ.out.ct (by decide))).trans hH.1, cell_of_block h1⟩ (fun hH => ?_)
                    clear hK K c0 z0
                    (try simp only [jA, jB, jC, Act.put, jD, jE, jF])
                    refine wpAnyH_take (i := 13) (v := .pointer (some ⟨bb, 1, none⟩)) rfl (by kernel_rfl) (by kernel_rfl) (by kernel_rfl) (fun _ _ _ h => h) (.inl ⟨by rfl, by intro w hS; go_simp⟩) hH ?_
                    (try simp only [jA, jB, jC, Act.put, jD, jE, jF])
                    refine wpAnyH_ready (rs := [14]) (by kernel_rfl) (by simp) ?_
                    refine AllReadyH.cons rfl (fun K hK => ?_) AllReadyH.nil
                    rw [if_pos (by rfl)]
                    have c1 := cell_of_block (i := 1) h1
                    have z1 := row_frozen h1 1
                    go_simp
                    have h2 := (heap_setCell_row h1 (.slice xs10 (xA.length + 1) cs10) (k := 1))
                    refine hK.out _ _ ⟨(heap_setCell_other _ _ _ _ (ne_of hH.1 h1 (by decide))).trans hH.1, cell_of_block h2⟩ (fun hH => ?_)
                    clear hK K c1 z1
                    (try simp only [jA, jB, jC, Act.put, jD, jE, jF])
                    refine wpAnyH_done (by kernel_rfl) ?_ _
                    have GH := hidd hH.1
                    have H2 := hidd h2
                    clear hH h1 h2
                    go_wp2_with fail
                    go_meet
                    have fin := BQ.out.done (I' := xI ++ [(d0, (d1 : Int), (d2 : Int), d3)]) (A' := xA ++ [xn]) (((Put.refl D39410).setCell (by simp) _).setCell (by simp) _) H2.out (by simp [inss, inV]) (by simp) (by simp [num]) (by simp)
                    have l1 : xI.length + 1 = (xI ++ [(d0, (d1 : Int), (d2 : Int), d3)]).length := by simp
                    have l2 : xA.length + 1 = (xA ++ [xn]).length := by simp
                    rw [l1, l2] at fin
                    rw [l1, l2] at GH
                    rw [l1, l2]
                    exact ⟨xs4, cs4, xs10, cs10, _, _, fin, GH.out⟩
                  refine AllReadyH.cons rfl (fun K hK => ?_) AllReadyH.nil
                  rw [if_pos (by rfl)]
                  have c0 : D39.cell? ⟨bb, 1, none⟩ = some (.slice xa xA.length ca) := cell_of_block BQ.out.ct
                  go_simp
                  refine hK.out _ _ hH (fun hH => ?_)
                  clear hK K c0
                  (try simp only [jA, jB, jC, Act.put, jD, jE, jF])
                  refine wpAnyH_ready (rs := [4]) (by kernel_rfl) (by simp) ?_
                  refine AllReadyH.cons rfl (fun K hK => ?_) AllReadyH.nil
                  rw [if_pos (by rfl)]
                  obtain ⟨i0, hi, hz0, hz1, hz2⟩ := info_parts info_ins8
                  refine wp_append_sli (.tmp 65) (.tmp 67) 23 (by rfl) 53 i0 _ 4 8 Tryz.underlying23 hi hz0 hz1 hz2 (by rfl) (by decide) _ xI.length (inss xI) FI (by rfl) BQ.out.si ⟨n3, 0, none⟩ 1 (insA d0 d1 d2 d3).toList (by rfl) (by rfl) (World.news_of_block BX3.out) (by simp [Value.oneCell']) (by unfold maxLen; omega) (by omega) ?_
                  intro v4 D394 F4 S4 P4 H4
                  obtain ⟨xs4, cs4, hv4, _⟩ := S4.out.lies
                  subst hv4
                  have n1 : i1 ∉ FI := NI.out
                  refine hK.out _ _ ⟨P4.out.keeps hH.1 n1, (P4.out.cell (World.block_lt_of_cell? _ _ hH.2) NBI.out).trans hH.2⟩ (fun hH => ?_)
                  have BX9 := hidd (P4.out.keeps BX9.out (fun h => NX9.out _ h rfl))
                  have BQ := hidd (BQ.out.insA S4.out P4.out H4.out)
                  clear hi hz0 hz1 hz2 hK K
                  (try simp only [jA, jB, jC, Act.put, jD, jE, jF])
                  refine wpAnyH_take (i := 11) (v := .pointer (some ⟨bb, 0, none⟩)) rfl (by kernel_rfl) (by kernel_rfl) (by kernel_rfl) (fun _ _ _ h => h) (.inl ⟨by rfl, by intro w hS; go_simp⟩) hH ?_
                  (try simp only [jA, jB, jC, Act.put, jD, jE, jF])
                  refine wpAnyH_ready (rs := [10]) (by kernel_rfl) (by simp) ?_
                  refine AllReadyH.cons rfl (fun K hK => ?_) AllReadyH.nil
                  rw [if_pos (by rfl)]
                  obtain ⟨i0, hi, hz0, hz1, hz2⟩ := info_parts info_u32
                  refine wp_append_sli (.tmp 70) (.tmp 73) 37 (by rfl) 25 i0 _ 1 4 Tryz.underlying37 hi hz0 hz1 hz2 (by rfl) (by decide) _ xA.length (num .u32 xA) FA (by rfl) BQ.out.sa ⟨n9, 0, none⟩ 1 [.int .u32 xn] (by rfl) (by rfl) (World.news_of_block BX9.out) (by simp [Value.oneCell']) (by unfold maxLen; omega) (by omega) ?_
                  intro v10 D39410 F10 S10 P10 H10
                  obtain ⟨xs10, cs10, hv10, _⟩ := S10.out.lies
                  subst hv10
                  refine hK.out _ _ ⟨P10.out.keeps hH.1 NA.out, (P10.out.cell (World.block_lt_of_cell? _ _ hH.2) NBA.out).trans hH.2⟩ (fun hH => ?_)
                  have BQ := hidd (BQ.out.atA S10.out P10.out H10.out)
                  clear hi hz0 hz1 hz2 hK K
                  (try simp only [jA, jB, jC, Act.put, jD, jE, jF])
                  refine wpAnyH_ready (rs := [12]) (by kernel_rfl) (by simp) ?_
                  refine AllReadyH.cons rfl (fun K hK => ?_) AllReadyH.nil
                  rw [if_pos (by rfl)]
                  have c0 : D39410.cell? ⟨bb, 0, none⟩ = some (.slice xi xI.length ci) := cell_of_block BQ.out.ct
                  have z0 := row_frozen BQ.out.ct 0
                  go_simp
                  have h1 := (heap_setCell_row BQ.out.ct (.slice xs4 (xI.length + 1) cs4) (k := 0))
                  refine hK.out _ _ ⟨(heap_setCell_other _ _ _ _ (ne_of hH.1 BQ.out.ct (by decide))).trans hH.1, cell_of_block h1⟩ (fun hH => ?_)
                  clear hK K c0 z0
                  (try simp only [jA, jB, jC, Act.put, jD, jE, jF])
                  refine wpAnyH_take (i := 13) (v := .pointer (some ⟨bb, 1, none⟩)) rfl (by kernel_rfl) (by kernel_rfl) (by kernel_rfl) (fun _ _ _ h => h) (.inl ⟨by rfl, by intro w hS; go_simp⟩) hH ?_
                  (try simp only [jA, jB, jC, Act.put, jD, jE, jF])
                  refine wpAnyH_ready (rs := [14]) (by kernel_rfl) (by simp) ?_
                  refine AllReadyH.cons rfl (fun K hK => ?_) AllReadyH.nil
                  rw [if_pos (by rfl)]
                  have c1 := cell_of_block (i := 1) h1
                  have z1 := row_frozen h1 1
                  go_simp
                  have h2 := (heap_setCell_row h1 (.slice xs10 (xA.length + 1) cs10) (k := 1))
                  refine hK.out _ _ ⟨(heap_setCell_other _ _ _ _ (ne_of hH.1 h1 (by decide))).trans hH.1, cell_of_block h2⟩ (fun hH => ?_)
                  clear hK K c1 z1
                  (try simp only [jA, jB, jC, Act.put, jD, jE, jF])
                  refine wpAnyH_done (by kernel_rfl) ?_ _
                  have GH := hidd hH.1
                  have H2 := hidd h2
                  clear hH h1 h2
                  go_wp2_with fail
                  go_meet
                  have fin := BQ.out.done (I' := xI ++ [(d0, (d1 : Int), (d2 : Int), d3)]) (A' := xA ++ [xn]) (((Put.refl D39410).setCell (by simp) _).setCell (by simp) _) H2.out (by simp [inss, inV]) (by simp) (by simp [num]) (by simp)
                  have l1 : xI.length + 1 = (xI ++ [(d0, (d1 : Int), (d2 : Int), d3)]).length := by simp
                  have l2 : xA.length + 1 = (xA ++ [xn]).length := by simp
                  rw [l1, l2] at fin
                  rw [l1, l2] at GH
                  rw [l1, l2]
                  exact ⟨xs4, cs4, xs10, cs10, _, _, fin, GH.out⟩
                refine AllReadyH.cons rfl (fun K hK => ?_) ?_
                · skip
                  rw [if_pos (by rfl)]
                  have c0 : D3.cell? ⟨bb, 1, none⟩ = some (.slice xa xA.length ca) := cell_of_block BQ.out.ct
                  go_simp
                  refine hK.out _ _ hH (fun hH => ?_)
                  clear hK K c0
                  (try simp only [jA, jB, jC, Act.put, jD, jE, jF])
                  refine wpAnyH_ready (rs := [1, 9]) (by kernel_rfl) (by simp) ?_
                  refine AllReadyH.cons rfl (fun K hK => ?_) ?_
                  · skip
                    rw [if_pos (by rfl)]
                    have c0 : D3.cell? ⟨bb, 0, none⟩ = some (.slice xi xI.length ci) := cell_of_block BQ.out.ct
                    go_simp
                    refine hK.out _ _ hH (fun hH => ?_)
                    clear hK K c0
                    (try simp only [jA, jB, jC, Act.put, jD, jE, jF])
                    refine wpAnyH_ready (rs := [4, 9]) (by kernel_rfl) (by simp) ?_
                    refine AllReadyH.cons rfl (fun K hK => ?_) ?_
                    · skip
                      rw [if_pos (by rfl)]
                      obtain ⟨i0, hi, hz0, hz1, hz2⟩ := info_parts info_ins8
                      refine wp_append_sli (.tmp 65) (.tmp 67) 23 (by rfl) 53 i0 _ 4 8 Tryz.underlying23 hi hz0 hz1 hz2 (by rfl) (by decide) _ xI.length (inss xI) FI (by rfl) BQ.out.si ⟨n3, 0, none⟩ 1 (insA d0 d1 d2 d3).toList (by rfl) (by rfl) (World.news_of_block BX3.out) (by simp [Value.oneCell']) (by unfold maxLen; omega) (by omega) ?_
                      intro v4 D34 F4 S4 P4 H4
                      obtain ⟨xs4, cs4, hv4, _⟩ := S4.out.lies
                      subst hv4
                      have n1 : i1 ∉ FI := NI.out
                      refine hK.out _ _ ⟨P4.out.keeps hH.1 n1, (P4.out.cell (World.block_lt_of_cell? _ _ hH.2) NBI.out).trans hH.2⟩ (fun hH => ?_)
                      have BQ := hidd (BQ.out.insA S4.out P4.out H4.out)
                      clear hi hz0 hz1 hz2 hK K
                      (try simp only [jA, jB, jC, Act.put, jD, jE, jF])
                      refine wpAnyH_take (i := 11) (v := .pointer (some ⟨bb, 0, none⟩)) rfl (by kernel_rfl) (by kernel_rfl) (by kernel_rfl) (fun _ _ _ h => h) (.inl ⟨by rfl, by intro w hS; go_simp⟩) hH ?_
                      (try simp only [jA, jB, jC, Act.put, jD, jE, jF])
                      refine wpAnyH_ready (rs := [9]) (by kernel_rfl) (by simp) ?_
                      refine AllReadyH.cons rfl (fun K hK => ?_) AllReadyH.nil
                      rw [if_pos (by rfl)]
                      go_simp
                      obtain ⟨D349, eD349⟩ : ∃ V, Hid (D34.alloc (.cells #[.int .u32 xn] 25) = V) := ⟨_, rfl⟩
                      obtain ⟨n9, en9⟩ : ∃ x, Hid (x = D34.heap.size) := ⟨_, rfl⟩
                      rw [eD349.out, ← en9.out]
                      have kk : Kep D34 D349 := by rw [← eD349.out]; exact (Kep.refl _).alloc _
                      have BX9 : Hid (D349.heap[n9]? = some (.cells #[.int .u32 xn] 25 (0, 0))) := by rw [← eD349.out, en9.out]; exact hat _ _ _ rfl
                      have NX9 : Hid (∀ c ∈ F4, c ≠ n9) := fun c hc => by have := BQ.out.si.lt c hc; have := en9.out; omega
                      have BQ := hidd (BQ.out.kep kk)
                      refine hK.out _ _ ⟨kk.block hH.1, (kk.cell (World.block_lt_of_cell? _ _ hH.2)).trans hH.2⟩ (fun hH => ?_)
                      clear hK K kk
                      (try simp only [jA, jB, jC, Act.put, jD, jE, jF])
                      refine wpAnyH_ready (rs := [10]) (by kernel_rfl) (by simp) ?_
                      refine AllReadyH.cons rfl (fun K hK => ?_) AllReadyH.nil
                      rw [if_pos (by rfl)]
                      obtain ⟨i0, hi, hz0, hz1, hz2⟩ := info_parts info_u32
                      refine wp_append_sli (.tmp 70) (.tmp 73) 37 (by rfl) 25 i0 _ 1 4 Tryz.underlying37 hi hz0 hz1 hz2 (by rfl) (by decide) _ xA.length (num .u32 xA) FA (by rfl) BQ.out.sa ⟨n9, 0, none⟩ 1 [.int .u32 xn] (by rfl) (by rfl) (World.news_of_block BX9.out) (by simp [Value.oneCell']) (by unfold maxLen; omega) (by omega) ?_
                      intro v10 D34910 F10 S10 P10 H10
                      obtain ⟨xs10, cs10, hv10, _⟩ := S10.out.lies
                      subst hv10
                      refine hK.out _ _ ⟨P10.out.keeps hH.1 NA.out, (P10.out.cell (World.block_lt_of_cell? _ _ hH.2) NBA.out).trans hH.2⟩ (fun hH => ?_)
                      have BQ := hidd (BQ.out.atA S10.out P10.out H10.out)
                      clear hi hz0 hz1 hz2 hK K
                      (try simp only [jA, jB, jC, Act.put, jD, jE, jF])
                      refine wpAnyH_ready (rs := [12]) (by kernel_rfl) (by simp) ?_
                      refine AllReadyH.cons rfl (fun K hK => ?_) AllReadyH.nil
                      rw [if_pos (by rfl)]
                      have c0 : D34910.cell? ⟨bb, 0, none⟩ = some (.slice xi xI.length ci) := cell_of_block BQ.out.ct
                      have z0 := row_frozen BQ.out.ct 0
                      go_simp
                      have h1 := (heap_setCell_row BQ.out.ct (.slice xs4 (xI.length + 1) cs4) (k := 0))
                      refine hK.out _ _ ⟨(heap_setCell_other _ _ _ _ (ne_of hH.1 BQ.out.ct (by decide))).trans hH.1, cell_of_block h1⟩ (fun hH => ?_)
                      clear hK K c0 z0
                      (try simp only [jA, jB, jC, Act.put, jD, jE, jF])
                      refine wpAnyH_take (i := 13) (v := .pointer (some ⟨bb, 1, none⟩)) rfl (by kernel_rfl) (by kernel_rfl) (by kernel_rfl) (fun _ _ _ h => h) (.inl ⟨by rfl, by intro w hS; go_simp⟩) hH ?_
                      (try simp only [jA, jB, jC, Act.put, jD, jE, jF])
                      refine wpAnyH_ready (rs := [14]) (by kernel_rfl) (by simp) ?_
                      refine AllReadyH.cons rfl (fun K hK => ?_) AllReadyH.nil
                      rw [if_pos (by rfl)]
                      have c1 := cell_of_block (i := 1) h1
                      have z1 := row_frozen h1 1
                      go_simp
                      have h2 := (heap_setCell_row h1 (.slice xs10 (xA.length + 1) cs10) (k := 1))
                      refine hK.out _ _ ⟨(heap_setCell_other _ _ _ _ (ne_of hH.1 h1 (by decide))).trans hH.1, cell_of_block h2⟩ (fun hH => ?_)
                      clear hK K c1 z1
                      (try simp only [jA, jB, jC, Act.put, jD, jE, jF])
                      refine wpAnyH_done (by kernel_rfl) ?_ _
                      have GH := hidd hH.1
                      have H2 := hidd h2
                      clear hH h1 h2
                      go_wp2_with fail
                      go_meet
                      have fin := BQ.out.done (I' := xI ++ [(d0, (d1 : Int), (d2 : Int), d3)]) (A' := xA ++ [xn]) (((Put.refl D34910).setCell (by simp) _).setCell (by simp) _) H2.out (by simp [inss, inV]) (by simp) (by simp [num]) (by simp)
                      have l1 : xI.length + 1 = (xI ++ [(d0, (d1 : Int), (d2 : Int), d3)]).length := by simp
                      have l2 : xA.length + 1 = (xA ++ [xn]).length := by simp
                      rw [l1, l2] at fin
                      rw [l1, l2] at GH
                      rw [l1, l2]
                      exact ⟨xs4, cs4, xs10, cs10, _, _, fin, GH.out⟩
                    refine AllReadyH.cons rfl (fun K hK => ?_) AllReadyH.nil
                    rw [if_pos (by rfl)]
                    go_simp
                    obtain ⟨D39, eD39⟩ : ∃ V, Hid (D3.alloc (.cells #[.int .u32 xn] 25) = V) := ⟨_, rfl⟩
                    obtain ⟨n9, en9⟩ : ∃ x, Hid (x = D3.heap.size) := ⟨_, rfl⟩
                    rw [eD39.out, ← en9.out]
                    have kk : Kep D3 D39 := by rw [← eD39.out]; exact (Kep.refl _).alloc _
                    have BX9 : Hid (D39.heap[n9]? = some (.cells #[.int .u32 xn] 25 (0, 0))) := by rw [← eD39.out, en9.out]; exact hat _ _ _ rfl
                    have NX9 : Hid (∀ c ∈ FI, c ≠ n9) := fun c hc => by have := BQ.out.si.lt c hc; have := en9.out; omega
                    have BQ := hidd (BQ.out.kep kk)
                    refine hK.out _ _ ⟨kk.block hH.1, (kk.cell (World.block_lt_of_cell? _ _ hH.2)).trans hH.2⟩ (fun hH => ?_)
                    have BX3 := hidd (kk.block BX3.out)
                    clear hK K kk
                    (try simp only [jA, jB, jC, Act.put, jD, jE, jF])
                    refine wpAnyH_ready (rs := [4]) (by kernel_rfl) (by simp) ?_
                    refine AllReadyH.cons rfl (fun K hK => ?_) AllReadyH.nil
                    rw [if_pos (by rfl)]
                    obtain ⟨i0, hi, hz0, hz1, hz2⟩ := info_parts info_ins8
                    refine wp_append_sli (.tmp 65) (.tmp 67) 23 (by rfl) 53 i0 _ 4 8 Tryz.underlying23 hi hz0 hz1 hz2 (by rfl) (by decide) _ xI.length (inss xI) FI (by rfl) BQ.out.si ⟨n3, 0, none⟩ 1 (insA d0 d1 d2 d3).toList (by rfl) (by rfl) (World.news_of_block BX3.out) (by simp [Value.oneCell']) (by unfold maxLen; omega) (by omega) ?_
                    intro v4 D394 F4 S4 P4 H4
                    obtain ⟨xs4, cs4, hv4, _⟩ := S4.out.lies
                    subst hv4
                    have n1 : i1 ∉ FI := NI.out
                    refine hK.out _ _ ⟨P4.out.keeps hH.1 n1, (P4.out.cell (World.block_lt_of_cell? _ _ hH.2) NBI.out).trans hH.2⟩ (fun hH => ?_)
                    have BX9 := hidd (P4.out.keeps BX9.out (fun h => NX9.out _ h rfl))
                    have BQ := hidd (BQ.out.insA S4.out P4.out H4.out)
                    clear hi hz0 hz1 hz2 hK K
                    (try simp only [jA, jB, jC, Act.put, jD, jE, jF])
                    refine wpAnyH_take (i := 11) (v := .pointer (some ⟨bb, 0, none⟩)) rfl (by kernel_rfl) (by kernel_rfl) (by kernel_rfl) (fun _ _ _ h => h) (.inl ⟨by rfl, by intro w hS; go_simp⟩) hH ?_
                    (try simp only [jA, jB, jC, Act.put, jD, jE, jF])
                    refine wpAnyH_ready (rs := [10]) (by kernel_rfl) (by simp) ?_
                    refine AllReadyH.cons rfl (fun K hK => ?_) AllReadyH.nil
                    rw [if_pos (by rfl)]
                    obtain ⟨i0, hi, hz0, hz1, hz2⟩ := info_parts info_u32
                    refine wp_append_sli (.tmp 70) (.tmp 73) 37 (by rfl) 25 i0 _ 1 4 Tryz.underlying37 hi hz0 hz1 hz2 (by rfl) (by decide) _ xA.length (num .u32 xA) FA (by rfl) BQ.out.sa ⟨n9, 0, none⟩ 1 [.int .u32 xn] (by rfl) (by rfl) (World.news_of_block BX9.out) (by simp [Value.oneCell']) (by unfold maxLen; omega) (by omega) ?_
                    intro v10 D39410 F10 S10 P10 H10
                    obtain ⟨xs10, cs10, hv10, _⟩ := S10.out.lies
                    subst hv10
                    refine hK.out _ _ ⟨P10.out.keeps hH.1 NA.out, (P10.out.cell (World.block_lt_of_cell? _ _ hH.2) NBA.out).trans hH.2⟩ (fun hH => ?_)
                    have BQ := hidd (BQ.out.atA S10.out P10.out H10.out)
                    clear hi hz0 hz1 hz2 hK K
                    (try simp only [jA, jB, jC, Act.put, jD, jE, jF])
                    refine wpAnyH_ready (rs := [12]) (by kernel_rfl) (by simp) ?_
                    refine AllReadyH.cons rfl (fun K hK => ?_) AllReadyH.nil
                    rw [if_pos (by rfl)]
                    have c0 : D39410.cell? ⟨bb, 0, none⟩ = some (.slice xi xI.length ci) := cell_of_block BQ.out.ct
                    have z0 := row_frozen BQ.out.ct 0
                    go_simp
                    have h1 := (heap_setCell_row BQ.out.ct (.slice xs4 (xI.length + 1) cs4) (k := 0))
                    refine hK.out _ _ ⟨(heap_setCell_other _ _ _ _ (ne_of hH.1 BQ.out.ct (by decide))).trans hH.1, cell_of_block h1⟩ (fun hH => ?_)
                    clear hK K c0 z0
                    (try simp only [jA, jB, jC, Act.put, jD, jE, jF])
                    refine wpAnyH_take (i := 13) (v := .pointer (some ⟨bb, 1, none⟩)) rfl (by kernel_rfl) (by kernel_rfl) (by kernel_rfl) (fun _ _ _ h => h) (.inl ⟨by rfl, by intro w hS; go_simp⟩) hH ?_
                    (try simp only [jA, jB, jC, Act.put, jD, jE, jF])
                    refine wpAnyH_ready (rs := [14]) (by kernel_rfl) (by simp) ?_
                    refine AllReadyH.cons rfl (fun K hK => ?_) AllReadyH.nil
                    rw [if_pos (by rfl)]
                    have c1 := cell_of_block (i := 1) h1
                    have z1 := row_frozen h1 1
                    go_simp
                    have h2 := (heap_setCell_row h1 (.slice xs10 (xA.length + 1) cs10) (k := 1))
                    refine hK.out _ _ ⟨(heap_setCell_other _ _ _ _ (ne_of hH.1 h1 (by decide))).trans hH.1, cell_of_block h2⟩ (fun hH => ?_)
                    clear hK K c1 z1
                    (try simp only [jA, jB, jC, Act.put, jD, jE, jF])
                    refine wpAnyH_done (by kernel_rfl) ?_ _
                    have GH := hidd hH.1
                    have H2 := hidd h2
                    clear hH h1 h2
                    go_wp2_with fail
                    go_meet
                    have fin := BQ.out.done (I' := xI ++ [(d0, (d1 : Int), (d2 : Int), d3)]) (A' := xA ++ [xn]) (((Put.refl D39410).setCell (by simp) _).setCell (by simp) _) H2.out (by simp [inss, inV]) (by simp) (by simp [num]) (by simp)
                    have l1 : xI.length + 1 = (xI ++ [(d0, (d1 : Int), (d2 : Int), d3)]).length := by simp
                    have l2 : xA.length + 1 = (xA ++ [xn]).length := by simp
                    rw [l1, l2] at fin
                    rw [l1, l2] at GH
                    rw [l1, l2]
                    exact ⟨xs4, cs4, xs10, cs10, _, _, fin, GH.out⟩
                  refine AllReadyH.cons rfl (fun K hK => ?_) AllReadyH.nil
                  rw [if_pos (by rfl)]
                  go_simp
                  obtain ⟨D39, eD39⟩ : ∃ V, Hid (D3.alloc (.cells #[.int .u32 xn] 25) = V) := ⟨_, rfl⟩
                  obtain ⟨n9, en9⟩ : ∃ x, Hid (x = D3.heap.size) := ⟨_, rfl⟩
                  rw [eD39.out, ← en9.out]
                  have kk : Kep D3 D39 := by rw [← eD39.out]; exact (Kep.refl _).alloc _
                  have BX9 : Hid (D39.heap[n9]? = some (.cells #[.int .u32 xn] 25 (0, 0))) := by rw [← eD39.out, en9.out]; exact hat _ _ _ rfl
                  have NX9 : Hid (∀ c ∈ FI, c ≠ n9) := fun c hc => by have := BQ.out.si.lt c hc; have := en9.out; omega
                  have BQ := hidd (BQ.out.kep kk)
                  refine hK.out _ _ ⟨kk.block hH.1, (kk.cell (World.block_lt_of_cell? _ _ hH.2)).trans hH.2⟩ (fun hH => ?_)
                  have BX3 := hidd (kk.block BX3.out)
                  clear hK K kk
                  (try simp only [jA, jB, jC, Act.put, jD, jE, jF])
                  refine wpAnyH_ready (rs := [1]) (by kernel_rfl) (by simp) ?_
                  refine AllReadyH.cons rfl (fun K hK => ?_) AllReadyH.nil
                  rw [if_pos (by rfl)]
                  have c0 : D39.cell? ⟨bb, 0, none⟩ = some (.slice xi xI.length ci) := cell_of_block BQ.out.ct
                  go_simp
                  refine hK.out _ _ hH (fun hH => ?_)
                  clear hK K c0
                  (try simp only [jA, jB, jC, Act.put, jD, jE, jF])
                  refine wpAnyH_ready (rs := [4]) (by kernel_rfl) (by simp) ?_
                  refine AllReadyH.cons rfl (fun K hK => ?_) AllReadyH.nil
                  rw [if_pos (by rfl)]
                  obtain ⟨i0, hi, hz0, hz1, hz2⟩ := info_parts info_ins8
                  refine wp_append_sli (.tmp 65) (.tmp 67) 23 (by rfl) 53 i0 _ 4 8 Tryz.underlying23 hi hz0 hz1 hz2 (by rfl) (by decide) _ xI.length (inss xI) FI (by rfl) BQ.out.si ⟨n3, 0, none⟩ 1 (insA d0 d1 d2 d3).toList (by rfl) (by rfl) (World.news_of_block BX3.out) (by simp [Value.oneCell']) (by unfold maxLen; omega) (by omega) ?_
                  intro v4 D394 F4 S4 P4 H4
                  obtain ⟨xs4, cs4, hv4, _⟩ := S4.out.lies
                  subst hv4
                  have n1 : i1 ∉ FI := NI.out
                  refine hK.out _ _ ⟨P4.out.keeps hH.1 n1, (P4.out.cell (World.block_lt_of_cell? _ _ hH.2) NBI.out).trans hH.2⟩ (fun hH => ?_)
                  have BX9 := hidd (P4.out.keeps BX9.out (fun h => NX9.out _ h rfl))
                  have BQ := hidd (BQ.out.insA S4.out P4.out H4.out)
                  clear hi hz0 hz1 hz2 hK K
                  (try simp only [jA, jB, jC, Act.put, jD, jE, jF])
                  refine wpAnyH_take (i := 11) (v := .pointer (some ⟨bb, 0, none⟩)) rfl (by kernel_rfl) (by kernel_rfl) (by kernel_rfl) (fun _ _ _ h => h) (.inl ⟨by rfl, by intro w hS; go_simp⟩) hH ?_
                  (try simp only [jA, jB, jC, Act.put, jD, jE, jF])
                  refine wpAnyH_ready (rs := [10]) (by kernel_rfl) (by simp) ?_
                  refine AllReadyH.cons rfl (fun K hK => ?_) AllReadyH.nil
                  rw [if_pos (by rfl)]
                  obtain ⟨i0, hi, hz0, hz1, hz2⟩ := info_parts info_u32
                  refine wp_append_sli (.tmp 70) (.tmp 73) 37 (by rfl) 25 i0 _ 1 4 Tryz.underlying37 hi hz0 hz1 hz2 (by rfl) (by decide) _ xA.length (num .u32 xA) FA (by rfl) BQ.out.sa ⟨n9, 0, none⟩ 1 [.int .u32 xn] (by rfl) (by rfl) (World.news_of_block BX9.out) (by simp [Value.oneCell']) (by unfold maxLen; omega) (by omega) ?_
                  intro v10 D39410 F10 S10 P10 H10
                  obtain ⟨xs10, cs10, hv10, _⟩ := S10.out.lies
                  subst hv10
                  refine hK.out _ _ ⟨P10.out.keeps hH.1 NA.out, (P10.out.cell (World.block_lt_of_cell? _ _ hH.2) NBA.out).trans hH.2⟩ (fun hH => ?_)
                  have BQ := hidd (BQ.out.atA S10.out P10.out H10.out)
                  clear hi hz0 hz1 hz2 hK K
                  (try simp only [jA, jB, jC, Act.put, jD, jE, jF])
                  refine wpAnyH_ready (rs := [12]) (by kernel_rfl) (by simp) ?_
                  refine AllReadyH.cons rfl (fun K hK => ?_) AllReadyH.nil
                  rw [if_pos (by rfl)]
                  have c0 : D39410.cell? ⟨bb, 0, none⟩ = some (.slice xi xI.length ci) := cell_of_block BQ.out.ct
                  have z0 := row_frozen BQ.out.ct 0
                  go_simp
                  have h1 := (heap_setCell_row BQ.out.ct (.slice xs4 (xI.length + 1) cs4) (k := 0))
                  refine hK.out _ _ ⟨(heap_setCell_other _ _ _ _ (ne_of hH.1 BQ.out.ct (by decide))).trans hH.1, cell_of_block h1⟩ (fun hH => ?_)
                  clear hK K c0 z0
                  (try simp only [jA, jB, jC, Act.put, jD, jE, jF])
                  refine wpAnyH_take (i := 13) (v := .pointer (some ⟨bb, 1, none⟩)) rfl (by kernel_rfl) (by kernel_rfl) (by kernel_rfl) (fun _ _ _ h => h) (.inl ⟨by rfl, by intro w hS; go_simp⟩) hH ?_
                  (try simp only [jA, jB, jC, Act.put, jD, jE, jF])
                  refine wpAnyH_ready (rs := [14]) (by kernel_rfl) (by simp) ?_
                  refine AllReadyH.cons rfl (fun K hK => ?_) AllReadyH.nil
                  rw [if_pos (by rfl)]
                  have c1 := cell_of_block (i := 1) h1
                  have z1 := row_frozen h1 1
                  go_simp
                  have h2 := (heap_setCell_row h1 (.slice xs10 (xA.length + 1) cs10) (k := 1))
                  refine hK.out _ _ ⟨(heap_setCell_other _ _ _ _ (ne_of hH.1 h1 (by decide))).trans hH.1, cell_of_block h2⟩ (fun hH => ?_)
                  clear hK K c1 z1
                  (try simp only [jA, jB, jC, Act.put, jD, jE, jF])
                  refine wpAnyH_done (by kernel_rfl) ?_ _
                  have GH := hidd hH.1
                  have H2 := hidd h2
                  clear hH h1 h2
                  go_wp2_with fail
                  go_meet
                  have fin := BQ.out.done (I' := xI ++ [(d0, (d1 : Int), (d2 : Int), d3)]) (A' := xA ++ [xn]) (((Put.refl D39410).setCell (by simp) _).setCell (by simp) _) H2.out (by simp [inss, inV]) (by simp) (by simp [num]) (by simp)
                  have l1 : xI.length + 1 = (xI ++ [(d0, (d1 : Int), (d2 : Int), d3)]).length := by simp
                  have l2 : xA.length + 1 = (xA ++ [xn]).length := by simp
                  rw [l1, l2] at fin
                  rw [l1, l2] at GH
                  rw [l1, l2]
                  exact ⟨xs4, cs4, xs10, cs10, _, _, fin, GH.out⟩
                refine AllReadyH.cons rfl (fun K hK => ?_) AllReadyH.nil
                rw [if_pos (by rfl)]
                go_simp
                obtain ⟨D39, eD39⟩ : ∃ V, Hid (D3.alloc (.cells #[.int .u32 xn] 25) = V) := ⟨_, rfl⟩
                obtain ⟨n9, en9⟩ : ∃ x, Hid (x = D3.heap.size) := ⟨_, rfl⟩
                rw [eD39.out, ← en9.out]
                have kk : Kep D3 D39 := by rw [← eD39.out]; exact (Kep.refl _).alloc _
                have BX9 : Hid (D39.heap[n9]? = some (.cells #[.int .u32 xn] 25 (0, 0))) := by rw [← eD39.out, en9.out]; exact hat _ _ _ rfl
                have NX9 : Hid (∀ c ∈ FI, c ≠ n9) := fun c hc => by have := BQ.out.si.lt c hc; have := en9.out; omega
                have BQ := hidd (BQ.out.kep kk)
                refine hK.out _ _ ⟨kk.block hH.1, (kk.cell (World.block_lt_of_cell? _ _ hH.2)).trans hH.2⟩ (fun hH => ?_)
                have BX3 := hidd (kk.block BX3.out)
                clear hK K kk
                (try simp only [jA, jB, jC, Act.put, jD, jE, jF])
                refine wpAnyH_ready (rs := [1, 6]) (by kernel_rfl) (by simp) ?_
                refine AllReadyH.cons rfl (fun K hK => ?_) ?_
                · skip
                  rw [if_pos (by rfl)]
                  have c0 : D39.cell? ⟨bb, 0, none⟩ = some (.slice xi xI.length ci) := cell_of_block BQ.out.ct
                  go_simp
                  refine hK.out _ _ hH (fun hH => ?_)
                  clear hK K c0
                  (try simp only [jA, jB, jC, Act.put, jD, jE, jF])
                  refine wpAnyH_ready (rs := [4, 6]) (by kernel_rfl) (by simp) ?_
                  refine AllReadyH.cons rfl (fun K hK => ?_) ?_
                  · skip
                    rw [if_pos (by rfl)]
                    obtain ⟨i0, hi, hz0, hz1, hz2⟩ := info_parts info_ins8
                    refine wp_append_sli (.tmp 65) (.tmp 67) 23 (by rfl) 53 i0 _ 4 8 Tryz.underlying23 hi hz0 hz1 hz2 (by rfl) (by decide) _ xI.length (inss xI) FI (by rfl) BQ.out.si ⟨n3, 0, none⟩ 1 (insA d0 d1 d2 d3).toList (by rfl) (by rfl) (World.news_of_block BX3.out) (by simp [Value.oneCell']) (by unfold maxLen; omega) (by omega) ?_
                    intro v4 D394 F4 S4 P4 H4
                    obtain ⟨xs4, cs4, hv4, _⟩ := S4.out.lies
                    subst hv4
                    have n1 : i1 ∉ FI := NI.out
                    refine hK.out _ _ ⟨P4.out.keeps hH.1 n1, (P4.out.cell (World.block_lt_of_cell? _ _ hH.2) NBI.out).trans hH.2⟩ (fun hH => ?_)
                    have BX9 := hidd (P4.out.keeps BX9.out (fun h => NX9.out _ h rfl))
                    have BQ := hidd (BQ.out.insA S4.out P4.out H4.out)
                    clear hi hz0 hz1 hz2 hK K
                    (try simp only [jA, jB, jC, Act.put, jD, jE, jF])
                    refine wpAnyH_ready (rs := [6]) (by kernel_rfl) (by simp) ?_
                    refine AllReadyH.cons rfl (fun K hK => ?_) AllReadyH.nil
                    rw [if_pos (by rfl)]
                    have c0 : D394.cell? ⟨bb, 1, none⟩ = some (.slice xa xA.length ca) := cell_of_block BQ.out.ct
                    go_simp
                    refine hK.out _ _ hH (fun hH => ?_)
                    clear hK K c0
                    (try simp only [jA, jB, jC, Act.put, jD, jE, jF])
                    refine wpAnyH_take (i := 11) (v := .pointer (some ⟨bb, 0, none⟩)) rfl (by kernel_rfl) (by kernel_rfl) (by kernel_rfl) (fun _ _ _ h => h) (.inl ⟨by rfl, by intro w hS; go_simp⟩) hH ?_
                    (try simp only [jA, jB, jC, Act.put, jD, jE, jF])
                    refine wpAnyH_ready (rs := [10]) (by kernel_rfl) (by simp) ?_
                    refine AllReadyH.cons rfl (fun K hK => ?_) AllReadyH.nil
                    rw [if_pos (by rfl)]
                    obtain ⟨i0, hi, hz0, hz1, hz2⟩ := info_parts info_u32
                    refine wp_append_sli (.tmp 70) (.tmp 73) 37 (by rfl) 25 i0 _ 1 4 Tryz.underlying37 hi hz0 hz1 hz2 (by rfl) (by decide) _ xA.length (num .u32 xA) FA (by rfl) BQ.out.sa ⟨n9, 0, none⟩ 1 [.int .u32 xn] (by rfl) (by rfl) (World.news_of_block BX9.out) (by simp [Value.oneCell']) (by unfold maxLen; omega) (by omega) ?_
                    intro v10 D39410 F10 S10 P10 H10
                    obtain ⟨xs10, cs10, hv10, _⟩ := S10.out.lies
                    subst hv10
                    refine hK.out _ _ ⟨P10.out.keeps hH.1 NA.out, (P10.out.cell (World.block_lt_of_cell? _ _ hH.2) NBA.out).trans hH.2⟩ (fun hH => ?_)
                    have BQ := hidd (BQ.out.atA S10.out P10.out H10.out)
                    clear hi hz0 hz1 hz2 hK K
                    (try simp only [jA, jB, jC, Act.put, jD, jE, jF])
                    refine wpAnyH_ready (rs := [12]) (by kernel_rfl) (by simp) ?_
                    refine AllReadyH.cons rfl (fun K hK => ?_) AllReadyH.nil
                    rw [if_pos (by rfl)]
                    have c0 : D39410.cell? ⟨bb, 0, none⟩ = some (.slice xi xI.length ci) := cell_of_block BQ.out.ct
                    have z0 := row_frozen BQ.out.ct 0
                    go_simp
                    have h1 := (heap_setCell_row BQ.out.ct (.slice xs4 (xI.length + 1) cs4) (k := 0))
                    refine hK.out _ _ ⟨(heap_setCell_other _ _ _ _ (ne_of hH.1 BQ.out.ct (by decide))).trans hH.1, cell_of_block h1⟩ (fun hH => ?_)
                    clear hK K c0 z0
                    (try simp only [jA, jB, jC, Act.put, jD, jE, jF])
                    refine wpAnyH_take (i := 13) (v := .pointer (some ⟨bb, 1, none⟩)) rfl (by kernel_rfl) (by kernel_rfl) (by kernel_rfl) (fun _ _ _ h => h) (.inl ⟨by rfl, by intro w hS; go_simp⟩) hH ?_
                    (try simp only [jA, jB, jC, Act.put, jD, jE, jF])
                    refine wpAnyH_ready (rs := [14]) (by kernel_rfl) (by simp) ?_
                    refine AllReadyH.cons rfl (fun K hK => ?_) AllReadyH.nil
                    rw [if_pos (by rfl)]
                    have c1 := cell_of_block (i := 1) h1
                    have z1 := row_frozen h1 1
                    go_simp
                    have h2 := (heap_setCell_row h1 (.slice xs10 (xA.length + 1) cs10) (k := 1))
                    refine hK.out _ _ ⟨(heap_setCell_other _ _ _ _ (ne_of hH.1 h1 (by decide))).trans hH.1, cell_of_block h2⟩ (fun hH => ?_)
                    clear hK K c1 z1
                    (try simp only [jA, jB, jC, Act.put, jD, jE, jF])
                    refine wpAnyH_done (by kernel_rfl) ?_ _
                    have GH := hidd hH.1
                    have H2 := hidd h2
                    clear hH h1 h2
                    go_wp2_with fail
                    go_meet
                    have fin := BQ.out.done (I' := xI ++ [(d0, (d1 : Int), (d2 : Int), d3)]) (A' := xA ++ [xn]) (((Put.refl D39410).setCell (by simp) _).setCell (by simp) _) H2.out (by simp [inss, inV]) (by simp) (by simp [num]) (by simp)
                    have l1 : xI.length + 1 = (xI ++ [(d0, (d1 : Int), (d2 : Int), d3)]).length := by simp
                    have l2 : xA.length + 1 = (xA ++ [xn]).length := by simp
                    rw [l1, l2] at fin
                    rw [l1, l2] at GH
                    rw [l1, l2]
                    exact ⟨xs4, cs4, xs10, cs10, _, _, fin, GH.out⟩
                  refine AllReadyH.cons rfl (fun K hK => ?_) AllReadyH.nil
                  rw [if_pos (by rfl)]
                  have c0 : D39.cell? ⟨bb, 1, none⟩ = some (.slice xa xA.length ca) := cell_of_block BQ.out.ct
                  go_simp
                  refine hK.out _ _ hH (fun hH => ?_)
                  clear hK K c0
                  (try simp only [jA, jB, jC, Act.put, jD, jE, jF])
                  refine wpAnyH_ready (rs := [4]) (by kernel_rfl) (by simp) ?_
                  refine AllReadyH.cons rfl (fun K hK => ?_) AllReadyH.nil
                  rw [if_pos (by rfl)]
                  obtain ⟨i0, hi, hz0, hz1, hz2⟩ := info_parts info_ins8
                  refine wp_append_sli (.tmp 65) (.tmp 67) 23 (by rfl) 53 i0 _ 4 8 Tryz.underlying23 hi hz0 hz1 hz2 (by rfl) (by decide) _ xI.length (inss xI) FI (by rfl) BQ.out.si ⟨n3, 0, none⟩ 1 (insA d0 d1 d2 d3).toList (by rfl) (by rfl) (World.news_of_block BX3.out) (by simp [Value.oneCell']) (by unfold maxLen; omega) (by omega) ?_
                  intro v4 D394 F4 S4 P4 H4
                  obtain ⟨xs4, cs4, hv4, _⟩ := S4.out.lies
                  subst hv4
                  have n1 : i1 ∉ FI := NI.out
                  refine hK.out _ _ ⟨P4.out.keeps hH.1 n1, (P4.out.cell (World.block_lt_of_cell? _ _ hH.2) NBI.out).trans hH.2⟩ (fun hH => ?_)
                  have BX9 := hidd (P4.out.keeps BX9.out (fun h => NX9.out _ h rfl))
                  have BQ := hidd (BQ.out.insA S4.out P4.out H4.out)
                  clear hi hz0 hz1 hz2 hK K
                  (try simp only [jA, jB, jC, Act.put, jD, jE, jF])
                  refine wpAnyH_take (i := 11) (v := .pointer (some ⟨bb, 0, none⟩)) rfl (by kernel_rfl) (by kernel_rfl) (by kernel_rfl) (fun _ _ _ h => h) (.inl ⟨by rfl, by intro w hS; go_simp⟩) hH ?_
                  (try simp only [jA, jB, jC, Act.put, jD, jE, jF])
                  refine wpAnyH_ready (rs := [10]) (by kernel_rfl) (by simp) ?_
                  refine AllReadyH.cons rfl (fun K hK => ?_) AllReadyH.nil
                  rw [if_pos (by rfl)]
                  obtain ⟨i0, hi, hz0, hz1, hz2⟩ := info_parts info_u32
                  refine wp_append_sli (.tmp 70) (.tmp 73) 37 (by rfl) 25 i0 _ 1 4 Tryz.underlying37 hi hz0 hz1 hz2 (by rfl) (by decide) _ xA.length (num .u32 xA) FA (by rfl) BQ.out.sa ⟨n9, 0, none⟩ 1 [.int .u32 xn] (by rfl) (by rfl) (World.news_of_block BX9.out) (by simp [Value.oneCell']) (by unfold maxLen; omega) (by omega) ?_
                  intro v10 D39410 F10 S10 P10 H10
                  obtain ⟨xs10, cs10, hv10, _⟩ := S10.out.lies
                  subst hv10
                  refine hK.out _ _ ⟨P10.out.keeps hH.1 NA.out, (P10.out.cell (World.block_lt_of_cell? _ _ hH.2) NBA.out).trans hH.2⟩ (fun hH => ?_)
                  have BQ := hidd (BQ.out.atA S10.out P10.out H10.out)
                  clear hi hz0 hz1 hz2 hK K
                  (try simp only [jA, jB, jC, Act.put, jD, jE, jF])
                  refine wpAnyH_ready (rs := [12]) (by kernel_rfl) (by simp) ?_
                  refine AllReadyH.cons rfl (fun K hK => ?_) AllReadyH.nil
                  rw [if_pos (by rfl)]
                  have c0 : D39410.cell? ⟨bb, 0, none⟩ = some (.slice xi xI.length ci) := cell_of_block BQ.out.ct
                  have z0 := row_frozen BQ.out.ct 0
                  go_simp
                  have h1 := (heap_setCell_row BQ.out.ct (.slice xs4 (xI.length + 1) cs4) (k := 0))
                  refine hK.out _ _ ⟨(heap_setCell_other _ _ _ _ (ne_of hH.1 BQ.out.ct (by decide))).trans hH.1, cell_of_block h1⟩ (fun hH => ?_)
                  clear hK K c0 z0
                  (try simp only [jA, jB, jC, Act.put, jD, jE, jF])
                  refine wpAnyH_take (i := 13) (v := .pointer (some ⟨bb, 1, none⟩)) rfl (by kernel_rfl) (by kernel_rfl) (by kernel_rfl) (fun _ _ _ h => h) (.inl ⟨by rfl, by intro w hS; go_simp⟩) hH ?_
                  (try simp only [jA, jB, jC, Act.put, jD, jE, jF])
                  refine wpAnyH_ready (rs := [14]) (by kernel_rfl) (by simp) ?_
                  refine AllReadyH.cons rfl (fun K hK => ?_) AllReadyH.nil
                  rw [if_pos (by rfl)]
                  have c1 := cell_of_block (i := 1) h1
                  have z1 := row_frozen h1 1
                  go_simp
                  have h2 := (heap_setCell_row h1 (.slice xs10 (xA.length + 1) cs10) (k := 1))
                  refine hK.out _ _ ⟨(heap_setCell_other _ _ _ _ (ne_of hH.1 h1 (by decide))).trans hH.1, cell_of_block h2⟩ (fun hH => ?_)
                  clear hK K c1 z1
                  (try simp only [jA, jB, jC, Act.put, jD, jE, jF])
                  refine wpAnyH_done (by kernel_rfl) ?_ _
                  have GH := hidd hH.1
                  have H2 := hidd h2
                  clear hH h1 h2
                  go_wp2_with fail
                  go_meet
                  have fin := BQ.out.done (I' := xI ++ [(d0, (d1 : Int), (d2 : Int), d3)]) (A' := xA ++ [xn]) (((Put.refl D39410).setCell (by simp) _).setCell (by simp) _) H2.out (by simp [inss, inV]) (by simp) (by simp [num]) (by simp)
                  have l1 : xI.length + 1 = (xI ++ [(d0, (d1 : Int), (d2 : Int), d3)]).length := by simp
                  have l2 : xA.length + 1 = (xA ++ [xn]).length := by simp
                  rw [l1, l2] at fin
                  rw [l1, l2] at GH
                  rw [l1, l2]
                  exact ⟨xs4, cs4, xs10, cs10, _, _, fin, GH.out⟩
                refine AllReadyH.cons rfl (fun K hK => ?_) AllReadyH.nil
                rw [if_pos (by rfl)]
                have c0 : D39.cell? ⟨bb, 1, none⟩ = some (.slice xa xA.length ca) := cell_of_block BQ.out.ct
                go_simp
                refine hK.out _ _ hH (fun hH => ?_)
                clear hK K c0
                (try simp only [jA, jB, jC, Act.put, jD, jE, jF])
                refine wpAnyH_ready (rs := [1]) (by kernel_rfl) (by simp) ?_
                refine AllReadyH.cons rfl (fun K hK => ?_) AllReadyH.nil
                rw [if_pos (by rfl)]
                have c0 : D39.cell? ⟨bb, 0, none⟩ = some (.slice xi xI.length ci) := cell_of_block BQ.out.ct
                go_simp
                refine hK.out _ _ hH (fun hH => ?_)
                clear hK K c0
                (try simp only [jA, jB, jC, Act.put, jD, jE, jF])
                refine wpAnyH_ready (rs := [4]) (by kernel_rfl) (by simp) ?_
                refine AllReadyH.cons rfl (fun K hK => ?_) AllReadyH.nil
                rw [if_pos (by rfl)]
                obtain ⟨i0, hi, hz0, hz1, hz2⟩ := info_parts info_ins8
                refine wp_append_sli (.tmp 65) (.tmp 67) 23 (by rfl) 53 i0 _ 4 8 Tryz.underlying23 hi hz0 hz1 hz2 (by rfl) (by decide) _ xI.length (inss xI) FI (by rfl) BQ.out.si ⟨n3, 0, none⟩ 1 (insA d0 d1 d2 d3).toList (by rfl) (by rfl) (World.news_of_block BX3.out) (by simp [Value.oneCell']) (by unfold maxLen; omega) (by omega) ?_
                intro v4 D394 F4 S4 P4 H4
                obtain ⟨xs4, cs4, hv4, _⟩ := S4.out.lies
                subst hv4
                have n1 : i1 ∉ FI := NI.out
                refine hK.out _ _ ⟨P4.out.keeps hH.1 n1, (P4.out.cell (World.block_lt_of_cell? _ _ hH.2) NBI.out).trans hH.2⟩ (fun hH => ?_)
                have BX9 := hidd (P4.out.keeps BX9.out (fun h => NX9.out _ h rfl))
                have BQ := hidd (BQ.out.insA S4.out P4.out H4.out)
                clear hi hz0 hz1 hz2 hK K
                (try simp only [jA, jB, jC, Act.put, jD, jE, jF])
                refine wpAnyH_take (i := 11) (v := .pointer (some ⟨bb, 0, none⟩)) rfl (by kernel_rfl) (by kernel_rfl) (by kernel_rfl) (fun _ _ _ h => h) (.inl ⟨by rfl, by intro w hS; go_simp⟩) hH ?_
                (try simp only [jA, jB, jC, Act.put, jD, jE, jF])
                refine wpAnyH_ready (rs := [10]) (by kernel_rfl) (by simp) ?_
                refine AllReadyH.cons rfl (fun K hK => ?_) AllReadyH.nil
                rw [if_pos (by rfl)]
                obtain ⟨i0, hi, hz0, hz1, hz2⟩ := info_parts info_u32
                refine wp_append_sli (.tmp 70) (.tmp 73) 37 (by rfl) 25 i0 _ 1 4 Tryz.underlying37 hi hz0 hz1 hz2 (by rfl) (by decide) _ xA.length (num .u32 xA) FA (by rfl) BQ.out.sa ⟨n9, 0, none⟩ 1 [.int .u32 xn] (by rfl) (by rfl) (World.news_of_block BX9.out) (by simp [Value.oneCell']) (by unfold maxLen; omega) (by omega) ?_
                intro v10 D39410 F10 S10 P10 H10
                obtain ⟨xs10, cs10, hv10, _⟩ := S10.out.lies
                subst hv10
                refine hK.out _ _ ⟨P10.out.keeps hH.1 NA.out, (P10.out.cell (World.block_lt_of_cell? _ _ hH.2) NBA.out).trans hH.2⟩ (fun hH => ?_)
                have BQ := hidd (BQ.out.atA S10.out P10.out H10.out)
                clear hi hz0 hz1 hz2 hK K
                (try simp only [jA, jB, jC, Act.put, jD, jE, jF])
                refine wpAnyH_ready (rs := [12]) (by kernel_rfl) (by simp) ?_
                refine AllReadyH.cons rfl (fun K hK => ?_) AllReadyH.nil
                rw [if_pos (by rfl)]
                have c0 : D39410.cell? ⟨bb, 0, none⟩ = some (.slice xi xI.length ci) := cell_of_block BQ.out.ct
                have z0 := row_frozen BQ.out.ct 0
                go_simp
                have h1 := (heap_setCell_row BQ.out.ct (.slice xs4 (xI.length + 1) cs4) (k := 0))
                refine hK.out _ _ ⟨(heap_setCell_other _ _ _ _ (ne_of hH.1 BQ.out.ct (by decide))).trans hH.1, cell_of_block h1⟩ (fun hH => ?_)
                clear hK K c0 z0
                (try simp only [jA, jB, jC, Act.put, jD, jE, jF])
                refine wpAnyH_take (i := 13) (v := .pointer (some ⟨bb, 1, none⟩)) rfl (by kernel_rfl) (by kernel_rfl) (by kernel_rfl) (fun _ _ _ h => h) (.inl ⟨by rfl, by intro w hS; go_simp⟩) hH ?_
                (try simp only [jA, jB, jC, Act.put, jD, jE, jF])
                refine wpAnyH_ready (rs := [14]) (by kernel_rfl) (by simp) ?_
                refine AllReadyH.cons rfl (fun K hK => ?_) AllReadyH.nil
                rw [if_pos (by rfl)]
                have c1 := cell_of_block (i := 1) h1
                have z1 := row_frozen h1 1
                go_simp
                have h2 := (heap_setCell_row h1 (.slice xs10 (xA.length + 1) cs10) (k := 1))
                refine hK.out _ _ ⟨(heap_setCell_other _ _ _ _ (ne_of hH.1 h1 (by decide))).trans hH.1, cell_of_block h2⟩ (fun hH => ?_)
                clear hK K c1 z1
                (try simp only [jA, jB, jC, Act.put, jD, jE, jF])
                refine wpAnyH_done (by kernel_rfl) ?_ _
                have GH := hidd hH.1
                have H2 := hidd h2
                clear hH h1 h2
                go_wp2_with fail
                go_meet
                have fin := BQ.out.done (I' := xI ++ [(d0, (d1 : Int), (d2 : Int), d3)]) (A' := xA ++ [xn]) (((Put.refl D39410).setCell (by simp) _).setCell (by simp) _) H2.out (by simp [inss, inV]) (by simp) (by simp [num]) (by simp)
                have l1 : xI.length + 1 = (xI ++ [(d0, (d1 : Int), (d2 : Int), d3)]).length := by simp
                have l2 : xA.length + 1 = (xA ++ [xn]).length := by simp
                rw [l1, l2] at fin
                rw [l1, l2] at GH
                rw [l1, l2]
                exact ⟨xs4, cs4, xs10, cs10, _, _, fin, GH.out⟩
              refine AllReadyH.cons rfl (fun K hK => ?_) ?_
              · skip
                rw [if_pos (by rfl)]
                have c0 : D.cell? ⟨bb, 1, none⟩ = some (.slice xa xA.length ca) := cell_of_block BQ.out.ct
                go_simp
                refine hK.out _ _ hH (fun hH => ?_)
                clear hK K c0
                (try simp only [jA, jB, jC, Act.put, jD, jE, jF])
                refine wpAnyH_ready (rs := [1, 3, 9]) (by kernel_rfl) (by simp) ?_
                refine AllReadyH.cons rfl (fun K hK => ?_) ?_
                · skip
                  rw [if_pos (by rfl)]
                  have c0 : D.cell? ⟨bb, 0, none⟩ = some (.slice xi xI.length ci) := cell_of_block BQ.out.ct
                  go_simp
                  refine hK.out _ _ hH (fun hH => ?_)
                  clear hK K c0
                  (try simp only [jA, jB, jC, Act.put, jD, jE, jF])
                  refine wpAnyH_ready (rs := [3, 9]) (by kernel_rfl) (by simp) ?_
                  refine AllReadyH.cons rfl (fun K hK => ?_) ?_
                  · skip
                    rw [if_pos (by rfl)]
                    go_simp
                    obtain ⟨D3, eD3⟩ : ∃ V, Hid (D.alloc (.cells (insA d0 d1 d2 d3) 53) = V) := ⟨_, rfl⟩
                    obtain ⟨n3, en3⟩ : ∃ x, Hid (x = D.heap.size) := ⟨_, rfl⟩
                    rw [eD3.out, ← en3.out]
                    have kk : Kep D D3 := by rw [← eD3.out]; exact (Kep.refl _).alloc _
                    have BX3 : Hid (D3.heap[n3]? = some (.cells (insA d0 d1 d2 d3) 53 (0, 0))) := by rw [← eD3.out, en3.out]; exact hat _ _ _ rfl
                    have NX3 : Hid (∀ c ∈ FA, c ≠ n3) := fun c hc => by have := BQ.out.sa.lt c hc; have := en3.out; omega
                    have BQ := hidd (BQ.out.kep kk)
                    refine hK.out _ _ ⟨kk.block hH.1, (kk.cell (World.block_lt_of_cell? _ _ hH.2)).trans hH.2⟩ (fun hH => ?_)
                    clear hK K kk
                    (try simp only [jA, jB, jC, Act.put, jD, jE, jF])
                    refine wpAnyH_ready (rs := [4, 9]) (by kernel_rfl) (by simp) ?_
                    refine AllReadyH.cons rfl (fun K hK => ?_) ?_
                    · skip
                      rw [if_pos (by rfl)]
                      obtain ⟨i0, hi, hz0, hz1, hz2⟩ := info_parts info_ins8
                      refine wp_append_sli (.tmp 65) (.tmp 67) 23 (by rfl) 53 i0 _ 4 8 Tryz.underlying23 hi hz0 hz1 hz2 (by rfl) (by decide) _ xI.length (inss xI) FI (by rfl) BQ.out.si ⟨n3, 0, none⟩ 1 (insA d0 d1 d2 d3).toList (by rfl) (by rfl) (World.news_of_block BX3.out) (by simp [Value.oneCell']) (by unfold maxLen; omega) (by omega) ?_
                      intro v4 D34 F4 S4 P4 H4
                      obtain ⟨xs4, cs4, hv4, _⟩ := S4.out.lies
                      subst hv4
                      have n1 : i1 ∉ FI := NI.out
                      refine hK.out _ _ ⟨P4.out.keeps hH.1 n1, (P4.out.cell (World.block_lt_of_cell? _ _ hH.2) NBI.out).trans hH.2⟩ (fun hH => ?_)
                      have BQ := hidd (BQ.out.insA S4.out P4.out H4.out)
                      clear hi hz0 hz1 hz2 hK K
                      (try simp only [jA, jB, jC, Act.put, jD, jE, jF])
                      refine wpAnyH_take (i := 11) (v := .pointer (some ⟨bb, 0, none⟩)) rfl (by kernel_rfl) (by kernel_rfl) (by kernel_rfl) (fun _ _ _ h => h) (.inl ⟨by rfl, by intro w hS; go_simp⟩) hH ?_
                      (try simp only [jA, jB, jC, Act.put, jD, jE, jF])
                      refine wpAnyH_ready (rs := [9]) (by kernel_rfl) (by simp) ?_
                      refine AllReadyH.cons rfl (fun K hK => ?_) AllReadyH.nil
                      rw [if_pos (by rfl)]
                      go_simp
                      obtain ⟨D349, eD349⟩ : ∃ V, Hid (D34.alloc (.cells #[.int .u32 xn] 25) = V) := ⟨_, rfl⟩
                      obtain ⟨n9, en9⟩ : ∃ x, Hid (x = D34.heap.size) := ⟨_, rfl⟩
                      rw [eD349.out, ← en9.out]
                      have kk : Kep D34 D349 := by rw [← eD349.out]; exact (Kep.refl _).alloc _
                      have BX9 : Hid (D349.heap[n9]? = some (.cells #[.int .u32 xn] 25 (0, 0))) := by rw [← eD349.out, en9.out]; exact hat _ _ _ rfl
                      have NX9 : Hid (∀ c ∈ F4, c ≠ n9) := fun c hc => by have := BQ.out.si.lt c hc; have := en9.out; omega
                      have BQ := hidd (BQ.out.kep kk)
                      refine hK.out _ _ ⟨kk.block hH.1, (kk.cell (World.block_lt_of_cell? _ _ hH.2)).trans hH.2⟩ (fun hH => ?_)
                      clear hK K kk
                      (try simp only [jA, jB, jC, Act.put, jD, jE, jF])
                      refine wpAnyH_ready (rs := [10]) (by kernel_rfl) (by simp) ?_
                      refine AllReadyH.cons rfl (fun K hK => ?_) AllReadyH.nil
                      rw [if_pos (by rfl)]
                      obtain ⟨i0, hi, hz0, hz1, hz2⟩ := info_parts info_u32
                      refine wp_append_sli (.tmp 70) (.tmp 73) 37 (by rfl) 25 i0 _ 1 4 Tryz.underlying37 hi hz0 hz1 hz2 (by rfl) (by decide) _ xA.length (num .u32 xA) FA (by rfl) BQ.out.sa ⟨n9, 0, none⟩ 1 [.int .u32 xn] (by rfl) (by rfl) (World.news_of_block BX9.out) (by simp [Value.oneCell']) (by unfold maxLen; omega) (by omega) ?_
                      intro v10 D34910 F10 S10 P10 H10
                      obtain ⟨xs10, cs10, hv10, _⟩ := S10.out.lies
                      subst hv10
                      refine hK.out _ _ ⟨P10.out.keeps hH.1 NA.out, (P10.out.cell (World.block_lt_of_cell? _ _ hH.2) NBA.out).trans hH.2⟩ (fun hH => ?_)
                      have BQ := hidd (BQ.out.atA S10.out P10.out H10.out)
                      clear hi hz0 hz1 hz2 hK K
                      (try simp only [jA, jB, jC, Act.put, jD, jE, jF])
                      refine wpAnyH_ready (rs := [12]) (by kernel_rfl) (by simp) ?_
                      refine AllReadyH.cons rfl (fun K hK => ?_) AllReadyH.nil
                      rw [if_pos (by rfl)]
                      have c0 : D34910.cell? ⟨bb, 0, none⟩ = some (.slice xi xI.length ci) := cell_of_block BQ.out.ct
                      have z0 := row_frozen BQ.out.ct 0
                      go_simp
                      have h1 := (heap_setCell_row BQ.out.ct (.slice xs4 (xI.length + 1) cs4) (k := 0))
                      refine hK.out _ _ ⟨(heap_setCell_other _ _ _ _ (ne_of hH.1 BQ.out.ct (by decide))).trans hH.1, cell_of_block h1⟩ (fun hH => ?_)
                      clear hK K c0 z0
                      (try simp only [jA, jB, jC, Act.put, jD, jE, jF])
                      refine wpAnyH_take (i := 13) (v := .pointer (some ⟨bb, 1, none⟩)) rfl (by kernel_rfl) (by kernel_rfl) (by kernel_rfl) (fun _ _ _ h => h) (.inl ⟨by rfl, by intro w hS; go_simp⟩) hH ?_
                      (try simp only [jA, jB, jC, Act.put, jD, jE, jF])
                      refine wpAnyH_ready (rs := [14]) (by kernel_rfl) (by simp) ?_
                      refine AllReadyH.cons rfl (fun K hK => ?_) AllReadyH.nil
                      rw [if_pos (by rfl)]
                      have c1 := cell_of_block (i := 1) h1
                      have z1 := row_frozen h1 1
                      go_simp
                      have h2 := (heap_setCell_row h1 (.slice xs10 (xA.length + 1) cs10) (k := 1))
                      refine hK.out _ _ ⟨(heap_setCell_other _ _ _ _ (ne_of hH.1 h1 (by decide))).trans hH.1, cell_of_block h2⟩ (fun hH => ?_)
                      clear hK K c1 z1
                      (try simp only [jA, jB, jC, Act.put, jD, jE, jF])
                      refine wpAnyH_done (by kernel_rfl) ?_ _
                      have GH := hidd hH.1
                      have H2 := hidd h2
                      clear hH h1 h2
                      go_wp2_with fail
                      go_meet
                      have fin := BQ.out.done (I' := xI ++ [(d0, (d1 : Int), (d2 : Int), d3)]) (A' := xA ++ [xn]) (((Put.refl D34910).setCell (by simp) _).setCell (by simp) _) H2.out (by simp [inss, inV]) (by simp) (by simp [num]) (by simp)
                      have l1 : xI.length + 1 = (xI ++ [(d0, (d1 : Int), (d2 : Int), d3)]).length := by simp
                      have l2 : xA.length + 1 = (xA ++ [xn]).length := by simp
                      rw [l1, l2] at fin
                      rw [l1, l2] at GH
                      rw [l1, l2]
                      exact ⟨xs4, cs4, xs10, cs10, _, _, fin, GH.out⟩
                    refine AllReadyH.cons rfl (fun K hK => ?_) AllReadyH.nil
                    rw [if_pos (by rfl)]
                    go_simp
                    obtain ⟨D39, eD39⟩ : ∃ V, Hid (D3.alloc (.cells #[.int .u32 xn] 25) = V) := ⟨_, rfl⟩
                    obtain ⟨n9, en9⟩ : ∃ x, Hid (x = D3.heap.size) := ⟨_, rfl⟩
                    rw [eD39.out, ← en9.out]
                    have kk : Kep D3 D39 := by rw [← eD39.out]; exact (Kep.refl _).alloc _
                    have BX9 : Hid (D39.heap[n9]? = some (.cells #[.int .u32 xn] 25 (0, 0))) := by rw [← eD39.out, en9.out]; exact hat _ _ _ rfl
                    have NX9 : Hid (∀ c ∈ FI, c ≠ n9) := fun c hc => by have := BQ.out.si.lt c hc; have := en9.out; omega
                    have BQ := hidd (BQ.out.kep kk)
                    refine hK.out _ _ ⟨kk.block hH.1, (kk.cell (World.block_lt_of_cell? _ _ hH.2)).trans hH.2⟩ (fun hH => ?_)
                    have BX3 := hidd (kk.block BX3.out)
                    clear hK K kk
                    (try simp only [jA, jB, jC, Act.put, jD, jE, jF])
                    refine wpAnyH_ready (rs := [4]) (by kernel_rfl) (by simp) ?_
                    refine AllReadyH.cons rfl (fun K hK => ?_) AllReadyH.nil
                    rw [if_pos (by rfl)]
                    obtain ⟨i0, hi, hz0, hz1, hz2⟩ := info_parts info_ins8
                    refine wp_append_sli (.tmp 65) (.tmp 67) 23 (by rfl) 53 i0 _ 4 8 Tryz.underlying23 hi hz0 hz1 hz2 (by rfl) (by decide) _ xI.length (inss xI) FI (by rfl) BQ.out.si ⟨n3, 0, none⟩ 1 (insA d0 d1 d2 d3).toList (by rfl) (by rfl) (World.news_of_block BX3.out) (by simp [Value.oneCell']) (by unfold maxLen; omega) (by omega) ?_
                    intro v4 D394 F4 S4 P4 H4
                    obtain ⟨xs4, cs4, hv4, _⟩ := S4.out.lies
                    subst hv4
                    have n1 : i1 ∉ FI := NI.out
                    refine hK.out _ _ ⟨P4.out.keeps hH.1 n1, (P4.out.cell (World.block_lt_of_cell? _ _ hH.2) NBI.out).trans hH.2⟩ (fun hH => ?_)
                    have BX9 := hidd (P4.out.keeps BX9.out (fun h => NX9.out _ h rfl))
                    have BQ := hidd (BQ.out.insA S4.out P4.out H4.out)
                    clear hi hz0 hz1 hz2 hK K
                    (try simp only [jA, jB, jC, Act.put, jD, jE, jF])
                    refine wpAnyH_take (i := 11) (v := .pointer (some ⟨bb, 0, none⟩)) rfl (by kernel_rfl) (by kernel_rfl) (by kernel_rfl) (fun _ _ _ h => h) (.inl ⟨by rfl, by intro w hS; go_simp⟩) hH ?_
                    (try simp only [jA, jB, jC, Act.put, jD, jE, jF])
                    refine wpAnyH_ready (rs := [10]) (by kernel_rfl) (by simp) ?_
                    refine AllReadyH.cons rfl (fun K hK => ?_) AllReadyH.nil
                    rw [if_pos (by rfl)]
                    obtain ⟨i0, hi, hz0, hz1, hz2⟩ := info_parts info_u32
                    refine wp_append_sli (.tmp 70) (.tmp 73) 37 (by rfl) 25 i0 _ 1 4 Tryz.underlying37 hi hz0 hz1 hz2 (by rfl) (by decide) _ xA.length (num .u32 xA) FA (by rfl) BQ.out.sa ⟨n9, 0, none⟩ 1 [.int .u32 xn] (by rfl) (by rfl) (World.news_of_block BX9.out) (by simp [Value.oneCell']) (by unfold maxLen; omega) (by omega) ?_
                    intro v10 D39410 F10 S10 P10 H10
                    obtain ⟨xs10, cs10, hv10, _⟩ := S10.out.lies
                    subst hv10
                    refine hK.out _ _ ⟨P10.out.keeps hH.1 NA.out, (P10.out.cell (World.block_lt_of_cell? _ _ hH.2) NBA.out).trans hH.2⟩ (fun hH => ?_)
                    have BQ := hidd (BQ.out.atA S10.out P10.out H10.out)
                    clear hi hz0 hz1 hz2 hK K
                    (try simp only [jA, jB, jC, Act.put, jD, jE, jF])
                    refine wpAnyH_ready (rs := [12]) (by kernel_rfl) (by simp) ?_
                    refine AllReadyH.cons rfl (fun K hK => ?_) AllReadyH.nil
                    rw [if_pos (by rfl)]
                    have c0 : D39410.cell? ⟨bb, 0, none⟩ = some (.slice xi xI.length ci) := cell_of_block BQ.out.ct
                    have z0 := row_frozen BQ.out.ct 0
                    go_simp
                    have h1 := (heap_setCell_row BQ.out.ct (.slice xs4 (xI.length + 1) cs4) (k := 0))
                    refine hK.out _ _ ⟨(heap_setCell_other _ _ _ _ (ne_of hH.1 BQ.out.ct (by decide))).trans hH.1, cell_of_block h1⟩ (fun hH => ?_)
                    clear hK K c0 z0
                    (try simp only [jA, jB, jC, Act.put, jD, jE, jF])
                    refine wpAnyH_take (i := 13) (v := .pointer (some ⟨bb, 1, none⟩)) rfl (by kernel_rfl) (by kernel_rfl) (by kernel_rfl) (fun _ _ _ h => h) (.inl ⟨by rfl, by intro w hS; go_simp⟩) hH ?_
                    (try simp only [jA, jB, jC, Act.put, jD, jE, jF])
                    refine wpAnyH_ready (rs := [14]) (by kernel_rfl) (by simp) ?_
                    refine AllReadyH.cons rfl (fun K hK => ?_) AllReadyH.nil
                    rw [if_pos (by rfl)]
                    have c1 := cell_of_block (i := 1) h1
                    have z1 := row_frozen h1 1
                    go_simp
                    have h2 := (heap_setCell_row h1 (.slice xs10 (xA.length + 1) cs10) (k := 1))
                    refine hK.out _ _ ⟨(heap_setCell_other _ _ _ _ (ne_of hH.1 h1 (by decide))).trans hH.1, cell_of_block h2⟩ (fun hH => ?_)
                    clear hK K c1 z1
                    (try simp only [jA, jB, jC, Act.put, jD, jE, jF])
                    refine wpAnyH_done (by kernel_rfl) ?_ _
                    have GH := hidd hH.1
                    have H2 := hidd h2
                    clear hH h1 h2
                    go_wp2_with fail
                    go_meet
                    have fin := BQ.out.done (I' := xI ++ [(d0, (d1 : Int), (d2 : Int), d3)]) (A' := xA ++ [xn]) (((Put.refl D39410).setCell (by simp) _).setCell (by simp) _) H2.out (by simp [inss, inV]) (by simp) (by simp [num]) (by simp)
                    have l1 : xI.length + 1 = (xI ++ [(d0, (d1 : Int), (d2 : Int), d3)]).length := by simp
                    have l2 : xA.length + 1 = (xA ++ [xn]).length := by simp
                    rw [l1, l2] at fin
                    rw [l1, l2] at GH
                    rw [l1, l2]
                    exact ⟨xs4, cs4, xs10, cs10, _, _, fin, GH.out⟩
                  refine AllReadyH.cons rfl (fun K hK => ?_) AllReadyH.nil
                  rw [if_pos (by rfl)]
                  go_simp
                  obtain ⟨D9, eD9⟩ : ∃ V, Hid (D.alloc (.cells #[.int .u32 xn] 25) = V) := ⟨_, rfl⟩
                  obtain ⟨n9, en9⟩ : ∃ x, Hid (x = D.heap.size) := ⟨_, rfl⟩
                  rw [eD9.out, ← en9.out]
                  have kk : Kep D D9 := by rw [← eD9.out]; exact (Kep.refl _).alloc _
                  have BX9 : Hid (D9.heap[n9]? = some (.cells #[.int .u32 xn] 25 (0, 0))) := by rw [← eD9.out, en9.out]; exact hat _ _ _ rfl
                  have NX9 : Hid (∀ c ∈ FI, c ≠ n9) := fun c hc => by have := BQ.out.si.lt c hc; have := en9.out; omega
                  have BQ := hidd (BQ.out.kep kk)
                  refine hK.out _ _ ⟨kk.block hH.1, (kk.cell (World.block_lt_of_cell? _ _ hH.2)).trans hH.2⟩ (fun hH => ?_)
                  clear hK K kk
                  (try simp only [jA, jB, jC, Act.put, jD, jE, jF])
                  refine wpAnyH_ready (rs := [3]) (by kernel_rfl) (by simp) ?_
                  refine AllReadyH.cons rfl (fun K hK => ?_) AllReadyH.nil
                  rw [if_pos (by rfl)]
                  go_simp
                  obtain ⟨D93, eD93⟩ : ∃ V, Hid (D9.alloc (.cells (insA d0 d1 d2 d3) 53) = V) := ⟨_, rfl⟩
                  obtain ⟨n3, en3⟩ : ∃ x, Hid (x = D9.heap.size) := ⟨_, rfl⟩
                  rw [eD93.out, ← en3.out]
                  have kk : Kep D9 D93 := by rw [← eD93.out]; exact (Kep.refl _).alloc _
                  have BX3 : Hid (D93.heap[n3]? = some (.cells (insA d0 d1 d2 d3) 53 (0, 0))) := by rw [← eD93.out, en3.out]; exact hat _ _ _ rfl
                  have NX3 : Hid (∀ c ∈ FA, c ≠ n3) := fun c hc => by have := BQ.out.sa.lt c hc; have := en3.out; omega
                  have BQ := hidd (BQ.out.kep kk)
                  refine hK.out _ _ ⟨kk.block hH.1, (kk.cell (World.block_lt_of_cell? _ _ hH.2)).trans hH.2⟩ (fun hH => ?_)
                  have BX9 := hidd (kk.block BX9.out)
                  clear hK K kk
                  (try simp only [jA, jB, jC, Act.put, jD, jE, jF])
                  refine wpAnyH_ready (rs := [4]) (by kernel_rfl) (by simp) ?_
                  refine AllReadyH.cons rfl (fun K hK => ?_) AllReadyH.nil
                  rw [if_pos (by rfl)]
                  obtain ⟨i0, hi, hz0, hz1, hz2⟩ := info_parts info_ins8
                  refine wp_append_sli (.tmp 65) (.tmp 67) 23 (by rfl) 53 i0 _ 4 8 Tryz.underlying23 hi hz0 hz1 hz2 (by rfl) (by decide) _ xI.length (inss xI) FI (by rfl) BQ.out.si ⟨n3, 0, none⟩ 1 (insA d0 d1 d2 d3).toList (by rfl) (by rfl) (World.news_of_block BX3.out) (by simp [Value.oneCell']) (by unfold maxLen; omega) (by omega) ?_
                  intro v4 D934 F4 S4 P4 H4
                  obtain ⟨xs4, cs4, hv4, _⟩ := S4.out.lies
                  subst hv4
                  have n1 : i1 ∉ FI := NI.out
                  refine hK.out _ _ ⟨P4.out.keeps hH.1 n1, (P4.out.cell (World.block_lt_of_cell? _ _ hH.2) NBI.out).trans hH.2⟩ (fun hH => ?_)
                  have BX9 := hidd (P4.out.keeps BX9.out (fun h => NX9.out _ h rfl))
                  have BQ := hidd (BQ.out.insA S4.out P4.out H4.out)
                  clear hi hz0 hz1 hz2 hK K
                  (try simp only [jA, jB, jC, Act.put, jD, jE, jF])
                  refine wpAnyH_take (i := 11) (v := .pointer (some ⟨bb, 0, none⟩)) rfl (by kernel_rfl) (by kernel_rfl) (by kernel_rfl) (fun _ _ _ h => h) (.inl ⟨by rfl, by intro w hS; go_simp⟩) hH ?_
                  (try simp only [jA, jB, jC, Act.put, jD, jE, jF])
                  refine wpAnyH_ready (rs := [10]) (by kernel_rfl) (by simp) ?_
                  refine AllReadyH.cons rfl (fun K hK => ?_) AllReadyH.nil
                  rw [if_pos (by rfl)]
                  obtain ⟨i0, hi, hz0, hz1, hz2⟩ := info_parts info_u32
                  refine wp_append_sli (.tmp 70) (.tmp 73) 37 (by rfl) 25 i0 _ 1 4 Tryz.underlying37 hi hz0 hz1 hz2 (by rfl) (by decide) _ xA.length (num .u32 xA) FA (by rfl) BQ.out.sa ⟨n9, 0, none⟩ 1 [.int .u32 xn] (by rfl) (by rfl) (World.news_of_block BX9.out) (by simp [Value.oneCell']) (by unfold maxLen; omega) (by omega) ?_
                  intro v10 D93410 F10 S10 P10 H10
                  obtain ⟨xs10, cs10, hv10, _⟩ := S10.out.lies
                  subst hv10
                  refine hK.out _ _ ⟨P10.out.keeps hH.1 NA.out, (P10.out.cell (World.block_lt_of_cell? _ _ hH.2) NBA.out).trans hH.2⟩ (fun hH => ?_)
                  have BQ := hidd (BQ.out.atA S10.out P10.out H10.out)
                  clear hi hz0 hz1 hz2 hK K
                  (try simp only [jA, jB, jC, Act.put, jD, jE, jF])
                  refine wpAnyH_ready (rs := [12]) (by kernel_rfl) (by simp) ?_
                  refine AllReadyH.cons rfl (fun K hK => ?_) AllReadyH.nil
                  rw [if_pos (by rfl)]
                  have c0 : D93410.cell? ⟨bb, 0, none⟩ = some (.slice xi xI.length ci) := cell_of_block BQ.out.ct
                  have z0 := row_frozen BQ.out.ct 0
                  go_simp
                  have h1 := (heap_setCell_row BQ.out.ct (.slice xs4 (xI.length + 1) cs4) (k := 0))
                  refine hK.out _ _ ⟨(heap_setCell_other _ _ _ _ (ne_of hH.1 BQ.out.ct (by decide))).trans hH.1, cell_of_block h1⟩ (fun hH => ?_)
                  clear hK K c0 z0
                  (try simp only [jA, jB, jC, Act.put, jD, jE, jF])
                  refine wpAnyH_take (i := 13) (v := .pointer (some ⟨bb, 1, none⟩)) rfl (by kernel_rfl) (by kernel_rfl) (by kernel_rfl) (fun _ _ _ h => h) (.inl ⟨by rfl, by intro w hS; go_simp⟩) hH ?_
                  (try simp only [jA, jB, jC, Act.put, jD, jE, jF])
                  refine wpAnyH_ready (rs := [14]) (by kernel_rfl) (by simp) ?_
                  refine AllReadyH.cons rfl (fun K hK => ?_) AllReadyH.nil
                  rw [if_pos (by rfl)]
                  have c1 := cell_of_block (i := 1) h1
                  have z1 := row_frozen h1 1
                  go_simp
                  have h2 := (heap_setCell_row h1 (.slice xs10 (xA.length + 1) cs10) (k := 1))
                  refine hK.out _ _ ⟨(heap_setCell_other _ _ _ _ (ne_of hH.1 h1 (by decide))).trans hH.1, cell_of_block h2⟩ (fun hH => ?_)
                  clear hK K c1 z1
                  (try simp only [jA, jB, jC, Act.put, jD, jE, jF])
                  refine wpAnyH_done (by kernel_rfl) ?_ _
                  have GH := hidd hH.1
                  have H2 := hidd h2
                  clear hH h1 h2
                  go_wp2_with fail
                  go_meet
                  have fin := BQ.out.done (I' := xI ++ [(d0, (d1 : Int), (d2 : Int), d3)]) (A' := xA ++ [xn]) (((Put.refl D93410).setCell (by simp) _).setCell (by simp) _) H2.out (by simp [inss, inV]) (by simp) (by simp [num]) (by simp)
                  have l1 : xI.length + 1 = (xI ++ [(d0, (d1 : Int), (d2 : Int), d3)]).length := by simp
                  have l2 : xA.length + 1 = (xA ++ [xn]).length := by simp
                  rw [l1, l2] at fin
                  rw [l1, l2] at GH
                  rw [l1, l2]
                  exact ⟨xs4, cs4, xs10, cs10, _, _, fin, GH.out⟩
                refine AllReadyH.cons rfl (fun K hK => ?_) ?_
                · skip
                  rw [if_pos (by rfl)]
                  go_simp
                  obtain ⟨D3, eD3⟩ : ∃ V, Hid (D.alloc (.cells (insA d0 d1 d2 d3) 53) = V) := ⟨_, rfl⟩
                  obtain ⟨n3, en3⟩ : ∃ x, Hid (x = D.heap.size) := ⟨_, rfl⟩
                  rw [eD3.out, ← en3.out]
                  have kk : Kep D D3 := by rw [← eD3.out]; exact (Kep.refl _).alloc _
                  have BX3 : Hid (D3.heap[n3]? = some (.cells (insA d0 d1 d2 d3) 53 (0, 0))) := by rw [← eD3.out, en3.out]; exact hat _ _ _ rfl
                  have NX3 : Hid (∀ c ∈ FA, c ≠ n3) := fun c hc => by have := BQ.out.sa.lt c hc; have := en3.out; omega
                  have BQ := hidd (BQ.out.kep kk)
                  refine hK.out _ _ ⟨kk.block hH.1, (kk.cell (World.block_lt_of_cell? _ _ hH.2)).trans hH.2⟩ (fun hH => ?_)
                  clear hK K kk
                  (try simp only [jA, jB, jC, Act.put, jD, jE, jF])
                  refine wpAnyH_ready (rs := [1, 9]) (by kernel_rfl) (by simp) ?_
                  refine AllReadyH.cons rfl (fun K hK => ?_) ?_
                  · skip
                    rw [if_pos (by rfl)]
                    have c0 : D3.cell? ⟨bb, 0, none⟩ = some (.slice xi xI.length ci) := cell_of_block BQ.out.ct
                    go_simp
                    refine hK.out _ _ hH (fun hH => ?_)
                    clear hK K c0
                    (try simp only [jA, jB, jC, Act.put, jD, jE, jF])
                    refine wpAnyH_ready (rs := [4, 9]) (by kernel_rfl) (by simp) ?_
                    refine AllReadyH.cons rfl (fun K hK => ?_) ?_
                    · skip
                      rw [if_pos (by rfl)]
                      obtain ⟨i0, hi, hz0, hz1, hz2⟩ := info_parts info_ins8
                      refine wp_append_sli (.tmp 65) (.tmp 67) 23 (by rfl) 53 i0 _ 4 8 Tryz.underlying23 hi hz0 hz1 hz2 (by rfl) (by decide) _ xI.length (inss xI) FI (by rfl) BQ.out.si ⟨n3, 0, none⟩ 1 (insA d0 d1 d2 d3).toList (by rfl) (by rfl) (World.news_of_block BX3.out) (by simp [Value.oneCell']) (by unfold maxLen; omega) (by omega) ?_
                      intro v4 D34 F4 S4 P4 H4
                      obtain ⟨xs4, cs4, hv4, _⟩ := S4.out.lies
                      subst hv4
                      have n1 : i1 ∉ FI := NI.out
                      refine hK.out _ _ ⟨P4.out.keeps hH.1 n1, (P4.out.cell (World.block_lt_of_cell? _ _ hH.2) NBI.out).trans hH.2⟩ (fun hH => ?_)
                      have BQ := hidd (BQ.out.insA S4.out P4.out H4.out)
                      clear hi hz0 hz1 hz2 hK K
                      (try simp only [jA, jB, jC, Act.put, jD, jE, jF])
                      refine wpAnyH_take (i := 11) (v := .pointer (some ⟨bb, 0, none⟩)) rfl (by kernel_rfl) (by kernel_rfl) (by kernel_rfl) (fun _ _ _ h => h) (.inl ⟨by rfl, by intro w hS; go_simp⟩) hH ?_
                      (try simp only [jA, jB, jC, Act.put, jD, jE, jF])
                      refine wpAnyH_ready (rs := [9]) (by kernel_rfl) (by simp) ?_
                      refine AllReadyH.cons rfl (fun K hK => ?_) AllReadyH.nil
                      rw [if_pos (by rfl)]
                      go_simp
                      obtain ⟨D349, eD349⟩ : ∃ V, Hid (D34.alloc (.cells #[.int .u32 xn] 25) = V) := ⟨_, rfl⟩
                      obtain ⟨n9, en9⟩ : ∃ x, Hid (x = D34.heap.size) := ⟨_, rfl⟩
                      rw [eD349.out, ← en9.out]
                      have kk : Kep D34 D349 := by rw [← eD349.out]; exact (Kep.refl _).alloc _
                      have BX9 : Hid (D349.heap[n9]? = some (.cells #[.int .u32 xn] 25 (0, 0))) := by rw [← eD349.out, en9.out]; exact hat _ _ _ rfl
                      have NX9 : Hid (∀ c ∈ F4, c ≠ n9) := fun c hc => by have := BQ.out.si.lt c hc; have := en9.out; omega
                      have BQ := hidd (BQ.out.kep kk)
                      refine hK.out _ _ ⟨kk.block hH.1, (kk.cell (World.block_lt_of_cell? _ _ hH.2)).trans hH.2⟩ (fun hH => ?_)
                      clear hK K kk
                      (try simp only [jA, jB, jC, Act.put, jD, jE, jF])
                      refine wpAnyH_ready (rs := [10]) (by kernel_rfl) (by simp) ?_
                      refine AllReadyH.cons rfl (fun K hK => ?_) AllReadyH.nil
                      rw [if_pos (by rfl)]
                      obtain ⟨i0, hi, hz0, hz1, hz2⟩ := info_parts info_u32
                      refine wp_append_sli (.tmp 70) (.tmp 73) 37 (by rfl) 25 i0 _ 1 4 Tryz.underlying37 hi hz0 hz1 hz2 (by rfl) (by decide) _ xA.length (num .u32 xA) FA (by rfl) BQ.out.sa ⟨n9, 0, none⟩ 1 [.int .u32 xn] (by rfl) (by rfl) (World.news_of_block BX9.out) (by simp [Value.oneCell']) (by unfold maxLen; omega) (by omega) ?_
                      intro v10 D34910 F10 S10 P10 H10
                      obtain ⟨xs10, cs10, hv10, _⟩ := S10.out.lies
                      subst hv10
                      refine hK.out _ _ ⟨P10.out.keeps hH.1 NA.out, (P10.out.cell (World.block_lt_of_cell? _ _ hH.2) NBA.out).trans hH.2⟩ (fun hH => ?_)
                      have BQ := hidd (BQ.out.atA S10.out P10.out H10.out)
                      clear hi hz0 hz1 hz2 hK K
                      (try simp only [jA, jB, jC, Act.put, jD, jE, jF])
                      refine wpAnyH_ready (rs := [12]) (by kernel_rfl) (by simp) ?_
                      refine AllReadyH.cons rfl (fun K hK => ?_) AllReadyH.nil
                      rw [if_pos (by rfl)]
                      have c0 : D34910.cell? ⟨bb, 0, none⟩ = some (.slice xi xI.length ci) := cell_of_block BQ.out.ct
                      have z0 := row_frozen BQ.out.ct 0
                      go_simp
                      have h1 := (heap_setCell_row BQ.out.ct (.slice xs4 (xI.length + 1) cs4) (k := 0))
                      refine hK.out _ _ ⟨(heap_setCell_other _ _ _ _ (ne_of hH.1 BQ.out.ct (by decide))).trans hH.1, cell_of_block h1⟩ (fun hH => ?_)
                      clear hK K c0 z0
                      (try simp only [jA, jB, jC, Act.put, jD, jE, jF])
                      refine wpAnyH_take (i := 13) (v := .pointer (some ⟨bb, 1, none⟩)) rfl (by kernel_rfl) (by kernel_rfl) (by kernel_rfl) (fun _ _ _ h => h) (.inl ⟨by rfl, by intro w hS; go_simp⟩) hH ?_
                      (try simp only [jA, jB, jC, Act.put, jD, jE, jF])
                      refine wpAnyH_ready (rs := [14]) (by kernel_rfl) (by simp) ?_
                      refine AllReadyH.cons rfl (fun K hK => ?_) AllReadyH.nil
                      rw [if_pos (by rfl)]
                      have c1 := cell_of_block (i := 1) h1
                      have z1 := row_frozen h1 1
                      go_simp
                      have h2 := (heap_setCell_row h1 (.slice xs10 (xA.length + 1) cs10) (k := 1))
                      refine hK.out _ _ ⟨(heap_setCell_other _ _ _ _ (ne_of hH.1 h1 (by decide))).trans hH.1, cell_of_block h2⟩ (fun hH => ?_)
                      clear hK K c1 z1
                      (try simp only [jA, jB, jC, Act.put, jD, jE, jF])
                      refine wpAnyH_done (by kernel_rfl) ?_ _
                      have GH := hidd hH.1
                      have H2 := hidd h2
                      clear hH h1 h2
                      go_wp2_with fail
                      go_meet
                      have fin := BQ.out.done (I' := xI ++ [(d0, (d1 : Int), (d2 : Int), d3)]) (A' := xA ++ [xn]) (((Put.refl D34910).setCell (by simp) _).setCell (by simp) _) H2.out (by simp [inss, inV]) (by simp) (by simp [num]) (by simp)
                      have l1 : xI.length + 1 = (xI ++ [(d0, (d1 : Int), (d2 : Int), d3)]).length := by simp
                      have l2 : xA.length + 1 = (xA ++ [xn]).length := by simp
                      rw [l1, l2] at fin
                      rw [l1, l2] at GH
                      rw [l1, l2]
                      exact ⟨xs4, cs4, xs10, cs10, _, _, fin, GH.out⟩
                    refine AllReadyH.cons rfl (fun K hK => ?_) AllReadyH.nil
                    rw [if_pos (by rfl)]
                    go_simp
                    obtain ⟨D39, eD39⟩ : ∃ V, Hid (D3.alloc (.cells #[.int .u32 xn] 25) = V) := ⟨_, rfl⟩
                    obtain ⟨n9, en9⟩ : ∃ x, Hid (x = D3.heap.size) := ⟨_, rfl⟩
                    rw [eD39.out, ← en9.out]
                    have kk : Kep D3 D39 := by rw [← eD39.out]; exact (Kep.refl _).alloc _
                    have BX9 : Hid (D39.heap[n9]? = some (.cells #[.int .u32 xn] 25 (0, 0))) := by rw [← eD39.out, en9.out]; exact hat _ _ _ rfl
                    have NX9 : Hid (∀ c ∈ FI, c ≠ n9) := fun c hc => by have := BQ.out.si.lt c hc; have := en9.out; omega
                    have BQ := hidd (BQ.out.kep kk)
                    refine hK.out _ _ ⟨kk.block hH.1, (kk.cell (World.block_lt_of_cell? _ _ hH.2)).trans hH.2⟩ (fun hH => ?_)
                    have BX3 := hidd (kk.block BX3.out)
                    clear hK K kk
                    (try simp only [jA, jB, jC, Act.put, jD, jE, jF])
                    refine wpAnyH_ready (rs := [4]) (by kernel_rfl) (by simp) ?_
                    refine AllReadyH.cons rfl (fun K hK => ?_) AllReadyH.nil
                    rw [if_pos (by rfl)]
                    obtain ⟨i0, hi, hz0, hz1, hz2⟩ := info_parts info_ins8
                    refine wp_append_sli (.tmp 65) (.tmp 67) 23 (by rfl) 53 i0 _ 4 8 Tryz.underlying23 hi hz0 hz1 hz2 (by rfl) (by decide) _ xI.length (inss xI) FI (by rfl) BQ.out.si ⟨n3, 0, none⟩ 1 (insA d0 d1 d2 d3).toList (by rfl) (by rfl) (World.news_of_block BX3.out) (by simp [Value.oneCell']) (by unfold maxLen; omega) (by omega) ?_
                    intro v4 D394 F4 S4 P4 H4
                    obtain ⟨xs4, cs4, hv4, _⟩ := S4.out.lies
                    subst hv4
                    have n1 : i1 ∉ FI := NI.out
                    refine hK.out _ _ ⟨P4.out.keeps hH.1 n1, (P4.out.cell (World.block_lt_of_cell? _ _ hH.2) NBI.out).trans hH.2⟩ (fun hH => ?_)
                    have BX9 := hidd (P4.out.keeps BX9.out (fun h => NX9.out _ h rfl))
                    have BQ := hidd (BQ.out.insA S4.out P4.out H4.out)
                    clear hi hz0 hz1 hz2 hK K
                    (try simp only [jA, jB, jC, Act.put, jD, jE, jF])
                    refine wpAnyH_take (i := 11) (v := .pointer (some ⟨bb, 0, none⟩)) rfl (by kernel_rfl) (by kernel_rfl) (by kernel_rfl) (fun _ _ _ h => h) (.inl ⟨by rfl, by intro w hS; go_simp⟩) hH ?_
                    (try simp only [jA, jB, jC, Act.put, jD, jE, jF])
                    refine wpAnyH_ready (rs := [10]) (by kernel_rfl) (by simp) ?_
                    refine AllReadyH.cons rfl (fun K hK => ?_) AllReadyH.nil
                    rw [if_pos (by rfl)]
                    obtain ⟨i0, hi, hz0, hz1, hz2⟩ := info_parts info_u32
                    refine wp_append_sli (.tmp 70) (.tmp 73) 37 (by rfl) 25 i0 _ 1 4 Tryz.underlying37 hi hz0 hz1 hz2 (by rfl) (by decide) _ xA.length (num .u32 xA) FA (by rfl) BQ.out.sa ⟨n9, 0, none⟩ 1 [.int .u32 xn] (by rfl) (by rfl) (World.news_of_block BX9.out) (by simp [Value.oneCell']) (by unfold maxLen; omega) (by omega) ?_
                    intro v10 D39410 F10 S10 P10 H10
                    obtain ⟨xs10, cs10, hv10, _⟩ := S10.out.lies
                    subst hv10
                    refine hK.out _ _ ⟨P10.out.keeps hH.1 NA.out, (P10.out.cell (World.block_lt_of_cell? _ _ hH.2) NBA.out).trans hH.2⟩ (fun hH => ?_)
                    have BQ := hidd (BQ.out.atA S10.out P10.out H10.out)
                    clear hi hz0 hz1 hz2 hK K
                    (try simp only [jA, jB, jC, Act.put, jD, jE, jF])
                    refine wpAnyH_ready (rs := [12]) (by kernel_rfl) (by simp) ?_
                    refine AllReadyH.cons rfl (fun K hK => ?_) AllReadyH.nil
                    rw [if_pos (by rfl)]
                    have c0 : D39410.cell? ⟨bb, 0, none⟩ = some (.slice xi xI.length ci) := cell_of_block BQ.out.ct
                    have z0 := row_frozen BQ.out.ct 0
                    go_simp
                    have h1 := (heap_setCell_row BQ.out.ct (.slice xs4 (xI.length + 1) cs4) (k := 0))
                    refine hK.out _ _ ⟨(heap_setCell_other _ _ _ _ (ne_of hH.1 BQ.out.ct (by decide))).trans hH.1, cell_of_block h1⟩ (fun hH => ?_)
                    clear hK K c0 z0
                    (try simp only [jA, jB, jC, Act.put, jD, jE, jF])
                    refine wpAnyH_take (i := 13) (v := .pointer (some ⟨bb, 1, none⟩)) rfl (by kernel_rfl) (by kernel_rfl) (by kernel_rfl) (fun _ _ _ h => h) (.inl ⟨by rfl, by intro w hS; go_simp⟩) hH ?_
                    (try simp only [jA, jB, jC, Act.put, jD, jE, jF])
                    refine wpAnyH_ready (rs := [14]) (by kernel_rfl) (by simp) ?_
                    refine AllReadyH.cons rfl (fun K hK => ?_) AllReadyH.nil
                    rw [if_pos (by rfl)]
                    have c1 := cell_of_block (i := 1) h1
                    have z1 := row_frozen h1 1
                    go_simp
                    have h2 := (heap_setCell_row h1 (.slice xs10 (xA.length + 1) cs10) (k := 1))
                    refine hK.out _ _ ⟨(heap_setCell_other _ _ _ _ (ne_of hH.1 h1 (by decide))).trans hH.1, cell_of_block h2⟩ (fun hH => ?_)
                    clear hK K c1 z1
                    (try simp only [jA, jB, jC, Act.put, jD, jE, jF])
                    refine wpAnyH_done (by kernel_rfl) ?_ _
                    have GH := hidd hH.1
                    have H2 := hidd h2
                    clear hH h1 h2
                    go_wp2_with fail
                    go_meet
                    have fin := BQ.out.done (I' := xI ++ [(d0, (d1 : Int), (d2 : Int), d3)]) (A' := xA ++ [xn]) (((Put.refl D39410).setCell (by simp) _).setCell (by simp) _) H2.out (by simp [inss, inV]) (by simp) (by simp [num]) (by simp)
                    have l1 : xI.length + 1 = (xI ++ [(d0, (d1 : Int), (d2 : Int), d3)]).length := by simp
                    have l2 : xA.length + 1 = (xA ++ [xn]).length := by simp
                    rw [l1, l2] at fin
                    rw [l1, l2] at GH
                    rw [l1, l2]
                    exact ⟨xs4, cs4, xs10, cs10, _, _, fin, GH.out⟩
                  refine AllReadyH.cons rfl (fun K hK => ?_) AllReadyH.nil
                  rw [if_pos (by rfl)]
                  go_simp
                  obtain ⟨D39, eD39⟩ : ∃ V, Hid (D3.alloc (.cells #[.int .u32 xn] 25) = V) := ⟨_, rfl⟩
                  obtain ⟨n9, en9⟩ : ∃ x, Hid (x = D3.heap.size) := ⟨_, rfl⟩
                  rw [eD39.out, ← en9.out]
                  have kk : Kep D3 D39 := by rw [← eD39.out]; exact (Kep.refl _).alloc _
                  have BX9 : Hid (D39.heap[n9]? = some (.cells #[.int .u32 xn] 25 (0, 0))) := by rw [← eD39.out, en9.out]; exact hat _ _ _ rfl
                  have NX9 : Hid (∀ c ∈ FI, c ≠ n9) := fun c hc => by have := BQ.out.si.lt c hc; have := en9.out; omega
                  have BQ := hidd (BQ.out.kep kk)
                  refine hK.out _ _ ⟨kk.block hH.1, (kk.cell (World.block_lt_of_cell? _ _ hH.2)).trans hH.2⟩ (fun hH => ?_)
                  have BX3 := hidd (kk.block BX3.out)
                  clear hK K kk
                  (try simp only [jA, jB, jC, Act.put, jD, jE, jF])
                  refine wpAnyH_ready (rs := [1]) (by kernel_rfl) (by simp) ?_
                  refine AllReadyH.cons rfl (fun K hK => ?_) AllReadyH.nil
                  rw [if_pos (by rfl)]
                  have c0 : D39.cell? ⟨bb, 0, none⟩ = some (.slice xi xI.length ci) := cell_of_block BQ.out.ct
                  go_simp
                  refine hK.out _ _ hH (fun hH => ?_)
                  clear hK K c0
                  (try simp only [jA, jB, jC, Act.put, jD, jE, jF])
                  refine wpAnyH_ready (rs := [4]) (by kernel_rfl) (by simp) ?_
                  refine AllReadyH.cons rfl (fun K hK => ?_) AllReadyH.nil
                  rw [if_pos (by rfl)]
                  obtain ⟨i0, hi, hz0, hz1, hz2⟩ := info_parts info_ins8
                  refine wp_append_sli (.tmp 65) (.tmp 67) 23 (by rfl) 53 i0 _ 4 8 Tryz.underlying23 hi hz0 hz1 hz2 (by rfl) (by decide) _ xI.length (inss xI) FI (by rfl) BQ.out.si ⟨n3, 0, none⟩ 1 (insA d0 d1 d2 d3).toList (by rfl) (by rfl) (World.news_of_block BX3.out) (by simp [Value.oneCell']) (by unfold maxLen; omega) (by omega) ?_
                  intro v4 D394 F4 S4 P4 H4
                  obtain ⟨xs4, cs4, hv4, _⟩ := S4.out.lies
                  subst hv4
                  have n1 : i1 ∉ FI := NI.out
                  refine hK.out _ _ ⟨P4.out.keeps hH.1 n1, (P4.out.cell (World.block_lt_of_cell? _ _ hH.2) NBI.out).trans hH.2⟩ (fun hH => ?_)
                  have BX9 := hidd (P4.out.keeps BX9.out (fun h => NX9.out _ h rfl))
                  have BQ := hidd (BQ.out.insA S4.out P4.out H4.out)
                  clear hi hz0 hz1 hz2 hK K
                  (try simp only [jA, jB, jC, Act.put, jD, jE, jF])
                  refine wpAnyH_take (i := 11) (v := .pointer (some ⟨bb, 0, none⟩)) rfl (by kernel_rfl) (by kernel_rfl) (by kernel_rfl) (fun _ _ _ h => h) (.inl ⟨by rfl, by intro w hS; go_simp⟩) hH ?_
                  (try simp only [jA, jB, jC, Act.put, jD, jE, jF])
                  refine wpAnyH_ready (rs := [10]) (by kernel_rfl) (by simp) ?_
                  refine AllReadyH.cons rfl (fun K hK => ?_) AllReadyH.nil
                  rw [if_pos (by rfl)]
                  obtain ⟨i0, hi, hz0, hz1, hz2⟩ := info_parts info_u32
                  refine wp_append_sli (.tmp 70) (.tmp 73) 37 (by rfl) 25 i0 _ 1 4 Tryz.underlying37 hi hz0 hz1 hz2 (by rfl) (by decide) _ xA.length (num .u32 xA) FA (by rfl) BQ.out.sa ⟨n9, 0, none⟩ 1 [.int .u32 xn] (by rfl) (by rfl) (World.news_of_block BX9.out) (by simp [Value.oneCell']) (by unfold maxLen; omega) (by omega) ?_
                  intro v10 D39410 F10 S10 P10 H10
                  obtain ⟨xs10, cs10, hv10, _⟩ := S10.out.lies
                  subst hv10
                  refine hK.out _ _ ⟨P10.out.keeps hH.1 NA.out, (P10.out.cell (World.block_lt_of_cell? _ _ hH.2) NBA.out).trans hH.2⟩ (fun hH => ?_)
                  have BQ := hidd (BQ.out.atA S10.out P10.out H10.out)
                  clear hi hz0 hz1 hz2 hK K
                  (try simp only [jA, jB, jC, Act.put, jD, jE, jF])
                  refine wpAnyH_ready (rs := [12]) (by kernel_rfl) (by simp) ?_
                  refine AllReadyH.cons rfl (fun K hK => ?_) AllReadyH.nil
                  rw [if_pos (by rfl)]
                  have c0 : D39410.cell? ⟨bb, 0, none⟩ = some (.slice xi xI.length ci) := cell_of_block BQ.out.ct
                  have z0 := row_frozen BQ.out.ct 0
                  go_simp
                  have h1 := (heap_setCell_row BQ.out.ct (.slice xs4 (xI.length + 1) cs4) (k := 0))
                  refine hK.out _ _ ⟨(heap_setCell_other _ _ _ _ (ne_of hH.1 BQ.out.ct (by decide))).trans hH.1, cell_of_block h1⟩ (fun hH => ?_)
                  clear hK K c0 z0
                  (try simp only [jA, jB, jC, Act.put, jD, jE, jF])
                  refine wpAnyH_take (i := 13) (v := .pointer (some ⟨bb, 1, none⟩)) rfl (by kernel_rfl) (by kernel_rfl) (by kernel_rfl) (fun _ _ _ h => h) (.inl ⟨by rfl, by intro w hS; go_simp⟩) hH ?_
                  (try simp only [jA, jB, jC, Act.put, jD, jE, jF])
                  refine wpAnyH_ready (rs := [14]) (by kernel_rfl) (by simp) ?_
                  refine AllReadyH.cons rfl (fun K hK => ?_) AllReadyH.nil
                  rw [if_pos (by rfl)]
                  have c1 := cell_of_block (i := 1) h1
                  have z1 := row_frozen h1 1
                  go_simp
                  have h2 := (heap_setCell_row h1 (.slice xs10 (xA.length + 1) cs10) (k := 1))
                  refine hK.out _ _ ⟨(heap_setCell_other _ _ _ _ (ne_of hH.1 h1 (by decide))).trans hH.1, cell_of_block h2⟩ (fun hH => ?_)
                  clear hK K c1 z1
                  (try simp only [jA, jB, jC, Act.put, jD, jE, jF])
                  refine wpAnyH_done (by kernel_rfl) ?_ _
                  have GH := hidd hH.1
                  have H2 := hidd h2
                  clear hH h1 h2
                  go_wp2_with fail
                  go_meet
                  have fin := BQ.out.done (I' := xI ++ [(d0, (d1 : Int), (d2 : Int), d3)]) (A' := xA ++ [xn]) (((Put.refl D39410).setCell (by simp) _).setCell (by simp) _) H2.out (by simp [inss, inV]) (by simp) (by simp [num]) (by simp)
                  have l1 : xI.length + 1 = (xI ++ [(d0, (d1 : Int), (d2 : Int), d3)]).length := by simp
                  have l2 : xA.length + 1 = (xA ++ [xn]).length := by simp
                  rw [l1, l2] at fin
                  rw [l1, l2] at GH
                  rw [l1, l2]
                  exact ⟨xs4, cs4, xs10, cs10, _, _, fin, GH.out⟩
                refine AllReadyH.cons rfl (fun K hK => ?_) AllReadyH.nil
                rw [if_pos (by rfl)]
                go_simp
                obtain ⟨D9, eD9⟩ : ∃ V, Hid (D.alloc (.cells #[.int .u32 xn] 25) = V) := ⟨_, rfl⟩
                obtain ⟨n9, en9⟩ : ∃ x, Hid (x = D.heap.size) := ⟨_, rfl⟩
                rw [eD9.out, ← en9.out]
                have kk : Kep D D9 := by rw [← eD9.out]; exact (Kep.refl _).alloc _
                have BX9 : Hid (D9.heap[n9]? = some (.cells #[.int .u32 xn] 25 (0, 0))) := by rw [← eD9.out, en9.out]; exact hat _ _ _ rfl
                have NX9 : Hid (∀ c ∈ FI, c ≠ n9) := fun c hc => by have := BQ.out.si.lt c hc; have := en9.out; omega
                have BQ := hidd (BQ.out.kep kk)
                refine hK.out _ _ ⟨kk.block hH.1, (kk.cell (World.block_lt_of_cell? _ _ hH.2)).trans hH.2⟩ (fun hH => ?_)
                clear hK K kk
                (try simp only [jA, jB, jC, Act.put, jD, jE, jF])
                refine wpAnyH_ready (rs := [1, 3]) (by kernel_rfl) (by simp) ?_
                refine AllReadyH.cons rfl (fun K hK => ?_) ?_
                · skip
                  rw [if_pos (by rfl)]
                  have c0 : D9.cell? ⟨bb, 0, none⟩ = some (.slice xi xI.length ci) := cell_of_block BQ.out.ct
                  go_simp
                  refine hK.out _ _ hH (fun hH => ?_)
                  clear hK K c0
                  (try simp only [jA, jB, jC, Act.put, jD, jE, jF])
                  refine wpAnyH_ready (rs := [3]) (by kernel_rfl) (by simp) ?_
                  refine AllReadyH.cons rfl (fun K hK => ?_) AllReadyH.nil
                  rw [if_pos (by rfl)]
                  go_simp
                  obtain ⟨D93, eD93⟩ : ∃ V, Hid (D9.alloc (.cells (insA d0 d1 d2 d3) 53) = V) := ⟨_, rfl⟩
                  obtain ⟨n3, en3⟩ : ∃ x, Hid (x = D9.heap.size) := ⟨_, rfl⟩
                  rw [eD93.out, ← en3.out]
                  have kk : Kep D9 D93 := by rw [← eD93.out]; exact (Kep.refl _).alloc _
                  have BX3 : Hid (D93.heap[n3]? = some (.cells (insA d0 d1 d2 d3) 53 (0, 0))) := by rw [← eD93.out, en3.out]; exact hat _ _ _ rfl
                  have NX3 : Hid (∀ c ∈ FA, c ≠ n3) := fun c hc => by have := BQ.out.sa.lt c hc; have := en3.out; omega
                  have BQ := hidd (BQ.out.kep kk)
                  refine hK.out _ _ ⟨kk.block hH.1, (kk.cell (World.block_lt_of_cell? _ _ hH.2)).trans hH.2⟩ (fun hH => ?_)
                  have BX9 := hidd (kk.block BX9.out)
                  clear hK K kk
                  (try simp only [jA, jB, jC, Act.put, jD, jE, jF])
                  refine wpAnyH_ready (rs := [4]) (by kernel_rfl) (by simp) ?_
                  refine AllReadyH.cons rfl (fun K hK => ?_) AllReadyH.nil
                  rw [if_pos (by rfl)]
                  obtain ⟨i0, hi, hz0, hz1, hz2⟩ := info_parts info_ins8
                  refine wp_append_sli (.tmp 65) (.tmp 67) 23 (by rfl) 53 i0 _ 4 8 Tryz.underlying23 hi hz0 hz1 hz2 (by rfl) (by decide) _ xI.length (inss xI) FI (by rfl) BQ.out.si ⟨n3, 0, none⟩ 1 (insA d0 d1 d2 d3).toList (by rfl) (by rfl) (World.news_of_block BX3.out) (by simp [Value.oneCell']) (by unfold maxLen; omega) (by omega) ?_
                  intro v4 D934 F4 S4 P4 H4
                  obtain ⟨xs4, cs4, hv4, _⟩ := S4.out.lies
                  subst hv4
                  have n1 : i1 ∉ FI := NI.out
                  refine hK.out _ _ ⟨P4.out.keeps hH.1 n1, (P4.out.cell (World.block_lt_of_cell? _ _ hH.2) NBI.out).trans hH.2⟩ (fun hH => ?_)
                  have BX9 := hidd (P4.out.keeps BX9.out (fun h => NX9.out _ h rfl))
                  have BQ := hidd (BQ.out.insA S4.out P4.out H4.out)
                  clear hi hz0 hz1 hz2 hK K
                  (try simp only [jA, jB, jC, Act.put, jD, jE, jF])
                  refine wpAnyH_take (i := 11) (v := .pointer (some ⟨bb, 0, none⟩)) rfl (by kernel_rfl) (by kernel_rfl) (by kernel_rfl) (fun _ _ _ h => h) (.inl ⟨by rfl, by intro w hS; go_simp⟩) hH ?_
                  (try simp only [jA, jB, jC, Act.put, jD, jE, jF])
                  refine wpAnyH_ready (rs := [10]) (by kernel_rfl) (by simp) ?_
                  refine AllReadyH.cons rfl (fun K hK => ?_) AllReadyH.nil
                  rw [if_pos (by rfl)]
                  obtain ⟨i0, hi, hz0, hz1, hz2⟩ := info_parts info_u32
                  refine wp_append_sli (.tmp 70) (.tmp 73) 37 (by rfl) 25 i0 _ 1 4 Tryz.underlying37 hi hz0 hz1 hz2 (by rfl) (by decide) _ xA.length (num .u32 xA) FA (by rfl) BQ.out.sa ⟨n9, 0, none⟩ 1 [.int .u32 xn] (by rfl) (by rfl) (World.news_of_block BX9.out) (by simp [Value.oneCell']) (by unfold maxLen; omega) (by omega) ?_
                  intro v10 D93410 F10 S10 P10 H10
                  obtain ⟨xs10, cs10, hv10, _⟩ := S10.out.lies
                  subst hv10
                  refine hK.out _ _ ⟨P10.out.keeps hH.1 NA.out, (P10.out.cell (World.block_lt_of_cell? _ _ hH.2) NBA.out).trans hH.2⟩ (fun hH => ?_)
                  have BQ := hidd (BQ.out.atA S10.out P10.out H10.out)
                  clear hi hz0 hz1 hz2 hK K
                  (try simp only [jA, jB, jC, Act.put, jD, jE, jF])
                  refine wpAnyH_ready (rs := [12]) (by kernel_rfl) (by simp) ?_
                  refine AllReadyH.cons rfl (fun K hK => ?_) AllReadyH.nil
                  rw [if_pos (by rfl)]
                  have c0 : D93410.cell? ⟨bb, 0, none⟩ = some (.slice xi xI.length ci) := cell_of_block BQ.out.ct
                  have z0 := row_frozen BQ.out.ct 0
                  go_simp
                  have h1 := (heap_setCell_row BQ.out.ct (.slice xs4 (xI.length + 1) cs4) (k := 0))
                  refine hK.out _ _ ⟨(heap_setCell_other _ _ _ _ (ne_of hH.1 BQ.out.ct (by decide))).trans hH.1, cell_of_block h1⟩ (fun hH => ?_)
                  clear hK K c0 z0
                  (try simp only [jA, jB, jC, Act.put, jD, jE, jF])
                  refine wpAnyH_take (i := 13) (v := .pointer (some ⟨bb, 1, none⟩)) rfl (by kernel_rfl) (by kernel_rfl) (by kernel_rfl) (fun _ _ _ h => h) (.inl ⟨by rfl, by intro w hS; go_simp⟩) hH ?_
                  (try simp only [jA, jB, jC, Act.put, jD, jE, jF])
                  refine wpAnyH_ready (rs := [14]) (by kernel_rfl) (by simp) ?_
                  refine AllReadyH.cons rfl (fun K hK => ?_) AllReadyH.nil
                  rw [if_pos (by rfl)]
                  have c1 := cell_of_block (i := 1) h1
                  have z1 := row_frozen h1 1
                  go_simp
                  have h2 := (heap_setCell_row h1 (.slice xs10 (xA.length + 1) cs10) (k := 1))
                  refine hK.out _ _ ⟨(heap_setCell_other _ _ _ _ (ne_of hH.1 h1 (by decide))).trans hH.1, cell_of_block h2⟩ (fun hH => ?_)
                  clear hK K c1 z1
                  (try simp only [jA, jB, jC, Act.put, jD, jE, jF])
                  refine wpAnyH_done (by kernel_rfl) ?_ _
                  have GH := hidd hH.1
                  have H2 := hidd h2
                  clear hH h1 h2
                  go_wp2_with fail
                  go_meet
                  have fin := BQ.out.done (I' := xI ++ [(d0, (d1 : Int), (d2 : Int), d3)]) (A' := xA ++ [xn]) (((Put.refl D93410).setCell (by simp) _).setCell (by simp) _) H2.out (by simp [inss, inV]) (by simp) (by simp [num]) (by simp)
                  have l1 : xI.length + 1 = (xI ++ [(d0, (d1 : Int), (d2 : Int), d3)]).length := by simp
                  have l2 : xA.length + 1 = (xA ++ [xn]).length := by simp
                  rw [l1, l2] at fin
                  rw [l1, l2] at GH
                  rw [l1, l2]
                  exact ⟨xs4, cs4, xs10, cs10, _, _, fin, GH.out⟩
                refine AllReadyH.cons rfl (fun K hK => ?_) AllReadyH.nil
                rw [if_pos (by rfl)]
                go_simp
                obtain ⟨D93, eD93⟩ : ∃ V, Hid (D9.alloc (.cells (insA d0 d1 d2 d3) 53) = V) := ⟨_, rfl⟩
                obtain ⟨n3, en3⟩ : ∃ x, Hid (x = D9.heap.size) := ⟨_, rfl⟩
                rw [eD93.out, ← en3.out]
                have kk : Kep D9 D93 := by rw [← eD93.out]; exact (Kep.refl _).alloc _
                have BX3 : Hid (D93.heap[n3]? = some (.cells (insA d0 d1 d2 d3) 53 (0, 0))) := by rw [← eD93.out, en3.out]; exact hat _ _ _ rfl
                have NX3 : Hid (∀ c ∈ FA, c ≠ n3) := fun c hc => by have := BQ.out.sa.lt c hc; have := en3.out; omega
                have BQ := hidd (BQ.out.kep kk)
                refine hK.out _ _ ⟨kk.block hH.1, (kk.cell (World.block_lt_of_cell? _ _ hH.2)).trans hH.2⟩ (fun hH => ?_)
                have BX9 := hidd (kk.block BX9.out)
                clear hK K kk
                (try simp only [jA, jB, jC, Act.put, jD, jE, jF])
                refine wpAnyH_ready (rs := [1]) (by kernel_rfl) (by simp) ?_
                refine AllReadyH.cons rfl (fun K hK => ?_) AllReadyH.nil
                rw [if_pos (by rfl)]
                have c0 : D93.cell? ⟨bb, 0, none⟩ = some (.slice xi xI.length ci) := cell_of_block BQ.out.ct
                go_simp
                refine hK.out _ _ hH (fun hH => ?_)
                clear hK K c0
                (try simp only [jA, jB, jC, Act.put, jD, jE, jF])
                refine wpAnyH_ready (rs := [4]) (by kernel_rfl) (by simp) ?_
                refine AllReadyH.cons rfl (fun K hK => ?_) AllReadyH.nil
                rw [if_pos (by rfl)]
                obtain ⟨i0, hi, hz0, hz1, hz2⟩ := info_parts info_ins8
                refine wp_append_sli (.tmp 65) (.tmp 67) 23 (by rfl) 53 i0 _ 4 8 Tryz.underlying23 hi hz0 hz1 hz2 (by rfl) (by decide) _ xI.length (inss xI) FI (by rfl) BQ.out.si ⟨n3, 0, none⟩ 1 (insA d0 d1 d2 d3).toList (by rfl) (by rfl) (World.news_of_block BX3.out) (by simp [Value.oneCell']) (by unfold maxLen; omega) (by omega) ?_
                intro v4 D934 F4 S4 P4 H4
                obtain ⟨xs4, cs4, hv4, _⟩ := S4.out.lies
                subst hv4
                have n1 : i1 ∉ FI := NI.out
                refine hK.out _ _ ⟨P4.out.keeps hH.1 n1, (P4.out.cell (World.block_lt_of_cell? _ _ hH.2) NBI.out).trans hH.2⟩ (fun hH => ?_)
                have BX9 := hidd (P4.out.keeps BX9.out (fun h => NX9.out _ h rfl))
                have BQ := hidd (BQ.out.insA S4.out P4.out H4.out)
                clear hi hz0 hz1 hz2 hK K
                (try simp only [jA, jB, jC, Act.put, jD, jE, jF])
                refine wpAnyH_take (i := 11) (v := .pointer (some ⟨bb, 0, none⟩)) rfl (by kernel_rfl) (by kernel_rfl) (by kernel_rfl) (fun _ _ _ h => h) (.inl ⟨by rfl, by intro w hS; go_simp⟩) hH ?_
                (try simp only [jA, jB, jC, Act.put, jD, jE, jF])
                refine wpAnyH_ready (rs := [10]) (by kernel_rfl) (by simp) ?_
                refine AllReadyH.cons rfl (fun K hK => ?_) AllReadyH.nil
                rw [if_pos (by rfl)]
                obtain ⟨i0, hi, hz0, hz1, hz2⟩ := info_parts info_u32
                refine wp_append_sli (.tmp 70) (.tmp 73) 37 (by rfl) 25 i0 _ 1 4 Tryz.underlying37 hi hz0 hz1 hz2 (by rfl) (by decide) _ xA.length (num .u32 xA) FA (by rfl) BQ.out.sa ⟨n9, 0, none⟩ 1 [.int .u32 xn] (by rfl) (by rfl) (World.news_of_block BX9.out) (by simp [Value.oneCell']) (by unfold maxLen; omega) (by omega) ?_
                intro v10 D93410 F10 S10 P10 H10
                obtain ⟨xs10, cs10, hv10, _⟩ := S10.out.lies
                subst hv10
                refine hK.out _ _ ⟨P10.out.keeps hH.1 NA.out, (P10.out.cell (World.block_lt_of_cell? _ _ hH.2) NBA.out).trans hH.2⟩ (fun hH => ?_)
                have BQ := hidd (BQ.out.atA S10.out P10.out H10.out)
                clear hi hz0 hz1 hz2 hK K
                (try simp only [jA, jB, jC, Act.put, jD, jE, jF])
                refine wpAnyH_ready (rs := [12]) (by kernel_rfl) (by simp) ?_
                refine AllReadyH.cons rfl (fun K hK => ?_) AllReadyH.nil
                rw [if_pos (by rfl)]
                have c0 : D93410.cell? ⟨bb, 0, none⟩ = some (.slice xi xI.length ci) := cell_of_block BQ.out.ct
                have z0 := row_frozen BQ.out.ct 0
                go_simp
                have h1 := (heap_setCell_row BQ.out.ct (.slice xs4 (xI.length + 1) cs4) (k := 0))
                refine hK.out _ _ ⟨(heap_setCell_other _ _ _ _ (ne_of hH.1 BQ.out.ct (by decide))).trans hH.1, cell_of_block h1⟩ (fun hH => ?_)
                clear hK K c0 z0
                (try simp only [jA, jB, jC, Act.put, jD, jE, jF])
                refine wpAnyH_take (i := 13) (v := .pointer (some ⟨bb, 1, none⟩)) rfl (by kernel_rfl) (by kernel_rfl) (by kernel_rfl) (fun _ _ _ h => h) (.inl ⟨by rfl, by intro w hS; go_simp⟩) hH ?_
                (try simp only [jA, jB, jC, Act.put, jD, jE, jF])
                refine wpAnyH_ready (rs := [14]) (by kernel_rfl) (by simp) ?_
                refine AllReadyH.cons rfl (fun K hK => ?_) AllReadyH.nil
                rw [if_pos (by rfl)]
                have c1 := cell_of_block (i := 1) h1
                have z1 := row_frozen h1 1
                go_simp
                have h2 := (heap_setCell_row h1 (.slice xs10 (xA.length + 1) cs10) (k := 1))
                refine hK.out _ _ ⟨(heap_setCell_other _ _ _ _ (ne_of hH.1 h1 (by decide))).trans hH.1, cell_of_block h2⟩ (fun hH => ?_)
                clear hK K c1 z1
                (try simp only [jA, jB, jC, Act.put, jD, jE, jF])
                refine wpAnyH_done (by kernel_rfl) ?_ _
                have GH := hidd hH.1
                have H2 := hidd h2
                clear hH h1 h2
                go_wp2_with fail
                go_meet
                have fin := BQ.out.done (I' := xI ++ [(d0, (d1 : Int), (d2 : Int), d3)]) (A' := xA ++ [xn]) (((Put.refl D93410).setCell (by simp) _).setCell (by simp) _) H2.out (by simp [inss, inV]) (by simp) (by simp [num]) (by simp)
                have l1 : xI.length + 1 = (xI ++ [(d0, (d1 : Int), (d2 : Int), d3)]).length := by simp
                have l2 : xA.length + 1 = (xA ++ [xn]).length := by simp
                rw [l1, l2] at fin
                rw [l1, l2] at GH
                rw [l1, l2]
                exact ⟨xs4, cs4, xs10, cs10, _, _, fin, GH.out⟩
              refine AllReadyH.cons rfl (fun K hK => ?_) AllReadyH.nil
              rw [if_pos (by rfl)]
              go_simp
              obtain ⟨D9, eD9⟩ : ∃ V, Hid (D.alloc (.cells #[.int .u32 xn] 25) = V) := ⟨_, rfl⟩
              obtain ⟨n9, en9⟩ : ∃ x, Hid (x = D.heap.size) := ⟨_, rfl⟩
              rw [eD9.out, ← en9.out]
              have kk : Kep D D9 := by rw [← eD9.out]; exact (Kep.refl _).alloc _
              have BX9 : Hid (D9.heap[n9]? = some (.cells #[.int .u32 xn] 25 (0, 0))) := by rw [← eD9.out, en9.out]; exact hat _ _ _ rfl
              have NX9 : Hid (∀ c ∈ FI, c ≠ n9) := fun c hc => by have := BQ.out.si.lt c hc; have := en9.out; omega
              have BQ := hidd (BQ.out.kep kk)
              refine hK.out _ _ ⟨kk.block hH.1, (kk.cell (World.block_lt_of_cell? _ _ hH.2)).trans hH.2⟩ (fun hH => ?_)
              clear hK K kk
              (try simp only [jA, jB, jC, Act.put, jD, jE, jF])
              refine wpAnyH_ready (rs := [1, 3, 6]) (by kernel_rfl) (by simp) ?_
              refine AllReadyH.cons rfl (fun K hK => ?_) ?_
              · skip
                rw [if_pos (by rfl)]
                have c0 : D9.cell? ⟨bb, 0, none⟩ = some (.slice xi xI.length ci) := cell_of_block BQ.out.ct
                go_simp
                refine hK.out _ _ hH (fun hH => ?_)
                clear hK K c0
                (try simp only [jA, jB, jC, Act.put, jD, jE, jF])
                refine wpAnyH_ready (rs := [3, 6]) (by kernel_rfl) (by simp) ?_
                refine AllReadyH.cons rfl (fun K hK => ?_) ?_
                · skip
                  rw [if_pos (by rfl)]
                  go_simp
                  obtain ⟨D93, eD93⟩ : ∃ V, Hid (D9.alloc (.cells (insA d0 d1 d2 d3) 53) = V) := ⟨_, rfl⟩
                  obtain ⟨n3, en3⟩ : ∃ x, Hid (x = D9.heap.size) := ⟨_, rfl⟩
                  rw [eD93.out, ← en3.out]
                  have kk : Kep D9 D93 := by rw [← eD93.out]; exact (Kep.refl _).alloc _
                  have BX3 : Hid (D93.heap[n3]? = some (.cells (insA d0 d1 d2 d3) 53 (0, 0))) := by rw [← eD93.out, en3.out]; exact hat _ _ _ rfl
                  have NX3 : Hid (∀ c ∈ FA, c ≠ n3) := fun c hc => by have := BQ.out.sa.lt c hc; have := en3.out; omega
                  have BQ := hidd (BQ.out.kep kk)
                  refine hK.out _ _ ⟨kk.block hH.1, (kk.cell (World.block_lt_of_cell? _ _ hH.2)).trans hH.2⟩ (fun hH => ?_)
                  have BX9 := hidd (kk.block BX9.out)
                  clear hK K kk
                  (try simp only [jA, jB, jC, Act.put, jD, jE, jF])
                  refine wpAnyH_ready (rs := [4, 6]) (by kernel_rfl) (by simp) ?_
                  refine AllReadyH.cons rfl (fun K hK => ?_) ?_
                  · skip
                    rw [if_pos (by rfl)]
                    obtain ⟨i0, hi, hz0, hz1, hz2⟩ := info_parts info_ins8
                    refine wp_append_sli (.tmp 65) (.tmp 67) 23 (by rfl) 53 i0 _ 4 8 Tryz.underlying23 hi hz0 hz1 hz2 (by rfl) (by decide) _ xI.length (inss xI) FI (by rfl) BQ.out.si ⟨n3, 0, none⟩ 1 (insA d0 d1 d2 d3).toList (by rfl) (by rfl) (World.news_of_block BX3.out) (by simp [Value.oneCell']) (by unfold maxLen; omega) (by omega) ?_
                    intro v4 D934 F4 S4 P4 H4
                    obtain ⟨xs4, cs4, hv4, _⟩ := S4.out.lies
                    subst hv4
                    have n1 : i1 ∉ FI := NI.out
                    refine hK.out _ _ ⟨P4.out.keeps hH.1 n1, (P4.out.cell (World.block_lt_of_cell? _ _ hH.2) NBI.out).trans hH.2⟩ (fun hH => ?_)
                    have BX9 := hidd (P4.out.keeps BX9.out (fun h => NX9.out _ h rfl))
                    have BQ := hidd (BQ.out.insA S4.out P4.out H4.out)
                    clear hi hz0 hz1 hz2 hK K
                    (try simp only [jA, jB, jC, Act.put, jD, jE, jF])
                    refine wpAnyH_ready (rs := [6]) (by kernel_rfl) (by simp) ?_
                    refine AllReadyH.cons rfl (fun K hK => ?_) AllReadyH.nil
                    rw [if_pos (by rfl)]
                    have c0 : D934.cell? ⟨bb, 1, none⟩ = some (.slice xa xA.length ca) := cell_of_block BQ.out.ct
                    go_simp
                    refine hK.out _ _ hH (fun hH => ?_)
                    clear hK K c0
                    (try simp only [jA, jB, jC, Act.put, jD, jE, jF])
                    refine wpAnyH_take (i := 11) (v := .pointer (some ⟨bb, 0, none⟩)) rfl (by kernel_rfl) (by kernel_rfl) (by kernel_rfl) (fun _ _ _ h => h) (.inl ⟨by rfl, by intro w hS; go_simp⟩) hH ?_
                    (try simp only [jA, jB, jC, Act.put, jD, jE, jF])
                    refine wpAnyH_ready (rs := [10]) (by kernel_rfl) (by simp) ?_
                    refine AllReadyH.cons rfl (fun K hK => ?_) AllReadyH.nil
                    rw [if_pos (by rfl)]
                    obtain ⟨i0, hi, hz0, hz1, hz2⟩ := info_parts info_u32
                    refine wp_append_sli (.tmp 70) (.tmp 73) 37 (by rfl) 25 i0 _ 1 4 Tryz.underlying37 hi hz0 hz1 hz2 (by rfl) (by decide) _ xA.length (num .u32 xA) FA (by rfl) BQ.out.sa ⟨n9, 0, none⟩ 1 [.int .u32 xn] (by rfl) (by rfl) (World.news_of_block BX9.out) (by simp [Value.oneCell']) (by unfold maxLen; omega) (by omega) ?_
                    intro v10 D93410 F10 S10 P10 H10
                    obtain ⟨xs10, cs10, hv10, _⟩ := S10.out.lies
                    subst hv10
                    refine hK.out _ _ ⟨P10.out.keeps hH.1 NA.out, (P10.out.cell (World.block_lt_of_cell? _ _ hH.2) NBA.out).trans hH.2⟩ (fun hH => ?_)
                    have BQ := hidd (BQ.out.atA S10.out P10.out H10.out)
                    clear hi hz0 hz1 hz2 hK K
                    (try simp only [jA, jB, jC, Act.put, jD, jE, jF])
                    refine wpAnyH_ready (rs := [12]) (by kernel_rfl) (by simp) ?_
                    refine AllReadyH.cons rfl (fun K hK => ?_) AllReadyH.nil
                    rw [if_pos (by rfl)]
                    have c0 : D93410.cell? ⟨bb, 0, none⟩ = some (.slice xi xI.length ci) := cell_of_block BQ.out.ct
                    have z0 := row_frozen BQ.out.ct 0
                    go_simp
                    have h1 := (heap_setCell_row BQ.out.ct (.slice xs4 (xI.length + 1) cs4) (k := 0))
                    refine hK.out _ _ ⟨(heap_setCell_other _ _ _ _ (ne_of hH.1 BQ.out.ct (by decide))).trans hH.1, cell_of_block h1⟩ (fun hH => ?_)
                    clear hK K c0 z0
                    (try simp only [jA, jB, jC, Act.put, jD, jE, jF])
                    refine wpAnyH_take (i := 13) (v := .pointer (some ⟨bb, 1, none⟩)) rfl (by kernel_rfl) (by kernel_rfl) (by kernel_rfl) (fun _ _ _ h => h) (.inl ⟨by rfl, by intro w hS; go_simp⟩) hH ?_
                    (try simp only [jA, jB, jC, Act.put, jD, jE, jF])
                    refine wpAnyH_ready (rs := [14]) (by kernel_rfl) (by simp) ?_
                    refine AllReadyH.cons rfl (fun K hK => ?_) AllReadyH.nil
                    rw [if_pos (by rfl)]
                    have c1 := cell_of_block (i := 1) h1
                    have z1 := row_frozen h1 1
                    go_simp
                    have h2 := (heap_setCell_row h1 (.slice xs10 (xA.length + 1) cs10) (k := 1))
                    refine hK.out _ _ ⟨(heap_setCell_other _ _ _ _ (ne_of hH.1 h1 (by decide))).trans hH.1, cell_of_block h2⟩ (fun hH => ?_)
                    clear hK K c1 z1
                    (try simp only [jA, jB, jC, Act.put, jD, jE, jF])
                    refine wpAnyH_done (by kernel_rfl) ?_ _
                    have GH := hidd hH.1
                    have H2 := hidd h2
                    clear hH h1 h2
                    go_wp2_with fail
                    go_meet
                    have fin := BQ.out.done (I' := xI ++ [(d0, (d1 : Int), (d2 : Int), d3)]) (A' := xA ++ [xn]) (((Put.refl D93410).setCell (by simp) _).setCell (by simp) _) H2.out (by simp [inss, inV]) (by simp) (by simp [num]) (by simp)
                    have l1 : xI.length + 1 = (xI ++ [(d0, (d1 : Int), (d2 : Int), d3)]).length := by simp
                    have l2 : xA.length + 1 = (xA ++ [xn]).length := by simp
                    rw [l1, l2] at fin
                    rw [l1, l2] at GH
                    rw [l1, l2]
                    exact ⟨xs4, cs4, xs10, cs10, _, _, fin, GH.out⟩
                  refine AllReadyH.cons rfl (fun K hK => ?_) AllReadyH.nil
                  rw [if_pos (by rfl)]
                  have c0 : D93.cell? ⟨bb, 1, none⟩ = some (.slice xa xA.length ca) := cell_of_block BQ.out.ct
                  go_simp
                  refine hK.out _ _ hH (fun hH => ?_)
                  clear hK K c0
                  (try simp only [jA, jB, jC, Act.put, jD, jE, jF])
                  refine wpAnyH_ready (rs := [4]) (by kernel_rfl) (by simp) ?_
                  refine AllReadyH.cons rfl (fun K hK => ?_) AllReadyH.nil
                  rw [if_pos (by rfl)]
                  obtain ⟨i0, hi, hz0, hz1, hz2⟩ := info_parts info_ins8
                  refine wp_append_sli (.tmp 65) (.tmp 67) 23 (by rfl) 53 i0 _ 4 8 Tryz.underlying23 hi hz0 hz1 hz2 (by rfl) (by decide) _ xI.length (inss xI) FI (by rfl) BQ.out.si ⟨n3, 0, none⟩ 1 (insA d0 d1 d2 d3).toList (by rfl) (by rfl) (World.news_of_block BX3.out) (by simp [Value.oneCell']) (by unfold maxLen; omega) (by omega) ?_
                  intro v4 D934 F4 S4 P4 H4
                  obtain ⟨xs4, cs4, hv4, _⟩ := S4.out.lies
                  subst hv4
                  have n1 : i1 ∉ FI := NI.out
                  refine hK.out _ _ ⟨P4.out.keeps hH.1 n1, (P4.out.cell (World.block_lt_of_cell? _ _ hH.2) NBI.out).trans hH.2⟩ (fun hH => ?_)
                  have BX9 := hidd (P4.out.keeps BX9.out (fun h => NX9.out _ h rfl))
                  have BQ := hidd (BQ.out.insA S4.out P4.out H4.out)
                  clear hi hz0 hz1 hz2 hK K
                  (try simp only [jA, jB, jC, Act.put, jD, jE, jF])
                  refine wpAnyH_take (i := 11) (v := .pointer (some ⟨bb, 0, none⟩)) rfl (by kernel_rfl) (by kernel_rfl) (by kernel_rfl) (fun _ _ _ h => h) (.inl ⟨by rfl, by intro w hS; go_simp⟩) hH ?_
                  (try simp only [jA, jB, jC, Act.put, jD, jE, jF])
                  refine wpAnyH_ready (rs := [10]) (by kernel_rfl) (by simp) ?_
                  refine AllReadyH.cons rfl (fun K hK => ?_) AllReadyH.nil
                  rw [if_pos (by rfl)]
                  obtain ⟨i0, hi, hz0, hz1, hz2⟩ := info_parts info_u32
                  refine wp_append_sli (.tmp 70) (.tmp 73) 37 (by rfl) 25 i0 _ 1 4 Tryz.underlying37 hi hz0 hz1 hz2 (by rfl) (by decide) _ xA.length (num .u32 xA) FA (by rfl) BQ.out.sa ⟨n9, 0, none⟩ 1 [.int .u32 xn] (by rfl) (by rfl) (World.news_of_block BX9.out) (by simp [Value.oneCell']) (by unfold maxLen; omega) (by omega) ?_
                  intro v10 D93410 F10 S10 P10 H10
                  obtain ⟨xs10, cs10, hv10, _⟩ := S10.out.lies
                  subst hv10
                  refine hK.out _ _ ⟨P10.out.keeps hH.1 NA.out, (P10.out.cell (World.block_lt_of_cell? _ _ hH.2) NBA.out).trans hH.2⟩ (fun hH => ?_)
                  have BQ := hidd (BQ.out.atA S10.out P10.out H10.out)
                  clear hi hz0 hz1 hz2 hK K
                  (try simp only [jA, jB, jC, Act.put, jD, jE, jF])
                  refine wpAnyH_ready (rs := [12]) (by kernel_rfl) (by simp) ?_
                  refine AllReadyH.cons rfl (fun K hK => ?_) AllReadyH.nil
                  rw [if_pos (by rfl)]
                  have c0 : D93410.cell? ⟨bb, 0, none⟩ = some (.slice xi xI.length ci) := cell_of_block BQ.out.ct
                  have z0 := row_frozen BQ.out.ct 0
                  go_simp
                  have h1 := (heap_setCell_row BQ.out.ct (.slice xs4 (xI.length + 1) cs4) (k := 0))
                  refine hK.out _ _ ⟨(heap_setCell_other _ _ _ _ (ne_of hH.1 BQ.out.ct (by decide))).trans hH.1, cell_of_block h1⟩ (fun hH => ?_)
                  clear hK K c0 z0
                  (try simp only [jA, jB, jC, Act.put, jD, jE, jF])
                  refine wpAnyH_take (i := 13) (v := .pointer (some ⟨bb, 1, none⟩)) rfl (by kernel_rfl) (by kernel_rfl) (by kernel_rfl) (fun _ _ _ h => h) (.inl ⟨by rfl, by intro w hS; go_simp⟩) hH ?_
                  (try simp only [jA, jB, jC, Act.put, jD, jE, jF])
                  refine wpAnyH_ready (rs := [14]) (by kernel_rfl) (by simp) ?_
                  refine AllReadyH.cons rfl (fun K hK => ?_) AllReadyH.nil
                  rw [if_pos (by rfl)]
                  have c1 := cell_of_block (i := 1) h1
                  have z1 := row_frozen h1 1
                  go_simp
                  have h2 := (heap_setCell_row h1 (.slice xs10 (xA.length + 1) cs10) (k := 1))
                  refine hK.out _ _ ⟨(heap_setCell_other _ _ _ _ (ne_of hH.1 h1 (by decide))).trans hH.1, cell_of_block h2⟩ (fun hH => ?_)
                  clear hK K c1 z1
                  (try simp only [jA, jB, jC, Act.put, jD, jE, jF])
                  refine wpAnyH_done (by kernel_rfl) ?_ _
                  have GH := hidd hH.1
                  have H2 := hidd h2
                  clear hH h1 h2
                  go_wp2_with fail
                  go_meet
                  have fin := BQ.out.done (I' := xI ++ [(d0, (d1 : Int), (d2 : Int), d3)]) (A' := xA ++ [xn]) (((Put.refl D93410).setCell (by simp) _).setCell (by simp) _) H2.out (by simp [inss, inV]) (by simp) (by simp [num]) (by simp)
                  have l1 : xI.length + 1 = (xI ++ [(d0, (d1 : Int), (d2 : Int), d3)]).length := by simp
                  have l2 : xA.length + 1 = (xA ++ [xn]).length := by simp
                  rw [l1, l2] at fin
                  rw [l1, l2] at GH
                  rw [l1, l2]
                  exact ⟨xs4, cs4, xs10, cs10, _, _, fin, GH.out⟩
                refine AllReadyH.cons rfl (fun K hK => ?_) AllReadyH.nil
                rw [if_pos (by rfl)]
                have c0 : D9.cell? ⟨bb, 1, none⟩ = some (.slice xa xA.length ca) := cell_of_block BQ.out.ct
                go_simp
                refine hK.out _ _ hH (fun hH => ?_)
                clear hK K c0
                (try simp only [jA, jB, jC, Act.put, jD, jE, jF])
                refine wpAnyH_ready (rs := [3]) (by kernel_rfl) (by simp) ?_
                refine AllReadyH.cons rfl (fun K hK => ?_) AllReadyH.nil
                rw [if_pos (by rfl)]
                go_simp
                obtain ⟨D93, eD93⟩ : ∃ V, Hid (D9.alloc (.cells (insA d0 d1 d2 d3) 53) = V) := ⟨_, rfl⟩
                obtain ⟨n3, en3⟩ : ∃ x, Hid (x = D9.heap.size) := ⟨_, rfl⟩
                rw [eD93.out, ← en3.out]
                have kk : Kep D9 D93 := by rw [← eD93.out]; exact (Kep.refl _).alloc _
                have BX3 : Hid (D93.heap[n3]? = some (.cells (insA d0 d1 d2 d3) 53 (0, 0))) := by rw [← eD93.out, en3.out]; exact hat _ _ _ rfl
                have NX3 : Hid (∀ c ∈ FA, c ≠ n3) := fun c hc => by have := BQ.out.sa.lt c hc; have := en3.out; omega
                have BQ := hidd (BQ.out.kep kk)
                refine hK.out _ _ ⟨kk.block hH.1, (kk.cell (World.block_lt_of_cell? _ _ hH.2)).trans hH.2⟩ (fun hH => ?_)
                have BX9 := hidd (kk.block BX9.out)
                clear hK K kk
                (try simp only [jA, jB, jC, Act.put, jD, jE, jF])
                refine wpAnyH_ready (rs := [4]) (by kernel_rfl) (by simp) ?_
                refine AllReadyH.cons rfl (fun K hK => ?_) AllReadyH.nil
                rw [if_pos (by rfl)]
                obtain ⟨i0, hi, hz0, hz1, hz2⟩ := info_parts info_ins8
                refine wp_append_sli (.tmp 65) (.tmp 67) 23 (by rfl) 53 i0 _ 4 8 Tryz.underlying23 hi hz0 hz1 hz2 (by rfl) (by decide) _ xI.length (inss xI) FI (by rfl) BQ.out.si ⟨n3, 0, none⟩ 1 (insA d0 d1 d2 d3).toList (by rfl) (by rfl) (World.news_of_block BX3.out) (by simp [Value.oneCell']) (by unfold maxLen; omega) (by omega) ?_
                intro v4 D934 F4 S4 P4 H4
                obtain ⟨xs4, cs4, hv4, _⟩ := S4.out.lies
                subst hv4
                have n1 : i1 ∉ FI := NI.out
                refine hK.out _ _ ⟨P4.out.keeps hH.1 n1, (P4.out.cell (World.block_lt_of_cell? _ _ hH.2) NBI.out).trans hH.2⟩ (fun hH => ?_)
                have BX9 := hidd (P4.out.keeps BX9.out (fun h => NX9.out _ h rfl))
                have BQ := hidd (BQ.out.insA S4.out P4.out H4.out)
                clear hi hz0 hz1 hz2 hK K
                (try simp only [jA, jB, jC, Act.put, jD, jE, jF])
                refine wpAnyH_take (i := 11) (v := .pointer (some ⟨bb, 0, none⟩)) rfl (by kernel_rfl) (by kernel_rfl) (by kernel_rfl) (fun _ _ _ h => h) (.inl ⟨by rfl, by intro w hS; go_simp⟩) hH ?_
                (try simp only [jA, jB, jC, Act.put, jD, jE, jF])
                refine wpAnyH_ready (rs := [10]) (by kernel_rfl) (by simp) ?_
                refine AllReadyH.cons rfl (fun K hK => ?_) AllReadyH.nil
                rw [if_pos (by rfl)]
                obtain ⟨i0, hi, hz0, hz1, hz2⟩ := info_parts info_u32
                refine wp_append_sli (.tmp 70) (.tmp 73) 37 (by rfl) 25 i0 _ 1 4 Tryz.underlying37 hi hz0 hz1 hz2 (by rfl) (by decide) _ xA.length (num .u32 xA) FA (by rfl) BQ.out.sa ⟨n9, 0, none⟩ 1 [.int .u32 xn] (by rfl) (by rfl) (World.news_of_block BX9.out) (by simp [Value.oneCell']) (by unfold maxLen; omega) (by omega) ?_
                intro v10 D93410 F10 S10 P10 H10
                obtain ⟨xs10, cs10, hv10, _⟩ := S10.out.lies
                subst hv10
                refine hK.out _ _ ⟨P10.out.keeps hH.1 NA.out, (P10.out.cell (World.block_lt_of_cell? _ _ hH.2) NBA.out).trans hH.2⟩ (fun hH => ?_)
                have BQ := hidd (BQ.out.atA S10.out P10.out H10.out)
                clear hi hz0 hz1 hz2 hK K
                (try simp only [jA, jB, jC, Act.put, jD, jE, jF])
                refine wpAnyH_ready (rs := [12]) (by kernel_rfl) (by simp) ?_
                refine AllReadyH.cons rfl (fun K hK => ?_) AllReadyH.nil
                rw [if_pos (by rfl)]
                have c0 : D93410.cell? ⟨bb, 0, none⟩ = some (.slice xi xI.length ci) := cell_of_block BQ.out.ct
                have z0 := row_frozen BQ.out.ct 0
                go_simp
                have h1 := (heap_setCell_row BQ.out.ct (.slice xs4 (xI.length + 1) cs4) (k := 0))
                refine hK.out _ _ ⟨(heap_setCell_other _ _ _ _ (ne_of hH.1 BQ.out.ct (by decide))).trans hH.1, cell_of_block h1⟩ (fun hH => ?_)
                clear hK K c0 z0
                (try simp only [jA, jB, jC, Act.put, jD, jE, jF])
                refine wpAnyH_take (i := 13) (v := .pointer (some ⟨bb, 1, none⟩)) rfl (by kernel_rfl) (by kernel_rfl) (by kernel_rfl) (fun _ _ _ h => h) (.inl ⟨by rfl, by intro w hS; go_simp⟩) hH ?_
                (try simp only [jA, jB, jC, Act.put, jD, jE, jF])
                refine wpAnyH_ready (rs := [14]) (by kernel_rfl) (by simp) ?_
                refine AllReadyH.cons rfl (fun K hK => ?_) AllReadyH.nil
                rw [if_pos (by rfl)]
                have c1 := cell_of_block (i := 1) h1
                have z1 := row_frozen h1 1
                go_simp
                have h2 := (heap_setCell_row h1 (.slice xs10 (xA.length + 1) cs10) (k := 1))
                refine hK.out _ _ ⟨(heap_setCell_other _ _ _ _ (ne_of hH.1 h1 (by decide))).trans hH.1, cell_of_block h2⟩ (fun hH => ?_)
                clear hK K c1 z1
                (try simp only [jA, jB, jC, Act.put, jD, jE, jF])
                refine wpAnyH_done (by kernel_rfl) ?_ _
                have GH := hidd hH.1
                have H2 := hidd h2
                clear hH h1 h2
                go_wp2_with fail
                go_meet
                have fin := BQ.out.done (I' := xI ++ [(d0, (d1 : Int), (d2 : Int), d3)]) (A' := xA ++ [xn]) (((Put.refl D93410).setCell (by simp) _).setCell (by simp) _) H2.out (by simp [inss, inV]) (by simp) (by simp [num]) (by simp)
                have l1 : xI.length + 1 = (xI ++ [(d0, (d1 : Int), (d2 : Int), d3)]).length := by simp
                have l2 : xA.length + 1 = (xA ++ [xn]).length := by simp
                rw [l1, l2] at fin
                rw [l1, l2] at GH
                rw [l1, l2]
                exact ⟨xs4, cs4, xs10, cs10, _, _, fin, GH.out⟩
              refine AllReadyH.cons rfl (fun K hK => ?_) ?_
              · skip
                rw [if_pos (by rfl)]
                go_simp
                obtain ⟨D93, eD93⟩ : ∃ V, Hid (D9.alloc (.cells (insA d0 d1 d2 d3) 53) = V) := ⟨_, rfl⟩
                obtain ⟨n3, en3⟩ : ∃ x, Hid (x = D9.heap.size) := ⟨_, rfl⟩
                rw [eD93.out, ← en3.out]
                have kk : Kep D9 D93 := by rw [← eD93.out]; exact (Kep.refl _).alloc _
                have BX3 : Hid (D93.heap[n3]? = some (.cells (insA d0 d1 d2 d3) 53 (0, 0))) := by rw [← eD93.out, en3.out]; exact hat _ _ _ rfl
                have NX3 : Hid (∀ c ∈ FA, c ≠ n3) := fun c hc => by have := BQ.out.sa.lt c hc; have := en3.out; omega
                have BQ := hidd (BQ.out.kep kk)
                refine hK.out _ _ ⟨kk.block hH.1, (kk.cell (World.block_lt_of_cell? _ _ hH.2)).trans hH.2⟩ (fun hH => ?_)
                have BX9 := hidd (kk.block BX9.out)
                clear hK K kk
                (try simp only [jA, jB, jC, Act.put, jD, jE, jF])
                refine wpAnyH_ready (rs := [1, 6]) (by kernel_rfl) (by simp) ?_
                refine AllReadyH.cons rfl (fun K hK => ?_) ?_
                · skip
                  rw [if_pos (by rfl)]
                  have c0 : D93.cell? ⟨bb, 0, none⟩ = some (.slice xi xI.length ci) := cell_of_block BQ.out.ct
                  go_simp
                  refine hK.out _ _ hH (fun hH => ?_)
                  clear hK K c0
                  (try simp only [jA, jB, jC, Act.put, jD, jE, jF])
                  refine wpAnyH_ready (rs := [4, 6]) (by kernel_rfl) (by simp) ?_
                  refine AllReadyH.cons rfl (fun K hK => ?_) ?_
                  · skip
                    rw [if_pos (by rfl)]
                    obtain ⟨i0, hi, hz0, hz1, hz2⟩ := info_parts info_ins8
                    refine wp_append_sli (.tmp 65) (.tmp 67) 23 (by rfl) 53 i0 _ 4 8 Tryz.underlying23 hi hz0 hz1 hz2 (by rfl) (by decide) _ xI.length (inss xI) FI (by rfl) BQ.out.si ⟨n3, 0, none⟩ 1 (insA d0 d1 d2 d3).toList (by rfl) (by rfl) (World.news_of_block BX3.out) (by simp [Value.oneCell']) (by unfold maxLen; omega) (by omega) ?_
                    intro v4 D934 F4 S4 P4 H4
                    obtain ⟨xs4, cs4, hv4, _⟩ := S4.out.lies
                    subst hv4
                    have n1 : i1 ∉ FI := NI.out
                    refine hK.out _ _ ⟨P4.out.keeps hH.1 n1, (P4.out.cell (World.block_lt_of_cell? _ _ hH.2) NBI.out).trans hH.2⟩ (fun hH => ?_)
                    have BX9 := hidd (P4.out.keeps BX9.out (fun h => NX9.out _ h rfl))
                    have BQ := hidd (BQ.out.insA S4.out P4.out H4.out)
                    clear hi hz0 hz1 hz2 hK K
                    (try simp only [jA, jB, jC, Act.put, jD, jE, jF])
                    refine wpAnyH_ready (rs := [6]) (by kernel_rfl) (by simp) ?_
                    refine AllReadyH.cons rfl (fun K hK => ?_) AllReadyH.nil
                    rw [if_pos (by rfl)]
                    have c0 : D934.cell? ⟨bb, 1, none⟩ = some (.slice xa xA.length ca) := cell_of_block BQ.out.ct
                    go_simp
                    refine hK.out _ _ hH (fun hH => ?_)
                    clear hK K c0
                    (try simp only [jA, jB, jC, Act.put, jD, jE, jF])
                    refine wpAnyH_take (i := 11) (v := .pointer (some ⟨bb, 0, none⟩)) rfl (by kernel_rfl) (by kernel_rfl) (by kernel_rfl) (fun _ _ _ h => h) (.inl ⟨by rfl, by intro w hS; go_simp⟩) hH ?_
                    (try simp only [jA, jB, jC, Act.put, jD, jE, jF])
                    refine wpAnyH_ready (rs := [10]) (by kernel_rfl) (by simp) ?_
                    refine AllReadyH.cons rfl (fun K hK => ?_) AllReadyH.nil
                    rw [if_pos (by rfl)]
                    obtain ⟨i0, hi, hz0, hz1, hz2⟩ := info_parts info_u32
                    refine wp_append_sli (.tmp 70) (.tmp 73) 37 (by rfl) 25 i0 _ 1 4 Tryz.underlying37 hi hz0 hz1 hz2 (by rfl) (by decide) _ xA.length (num .u32 xA) FA (by rfl) BQ.out.sa ⟨n9, 0, none⟩ 1 [.int .u32 xn] (by rfl) (by rfl) (World.news_of_block BX9.out) (by simp [Value.oneCell']) (by unfold maxLen; omega) (by omega) ?_
                    intro v10 D93410 F10 S10 P10 H10
                    obtain ⟨xs10, cs10, hv10, _⟩ := S10.out.lies
                    subst hv10
                    refine hK.out _ _ ⟨P10.out.keeps hH.1 NA.out, (P10.out.cell (World.block_lt_of_cell? _ _ hH.2) NBA.out).trans hH.2⟩ (fun hH => ?_)
                    have BQ := hidd (BQ.out.atA S10.out P10.out H10.out)
                    clear hi hz0 hz1 hz2 hK K
                    (try simp only [jA, jB, jC, Act.put, jD, jE, jF])
                    refine wpAnyH_ready (rs := [12]) (by kernel_rfl) (by simp) ?_
                    refine AllReadyH.cons rfl (fun K hK => ?_) AllReadyH.nil
                    rw [if_pos (by rfl)]
                    have c0 : D93410.cell? ⟨bb, 0, none⟩ = some (.slice xi xI.length ci) := cell_of_block BQ.out.ct
                    have z0 := row_frozen BQ.out.ct 0
                    go_simp
                    have h1 := (heap_setCell_row BQ.out.ct (.slice xs4 (xI.length + 1) cs4) (k := 0))
                    refine hK.out _ _ ⟨(heap_setCell_other _ _ _ _ (ne_of hH.1 BQ.out.ct (by decide))).trans hH.1, cell_of_block h1⟩ (fun hH => ?_)
                    clear hK K c0 z0
                    (try simp only [jA, jB, jC, Act.put, jD, jE, jF])
                    refine wpAnyH_take (i := 13) (v := .pointer (some ⟨bb, 1, none⟩)) rfl (by kernel_rfl) (by kernel_rfl) (by kernel_rfl) (fun _ _ _ h => h) (.inl ⟨by rfl, by intro w hS; go_simp⟩) hH ?_
                    (try simp only [jA, jB, jC, Act.put, jD, jE, jF])
                    refine wpAnyH_ready (rs := [14]) (by kernel_rfl) (by simp) ?_
                    refine AllReadyH.cons rfl (fun K hK => ?_) AllReadyH.nil
                    rw [if_pos (by rfl)]
                    have c1 := cell_of_block (i := 1) h1
                    have z1 := row_frozen h1 1
                    go_simp
                    have h2 := (heap_setCell_row h1 (.slice xs10 (xA.length + 1) cs10) (k := 1))
                    refine hK.out _ _ ⟨(heap_setCell_other _ _ _ _ (ne_of hH.1 h1 (by decide))).trans hH.1, cell_of_block h2⟩ (fun hH => ?_)
                    clear hK K c1 z1
                    (try simp only [jA, jB, jC, Act.put, jD, jE, jF])
                    refine wpAnyH_done (by kernel_rfl) ?_ _
                    have GH := hidd hH.1
                    have H2 := hidd h2
                    clear hH h1 h2
                    go_wp2_with fail
                    go_meet
                    have fin := BQ.out.done (I' := xI ++ [(d0, (d1 : Int), (d2 : Int), d3)]) (A' := xA ++ [xn]) (((Put.refl D93410).setCell (by simp) _).setCell (by simp) _) H2.out (by simp [inss, inV]) (by simp) (by simp [num]) (by simp)
                    have l1 : xI.length + 1 = (xI ++ [(d0, (d1 : Int), (d2 : Int), d3)]).length := by simp
                    have l2 : xA.length + 1 = (xA ++ [xn]).length := by simp
                    rw [l1, l2] at fin
                    rw [l1, l2] at GH
                    rw [l1, l2]
                    exact ⟨xs4, cs4, xs10, cs10, _, _, fin, GH.out⟩
                  refine AllReadyH.cons rfl (fun K hK => ?_) AllReadyH.nil
                  rw [if_pos (by rfl)]
                  have c0 : D93.cell? ⟨bb, 1, none⟩ = some (.slice xa xA.length ca) := cell_of_block BQ.out.ct
                  go_simp
                  refine hK.out _ _ hH (fun hH => ?_)
                  clear hK K c0
                  (try simp only [jA, jB, jC, Act.put, jD, jE, jF])
                  refine wpAnyH_ready (rs := [4]) (by kernel_rfl) (by simp) ?_
                  refine AllReadyH.cons rfl (fun K hK => ?_) AllReadyH.nil
                  rw [if_pos (by rfl)]
                  obtain ⟨i0, hi, hz0, hz1, hz2⟩ := info_parts info_ins8
                  refine wp_append_sli (.tmp 65) (.tmp 67) 23 (by rfl) 53 i0 _ 4 8 Tryz.underlying23 hi hz0 hz1 hz2 (by rfl) (by decide) _ xI.length (inss xI) FI (by rfl) BQ.out.si ⟨n3, 0, none⟩ 1 (insA d0 d1 d2 d3).toList (by rfl) (by rfl) (World.news_of_block BX3.out) (by simp [Value.oneCell']) (by unfold maxLen; omega) (by omega) ?_
                  intro v4 D934 F4 S4 P4 H4
                  obtain ⟨xs4, cs4, hv4, _⟩ := S4.out.lies
                  subst hv4
                  have n1 : i1 ∉ FI := NI.out
                  refine hK.out _ _ ⟨P4.out.keeps hH.1 n1, (P4.out.cell (World.block_lt_of_cell? _ _ hH.2) NBI.out).trans hH.2⟩ (fun hH => ?_)
                  have BX9 := hidd (P4.out.keeps BX9.out (fun h => NX9.out _ h rfl))
                  have BQ := hidd (BQ.out.insA S4.out P4.out H4.out)
                  clear hi hz0 hz1 hz2 hK K
                  (try simp only [jA, jB, jC, Act.put, jD, jE, jF])
                  refine wpAnyH_take (i := 11) (v := .pointer (some ⟨bb, 0, none⟩)) rfl (by kernel_rfl) (by kernel_rfl) (by kernel_rfl) (fun _ _ _ h => h) (.inl ⟨by rfl, by intro w hS; go_simp⟩) hH ?_
                  (try simp only [jA, jB, jC, Act.put, jD, jE, jF])
                  refine wpAnyH_ready (rs := [10]) (by kernel_rfl) (by simp) ?_
                  refine AllReadyH.cons rfl (fun K hK => ?_) AllReadyH.nil
                  rw [if_pos (by rfl)]
                  obtain ⟨i0, hi, hz0, hz1, hz2⟩ := info_parts info_u32
                  refine wp_append_sli (.tmp 70) (.tmp 73) 37 (by rfl) 25 i0 _ 1 4 Tryz.underlying37 hi hz0 hz1 hz2 (by rfl) (by decide) _ xA.length (num .u32 xA) FA (by rfl) BQ.out.sa ⟨n9, 0, none⟩ 1 [.int .u32 xn] (by rfl) (by rfl) (World.news_of_block BX9.out) (by simp [Value.oneCell']) (by unfold maxLen; omega) (by omega) ?_
                  intro v10 D93410 F10 S10 P10 H10
                  obtain ⟨xs10, cs10, hv10, _⟩ := S10.out.lies
                  subst hv10
                  refine hK.out _ _ ⟨P10.out.keeps hH.1 NA.out, (P10.out.cell (World.block_lt_of_cell? _ _ hH.2) NBA.out).trans hH.2⟩ (fun hH => ?_)
                  have BQ := hidd (BQ.out.atA S10.out P10.out H10.out)
                  clear hi hz0 hz1 hz2 hK K
                  (try simp only [jA, jB, jC, Act.put, jD, jE, jF])
                  refine wpAnyH_ready (rs := [12]) (by kernel_rfl) (by simp) ?_
                  refine AllReadyH.cons rfl (fun K hK => ?_) AllReadyH.nil
                  rw [if_pos (by rfl)]
                  have c0 : D93410.cell? ⟨bb, 0, none⟩ = some (.slice xi xI.length ci) := cell_of_block BQ.out.ct
                  have z0 := row_frozen BQ.out.ct 0
                  go_simp
                  have h1 := (heap_setCell_row BQ.out.ct (.slice xs4 (xI.length + 1) cs4) (k := 0))
                  refine hK.out _ _ ⟨(heap_setCell_other _ _ _ _ (ne_of hH.1 BQ.out.ct (by decide))).trans hH.1, cell_of_block h1⟩ (fun hH => ?_)
                  clear hK K c0 z0
                  (try simp only [jA, jB, jC, Act.put, jD, jE, jF])
                  refine wpAnyH_take (i := 13) (v := .pointer (some ⟨bb, 1, none⟩)) rfl (by kernel_rfl) (by kernel_rfl) (by kernel_rfl) (fun _ _ _ h => h) (.inl ⟨by rfl, by intro w hS; go_simp⟩) hH ?_
                  (try simp only [jA, jB, jC, Act.put, jD, jE, jF])
                  refine wpAnyH_ready (rs := [14]) (by kernel_rfl) (by simp) ?_
                  refine AllReadyH.cons rfl (fun K hK => ?_) AllReadyH.nil
                  rw [if_pos (by rfl)]
                  have c1 := cell_of_block (i := 1) h1
                  have z1 := row_frozen h1 1
                  go_simp
                  have h2 := (heap_setCell_row h1 (.slice xs10 (xA.length + 1) cs10) (k := 1))
                  refine hK.out _ _ ⟨(heap_setCell_other _ _ _ _ (ne_of hH.1 h1 (by decide))).trans hH.1, cell_of_block h2⟩ (fun hH => ?_)
                  clear hK K c1 z1
                  (try simp only [jA, jB, jC, Act.put, jD, jE, jF])
                  refine wpAnyH_done (by kernel_rfl) ?_ _
                  have GH := hidd hH.1
                  have H2 := hidd h2
                  clear hH h1 h2
                  go_wp2_with fail
                  go_meet
                  have fin := BQ.out.done (I' := xI ++ [(d0, (d1 : Int), (d2 : Int), d3)]) (A' := xA ++ [xn]) (((Put.refl D93410).setCell (by simp) _).setCell (by simp) _) H2.out (by simp [inss, inV]) (by simp) (by simp [num]) (by simp)
                  have l1 : xI.length + 1 = (xI ++ [(d0, (d1 : Int), (d2 : Int), d3)]).length := by simp
                  have l2 : xA.length + 1 = (xA ++ [xn]).length := by simp
                  rw [l1, l2] at fin
                  rw [l1, l2] at GH
                  rw [l1, l2]
                  exact ⟨xs4, cs4, xs10, cs10, _, _, fin, GH.out⟩
                refine AllReadyH.cons rfl (fun K hK => ?_) AllReadyH.nil
                rw [if_pos (by rfl)]
                have c0 : D93.cell? ⟨bb, 1, none⟩ = some (.slice xa xA.length ca) := cell_of_block BQ.out.ct
                go_simp
                refine hK.out _ _ hH (fun hH => ?_)
                clear hK K c0
                (try simp only [jA, jB, jC, Act.put, jD, jE, jF])
                refine wpAnyH_ready (rs := [1]) (by kernel_rfl) (by simp) ?_
                refine AllReadyH.cons rfl (fun K hK => ?_) AllReadyH.nil
                rw [if_pos (by rfl)]
                have c0 : D93.cell? ⟨bb, 0, none⟩ = some (.slice xi xI.length ci) := cell_of_block BQ.out.ct
                go_simp
                refine hK.out _ _ hH (fun hH => ?_)
                clear hK K c0
                (try simp only [jA, jB, jC, Act.put, jD, jE, jF])
                refine wpAnyH_ready (rs := [4]) (by kernel_rfl) (by simp) ?_
                refine AllReadyH.cons rfl (fun K hK => ?_) AllReadyH.nil
                rw [if_pos (by rfl)]
                obtain ⟨i0, hi, hz0, hz1, hz2⟩ := info_parts info_ins8
                refine wp_append_sli (.tmp 65) (.tmp 67) 23 (by rfl) 53 i0 _ 4 8 Tryz.underlying23 hi hz0 hz1 hz2 (by rfl) (by decide) _ xI.length (inss xI) FI (by rfl) BQ.out.si ⟨n3, 0, none⟩ 1 (insA d0 d1 d2 d3).toList (by rfl) (by rfl) (World.news_of_block BX3.out) (by simp [Value.oneCell']) (by unfold maxLen; omega) (by omega) ?_
                intro v4 D934 F4 S4 P4 H4
                obtain ⟨xs4, cs4, hv4, _⟩ := S4.out.lies
                subst hv4
                have n1 : i1 ∉ FI := NI.out
                refine hK.out _ _ ⟨P4.out.keeps hH.1 n1, (P4.out.cell (World.block_lt_of_cell? _ _ hH.2) NBI.out).trans hH.2⟩ (fun hH => ?_)
                have BX9 := hidd (P4.out.keeps BX9.out (fun h => NX9.out _ h rfl))
                have BQ := hidd (BQ.out.insA S4.out P4.out H4.out)
                clear hi hz0 hz1 hz2 hK K
                (try simp only [jA, jB, jC, Act.put, jD, jE, jF])
                refine wpAnyH_take (i := 11) (v := .pointer (some ⟨bb, 0, none⟩)) rfl (by kernel_rfl) (by kernel_rfl) (by kernel_rfl) (fun _ _ _ h => h) (.inl ⟨by rfl, by intro w hS; go_simp⟩) hH ?_
                (try simp only [jA, jB, jC, Act.put, jD, jE, jF])
                refine wpAnyH_ready (rs := [10]) (by kernel_rfl) (by simp) ?_
                refine AllReadyH.cons rfl (fun K hK => ?_) AllReadyH.nil
                rw [if_pos (by rfl)]
                obtain ⟨i0, hi, hz0, hz1, hz2⟩ := info_parts info_u32
                refine wp_append_sli (.tmp 70) (.tmp 73) 37 (by rfl) 25 i0 _ 1 4 Tryz.underlying37 hi hz0 hz1 hz2 (by rfl) (by decide) _ xA.length (num .u32 xA) FA (by rfl) BQ.out.sa ⟨n9, 0, none⟩ 1 [.int .u32 xn] (by rfl) (by rfl) (World.news_of_block BX9.out) (by simp [Value.oneCell']) (by unfold maxLen; omega) (by omega) ?_
                intro v10 D93410 F10 S10 P10 H10
                obtain ⟨xs10, cs10, hv10, _⟩ := S10.out.lies
                subst hv10
                refine hK.out _ _ ⟨P10.out.keeps hH.1 NA.out, (P10.out.cell (World.block_lt_of_cell? _ _ hH.2) NBA.out).trans hH.2⟩ (fun hH => ?_)
                have BQ := hidd (BQ.out.atA S10.out P10.out H10.out)
                clear hi hz0 hz1 hz2 hK K
                (try simp only [jA, jB, jC, Act.put, jD, jE, jF])
                refine wpAnyH_ready (rs := [12]) (by kernel_rfl) (by simp) ?_
                refine AllReadyH.cons rfl (fun K hK => ?_) AllReadyH.nil
                rw [if_pos (by rfl)]
                have c0 : D93410.cell? ⟨bb, 0, none⟩ = some (.slice xi xI.length ci) := cell_of_block BQ.out.ct
                have z0 := row_frozen BQ.out.ct 0
                go_simp
                have h1 := (heap_setCell_row BQ.out.ct (.slice xs4 (xI.length + 1) cs4) (k := 0))
                refine hK.out _ _ ⟨(heap_setCell_other _ _ _ _ (ne_of hH.1 BQ.out.ct (by decide))).trans hH.1, cell_of_block h1⟩ (fun hH => ?_)
                clear hK K c0 z0
                (try simp only [jA, jB, jC, Act.put, jD, jE, jF])
                refine wpAnyH_take (i := 13) (v := .pointer (some ⟨bb, 1, none⟩)) rfl (by kernel_rfl) (by kernel_rfl) (by kernel_rfl) (fun _ _ _ h => h) (.inl ⟨by rfl, by intro w hS; go_simp⟩) hH ?_
                (try simp only [jA, jB, jC, Act.put, jD, jE, jF])
                refine wpAnyH_ready (rs := [14]) (by kernel_rfl) (by simp) ?_
                refine AllReadyH.cons rfl (fun K hK => ?_) AllReadyH.nil
                rw [if_pos (by rfl)]
                have c1 := cell_of_block (i := 1) h1
                have z1 := row_frozen h1 1
                go_simp
                have h2 := (heap_setCell_row h1 (.slice xs10 (xA.length + 1) cs10) (k := 1))
                refine hK.out _ _ ⟨(heap_setCell_other _ _ _ _ (ne_of hH.1 h1 (by decide))).trans hH.1, cell_of_block h2⟩ (fun hH => ?_)
                clear hK K c1 z1
                (try simp only [jA, jB, jC, Act.put, jD, jE, jF])
                refine wpAnyH_done (by kernel_rfl) ?_ _
                have GH := hidd hH.1
                have H2 := hidd h2
                clear hH h1 h2
                go_wp2_with fail
                go_meet
                have fin := BQ.out.done (I' := xI ++ [(d0, (d1 : Int), (d2 : Int), d3)]) (A' := xA ++ [xn]) (((Put.refl D93410).setCell (by simp) _).setCell (by simp) _) H2.out (by simp [inss, inV]) (by simp) (by simp [num]) (by simp)
                have l1 : xI.length + 1 = (xI ++ [(d0, (d1 : Int), (d2 : Int), d3)]).length := by simp
                have l2 : xA.length + 1 = (xA ++ [xn]).length := by simp
                rw [l1, l2] at fin
                rw [l1, l2] at GH
                rw [l1, l2]
                exact ⟨xs4, cs4, xs10, cs10, _, _, fin, GH.out⟩
              refine AllReadyH.cons rfl (fun K hK => ?_) AllReadyH.nil
              rw [if_pos (by rfl)]
              have c0 : D9.cell? ⟨bb, 1, none⟩ = some (.slice xa xA.length ca) := cell_of_block BQ.out.ct
              go_simp
              refine hK.out _ _ hH (fun hH => ?_)
              clear hK K c0
              (try simp only [jA, jB, jC, Act.put, jD, jE, jF])
              refine wpAnyH_ready (rs := [1, 3]) (by kernel_rfl) (by simp) ?_
              refine AllReadyH.cons rfl (fun K hK => ?_) ?_
              · skip
                rw [if_pos (by rfl)]
                have c0 : D9.cell? ⟨bb, 0, none⟩ = some (.slice xi xI.length ci) := cell_of_block BQ.out.ct
                go_simp
                refine hK.out _ _ hH (fun hH => ?_)
                clear hK K c0
                (try simp only [jA, jB, jC, Act.put, jD, jE, jF])
                refine wpAnyH_ready (rs := [3]) (by kernel_rfl) (by simp) ?_
                refine AllReadyH.cons rfl (fun K hK => ?_) AllReadyH.nil
                rw [if_pos (by rfl)]
                go_simp
                obtain ⟨D93, eD93⟩ : ∃ V, Hid (D9.alloc (.cells (insA d0 d1 d2 d3) 53) = V) := ⟨_, rfl⟩
                obtain ⟨n3, en3⟩ : ∃ x, Hid (x = D9.heap.size) := ⟨_, rfl⟩
                rw [eD93.out, ← en3.out]
                have kk : Kep D9 D93 := by rw [← eD93.out]; exact (Kep.refl _).alloc _
                have BX3 : Hid (D93.heap[n3]? = some (.cells (insA d0 d1 d2 d3) 53 (0, 0))) := by rw [← eD93.out, en3.out]; exact hat _ _ _ rfl
                have NX3 : Hid (∀ c ∈ FA, c ≠ n3) := fun c hc => by have := BQ.out.sa.lt c hc; have := en3.out; omega
                have BQ := hidd (BQ.out.kep kk)
                refine hK.out _ _ ⟨kk.block hH.1, (kk.cell (World.block_lt_of_cell? _ _ hH.2)).trans hH.2⟩ (fun hH => ?_)
                have BX9 := hidd (kk.block BX9.out)
                clear hK K kk
                (try simp only [jA, jB, jC, Act.put, jD, jE, jF])
                refine wpAnyH_ready (rs := [4]) (by kernel_rfl) (by simp) ?_
                refine AllReadyH.cons rfl (fun K hK => ?_) AllReadyH.nil
                rw [if_pos (by rfl)]
                obtain ⟨i0, hi, hz0, hz1, hz2⟩ := info_parts info_ins8
                refine wp_append_sli (.tmp 65) (.tmp 67) 23 (by rfl) 53 i0 _ 4 8 Tryz.underlying23 hi hz0 hz1 hz2 (by rfl) (by decide) _ xI.length (inss xI) FI (by rfl) BQ.out.si ⟨n3, 0, none⟩ 1 (insA d0 d1 d2 d3).toList (by rfl) (by rfl) (World.news_of_block BX3.out) (by simp [Value.oneCell']) (by unfold maxLen; omega) (by omega) ?_
                intro v4 D934 F4 S4 P4 H4
                obtain ⟨xs4, cs4, hv4, _⟩ := S4.out.lies
                subst hv4
                have n1 : i1 ∉ FI := NI.out
                refine hK.out _ _ ⟨P4.out.keeps hH.1 n1, (P4.out.cell (World.block_lt_of_cell? _ _ hH.2) NBI.out).trans hH.2⟩ (fun hH => ?_)
                have BX9 := hidd (P4.out.keeps BX9.out (fun h => NX9.out _ h rfl))
                have BQ := hidd (BQ.out.insA S4.out P4.out H4.out)
                clear hi hz0 hz1 hz2 hK K
                (try simp only [jA, jB, jC, Act.put, jD, jE, jF])
                refine wpAnyH_take (i := 11) (v := .pointer (some ⟨bb, 0, none⟩)) rfl (by kernel_rfl) (by kernel_rfl) (by kernel_rfl) (fun _ _ _ h => h) (.inl ⟨by rfl, by intro w hS; go_simp⟩) hH ?_
                (try simp only [jA, jB, jC, Act.put, jD, jE, jF])
                refine wpAnyH_ready (rs := [10]) (by kernel_rfl) (by simp) ?_
                refine AllReadyH.cons rfl (fun K hK => ?_) AllReadyH.nil
                rw [if_pos (by rfl)]
                obtain ⟨i0, hi, hz0, hz1, hz2⟩ := info_parts info_u32
                refine wp_append_sli (.tmp 70) (.tmp 73) 37 (by rfl) 25 i0 _ 1 4 Tryz.underlying37 hi hz0 hz1 hz2 (by rfl) (by decide) _ xA.length (num .u32 xA) FA (by rfl) BQ.out.sa ⟨n9, 0, none⟩ 1 [.int .u32 xn] (by rfl) (by rfl) (World.news_of_block BX9.out) (by simp [Value.oneCell']) (by unfold maxLen; omega) (by omega) ?_
                intro v10 D93410 F10 S10 P10 H10
                obtain ⟨xs10, cs10, hv10, _⟩ := S10.out.lies
                subst hv10
                refine hK.out _ _ ⟨P10.out.keeps hH.1 NA.out, (P10.out.cell (World.block_lt_of_cell? _ _ hH.2) NBA.out).trans hH.2⟩ (fun hH => ?_)
                have BQ := hidd (BQ.out.atA S10.out P10.out H10.out)
                clear hi hz0 hz1 hz2 hK K
                (try simp only [jA, jB, jC, Act.put, jD, jE, jF])
                refine wpAnyH_ready (rs := [12]) (by kernel_rfl) (by simp) ?_
                refine AllReadyH.cons rfl (fun K hK => ?_) AllReadyH.nil
                rw [if_pos (by rfl)]
                have c0 : D93410.cell? ⟨bb, 0, none⟩ = some (.slice xi xI.length ci) := cell_of_block BQ.out.ct
                have z0 := row_frozen BQ.out.ct 0
                go_simp
                have h1 := (heap_setCell_row BQ.out.ct (.slice xs4 (xI.length + 1) cs4) (k := 0))
                refine hK.out _ _ ⟨(heap_setCell_other _ _ _ _ (ne_of hH.1 BQ.out.ct (by decide))).trans hH.1, cell_of_block h1⟩ (fun hH => ?_)
                clear hK K c0 z0
                (try simp only [jA, jB, jC, Act.put, jD, jE, jF])
                refine wpAnyH_take (i := 13) (v := .pointer (some ⟨bb, 1, none⟩)) rfl (by kernel_rfl) (by kernel_rfl) (by kernel_rfl) (fun _ _ _ h => h) (.inl ⟨by rfl, by intro w hS; go_simp⟩) hH ?_
                (try simp only [jA, jB, jC, Act.put, jD, jE, jF])
                refine wpAnyH_ready (rs := [14]) (by kernel_rfl) (by simp) ?_
                refine AllReadyH.cons rfl (fun K hK => ?_) AllReadyH.nil
                rw [if_pos (by rfl)]
                have c1 := cell_of_block (i := 1) h1
                have z1 := row_frozen h1 1
                go_simp
                have h2 := (heap_setCell_row h1 (.slice xs10 (xA.length + 1) cs10) (k := 1))
                refine hK.out _ _ ⟨(heap_setCell_other _ _ _ _ (ne_of hH.1 h1 (by decide))).trans hH.1, cell_of_block h2⟩ (fun hH => ?_)
                clear hK K c1 z1
                (try simp only [jA, jB, jC, Act.put, jD, jE, jF])
                refine wpAnyH_done (by kernel_rfl) ?_ _
                have GH := hidd hH.1
                have H2 := hidd h2
                clear hH h1 h2
                go_wp2_with fail
                go_meet
                have fin := BQ.out.done (I' := xI ++ [(d0, (d1 : Int), (d2 : Int), d3)]) (A' := xA ++ [xn]) (((Put.refl D93410).setCell (by simp) _).setCell (by simp) _) H2.out (by simp [inss, inV]) (by simp) (by simp [num]) (by simp)
                have l1 : xI.length + 1 = (xI ++ [(d0, (d1 : Int), (d2 : Int), d3)]).length := by simp
                have l2 : xA.length + 1 = (xA ++ [xn]).length := by simp
                rw [l1, l2] at fin
                rw [l1, l2] at GH
                rw [l1, l2]
                exact ⟨xs4, cs4, xs10, cs10, _, _, fin, GH.out⟩
              refine AllReadyH.cons rfl (fun K hK => ?_) AllReadyH.nil
              rw [if_pos (by rfl)]
              go_simp
              obtain ⟨D93, eD93⟩ : ∃ V, Hid (D9.alloc (.cells (insA d0 d1 d2 d3) 53) = V) := ⟨_, rfl⟩
              obtain ⟨n3, en3⟩ : ∃ x, Hid (x = D9.heap.size) := ⟨_, rfl⟩
              rw [eD93.out, ← en3.out]
              have kk : Kep D9 D93 := by rw [← eD93.out]; exact (Kep.refl _).alloc _
              have BX3 : Hid (D93.heap[n3]? = some (.cells (insA d0 d1 d2 d3) 53 (0, 0))) := by rw [← eD93.out, en3.out]; exact hat _ _ _ rfl
              have NX3 : Hid (∀ c ∈ FA, c ≠ n3) := fun c hc => by have := BQ.out.sa.lt c hc; have := en3.out; omega
              have BQ := hidd (BQ.out.kep kk)
              refine hK.out _ _ ⟨kk.block hH.1, (kk.cell (World.block_lt_of_cell? _ _ hH.2)).trans hH.2⟩ (fun hH => ?_)
              have BX9 := hidd (kk.block BX9.out)
              clear hK K kk
              (try simp only [jA, jB, jC, Act.put, jD, jE, jF])
              refine wpAnyH_ready (rs := [1]) (by kernel_rfl) (by simp) ?_
              refine AllReadyH.cons rfl (fun K hK => ?_) AllReadyH.nil
              rw [if_pos (by rfl)]
              have c0 : D93.cell? ⟨bb, 0, none⟩ = some (.slice xi xI.length ci) := cell_of_block BQ.out.ct
              go_simp
              refine hK.out _ _ hH (fun hH => ?_)
              clear hK K c0
              (try simp only [jA, jB, jC, Act.put, jD, jE, jF])
              refine wpAnyH_ready (rs := [4]) (by kernel_rfl) (by simp) ?_
              refine AllReadyH.cons rfl (fun K hK => ?_) AllReadyH.nil
              rw [if_pos (by rfl)]
              obtain ⟨i0, hi, hz0, hz1, hz2⟩ := info_parts info_ins8
              refine wp_append_sli (.tmp 65) (.tmp 67) 23 (by rfl) 53 i0 _ 4 8 Tryz.underlying23 hi hz0 hz1 hz2 (by rfl) (by decide) _ xI.length (inss xI) FI (by rfl) BQ.out.si ⟨n3, 0, none⟩ 1 (insA d0 d1 d2 d3).toList (by rfl) (by rfl) (World.news_of_block BX3.out) (by simp [Value.oneCell']) (by unfold maxLen; omega) (by omega) ?_
              intro v4 D934 F4 S4 P4 H4
              obtain ⟨xs4, cs4, hv4, _⟩ := S4.out.lies
              subst hv4
              have n1 : i1 ∉ FI := NI.out
              refine hK.out _ _ ⟨P4.out.keeps hH.1 n1, (P4.out.cell (World.block_lt_of_cell? _ _ hH.2) NBI.out).trans hH.2⟩ (fun hH => ?_)
              have BX9 := hidd (P4.out.keeps BX9.out (fun h => NX9.out _ h rfl))
              have BQ := hidd (BQ.out.insA S4.out P4.out H4.out)
              clear hi hz0 hz1 hz2 hK K
              (try simp only [jA, jB, jC, Act.put, jD, jE, jF])
              refine wpAnyH_take (i := 11) (v := .pointer (some ⟨bb, 0, none⟩)) rfl (by kernel_rfl) (by kernel_rfl) (by kernel_rfl) (fun _ _ _ h => h) (.inl ⟨by rfl, by intro w hS; go_simp⟩) hH ?_
              (try simp only [jA, jB, jC, Act.put, jD, jE, jF])
              refine wpAnyH_ready (rs := [10]) (by kernel_rfl) (by simp) ?_
              refine AllReadyH.cons rfl (fun K hK => ?_) AllReadyH.nil
              rw [if_pos (by rfl)]
              obtain ⟨i0, hi, hz0, hz1, hz2⟩ := info_parts info_u32
              refine wp_append_sli (.tmp 70) (.tmp 73) 37 (by rfl) 25 i0 _ 1 4 Tryz.underlying37 hi hz0 hz1 hz2 (by rfl) (by decide) _ xA.length (num .u32 xA) FA (by rfl) BQ.out.sa ⟨n9, 0, none⟩ 1 [.int .u32 xn] (by rfl) (by rfl) (World.news_of_block BX9.out) (by simp [Value.oneCell']) (by unfold maxLen; omega) (by omega) ?_
              intro v10 D93410 F10 S10 P10 H10
              obtain ⟨xs10, cs10, hv10, _⟩ := S10.out.lies
              subst hv10
              refine hK.out _ _ ⟨P10.out.keeps hH.1 NA.out, (P10.out.cell (World.block_lt_of_cell? _ _ hH.2) NBA.out).trans hH.2⟩ (fun hH => ?_)
              have BQ := hidd (BQ.out.atA S10.out P10.out H10.out)
              clear hi hz0 hz1 hz2 hK K
              (try simp only [jA, jB, jC, Act.put, jD, jE, jF])
              refine wpAnyH_ready (rs := [12]) (by kernel_rfl) (by simp) ?_
              refine AllReadyH.cons rfl (fun K hK => ?_) AllReadyH.nil
              rw [if_pos (by rfl)]
              have c0 : D93410.cell? ⟨bb, 0, none⟩ = some (.slice xi xI.length ci) := cell_of_block BQ.out.ct
              have z0 := row_frozen BQ.out.ct 0
              go_simp
              have h1 := (heap_setCell_row BQ.out.ct (.slice xs4 (xI.length + 1) cs4) (k := 0))
              refine hK.out _ _ ⟨(heap_setCell_other _ _ _ _ (ne_of hH.1 BQ.out.ct (by decide))).trans hH.1, cell_of_block h1⟩ (fun hH => ?_)
              clear hK K c0 z0
              (try simp only [jA, jB, jC, Act.put, jD, jE, jF])
              refine wpAnyH_take (i := 13) (v := .pointer (some ⟨bb, 1, none⟩)) rfl (by kernel_rfl) (by kernel_rfl) (by kernel_rfl) (fun _ _ _ h => h) (.inl ⟨by rfl, by intro w hS; go_simp⟩) hH ?_
              (try simp only [jA, jB, jC, Act.put, jD, jE, jF])
              refine wpAnyH_ready (rs := [14]) (by kernel_rfl) (by simp) ?_
              refine AllReadyH.cons rfl (fun K hK => ?_) AllReadyH.nil
              rw [if_pos (by rfl)]
              have c1 := cell_of_block (i := 1) h1
              have z1 := row_frozen h1 1
              go_simp
              have h2 := (heap_setCell_row h1 (.slice xs10 (xA.length + 1) cs10) (k := 1))
              refine hK.out _ _ ⟨(heap_setCell_other _ _ _ _ (ne_of hH.1 h1 (by decide))).trans hH.1, cell_of_block h2⟩ (fun hH => ?_)
              clear hK K c1 z1
              (try simp only [jA, jB, jC, Act.put, jD, jE, jF])
              refine wpAnyH_done (by kernel_rfl) ?_ _
              have GH := hidd hH.1
              have H2 := hidd h2
              clear hH h1 h2
              go_wp2_with fail
              go_meet
              have fin := BQ.out.done (I' := xI ++ [(d0, (d1 : Int), (d2 : Int), d3)]) (A' := xA ++ [xn]) (((Put.refl D93410).setCell (by simp) _).setCell (by simp) _) H2.out (by simp [inss, inV]) (by simp) (by simp [num]) (by simp)
              have l1 : xI.length + 1 = (xI ++ [(d0, (d1 : Int), (d2 : Int), d3)]).length := by simp
              have l2 : xA.length + 1 = (xA ++ [xn]).length := by simp
              rw [l1, l2] at fin
              rw [l1, l2] at GH
              rw [l1, l2]
              exact ⟨xs4, cs4, xs10, cs10, _, _, fin, GH.out⟩
            case rest =>
              rename World => w9
              obtain ⟨zi, ri, za, ra, FI', FA', Q9, G9⟩ := hcut
              clear Q8 T8 Q7 S7 G7 Q6
              obtain ⟨yI, hyI⟩ : ∃ l, Hid ((xI ++ [(d0, (d1 : Int), (d2 : Int), d3)]) = l) := ⟨_, rfl⟩
              obtain ⟨yA, hyA⟩ : ∃ l, Hid ((xA ++ [xn]) = l) := ⟨_, rfl⟩
              rw [hyI.out, hyA.out] at Q9
              have c2 : w9.cell? ⟨bb, 2, none⟩ = some (.int .u32 xn) := cell_of_block Q9.out.ct
              have z2 := row_frozen Q9.out.ct 2
              have hxn0 : 0 ≤ xn := xnr.out.1
              have hxn1 : xn + ml ≤ 32768 := by
                have h1 := NN.out; have h2 := (PG.out (yR.length - 1) (by have := LR.out.1; omega)).2; have h3 := LR.out; have h4 := HmN.out
                have h5 := xnr.out
                have h6 := C.out.f.n
                have e : ({ I := xI, A := xA, R := xR, n := xn, e := xe, t := 0 } : SB).R.length = xR.length := rfl
                have e2 : ({ I := xI, A := xA, R := xR, n := xn, e := xe, t := 0 } : SB).n = xn := rfl
                rw [e, e2] at h6
                omega
              go_upto_region 15 with fail
              generalize hn1 : xn + (ml : Int) = n1 at *
              obtain ⟨WA, hWA⟩ : ∃ W, Hid (w9.setCell ⟨bb, 2, none⟩ (.int .u32 n1) = W) := ⟨_, rfl⟩
              rw [hWA.out]
              have QA : Hid (ScW w WA s st rb rf bb p o kb L yI yA yR n1 0 xe (.slice zi yI.length ri) (.slice za yA.length ra) (.slice x6 yR.length c6) FI' FA' F6) := by
                rw [Hid, ← hWA.out]
                exact Q9.out.box ((Put.refl _).setCell (by simp) _) (heap_setCell_row Q9.out.ct _)
              have GA : Hid (WA.heap[i1]? = some (.cells (insA d0 d1 d2 d3) 53 (0, 0))) := by
                rw [← hWA.out]
                exact (heap_setCell_other _ _ _ _ (ne_of G9.out Q9.out.ct (by decide))).trans G9.out
              have ga : WA.cell? ⟨i1, 0, none⟩ = some (.int .u8 d0) := cell_of_block GA.out
              clear Q9 G9 c2 z2
              have HEnd := hidd (endOf_any d0 HD0.out.1 HD0.out.2 w WA p o kb QA.out.tb)
              obtain ⟨ev, hev⟩ : ∃ e, Hid (endI d0 = e) := ⟨_, rfl⟩
              have ev4 := endI_four d0
              rw [hev.out] at HEnd ev4
              go_wp2_with fail
              refine HEnd.out.mono ?_
              rintro e w10 ⟨rfl, t10, s10⟩
              have QB := hidd (QA.out.ask s10 t10)
              have GB : Hid (w10.heap[i1]? = some (.cells (insA d0 d1 d2 d3) 53 (0, 0))) := (Put.of_stp s10).keeps GA.out (fun hm => by
                have lk := QA.out.tb.asked
                simp at hm
                rcases hm with h | h
                · rcases lk.2 with ⟨h1, _⟩ | ⟨h1, _⟩ <;> exact ne_of GA.out h1 (by decide) h
                · rcases lk.2 with ⟨_, h1⟩ | ⟨_, _, _, h1, _⟩ <;> exact ne_of GA.out h1 (by decide) h)
              clear t10 s10 QA GA ga HEnd
              have c4 : w10.cell? ⟨bb, 4, none⟩ = some (.int .i64 xe) := cell_of_block QB.out.ct
              have z4 := row_frozen QB.out.ct 4
              go_upto_region 16 with fail
              obtain ⟨WB, hWB⟩ : ∃ W, Hid (w10.setCell ⟨bb, 4, none⟩ (.int .i64 ev) = W) := ⟨_, rfl⟩
              rw [hWB.out]
              have QC : Hid (ScW w WB s st rb rf bb p o kb L yI yA yR n1 0 ev (.slice zi yI.length ri) (.slice za yA.length ra) (.slice x6 yR.length c6) FI' FA' F6) := by
                rw [Hid, ← hWB.out]
                exact QB.out.box ((Put.refl _).setCell (by simp) _) (heap_setCell_row QB.out.ct _)
              have GC : Hid (WB.heap[i1]? = some (.cells (insA d0 d1 d2 d3) 53 (0, 0))) := by
                rw [← hWB.out]
                exact (heap_setCell_other _ _ _ _ (ne_of GB.out QB.out.ct (by decide))).trans GB.out
              clear QB GB c4 z4
              have c4 : WB.cell? ⟨bb, 4, none⟩ = some (.int .i64 ev) := cell_of_block QC.out.ct
              have ONE : Hid (SB.one B ix s ⟨xI, xA, xR, xn, xe, 0⟩ = ⟨yI, yA, yR, n1, ev, if ev = 2 ∨ ev = 3 then (n1 + d3) % 4294967296 else 0⟩) := by
                have e : (n1 : Int) % 4294967296 = n1 := by omega
                have e2 : SB.one B ix s ⟨xI, xA, xR, xn, xe, 0⟩ = ⟨xI ++ [insF4 B ix (s.go xn)], xA ++ [xn], xR ++ srF B ix (s.go xn), (xn + fetN B ix (s.go xn)) % 4294967296, endI (fetO B ix (s.go xn)), if endI (fetO B ix (s.go xn)) = 2 ∨ endI (fetO B ix (s.go xn)) = 3 then (xn + fetN B ix (s.go xn) + fetM B ix (s.go xn)) % 4294967296 else 0⟩ := rfl
                have e3 : insF4 B ix (s.go xn) = (d0, (d1 : Int), (d2 : Int), d3) := by unfold insF4; rw [hd0.out, hd1.out, hd2.out, hd3.out]
                rw [Hid, e2, e3, hd0.out, hd3.out, hev.out, ← HEs.out, hyR.out, hyI.out, hyA.out, ← HmN.out, hn1, e]
              have STEP : Hid (scnB B ix s m = if ev = 1 then SB.run B ix s (mst - (k + 1)) (SB.one B ix s ⟨xI, xA, xR, xn, xe, 0⟩) else SB.one B ix s ⟨xI, xA, xR, xn, xe, 0⟩) := by
                have h := C.out.r
                rw [hmst.out, show mst - k = (mst - (k + 1)) + 1 by omega, run_on _ STN.out] at h
                rw [Hid, ← h]
                have e : (SB.one B ix s ⟨xI, xA, xR, xn, xe, 0⟩).e = ev := by rw [ONE.out]
                rw [e]
              have F0 : Hid ((fetF B ix s).1 = 0) := by
                rcases Nat.eq_zero_or_pos k with h0 | h0
                · have h1 := C.out.f.n; have h2 := C.out.c.r
                  rw [h0] at h2
                  have h3 : ({ I := xI, A := xA, R := xR, n := xn, e := xe, t := 0 } : SB).R.length = 0 := by omega
                  rw [h3] at h1
                  have h5 : xn = s.pc := by simpa using h1
                  have := hfk.out
                  rw [h5, go_self] at this
                  exact this
                · exact C.out.z h0
              have NEW : Hid (Cnt (k + 1) ⟨yI, yA, yR, n1, ev, if ev = 2 ∨ ev = 3 then (n1 + d3) % 4294967296 else 0⟩) := by
                have := C.out.c.one hfk.out
                rw [ONE.out] at this
                exact this
              have NN1 : Hid (n1 = s.pc + yR.length) := by
                have := NN.out
                rw [← HmN.out, hn1] at this
                rw [Hid, ← this]; omega
              have R1 : Hid (1 ≤ yR.length) := LR.out.1
              have R2 : Hid (yR.length ≤ 300) := by have := LR.out.2; show yR.length ≤ 300; omega
              have RC := RC6
              rcases ev4 with rfl | rfl | rfl | rfl
              · go_wp2_with fail
                go_roundw
                case rel =>
                  refine ⟨⟨yI, yA, yR, n1, 1, 0⟩, k + 1, _, _, x6, c6, FI', FA', F6, rfl, ?_, QC.out, ?_⟩
                  · have h := NEW.out.r; have h2 : ({ I := yI, A := yA, R := yR, n := n1, e := 1, t := if (1 : Int) = 2 ∨ (1 : Int) = 3 then (n1 + d3) % 4294967296 else 0 } : SB).R.length = yR.length := rfl
                    show (yR.length : Int) ≤ 200
                    omega
                  · have e0 : (if (1 : Int) = 2 ∨ (1 : Int) = 3 then (n1 + d3) % 4294967296 else 0) = 0 := if_neg (by decide)
                    have h1 := NEW.out
                    have h2 := STEP.out
                    rw [e0] at h1
                    rw [ONE.out, e0, if_pos rfl] at h2
                    exact ⟨h1, ⟨PG.out, NN1.out⟩, by rw [hmst.out]; omega, by rw [hmst.out]; exact h2.symm, fun _ => F0.out, rfl⟩
                case measure => simp [lenV]; have := LR.out; omega
              · have g3 : WB.cell? ⟨i1, 3, none⟩ = some (.int .i32 d3) := cell_of_block GC.out
                have c2 : WB.cell? ⟨bb, 2, none⟩ = some (.int .u32 n1) := cell_of_block QC.out.ct
                have c3 : WB.cell? ⟨bb, 3, none⟩ = some (.int .u32 0) := cell_of_block QC.out.ct
                have z3 := row_frozen QC.out.ct 3
                go_wp2_with fail
                obtain ⟨tt, htt⟩ : ∃ t, Hid ((n1 + d3) % 4294967296 = t) := ⟨_, rfl⟩
                rw [htt.out]
                obtain ⟨WC, hWC⟩ : ∃ W, Hid (WB.setCell ⟨bb, 3, none⟩ (.int .u32 tt) = W) := ⟨_, rfl⟩
                rw [hWC.out, show WB.heap.size = WC.heap.size from by rw [← hWC.out]; simp]
                have QT : Hid (ScW w WC s st rb rf bb p o kb L yI yA yR n1 tt 2 (.slice zi yI.length ri) (.slice za yA.length ra) (.slice x6 yR.length c6) FI' FA' F6) := by
                  rw [Hid, ← hWC.out]
                  exact QC.out.box ((Put.refl _).setCell (by simp) _) (heap_setCell_row QC.out.ct _)
                have FT : Hid (scnB B ix s m = ⟨yI, yA, yR, n1, 2, tt⟩) := by
                  have := STEP.out
                  rw [if_neg (by decide), ONE.out, if_pos (by decide), htt.out] at this
                  exact this
                clear g3 c2 c3 z3 QC
                have QT := hidd QT.out
                try go_wp2_with fail
                have TL := hidd QT.out.tl
                refine (frames_any (n := yR.length) (QT.out.kep ((Kep.refl _).alloc _)).sr.lie rfl R1.out R2.out RC.out.1 RC.out.2 (hat _ _ _ rfl)).mono ?_
                rintro e w6 ⟨yF, cF, rfl, lF, hF1, hF2, k6, nF⟩
                have T6 := hidd ((TL.out.kep ((Kep.refl _).alloc _)).kep k6)
                have LF := hidd lF
                have NF : Hid (∀ b o t, yF = some ⟨b, o, t⟩ → L ≤ b) := fun b o t h => by have := nF b o t h; have := QT.out.lL; rw [World.size_alloc] at *; omega
                have HFc : Hid ((fmL yR).length ≤ cF ∧ cF ≤ maxLen) := ⟨hF1, hF2⟩
                have cE : w6.cell? ⟨bb, 5, none⟩ = some (.slice none 0 0) := cell_of_block T6.out.ct
                have z5 := row_frozen T6.out.ct 5
                clear k6 lF hF1 hF2 nF TL QT
                go_upto_region 22 with fail
                have T7 : Hid (TlW w (w6.setCell ⟨bb, 5, none⟩ (.slice yF (fmL yR).length cF)) s st rb rf bb L yI yA yR (blkC (.slice zi yI.length ri) (.slice za yA.length ra) n1 tt 2 (.slice yF (fmL yR).length cF) nilS) (.slice zi yI.length ri) (.slice za yA.length ra) (.slice x6 yR.length c6)) := T6.out.box ((Put.refl _).setCell (by simp) _) (heap_setCell_row T6.out.ct _)
                have LF7 : Hid (Lies (w6.setCell ⟨bb, 5, none⟩ (.slice yF (fmL yR).length cF)) yF (num .i64 (fmL yR))) := LF.out.far NF.out ((Put.refl _).setCell (l := [bb]) (by simp) _) (by have := T6.out.fx; simp; omega)
                generalize w6.setCell ⟨bb, 5, none⟩ (.slice yF (fmL yR).length cF) = w7 at T7 LF7 ⊢
                clear cE z5 T6 LF
                refine wp_region_lit ?_
                refine wpList_load_row (by rfl) 28 _ (by rfl) st (by rfl) 28 s.v (0, 0) _ T7.out.cs Tryz.underlying28 rfl (by exact size_sta) ?_
                go_wp2_with fail
                refine (paged_any w7 OK.out).mono ?_
                rintro e w8 ⟨rfl, k8⟩
                have T8 := hidd (T7.out.kep k8)
                have LF8 := hidd (LF7.out.kep k8)
                clear k8 T7 LF7
                cases hpg : pgB s with
                | false =>
                  have eT : Hid (scnT s (scnB B ix s m) = []) := by unfold Hid scnT; rw [hpg]; rfl
                  clear hpg
                  go_upto_region 24 with fail
                  refine wp_region_lit ?_
                  refine wpList_load_row (by rfl) 40 _ (by rfl) bb (by rfl) 40 (blkC (.slice zi yI.length ri) (.slice za yA.length ra) n1 tt 2 (.slice yF (fmL yR).length cF) nilS) (0, 0) _ T8.out.ct Tryz.underlying40 rfl (by exact size_blk) ?_
                  have nbf := T8.out.fx.2.2.2.2.2.2.2.2.2.2
                  have hrf := hidd ((setRow_other w8 rb rf (blkC (.slice zi yI.length ri) (.slice za yA.length ra) n1 tt 2 (.slice yF (fmL yR).length cF) nilS) (Ne.symm nbf)).trans T8.out.cf)
                  go_wp2_with (first
                    | (refine wpList_store_row (by rfl) 40 _ _ (by rfl) rb (blkC (.slice zi yI.length ri) (.slice za yA.length ra) n1 tt 2 (.slice yF (fmL yR).length cF) nilS) (by rfl) (by rfl) 40 (blkC nilS nilS 0 0 0 nilS nilS) T8.out.cb (by exact size_blk) (by rfl) (by simp [Value.oneCell']) ?_)
                    | (refine wpList_store_row (by rfl) 42 _ _ (by rfl) rf #[.int .i64 0, .int .u32 0] (by rfl) (by rfl) 42 #[.int .i64 0, .int .u32 0] hrf.out (by exact size_flt) (by rfl) (by simp [Value.oneCell']) ?_))
                  have PX : Put [rb, rf] w8 ((w8.setRow rb (blkC (.slice zi yI.length ri) (.slice za yA.length ra) n1 tt 2 (.slice yF (fmL yR).length cF) nilS)).setRow rf #[.int .i64 0, .int .u32 0]) := ((Put.refl _).setRow (by simp) _).setRow (by simp) _
                  obtain ⟨KX, RI, RA⟩ := T8.out.last PX
                  have hfx := T8.out.fx
                  try simp only [Exit.noGoto_ret, Exit.inBlock, Exit.then]
                  refine bodyPost_ret (v := .tuple #[.agg (blkC (.slice zi yI.length ri) (.slice za yA.length ra) n1 tt 2 (.slice yF (fmL yR).length cF) nilS), .agg #[.int .i64 0, .int .u32 0]]) (resultsBB (p := 6) (q := 7) (ty := 40) (ty' := 42) rfl _ _ rb 40 (blkC (.slice zi yI.length ri) (.slice za yA.length ra) n1 tt 2 (.slice yF (fmL yR).length cF) nilS) (0, 0) _ rf 42 #[.int .i64 0, .int .u32 0] (0, 0) _ rfl ((setRow_other _ _ _ _ nbf).trans (setRow_heap _ _ _ _ _ _ T8.out.cb)) Tryz.underlying40 rfl size_blk rfl (setRow_heap _ _ _ _ _ _ hrf.out) Tryz.underlying42 rfl size_flt) rfl ⟨KX, .inr ⟨F0.out, .slice zi yI.length ri, .slice za yA.length ra, .slice yF (fmL yR).length cF, nilS, ?_, ?_, ?_, ?_, ?_⟩⟩
                  · rw [FT.out]
                  · rw [FT.out]; exact RI
                  · rw [FT.out]; exact RA
                  · rw [FT.out]; exact ⟨yF, cF, rfl, HFc.out.1, HFc.out.2, LF8.out.far NF.out PX (by simp; omega)⟩
                  · rw [eT.out]; exact rowv_nil _
                | true =>
                  have eT : Hid (scnT s (scnB B ix s m) = tbL yR) := by unfold Hid scnT; rw [hpg, FT.out]; rfl
                  clear hpg
                  go_wp2_with fail
                  refine (tables_any (n := yR.length) (T8.out.kep ((Kep.refl _).alloc _)).lie rfl R1.out R2.out RC.out.1 RC.out.2 (hat _ _ _ rfl)).mono ?_
                  rintro e w9 ⟨yT, cT, rfl, lT, hT1, hT2, k9, nT⟩
                  have T9 := hidd ((T8.out.kep ((Kep.refl _).alloc _)).kep k9)
                  have LT := hidd lT
                  have LF9 := hidd ((LF8.out.kep ((Kep.refl _).alloc _)).kep k9)
                  have NT : Hid (∀ b o t, yT = some ⟨b, o, t⟩ → L ≤ b) := fun b o t h => by have := nT b o t h; have := T8.out.lL; rw [World.size_alloc] at *; omega
                  have HTc : Hid ((tbL yR).length ≤ cT ∧ cT ≤ maxLen) := ⟨hT1, hT2⟩
                  have cG : w9.cell? ⟨bb, 6, none⟩ = some (.slice none 0 0) := cell_of_block T9.out.ct
                  have z6 := row_frozen T9.out.ct 6
                  clear k9 lT hT1 hT2 nT T8 LF8
                  go_upto_region 24 with fail
                  have TX : Hid (TlW w (w9.setCell ⟨bb, 6, none⟩ (.slice yT (tbL yR).length cT)) s st rb rf bb L yI yA yR (blkC (.slice zi yI.length ri) (.slice za yA.length ra) n1 tt 2 (.slice yF (fmL yR).length cF) (.slice yT (tbL yR).length cT)) (.slice zi yI.length ri) (.slice za yA.length ra) (.slice x6 yR.length c6)) := T9.out.box ((Put.refl _).setCell (by simp) _) (heap_setCell_row T9.out.ct _)
                  have LFX : Hid (Lies (w9.setCell ⟨bb, 6, none⟩ (.slice yT (tbL yR).length cT)) yF (num .i64 (fmL yR))) := LF9.out.far NF.out ((Put.refl _).setCell (l := [bb]) (by simp) _) (by have := T9.out.fx; simp; omega)
                  have LTX : Hid (Lies (w9.setCell ⟨bb, 6, none⟩ (.slice yT (tbL yR).length cT)) yT (num .i64 (tbL yR))) := LT.out.far NT.out ((Put.refl _).setCell (l := [bb]) (by simp) _) (by have := T9.out.fx; simp; omega)
                  generalize w9.setCell ⟨bb, 6, none⟩ (.slice yT (tbL yR).length cT) = wX at TX LFX LTX ⊢
                  clear cG z6 T9 LF9 LT
                  refine wp_region_lit ?_
                  refine wpList_load_row (by rfl) 40 _ (by rfl) bb (by rfl) 40 (blkC (.slice zi yI.length ri) (.slice za yA.length ra) n1 tt 2 (.slice yF (fmL yR).length cF) (.slice yT (tbL yR).length cT)) (0, 0) _ TX.out.ct Tryz.underlying40 rfl (by exact size_blk) ?_
                  have nbf := TX.out.fx.2.2.2.2.2.2.2.2.2.2
                  have hrf := hidd ((setRow_other wX rb rf (blkC (.slice zi yI.length ri) (.slice za yA.length ra) n1 tt 2 (.slice yF (fmL yR).length cF) (.slice yT (tbL yR).length cT)) (Ne.symm nbf)).trans TX.out.cf)
                  go_wp2_with (first
                    | (refine wpList_store_row (by rfl) 40 _ _ (by rfl) rb (blkC (.slice zi yI.length ri) (.slice za yA.length ra) n1 tt 2 (.slice yF (fmL yR).length cF) (.slice yT (tbL yR).length cT)) (by rfl) (by rfl) 40 (blkC nilS nilS 0 0 0 nilS nilS) TX.out.cb (by exact size_blk) (by rfl) (by simp [Value.oneCell']) ?_)
                    | (refine wpList_store_row (by rfl) 42 _ _ (by rfl) rf #[.int .i64 0, .int .u32 0] (by rfl) (by rfl) 42 #[.int .i64 0, .int .u32 0] hrf.out (by exact size_flt) (by rfl) (by simp [Value.oneCell']) ?_))
                  have PX : Put [rb, rf] wX ((wX.setRow rb (blkC (.slice zi yI.length ri) (.slice za yA.length ra) n1 tt 2 (.slice yF (fmL yR).length cF) (.slice yT (tbL yR).length cT))).setRow rf #[.int .i64 0, .int .u32 0]) := ((Put.refl _).setRow (by simp) _).setRow (by simp) _
                  obtain ⟨KX, RI, RA⟩ := TX.out.last PX
                  have hfx := TX.out.fx
                  try simp only [Exit.noGoto_ret, Exit.inBlock, Exit.then]
                  refine bodyPost_ret (v := .tuple #[.agg (blkC (.slice zi yI.length ri) (.slice za yA.length ra) n1 tt 2 (.slice yF (fmL yR).length cF) (.slice yT (tbL yR).length cT)), .agg #[.int .i64 0, .int .u32 0]]) (resultsBB (p := 6) (q := 7) (ty := 40) (ty' := 42) rfl _ _ rb 40 (blkC (.slice zi yI.length ri) (.slice za yA.length ra) n1 tt 2 (.slice yF (fmL yR).length cF) (.slice yT (tbL yR).length cT)) (0, 0) _ rf 42 #[.int .i64 0, .int .u32 0] (0, 0) _ rfl ((setRow_other _ _ _ _ nbf).trans (setRow_heap _ _ _ _ _ _ TX.out.cb)) Tryz.underlying40 rfl size_blk rfl (setRow_heap _ _ _ _ _ _ hrf.out) Tryz.underlying42 rfl size_flt) rfl ⟨KX, .inr ⟨F0.out, .slice zi yI.length ri, .slice za yA.length ra, .slice yF (fmL yR).length cF, .slice yT (tbL yR).length cT, ?_, ?_, ?_, ?_, ?_⟩⟩
                  · rw [FT.out]
                  · rw [FT.out]; exact RI
                  · rw [FT.out]; exact RA
                  · rw [FT.out]; exact ⟨yF, cF, rfl, HFc.out.1, HFc.out.2, LFX.out.far NF.out PX (by simp; omega)⟩
                  · rw [eT.out]; exact ⟨yT, cT, rfl, HTc.out.1, HTc.out.2, LTX.out.far NT.out PX (by simp; omega)⟩
              · have g3 : WB.cell? ⟨i1, 3, none⟩ = some (.int .i32 d3) := cell_of_block GC.out
                have c2 : WB.cell? ⟨bb, 2, none⟩ = some (.int .u32 n1) := cell_of_block QC.out.ct
                have c3 : WB.cell? ⟨bb, 3, none⟩ = some (.int .u32 0) := cell_of_block QC.out.ct
                have z3 := row_frozen QC.out.ct 3
                go_wp2_with fail
                obtain ⟨tt, htt⟩ : ∃ t, Hid ((n1 + d3) % 4294967296 = t) := ⟨_, rfl⟩
                rw [htt.out]
                obtain ⟨WC, hWC⟩ : ∃ W, Hid (WB.setCell ⟨bb, 3, none⟩ (.int .u32 tt) = W) := ⟨_, rfl⟩
                rw [hWC.out, show WB.heap.size = WC.heap.size from by rw [← hWC.out]; simp]
                have QT : Hid (ScW w WC s st rb rf bb p o kb L yI yA yR n1 tt 3 (.slice zi yI.length ri) (.slice za yA.length ra) (.slice x6 yR.length c6) FI' FA' F6) := by
                  rw [Hid, ← hWC.out]
                  exact QC.out.box ((Put.refl _).setCell (by simp) _) (heap_setCell_row QC.out.ct _)
                have FT : Hid (scnB B ix s m = ⟨yI, yA, yR, n1, 3, tt⟩) := by
                  have := STEP.out
                  rw [if_neg (by decide), ONE.out, if_pos (by decide), htt.out] at this
                  exact this
                clear g3 c2 c3 z3 QC
                have QT := hidd QT.out
                try go_wp2_with fail
                have TL := hidd QT.out.tl
                refine (frames_any (n := yR.length) (QT.out.kep ((Kep.refl _).alloc _)).sr.lie rfl R1.out R2.out RC.out.1 RC.out.2 (hat _ _ _ rfl)).mono ?_
                rintro e w6 ⟨yF, cF, rfl, lF, hF1, hF2, k6, nF⟩
                have T6 := hidd ((TL.out.kep ((Kep.refl _).alloc _)).kep k6)
                have LF := hidd lF
                have NF : Hid (∀ b o t, yF = some ⟨b, o, t⟩ → L ≤ b) := fun b o t h => by have := nF b o t h; have := QT.out.lL; rw [World.size_alloc] at *; omega
                have HFc : Hid ((fmL yR).length ≤ cF ∧ cF ≤ maxLen) := ⟨hF1, hF2⟩
                have cE : w6.cell? ⟨bb, 5, none⟩ = some (.slice none 0 0) := cell_of_block T6.out.ct
                have z5 := row_frozen T6.out.ct 5
                clear k6 lF hF1 hF2 nF TL QT
                go_upto_region 22 with fail
                have T7 : Hid (TlW w (w6.setCell ⟨bb, 5, none⟩ (.slice yF (fmL yR).length cF)) s st rb rf bb L yI yA yR (blkC (.slice zi yI.length ri) (.slice za yA.length ra) n1 tt 3 (.slice yF (fmL yR).length cF) nilS) (.slice zi yI.length ri) (.slice za yA.length ra) (.slice x6 yR.length c6)) := T6.out.box ((Put.refl _).setCell (by simp) _) (heap_setCell_row T6.out.ct _)
                have LF7 : Hid (Lies (w6.setCell ⟨bb, 5, none⟩ (.slice yF (fmL yR).length cF)) yF (num .i64 (fmL yR))) := LF.out.far NF.out ((Put.refl _).setCell (l := [bb]) (by simp) _) (by have := T6.out.fx; simp; omega)
                generalize w6.setCell ⟨bb, 5, none⟩ (.slice yF (fmL yR).length cF) = w7 at T7 LF7 ⊢
                clear cE z5 T6 LF
                refine wp_region_lit ?_
                refine wpList_load_row (by rfl) 28 _ (by rfl) st (by rfl) 28 s.v (0, 0) _ T7.out.cs Tryz.underlying28 rfl (by exact size_sta) ?_
                go_wp2_with fail
                refine (paged_any w7 OK.out).mono ?_
                rintro e w8 ⟨rfl, k8⟩
                have T8 := hidd (T7.out.kep k8)
                have LF8 := hidd (LF7.out.kep k8)
                clear k8 T7 LF7
                cases hpg : pgB s with
                | false =>
                  have eT : Hid (scnT s (scnB B ix s m) = []) := by unfold Hid scnT; rw [hpg]; rfl
                  clear hpg
                  go_upto_region 24 with fail
                  refine wp_region_lit ?_
                  refine wpList_load_row (by rfl) 40 _ (by rfl) bb (by rfl) 40 (blkC (.slice zi yI.length ri) (.slice za yA.length ra) n1 tt 3 (.slice yF (fmL yR).length cF) nilS) (0, 0) _ T8.out.ct Tryz.underlying40 rfl (by exact size_blk) ?_
                  have nbf := T8.out.fx.2.2.2.2.2.2.2.2.2.2
                  have hrf := hidd ((setRow_other w8 rb rf (blkC (.slice zi yI.length ri) (.slice za yA.length ra) n1 tt 3 (.slice yF (fmL yR).length cF) nilS) (Ne.symm nbf)).trans T8.out.cf)
                  go_wp2_with (first
                    | (refine wpList_store_row (by rfl) 40 _ _ (by rfl) rb (blkC (.slice zi yI.length ri) (.slice za yA.length ra) n1 tt 3 (.slice yF (fmL yR).length cF) nilS) (by rfl) (by rfl) 40 (blkC nilS nilS 0 0 0 nilS nilS) T8.out.cb (by exact size_blk) (by rfl) (by simp [Value.oneCell']) ?_)
                    | (refine wpList_store_row (by rfl) 42 _ _ (by rfl) rf #[.int .i64 0, .int .u32 0] (by rfl) (by rfl) 42 #[.int .i64 0, .int .u32 0] hrf.out (by exact size_flt) (by rfl) (by simp [Value.oneCell']) ?_))
                  have PX : Put [rb, rf] w8 ((w8.setRow rb (blkC (.slice zi yI.length ri) (.slice za yA.length ra) n1 tt 3 (.slice yF (fmL yR).length cF) nilS)).setRow rf #[.int .i64 0, .int .u32 0]) := ((Put.refl _).setRow (by simp) _).setRow (by simp) _
                  obtain ⟨KX, RI, RA⟩ := T8.out.last PX
                  have hfx := T8.out.fx
                  try simp only [Exit.noGoto_ret, Exit.inBlock, Exit.then]
                  refine bodyPost_ret (v := .tuple #[.agg (blkC (.slice zi yI.length ri) (.slice za yA.length ra) n1 tt 3 (.slice yF (fmL yR).length cF) nilS), .agg #[.int .i64 0, .int .u32 0]]) (resultsBB (p := 6) (q := 7) (ty := 40) (ty' := 42) rfl _ _ rb 40 (blkC (.slice zi yI.length ri) (.slice za yA.length ra) n1 tt 3 (.slice yF (fmL yR).length cF) nilS) (0, 0) _ rf 42 #[.int .i64 0, .int .u32 0] (0, 0) _ rfl ((setRow_other _ _ _ _ nbf).trans (setRow_heap _ _ _ _ _ _ T8.out.cb)) Tryz.underlying40 rfl size_blk rfl (setRow_heap _ _ _ _ _ _ hrf.out) Tryz.underlying42 rfl size_flt) rfl ⟨KX, .inr ⟨F0.out, .slice zi yI.length ri, .slice za yA.length ra, .slice yF (fmL yR).length cF, nilS, ?_, ?_, ?_, ?_, ?_⟩⟩
                  · rw [FT.out]
                  · rw [FT.out]; exact RI
                  · rw [FT.out]; exact RA
                  · rw [FT.out]; exact ⟨yF, cF, rfl, HFc.out.1, HFc.out.2, LF8.out.far NF.out PX (by simp; omega)⟩
                  · rw [eT.out]; exact rowv_nil _
                | true =>
                  have eT : Hid (scnT s (scnB B ix s m) = tbL yR) := by unfold Hid scnT; rw [hpg, FT.out]; rfl
                  clear hpg
                  go_wp2_with fail
                  refine (tables_any (n := yR.length) (T8.out.kep ((Kep.refl _).alloc _)).lie rfl R1.out R2.out RC.out.1 RC.out.2 (hat _ _ _ rfl)).mono ?_
                  rintro e w9 ⟨yT, cT, rfl, lT, hT1, hT2, k9, nT⟩
                  have T9 := hidd ((T8.out.kep ((Kep.refl _).alloc _)).kep k9)
                  have LT := hidd lT
                  have LF9 := hidd ((LF8.out.kep ((Kep.refl _).alloc _)).kep k9)
                  have NT : Hid (∀ b o t, yT = some ⟨b, o, t⟩ → L ≤ b) := fun b o t h => by have := nT b o t h; have := T8.out.lL; rw [World.size_alloc] at *; omega
                  have HTc : Hid ((tbL yR).length ≤ cT ∧ cT ≤ maxLen) := ⟨hT1, hT2⟩
                  have cG : w9.cell? ⟨bb, 6, none⟩ = some (.slice none 0 0) := cell_of_block T9.out.ct
                  have z6 := row_frozen T9.out.ct 6
                  clear k9 lT hT1 hT2 nT T8 LF8
                  go_upto_region 24 with fail
                  have TX : Hid (TlW w (w9.setCell ⟨bb, 6, none⟩ (.slice yT (tbL yR).length cT)) s st rb rf bb L yI yA yR (blkC (.slice zi yI.length ri) (.slice za yA.length ra) n1 tt 3 (.slice yF (fmL yR).length cF) (.slice yT (tbL yR).length cT)) (.slice zi yI.length ri) (.slice za yA.length ra) (.slice x6 yR.length c6)) := T9.out.box ((Put.refl _).setCell (by simp) _) (heap_setCell_row T9.out.ct _)
                  have LFX : Hid (Lies (w9.setCell ⟨bb, 6, none⟩ (.slice yT (tbL yR).length cT)) yF (num .i64 (fmL yR))) := LF9.out.far NF.out ((Put.refl _).setCell (l := [bb]) (by simp) _) (by have := T9.out.fx; simp; omega)
                  have LTX : Hid (Lies (w9.setCell ⟨bb, 6, none⟩ (.slice yT (tbL yR).length cT)) yT (num .i64 (tbL yR))) := LT.out.far NT.out ((Put.refl _).setCell (l := [bb]) (by simp) _) (by have := T9.out.fx; simp; omega)
                  generalize w9.setCell ⟨bb, 6, none⟩ (.slice yT (tbL yR).length cT) = wX at TX LFX LTX ⊢
                  clear cG z6 T9 LF9 LT
                  refine wp_region_lit ?_
                  refine wpList_load_row (by rfl) 40 _ (by rfl) bb (by rfl) 40 (blkC (.slice zi yI.length ri) (.slice za yA.length ra) n1 tt 3 (.slice yF (fmL yR).length cF) (.slice yT (tbL yR).length cT)) (0, 0) _ TX.out.ct Tryz.underlying40 rfl (by exact size_blk) ?_
                  have nbf := TX.out.fx.2.2.2.2.2.2.2.2.2.2
                  have hrf := hidd ((setRow_other wX rb rf (blkC (.slice zi yI.length ri) (.slice za yA.length ra) n1 tt 3 (.slice yF (fmL yR).length cF) (.slice yT (tbL yR).length cT)) (Ne.symm nbf)).trans TX.out.cf)
                  go_wp2_with (first
                    | (refine wpList_store_row (by rfl) 40 _ _ (by rfl) rb (blkC (.slice zi yI.length ri) (.slice za yA.length ra) n1 tt 3 (.slice yF (fmL yR).length cF) (.slice yT (tbL yR).length cT)) (by rfl) (by rfl) 40 (blkC nilS nilS 0 0 0 nilS nilS) TX.out.cb (by exact size_blk) (by rfl) (by simp [Value.oneCell']) ?_)
                    | (refine wpList_store_row (by rfl) 42 _ _ (by rfl) rf #[.int .i64 0, .int .u32 0] (by rfl) (by rfl) 42 #[.int .i64 0, .int .u32 0] hrf.out (by exact size_flt) (by rfl) (by simp [Value.oneCell']) ?_))
                  have PX : Put [rb, rf] wX ((wX.setRow rb (blkC (.slice zi yI.length ri) (.slice za yA.length ra) n1 tt 3 (.slice yF (fmL yR).length cF) (.slice yT (tbL yR).length cT))).setRow rf #[.int .i64 0, .int .u32 0]) := ((Put.refl _).setRow (by simp) _).setRow (by simp) _
                  obtain ⟨KX, RI, RA⟩ := TX.out.last PX
                  have hfx := TX.out.fx
                  try simp only [Exit.noGoto_ret, Exit.inBlock, Exit.then]
                  refine bodyPost_ret (v := .tuple #[.agg (blkC (.slice zi yI.length ri) (.slice za yA.length ra) n1 tt 3 (.slice yF (fmL yR).length cF) (.slice yT (tbL yR).length cT)), .agg #[.int .i64 0, .int .u32 0]]) (resultsBB (p := 6) (q := 7) (ty := 40) (ty' := 42) rfl _ _ rb 40 (blkC (.slice zi yI.length ri) (.slice za yA.length ra) n1 tt 3 (.slice yF (fmL yR).length cF) (.slice yT (tbL yR).length cT)) (0, 0) _ rf 42 #[.int .i64 0, .int .u32 0] (0, 0) _ rfl ((setRow_other _ _ _ _ nbf).trans (setRow_heap _ _ _ _ _ _ TX.out.cb)) Tryz.underlying40 rfl size_blk rfl (setRow_heap _ _ _ _ _ _ hrf.out) Tryz.underlying42 rfl size_flt) rfl ⟨KX, .inr ⟨F0.out, .slice zi yI.length ri, .slice za yA.length ra, .slice yF (fmL yR).length cF, .slice yT (tbL yR).length cT, ?_, ?_, ?_, ?_, ?_⟩⟩
                  · rw [FT.out]
                  · rw [FT.out]; exact RI
                  · rw [FT.out]; exact RA
                  · rw [FT.out]; exact ⟨yF, cF, rfl, HFc.out.1, HFc.out.2, LFX.out.far NF.out PX (by simp; omega)⟩
                  · rw [eT.out]; exact ⟨yT, cT, rfl, HTc.out.1, HTc.out.2, LTX.out.far NT.out PX (by simp; omega)⟩
              · have FT : Hid (scnB B ix s m = ⟨yI, yA, yR, n1, 4, 0⟩) := by
                  have := STEP.out
                  rw [if_neg (by decide), ONE.out] at this
                  exact this
                have QT := QC
                go_wp2_with fail
                have QT := hidd QT.out
                try go_wp2_with fail
                have TL := hidd QT.out.tl
                refine (frames_any (n := yR.length) (QT.out.kep ((Kep.refl _).alloc _)).sr.lie rfl R1.out R2.out RC.out.1 RC.out.2 (hat _ _ _ rfl)).mono ?_
                rintro e w6 ⟨yF, cF, rfl, lF, hF1, hF2, k6, nF⟩
                have T6 := hidd ((TL.out.kep ((Kep.refl _).alloc _)).kep k6)
                have LF := hidd lF
                have NF : Hid (∀ b o t, yF = some ⟨b, o, t⟩ → L ≤ b) := fun b o t h => by have := nF b o t h; have := QT.out.lL; rw [World.size_alloc] at *; omega
                have HFc : Hid ((fmL yR).length ≤ cF ∧ cF ≤ maxLen) := ⟨hF1, hF2⟩
                have cE : w6.cell? ⟨bb, 5, none⟩ = some (.slice none 0 0) := cell_of_block T6.out.ct
                have z5 := row_frozen T6.out.ct 5
                clear k6 lF hF1 hF2 nF TL QT
                go_upto_region 22 with fail
                have T7 : Hid (TlW w (w6.setCell ⟨bb, 5, none⟩ (.slice yF (fmL yR).length cF)) s st rb rf bb L yI yA yR (blkC (.slice zi yI.length ri) (.slice za yA.length ra) n1 0 4 (.slice yF (fmL yR).length cF) nilS) (.slice zi yI.length ri) (.slice za yA.length ra) (.slice x6 yR.length c6)) := T6.out.box ((Put.refl _).setCell (by simp) _) (heap_setCell_row T6.out.ct _)
                have LF7 : Hid (Lies (w6.setCell ⟨bb, 5, none⟩ (.slice yF (fmL yR).length cF)) yF (num .i64 (fmL yR))) := LF.out.far NF.out ((Put.refl _).setCell (l := [bb]) (by simp) _) (by have := T6.out.fx; simp; omega)
                generalize w6.setCell ⟨bb, 5, none⟩ (.slice yF (fmL yR).length cF) = w7 at T7 LF7 ⊢
                clear cE z5 T6 LF
                refine wp_region_lit ?_
                refine wpList_load_row (by rfl) 28 _ (by rfl) st (by rfl) 28 s.v (0, 0) _ T7.out.cs Tryz.underlying28 rfl (by exact size_sta) ?_
                go_wp2_with fail
                refine (paged_any w7 OK.out).mono ?_
                rintro e w8 ⟨rfl, k8⟩
                have T8 := hidd (T7.out.kep k8)
                have LF8 := hidd (LF7.out.kep k8)
                clear k8 T7 LF7
                cases hpg : pgB s with
                | false =>
                  have eT : Hid (scnT s (scnB B ix s m) = []) := by unfold Hid scnT; rw [hpg]; rfl
                  clear hpg
                  go_upto_region 24 with fail
                  refine wp_region_lit ?_
                  refine wpList_load_row (by rfl) 40 _ (by rfl) bb (by rfl) 40 (blkC (.slice zi yI.length ri) (.slice za yA.length ra) n1 0 4 (.slice yF (fmL yR).length cF) nilS) (0, 0) _ T8.out.ct Tryz.underlying40 rfl (by exact size_blk) ?_
                  have nbf := T8.out.fx.2.2.2.2.2.2.2.2.2.2
                  have hrf := hidd ((setRow_other w8 rb rf (blkC (.slice zi yI.length ri) (.slice za yA.length ra) n1 0 4 (.slice yF (fmL yR).length cF) nilS) (Ne.symm nbf)).trans T8.out.cf)
                  go_wp2_with (first
                    | (refine wpList_store_row (by rfl) 40 _ _ (by rfl) rb (blkC (.slice zi yI.length ri) (.slice za yA.length ra) n1 0 4 (.slice yF (fmL yR).length cF) nilS) (by rfl) (by rfl) 40 (blkC nilS nilS 0 0 0 nilS nilS) T8.out.cb (by exact size_blk) (by rfl) (by simp [Value.oneCell']) ?_)
                    | (refine wpList_store_row (by rfl) 42 _ _ (by rfl) rf #[.int .i64 0, .int .u32 0] (by rfl) (by rfl) 42 #[.int .i64 0, .int .u32 0] hrf.out (by exact size_flt) (by rfl) (by simp [Value.oneCell']) ?_))
                  have PX : Put [rb, rf] w8 ((w8.setRow rb (blkC (.slice zi yI.length ri) (.slice za yA.length ra) n1 0 4 (.slice yF (fmL yR).length cF) nilS)).setRow rf #[.int .i64 0, .int .u32 0]) := ((Put.refl _).setRow (by simp) _).setRow (by simp) _
                  obtain ⟨KX, RI, RA⟩ := T8.out.last PX
                  have hfx := T8.out.fx
                  try simp only [Exit.noGoto_ret, Exit.inBlock, Exit.then]
                  refine bodyPost_ret (v := .tuple #[.agg (blkC (.slice zi yI.length ri) (.slice za yA.length ra) n1 0 4 (.slice yF (fmL yR).length cF) nilS), .agg #[.int .i64 0, .int .u32 0]]) (resultsBB (p := 6) (q := 7) (ty := 40) (ty' := 42) rfl _ _ rb 40 (blkC (.slice zi yI.length ri) (.slice za yA.length ra) n1 0 4 (.slice yF (fmL yR).length cF) nilS) (0, 0) _ rf 42 #[.int .i64 0, .int .u32 0] (0, 0) _ rfl ((setRow_other _ _ _ _ nbf).trans (setRow_heap _ _ _ _ _ _ T8.out.cb)) Tryz.underlying40 rfl size_blk rfl (setRow_heap _ _ _ _ _ _ hrf.out) Tryz.underlying42 rfl size_flt) rfl ⟨KX, .inr ⟨F0.out, .slice zi yI.length ri, .slice za yA.length ra, .slice yF (fmL yR).length cF, nilS, ?_, ?_, ?_, ?_, ?_⟩⟩
                  · rw [FT.out]
                  · rw [FT.out]; exact RI
                  · rw [FT.out]; exact RA
                  · rw [FT.out]; exact ⟨yF, cF, rfl, HFc.out.1, HFc.out.2, LF8.out.far NF.out PX (by simp; omega)⟩
                  · rw [eT.out]; exact rowv_nil _
                | true =>
                  have eT : Hid (scnT s (scnB B ix s m) = tbL yR) := by unfold Hid scnT; rw [hpg, FT.out]; rfl
                  clear hpg
                  go_wp2_with fail
                  refine (tables_any (n := yR.length) (T8.out.kep ((Kep.refl _).alloc _)).lie rfl R1.out R2.out RC.out.1 RC.out.2 (hat _ _ _ rfl)).mono ?_
                  rintro e w9 ⟨yT, cT, rfl, lT, hT1, hT2, k9, nT⟩
                  have T9 := hidd ((T8.out.kep ((Kep.refl _).alloc _)).kep k9)
                  have LT := hidd lT
                  have LF9 := hidd ((LF8.out.kep ((Kep.refl _).alloc _)).kep k9)
                  have NT : Hid (∀ b o t, yT = some ⟨b, o, t⟩ → L ≤ b) := fun b o t h => by have := nT b o t h; have := T8.out.lL; rw [World.size_alloc] at *; omega
                  have HTc : Hid ((tbL yR).length ≤ cT ∧ cT ≤ maxLen) := ⟨hT1, hT2⟩
                  have cG : w9.cell? ⟨bb, 6, none⟩ = some (.slice none 0 0) := cell_of_block T9.out.ct
                  have z6 := row_frozen T9.out.ct 6
                  clear k9 lT hT1 hT2 nT T8 LF8
                  go_upto_region 24 with fail
                  have TX : Hid (TlW w (w9.setCell ⟨bb, 6, none⟩ (.slice yT (tbL yR).length cT)) s st rb rf bb L yI yA yR (blkC (.slice zi yI.length ri) (.slice za yA.length ra) n1 0 4 (.slice yF (fmL yR).length cF) (.slice yT (tbL yR).length cT)) (.slice zi yI.length ri) (.slice za yA.length ra) (.slice x6 yR.length c6)) := T9.out.box ((Put.refl _).setCell (by simp) _) (heap_setCell_row T9.out.ct _)
                  have LFX : Hid (Lies (w9.setCell ⟨bb, 6, none⟩ (.slice yT (tbL yR).length cT)) yF (num .i64 (fmL yR))) := LF9.out.far NF.out ((Put.refl _).setCell (l := [bb]) (by simp) _) (by have := T9.out.fx; simp; omega)
                  have LTX : Hid (Lies (w9.setCell ⟨bb, 6, none⟩ (.slice yT (tbL yR).length cT)) yT (num .i64 (tbL yR))) := LT.out.far NT.out ((Put.refl _).setCell (l := [bb]) (by simp) _) (by have := T9.out.fx; simp; omega)
                  generalize w9.setCell ⟨bb, 6, none⟩ (.slice yT (tbL yR).length cT) = wX at TX LFX LTX ⊢
                  clear cG z6 T9 LF9 LT
                  refine wp_region_lit ?_
                  refine wpList_load_row (by rfl) 40 _ (by rfl) bb (by rfl) 40 (blkC (.slice zi yI.length ri) (.slice za yA.length ra) n1 0 4 (.slice yF (fmL yR).length cF) (.slice yT (tbL yR).length cT)) (0, 0) _ TX.out.ct Tryz.underlying40 rfl (by exact size_blk) ?_
                  have nbf := TX.out.fx.2.2.2.2.2.2.2.2.2.2
                  have hrf := hidd ((setRow_other wX rb rf (blkC (.slice zi yI.length ri) (.slice za yA.length ra) n1 0 4 (.slice yF (fmL yR).length cF) (.slice yT (tbL yR).length cT)) (Ne.symm nbf)).trans TX.out.cf)
                  go_wp2_with (first
                    | (refine wpList_store_row (by rfl) 40 _ _ (by rfl) rb (blkC (.slice zi yI.length ri) (.slice za yA.length ra) n1 0 4 (.slice yF (fmL yR).length cF) (.slice yT (tbL yR).length cT)) (by rfl) (by rfl) 40 (blkC nilS nilS 0 0 0 nilS nilS) TX.out.cb (by exact size_blk) (by rfl) (by simp [Value.oneCell']) ?_)
                    | (refine wpList_store_row (by rfl) 42 _ _ (by rfl) rf #[.int .i64 0, .int .u32 0] (by rfl) (by rfl) 42 #[.int .i64 0, .int .u32 0] hrf.out (by exact size_flt) (by rfl) (by simp [Value.oneCell']) ?_))
                  have PX : Put [rb, rf] wX ((wX.setRow rb (blkC (.slice zi yI.length ri) (.slice za yA.length ra) n1 0 4 (.slice yF (fmL yR).length cF) (.slice yT (tbL yR).length cT))).setRow rf #[.int .i64 0, .int .u32 0]) := ((Put.refl _).setRow (by simp) _).setRow (by simp) _
                  obtain ⟨KX, RI, RA⟩ := TX.out.last PX
                  have hfx := TX.out.fx
                  try simp only [Exit.noGoto_ret, Exit.inBlock, Exit.then]
                  refine bodyPost_ret (v := .tuple #[.agg (blkC (.slice zi yI.length ri) (.slice za yA.length ra) n1 0 4 (.slice yF (fmL yR).length cF) (.slice yT (tbL yR).length cT)), .agg #[.int .i64 0, .int .u32 0]]) (resultsBB (p := 6) (q := 7) (ty := 40) (ty' := 42) rfl _ _ rb 40 (blkC (.slice zi yI.length ri) (.slice za yA.length ra) n1 0 4 (.slice yF (fmL yR).length cF) (.slice yT (tbL yR).length cT)) (0, 0) _ rf 42 #[.int .i64 0, .int .u32 0] (0, 0) _ rfl ((setRow_other _ _ _ _ nbf).trans (setRow_heap _ _ _ _ _ _ TX.out.cb)) Tryz.underlying40 rfl size_blk rfl (setRow_heap _ _ _ _ _ _ hrf.out) Tryz.underlying42 rfl size_flt) rfl ⟨KX, .inr ⟨F0.out, .slice zi yI.length ri, .slice za yA.length ra, .slice yF (fmL yR).length cF, .slice yT (tbL yR).length cT, ?_, ?_, ?_, ?_, ?_⟩⟩
                  · rw [FT.out]
                  · rw [FT.out]; exact RI
                  · rw [FT.out]; exact RA
                  · rw [FT.out]; exact ⟨yF, cF, rfl, HFc.out.1, HFc.out.2, LFX.out.far NF.out PX (by simp; omega)⟩
                  · rw [eT.out]; exact ⟨yT, cT, rfl, HTc.out.1, HTc.out.2, LTX.out.far NT.out PX (by simp; omega)⟩
        · have hE0 : E = [] := by rw [← hE.out]; exact srE_no (by rw [hfk.out]; exact hf)
          obtain rfl : ml = 0 := by rw [← hml.out, hE0]; rfl
          have hff : (fk != 0) = true := by simpa using hf
          clear hE0
          by_cases hk0 : k = 0
          · have hl0 : ((xI.length : Int) == 0) = true := by rw [hk.out, hk0]; rfl
            have ex : xn = s.pc := by
              have h1 := C.out.f.n; have h2 := C.out.c.r
              rw [hk0] at h2
              have h3 : ({ I := xI, A := xA, R := xR, n := xn, e := xe, t := 0 } : SB).R.length = 0 := by omega
              rw [h3] at h1
              simpa using h1
            have e1 : (fetF B ix s).1 = fk := by rw [← hfk.out, ex, go_self]
            have e2 : (fetF B ix s).2 = fa := by rw [← hfa.out, ex, go_self]
            have HE1 := hidd e1
            have HE2 := hidd e2
            have HFK := hidd hf
            clear ex e1 e2
            have nbf := Q5.out.fx.r1
            have n3 : i3 ≠ rb := ne_of G5.out.bj Q5.out.cb (by decide)
            have f1 : w5.cell? ⟨i3, 1, none⟩ = some (.int .u32 fa) := cell_of_block G5.out.bj
            have r0 : w5.cell? ⟨rb, 0, none⟩ = some nilS := cell_of_block Q5.out.cb
            have r1 : w5.cell? ⟨rb, 1, none⟩ = some nilS := cell_of_block Q5.out.cb
            have r2 : w5.cell? ⟨rb, 2, none⟩ = some (.int .u32 0) := cell_of_block Q5.out.cb
            have r3 : w5.cell? ⟨rb, 3, none⟩ = some (.int .u32 0) := cell_of_block Q5.out.cb
            have r4 : w5.cell? ⟨rb, 4, none⟩ = some (.int .i64 0) := cell_of_block Q5.out.cb
            have r5 : w5.cell? ⟨rb, 5, none⟩ = some nilS := cell_of_block Q5.out.cb
            have r6 : w5.cell? ⟨rb, 6, none⟩ = some nilS := cell_of_block Q5.out.cb
            have q0 : w5.cell? ⟨rf, 0, none⟩ = some (.int .i64 0) := cell_of_block Q5.out.cf
            have q1 : w5.cell? ⟨rf, 1, none⟩ = some (.int .u32 0) := cell_of_block Q5.out.cf
            have z1 := fun k => row_frozen Q5.out.cb k
            have z2 := fun k => row_frozen Q5.out.cf k
            go_wp2_with (at_builtin; refine wpList_append_zero rfl (.tmp 39) (.tmp 40) 65 rfl 74 j0 Tryz.underlying65 hj xr y xR.length cr c rfl rfl cr' ?_)
            go_region
            go_wp2_with fail
            have PX : Put [rb, rf] w5 (((((((((w5.setCell ⟨rb, 0, none⟩ (.slice none 0 0)).setCell ⟨rb, 1, none⟩ (.slice none 0 0)).setCell ⟨rb, 2, none⟩ (.int .u32 0)).setCell ⟨rb, 3, none⟩ (.int .u32 0)).setCell ⟨rb, 4, none⟩ (.int .i64 0)).setCell ⟨rb, 5, none⟩ (.slice none 0 0)).setCell ⟨rb, 6, none⟩ (.slice none 0 0)).setCell ⟨rf, 0, none⟩ (.int .i64 fk)).setCell ⟨rf, 1, none⟩ (.int .u32 fa)).drew := by
              refine Put.drew ?_
              iterate 9 (refine Put.setCell ?_ (by simp) _)
              exact Put.refl _
            have lo := Q5.out.fx.lo
            have nbr := Ne.symm nbf
            rw [Exit.noGoto_ret]
            refine bodyPost_ret (v := .tuple #[.agg (blkC nilS nilS 0 0 0 nilS nilS), .agg #[.int .i64 fk, .int .u32 fa]]) (resultsBB (p := 6) (q := 7) (ty := 40) (ty' := 42) rfl _ _ rb 40 (blkC nilS nilS 0 0 0 nilS nilS) (0, 0) _ rf 42 #[.int .i64 fk, .int .u32 fa] (0, 0) _ rfl ?_ Tryz.underlying40 rfl size_blk rfl ?_ Tryz.underlying42 rfl size_flt) rfl ⟨Q5.out.kp.put PX (by simp; omega), .inl ⟨by rw [HE1.out]; exact HFK.out, by rw [HE1.out, HE2.out]⟩⟩
            · refine (drew_heap _ _).trans ((heap_setCell_other _ _ _ _ nbf).trans ((heap_setCell_other _ _ _ _ nbf).trans ?_))
              exact (heap_setCell_row (heap_setCell_row (heap_setCell_row (heap_setCell_row (heap_setCell_row (heap_setCell_row (heap_setCell_row Q5.out.cb _) _) _) _) _) _) _).trans rfl
            · have B7 : (((((((w5.setCell ⟨rb, 0, none⟩ (.slice none 0 0)).setCell ⟨rb, 1, none⟩ (.slice none 0 0)).setCell ⟨rb, 2, none⟩ (.int .u32 0)).setCell ⟨rb, 3, none⟩ (.int .u32 0)).setCell ⟨rb, 4, none⟩ (.int .i64 0)).setCell ⟨rb, 5, none⟩ (.slice none 0 0)).setCell ⟨rb, 6, none⟩ (.slice none 0 0)).heap[rf]? = some (.cells #[.int .i64 0, .int .u32 0] 42 (0, 0)) := by
                iterate 7 (refine (heap_setCell_other _ _ _ _ nbr).trans ?_)
                exact Q5.out.cf
              exact (drew_heap _ _).trans ((heap_setCell_row (heap_setCell_row B7 _) _).trans rfl)
          · have hl0 : ((xI.length : Int) == 0) = false := by rw [hk.out]; simpa using hk0
            have FT : Hid (scnB B ix s m = ⟨xI, xA, xR, xn, xe, 0⟩) := by
              have := C.out.r
              rw [run_stop _ (stop_fault (by rw [hfk.out]; exact hf))] at this
              exact this.symm
            have k1 : 1 ≤ k := by omega
            have F0 := hidd (C.out.z k1)
            have R1 : Hid (1 ≤ xR.length) := C.out.c.r1 k1
            have R2 : Hid (xR.length ≤ 300) := by show xR.length ≤ 300; omega
            have QT := Q5
            have RC : Hid (xR.length ≤ cr ∧ cr ≤ maxLen) := by
              obtain ⟨_, _, hv, _, h1, h2, _⟩ := QT.out.sr.lies
              cases hv; exact ⟨h1, h2⟩
            go_wp2_with (at_builtin; refine wpList_append_zero rfl (.tmp 39) (.tmp 40) 65 rfl 74 j0 Tryz.underlying65 hj xr y xR.length cr c rfl rfl cr' ?_)
            clear k1 hRL f0 c0 hff hl0 hk0 G5 Q5 Q
            have QT := hidd QT.out
            try go_wp2_with fail
            have TL := hidd QT.out.tl
            refine (frames_any (n := xR.length) (QT.out.kep ((Kep.refl _).alloc _)).sr.lie rfl R1.out R2.out RC.out.1 RC.out.2 (hat _ _ _ rfl)).mono ?_
            rintro e w6 ⟨yF, cF, rfl, lF, hF1, hF2, k6, nF⟩
            have T6 := hidd ((TL.out.kep ((Kep.refl _).alloc _)).kep k6)
            have LF := hidd lF
            have NF : Hid (∀ b o t, yF = some ⟨b, o, t⟩ → L ≤ b) := fun b o t h => by have := nF b o t h; have := QT.out.lL; rw [World.size_alloc] at *; omega
            have HFc : Hid ((fmL xR).length ≤ cF ∧ cF ≤ maxLen) := ⟨hF1, hF2⟩
            have c5 : w6.cell? ⟨bb, 5, none⟩ = some (.slice none 0 0) := cell_of_block T6.out.ct
            have z5 := row_frozen T6.out.ct 5
            clear k6 lF hF1 hF2 nF TL QT
            go_upto_region 22 with fail
            have T7 : Hid (TlW w (w6.setCell ⟨bb, 5, none⟩ (.slice yF (fmL xR).length cF)) s st rb rf bb L xI xA xR (blkC (.slice xi xI.length ci) (.slice xa xA.length ca) xn 0 xe (.slice yF (fmL xR).length cF) nilS) (.slice xi xI.length ci) (.slice xa xA.length ca) (.slice xr xR.length cr)) := T6.out.box ((Put.refl _).setCell (by simp) _) (heap_setCell_row T6.out.ct _)
            have LF7 : Hid (Lies (w6.setCell ⟨bb, 5, none⟩ (.slice yF (fmL xR).length cF)) yF (num .i64 (fmL xR))) := LF.out.far NF.out ((Put.refl _).setCell (l := [bb]) (by simp) _) (by have := T6.out.fx; simp; omega)
            generalize w6.setCell ⟨bb, 5, none⟩ (.slice yF (fmL xR).length cF) = w7 at T7 LF7 ⊢
            clear c5 z5 T6 LF
            refine wp_region_lit ?_
            refine wpList_load_row (by rfl) 28 _ (by rfl) st (by rfl) 28 s.v (0, 0) _ T7.out.cs Tryz.underlying28 rfl (by exact size_sta) ?_
            go_wp2_with fail
            refine (paged_any w7 OK.out).mono ?_
            rintro e w8 ⟨rfl, k8⟩
            have T8 := hidd (T7.out.kep k8)
            have LF8 := hidd (LF7.out.kep k8)
            clear k8 T7 LF7
            cases hpg : pgB s with
            | false =>
              have eT : Hid (scnT s (scnB B ix s m) = []) := by unfold Hid scnT; rw [hpg]; rfl
              clear hpg
              go_upto_region 24 with fail
              refine wp_region_lit ?_
              refine wpList_load_row (by rfl) 40 _ (by rfl) bb (by rfl) 40 (blkC (.slice xi xI.length ci) (.slice xa xA.length ca) xn 0 xe (.slice yF (fmL xR).length cF) nilS) (0, 0) _ T8.out.ct Tryz.underlying40 rfl (by exact size_blk) ?_
              have nbf := T8.out.fx.2.2.2.2.2.2.2.2.2.2
              have hrf := hidd ((setRow_other w8 rb rf (blkC (.slice xi xI.length ci) (.slice xa xA.length ca) xn 0 xe (.slice yF (fmL xR).length cF) nilS) (Ne.symm nbf)).trans T8.out.cf)
              go_wp2_with (first
                | (refine wpList_store_row (by rfl) 40 _ _ (by rfl) rb (blkC (.slice xi xI.length ci) (.slice xa xA.length ca) xn 0 xe (.slice yF (fmL xR).length cF) nilS) (by rfl) (by rfl) 40 (blkC nilS nilS 0 0 0 nilS nilS) T8.out.cb (by exact size_blk) (by rfl) (by simp [Value.oneCell']) ?_)
                | (refine wpList_store_row (by rfl) 42 _ _ (by rfl) rf #[.int .i64 0, .int .u32 0] (by rfl) (by rfl) 42 #[.int .i64 0, .int .u32 0] hrf.out (by exact size_flt) (by rfl) (by simp [Value.oneCell']) ?_))
              have PX : Put [rb, rf] w8 ((w8.setRow rb (blkC (.slice xi xI.length ci) (.slice xa xA.length ca) xn 0 xe (.slice yF (fmL xR).length cF) nilS)).setRow rf #[.int .i64 0, .int .u32 0]) := ((Put.refl _).setRow (by simp) _).setRow (by simp) _
              obtain ⟨KX, RI, RA⟩ := T8.out.last PX
              have hfx := T8.out.fx
              try simp only [Exit.noGoto_ret, Exit.inBlock, Exit.then]
              refine bodyPost_ret (v := .tuple #[.agg (blkC (.slice xi xI.length ci) (.slice xa xA.length ca) xn 0 xe (.slice yF (fmL xR).length cF) nilS), .agg #[.int .i64 0, .int .u32 0]]) (resultsBB (p := 6) (q := 7) (ty := 40) (ty' := 42) rfl _ _ rb 40 (blkC (.slice xi xI.length ci) (.slice xa xA.length ca) xn 0 xe (.slice yF (fmL xR).length cF) nilS) (0, 0) _ rf 42 #[.int .i64 0, .int .u32 0] (0, 0) _ rfl ((setRow_other _ _ _ _ nbf).trans (setRow_heap _ _ _ _ _ _ T8.out.cb)) Tryz.underlying40 rfl size_blk rfl (setRow_heap _ _ _ _ _ _ hrf.out) Tryz.underlying42 rfl size_flt) rfl ⟨KX, .inr ⟨F0.out, .slice xi xI.length ci, .slice xa xA.length ca, .slice yF (fmL xR).length cF, nilS, ?_, ?_, ?_, ?_, ?_⟩⟩
              · rw [FT.out]
              · rw [FT.out]; exact RI
              · rw [FT.out]; exact RA
              · rw [FT.out]; exact ⟨yF, cF, rfl, HFc.out.1, HFc.out.2, LF8.out.far NF.out PX (by simp; omega)⟩
              · rw [eT.out]; exact rowv_nil _
            | true =>
              have eT : Hid (scnT s (scnB B ix s m) = tbL xR) := by unfold Hid scnT; rw [hpg, FT.out]; rfl
              clear hpg
              go_wp2_with fail
              refine (tables_any (n := xR.length) (T8.out.kep ((Kep.refl _).alloc _)).lie rfl R1.out R2.out RC.out.1 RC.out.2 (hat _ _ _ rfl)).mono ?_
              rintro e w9 ⟨yT, cT, rfl, lT, hT1, hT2, k9, nT⟩
              have T9 := hidd ((T8.out.kep ((Kep.refl _).alloc _)).kep k9)
              have LT := hidd lT
              have LF9 := hidd ((LF8.out.kep ((Kep.refl _).alloc _)).kep k9)
              have NT : Hid (∀ b o t, yT = some ⟨b, o, t⟩ → L ≤ b) := fun b o t h => by have := nT b o t h; have := T8.out.lL; rw [World.size_alloc] at *; omega
              have HTc : Hid ((tbL xR).length ≤ cT ∧ cT ≤ maxLen) := ⟨hT1, hT2⟩
              have c6 : w9.cell? ⟨bb, 6, none⟩ = some (.slice none 0 0) := cell_of_block T9.out.ct
              have z6 := row_frozen T9.out.ct 6
              clear k9 lT hT1 hT2 nT T8 LF8
              go_upto_region 24 with fail
              have TX : Hid (TlW w (w9.setCell ⟨bb, 6, none⟩ (.slice yT (tbL xR).length cT)) s st rb rf bb L xI xA xR (blkC (.slice xi xI.length ci) (.slice xa xA.length ca) xn 0 xe (.slice yF (fmL xR).length cF) (.slice yT (tbL xR).length cT)) (.slice xi xI.length ci) (.slice xa xA.length ca) (.slice xr xR.length cr)) := T9.out.box ((Put.refl _).setCell (by simp) _) (heap_setCell_row T9.out.ct _)
              have LFX : Hid (Lies (w9.setCell ⟨bb, 6, none⟩ (.slice yT (tbL xR).length cT)) yF (num .i64 (fmL xR))) := LF9.out.far NF.out ((Put.refl _).setCell (l := [bb]) (by simp) _) (by have := T9.out.fx; simp; omega)
              have LTX : Hid (Lies (w9.setCell ⟨bb, 6, none⟩ (.slice yT (tbL xR).length cT)) yT (num .i64 (tbL xR))) := LT.out.far NT.out ((Put.refl _).setCell (l := [bb]) (by simp) _) (by have := T9.out.fx; simp; omega)
              generalize w9.setCell ⟨bb, 6, none⟩ (.slice yT (tbL xR).length cT) = wX at TX LFX LTX ⊢
              clear c6 z6 T9 LF9 LT
              refine wp_region_lit ?_
              refine wpList_load_row (by rfl) 40 _ (by rfl) bb (by rfl) 40 (blkC (.slice xi xI.length ci) (.slice xa xA.length ca) xn 0 xe (.slice yF (fmL xR).length cF) (.slice yT (tbL xR).length cT)) (0, 0) _ TX.out.ct Tryz.underlying40 rfl (by exact size_blk) ?_
              have nbf := TX.out.fx.2.2.2.2.2.2.2.2.2.2
              have hrf := hidd ((setRow_other wX rb rf (blkC (.slice xi xI.length ci) (.slice xa xA.length ca) xn 0 xe (.slice yF (fmL xR).length cF) (.slice yT (tbL xR).length cT)) (Ne.symm nbf)).trans TX.out.cf)
              go_wp2_with (first
                | (refine wpList_store_row (by rfl) 40 _ _ (by rfl) rb (blkC (.slice xi xI.length ci) (.slice xa xA.length ca) xn 0 xe (.slice yF (fmL xR).length cF) (.slice yT (tbL xR).length cT)) (by rfl) (by rfl) 40 (blkC nilS nilS 0 0 0 nilS nilS) TX.out.cb (by exact size_blk) (by rfl) (by simp [Value.oneCell']) ?_)
                | (refine wpList_store_row (by rfl) 42 _ _ (by rfl) rf #[.int .i64 0, .int .u32 0] (by rfl) (by rfl) 42 #[.int .i64 0, .int .u32 0] hrf.out (by exact size_flt) (by rfl) (by simp [Value.oneCell']) ?_))
              have PX : Put [rb, rf] wX ((wX.setRow rb (blkC (.slice xi xI.length ci) (.slice xa xA.length ca) xn 0 xe (.slice yF (fmL xR).length cF) (.slice yT (tbL xR).length cT))).setRow rf #[.int .i64 0, .int .u32 0]) := ((Put.refl _).setRow (by simp) _).setRow (by simp) _
              obtain ⟨KX, RI, RA⟩ := TX.out.last PX
              have hfx := TX.out.fx
              try simp only [Exit.noGoto_ret, Exit.inBlock, Exit.then]
              refine bodyPost_ret (v := .tuple #[.agg (blkC (.slice xi xI.length ci) (.slice xa xA.length ca) xn 0 xe (.slice yF (fmL xR).length cF) (.slice yT (tbL xR).length cT)), .agg #[.int .i64 0, .int .u32 0]]) (resultsBB (p := 6) (q := 7) (ty := 40) (ty' := 42) rfl _ _ rb 40 (blkC (.slice xi xI.length ci) (.slice xa xA.length ca) xn 0 xe (.slice yF (fmL xR).length cF) (.slice yT (tbL xR).length cT)) (0, 0) _ rf 42 #[.int .i64 0, .int .u32 0] (0, 0) _ rfl ((setRow_other _ _ _ _ nbf).trans (setRow_heap _ _ _ _ _ _ TX.out.cb)) Tryz.underlying40 rfl size_blk rfl (setRow_heap _ _ _ _ _ _ hrf.out) Tryz.underlying42 rfl size_flt) rfl ⟨KX, .inr ⟨F0.out, .slice xi xI.length ci, .slice xa xA.length ca, .slice yF (fmL xR).length cF, .slice yT (tbL xR).length cT, ?_, ?_, ?_, ?_, ?_⟩⟩
              · rw [FT.out]
              · rw [FT.out]; exact RI
              · rw [FT.out]; exact RA
              · rw [FT.out]; exact ⟨yF, cF, rfl, HFc.out.1, HFc.out.2, LFX.out.far NF.out PX (by simp; omega)⟩
              · rw [eT.out]; exact ⟨yT, cT, rfl, HTc.out.1, HTc.out.2, LTX.out.far NT.out PX (by simp; omega)⟩
    · have hlt' : ¬ (xI.length : Int) < mst := by rw [hk.out]; omega
      have hkm' : k = mst := by omega
      have FT : Hid (scnB B ix s m = ⟨xI, xA, xR, xn, xe, 0⟩) := by
        have := C.out.r
        rw [hmst.out, hkm', Nat.sub_self] at this
        exact this.symm
      have k1 : 1 ≤ k := by have := MR.out.1; rw [hmst.out] at this; omega
      have F0 := hidd (C.out.z k1)
      have R1 : Hid (1 ≤ xR.length) := C.out.c.r1 k1
      have R2 : Hid (xR.length ≤ 300) := by have h := hR200; show xR.length ≤ 300; have h2 : ({ I := xI, A := xA, R := xR, n := xn, e := xe, t := 0 } : SB).R.length = xR.length := rfl; omega
      have QT := Q
      have RC : Hid (xR.length ≤ cr ∧ cr ≤ maxLen) := by
        obtain ⟨_, _, hv, _, h1, h2, _⟩ := QT.out.sr.lies
        cases hv; exact ⟨h1, h2⟩
      clear k1 hkm'
      have QT := hidd QT.out
      go_wp2_with fail
      have TL := hidd QT.out.tl
      refine (frames_any (n := xR.length) (QT.out.kep ((Kep.refl _).alloc _)).sr.lie rfl R1.out R2.out RC.out.1 RC.out.2 (hat _ _ _ rfl)).mono ?_
      rintro e w6 ⟨yF, cF, rfl, lF, hF1, hF2, k6, nF⟩
      have T6 := hidd ((TL.out.kep ((Kep.refl _).alloc _)).kep k6)
      have LF := hidd lF
      have NF : Hid (∀ b o t, yF = some ⟨b, o, t⟩ → L ≤ b) := fun b o t h => by have := nF b o t h; have := QT.out.lL; rw [World.size_alloc] at *; omega
      have HFc : Hid ((fmL xR).length ≤ cF ∧ cF ≤ maxLen) := ⟨hF1, hF2⟩
      have c5 : w6.cell? ⟨bb, 5, none⟩ = some (.slice none 0 0) := cell_of_block T6.out.ct
      have z5 := row_frozen T6.out.ct 5
      clear k6 lF hF1 hF2 nF TL QT
      go_upto_region 22 with fail
      have T7 : Hid (TlW w (w6.setCell ⟨bb, 5, none⟩ (.slice yF (fmL xR).length cF)) s st rb rf bb L xI xA xR (blkC (.slice xi xI.length ci) (.slice xa xA.length ca) xn 0 xe (.slice yF (fmL xR).length cF) nilS) (.slice xi xI.length ci) (.slice xa xA.length ca) (.slice xr xR.length cr)) := T6.out.box ((Put.refl _).setCell (by simp) _) (heap_setCell_row T6.out.ct _)
      have LF7 : Hid (Lies (w6.setCell ⟨bb, 5, none⟩ (.slice yF (fmL xR).length cF)) yF (num .i64 (fmL xR))) := LF.out.far NF.out ((Put.refl _).setCell (l := [bb]) (by simp) _) (by have := T6.out.fx; simp; omega)
      generalize w6.setCell ⟨bb, 5, none⟩ (.slice yF (fmL xR).length cF) = w7 at T7 LF7 ⊢
      clear c5 z5 T6 LF
      refine wp_region_lit ?_
      refine wpList_load_row (by rfl) 28 _ (by rfl) st (by rfl) 28 s.v (0, 0) _ T7.out.cs Tryz.underlying28 rfl (by exact size_sta) ?_
      go_wp2_with fail
      refine (paged_any w7 OK.out).mono ?_
      rintro e w8 ⟨rfl, k8⟩
      have T8 := hidd (T7.out.kep k8)
      have LF8 := hidd (LF7.out.kep k8)
      clear k8 T7 LF7
      cases hpg : pgB s with
      | false =>
        have eT : Hid (scnT s (scnB B ix s m) = []) := by unfold Hid scnT; rw [hpg]; rfl
        clear hpg
        go_upto_region 24 with fail
        refine wp_region_lit ?_
        refine wpList_load_row (by rfl) 40 _ (by rfl) bb (by rfl) 40 (blkC (.slice xi xI.length ci) (.slice xa xA.length ca) xn 0 xe (.slice yF (fmL xR).length cF) nilS) (0, 0) _ T8.out.ct Tryz.underlying40 rfl (by exact size_blk) ?_
        have nbf := T8.out.fx.2.2.2.2.2.2.2.2.2.2
        have hrf := hidd ((setRow_other w8 rb rf (blkC (.slice xi xI.length ci) (.slice xa xA.length ca) xn 0 xe (.slice yF (fmL xR).length cF) nilS) (Ne.symm nbf)).trans T8.out.cf)
        go_wp2_with (first
          | (refine wpList_store_row (by rfl) 40 _ _ (by rfl) rb (blkC (.slice xi xI.length ci) (.slice xa xA.length ca) xn 0 xe (.slice yF (fmL xR).length cF) nilS) (by rfl) (by rfl) 40 (blkC nilS nilS 0 0 0 nilS nilS) T8.out.cb (by exact size_blk) (by rfl) (by simp [Value.oneCell']) ?_)
          | (refine wpList_store_row (by rfl) 42 _ _ (by rfl) rf #[.int .i64 0, .int .u32 0] (by rfl) (by rfl) 42 #[.int .i64 0, .int .u32 0] hrf.out (by exact size_flt) (by rfl) (by simp [Value.oneCell']) ?_))
        have PX : Put [rb, rf] w8 ((w8.setRow rb (blkC (.slice xi xI.length ci) (.slice xa xA.length ca) xn 0 xe (.slice yF (fmL xR).length cF) nilS)).setRow rf #[.int .i64 0, .int .u32 0]) := ((Put.refl _).setRow (by simp) _).setRow (by simp) _
        obtain ⟨KX, RI, RA⟩ := T8.out.last PX
        have hfx := T8.out.fx
        try simp only [Exit.noGoto_ret, Exit.inBlock, Exit.then]
        refine bodyPost_ret (v := .tuple #[.agg (blkC (.slice xi xI.length ci) (.slice xa xA.length ca) xn 0 xe (.slice yF (fmL xR).length cF) nilS), .agg #[.int .i64 0, .int .u32 0]]) (resultsBB (p := 6) (q := 7) (ty := 40) (ty' := 42) rfl _ _ rb 40 (blkC (.slice xi xI.length ci) (.slice xa xA.length ca) xn 0 xe (.slice yF (fmL xR).length cF) nilS) (0, 0) _ rf 42 #[.int .i64 0, .int .u32 0] (0, 0) _ rfl ((setRow_other _ _ _ _ nbf).trans (setRow_heap _ _ _ _ _ _ T8.out.cb)) Tryz.underlying40 rfl size_blk rfl (setRow_heap _ _ _ _ _ _ hrf.out) Tryz.underlying42 rfl size_flt) rfl ⟨KX, .inr ⟨F0.out, .slice xi xI.length ci, .slice xa xA.length ca, .slice yF (fmL xR).length cF, nilS, ?_, ?_, ?_, ?_, ?_⟩⟩
        · rw [FT.out]
        · rw [FT.out]; exact RI
        · rw [FT.out]; exact RA
        · rw [FT.out]; exact ⟨yF, cF, rfl, HFc.out.1, HFc.out.2, LF8.out.far NF.out PX (by simp; omega)⟩
        · rw [eT.out]; exact rowv_nil _
      | true =>
        have eT : Hid (scnT s (scnB B ix s m) = tbL xR) := by unfold Hid scnT; rw [hpg, FT.out]; rfl
        clear hpg
        go_wp2_with fail
        refine (tables_any (n := xR.length) (T8.out.kep ((Kep.refl _).alloc _)).lie rfl R1.out R2.out RC.out.1 RC.out.2 (hat _ _ _ rfl)).mono ?_
        rintro e w9 ⟨yT, cT, rfl, lT, hT1, hT2, k9, nT⟩
        have T9 := hidd ((T8.out.kep ((Kep.refl _).alloc _)).kep k9)
        have LT := hidd lT
        have LF9 := hidd ((LF8.out.kep ((Kep.refl _).alloc _)).kep k9)
        have NT : Hid (∀ b o t, yT = some ⟨b, o, t⟩ → L ≤ b) := fun b o t h => by have := nT b o t h; have := T8.out.lL; rw [World.size_alloc] at *; omega
        have HTc : Hid ((tbL xR).length ≤ cT ∧ cT ≤ maxLen) := ⟨hT1, hT2⟩
        have c6 : w9.cell? ⟨bb, 6, none⟩ = some (.slice none 0 0) := cell_of_block T9.out.ct
        have z6 := row_frozen T9.out.ct 6
        clear k9 lT hT1 hT2 nT T8 LF8
        go_upto_region 24 with fail
        have TX : Hid (TlW w (w9.setCell ⟨bb, 6, none⟩ (.slice yT (tbL xR).length cT)) s st rb rf bb L xI xA xR (blkC (.slice xi xI.length ci) (.slice xa xA.length ca) xn 0 xe (.slice yF (fmL xR).length cF) (.slice yT (tbL xR).length cT)) (.slice xi xI.length ci) (.slice xa xA.length ca) (.slice xr xR.length cr)) := T9.out.box ((Put.refl _).setCell (by simp) _) (heap_setCell_row T9.out.ct _)
        have LFX : Hid (Lies (w9.setCell ⟨bb, 6, none⟩ (.slice yT (tbL xR).length cT)) yF (num .i64 (fmL xR))) := LF9.out.far NF.out ((Put.refl _).setCell (l := [bb]) (by simp) _) (by have := T9.out.fx; simp; omega)
        have LTX : Hid (Lies (w9.setCell ⟨bb, 6, none⟩ (.slice yT (tbL xR).length cT)) yT (num .i64 (tbL xR))) := LT.out.far NT.out ((Put.refl _).setCell (l := [bb]) (by simp) _) (by have := T9.out.fx; simp; omega)
        generalize w9.setCell ⟨bb, 6, none⟩ (.slice yT (tbL xR).length cT) = wX at TX LFX LTX ⊢
        clear c6 z6 T9 LF9 LT
        refine wp_region_lit ?_
        refine wpList_load_row (by rfl) 40 _ (by rfl) bb (by rfl) 40 (blkC (.slice xi xI.length ci) (.slice xa xA.length ca) xn 0 xe (.slice yF (fmL xR).length cF) (.slice yT (tbL xR).length cT)) (0, 0) _ TX.out.ct Tryz.underlying40 rfl (by exact size_blk) ?_
        have nbf := TX.out.fx.2.2.2.2.2.2.2.2.2.2
        have hrf := hidd ((setRow_other wX rb rf (blkC (.slice xi xI.length ci) (.slice xa xA.length ca) xn 0 xe (.slice yF (fmL xR).length cF) (.slice yT (tbL xR).length cT)) (Ne.symm nbf)).trans TX.out.cf)
        go_wp2_with (first
          | (refine wpList_store_row (by rfl) 40 _ _ (by rfl) rb (blkC (.slice xi xI.length ci) (.slice xa xA.length ca) xn 0 xe (.slice yF (fmL xR).length cF) (.slice yT (tbL xR).length cT)) (by rfl) (by rfl) 40 (blkC nilS nilS 0 0 0 nilS nilS) TX.out.cb (by exact size_blk) (by rfl) (by simp [Value.oneCell']) ?_)
          | (refine wpList_store_row (by rfl) 42 _ _ (by rfl) rf #[.int .i64 0, .int .u32 0] (by rfl) (by rfl) 42 #[.int .i64 0, .int .u32 0] hrf.out (by exact size_flt) (by rfl) (by simp [Value.oneCell']) ?_))
        have PX : Put [rb, rf] wX ((wX.setRow rb (blkC (.slice xi xI.length ci) (.slice xa xA.length ca) xn 0 xe (.slice yF (fmL xR).length cF) (.slice yT (tbL xR).length cT))).setRow rf #[.int .i64 0, .int .u32 0]) := ((Put.refl _).setRow (by simp) _).setRow (by simp) _
        obtain ⟨KX, RI, RA⟩ := TX.out.last PX
        have hfx := TX.out.fx
        try simp only [Exit.noGoto_ret, Exit.inBlock, Exit.then]
        refine bodyPost_ret (v := .tuple #[.agg (blkC (.slice xi xI.length ci) (.slice xa xA.length ca) xn 0 xe (.slice yF (fmL xR).length cF) (.slice yT (tbL xR).length cT)), .agg #[.int .i64 0, .int .u32 0]]) (resultsBB (p := 6) (q := 7) (ty := 40) (ty' := 42) rfl _ _ rb 40 (blkC (.slice xi xI.length ci) (.slice xa xA.length ca) xn 0 xe (.slice yF (fmL xR).length cF) (.slice yT (tbL xR).length cT)) (0, 0) _ rf 42 #[.int .i64 0, .int .u32 0] (0, 0) _ rfl ((setRow_other _ _ _ _ nbf).trans (setRow_heap _ _ _ _ _ _ TX.out.cb)) Tryz.underlying40 rfl size_blk rfl (setRow_heap _ _ _ _ _ _ hrf.out) Tryz.underlying42 rfl size_flt) rfl ⟨KX, .inr ⟨F0.out, .slice xi xI.length ci, .slice xa xA.length ca, .slice yF (fmL xR).length cF, .slice yT (tbL xR).length cT, ?_, ?_, ?_, ?_, ?_⟩⟩
        · rw [FT.out]
        · rw [FT.out]; exact RI
        · rw [FT.out]; exact RA
        · rw [FT.out]; exact ⟨yF, cF, rfl, HFc.out.1, HFc.out.2, LFX.out.far NF.out PX (by simp; omega)⟩
        · rw [eT.out]; exact ⟨yT, cT, rfl, HTc.out.1, HTc.out.2, LTX.out.far NT.out PX (by simp; omega)⟩
end Go.Proofs.YtamffningddgbaaGreatDoor
