/- Part of a proof. -/
import Derived.OrdersHeld
import Derived.Deep.MidRow
import Derived.Deep.AppendLies
import Derived.Test.YtamffningddgbaaGreatDoorJ14
namespace Go.Proofs.YtamffningddgbaaGreatDoor
open Go.RowKit
set_option linter.unusedVariables false
set_option linter.unusedSimpArgs false
theorem size_insb : (Tryz.prog.info? 53).map (·.size) = some 4 := by kernel_rfl
theorem info_u8b : (Tryz.prog.info? 5).map (fun i => (i.zero, i.size, i.bytes)) = some (some (.int .u8 0), 1, 1) := by kernel_rfl
theorem resultsCTC {P : Program} {fn : Func} {p q u : Tmp} {ty ty' : TypeId} (h : fn.results = #[.cell p ty, .tmp u, .cell q ty']) (tmps : Array Value) (w : World) (g : Nat) (t : TypeId) (cs : Array Value) (fr : Nat × Nat) (d : TypeDesc)
    (g' : Nat) (t' : TypeId) (cs' : Array Value) (fr' : Nat × Nat) (d' : TypeDesc)
    (hp : tmps.getD p undef = .pointer (some ⟨g, 0, none⟩)) (hg : w.heap[g]? = some (.cells cs t fr))
    (hu : P.underlying ty = some d) (hd : (match d with | .struct _ | .array _ _ => true | _ => false) = true) (hi : (P.info? ty).map (·.size) = some cs.size)
    (hp' : tmps.getD q undef = .pointer (some ⟨g', 0, none⟩)) (hg' : w.heap[g']? = some (.cells cs' t' fr'))
    (hu' : P.underlying ty' = some d') (hd' : (match d' with | .struct _ | .array _ _ => true | _ => false) = true) (hi' : (P.info? ty').map (·.size) = some cs'.size) :
    (results fn tmps).run P w = .ok (.tuple #[.agg cs, tmps.getD u undef, .agg cs']) w := by
  have e1 : tmps[p]?.getD undef = .pointer (some ⟨g, 0, none⟩) := by simpa using hp
  have e2 : tmps[q]?.getD undef = .pointer (some ⟨g', 0, none⟩) := by simpa using hp'
  simp [results, h, e1, e2, asAddr, run_loadVar_row w g t ty cs fr d hg hu hd hi, run_loadVar_row w g' t' ty' cs' fr' d' hg' hu' hd' hi']
def srE (B : List Int) (ix : List Nat) (s : Sta) : List Sr := if (fetF B ix s).1 = 0 then srF B ix s else []
theorem srE_no {B : List Int} {ix : List Nat} {s : Sta} (h : (fetF B ix s).1 ≠ 0) : srE B ix s = [] := if_neg h
theorem srE_yes {B : List Int} {ix : List Nat} {s : Sta} (h : (fetF B ix s).1 = 0) : srE B ix s = srF B ix s := if_pos h
theorem srF_len (B : List Int) (ix : List Nat) (s : Sta) : (srF B ix s).length = fetN B ix s := srN_len _ _ _ _
structure FB (w W : World) (i4 i6 g r st pm : Nat) (s : Sta) (x : Int) : Prop where
  put : Put [g] w W
  b4 : W.heap[i4]? = some (.cells zeroI 53 (0, 0))
  b6 : W.heap[i6]? = some (.cells #[.int .i64 0, .int .u32 0] 42 (0, 0))
  bg : W.heap[g]? = some (.cells #[.int .u32 x] 25 (0, 0))
  br : W.heap[r]? = some (.cells #[.pointer (some ⟨pm, 0, none⟩)] 32 (0, 0))
  bs : At W st s
  n4 : w.heap.size ≤ i4
  n6 : w.heap.size ≤ i6
  n46 : i4 ≠ i6
  lg : g < w.heap.size
  lr : r < w.heap.size
  ls : st < w.heap.size
theorem FB.kep {w W W' : World} {i4 i6 g r st pm : Nat} {s : Sta} {x : Int} (H : FB w W i4 i6 g r st pm s x) (k : Kep W W') : FB w W' i4 i6 g r st pm s x :=
  ⟨H.put.trans (Put.of_kep k), k.block H.b4, k.block H.b6, k.block H.bg, k.block H.br, H.bs.kep k, H.n4, H.n6, H.n46, H.lg, H.lr, H.ls⟩
theorem FB.new {w W W' : World} {i4 i6 g r st pm L : Nat} {s : Sta} {x : Int} {l : List Nat} (H : FB w W i4 i6 g r st pm s x) (k : Put l W W') (hl : ∀ b ∈ l, L ≤ b) (h4 : i4 < L) (h6 : i6 < L) (hw : w.heap.size ≤ L) : FB w W' i4 i6 g r st pm s x := by
  have n : ∀ b, b < L → b ∉ l := fun b hb hm => by have := hl b hm; omega
  have := H.lg; have := H.lr; have := H.ls
  refine ⟨H.put.onto k (fun b hb hlt => ?_), k.keeps H.b4 (n _ h4), k.keeps H.b6 (n _ h6), k.keeps H.bg (n _ (by omega)), k.keeps H.br (n _ (by omega)), H.bs.put k (n _ (by omega)), H.n4, H.n6, H.n46, H.lg, H.lr, H.ls⟩
  have := hl b hb; omega
theorem FB.hand {w W : World} {R : Nat} {ix : List Nat} {B : List Int} {i4 i6 g r st pm : Nat} {s : Sta} {x : Int} (H : FB w W i4 i6 g r st pm s x) (M : Mem w (mpt pm) R ix B) (ok : s.Ok) (hgR : g ≠ R) (hgM : Off w (mpt pm) [g]) (hx : 0 ≤ x ∧ x < 4294967296) :
    Calls Tryz.prog 47 #[.pointer (some ⟨g, 0, none⟩), .pointer (some ⟨r, 0, none⟩), .pointer (some ⟨st, 0, none⟩)] W fun e W' => e = .returned (.tuple (bhV B ix s x)) ∧ FB w W' i4 i6 g r st pm s ((x + 1) % 4294967296) ∧ Put [g] W W' := by
  have M' := M.put H.put hgM (by simpa using Ne.symm hgR)
  have := H.n4; have := H.n6; have := H.lg
  have rg : r ≠ g := by intro e; subst e; have := H.br.symm.trans H.bg; cases this
  have sg : st ≠ g := by
    intro e; subst e
    have e : some (Obj.cells s.v 28 (0, 0)) = some (.cells #[.int .u32 x] 25 (0, 0)) := H.bs.symm.trans H.bg
    have := congrArg (fun o : Option Obj => match o with | some (.cells c _ _) => c.size | _ => 0) e
    exact absurd this (by show ¬ (19 = 1); decide)
  refine (bhand_any M' ok g r st x hx H.bg H.br H.bs hgR (Off.stay M.ram hgM H.put hgM)).mono ?_
  rintro e W' ⟨rfl, hg, k⟩
  exact ⟨rfl, ⟨H.put.trans k, k.keeps H.b4 (by simp; omega), k.keeps H.b6 (by simp; omega), hg, k.keeps H.br (by simpa using rg), H.bs.put k (by simpa using sg), H.n4, H.n6, H.n46, H.lg, H.lr, H.ls⟩, k⟩
theorem FB.end {w V : World} {i4 i6 g r st pm : Nat} {s : Sta} {x : Int} (F : FB w V i4 i6 g r st pm s x) (u0 u1 u2 u3 k a : Int) :
    ((((((V.setCell ⟨i4, 0, none⟩ (.int .u8 u0)).setCell ⟨i4, 1, none⟩ (.int .u8 u1)).setCell ⟨i4, 2, none⟩ (.int .u8 u2)).setCell ⟨i4, 3, none⟩ (.int .i32 u3)).setCell ⟨i6, 0, none⟩ (.int .i64 k)).setCell ⟨i6, 1, none⟩ (.int .u32 a)).heap[i4]? = some (.cells #[.int .u8 u0, .int .u8 u1, .int .u8 u2, .int .i32 u3] 53 (0, 0)) ∧
    ((((((V.setCell ⟨i4, 0, none⟩ (.int .u8 u0)).setCell ⟨i4, 1, none⟩ (.int .u8 u1)).setCell ⟨i4, 2, none⟩ (.int .u8 u2)).setCell ⟨i4, 3, none⟩ (.int .i32 u3)).setCell ⟨i6, 0, none⟩ (.int .i64 k)).setCell ⟨i6, 1, none⟩ (.int .u32 a)).heap[i6]? = some (.cells #[.int .i64 k, .int .u32 a] 42 (0, 0)) ∧
    Put [g] w ((((((V.setCell ⟨i4, 0, none⟩ (.int .u8 u0)).setCell ⟨i4, 1, none⟩ (.int .u8 u1)).setCell ⟨i4, 2, none⟩ (.int .u8 u2)).setCell ⟨i4, 3, none⟩ (.int .i32 u3)).setCell ⟨i6, 0, none⟩ (.int .i64 k)).setCell ⟨i6, 1, none⟩ (.int .u32 a)) ∧
    Put [i4, i6] V ((((((V.setCell ⟨i4, 0, none⟩ (.int .u8 u0)).setCell ⟨i4, 1, none⟩ (.int .u8 u1)).setCell ⟨i4, 2, none⟩ (.int .u8 u2)).setCell ⟨i4, 3, none⟩ (.int .i32 u3)).setCell ⟨i6, 0, none⟩ (.int .i64 k)).setCell ⟨i6, 1, none⟩ (.int .u32 a)) := by
  have n := F.n46
  have e2 : (((((V.setCell ⟨i4, 0, none⟩ (.int .u8 u0)).setCell ⟨i4, 1, none⟩ (.int .u8 u1)).setCell ⟨i4, 2, none⟩ (.int .u8 u2)).setCell ⟨i4, 3, none⟩ (.int .i32 u3))).heap[i4]? = some (.cells #[.int .u8 u0, .int .u8 u1, .int .u8 u2, .int .i32 u3] 53 (0, 0)) :=
    (heap_setCell_row (heap_setCell_row (heap_setCell_row (heap_setCell_row F.b4 _) _) _) _).trans rfl
  have e3 : (((((V.setCell ⟨i4, 0, none⟩ (.int .u8 u0)).setCell ⟨i4, 1, none⟩ (.int .u8 u1)).setCell ⟨i4, 2, none⟩ (.int .u8 u2)).setCell ⟨i4, 3, none⟩ (.int .i32 u3))).heap[i6]? = some (.cells #[.int .i64 0, .int .u32 0] 42 (0, 0)) :=
    (heap_setCell_other _ _ _ _ (Ne.symm n)).trans ((heap_setCell_other _ _ _ _ (Ne.symm n)).trans ((heap_setCell_other _ _ _ _ (Ne.symm n)).trans ((heap_setCell_other _ _ _ _ (Ne.symm n)).trans F.b6)))
  refine ⟨(heap_setCell_other _ _ _ _ n).trans ((heap_setCell_other _ _ _ _ n).trans e2), (heap_setCell_row (heap_setCell_row e3 _) _).trans rfl, ?_, ?_⟩
  · exact (((((F.put.setCellNew F.n4 _).setCellNew F.n4 _).setCellNew F.n4 _).setCellNew F.n4 _).setCellNew F.n6 _).setCellNew F.n6 _
  · exact ((((((Put.refl V).setCell (by simp) _).setCell (by simp) _).setCell (by simp) _).setCell (by simp) _).setCell (by simp) _).setCell (by simp) _
structure Bot (w W : World) (i4 i6 g r st pm : Nat) (s : Sta) (x : Int) (L : Nat) (v : Value) (n : Nat) (zs : List Value) (u : Value) (m : Nat) (ds : List Value) (G H : List Nat) : Prop where
  fb : FB w W i4 i6 g r st pm s x
  sa : Sli W 5 1 v n zs G
  sb : Sli W 74 7 u m ds H
  ga : ∀ b ∈ G, L ≤ b
  gb : ∀ b ∈ H, L ≤ b
  ap : ∀ b ∈ H, b ∉ G
  l4 : i4 < L
  l6 : i6 < L
  lw : w.heap.size ≤ L
  lL : L ≤ W.heap.size
theorem Bot.kep {w W W' : World} {i4 i6 g r st pm : Nat} {s : Sta} {x : Int} {L : Nat} {v : Value} {n : Nat} {zs : List Value} {u : Value} {m : Nat} {ds : List Value} {G H : List Nat} (B : Bot w W i4 i6 g r st pm s x L v n zs u m ds G H) (k : Kep W W') : Bot w W' i4 i6 g r st pm s x L v n zs u m ds G H :=
  ⟨B.fb.kep k, B.sa.kep k, B.sb.kep k, B.ga, B.gb, B.ap, B.l4, B.l6, B.lw, Nat.le_trans B.lL k.size⟩
theorem Bot.fresh {w W : World} {i4 i6 g r st pm : Nat} {s : Sta} {x : Int} {L : Nat} {v : Value} {n : Nat} {zs : List Value} {u : Value} {m : Nat} {ds : List Value} {G H : List Nat} (B : Bot w W i4 i6 g r st pm s x L v n zs u m ds G H) {q : Nat} (e : q = W.heap.size) : L ≤ q ∧ ∀ c ∈ G ++ H, c ≠ q := by
  refine ⟨by have := B.lL; omega, fun c hc => ?_⟩
  rcases List.mem_append.1 hc with h | h
  · have := B.sa.lt c h; omega
  · have := B.sb.lt c h; omega
theorem Bot.appA {w W W' : World} {i4 i6 g r st pm : Nat} {s : Sta} {x : Int} {L : Nat} {v : Value} {n : Nat} {zs : List Value} {u : Value} {m : Nat} {ds : List Value} {G H G' : List Nat} {v' : Value} {n' : Nat} {zs' : List Value} (B : Bot w W i4 i6 g r st pm s x L v n zs u m ds G H)
    (S : Sli W' 5 1 v' n' zs' G') (P : Put G W W') (F : ∀ b ∈ G', b ∈ G ∨ W.heap.size ≤ b) : Bot w W' i4 i6 g r st pm s x L v' n' zs' u m ds G' H := by
  have hl := B.lL
  refine ⟨B.fb.new P B.ga B.l4 B.l6 B.lw, S, B.sb.put P B.ap, fun b hb => ?_, B.gb, fun b hb hm => ?_, B.l4, B.l6, B.lw, Nat.le_trans hl P.size⟩
  · rcases F b hb with h | h
    · exact B.ga b h
    · omega
  · have := B.sb.lt b hb
    rcases F b hm with h | h
    · exact B.ap b hb h
    · omega
theorem Bot.appB {w W W' : World} {i4 i6 g r st pm : Nat} {s : Sta} {x : Int} {L : Nat} {v : Value} {n : Nat} {zs : List Value} {u : Value} {m : Nat} {ds : List Value} {G H H' : List Nat} {u' : Value} {m' : Nat} {ds' : List Value} (B : Bot w W i4 i6 g r st pm s x L v n zs u m ds G H)
    (S : Sli W' 74 7 u' m' ds' H') (P : Put H W W') (F : ∀ b ∈ H', b ∈ H ∨ W.heap.size ≤ b) : Bot w W' i4 i6 g r st pm s x L v n zs u' m' ds' G H' := by
  have hl := B.lL
  refine ⟨B.fb.new P B.gb B.l4 B.l6 B.lw, B.sa.put P (fun b hb hm => B.ap b hm hb), S, B.ga, fun b hb => ?_, fun b hb hm => ?_, B.l4, B.l6, B.lw, Nat.le_trans hl P.size⟩
  · rcases F b hb with h | h
    · exact B.gb b h
    · omega
  · have := B.sa.lt b hm
    rcases F b hb with h | h
    · exact B.ap b h hm
    · omega
theorem Bot.hand {w W W' : World} {i4 i6 g r st pm : Nat} {s : Sta} {x y : Int} {L : Nat} {v : Value} {n : Nat} {zs : List Value} {u : Value} {m : Nat} {ds : List Value} {G H : List Nat} (B : Bot w W i4 i6 g r st pm s x L v n zs u m ds G H) (F : FB w W' i4 i6 g r st pm s y) (P : Put [g] W W') : Bot w W' i4 i6 g r st pm s y L v n zs u m ds G H := by
  have h1 := B.lw; have h2 := F.lg
  refine ⟨F, B.sa.put P (fun b hb => ?_), B.sb.put P (fun b hb => ?_), B.ga, B.gb, B.ap, B.l4, B.l6, B.lw, Nat.le_trans B.lL P.size⟩
  · have := B.ga b hb; simp; omega
  · have := B.gb b hb; simp; omega
def FL (w W : World) (i4 i6 g r st pm : Nat) (s : Sta) (L : Nat) (B : List Int) (ix : List Nat) (s1 : Sta) (k : Nat) (v u : Value) : Prop :=
  ∃ G H, Bot w W i4 i6 g r st pm s (plc s1 k) L v k (byt (zsF B ix s1 k)) u k (srs (srN B ix s1 k)) G H ∧ ∀ j, j < k → (bytF B ix s1 j).isSome = true
theorem FL.next {w W : World} {i4 i6 g r st pm : Nat} {s : Sta} {L : Nat} {B : List Int} {ix : List Nat} {s1 : Sta} {k : Nat} {v u : Value} {G H : List Nat} {b : Int} {zs ds : List Value} (Q : Bot w W i4 i6 g r st pm s (plc s1 (k + 1)) L v (k + 1) zs u (k + 1) ds G H)
    (hs : zs = byt (zsF B ix s1 (k + 1))) (hr : ds = srs (srN B ix s1 (k + 1))) (hb : bytF B ix s1 k = some b) (kn : k = 0 ∨ k < fetN B ix s1) (kz : ∀ j, j < k → (bytF B ix s1 j).isSome = true) :
    ∃ (k' : Nat) (xs : Option Addr) (cs : Nat) (ys : Option Addr) (ds : Nat), v = .slice xs k' cs ∧ u = .slice ys k' ds ∧ (k' : Int) ≤ 6 ∧ (fetR B ix s1 ≠ 0 → k' ≤ fetN B ix s1) ∧ Hid (FL w W i4 i6 g r st pm s L B ix s1 k' (.slice xs k' cs) (.slice ys k' ds)) := by
  obtain ⟨e1, e2, e3⟩ := fetN_sz B ix s1
  obtain ⟨x1, c1, rfl, _⟩ := Q.sa.lies
  obtain ⟨y1, d1, rfl, _⟩ := Q.sb.lies
  subst hs hr
  refine ⟨k + 1, x1, c1, y1, d1, rfl, rfl, by omega, fun h => by omega, G, H, Q, fun j hj => ?_⟩
  rcases (by omega : j < k ∨ j = k) with h | rfl
  · exact kz j h
  · rw [hb]; rfl
set_option maxHeartbeats 16000000 in
set_option maxRecDepth 100000 in
theorem bfetch_any {w : World} {pm R : Nat} {ix : List Nat} {B : List Int} (M : Mem w (mpt pm) R ix B) {s : Sta} (ok : s.Ok) (hT : Tabs w) (g r st : Nat) (a : Int) (ha : 0 ≤ a ∧ a < 4294967296)
    (hg : w.heap[g]? = some (.cells #[.int .u32 a] 25 (0, 0))) (hr : w.heap[r]? = some (.cells #[.pointer (some ⟨pm, 0, none⟩)] 32 (0, 0))) (hs : At w st s) (hgR : g ≠ R) (hgM : Off w (mpt pm) [g]) (hg2 : 2 ≤ g) :
    Calls Tryz.prog 20 #[.func (.func 47) #[] #[.pointer (some ⟨g, 0, none⟩), .pointer (some ⟨r, 0, none⟩), .pointer (some ⟨st, 0, none⟩)], .int .u32 a] w fun e w' => ∃ v F, e = .returned (.tuple #[.agg (fetV B ix (s.go a)), v, .agg #[.int .i64 (fetF B ix (s.go a)).1, .int .u32 (fetF B ix (s.go a)).2]]) ∧ Put [g] w w' ∧
      Sli w' 74 7 v (srE B ix (s.go a)).length (srs (srE B ix (s.go a))) F ∧ ∀ b ∈ F, w.heap.size ≤ b := by
  obtain ⟨s1, hs1⟩ : ∃ s1, Hid (s.go a = s1) := ⟨_, rfl⟩
  have ok1 : Hid s1.Ok := by rw [Hid, ← hs1.out]; exact ⟨ok.r, ha, ok.ps, ok.c⟩
  have pc1 : Hid (s1.pc = a) := by rw [Hid, ← hs1.out]; rfl
  have e0 : Hid (plc s1 0 = a) := by rw [Hid, plc_zero ok1.out, pc1.out]
  have HB : Hid (Byts B) := M.byts
  have HH : Hid (∀ W i4 i6 x, 0 ≤ x ∧ x < 4294967296 → FB w W i4 i6 g r st pm s x → Calls Tryz.prog 47 #[.pointer (some ⟨g, 0, none⟩), .pointer (some ⟨r, 0, none⟩), .pointer (some ⟨st, 0, none⟩)] W fun e W' => e = .returned (.tuple (bhV B ix s1 x)) ∧ FB w W' i4 i6 g r st pm s ((x + 1) % 4294967296) ∧ Put [g] W W') := by
    rw [← hs1.out]
    exact fun W i4 i6 x hx F => F.hand M ok hgR hgM hx
  have HT : Hid (∀ W, Put [g] w W → Tabs W) := fun W k => hT.put k (by simpa using hg2)
  rw [hs1.out]
  obtain ⟨V, hV⟩ : ∃ V, Hid ((w.alloc (.cells zeroI 53)).alloc (.cells #[.int .i64 0, .int .u32 0] 42) = V) := ⟨_, rfl⟩
  obtain ⟨i4, q4⟩ : ∃ i4, Hid (i4 = w.heap.size) := ⟨_, rfl⟩
  obtain ⟨i6, q6⟩ : ∃ i6, Hid (i6 = w.heap.size + 1) := ⟨_, rfl⟩
  obtain ⟨L, hL⟩ : ∃ L, Hid (L = w.heap.size + 2) := ⟨_, rfl⟩
  have KV : Kep w V := by rw [← hV.out]; exact ((Kep.refl w).alloc _).alloc _
  have BV : Hid (Bot w V i4 i6 g r st pm s (plc s1 0) L (.slice none 0 0) 0 [] (.slice none 0 0) 0 [] [] []) := by
    have a4 := q4.out; have a6 := q6.out; have aL := hL.out
    have sV : V.heap.size = w.heap.size + 2 := by rw [← hV.out]; simp
    have := block_lt hg; have := block_lt hr; have := block_lt hs
    refine ⟨⟨Put.of_kep KV, ?_, ?_, ?_, KV.block hr, hs.kep KV, by omega, by omega, by omega, by omega, by omega, by omega⟩, Sli.nil _ _ _, Sli.nil _ _ _, by simp, by simp, by simp, by omega, by omega, by omega, by omega⟩
    · rw [a4, ← hV.out]; exact ((Kep.refl _).alloc _).block (hat _ _ _ rfl)
    · rw [a6, ← hV.out]; exact hat _ _ _ (by simp)
    · rw [e0.out]; exact KV.block hg
  clear M ok hT ha hg hr hs hgR hgM hg2 KV
  go_enter Tryz.func20, Tryz.ntmps20
  go_upto_region 1 with fail
  rw [hV.out, ← q6.out, ← q4.out]
  go_wp2_with fail
  go_loopw [7, 8] (fun v u wr => ∃ (k : Nat) (xs : Option Addr) (cs : Nat) (ys : Option Addr) (ds : Nat), v = .slice xs k cs ∧ u = .slice ys k ds ∧ (k : Int) ≤ 6 ∧ (fetR B ix s1 ≠ 0 → k ≤ fetN B ix s1) ∧ Hid (FL w wr i4 i6 g r st pm s L B ix s1 k (.slice xs k cs) (.slice ys k ds))) (fun v _ _ => 100 - (lenV v))
  case atStart => exact ⟨0, none, 0, none, 0, rfl, rfl, by omega, fun _ => Nat.zero_le _, [], [], BV.out, fun j hj => absurd hj (Nat.not_lt_zero j)⟩
  case round =>
    obtain ⟨k, xs, cs, ys, ds, rfl, rfl, hk6, hkn, A⟩ := hrel
    clear BV
    obtain ⟨G, H, Q, hz⟩ := A.out
    have Q' := hidd Q
    have ZQ := hidd hz
    have HD : Hid (Calls Tryz.prog 46 #[.slice xs k cs, .bool false] wr fun e w' => e = .returned (.tuple #[.agg (dI B ix s1 k), .int .i64 (dN B ix s1 k), .int .i64 (dE B ix s1 k)]) ∧ Kep wr w') := bdec_any HB.out k hz Q.sa (HT.out _ Q.fb.put)
    have DC := de_cases HB.out hz hkn
    clear A Q hz
    generalize dN B ix s1 k = nD at HD
    rcases DC with ⟨c1, c2, c3⟩ | ⟨c1, c2, c3⟩ | ⟨c1, c2, c3, c4⟩
    · rw [c1, c3] at HD
      have kn := hidd c2
      have HHk : Hid (∀ W, FB w W i4 i6 g r st pm s (plc s1 k) → Calls Tryz.prog 47 #[.pointer (some ⟨g, 0, none⟩), .pointer (some ⟨r, 0, none⟩), .pointer (some ⟨st, 0, none⟩)] W fun e W' => e = .returned (.tuple (bhV B ix s1 (plc s1 k))) ∧ FB w W' i4 i6 g r st pm s (plc s1 (k + 1)) ∧ Put [g] W W') := fun W F => by
        have := HH.out W i4 i6 (plc s1 k) (plc_range s1 k) F
        rw [plc_next] at this; exact this
      clear HH c1 c2 c3 hkn
      go_wp2_with fail
      refine HD.out.mono ?_
      rintro e w2 ⟨rfl, k2⟩
      have Q2 := hidd (Q'.out.kep k2)
      clear k2 HD Q'
      go_upto_region 9 with fail
      obtain ⟨W9, hW9⟩ : ∃ W, Hid (w2.alloc (.cells zeroI 53) = W) := ⟨_, rfl⟩
      rw [hW9.out]
      have Q9 : Hid (Bot w W9 i4 i6 g r st pm s (plc s1 k) L (.slice xs k cs) k (byt (zsF B ix s1 k)) (.slice ys k ds) k (srs (srN B ix s1 k)) G H) := by rw [Hid, ← hW9.out]; exact Q2.out.kep ((Kep.refl _).alloc _)
      clear Q2
      cases hb : bytF B ix s1 k with
      | none =>
        have eF : Hid (fetF B ix s1 = (5, plc s1 k)) := fet_at ok1.out ZQ.out kn.out hb
        have H9 := hidd (HHk.out W9 Q9.out.fb)
        rw [bh_none hb] at H9
        generalize plc s1 k = a0 at H9 eF Q9
        clear hb HHk
        go_wp2_with fail
        refine H9.out.mono ?_
        rintro e w3 ⟨rfl, F3, k3⟩
        have Q3 := hidd (Q9.out.hand F3 k3)
        clear F3 k3 H9 Q9
        go_upto_region 11 with fail
        obtain ⟨z, qz⟩ : ∃ z, Hid (z = w3.heap.size) := ⟨_, rfl⟩
        rw [← qz.out]
        have QV := hidd (Q3.out.kep ((Kep.refl w3).alloc (.cells (srcA a0 0 0 0 0 0 0) 74)))
        have ZV : Hid ((w3.alloc (.cells (srcA a0 0 0 0 0 0 0) 74)).heap[z]? = some (.cells (srcA a0 0 0 0 0 0 0) 74 (0, 0))) := by rw [qz.out]; exact hat _ _ _ rfl
        have n1 : z ≠ i4 := by have := block_lt Q3.out.fb.b4; have := qz.out; omega
        have n2 : z ≠ i6 := by have := block_lt Q3.out.fb.b6; have := qz.out; omega
        generalize w3.alloc (.cells (srcA a0 0 0 0 0 0 0) 74) = V3 at QV ZV ⊢
        have n3 := QV.out.fb.n46
        obtain ⟨d0, d1, d2, d3, d4, d5, d6, fz⟩ := src_cells ZV.out
        have c20 : V3.cell? ⟨i4, 0, none⟩ = some (.int .u8 0) := cell_of_block QV.out.fb.b4
        have c21 : V3.cell? ⟨i4, 1, none⟩ = some (.int .u8 0) := cell_of_block QV.out.fb.b4
        have c22 : V3.cell? ⟨i4, 2, none⟩ = some (.int .u8 0) := cell_of_block QV.out.fb.b4
        have c23 : V3.cell? ⟨i4, 3, none⟩ = some (.int .i32 0) := cell_of_block QV.out.fb.b4
        have c30 : V3.cell? ⟨i6, 0, none⟩ = some (.int .i64 0) := cell_of_block QV.out.fb.b6
        have c31 : V3.cell? ⟨i6, 1, none⟩ = some (.int .u32 0) := cell_of_block QV.out.fb.b6
        have f2 := fun k => row_frozen QV.out.fb.b4 k
        have f3 := fun k => row_frozen QV.out.fb.b6 k
        obtain ⟨r1, r2, r3, r4⟩ := QV.out.fb.end 0 0 0 0 5 a0
        have E1 := hidd r1
        have E2 := hidd r2
        have E3 := hidd r3
        clear r1 r2 r3 r4
        go_region
        go_wp2_with fail
        refine bodyPost_ret (v := .tuple #[.agg zeroI, .slice none 0 0, .agg #[.int .i64 5, .int .u32 a0]]) (resultsCTC (p := 4) (u := 5) (q := 6) (ty := 53) (ty' := 42) rfl _ _ i4 53 zeroI (0, 0) _ i6 42 #[.int .i64 5, .int .u32 a0] (0, 0) _ rfl ((drew_heap _ _).trans E1.out) Tryz.underlying53 rfl size_insb rfl ((drew_heap _ _).trans E2.out) Tryz.underlying42 rfl size_flt) rfl ⟨.slice none 0 0, [], ?_, E3.out.drew, ?_, by simp⟩
        · unfold fetV; rw [eF.out]; rfl
        · rw [srE_no (by rw [eF.out]; simp)]; exact Sli.nil _ _ _
      | some b =>
        obtain ⟨y, hy, hv⟩ := bh_some hb
        have H9 := hidd (HHk.out W9 Q9.out.fb)
        rw [hv] at H9
        have hbk := hidd hb
        have hsn : Hid (byt (zsF B ix s1 k) ++ [.int .u8 b] = byt (zsF B ix s1 (k + 1))) := by rw [Hid, zsF_snoc hb]; simp [byt]
        have hsr : Hid (srs (srN B ix s1 k) ++ (srcA (plc s1 k) y.bits y.at_ y.entry y.dir y.tab y.page).toList = srs (srN B ix s1 (k + 1))) := by rw [Hid, srN_snoc, srs_app, hy]; simp [srs, srV]
        clear hb HHk hy hv
        go_wp2_with fail
        refine H9.out.mono ?_
        rintro e w3 ⟨rfl, F3, k3⟩
        have Q3 := hidd (Q9.out.hand F3 k3)
        clear F3 k3 H9 Q9
        go_upto_region 12 with fail
        obtain ⟨W0, hW0⟩ : ∃ W, Hid (w3.alloc (.cells (srcA (plc s1 k) y.bits y.at_ y.entry y.dir y.tab y.page) 74) = W) := ⟨_, rfl⟩
        obtain ⟨z, qz⟩ : ∃ z, Hid (z = w3.heap.size) := ⟨_, rfl⟩
        rw [hW0.out, ← qz.out]
        have BQ0 : Hid (Bot w W0 i4 i6 g r st pm s (plc s1 (k + 1)) L (.slice xs k cs) k (byt (zsF B ix s1 k)) (.slice ys k ds) k (srs (srN B ix s1 k)) G H) := by rw [Hid, ← hW0.out]; exact Q3.out.kep ((Kep.refl _).alloc _)
        have ZB : Hid (W0.heap[z]? = some (.cells (srcA (plc s1 k) y.bits y.at_ y.entry y.dir y.tab y.page) 74 (0, 0))) := by rw [← hW0.out, qz.out]; exact hat _ _ _ rfl
        have zG : Hid (∀ c ∈ G ++ H, c ≠ z) := (Q3.out.fresh qz.out).2
        clear Q3
        refine wp_region_held_drew (S := fun w' => w'.heap[z]? = some (.cells (srcA (plc s1 k) y.bits y.at_ y.entry y.dir y.tab y.page) 74 (0, 0))) (by kernel_rfl) ((drew_heap _ _).trans ZB.out) (fun hH => ?_)
        have BQD := hidd (BQ0.out.kep ((Kep.refl W0).drew))
        generalize W0.drew = D at hH BQD ⊢
        refine wpAnyH_take (i := 0) (v := .slice xs k cs) rfl (by kernel_rfl) (by kernel_rfl) (by kernel_rfl) (fun _ _ _ h => h) (.inl ⟨by rfl, by intro w hS; go_simp⟩) hH ?_
        (try simp only [jA, jB, jC, Act.put, jD, jE, jF])
        refine wpAnyH_take (i := 1) (v := .int .u8 b) rfl (by kernel_rfl) (by kernel_rfl) (by kernel_rfl) (fun _ _ _ h => h) (.inl ⟨by rfl, by intro w hS; go_simp⟩) hH ?_
        (try simp only [jA, jB, jC, Act.put, jD, jE, jF])
        refine wpAnyH_take (i := 4) (v := .slice ys k ds) rfl (by kernel_rfl) (by kernel_rfl) (by kernel_rfl) (fun _ _ _ h => h) (.inl ⟨by rfl, by intro w hS; go_simp⟩) hH ?_
        (try simp only [jA, jB, jC, Act.put, jD, jE, jF])
        refine wpAnyH_take (i := 5) (v := .agg (srcA (plc s1 k) y.bits y.at_ y.entry y.dir y.tab y.page)) rfl (by kernel_rfl) (by kernel_rfl) (by kernel_rfl) (fun _ _ _ h => h) (yields_row rfl 74 (.tmp 13) (by rfl) z (by rfl) 74 (srcA (plc s1 k) y.bits y.at_ y.entry y.dir y.tab y.page) (0, 0) _ (fun w h => h) Tryz.underlying74 rfl size_src) hH ?_
        (try simp only [jA, jB, jC, Act.put, jD, jE, jF])
        refine wpAnyH_ready (rs := [2, 6]) (by kernel_rfl) (by simp) ?_
        refine AllReadyH.cons rfl (fun K hK => ?_) ?_
        · skip
          rw [if_pos (by rfl)]
          go_simp
          obtain ⟨D2, eD2⟩ : ∃ V, Hid (D.alloc (.cells #[.int .u8 b] 5) = V) := ⟨_, rfl⟩
          obtain ⟨x2, ex2⟩ : ∃ x, Hid (x = D.heap.size) := ⟨_, rfl⟩
          rw [eD2.out, ← ex2.out]
          have kD2 : Kep D D2 := by rw [← eD2.out]; exact (Kep.refl _).alloc _
          have BQD2 := hidd (BQD.out.kep kD2)
          have bx2 : Hid (D2.heap[x2]? = some (.cells #[.int .u8 b] 5 (0, 0))) := by rw [← eD2.out, ex2.out]; exact hat _ _ _ rfl
          have nx2 : Hid (L ≤ x2 ∧ ∀ c ∈ G ++ H, c ≠ x2) := BQD.out.fresh ex2.out
          refine hK.out _ _ (kD2.block hH) (fun hH => ?_)
          clear kD2 hK K
          (try simp only [jA, jB, jC, Act.put, jD, jE, jF])
          refine wpAnyH_ready (rs := [3, 6]) (by kernel_rfl) (by simp) ?_
          refine AllReadyH.cons rfl (fun K hK => ?_) ?_
          · skip
            rw [if_pos (by rfl)]
            obtain ⟨i0, hi, hz0, hz1, hz2⟩ := info_parts info_u8b
            refine wp_append_sli (.tmp 44) (.tmp 46) 22 (by rfl) 5 i0 _ 1 1 Tryz.underlying22 hi hz0 hz1 hz2 (by rfl) (by decide) _ k (byt (zsF B ix s1 k)) G (by rfl) BQD2.out.sa ⟨x2, 0, none⟩ 1 [.int .u8 b] (by rfl) (by rfl) (World.news_of_block bx2.out) (by simp [Value.oneCell']) (by unfold maxLen; omega) (by omega) ?_
            intro va D23 F3 S3 P3 H3
            obtain ⟨xs3, cs3, hv3, _⟩ := S3.out.lies
            subst hv3
            have BQD23 := hidd (BQD2.out.appA S3.out P3.out H3.out)
            refine hK.out _ _ (P3.out.keeps hH (fun h => zG.out _ (List.mem_append_left _ h) rfl)) (fun hH => ?_)
            clear hi hz0 hz1 hz2 hK K
            (try simp only [jA, jB, jC, Act.put, jD, jE, jF])
            refine wpAnyH_ready (rs := [6]) (by kernel_rfl) (by simp) ?_
            refine AllReadyH.cons rfl (fun K hK => ?_) AllReadyH.nil
            rw [if_pos (by rfl)]
            go_simp
            obtain ⟨D236, eD236⟩ : ∃ V, Hid (D23.alloc (.cells (srcA (plc s1 k) y.bits y.at_ y.entry y.dir y.tab y.page) 74) = V) := ⟨_, rfl⟩
            obtain ⟨x6, ex6⟩ : ∃ x, Hid (x = D23.heap.size) := ⟨_, rfl⟩
            rw [eD236.out, ← ex6.out]
            have kD236 : Kep D23 D236 := by rw [← eD236.out]; exact (Kep.refl _).alloc _
            have BQD236 := hidd (BQD23.out.kep kD236)
            have bx6 : Hid (D236.heap[x6]? = some (.cells (srcA (plc s1 k) y.bits y.at_ y.entry y.dir y.tab y.page) 74 (0, 0))) := by rw [← eD236.out, ex6.out]; exact hat _ _ _ rfl
            have nx6 : Hid (L ≤ x6 ∧ ∀ c ∈ F3 ++ H, c ≠ x6) := BQD23.out.fresh ex6.out
            refine hK.out _ _ (kD236.block hH) (fun hH => ?_)
            clear kD236 hK K
            (try simp only [jA, jB, jC, Act.put, jD, jE, jF])
            refine wpAnyH_ready (rs := [7]) (by kernel_rfl) (by simp) ?_
            refine AllReadyH.cons rfl (fun K hK => ?_) AllReadyH.nil
            rw [if_pos (by rfl)]
            obtain ⟨i0, hi, hz0, hz1, hz2⟩ := info_parts info_src
            refine wp_append_sli (.tmp 48) (.tmp 50) 65 (by rfl) 74 i0 _ 7 48 Tryz.underlying65 hi hz0 hz1 hz2 (by rfl) (by decide) _ k (srs (srN B ix s1 k)) H (by rfl) BQD236.out.sb ⟨x6, 0, none⟩ 1 (srcA (plc s1 k) y.bits y.at_ y.entry y.dir y.tab y.page).toList (by rfl) (by rfl) (World.news_of_block bx6.out) (by simp [Value.oneCell']) (by unfold maxLen; omega) (by omega) ?_
            intro vb D2367 F7 S7 P7 H7
            obtain ⟨xs7, cs7, hv7, _⟩ := S7.out.lies
            subst hv7
            have BQD2367 := hidd (BQD236.out.appB S7.out P7.out H7.out)
            refine hK.out _ _ (P7.out.keeps hH (fun h => zG.out _ (List.mem_append_right _ h) rfl)) (fun hH => ?_)
            clear hi hz0 hz1 hz2 hK K
            (try simp only [jA, jB, jC, Act.put, jD, jE, jF])
            refine wpAnyH_ready (rs := [8]) (by kernel_rfl) (by simp) ?_
            refine AllReadyH.cons rfl (fun K hK => ?_) AllReadyH.nil
            rw [if_pos (by rfl)]
            go_simp
            refine hK.out _ _ hH (fun hH => ?_)
            clear hK K
            (try simp only [jA, jB, jC, Act.put, jD, jE, jF])
            refine wpAnyH_ready (rs := [9]) (by kernel_rfl) (by simp) ?_
            refine AllReadyH.cons rfl (fun K hK => ?_) AllReadyH.nil
            rw [if_pos (by rfl)]
            go_simp
            refine hK.out _ _ hH (fun hH => ?_)
            clear hK K
            (try simp only [jA, jB, jC, Act.put, jD, jE, jF])
            refine wpAnyH_done (by kernel_rfl) ?_ _
            have BQ := hidd BQD2367.out
            clear hH
            go_roundw
            case rel =>
              refine ⟨_, _, _, _, _, _, _, _, _, _, _, _, _, _, _, _, _, _, _, _, _, _, _, _, _, _, _, _, _, _, _, _, _, _, _, _, _, _, _, _, _, _, _, _, _, _, ?_, rfl⟩
              exact FL.next BQ.out hsn.out hsr.out hbk.out kn.out ZQ.out
            case measure => simp [lenV]; omega
          refine AllReadyH.cons rfl (fun K hK => ?_) AllReadyH.nil
          rw [if_pos (by rfl)]
          go_simp
          obtain ⟨D26, eD26⟩ : ∃ V, Hid (D2.alloc (.cells (srcA (plc s1 k) y.bits y.at_ y.entry y.dir y.tab y.page) 74) = V) := ⟨_, rfl⟩
          obtain ⟨x6, ex6⟩ : ∃ x, Hid (x = D2.heap.size) := ⟨_, rfl⟩
          rw [eD26.out, ← ex6.out]
          have kD26 : Kep D2 D26 := by rw [← eD26.out]; exact (Kep.refl _).alloc _
          have BQD26 := hidd (BQD2.out.kep kD26)
          have bx6 : Hid (D26.heap[x6]? = some (.cells (srcA (plc s1 k) y.bits y.at_ y.entry y.dir y.tab y.page) 74 (0, 0))) := by rw [← eD26.out, ex6.out]; exact hat _ _ _ rfl
          have nx6 : Hid (L ≤ x6 ∧ ∀ c ∈ G ++ H, c ≠ x6) := BQD2.out.fresh ex6.out
          refine hK.out _ _ (kD26.block hH) (fun hH => ?_)
          have bx2 := hidd (kD26.block bx2.out)
          clear kD26 hK K
          (try simp only [jA, jB, jC, Act.put, jD, jE, jF])
          refine wpAnyH_ready (rs := [3]) (by kernel_rfl) (by simp) ?_
          refine AllReadyH.cons rfl (fun K hK => ?_) AllReadyH.nil
          rw [if_pos (by rfl)]
          obtain ⟨i0, hi, hz0, hz1, hz2⟩ := info_parts info_u8b
          refine wp_append_sli (.tmp 44) (.tmp 46) 22 (by rfl) 5 i0 _ 1 1 Tryz.underlying22 hi hz0 hz1 hz2 (by rfl) (by decide) _ k (byt (zsF B ix s1 k)) G (by rfl) BQD26.out.sa ⟨x2, 0, none⟩ 1 [.int .u8 b] (by rfl) (by rfl) (World.news_of_block bx2.out) (by simp [Value.oneCell']) (by unfold maxLen; omega) (by omega) ?_
          intro va D263 F3 S3 P3 H3
          obtain ⟨xs3, cs3, hv3, _⟩ := S3.out.lies
          subst hv3
          have BQD263 := hidd (BQD26.out.appA S3.out P3.out H3.out)
          have bx6 := hidd (P3.out.keeps bx6.out (fun h => nx6.out.2 _ (List.mem_append_left _ h) rfl))
          refine hK.out _ _ (P3.out.keeps hH (fun h => zG.out _ (List.mem_append_left _ h) rfl)) (fun hH => ?_)
          clear hi hz0 hz1 hz2 hK K
          (try simp only [jA, jB, jC, Act.put, jD, jE, jF])
          refine wpAnyH_ready (rs := [7]) (by kernel_rfl) (by simp) ?_
          refine AllReadyH.cons rfl (fun K hK => ?_) AllReadyH.nil
          rw [if_pos (by rfl)]
          obtain ⟨i0, hi, hz0, hz1, hz2⟩ := info_parts info_src
          refine wp_append_sli (.tmp 48) (.tmp 50) 65 (by rfl) 74 i0 _ 7 48 Tryz.underlying65 hi hz0 hz1 hz2 (by rfl) (by decide) _ k (srs (srN B ix s1 k)) H (by rfl) BQD263.out.sb ⟨x6, 0, none⟩ 1 (srcA (plc s1 k) y.bits y.at_ y.entry y.dir y.tab y.page).toList (by rfl) (by rfl) (World.news_of_block bx6.out) (by simp [Value.oneCell']) (by unfold maxLen; omega) (by omega) ?_
          intro vb D2637 F7 S7 P7 H7
          obtain ⟨xs7, cs7, hv7, _⟩ := S7.out.lies
          subst hv7
          have BQD2637 := hidd (BQD263.out.appB S7.out P7.out H7.out)
          refine hK.out _ _ (P7.out.keeps hH (fun h => zG.out _ (List.mem_append_right _ h) rfl)) (fun hH => ?_)
          clear hi hz0 hz1 hz2 hK K
          (try simp only [jA, jB, jC, Act.put, jD, jE, jF])
          refine wpAnyH_ready (rs := [8]) (by kernel_rfl) (by simp) ?_
          refine AllReadyH.cons rfl (fun K hK => ?_) AllReadyH.nil
          rw [if_pos (by rfl)]
          go_simp
          refine hK.out _ _ hH (fun hH => ?_)
          clear hK K
          (try simp only [jA, jB, jC, Act.put, jD, jE, jF])
          refine wpAnyH_ready (rs := [9]) (by kernel_rfl) (by simp) ?_
          refine AllReadyH.cons rfl (fun K hK => ?_) AllReadyH.nil
          rw [if_pos (by rfl)]
          go_simp
          refine hK.out _ _ hH (fun hH => ?_)
          clear hK K
          (try simp only [jA, jB, jC, Act.put, jD, jE, jF])
          refine wpAnyH_done (by kernel_rfl) ?_ _
          have BQ := hidd BQD2637.out
          clear hH
          go_roundw
          case rel =>
            refine ⟨_, _, _, _, _, _, _, _, _, _, _, _, _, _, _, _, _, _, _, _, _, _, _, _, _, _, _, _, _, _, _, _, _, _, _, _, _, _, _, _, _, _, _, _, _, _, ?_, rfl⟩
            exact FL.next BQ.out hsn.out hsr.out hbk.out kn.out ZQ.out
          case measure => simp [lenV]; omega
        refine AllReadyH.cons rfl (fun K hK => ?_) AllReadyH.nil
        rw [if_pos (by rfl)]
        go_simp
        obtain ⟨D6, eD6⟩ : ∃ V, Hid (D.alloc (.cells (srcA (plc s1 k) y.bits y.at_ y.entry y.dir y.tab y.page) 74) = V) := ⟨_, rfl⟩
        obtain ⟨x6, ex6⟩ : ∃ x, Hid (x = D.heap.size) := ⟨_, rfl⟩
        rw [eD6.out, ← ex6.out]
        have kD6 : Kep D D6 := by rw [← eD6.out]; exact (Kep.refl _).alloc _
        have BQD6 := hidd (BQD.out.kep kD6)
        have bx6 : Hid (D6.heap[x6]? = some (.cells (srcA (plc s1 k) y.bits y.at_ y.entry y.dir y.tab y.page) 74 (0, 0))) := by rw [← eD6.out, ex6.out]; exact hat _ _ _ rfl
        have nx6 : Hid (L ≤ x6 ∧ ∀ c ∈ G ++ H, c ≠ x6) := BQD.out.fresh ex6.out
        refine hK.out _ _ (kD6.block hH) (fun hH => ?_)
        clear kD6 hK K
        (try simp only [jA, jB, jC, Act.put, jD, jE, jF])
        refine wpAnyH_ready (rs := [2]) (by kernel_rfl) (by simp) ?_
        refine AllReadyH.cons rfl (fun K hK => ?_) AllReadyH.nil
        rw [if_pos (by rfl)]
        go_simp
        obtain ⟨D62, eD62⟩ : ∃ V, Hid (D6.alloc (.cells #[.int .u8 b] 5) = V) := ⟨_, rfl⟩
        obtain ⟨x2, ex2⟩ : ∃ x, Hid (x = D6.heap.size) := ⟨_, rfl⟩
        rw [eD62.out, ← ex2.out]
        have kD62 : Kep D6 D62 := by rw [← eD62.out]; exact (Kep.refl _).alloc _
        have BQD62 := hidd (BQD6.out.kep kD62)
        have bx2 : Hid (D62.heap[x2]? = some (.cells #[.int .u8 b] 5 (0, 0))) := by rw [← eD62.out, ex2.out]; exact hat _ _ _ rfl
        have nx2 : Hid (L ≤ x2 ∧ ∀ c ∈ G ++ H, c ≠ x2) := BQD6.out.fresh ex2.out
        refine hK.out _ _ (kD62.block hH) (fun hH => ?_)
        have bx6 := hidd (kD62.block bx6.out)
        clear kD62 hK K
        (try simp only [jA, jB, jC, Act.put, jD, jE, jF])
        refine wpAnyH_ready (rs := [3]) (by kernel_rfl) (by simp) ?_
        refine AllReadyH.cons rfl (fun K hK => ?_) AllReadyH.nil
        rw [if_pos (by rfl)]
        obtain ⟨i0, hi, hz0, hz1, hz2⟩ := info_parts info_u8b
        refine wp_append_sli (.tmp 44) (.tmp 46) 22 (by rfl) 5 i0 _ 1 1 Tryz.underlying22 hi hz0 hz1 hz2 (by rfl) (by decide) _ k (byt (zsF B ix s1 k)) G (by rfl) BQD62.out.sa ⟨x2, 0, none⟩ 1 [.int .u8 b] (by rfl) (by rfl) (World.news_of_block bx2.out) (by simp [Value.oneCell']) (by unfold maxLen; omega) (by omega) ?_
        intro va D623 F3 S3 P3 H3
        obtain ⟨xs3, cs3, hv3, _⟩ := S3.out.lies
        subst hv3
        have BQD623 := hidd (BQD62.out.appA S3.out P3.out H3.out)
        have bx6 := hidd (P3.out.keeps bx6.out (fun h => nx6.out.2 _ (List.mem_append_left _ h) rfl))
        refine hK.out _ _ (P3.out.keeps hH (fun h => zG.out _ (List.mem_append_left _ h) rfl)) (fun hH => ?_)
        clear hi hz0 hz1 hz2 hK K
        (try simp only [jA, jB, jC, Act.put, jD, jE, jF])
        refine wpAnyH_ready (rs := [7]) (by kernel_rfl) (by simp) ?_
        refine AllReadyH.cons rfl (fun K hK => ?_) AllReadyH.nil
        rw [if_pos (by rfl)]
        obtain ⟨i0, hi, hz0, hz1, hz2⟩ := info_parts info_src
        refine wp_append_sli (.tmp 48) (.tmp 50) 65 (by rfl) 74 i0 _ 7 48 Tryz.underlying65 hi hz0 hz1 hz2 (by rfl) (by decide) _ k (srs (srN B ix s1 k)) H (by rfl) BQD623.out.sb ⟨x6, 0, none⟩ 1 (srcA (plc s1 k) y.bits y.at_ y.entry y.dir y.tab y.page).toList (by rfl) (by rfl) (World.news_of_block bx6.out) (by simp [Value.oneCell']) (by unfold maxLen; omega) (by omega) ?_
        intro vb D6237 F7 S7 P7 H7
        obtain ⟨xs7, cs7, hv7, _⟩ := S7.out.lies
        subst hv7
        have BQD6237 := hidd (BQD623.out.appB S7.out P7.out H7.out)
        refine hK.out _ _ (P7.out.keeps hH (fun h => zG.out _ (List.mem_append_right _ h) rfl)) (fun hH => ?_)
        clear hi hz0 hz1 hz2 hK K
        (try simp only [jA, jB, jC, Act.put, jD, jE, jF])
        refine wpAnyH_ready (rs := [8]) (by kernel_rfl) (by simp) ?_
        refine AllReadyH.cons rfl (fun K hK => ?_) AllReadyH.nil
        rw [if_pos (by rfl)]
        go_simp
        refine hK.out _ _ hH (fun hH => ?_)
        clear hK K
        (try simp only [jA, jB, jC, Act.put, jD, jE, jF])
        refine wpAnyH_ready (rs := [9]) (by kernel_rfl) (by simp) ?_
        refine AllReadyH.cons rfl (fun K hK => ?_) AllReadyH.nil
        rw [if_pos (by rfl)]
        go_simp
        refine hK.out _ _ hH (fun hH => ?_)
        clear hK K
        (try simp only [jA, jB, jC, Act.put, jD, jE, jF])
        refine wpAnyH_done (by kernel_rfl) ?_ _
        have BQ := hidd BQD6237.out
        clear hH
        go_roundw
        case rel =>
          refine ⟨_, _, _, _, _, _, _, _, _, _, _, _, _, _, _, _, _, _, _, _, _, _, _, _, _, _, _, _, _, _, _, _, _, _, _, _, _, _, _, _, _, _, _, _, _, _, ?_, rfl⟩
          exact FL.next BQ.out hsn.out hsr.out hbk.out kn.out ZQ.out
        case measure => simp [lenV]; omega
    · rw [c1, c3] at HD
      have eF := hidd c2
      rw [pc1.out] at eF
      clear HH c1 c2 c3 hkn
      go_wp2_with fail
      refine HD.out.mono ?_
      rintro e w2 ⟨rfl, k2⟩
      have Q2 := hidd (Q'.out.kep k2)
      clear k2 HD Q'
      go_upto_region 8 with fail
      obtain ⟨V3, hW9⟩ : ∃ W, Hid (w2.alloc (.cells zeroI 53) = W) := ⟨_, rfl⟩
      rw [hW9.out]
      have QV : Hid (Bot w V3 i4 i6 g r st pm s (plc s1 k) L (.slice xs k cs) k (byt (zsF B ix s1 k)) (.slice ys k ds) k (srs (srN B ix s1 k)) G H) := by rw [Hid, ← hW9.out]; exact Q2.out.kep ((Kep.refl _).alloc _)
      clear Q2
      have n3 := QV.out.fb.n46
      have c20 : V3.cell? ⟨i4, 0, none⟩ = some (.int .u8 0) := cell_of_block QV.out.fb.b4
      have c21 : V3.cell? ⟨i4, 1, none⟩ = some (.int .u8 0) := cell_of_block QV.out.fb.b4
      have c22 : V3.cell? ⟨i4, 2, none⟩ = some (.int .u8 0) := cell_of_block QV.out.fb.b4
      have c23 : V3.cell? ⟨i4, 3, none⟩ = some (.int .i32 0) := cell_of_block QV.out.fb.b4
      have c30 : V3.cell? ⟨i6, 0, none⟩ = some (.int .i64 0) := cell_of_block QV.out.fb.b6
      have c31 : V3.cell? ⟨i6, 1, none⟩ = some (.int .u32 0) := cell_of_block QV.out.fb.b6
      have f2 := fun k => row_frozen QV.out.fb.b4 k
      have f3 := fun k => row_frozen QV.out.fb.b6 k
      obtain ⟨r1, r2, r3, r4⟩ := QV.out.fb.end 0 0 0 0 1 a
      have E1 := hidd r1
      have E2 := hidd r2
      have E3 := hidd r3
      clear r1 r2 r3 r4
      go_wp2_with fail
      refine bodyPost_ret (v := .tuple #[.agg zeroI, .slice none 0 0, .agg #[.int .i64 1, .int .u32 a]]) (resultsCTC (p := 4) (u := 5) (q := 6) (ty := 53) (ty' := 42) rfl _ _ i4 53 zeroI (0, 0) _ i6 42 #[.int .i64 1, .int .u32 a] (0, 0) _ rfl E1.out Tryz.underlying53 rfl size_insb rfl E2.out Tryz.underlying42 rfl size_flt) rfl ⟨.slice none 0 0, [], ?_, E3.out, ?_, by simp⟩
      · unfold fetV; rw [eF.out]; rfl
      · rw [srE_no (by rw [eF.out]; simp)]; exact Sli.nil _ _ _
    · rw [c1, c3] at HD
      have eF := hidd c2
      have eV : Hid (fetV B ix s1 = insA (fetO B ix s1) (fetA B ix s1) (fetB B ix s1) (fetM B ix s1)) := by unfold Hid fetV; rw [c2]; rfl
      have eN := hidd c4
      generalize fetO B ix s1 = d0 at HD eV
      generalize fetA B ix s1 = d1 at HD eV
      generalize fetB B ix s1 = d2 at HD eV
      generalize fetM B ix s1 = d3 at HD eV
      clear HH c1 c2 c3 c4 hkn
      go_wp2_with fail
      refine HD.out.mono ?_
      rintro e w2 ⟨rfl, k2⟩
      have Q2 := hidd (Q'.out.kep k2)
      clear k2 HD Q'
      go_upto_region 6 with fail
      obtain ⟨V3, hW9⟩ : ∃ W, Hid (w2.alloc (.cells (insA d0 d1 d2 d3) 53) = W) := ⟨_, rfl⟩
      obtain ⟨z, qz⟩ : ∃ z, Hid (z = w2.heap.size) := ⟨_, rfl⟩
      rw [hW9.out, ← qz.out]
      have QV : Hid (Bot w V3 i4 i6 g r st pm s (plc s1 k) L (.slice xs k cs) k (byt (zsF B ix s1 k)) (.slice ys k ds) k (srs (srN B ix s1 k)) G H) := by rw [Hid, ← hW9.out]; exact Q2.out.kep ((Kep.refl _).alloc _)
      have BJ : Hid (V3.heap[z]? = some (.cells (insA d0 d1 d2 d3) 53 (0, 0))) := by rw [Hid, ← hW9.out, qz.out]; exact hat _ _ _ rfl
      have n1 : z ≠ i4 := by have := block_lt Q2.out.fb.b4; have := qz.out; omega
      have n2 : z ≠ i6 := by have := block_lt Q2.out.fb.b6; have := qz.out; omega
      clear Q2
      have n3 := QV.out.fb.n46
      have cj0 : V3.cell? ⟨z, 0, none⟩ = some (.int .u8 d0) := cell_of_block BJ.out
      have cj1 : V3.cell? ⟨z, 1, none⟩ = some (.int .u8 d1) := cell_of_block BJ.out
      have cj2 : V3.cell? ⟨z, 2, none⟩ = some (.int .u8 d2) := cell_of_block BJ.out
      have cj3 : V3.cell? ⟨z, 3, none⟩ = some (.int .i32 d3) := cell_of_block BJ.out
      have c20 : V3.cell? ⟨i4, 0, none⟩ = some (.int .u8 0) := cell_of_block QV.out.fb.b4
      have c21 : V3.cell? ⟨i4, 1, none⟩ = some (.int .u8 0) := cell_of_block QV.out.fb.b4
      have c22 : V3.cell? ⟨i4, 2, none⟩ = some (.int .u8 0) := cell_of_block QV.out.fb.b4
      have c23 : V3.cell? ⟨i4, 3, none⟩ = some (.int .i32 0) := cell_of_block QV.out.fb.b4
      have c30 : V3.cell? ⟨i6, 0, none⟩ = some (.int .i64 0) := cell_of_block QV.out.fb.b6
      have c31 : V3.cell? ⟨i6, 1, none⟩ = some (.int .u32 0) := cell_of_block QV.out.fb.b6
      have f2 := fun k => row_frozen QV.out.fb.b4 k
      have f3 := fun k => row_frozen QV.out.fb.b6 k
      obtain ⟨r1, r2, r3, r4⟩ := QV.out.fb.end d0 d1 d2 d3 0 0
      have E1 := hidd r1
      have E2 := hidd r2
      have E3 := hidd r3
      have E4 := hidd r4
      clear r1 r2 r3 r4
      go_wp2_with fail
      refine bodyPost_ret (v := .tuple #[.agg #[.int .u8 d0, .int .u8 d1, .int .u8 d2, .int .i32 d3], .slice ys k ds, .agg #[.int .i64 0, .int .u32 0]]) (resultsCTC (p := 4) (u := 5) (q := 6) (ty := 53) (ty' := 42) rfl _ _ i4 53 #[.int .u8 d0, .int .u8 d1, .int .u8 d2, .int .i32 d3] (0, 0) _ i6 42 #[.int .i64 0, .int .u32 0] (0, 0) _ rfl E1.out Tryz.underlying53 rfl size_insb rfl E2.out Tryz.underlying42 rfl size_flt) rfl ⟨.slice ys k ds, H, ?_, E3.out, ?_, fun b hb => by have := QV.out.gb b hb; have := QV.out.lw; omega⟩
      · rw [eV.out, eF.out]
      · rw [srE_yes (by rw [eF.out]), srF_len]
        unfold srF
        rw [← eN.out]
        refine QV.out.sb.put E4.out (fun b hb hm => ?_)
        have := QV.out.gb b hb; have := QV.out.l4; have := QV.out.l6
        simp at hm; omega
end Go.Proofs.YtamffningddgbaaGreatDoor
