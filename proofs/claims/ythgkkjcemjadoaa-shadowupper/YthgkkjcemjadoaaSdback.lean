/- Tables given back. -/
import Derived.Test.YthgkkjcemjadoaaSdadd
import Derived.Deep.MidRow
namespace Go.Proofs.Ythgkkjcemjadoaa
open Go.RowKit
set_option linter.unusedVariables false
set_option linter.unusedSimpArgs false

def z16 : Array Value := (List.replicate 16 (Value.int .u32 0)).toArray
theorem z16_size : z16.size = 16 := by simp [z16]
theorem z16_ones : z16.all (·.oneCell') = true := all_oneCell_toArray (fun v hv => by rw [List.mem_replicate] at hv; rw [hv.2]; rfl)
theorem backS_more {s : SD} {a b c : Nat} (h : a ≤ b) (h2 : b ≤ c) (hc : c ≤ 32) (hD : s.D.length = 32) (hE : s.E.length = 512) : backS (backS s a b) b c = backS s a c := by
  unfold backS
  simp only
  rw [zeroR_more h h2 (by omega), zeroR_more (by omega) (by omega) (by omega)]
/-- A shadow's parts, whatever it holds. -/
structure ShC (w : World) (p pv R n d f q M : Nat) (s : SD) (B : List Int) (L : List Bool) (g m : Int) (F : List Nat) : Prop where
  sh : ShAt w p (.pointer (some ⟨pv, 0, none⟩)) q d s F
  ram : Ram w (.pointer (some ⟨pv, 0, none⟩)) R (List.range n)
  row : RowB w R B
  pool : PoolAt w q M f L g m
  tg : Tagd w R (shB p R q M F)
  np : p ≠ R ∧ p ≠ q ∧ p ≠ M
theorem ShC.back {w : World} {p pv R n d f q M : Nat} {Z : List Int} {s : SD} {B : List Int} {L L' : List Bool} {g m : Int} {F : List Nat} (h : ShC w p pv R n d f q M s B L' g m F) (hi : TInv n d f Z s B L) {k : Nat} (hk : k < 32) (hL : L' = if s.D.getD k 0 = 0 then L else giveL f L ((s.D.getD k 0 / 64 : Nat) : Int)) :
    ShW ((w.setCell ⟨p, 3 + k, none⟩ (.int .u32 0)).drew.setCells p (35 + k * 16) z16.toList) p pv R n d f q M Z (backS s k (k + 1)) B L' g m F ∧ Put [p] w ((w.setCell ⟨p, 3 + k, none⟩ (.int .u32 0)).drew.setCells p (35 + k * 16) z16.toList) := by
  have P : Put [p] w ((w.setCell ⟨p, 3 + k, none⟩ (.int .u32 0)).drew.setCells p (35 + k * 16) z16.toList) := Put.setCells (by simp) _ _ _ ((Put.refl _).setCell (by simp) _).drew
  have S1 := h.sh.setD hk 0
  have S2 := (S1.kep (Kep.refl _).drew).zeroE hk
  rw [show 35 + 16 * k = 35 + k * 16 by omega] at S2
  have e1 : ({ ({ s with D := s.D.set k 0 } : SD) with E := zeroR s.E (16 * k) (16 * (k + 1)) } : SD) = backS s k (k + 1) := by
    unfold backS; rw [zeroR_one (by rw [hi.lD]; exact hk)]
  have hb := hi.back1 hk
  rw [← hL] at hb
  exact ⟨⟨by rw [← e1]; exact S2, ram_tags h.ram P (fun x hx => h.tg x (by simp at hx; simp [shB, hx])), h.row.put P (by simp; exact fun e => h.np.1 e.symm), h.pool.put P (by simp; exact fun e => h.np.2.1 e.symm) (by simp; exact fun e => h.np.2.2 e.symm), hb⟩, P⟩
theorem ShW.c {w : World} {p pv R n d f q M : Nat} {Z : List Int} {s : SD} {B : List Int} {L : List Bool} {g m : Int} {F : List Nat} (h : ShW w p pv R n d f q M Z s B L g m F) : ShC w p pv R n d f q M s B L g m F :=
  ⟨h.sh, h.ram, h.row, h.pool, h.tags, h.ne.1, h.ne.2.1, h.ne.2.2.1⟩
theorem ShC.given {w w' : World} {p pv R n d f q M : Nat} {Z : List Int} {s : SD} {B : List Int} {L L' : List Bool} {g m g' m' : Int} {F : List Nat} (h : ShW w p pv R n d f q M Z s B L g m F) (k : Put [q, M] w w') (hp : PoolAt w' q M f L' g' m') : ShC w' p pv R n d f q M s B L' g' m' F := by
  have hn := h.ne
  refine ⟨h.sh.put k (by simp; exact ⟨hn.2.1, hn.2.2.1⟩) (fun x hx => by simp; exact ⟨(hn.2.2.2.2.2.2 x hx).2.2.1, (hn.2.2.2.2.2.2 x hx).2.2.2⟩), ram_tags h.ram k fun x hx => h.tags x (by simp at hx; rcases hx with rfl | rfl <;> simp [shB]), h.row.put k (by simp; exact ⟨hn.2.2.2.1, hn.2.2.2.2.1⟩), hp, ?_, hn.1, hn.2.1, hn.2.2.1⟩
  intro x hx
  by_cases e : x = q ∨ x = M
  · rcases e with rfl | rfl
    · refine .inr fun cs t fr hc => ?_
      rw [hp.box] at hc; simp at hc; obtain ⟨_, rfl, _⟩ := hc; exact ⟨by decide, by decide⟩
    · obtain ⟨_, ⟨es, c, hM, _⟩, _⟩ := hp.set
      exact .inr fun cs t fr hc => by rw [hM] at hc; simp at hc
  · rcases h.tags x hx with e1 | e1
    · exact .inl e1
    · refine .inr fun cs t fr hc => e1 cs t fr ?_
      have hlt : x < w.heap.size := by
        obtain ⟨cs0, hb⟩ := h.sh.blk
        obtain ⟨⟨uv, _, hs⟩, _, _⟩ := h.sh
        simp only [shB, List.mem_cons] at hx
        rcases hx with rfl | rfl | rfl | rfl | hx
        · exact block_lt hb
        · exact block_lt (h.row h.bnil)
        · exact absurd (.inl rfl) e
        · exact absurd (.inr rfl) e
        · exact hs.lt x hx
      rw [← k.block x hlt (by simp; exact ⟨fun h1 => e (.inl h1), fun h1 => e (.inr h1)⟩)]
      exact hc
theorem give_one (w : World) (p pv R n d f q M : Nat) (Z : List Int) (s : SD) (B : List Int) (L : List Bool) (g m : Int) (F : List Nat) (h : ShW w p pv R n d f q M Z s B L g m F) (j : Nat) (hj : j < 67108864) :
    Calls Try.prog 62 #[.pointer (some ⟨q, 0, none⟩), .int .i64 j] w fun e w' => (∃ b, e = .returned (.bool b)) ∧ ShC w' p pv R n d f q M s B (giveL f L j) g m F ∧ Put [q, M] w w' := by
  refine (pgive_any w q M f L g m h.pool j (by unfold I6; omega)).mono ?_
  rintro e w' ⟨e1, e2, e3⟩
  have k : Put [q, M] w w' := e3.mono (by simp)
  exact ⟨⟨_, e1⟩, ShC.given h k e2, k⟩
set_option maxHeartbeats 4000000 in
theorem shback_any (w : World) (p pv R n d f q M : Nat) (Z : List Int) (s : SD) (B : List Int) (L : List Bool) (g m : Int) (F : List Nat) (h : ShW w p pv R n d f q M Z s B L g m F) (k0 : Nat) (hk0 : k0 ≤ 32) :
    Calls Try.prog 52 #[.pointer (some ⟨p, 0, none⟩), .int .i64 k0] w fun e w' => ∃ L', e = .returned (.tuple #[]) ∧ ShW w' p pv R n d f q M Z (backS s k0 32) B L' g m F ∧ L'.length = L.length ∧ Put [p, R, q, M] w w' := by
  have h' : Hid (ShW w p pv R n d f q M Z s B L g m F) := h
  have hDE : Hid (s.D.length = 32 ∧ s.E.length = 512) := ⟨h.inv.lD, h.inv.lE⟩
  clear h
  go_enter Try.func52, Try.ntmps52
  go_wp2_with fail
  go_loopw [1] (fun i wr => ∃ k : Nat, k0 ≤ k ∧ (k : Int) ≤ 32 ∧ i = .int .i64 k ∧ Hid (∃ L', ShW wr p pv R n d f q M Z (backS s k0 k) B L' g m F ∧ L'.length = L.length ∧ Put [p, R, q, M] w wr)) (fun i _ => 32 - (intOf i).toNat)
  case atStart => exact ⟨k0, Nat.le_refl _, by omega, rfl, L, by rw [backS_same]; exact h'.out, rfl, Put.refl _⟩
  case round =>
    obtain ⟨k, hk1, hk2, rfl, hI⟩ := hrel
    by_cases hlt : (k : Int) < 32
    · obtain ⟨L1, W1, hL1, P1⟩ := hI.out
      have hL1' : Hid (L1.length = L.length) := hL1
      have hkn : k < 32 := by omega
      have hes : Hid (backS (backS s k0 k) k (k + 1) = backS s k0 (k + 1)) := backS_more hk1 (by omega) (by omega) hDE.out.1 hDE.out.2
      generalize backS s k0 k = s1 at W1 hes
      have c1 := W1.sh.c1
      have c3 := W1.sh.cD hkn
      have W1' : Hid (ShW wr p pv R n d f q M Z s1 B L1 g m F) := W1
      have P1' : Hid (Put [p, R, q, M] w wr) := P1
      have DB : Hid (s1.D.getD k 0 < 67108864) := by
        have hn := W1.inv.nn
        have hp := W1.inv.pl
        by_cases e : s1.D.getD k 0 = 0
        · rw [Hid, e]; decide
        · obtain ⟨j, g1, _, g3, _⟩ := W1.inv.tab k hkn e
          rw [Hid, g3]; omega
      have FIN : Hid (∀ wx LL, ShC wx p pv R n d f q M s1 B LL g m F → LL = (if s1.D.getD k 0 = 0 then L1 else giveL f L1 ((s1.D.getD k 0 / 64 : Nat) : Int)) → ShW ((wx.setCell ⟨p, 3 + k, none⟩ (.int .u32 0)).drew.setCells p (35 + k * 16) z16.toList) p pv R n d f q M Z (backS s k0 (k + 1)) B LL g m F ∧ Put [p] wx ((wx.setCell ⟨p, 3 + k, none⟩ (.int .u32 0)).drew.setCells p (35 + k * 16) z16.toList)) :=
        fun wx LL hC hLL => by rw [← hes.out]; exact hC.back W1'.out.inv hkn hLL
      generalize hD1 : s1.D.getD k 0 = D1 at c3 DB FIN
      clear hI W1 P1 hL1 hes
      by_cases hD : D1 = 0
      · subst hD
        have C2 : Hid (ShC wr p pv R n d f q M s1 B L1 g m F) := W1'.out.c
        have FIN2 : Hid (ShW ((wr.setCell ⟨p, 3 + k, none⟩ (.int .u32 0)).drew.setCells p (35 + k * 16) z16.toList) p pv R n d f q M Z (backS s k0 (k + 1)) B L1 g m F ∧ Put [p] wr ((wr.setCell ⟨p, 3 + k, none⟩ (.int .u32 0)).drew.setCells p (35 + k * 16) z16.toList)) := FIN.out wr L1 C2.out (by simp)
        clear FIN DB hD1
        go_wp2_with fail
        have c3 := C2.out.sh.cD hkn
        have f3 := C2.out.sh.fz (3 + k)
        have th : Hid (((wr).setCell ⟨p, 3 + k, none⟩ (.int .u32 0)).drew.there p (35 + k * 16) z16.size) := by
          intro j hj
          rw [z16_size] at hj
          have S := (C2.out.sh.setD hkn 0).kep (Kep.refl _).drew
          refine ⟨?_, S.fz _⟩
          have := S.cE (k := 16 * k + j) (by omega)
          rw [show 35 + k * 16 + j = 35 + (16 * k + j) by omega]; exact Option.isSome_iff_exists.2 ⟨_, this⟩
        have zs := z16_size
        have hst : (storeCells ⟨p, 35 + k * 16, none⟩ z16.toList).run Try.prog ((wr).setCell ⟨p, 3 + k, none⟩ (.int .u32 0)).drew = .ok () (((wr).setCell ⟨p, 3 + k, none⟩ (.int .u32 0)).drew.setCells p (35 + k * 16) z16.toList) := by
          have := run_storeCells_cells (P := Try.prog) p (35 + k * 16) z16.toList 0 _ (fun j hj => (th.out j (by simpa using hj)).1) (fun j hj => (th.out j (by simpa using hj)).2) (fun v hv => (Array.all_eq_true_iff_forall_mem.1 z16_ones) v (by simpa using hv))
          simpa only [Nat.add_zero] using this
        clear th
        refine wp_region_held_drew (S := fun w' => True) (by kernel_rfl) (trivial) (fun hH => ?_)
        refine wpAnyH_take (i := 0) (v := .pointer (some ⟨p, 0, none⟩)) rfl (by kernel_rfl) (by kernel_rfl) (by kernel_rfl) (fun _ _ _ h => h) (.inl ⟨by rfl, by intro w hS; go_simp⟩) hH ?_
        (try dsimp only [Act.put]); (try simp only [List.getElem_toArray, List.getElem_cons_zero, List.getElem_cons_succ, Act.put, List.setIfInBounds_toArray, List.set_cons_zero, List.set_cons_succ])
        refine wpAnyH_take (i := 1) (v := .int .i64 k) rfl (by kernel_rfl) (by kernel_rfl) (by kernel_rfl) (fun _ _ _ h => h) (.inl ⟨by rfl, by intro w hS; go_simp⟩) hH ?_
        (try dsimp only [Act.put]); (try simp only [List.getElem_toArray, List.getElem_cons_zero, List.getElem_cons_succ, Act.put, List.setIfInBounds_toArray, List.set_cons_zero, List.set_cons_succ])
        refine wpAnyH_take (i := 2) (v := .pointer (some ⟨p, 0, none⟩)) rfl (by kernel_rfl) (by kernel_rfl) (by kernel_rfl) (fun _ _ _ h => h) (.inl ⟨by rfl, by intro w hS; go_simp⟩) hH ?_
        (try dsimp only [Act.put]); (try simp only [List.getElem_toArray, List.getElem_cons_zero, List.getElem_cons_succ, Act.put, List.setIfInBounds_toArray, List.set_cons_zero, List.set_cons_succ])
        refine wpAnyH_take (i := 3) (v := .int .i64 k) rfl (by kernel_rfl) (by kernel_rfl) (by kernel_rfl) (fun _ _ _ h => h) (.inl ⟨by rfl, by intro w hS; go_simp⟩) hH ?_
        (try dsimp only [Act.put]); (try simp only [List.getElem_toArray, List.getElem_cons_zero, List.getElem_cons_succ, Act.put, List.setIfInBounds_toArray, List.set_cons_zero, List.set_cons_succ])
        refine wpAnyH_take (i := 4) (v := .agg z16) rfl (by kernel_rfl) (by kernel_rfl) (by kernel_rfl) (fun _ _ _ h => h) (.inl ⟨by rfl, by intro w hS; kernel_rfl⟩) hH ?_
        (try dsimp only [Act.put]); (try simp only [List.getElem_toArray, List.getElem_cons_zero, List.getElem_cons_succ, Act.put, List.setIfInBounds_toArray, List.set_cons_zero, List.set_cons_succ])
        refine wpAnyH_take (i := 5) (v := .pointer (some ⟨p, 0, none⟩)) rfl (by kernel_rfl) (by kernel_rfl) (by kernel_rfl) (fun _ _ _ h => h) (.inl ⟨by rfl, by intro w hS; go_simp⟩) hH ?_
        (try dsimp only [Act.put]); (try simp only [List.getElem_toArray, List.getElem_cons_zero, List.getElem_cons_succ, Act.put, List.setIfInBounds_toArray, List.set_cons_zero, List.set_cons_succ])
        refine wpAnyH_take (i := 6) (v := .pointer (some ⟨p, 3, none⟩)) rfl (by kernel_rfl) (by kernel_rfl) (by kernel_rfl) (fun _ _ _ h => h) (.inl ⟨by rfl, by intro w hS; go_simp⟩) hH ?_
        (try dsimp only [Act.put]); (try simp only [List.getElem_toArray, List.getElem_cons_zero, List.getElem_cons_succ, Act.put, List.setIfInBounds_toArray, List.set_cons_zero, List.set_cons_succ])
        refine wpAnyH_take (i := 7) (v := .pointer (some ⟨p, 3 + k, none⟩)) rfl (by kernel_rfl) (by kernel_rfl) (by kernel_rfl) (fun _ _ _ h => h) (.inl ⟨by rfl, by intro w hS; go_simp <;> (intro h; omega)⟩) hH ?_
        (try dsimp only [Act.put]); (try simp only [List.getElem_toArray, List.getElem_cons_zero, List.getElem_cons_succ, Act.put, List.setIfInBounds_toArray, List.set_cons_zero, List.set_cons_succ])
        refine wpAnyH_take (i := 9) (v := .pointer (some ⟨p, 0, none⟩)) rfl (by kernel_rfl) (by kernel_rfl) (by kernel_rfl) (fun _ _ _ h => h) (.inl ⟨by rfl, by intro w hS; go_simp⟩) hH ?_
        (try dsimp only [Act.put]); (try simp only [List.getElem_toArray, List.getElem_cons_zero, List.getElem_cons_succ, Act.put, List.setIfInBounds_toArray, List.set_cons_zero, List.set_cons_succ])
        refine wpAnyH_take (i := 10) (v := .pointer (some ⟨p, 35, none⟩)) rfl (by kernel_rfl) (by kernel_rfl) (by kernel_rfl) (fun _ _ _ h => h) (.inl ⟨by rfl, by intro w hS; go_simp⟩) hH ?_
        (try dsimp only [Act.put]); (try simp only [List.getElem_toArray, List.getElem_cons_zero, List.getElem_cons_succ, Act.put, List.setIfInBounds_toArray, List.set_cons_zero, List.set_cons_succ])
        refine wpAnyH_ready (rs := [8]) (by kernel_rfl) (by simp) ?_
        refine AllReadyH.cons rfl (fun K hK => ?_) AllReadyH.nil
        rw [if_pos (by rfl)]
        go_simp
        refine hK.out _ _ trivial (fun hH => ?_)
        clear hK K
        (try dsimp only [Act.put]); (try simp only [List.getElem_toArray, List.getElem_cons_zero, List.getElem_cons_succ, Act.put, List.setIfInBounds_toArray, List.set_cons_zero, List.set_cons_succ])
        refine wpAnyH_take (i := 11) (v := .pointer (some ⟨p, 35 + k * 16, none⟩)) rfl (by kernel_rfl) (by kernel_rfl) (by kernel_rfl) (fun _ _ _ h => h) (.inl ⟨by rfl, by intro w hS; go_simp <;> (intro h; omega)⟩) hH ?_
        (try dsimp only [Act.put]); (try simp only [List.getElem_toArray, List.getElem_cons_zero, List.getElem_cons_succ, Act.put, List.setIfInBounds_toArray, List.set_cons_zero, List.set_cons_succ])
        refine wpAnyH_ready (rs := [12]) (by kernel_rfl) (by simp) ?_
        refine AllReadyH.cons rfl (fun K hK => ?_) AllReadyH.nil
        rw [if_pos (by rfl)]
        go_simp
        refine hK.out _ _ trivial (fun hH => ?_)
        clear hK K
        (try dsimp only [Act.put]); (try simp only [List.getElem_toArray, List.getElem_cons_zero, List.getElem_cons_succ, Act.put, List.setIfInBounds_toArray, List.set_cons_zero, List.set_cons_succ])
        refine wpAnyH_done (by kernel_rfl) ?_ _
        go_wp2_with fail
        go_roundw
        case rel => exact ⟨k + 1, by omega, by omega, by go_num, L1, FIN2.out.1, hL1'.out, P1'.out.trans (FIN2.out.2.mono (by simp))⟩
        case measure => simp [intOf]; omega
      · have hne : ((D1 : Int) == 0) = false := by simp; omega
        have HG : Hid (Calls Try.prog 62 #[.pointer (some ⟨q, 0, none⟩), .int .i64 (D1 / 64 : Nat)] wr.drew fun e w' => (∃ b, e = .returned (.bool b)) ∧ ShC w' p pv R n d f q M s1 B (giveL f L1 (D1 / 64 : Nat)) g m F ∧ Put [q, M] wr.drew w') := give_one wr.drew p pv R n d f q M Z s1 B L1 g m F (W1'.out.kep (Kep.refl _).drew) (D1 / 64) (by have := DB.out; omega)
        have hLg : Hid ((giveL f L1 (D1 / 64 : Nat)).length = L.length) := by rw [Hid, giveL_len]; exact hL1'.out
        have hq4 : IntKind.i64.wrap ((D1 : Int) / 64) = ((D1 / 64 : Nat) : Int) := by have := DB.out; rw [IntKind.wrap_i64]; omega
        have FINg : Hid (∀ wx, ShC wx p pv R n d f q M s1 B (giveL f L1 (D1 / 64 : Nat)) g m F → ShW ((wx.setCell ⟨p, 3 + k, none⟩ (.int .u32 0)).drew.setCells p (35 + k * 16) z16.toList) p pv R n d f q M Z (backS s k0 (k + 1)) B (giveL f L1 (D1 / 64 : Nat)) g m F ∧ Put [p] wx ((wx.setCell ⟨p, 3 + k, none⟩ (.int .u32 0)).drew.setCells p (35 + k * 16) z16.toList)) := fun wx hC => FIN.out wx _ hC (by rw [if_neg hD])
        generalize giveL f L1 (D1 / 64 : Nat) = L2 at HG hLg FINg
        have hDe : Hid (s1.D.getD k 0 = D1) := hD1
        clear FIN hD1
        go_wp2_with fail
        refine wp_region_held_drew (S := fun w' => w'.cell? ⟨p, 1, none⟩ = some (.pointer (some ⟨q, 0, none⟩)) ∧ w'.cell? ⟨p, 3 + k, none⟩ = some (.int .u32 (D1 : Nat))) (by kernel_rfl) (⟨c1, c3⟩) (fun hH => ?_)
        refine wpAnyH_take (i := 0) (v := .pointer (some ⟨p, 0, none⟩)) rfl (by kernel_rfl) (by kernel_rfl) (by kernel_rfl) (fun _ _ _ h => h) (.inl ⟨by rfl, by intro w hS; go_simp⟩) hH ?_
        (try dsimp only [Act.put]); (try simp only [List.getElem_toArray, List.getElem_cons_zero, List.getElem_cons_succ, Act.put, List.setIfInBounds_toArray, List.set_cons_zero, List.set_cons_succ])
        refine wpAnyH_take (i := 1) (v := .pointer (some ⟨p, 0, none⟩)) rfl (by kernel_rfl) (by kernel_rfl) (by kernel_rfl) (fun _ _ _ h => h) (.inl ⟨by rfl, by intro w hS; go_simp⟩) hH ?_
        (try dsimp only [Act.put]); (try simp only [List.getElem_toArray, List.getElem_cons_zero, List.getElem_cons_succ, Act.put, List.setIfInBounds_toArray, List.set_cons_zero, List.set_cons_succ])
        refine wpAnyH_take (i := 2) (v := .pointer (some ⟨p, 1, none⟩)) rfl (by kernel_rfl) (by kernel_rfl) (by kernel_rfl) (fun _ _ _ h => h) (.inl ⟨by rfl, by intro w hS; go_simp⟩) hH ?_
        (try dsimp only [Act.put]); (try simp only [List.getElem_toArray, List.getElem_cons_zero, List.getElem_cons_succ, Act.put, List.setIfInBounds_toArray, List.set_cons_zero, List.set_cons_succ])
        refine wpAnyH_take (i := 3) (v := .pointer (some ⟨q, 0, none⟩)) rfl (by kernel_rfl) (by kernel_rfl) (by kernel_rfl) (fun _ _ _ h => h) (.inl ⟨by rfl, by intro w hS; have c := hS.1; clear hS; go_simp⟩) hH ?_
        (try dsimp only [Act.put]); (try simp only [List.getElem_toArray, List.getElem_cons_zero, List.getElem_cons_succ, Act.put, List.setIfInBounds_toArray, List.set_cons_zero, List.set_cons_succ])
        refine wpAnyH_take (i := 4) (v := .pointer (some ⟨p, 0, none⟩)) rfl (by kernel_rfl) (by kernel_rfl) (by kernel_rfl) (fun _ _ _ h => h) (.inl ⟨by rfl, by intro w hS; go_simp⟩) hH ?_
        (try dsimp only [Act.put]); (try simp only [List.getElem_toArray, List.getElem_cons_zero, List.getElem_cons_succ, Act.put, List.setIfInBounds_toArray, List.set_cons_zero, List.set_cons_succ])
        refine wpAnyH_take (i := 5) (v := .int .i64 k) rfl (by kernel_rfl) (by kernel_rfl) (by kernel_rfl) (fun _ _ _ h => h) (.inl ⟨by rfl, by intro w hS; go_simp⟩) hH ?_
        (try dsimp only [Act.put]); (try simp only [List.getElem_toArray, List.getElem_cons_zero, List.getElem_cons_succ, Act.put, List.setIfInBounds_toArray, List.set_cons_zero, List.set_cons_succ])
        refine wpAnyH_take (i := 6) (v := .pointer (some ⟨p, 0, none⟩)) rfl (by kernel_rfl) (by kernel_rfl) (by kernel_rfl) (fun _ _ _ h => h) (.inl ⟨by rfl, by intro w hS; go_simp⟩) hH ?_
        (try dsimp only [Act.put]); (try simp only [List.getElem_toArray, List.getElem_cons_zero, List.getElem_cons_succ, Act.put, List.setIfInBounds_toArray, List.set_cons_zero, List.set_cons_succ])
        refine wpAnyH_take (i := 7) (v := .pointer (some ⟨p, 3, none⟩)) rfl (by kernel_rfl) (by kernel_rfl) (by kernel_rfl) (fun _ _ _ h => h) (.inl ⟨by rfl, by intro w hS; go_simp⟩) hH ?_
        (try dsimp only [Act.put]); (try simp only [List.getElem_toArray, List.getElem_cons_zero, List.getElem_cons_succ, Act.put, List.setIfInBounds_toArray, List.set_cons_zero, List.set_cons_succ])
        refine wpAnyH_take (i := 8) (v := .pointer (some ⟨p, 3 + k, none⟩)) rfl (by kernel_rfl) (by kernel_rfl) (by kernel_rfl) (fun _ _ _ h => h) (.inl ⟨by rfl, by intro w hS; go_simp <;> (intro h; omega)⟩) hH ?_
        (try dsimp only [Act.put]); (try simp only [List.getElem_toArray, List.getElem_cons_zero, List.getElem_cons_succ, Act.put, List.setIfInBounds_toArray, List.set_cons_zero, List.set_cons_succ])
        refine wpAnyH_take (i := 9) (v := .int .u32 (D1 : Nat)) rfl (by kernel_rfl) (by kernel_rfl) (by kernel_rfl) (fun _ _ _ h => h) (.inl ⟨by rfl, by intro w hS; have c := hS.2; clear hS; go_simp⟩) hH ?_
        (try dsimp only [Act.put]); (try simp only [List.getElem_toArray, List.getElem_cons_zero, List.getElem_cons_succ, Act.put, List.setIfInBounds_toArray, List.set_cons_zero, List.set_cons_succ])
        refine wpAnyH_take (i := 10) (v := .int .u32 ((D1 : Int) / 64)) rfl (by kernel_rfl) (by kernel_rfl) (by kernel_rfl) (fun _ _ _ h => h) (.inl ⟨by rfl, by intro w hS; have hb := DB.out; clear hS; go_simp; rw [IntKind.wrap_u32]; omega⟩) hH ?_
        (try dsimp only [Act.put]); (try simp only [List.getElem_toArray, List.getElem_cons_zero, List.getElem_cons_succ, Act.put, List.setIfInBounds_toArray, List.set_cons_zero, List.set_cons_succ])
        refine wpAnyH_take (i := 11) (v := .int .i64 (D1 / 64 : Nat)) rfl (by kernel_rfl) (by kernel_rfl) (by kernel_rfl) (fun _ _ _ h => h) (.inl ⟨by rfl, by intro w hS; go_simp⟩) hH ?_
        (try dsimp only [Act.put]); (try simp only [List.getElem_toArray, List.getElem_cons_zero, List.getElem_cons_succ, Act.put, List.setIfInBounds_toArray, List.set_cons_zero, List.set_cons_succ])
        refine wpAnyH_ready (rs := [12]) (by kernel_rfl) (by simp) ?_
        refine AllReadyH.cons rfl (fun K hK => ?_) AllReadyH.nil
        rw [if_pos (by rfl)]
        go_simp
        refine HG.out.mono ?_
        rintro x w3 ⟨⟨gb, rfl⟩, C3, P3⟩
        refine hK.out _ _ ⟨C3.sh.c1, (C3.sh.cD hkn).trans (congrArg (fun x : Nat => some (Value.int .u32 x)) hDe.out)⟩ (fun hH => ?_)
        clear hK K
        (try dsimp only [Act.put]); (try simp only [List.getElem_toArray, List.getElem_cons_zero, List.getElem_cons_succ, Act.put, List.setIfInBounds_toArray, List.set_cons_zero, List.set_cons_succ])
        refine wpAnyH_done (by kernel_rfl) ?_ _
        go_wp2_with fail
        have PD : Hid (Put [p, R, q, M] w w3) := P1'.out.drew.trans (P3.mono (by simp))
        have FIN2 : Hid (ShW ((w3.setCell ⟨p, 3 + k, none⟩ (.int .u32 0)).drew.setCells p (35 + k * 16) z16.toList) p pv R n d f q M Z (backS s k0 (k + 1)) B L2 g m F ∧ Put [p] w3 ((w3.setCell ⟨p, 3 + k, none⟩ (.int .u32 0)).drew.setCells p (35 + k * 16) z16.toList)) := FINg.out w3 C3
        have C2 : Hid (ShC w3 p pv R n d f q M s1 B L2 g m F) := C3
        clear C3 P3 FINg HG P1' hne hq4 c3 c1
        have c3 := C2.out.sh.cD hkn
        have f3 := C2.out.sh.fz (3 + k)
        have th : Hid (((w3).setCell ⟨p, 3 + k, none⟩ (.int .u32 0)).drew.there p (35 + k * 16) z16.size) := by
          intro j hj
          rw [z16_size] at hj
          have S := (C2.out.sh.setD hkn 0).kep (Kep.refl _).drew
          refine ⟨?_, S.fz _⟩
          have := S.cE (k := 16 * k + j) (by omega)
          rw [show 35 + k * 16 + j = 35 + (16 * k + j) by omega]; exact Option.isSome_iff_exists.2 ⟨_, this⟩
        have zs := z16_size
        have hst : (storeCells ⟨p, 35 + k * 16, none⟩ z16.toList).run Try.prog ((w3).setCell ⟨p, 3 + k, none⟩ (.int .u32 0)).drew = .ok () (((w3).setCell ⟨p, 3 + k, none⟩ (.int .u32 0)).drew.setCells p (35 + k * 16) z16.toList) := by
          have := run_storeCells_cells (P := Try.prog) p (35 + k * 16) z16.toList 0 _ (fun j hj => (th.out j (by simpa using hj)).1) (fun j hj => (th.out j (by simpa using hj)).2) (fun v hv => (Array.all_eq_true_iff_forall_mem.1 z16_ones) v (by simpa using hv))
          simpa only [Nat.add_zero] using this
        clear th
        refine wp_region_held_drew (S := fun w' => True) (by kernel_rfl) (trivial) (fun hH => ?_)
        refine wpAnyH_take (i := 0) (v := .pointer (some ⟨p, 0, none⟩)) rfl (by kernel_rfl) (by kernel_rfl) (by kernel_rfl) (fun _ _ _ h => h) (.inl ⟨by rfl, by intro w hS; go_simp⟩) hH ?_
        (try dsimp only [Act.put]); (try simp only [List.getElem_toArray, List.getElem_cons_zero, List.getElem_cons_succ, Act.put, List.setIfInBounds_toArray, List.set_cons_zero, List.set_cons_succ])
        refine wpAnyH_take (i := 1) (v := .int .i64 k) rfl (by kernel_rfl) (by kernel_rfl) (by kernel_rfl) (fun _ _ _ h => h) (.inl ⟨by rfl, by intro w hS; go_simp⟩) hH ?_
        (try dsimp only [Act.put]); (try simp only [List.getElem_toArray, List.getElem_cons_zero, List.getElem_cons_succ, Act.put, List.setIfInBounds_toArray, List.set_cons_zero, List.set_cons_succ])
        refine wpAnyH_take (i := 2) (v := .pointer (some ⟨p, 0, none⟩)) rfl (by kernel_rfl) (by kernel_rfl) (by kernel_rfl) (fun _ _ _ h => h) (.inl ⟨by rfl, by intro w hS; go_simp⟩) hH ?_
        (try dsimp only [Act.put]); (try simp only [List.getElem_toArray, List.getElem_cons_zero, List.getElem_cons_succ, Act.put, List.setIfInBounds_toArray, List.set_cons_zero, List.set_cons_succ])
        refine wpAnyH_take (i := 3) (v := .int .i64 k) rfl (by kernel_rfl) (by kernel_rfl) (by kernel_rfl) (fun _ _ _ h => h) (.inl ⟨by rfl, by intro w hS; go_simp⟩) hH ?_
        (try dsimp only [Act.put]); (try simp only [List.getElem_toArray, List.getElem_cons_zero, List.getElem_cons_succ, Act.put, List.setIfInBounds_toArray, List.set_cons_zero, List.set_cons_succ])
        refine wpAnyH_take (i := 4) (v := .agg z16) rfl (by kernel_rfl) (by kernel_rfl) (by kernel_rfl) (fun _ _ _ h => h) (.inl ⟨by rfl, by intro w hS; kernel_rfl⟩) hH ?_
        (try dsimp only [Act.put]); (try simp only [List.getElem_toArray, List.getElem_cons_zero, List.getElem_cons_succ, Act.put, List.setIfInBounds_toArray, List.set_cons_zero, List.set_cons_succ])
        refine wpAnyH_take (i := 5) (v := .pointer (some ⟨p, 0, none⟩)) rfl (by kernel_rfl) (by kernel_rfl) (by kernel_rfl) (fun _ _ _ h => h) (.inl ⟨by rfl, by intro w hS; go_simp⟩) hH ?_
        (try dsimp only [Act.put]); (try simp only [List.getElem_toArray, List.getElem_cons_zero, List.getElem_cons_succ, Act.put, List.setIfInBounds_toArray, List.set_cons_zero, List.set_cons_succ])
        refine wpAnyH_take (i := 6) (v := .pointer (some ⟨p, 3, none⟩)) rfl (by kernel_rfl) (by kernel_rfl) (by kernel_rfl) (fun _ _ _ h => h) (.inl ⟨by rfl, by intro w hS; go_simp⟩) hH ?_
        (try dsimp only [Act.put]); (try simp only [List.getElem_toArray, List.getElem_cons_zero, List.getElem_cons_succ, Act.put, List.setIfInBounds_toArray, List.set_cons_zero, List.set_cons_succ])
        refine wpAnyH_take (i := 7) (v := .pointer (some ⟨p, 3 + k, none⟩)) rfl (by kernel_rfl) (by kernel_rfl) (by kernel_rfl) (fun _ _ _ h => h) (.inl ⟨by rfl, by intro w hS; go_simp <;> (intro h; omega)⟩) hH ?_
        (try dsimp only [Act.put]); (try simp only [List.getElem_toArray, List.getElem_cons_zero, List.getElem_cons_succ, Act.put, List.setIfInBounds_toArray, List.set_cons_zero, List.set_cons_succ])
        refine wpAnyH_take (i := 9) (v := .pointer (some ⟨p, 0, none⟩)) rfl (by kernel_rfl) (by kernel_rfl) (by kernel_rfl) (fun _ _ _ h => h) (.inl ⟨by rfl, by intro w hS; go_simp⟩) hH ?_
        (try dsimp only [Act.put]); (try simp only [List.getElem_toArray, List.getElem_cons_zero, List.getElem_cons_succ, Act.put, List.setIfInBounds_toArray, List.set_cons_zero, List.set_cons_succ])
        refine wpAnyH_take (i := 10) (v := .pointer (some ⟨p, 35, none⟩)) rfl (by kernel_rfl) (by kernel_rfl) (by kernel_rfl) (fun _ _ _ h => h) (.inl ⟨by rfl, by intro w hS; go_simp⟩) hH ?_
        (try dsimp only [Act.put]); (try simp only [List.getElem_toArray, List.getElem_cons_zero, List.getElem_cons_succ, Act.put, List.setIfInBounds_toArray, List.set_cons_zero, List.set_cons_succ])
        refine wpAnyH_ready (rs := [8]) (by kernel_rfl) (by simp) ?_
        refine AllReadyH.cons rfl (fun K hK => ?_) AllReadyH.nil
        rw [if_pos (by rfl)]
        go_simp
        refine hK.out _ _ trivial (fun hH => ?_)
        clear hK K
        (try dsimp only [Act.put]); (try simp only [List.getElem_toArray, List.getElem_cons_zero, List.getElem_cons_succ, Act.put, List.setIfInBounds_toArray, List.set_cons_zero, List.set_cons_succ])
        refine wpAnyH_take (i := 11) (v := .pointer (some ⟨p, 35 + k * 16, none⟩)) rfl (by kernel_rfl) (by kernel_rfl) (by kernel_rfl) (fun _ _ _ h => h) (.inl ⟨by rfl, by intro w hS; go_simp <;> (intro h; omega)⟩) hH ?_
        (try dsimp only [Act.put]); (try simp only [List.getElem_toArray, List.getElem_cons_zero, List.getElem_cons_succ, Act.put, List.setIfInBounds_toArray, List.set_cons_zero, List.set_cons_succ])
        refine wpAnyH_ready (rs := [12]) (by kernel_rfl) (by simp) ?_
        refine AllReadyH.cons rfl (fun K hK => ?_) AllReadyH.nil
        rw [if_pos (by rfl)]
        go_simp
        refine hK.out _ _ trivial (fun hH => ?_)
        clear hK K
        (try dsimp only [Act.put]); (try simp only [List.getElem_toArray, List.getElem_cons_zero, List.getElem_cons_succ, Act.put, List.setIfInBounds_toArray, List.set_cons_zero, List.set_cons_succ])
        refine wpAnyH_done (by kernel_rfl) ?_ _
        go_wp2_with fail
        go_roundw
        case rel => exact ⟨k + 1, by omega, by omega, by go_num, L2, FIN2.out.1, hLg.out, PD.out.trans (FIN2.out.2.mono (by simp))⟩
        case measure => simp [intOf]; omega
    · go_wp2_with fail
      go_end0
      obtain rfl : k = 32 := by omega
      obtain ⟨L1, W1, hL1, P1⟩ := hI.out
      first | exact ⟨L1, rfl, W1, hL1, P1⟩ | exact ⟨rfl, L1, W1, hL1, P1⟩
end Go.Proofs.Ythgkkjcemjadoaa
