/- Put and Drop. -/
import Derived.Test.YthgkkjcemjadoaaSdadd
namespace Go.Proofs.Ythgkkjcemjadoaa
open Go.RowKit
set_option linter.unusedVariables false
set_option linter.unusedSimpArgs false

/-- The entry that Put lays. -/
def entN (fr x : Nat) : Nat := 64 * fr + (x % 16 / 2 * 2 + 1)
theorem entN_ok {n fr : Nat} (x : Nat) (h : fr < n) : EntOk n (entN fr x) ∧ entN fr x ≠ 0 := by
  unfold entN EntOk; omega
theorem or_tab : ∀ x < 16, x ||| 1 = x / 2 * 2 + 1 := by decide
theorem and15 (x : Nat) (hx : x < 4294967296) : bits .and .u32 (x : Int) 15 = ((x % 16 : Nat) : Int) := by
  rw [show (15 : Int) = ((15 : Nat) : Int) from rfl, andN x 15 hx (by decide)]
  have := Nat.and_two_pow_sub_one_eq_mod x 4
  exact congrArg (fun n : Nat => (n : Int)) this
theorem orb (fr b : Nat) (h : fr < 512) (hb : b < 16) : bits .or .u32 (64 * (fr : Int)) (b : Int) = ((64 * fr + b : Nat) : Int) := by
  have := u32_or_nat (64 * fr) b (by omega) (by omega)
  rw [low6 fr b (by omega)] at this
  simpa using this
theorem or1 (fr b : Nat) (h : fr < 512) (hb : b < 16) : bits .or .u32 ((64 * fr + b : Nat) : Int) 1 = ((64 * fr + (b / 2 * 2 + 1) : Nat) : Int) := by
  rw [show (1 : Int) = ((1 : Nat) : Int) from rfl, u32_or_nat _ _ (by omega) (by decide), ← low6 fr b (by omega), Nat.or_assoc, or_tab b hb, low6 fr _ (by omega)]
/-- What Put does to a shadow's data. -/
def PutR (n : Nat) (s : SD) (L : List Bool) (va : Nat) (fr : Int) (x : Nat) (b : Bool) (s' : SD) (L' : List Bool) : Prop :=
  b = decide ((va < 16384 ∨ (va < 32768 ∧ s.U = [])) ∧ 0 ≤ fr ∧ fr < n ∧ (s.D.getD (va / 1024) 0 ≠ 0 ∨ nTrue L < L.length)) ∧ s'.U = s.U ∧ L'.length = L.length ∧
    (b = false → s' = s ∧ L' = L) ∧ (b = true → s'.E = s.E.set (va / 64) (entN fr.toNat x) ∧ (∀ k, s'.D.getD k 0 = 0 ↔ s.D.getD k 0 = 0 ∧ k ≠ va / 1024) ∧ nTrue L' = nTrue L + if s.D.getD (va / 1024) 0 = 0 then 1 else 0)
theorem ShW.layd {w w' : World} {p pv R n d f q M : Nat} {Z : List Int} {s : SD} {B C : List Int} {L : List Bool} {g m : Int} {F : List Nat} (h : ShW w p pv R n d f q M Z s B L g m F) (k : Put [p, R] w w') {s' : SD} (hs : ShAt w' p (.pointer (some ⟨pv, 0, none⟩)) q d s' F) (hB : RowB w' R C) (hi : TInv n d f Z s' C L) : ShW w' p pv R n d f q M Z s' C L g m F := by
  have ne := h.ne
  exact ⟨hs, ram_tags h.ram k fun x hx => h.tags x (by simp at hx; rcases hx with rfl | rfl <;> simp [shB]), hB, h.pool.put k (by simp; exact ⟨fun e => ne.2.1 e.symm, fun e => ne.2.2.2.1 e.symm⟩) (by simp; exact ⟨fun e => ne.2.2.1 e.symm, fun e => ne.2.2.2.2.1 e.symm⟩), hi⟩
theorem shlay_any (w : World) (p pv R n d f q M : Nat) (Z : List Int) (s : SD) (B : List Int) (L : List Bool) (g m : Int) (F : List Nat) (h : ShW w p pv R n d f q M Z s B L g m F) (va e : Nat) (hva : va < 32768) (hD : s.D.getD (va / 1024) 0 ≠ 0) (he : EntOk n e)
    (dv : ∀ k, k < 32 → k ≠ va / 1024 → wd B (64 * d + 4 * k) = dirW s k) :
    Calls Try.prog 46 #[.pointer (some ⟨p, 0, none⟩), .int .u32 va, .int .u32 e] w fun x w' => x = .returned (.tuple #[]) ∧
      ShW w' p pv R n d f q M Z (layS s (va / 64) e) (layB s d B (va / 64) e) L g m F ∧ DInv d (layS s (va / 64) e) (layB s d B (va / 64) e) ∧ Put [p, R] w w' := by
  have ne := h.ne
  have hn := h.inv.nn
  have i1 : va / 64 / 16 = va / 1024 := by omega
  have i2 : 16 * (va / 1024) + va / 64 % 16 = va / 64 := by omega
  obtain ⟨j, g1, g2, g3, _⟩ := h.inv.tab (va / 1024) (by omega) hD
  have hp := h.inv.pl
  have elt : e < 4294967296 := by rcases he with rfl | ⟨_, _, he⟩ <;> omega
  have core := shlay_core w p pv R n d q s B F h.sh h.ram h.row h.inv.lB hn h.inv.dn ne.1 (fun hF => (ne.2.2.2.2.2.2 R hF).2.1 rfl) (va / 1024) (va / 64 % 16) va e rfl rfl hva (s.D.getD (va / 1024) 0) rfl (by omega) elt (fun x hx => h.tags x (by simp at hx; rcases hx with rfl | rfl <;> simp [shB]))
  have lay := h.inv.lay (i := va / 64) (e := e) (by omega) (by rw [i1]; exact hD) he (by rw [i1]; exact dv)
  refine core.mono ?_
  rintro x w' ⟨rfl, hs, hB, k⟩
  rw [i2] at hs
  have eB : setW (setW B (64 * d + 4 * (va / 1024)) (s.D.getD (va / 1024) 0 : Nat)) (s.D.getD (va / 1024) 0 - s.D.getD (va / 1024) 0 % 64 + 4 * (va / 64 % 16)) (e : Nat) = layB s d B (va / 64) e := by unfold layB; rw [i1]
  rw [eB] at hB
  exact ⟨rfl, h.layd k hs hB lay.1, lay.2, k⟩
theorem PutR.has {n : Nat} {s : SD} {L : List Bool} {va fr x : Nat} (h1 : va < 16384 ∨ (va < 32768 ∧ s.U = [])) (h2 : fr < n) (hD : s.D.getD (va / 1024) 0 ≠ 0) : PutR n s L va fr x true (layS s (va / 64) (entN fr x)) L :=
  ⟨(decide_eq_true ⟨h1, by omega, by omega, .inl hD⟩).symm, rfl, rfl, (fun h => by cases h), fun _ => ⟨rfl, fun k => ⟨fun e => ⟨e, fun ek => hD (ek ▸ e)⟩, fun e => e.1⟩, by rw [if_neg hD]; rfl⟩⟩
theorem PutR.new {n d f : Nat} {Z B : List Int} {s : SD} {L : List Bool} (hi : TInv n d f Z s B L) {va fr x : Nat} (h1 : va < 16384 ∨ (va < 32768 ∧ s.U = [])) (h2 : fr < n) (hD : s.D.getD (va / 1024) 0 = 0) (hl : leastL L < L.length) : PutR n s L va fr x true (layS (addS s (va / 1024) f L) (va / 64) (entN fr x)) (takeL L) := by
  have hk : va / 1024 < s.D.length := by rw [hi.lD]; omega
  refine ⟨(decide_eq_true ⟨h1, by omega, by omega, .inr (leastL_full.1 hl)⟩).symm, rfl, by simp [takeL], (fun h => by cases h), fun _ => ⟨rfl, fun k => ?_, ?_⟩⟩
  · show (s.D.set _ _).getD k 0 = 0 ↔ _
    by_cases e : k = va / 1024
    · subst e
      rw [gset_eq hk]
      exact ⟨fun h => by omega, fun h => absurd rfl h.2⟩
    · rw [gset_ne e]
      exact ⟨fun h => ⟨h, e⟩, fun h => h.1⟩
  · rw [if_pos hD]
    exact nTrue_ins hl (leastL_at hl)
theorem PutR.no {n : Nat} {s : SD} {L : List Bool} {va x : Nat} {fr : Int} (h : ¬ ((va < 16384 ∨ (va < 32768 ∧ s.U = [])) ∧ 0 ≤ fr ∧ fr < n ∧ (s.D.getD (va / 1024) 0 ≠ 0 ∨ nTrue L < L.length))) : PutR n s L va fr x false s L :=
  ⟨(decide_eq_false h).symm, rfl, rfl, fun _ => ⟨rfl, rfl⟩, fun h => by cases h⟩
set_option maxHeartbeats 2000000 in
theorem shput_fit (w : World) (p pv R n d f q M : Nat) (Z : List Int) (s : SD) (B : List Int) (L : List Bool) (g m : Int) (F : List Nat) (h : ShW w p pv R n d f q M Z s B L g m F) (dv : DInv d s B) (hg : 0 ≤ g ∧ g < 1000000) (hm : 0 ≤ m ∧ m < 1000000) (va : Nat) (hva : va < 32768) (hfree : va < 16384 ∨ s.U = []) (fr : Nat) (hfr : fr < n) (x : Nat) (hx : x < 4294967296) :
    Calls Try.prog 20 #[.pointer (some ⟨p, 0, none⟩), .int .u32 va, .int .i64 fr, .int .u32 x] w fun e w' => ∃ b s' B' L' g' m', e = .returned (.bool b) ∧ ShW w' p pv R n d f q M Z s' B' L' g' m' F ∧ DInv d s' B' ∧ Put [p, R, q, M] w w' ∧ PutR n s L va fr x b s' L' ∧ (g ≤ g' ∧ g' ≤ g + 1) ∧ (m ≤ m' ∧ m' ≤ m + 1) := by
  have hok : Hid (va < 16384 ∨ (va < 32768 ∧ s.U = [])) := by rcases hfree with e | e; exact .inl e; exact .inr ⟨hva, e⟩
  have HM : Hid (Calls Try.prog 32 #[.pointer (some ⟨p, 0, none⟩)] w fun e w' => e = .returned (.bool true) ∧ w' = w) := shmade_yes w p pv h.sh.c0
  have hFr : Hid (Calls Try.prog 43 #[.pointer (some ⟨p, 0, none⟩), .int .u32 va] w fun e w' => e = .returned (.bool true) ∧ w' = w) := by
    obtain ⟨ux, uc, cU, _⟩ := h.sh.cU
    have := shfree_any p va (by omega) ux s.U.length uc w cU
    rwa [decide_eq_true (by rw [List.length_eq_zero_iff]; exact hok.out)] at this
  have nn := h.inv.nn
  have HF : Hid (Calls Try.prog 44 #[.pointer (some ⟨pv, 0, none⟩), .int .i64 fr] w fun e w' => e = .returned (.bool true) ∧ w' = w) := by
    have := shframe_any w _ R (List.range n) h.ram (by simp; omega) fr
    rw [List.length_range, decide_eq_true (by omega), decide_eq_true (by omega)] at this
    exact this
  have HH : Hid (Calls Try.prog 13 #[.pointer (some ⟨p, 0, none⟩), .int .u32 va] w fun e w' => e = .returned (.bool (decide (s.D.getD (va / 1024) 0 ≠ 0))) ∧ Kep w w') := by
    have := shhas_any w p pv q d s F h.sh va (by omega)
    unfold hasS at this
    rw [decide_eq_true hva, Bool.true_and] at this
    exact this
  have HA : Hid (∀ w, Calls Try.prog 47 #[.int .i64 fr] w fun e w' => e = .returned (.int .u32 (64 * fr : Nat)) ∧ w' = w) := fun w => shaddr_any fr (by omega) w
  have HN : Hid (∀ w, Calls Try.prog 35 #[.int .u32 va] w fun e w' => e = .returned (.int .i64 (va / 1024 : Nat)) ∧ w' = w) := fun w => shnum_any va (by omega) w
  have a15 := and15 x hx
  have o1 := orb fr (x % 16) (by omega) (Nat.mod_lt _ (by decide))
  have o2 := or1 fr (x % 16) (by omega) (Nat.mod_lt _ (by decide))
  have ent := entN_ok x hfr
  have e3 : ((64 * fr + (x % 16 / 2 * 2 + 1) : Nat) : Int) = (entN fr x : Nat) := rfl
  rw [e3] at o2
  generalize 64 * fr + x % 16 = y at o1 o2
  generalize x % 16 = z at a15 o1
  have c0 := h.sh.c0
  have h' : Hid (ShW w p pv R n d f q M Z s B L g m F) := h
  have dv' : Hid (DInv d s B) := dv
  have hfr' : Hid (fr < n) := hfr
  have hen : ∃ en, Hid (entN fr x = en) := ⟨_, rfl⟩
  obtain ⟨en, hen⟩ := hen
  rw [hen.out] at o2 ent
  have ent' : Hid (EntOk n en) := ent.1
  clear e3 h dv ent hfree
  by_cases hD : s.D.getD (va / 1024) 0 ≠ 0
  · rw [decide_eq_true hD] at HH
    have HL : Hid (∀ w1, Kep w w1 → Calls Try.prog 46 #[.pointer (some ⟨p, 0, none⟩), .int .u32 va, .int .u32 en] w1 fun x w' => x = .returned (.tuple #[]) ∧
        ShW w' p pv R n d f q M Z (layS s (va / 64) en) (layB s d B (va / 64) en) L g m F ∧ DInv d (layS s (va / 64) en) (layB s d B (va / 64) en) ∧ Put [p, R] w1 w') := fun w1 k => shlay_any w1 p pv R n d f q M Z s B L g m F (h'.out.kep k) va en hva hD ent'.out (fun k hk _ => dv'.out k hk)
    have HE : Hid (PutR n s L va fr x true (layS s (va / 64) en) L) := by rw [Hid, ← hen.out]; exact PutR.has hok.out hfr'.out hD
    clear hD HN
    go_enter Try.func20, Try.ntmps20
    go_wp2_with (first
      | (go_at_call 32; refine HM.out.mono ?_; rintro e wa ⟨rfl, hqa⟩; rw [hqa]; clear hqa wa)
      | (go_at_call 43; refine hFr.out.mono ?_; rintro e wa ⟨rfl, hqa⟩; rw [hqa]; clear hqa wa)
      | (go_at_call 44; refine HF.out.mono ?_; rintro e wa ⟨rfl, hqa⟩; rw [hqa]; clear hqa wa))
    refine HH.out.mono ?_
    rintro e w1 ⟨rfl, K1⟩
    have HL1 := HL.out w1 K1
    have K1' : Hid (Kep w w1) := K1
    clear HL K1 HM hFr HF HH
    go_wp2_with (first
      | (go_at_call 47; refine (HA.out _).mono ?_; rintro e wa ⟨rfl, hqa⟩; rw [hqa]; clear hqa wa)
      | (go_at_call 46; refine HL1.mono ?_; rintro e w2 ⟨rfl, S2, D2, P2⟩))
    go_ret
    exact ⟨true, _, _, _, g, m, rfl, S2, D2, (Put.of_kep K1'.out).trans (P2.mono (by simp)), HE.out, by omega, by omega⟩
  · rw [decide_eq_false hD] at HH
    have hD0 : s.D.getD (va / 1024) 0 = 0 := Classical.byContradiction hD
    have hk32 : va / 1024 < 32 := by omega
    have hU2 : va / 1024 < 16 ∨ s.U = [] := by rcases hok.out with e | e; exact .inl (by omega); exact .inr e.2
    clear hD
    by_cases hl : leastL L < L.length
    · have HD : Hid (∀ w1, Kep w w1 → Calls Try.prog 45 #[.pointer (some ⟨p, 0, none⟩), .int .i64 (va / 1024 : Nat)] w1 fun e w' => e = .returned (.bool true) ∧ ShW w' p pv R n d f q M Z (addS s (va / 1024) f L) (zer B n (64 * (f + leastL L)) 64) (takeL L) (g + 1) m F ∧ Put [p, R, q, M] w1 w') :=
        fun w1 k => shadd_yes w1 p pv R n d f q M Z s B L g m F (h'.out.kep k) hg hm _ hk32 hD0 hl hU2
      have HL : Hid (∀ w1, ShW w1 p pv R n d f q M Z (addS s (va / 1024) f L) (zer B n (64 * (f + leastL L)) 64) (takeL L) (g + 1) m F → Calls Try.prog 46 #[.pointer (some ⟨p, 0, none⟩), .int .u32 va, .int .u32 en] w1 fun x w' => x = .returned (.tuple #[]) ∧
          ShW w' p pv R n d f q M Z (layS (addS s (va / 1024) f L) (va / 64) en) (layB (addS s (va / 1024) f L) d (zer B n (64 * (f + leastL L)) 64) (va / 64) en) (takeL L) (g + 1) m F ∧ DInv d (layS (addS s (va / 1024) f L) (va / 64) en) (layB (addS s (va / 1024) f L) d (zer B n (64 * (f + leastL L)) 64) (va / 64) en) ∧ Put [p, R] w1 w') :=
        fun w1 S => shlay_any w1 p pv R n d f q M Z _ _ _ _ _ F S va en hva (by show (s.D.set _ _).getD _ 0 ≠ 0; rw [gset_eq (by rw [h'.out.inv.lD]; exact hk32)]; omega) ent'.out (fun k hk hne => add_dir h'.out.inv dv'.out hl k hk hne)
      have HE : Hid (PutR n s L va fr x true (layS (addS s (va / 1024) f L) (va / 64) en) (takeL L)) := by rw [Hid, ← hen.out]; exact PutR.new h'.out.inv hok.out hfr'.out hD0 hl
      clear hl hD0 hU2
      generalize addS s (va / 1024) f L = s1 at HD HL HE
      generalize zer B n (64 * (f + leastL L)) 64 = B1 at HD HL
      generalize takeL L = L1 at HD HL HE
      go_enter Try.func20, Try.ntmps20
      go_wp2_with (first
        | (go_at_call 32; refine HM.out.mono ?_; rintro e wa ⟨rfl, hqa⟩; rw [hqa]; clear hqa wa)
        | (go_at_call 43; refine hFr.out.mono ?_; rintro e wa ⟨rfl, hqa⟩; rw [hqa]; clear hqa wa)
        | (go_at_call 44; refine HF.out.mono ?_; rintro e wa ⟨rfl, hqa⟩; rw [hqa]; clear hqa wa))
      refine HH.out.mono ?_
      rintro e w1 ⟨rfl, K1⟩
      have HD1 := HD.out w1 K1
      have K1' : Hid (Kep w w1) := K1
      clear HD K1 HM hFr HF HH
      go_wp2_with (go_at_call 35; refine (HN.out _).mono ?_; rintro e wa ⟨rfl, hqa⟩; rw [hqa]; clear hqa wa)
      refine HD1.mono ?_
      rintro e w2 ⟨rfl, S2, P2⟩
      have HL1 := HL.out w2 S2
      have P2' : Hid (Put [p, R, q, M] w w2) := (Put.of_kep K1'.out).trans P2
      clear HL HD1 S2 P2 HN
      go_wp2_with (first
        | (go_at_call 47; refine (HA.out _).mono ?_; rintro e wa ⟨rfl, hqa⟩; rw [hqa]; clear hqa wa)
        | (go_at_call 46; refine HL1.mono ?_; rintro e w3 ⟨rfl, S3, D3, P3⟩))
      go_ret
      exact ⟨true, _, _, _, g + 1, m, rfl, S3, D3, P2'.out.trans (P3.mono (by simp)), HE.out, by omega, by omega⟩
    · have HD : Hid (∀ w1, Kep w w1 → Calls Try.prog 45 #[.pointer (some ⟨p, 0, none⟩), .int .i64 (va / 1024 : Nat)] w1 fun e w' => e = .returned (.bool false) ∧ ShW w' p pv R n d f q M Z s B L g (m + 1) F ∧ Put [p, R, q, M] w1 w') :=
        fun w1 k => shadd_no w1 p pv R n d f q M Z s B L g m F (h'.out.kep k) hg hm _ hl
      have HE : Hid (PutR n s L va fr x false s L) := PutR.no (fun ⟨_, _, _, e⟩ => by rcases e with e | e; exact e hD0; exact hl (leastL_full.2 e))
      clear hl hD0 hU2
      go_enter Try.func20, Try.ntmps20
      go_wp2_with (first
        | (go_at_call 32; refine HM.out.mono ?_; rintro e wa ⟨rfl, hqa⟩; rw [hqa]; clear hqa wa)
        | (go_at_call 43; refine hFr.out.mono ?_; rintro e wa ⟨rfl, hqa⟩; rw [hqa]; clear hqa wa)
        | (go_at_call 44; refine HF.out.mono ?_; rintro e wa ⟨rfl, hqa⟩; rw [hqa]; clear hqa wa))
      refine HH.out.mono ?_
      rintro e w1 ⟨rfl, K1⟩
      have HD1 := HD.out w1 K1
      have K1' : Hid (Kep w w1) := K1
      clear HD K1 HM hFr HF HH
      go_wp2_with (go_at_call 35; refine (HN.out _).mono ?_; rintro e wa ⟨rfl, hqa⟩; rw [hqa]; clear hqa wa)
      refine HD1.mono ?_
      rintro e w2 ⟨rfl, S2, P2⟩
      go_wp2_with fail
      go_ret
      exact ⟨false, s, B, L, g, m + 1, rfl, S2, dv'.out, (Put.of_kep K1'.out).trans P2, HE.out, by omega, by omega⟩
set_option maxHeartbeats 2000000 in
theorem shput_any (w : World) (p pv R n d f q M : Nat) (Z : List Int) (s : SD) (B : List Int) (L : List Bool) (g m : Int) (F : List Nat) (h : ShW w p pv R n d f q M Z s B L g m F) (dv : DInv d s B) (hg : 0 ≤ g ∧ g < 1000000) (hm : 0 ≤ m ∧ m < 1000000) (va : Nat) (hva : va < 4294967296) (fr : Int) (x : Nat) (hx : x < 4294967296) :
    Calls Try.prog 20 #[.pointer (some ⟨p, 0, none⟩), .int .u32 va, .int .i64 fr, .int .u32 x] w fun e w' => ∃ b s' B' L' g' m', e = .returned (.bool b) ∧ ShW w' p pv R n d f q M Z s' B' L' g' m' F ∧ DInv d s' B' ∧ Put [p, R, q, M] w w' ∧ PutR n s L va fr x b s' L' ∧ (g ≤ g' ∧ g' ≤ g + 1) ∧ (m ≤ m' ∧ m' ≤ m + 1) := by
  by_cases hfree : va < 16384 ∨ (va < 32768 ∧ s.U = [])
  · by_cases hfr : 0 ≤ fr ∧ fr < n
    · obtain ⟨fn, rfl⟩ : ∃ fn : Nat, fr = fn := ⟨fr.toNat, by omega⟩
      exact shput_fit w p pv R n d f q M Z s B L g m F h dv hg hm va (by omega) (by rcases hfree with e | e; exact .inl e; exact .inr e.2) fn (by omega) x hx
    · have HM : Hid (Calls Try.prog 32 #[.pointer (some ⟨p, 0, none⟩)] w fun e w' => e = .returned (.bool true) ∧ w' = w) := shmade_yes w p pv h.sh.c0
      have hFr : Hid (Calls Try.prog 43 #[.pointer (some ⟨p, 0, none⟩), .int .u32 va] w fun e w' => e = .returned (.bool true) ∧ w' = w) := by
        obtain ⟨ux, uc, cU, _⟩ := h.sh.cU
        have := shfree_any p va (by omega) ux s.U.length uc w cU
        rwa [decide_eq_true (by rw [List.length_eq_zero_iff]; exact hfree)] at this
      have HF : Hid (Calls Try.prog 44 #[.pointer (some ⟨pv, 0, none⟩), .int .i64 fr] w fun e w' => e = .returned (.bool false) ∧ w' = w) := by
        have nn := h.inv.nn
        have := shframe_any w _ R (List.range n) h.ram (by simp; omega) fr
        rw [List.length_range, show (decide (0 ≤ fr) && decide (fr < n)) = false by simp; omega] at this
        exact this
      have c0 := h.sh.c0
      have h' : Hid (ShW w p pv R n d f q M Z s B L g m F ∧ DInv d s B) := ⟨h, dv⟩
      have HE : Hid (PutR n s L va fr x false s L) := PutR.no (fun e => hfr ⟨e.2.1, e.2.2.1⟩)
      clear h dv hfr hfree
      go_enter Try.func20, Try.ntmps20
      go_wp2_with (first
        | (go_at_call 32; refine HM.out.mono ?_; rintro e wa ⟨rfl, hqa⟩; rw [hqa]; clear hqa wa)
        | (go_at_call 43; refine hFr.out.mono ?_; rintro e wa ⟨rfl, hqa⟩; rw [hqa]; clear hqa wa)
        | (go_at_call 44; refine HF.out.mono ?_; rintro e wa ⟨rfl, hqa⟩; rw [hqa]; clear hqa wa))
      go_ret
      exact ⟨false, s, B, L, g, m, rfl, h'.out.1, h'.out.2, Put.refl _, HE.out, by omega, by omega⟩
  · have HM : Hid (Calls Try.prog 32 #[.pointer (some ⟨p, 0, none⟩)] w fun e w' => e = .returned (.bool true) ∧ w' = w) := shmade_yes w p pv h.sh.c0
    have hFr : Hid (Calls Try.prog 43 #[.pointer (some ⟨p, 0, none⟩), .int .u32 va] w fun e w' => e = .returned (.bool false) ∧ w' = w) := by
      obtain ⟨ux, uc, cU, _⟩ := h.sh.cU
      have := shfree_any p va (by omega) ux s.U.length uc w cU
      rwa [decide_eq_false (by rw [List.length_eq_zero_iff]; exact hfree)] at this
    have h' : Hid (ShW w p pv R n d f q M Z s B L g m F ∧ DInv d s B) := ⟨h, dv⟩
    have HE : Hid (PutR n s L va fr x false s L) := PutR.no (fun e => hfree e.1)
    clear h dv hfree
    go_enter Try.func20, Try.ntmps20
    go_wp2_with (first
      | (go_at_call 32; refine HM.out.mono ?_; rintro e wa ⟨rfl, hqa⟩; rw [hqa]; clear hqa wa)
      | (go_at_call 43; refine hFr.out.mono ?_; rintro e wa ⟨rfl, hqa⟩; rw [hqa]; clear hqa wa))
    go_ret
    exact ⟨false, s, B, L, g, m, rfl, h'.out.1, h'.out.2, Put.refl _, HE.out, by omega, by omega⟩
theorem shdrop_any (w : World) (p pv R n d f q M : Nat) (Z : List Int) (s : SD) (B : List Int) (L : List Bool) (g m : Int) (F : List Nat) (h : ShW w p pv R n d f q M Z s B L g m F) (dv : DInv d s B) (va : Nat) (hva : va < 4294967296) :
    Calls Try.prog 21 #[.pointer (some ⟨p, 0, none⟩), .int .u32 va] w fun e w' => ∃ s' B', e = .returned (.tuple #[]) ∧ ShW w' p pv R n d f q M Z s' B' L g m F ∧ DInv d s' B' ∧ Put [p, R, q, M] w w' ∧ s'.D = s.D ∧ s'.U = s.U ∧ s'.E = s.E.set (va / 64) 0 := by
  have HH : Hid (Calls Try.prog 13 #[.pointer (some ⟨p, 0, none⟩), .int .u32 va] w fun e w' => e = .returned (.bool (hasS s va)) ∧ Kep w w') := shhas_any w p pv q d s F h.sh va hva
  have h' : Hid (ShW w p pv R n d f q M Z s B L g m F ∧ DInv d s B) := ⟨h, dv⟩
  by_cases hh : hasS s va = true
  · rw [hh] at HH
    have h2 : va < 32768 ∧ s.D.getD (va / 1024) 0 ≠ 0 := by simpa [hasS] using hh
    have HL : Hid (∀ w1, Kep w w1 → Calls Try.prog 46 #[.pointer (some ⟨p, 0, none⟩), .int .u32 va, .int .u32 0] w1 fun x w' => x = .returned (.tuple #[]) ∧
        ShW w' p pv R n d f q M Z (layS s (va / 64) 0) (layB s d B (va / 64) 0) L g m F ∧ DInv d (layS s (va / 64) 0) (layB s d B (va / 64) 0) ∧ Put [p, R] w1 w') := fun w1 k => shlay_any w1 p pv R n d f q M Z s B L g m F (h'.out.1.kep k) va 0 h2.1 h2.2 (.inl rfl) (fun k hk _ => h'.out.2 k hk)
    clear h dv hh h2
    go_enter Try.func21, Try.ntmps21
    go_wp2_with fail
    refine HH.out.mono ?_
    rintro e w1 ⟨rfl, K1⟩
    have HL1 := HL.out w1 K1
    have K1' : Hid (Kep w w1) := K1
    clear HL K1 HH
    go_wp2_with (go_at_call 46; refine HL1.mono ?_; rintro e w2 ⟨rfl, S2, D2, P2⟩)
    go_end0
    exact ⟨_, _, rfl, S2, D2, (Put.of_kep K1'.out).trans (P2.mono (by simp)), rfl, rfl, rfl⟩
  · have h1 : hasS s va = false := by simpa using hh
    rw [h1] at HH
    have hE : Hid (s.E.set (va / 64) 0 = s.E) := by
      refine getD_ext (by simp) fun j => ?_
      by_cases e : j = va / 64
      · subst e
        by_cases hv : va < 32768
        · rw [gset_eq (by rw [h.inv.lE]; omega)]
          have h0 : s.D.getD (va / 1024) 0 = 0 := by
            unfold hasS at h1
            rw [decide_eq_true hv, Bool.true_and] at h1
            exact Classical.byContradiction fun e => by rw [decide_eq_true e] at h1; cases h1
          have := h.inv.no (va / 1024) (va / 64 % 16) (by omega) (by omega) h0
          rw [show 16 * (va / 1024) + va / 64 % 16 = va / 64 by omega] at this
          exact this.symm
        · have hl := h.inv.lE
          rw [List.set_eq_of_length_le (by rw [hl]; omega)]
      · rw [gset_ne e]
    clear h dv hh h1
    go_enter Try.func21, Try.ntmps21
    go_wp2_with fail
    refine HH.out.mono ?_
    rintro e w1 ⟨rfl, K1⟩
    go_wp2_with fail
    go_end0
    exact ⟨s, B, rfl, h'.out.1.kep K1, h'.out.2, Put.of_kep K1, rfl, rfl, hE.out.symm⟩
end Go.Proofs.Ythgkkjcemjadoaa
