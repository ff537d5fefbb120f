/- Part of a proof. -/
import Derived.Test.YtamffningddgbaaGreatDoorJ20
namespace Go.Proofs.YtamffningddgbaaGreatDoor
open Go.RowKit
set_option linter.unusedVariables false
set_option linter.unusedSimpArgs false
theorem u32_of {a : Int} (h : (Lit.int .u32 a).wf = true) : 0 ≤ a ∧ a < 4294967296 := by
  simp [Lit.wf, IntKind.min, IntKind.max, IntKind.signed, IntKind.bits] at h; omega
theorem setByte_any (w : World) (v : Value) (R : Nat) (ix : List Nat) (B : List Int) (h : Ram w v R ix) (hix : (ix.length : Int) ≤ 512) (hB : RowB w R B) (hf : Fits B ix) (a : Nat) (ha : (a : Int) < 4294967296) (b : Int) :
    Calls Tryz.prog 14 #[v, .int .u32 a, .int .u8 b] w fun e w' => e = .returned (.bool (decide (a < 64 * ix.length))) ∧ w' = if a < 64 * ix.length then w.setCell ⟨R, pos ix a, none⟩ (.int .u8 b) else w := by
  have hc := spotByte_any w v R ix h hix a ha
  have hmf : ∀ (fn : Fn) (first cap : Array Value) (w : World), (Instr.makeFunc fn first cap).run Tryz.prog w = .ok (.func fn first cap) w := fun _ _ _ _ => rfl
  by_cases hl : a < 64 * ix.length
  · rw [if_pos hl] at hc ⊢
    rw [decide_eq_true hl]
    have hp := hf.pos hl
    have c := hB.cell hp.2
    have hfz : w.frozen? ⟨R, pos ix a, none⟩ = false := by
      have := hB (by intro e; subst e; simp at hp)
      simp [World.frozen?, this]
    unfold fromV at hc
    generalize B.getD (pos ix a) 0 = b0 at c
    generalize pos ix a = q at c hc hfz
    have hs : Hid (Calls Tryz.prog 39 #[.int .u32 a, .func (.func 40) #[v] #[], .func (.func 41) #[v] #[]] w fun e w' => e = .returned (.tuple #[.slice (some ⟨R, q, none⟩) (64 - a % 64) (64 - a % 64), .bool true]) ∧ w' = w) := hc
    clear hc h hl hp hf hB ha hix
    have hm : 1 ≤ 64 - a % 64 := by omega
    generalize 64 - a % 64 = m at hm hs
    go_enter Tryz.func14, Tryz.ntmps14
    go_wp2_with (go_at_call 39; refine hs.out.mono ?_; rintro e w1 ⟨rfl, rfl⟩)
    go_ret
    exact ⟨rfl, rfl⟩
  · rw [if_neg hl] at hc ⊢
    rw [decide_eq_false hl]
    have hs : Hid (Calls Tryz.prog 39 #[.int .u32 a, .func (.func 40) #[v] #[], .func (.func 41) #[v] #[]] w fun e w' => e = .returned (.tuple #[.slice none 0 0, .bool false]) ∧ w' = w) := hc
    clear hc h hl hf hB ha hix
    go_enter Tryz.func14, Tryz.ntmps14
    go_wp2_with (go_at_call 39; refine hs.out.mono ?_; rintro e w1 ⟨rfl, rfl⟩)
    go_ret
    exact ⟨rfl, rfl⟩
theorem Byts.set {B : List Int} (h : Byts B) (k : Nat) {b : Int} (h0 : 0 ≤ b) (h1 : b < 256) : Byts (B.set k b) := by
  intro x hx
  rcases List.mem_or_eq_of_mem_set hx with h' | h'
  · exact h x h'
  · subst h'; exact ⟨h0, h1⟩
theorem setByte_put (w : World) (v : Value) (R : Nat) (ix : List Nat) (B : List Int) (h : Ram w v R ix) (hix : (ix.length : Int) ≤ 512) (hB : RowB w R B) (hf : Fits B ix) (a : Nat) (ha : (a : Int) < 4294967296) (b : Int) :
    Calls Tryz.prog 14 #[v, .int .u32 a, .int .u8 b] w fun e w' => e = .returned (.bool (decide (a < 64 * ix.length))) ∧ Put [R] w w' ∧ RowB w' R (if a < 64 * ix.length then B.set (pos ix a) b else B) := by
  refine (setByte_any w v R ix B h hix hB hf a ha b).mono ?_
  rintro e w' ⟨rfl, rfl⟩
  split
  · exact ⟨rfl, (Put.refl _).setCell (by simp) _, hB.set _ _⟩
  · exact ⟨rfl, Put.refl _, hB⟩
end Go.Proofs.YtamffningddgbaaGreatDoor
namespace Go.Proofs.YtamffningddgbaaGreatDoor
open Go.RowKit Go.WideShapes Go.ChangeShapes Go.ChangeAt
set_option linter.unusedVariables false
set_option linter.unusedSimpArgs false
theorem open_arr {H : Type} {enc : TypeId × Value → H} {P : Program} {w : World} {r : Reach} {b0 base : Nat} {sp : Nat → Bool} {held : Bool} {v : Value} {d : DataW H} {p : List MemPlace} {t e : TypeId} {n : Nat} {k : IntKind} (ht : P.underlying t = some (.array n e)) (he : P.underlying e = some (.int k)) (hc : P.cellsOf e = 1) (hn : P.cellsOf t = n)
    (hv : Value.okWide P w r b0 t v) (h : DataW.Trod enc P w base sp held t v d p) : ∃ zs : List Int, zs.length = n ∧ v = .agg (zs.map (Value.int k)).toArray ∧ ∀ z ∈ zs, (Lit.int k z).wf = true := by
  obtain ⟨cs, rfl, hsz⟩ : ∃ cs, v = .agg cs ∧ cs.size = P.cellsOf t := by
    simp only [Value.okWide, ht] at hv
    obtain ⟨cs, h1, h2, _⟩ := hv
    exact ⟨cs, h1, h2⟩
  rw [hn] at hsz
  obtain ⟨fuel, hf⟩ := h
  obtain ⟨xs, m, _, _, hl, hxl, hx⟩ := DataW.trod_array ht hf
  have each : ∀ i, i < n → ∃ z : Int, cs[i]? = some (.int k z) ∧ (Lit.int k z).wf = true := by
    intro i hi
    have h1 := hx i hi
    rw [hc, List.getElem?_eq_getElem (by omega)] at h1
    obtain ⟨z, e1, _, q⟩ := DataW.trod_int he h1
    refine ⟨z, ?_, q⟩
    simp only [Value.cells, Nat.mul_one] at e1
    have := congrArg (fun l => l[0]?) e1
    simpa using this
  obtain ⟨zs, hzs⟩ : ∃ zs : List Int, zs.length = n ∧ ∀ i, i < n → ∃ z, zs[i]? = some z ∧ cs[i]? = some (.int k z) ∧ (Lit.int k z).wf = true := by
    refine ⟨(List.range n).map fun i => if hi : i < n then (each i hi).choose else 0, by simp, fun i hi => ⟨(each i hi).choose, by simp [hi], (each i hi).choose_spec⟩⟩
  refine ⟨zs, hzs.1, ?_, fun z hz => ?_⟩
  · congr 1
    apply Array.ext
    · simp [hzs.1, hsz]
    · intro i h1 h2
      obtain ⟨z, e1, e2, _⟩ := hzs.2 i (by omega)
      have e3 : zs[i]? = some zs[i] := List.getElem?_eq_getElem (by have := hzs.1; omega)
      rw [e3] at e1
      rw [Array.getElem?_eq_getElem h1] at e2
      simp at e1 e2 ⊢
      rw [e1, e2]
  · obtain ⟨i, hi, rfl⟩ := List.mem_iff_getElem.1 hz
    obtain ⟨z, e1, _, e3⟩ := hzs.2 i (by have := hzs.1; omega)
    rw [List.getElem?_eq_getElem hi] at e1
    simp at e1
    rw [e1]; exact e3
end Go.Proofs.YtamffningddgbaaGreatDoor
namespace Go.Proofs.YtamffningddgbaaGreatDoor
open Go.RowKit
set_option linter.unusedVariables false
set_option linter.unusedSimpArgs false
theorem lookF_some {M : Nat → Option Nat} {s root : Nat} {dirs : Int} {va : Nat} {y : Wy} (hM : ∀ a x, M a = some x → x < 4294967296) (h : lookF M s root dirs va = some y) :
    ∃ u z : Nat, ((va / 1024 : Nat) : Int) < dirs ∧ M (dirAt root va) = some u ∧ u % 2 ≠ 0 ∧ M (tabAt u va) = some z ∧ z % 2 ≠ 0 ∧ pageAt z va < s ∧ y = wayOf root va u z ∧ u < 4294967296 ∧ z < 4294967296 := by
  unfold lookF at h
  split at h
  · rename_i hd
    rcases hx : M (dirAt root va) with _ | u
    · rw [hx] at h; cases h
    rw [hx] at h
    unfold look1 at h
    simp only at h
    split at h
    · cases h
    rename_i hu
    rcases hz : M (tabAt u va) with _ | z
    · rw [hz] at h; cases h
    rw [hz] at h
    unfold look2 at h
    simp only at h
    split at h
    · cases h
    rename_i hz2
    unfold look3 at h
    split at h
    · rename_i hs
      exact ⟨u, z, hd, rfl, hu, hz, hz2, hs, (Option.some.inj h).symm, hM _ _ hx, hM _ _ hz⟩
    · cases h
  · cases h
theorem lookF_of {M : Nat → Option Nat} {s root : Nat} {dirs : Int} {va u z : Nat} (hd : ((va / 1024 : Nat) : Int) < dirs) (h1 : M (dirAt root va) = some u) (hu : u % 2 ≠ 0) (h2 : M (tabAt u va) = some z) (hz : z % 2 ≠ 0) (hs : pageAt z va < s) :
    lookF M s root dirs va = some (wayOf root va u z) := by
  unfold lookF
  rw [if_pos hd, h1]
  unfold look1
  simp only
  rw [if_neg hu, h2]
  unfold look2
  simp only
  rw [if_neg hz]
  unfold look3
  rw [if_pos hs]
theorem wdF_byte {B : List Int} {n q p : Nat} {v : Int} (hp : p / 64 ≠ q / 64) : wdF (B.set q v) (List.range n) p = wdF B (List.range n) p := by
  unfold wdF
  by_cases h : p % 4 = 0 ∧ p < 64 * (List.range n).length
  · rw [if_pos h, if_pos h]
    rw [List.length_range] at h
    rw [pos_range h.2]
    have e : ∀ k, k < 4 → (B.set q v).getD (p + k) 0 = B.getD (p + k) 0 := by
      intro k hk
      simp only [List.getD_eq_getElem?_getD, List.getElem?_set]
      rw [if_neg (by omega)]
    unfold wordAt
    rw [e 1 (by omega), e 2 (by omega), e 3 (by omega)]
    have e0 := e 0 (by omega)
    rw [Nat.add_zero] at e0
    rw [e0]
  · rw [if_neg h, if_neg h]
theorem look_byte {B : List Int} {n root : Nat} {dirs : Int} {va q : Nat} {v : Int} {y : Wy} (hb : Byts B) (h : lookF (wdF B (List.range n)) (64 * n) root dirs va = some y) (h1 : y.dir ≠ q / 64) (h2 : y.tab ≠ q / 64) :
    lookF (wdF (B.set q v) (List.range n)) (64 * n) root dirs va = some y := by
  obtain ⟨u, z, hd, hu, hu2, hz, hz2, hs, rfl, _, _⟩ := lookF_some (fun a x => wdF_lt hb a x) h
  exact lookF_of hd ((wdF_byte h1).trans hu) hu2 ((wdF_byte h2).trans hz) hz2 hs
theorem rdB_byte {B : List Int} {n q p : Nat} {v : Int} (hp : p / 64 ≠ q / 64) : rdB (B.set q v) (List.range n) p = rdB B (List.range n) p := by
  unfold rdB
  by_cases h : p < 64 * (List.range n).length
  · rw [if_pos h, if_pos h]
    rw [List.length_range] at h
    rw [pos_range h]
    simp only [List.getD_eq_getElem?_getD, List.getElem?_set]
    rw [if_neg (by omega)]
  · rw [if_neg h, if_neg h]
def Clr (s : Sta) (f : Nat) (y : Wy) : Prop := y.page ≠ f ∧ (pgB s = true → y.dir ≠ f ∧ y.tab ≠ f)
theorem way_page {M : Nat → Option Nat} {s root : Nat} {dirs : Int} {va : Nat} {y : Wy} (h : lookF M s root dirs va = some y) : y.page = y.at_ / 64 := by
  unfold lookF at h
  split at h
  · unfold look1 at h
    split at h
    · cases h
    · split at h
      · cases h
      · unfold look2 at h
        split at h
        · cases h
        · split at h
          · cases h
          · unfold look3 at h
            split at h
            · cases h; rfl
            · cases h
  · cases h
theorem led_byte {B : List Int} {n q : Nat} {v : Int} {s : Sta} {a : Int} {p : Nat} (hb : Byts B) (h : ledF B (List.range n) s a 1 = some p) (hc : Clr s (q / 64) ((wyF B (List.range n) s a).getD wy0)) :
    ledF (B.set q v) (List.range n) s a 1 = some p ∧ wyF (B.set q v) (List.range n) s a = wyF B (List.range n) s a ∧ p / 64 ≠ q / 64 := by
  cases hp : pgB s with
  | false =>
    have e : ledF (B.set q v) (List.range n) s a 1 = ledF B (List.range n) s a 1 := by
      have hp' : ¬ s.ps.toNat / 4 % 2 = 1 := by unfold pgB at hp; simpa using hp
      unfold ledF toF
      rw [if_neg hp', if_neg hp']
    have h' := e.trans h
    rw [wyF_flat h hp] at hc ⊢
    rw [wyF_flat h' hp]
    exact ⟨h', rfl, hc.1⟩
  | true =>
    obtain ⟨y, hy, ha⟩ := ledF_page h hp
    have hw := wyF_page h hp
    rw [hw, hy] at hc
    simp only [Option.getD_some] at hc
    obtain ⟨c1, c2⟩ := hc
    obtain ⟨c2, c3⟩ := c2 hp
    rw [List.length_range] at hy
    have hy' := look_byte (v := v) hb hy c2 c3
    have h' : ledF (B.set q v) (List.range n) s a 1 = some p := by
      unfold ledF toF at h ⊢
      have hp' : s.ps.toNat / 4 % 2 = 1 := by unfold pgB at hp; simpa using hp
      rw [if_pos hp'] at h ⊢
      rw [List.length_range] at h ⊢
      rw [hy] at h
      rw [hy']
      exact h
    refine ⟨h', ?_, ?_⟩
    · rw [wyF_page h' hp, wyF_page h hp, List.length_range, hy, hy']
    · rw [← ha, ← way_page hy]; exact c1
theorem byt_byte {B : List Int} {n q : Nat} {v : Int} {s : Sta} {k : Nat} (hb : Byts B) (h : (bytF B (List.range n) s k).isSome = true) (hc : Clr s (q / 64) (srAt B (List.range n) s k).2) :
    bytF (B.set q v) (List.range n) s k = bytF B (List.range n) s k ∧ srAt (B.set q v) (List.range n) s k = srAt B (List.range n) s k := by
  unfold bytF at h
  rw [Option.isSome_map] at h
  obtain ⟨p, hp⟩ := Option.isSome_iff_exists.1 h
  obtain ⟨h1, h2, h3⟩ := led_byte (v := v) hb hp hc
  unfold bytF srAt
  rw [h1, hp, h2]
  refine ⟨?_, rfl⟩
  show some (rdB (B.set q v) (List.range n) p) = some (rdB B (List.range n) p)
  rw [rdB_byte h3]
theorem fet_byte {B : List Int} {n q : Nat} {v : Int} {s : Sta} (hb : Byts B) (h : (fetF B (List.range n) s).1 = 0) (hc : ∀ k, k < fetN B (List.range n) s → Clr s (q / 64) (srAt B (List.range n) s k).2) :
    fetF (B.set q v) (List.range n) s = fetF B (List.range n) s ∧ fetR (B.set q v) (List.range n) s = fetR B (List.range n) s ∧ fetN (B.set q v) (List.range n) s = fetN B (List.range n) s ∧
    fetZ (B.set q v) (List.range n) s = fetZ B (List.range n) s ∧ srF (B.set q v) (List.range n) s = srF B (List.range n) s := by
  obtain ⟨_, h1, h6, hall⟩ := fet_all h
  have hk : ∀ k, k < fetN B (List.range n) s → bytF (B.set q v) (List.range n) s k = bytF B (List.range n) s k ∧ srAt (B.set q v) (List.range n) s k = srAt B (List.range n) s k := fun k hk => byt_byte hb (hall k hk) (hc k hk)
  have e0 := (hk 0 (by omega)).1
  have eR : fetR (B.set q v) (List.range n) s = fetR B (List.range n) s := by unfold fetR; rw [e0]
  have eN : fetN (B.set q v) (List.range n) s = fetN B (List.range n) s := by unfold fetN; rw [eR]
  have eZ : fetZ (B.set q v) (List.range n) s = fetZ B (List.range n) s := by
    unfold fetZ zsF
    rw [eN]
    apply List.map_congr_left
    intro k hm
    rw [(hk k (List.mem_range.1 hm)).1]
  have eB : badF (B.set q v) (List.range n) s (fetN B (List.range n) s) = badF B (List.range n) s (fetN B (List.range n) s) := by
    rw [bad_none hall, bad_none (fun j hj => by rw [(hk j hj).1]; exact hall j hj)]
  refine ⟨?_, eR, eN, eZ, ?_⟩
  · unfold fetF
    rw [e0, eR, eN, eZ, eB]
  · unfold srF srN
    rw [eN]
    apply List.map_congr_left
    intro k hm
    exact (hk k (List.mem_range.1 hm)).2
theorem one_byte {B : List Int} {n q : Nat} {v : Int} {s : Sta} {x : SB} (hb : Byts B) (h : (fetF B (List.range n) (s.go x.n)).1 = 0) (hc : ∀ r ∈ srF B (List.range n) (s.go x.n), Clr s (q / 64) r.2) :
    x.one (B.set q v) (List.range n) s = x.one B (List.range n) s ∧ x.stop (B.set q v) (List.range n) s = x.stop B (List.range n) s ∧ (fetF (B.set q v) (List.range n) (s.go x.n)).1 = 0 := by
  have hc' : ∀ k, k < fetN B (List.range n) (s.go x.n) → Clr (s.go x.n) (q / 64) (srAt B (List.range n) (s.go x.n) k).2 := fun k hk => hc _ (List.mem_map.2 ⟨k, List.mem_range.2 hk, rfl⟩)
  obtain ⟨e1, e2, e3, e4, e5⟩ := fet_byte (v := v) hb h hc'
  refine ⟨?_, ?_, ?_⟩
  · unfold SB.one insF4 fetO fetA fetB fetM
    rw [e2, e3, e4, e5]
  · unfold SB.stop
    rw [e1, e5]
  · rw [e1]; exact h
theorem run_preR (B : List Int) (ix : List Nat) (s : Sta) : ∀ (k : Nat) (x : SB), x.R <+: (SB.run B ix s k x).R
  | 0, x => List.prefix_refl _
  | k + 1, x => by
    cases h : x.stop B ix s with
    | true => rw [run_stop _ h]; exact List.prefix_refl _
    | false =>
      rw [run_on _ h]
      have h1 : x.R <+: (x.one B ix s).R := ⟨_, rfl⟩
      split
      · exact h1.trans (run_preR B ix s k _)
      · exact h1
theorem run_byte {B : List Int} {n q : Nat} {v : Int} {s : Sta} (hb : Byts B) : ∀ (k : Nat) (x : SB), (∀ r ∈ (SB.run B (List.range n) s k x).R, Clr s (q / 64) r.2) →
    (SB.run B (List.range n) s k x).I <+: (SB.run (B.set q v) (List.range n) s k x).I ∧ (SB.run B (List.range n) s k x).A <+: (SB.run (B.set q v) (List.range n) s k x).A
  | 0, x, _ => ⟨List.prefix_refl _, List.prefix_refl _⟩
  | k + 1, x, hc => by
    cases h : x.stop B (List.range n) s with
    | true => rw [run_stop _ h]; exact run_pre _ _ _ _ _
    | false =>
      rw [run_on _ h] at hc ⊢
      have hf : (fetF B (List.range n) (s.go x.n)).1 = 0 := by
        unfold SB.stop at h
        simp at h
        exact h.1
      have hR : x.R ++ srF B (List.range n) (s.go x.n) <+: (if (x.one B (List.range n) s).e = 1 then SB.run B (List.range n) s k (x.one B (List.range n) s) else x.one B (List.range n) s).R := by
        split
        · exact run_preR B (List.range n) s k (x.one B (List.range n) s)
        · exact List.prefix_refl _
      have hc1 : ∀ r ∈ srF B (List.range n) (s.go x.n), Clr s (q / 64) r.2 := fun r hr => hc r (hR.subset (List.mem_append_right _ hr))
      obtain ⟨e1, e2, _⟩ := one_byte (v := v) hb hf hc1
      rw [run_on k (e2.trans h), e1]
      split
      · rename_i he
        rw [if_pos he] at hc
        exact run_byte hb k _ hc
      · exact ⟨List.prefix_refl _, List.prefix_refl _⟩
theorem scn_byte {B : List Int} {n q : Nat} {v : Int} {s : Sta} (hb : Byts B) (hx : (n : Int) ≤ 512) (ok : s.Ok) (m : Int) (h : (fetF B (List.range n) s).1 = 0)
    (hF : ∀ z ∈ fmL (scnB B (List.range n) s m).R, z ≠ ((q / 64 : Nat) : Int)) (hT : ∀ z ∈ scnT s (scnB B (List.range n) s m), z ≠ ((q / 64 : Nat) : Int)) :
    (fetF (B.set q v) (List.range n) s).1 = 0 ∧ (scnB B (List.range n) s m).I <+: (scnB (B.set q v) (List.range n) s m).I ∧ (scnB B (List.range n) s m).A <+: (scnB (B.set q v) (List.range n) s m).A := by
  have hc : ∀ r ∈ (scnB B (List.range n) s m).R, Clr s (q / 64) r.2 := by
    intro r hr
    refine ⟨fun e => ?_, fun hp => ⟨fun e => ?_, fun e => ?_⟩⟩
    · refine hF (r.2.page : Int) ?_ (by rw [e])
      unfold fmL; rw [risL_mem]; exact List.mem_map.2 ⟨r, hr, rfl⟩
    · refine hT (r.2.dir : Int) ?_ (by rw [e])
      unfold scnT; rw [if_pos hp]; unfold tbL; rw [risL_mem]; exact List.mem_flatMap.2 ⟨r, hr, by simp⟩
    · refine hT (r.2.tab : Int) ?_ (by rw [e])
      unfold scnT; rw [if_pos hp]; unfold tbL; rw [risL_mem]; exact List.mem_flatMap.2 ⟨r, hr, by simp⟩
  obtain ⟨a, b⟩ := run_byte (v := v) hb (mstN m) (sb0 s) hc
  refine ⟨?_, a, b⟩
  have hs : (sb0 s).stop B (List.range n) s = false := stop_not (x := sb0 s) h (by have := first_two (ix := List.range n) (by simpa using hx) ok h; simp [sb0] at this ⊢; omega)
  have h1 : 1 ≤ mstN m := by unfold mstN; omega
  obtain ⟨k, hk⟩ : ∃ k, mstN m = k + 1 := ⟨mstN m - 1, by omega⟩
  have hR : srF B (List.range n) (s.go s.pc) <+: (scnB B (List.range n) s m).R := by
    unfold scnB
    rw [hk, run_on k hs]
    split
    · exact run_preR B (List.range n) s k ((sb0 s).one B (List.range n) s)
    · exact List.prefix_refl _
  have := (one_byte (v := v) (x := sb0 s) hb h (fun r hr => hc r (hR.subset hr))).2.2
  exact this
end Go.Proofs.YtamffningddgbaaGreatDoor
