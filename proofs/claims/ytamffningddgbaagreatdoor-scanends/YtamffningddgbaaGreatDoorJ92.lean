/- Part of a proof. -/
import Derived.Test.YtamffningddgbaaGreatDoorJ20
import Derived.Deep.MidRow
import Derived.WalkKit
import Derived.BigQuiet
namespace Go.Proofs.YtamffningddgbaaGreatDoor
open Go.RowKit
set_option linter.unusedVariables false
set_option linter.unusedSimpArgs false
theorem wyF_iff {B : List Int} {ix : List Nat} {s : Sta} {a : Int} : (wyF B ix s a).isSome = (ledF B ix s a 1).isSome := by unfold wyF; cases ledF B ix s a 1 <;> rfl
theorem look_page (M : Nat → Option Nat) (n root : Nat) (dirs : Int) (va pl : Nat) (hp : pl < 64) (hM : ∀ a x, M a = some x → x < 4294967296) :
    (lookF M (64 * n) root dirs va = none ∧ lookF M (64 * n) root dirs (va - va % 64 + pl) = none) ∨
    ∃ b e d t q : Nat, lookF M (64 * n) root dirs va = some ⟨b, 64 * q + va % 64, e, d, t, q⟩ ∧ lookF M (64 * n) root dirs (va - va % 64 + pl) = some ⟨b, 64 * q + pl, e, d, t, q⟩ ∧ 64 * q + 63 < 4294967296 := by
  have e1 : (va - va % 64 + pl) / 1024 = va / 1024 := by omega
  have e2 : (va - va % 64 + pl) / 64 % 16 = va / 64 % 16 := by omega
  have e3 : (va - va % 64 + pl) % 64 = pl := by omega
  have d1 : dirAt root (va - va % 64 + pl) = dirAt root va := by unfold dirAt; rw [e1]
  have d2 : ∀ x, tabAt x (va - va % 64 + pl) = tabAt x va := fun x => by unfold tabAt; rw [e2]
  unfold lookF
  rw [e1, d1]
  by_cases hd : ((va / 1024 : Nat) : Int) < dirs
  · rw [if_pos hd, if_pos hd]
    rcases hx : M (dirAt root va) with _ | x
    · exact .inl ⟨rfl, rfl⟩
    unfold look1
    simp only
    by_cases hx2 : x % 2 = 0
    · rw [if_pos hx2, if_pos hx2]; exact .inl ⟨rfl, rfl⟩
    rw [if_neg hx2, if_neg hx2, d2]
    rcases hy : M (tabAt x va) with _ | y
    · exact .inl ⟨rfl, rfl⟩
    unfold look2
    simp only
    by_cases hy2 : y % 2 = 0
    · rw [if_pos hy2, if_pos hy2]; exact .inl ⟨rfl, rfl⟩
    rw [if_neg hy2, if_neg hy2]
    have hy0 := hM _ _ hy
    have p1 : pageAt y va = 64 * (y / 64) + va % 64 := by unfold pageAt; omega
    have p2 : pageAt y (va - va % 64 + pl) = 64 * (y / 64) + pl := by unfold pageAt; rw [e3]; omega
    unfold look3 wayOf
    rw [p1, p2, d1, d2]
    by_cases hs : 64 * (y / 64) + va % 64 < 64 * n
    · rw [if_pos hs, if_pos (by omega)]
      refine .inr ⟨joinN x y, tabAt x va, dirAt root va / 64, tabAt x va / 64, y / 64, ?_, ?_, by omega⟩
      · rw [show (64 * (y / 64) + va % 64) / 64 = y / 64 by omega]
      · rw [show (64 * (y / 64) + pl) / 64 = y / 64 by omega]
    · rw [if_neg hs, if_neg (by omega)]
      exact .inl ⟨rfl, rfl⟩
  · rw [if_neg hd, if_neg hd]
    exact .inl ⟨rfl, rfl⟩
def WayOk (B : List Int) (ix : List Nat) (s : Sta) (r : Sr) : Prop := 0 ≤ r.1 ∧ r.1 < 4294967296 ∧ ∃ y, wyF B ix s r.1 = some y ∧ r.2 = y
theorem srAt_ok {B : List Int} {ix : List Nat} {s : Sta} {k : Nat} (h : (bytF B ix s k).isSome = true) : WayOk B ix s (srAt B ix s k) := by
  have hp := plc_range s k
  refine ⟨hp.1, hp.2, ?_⟩
  unfold bytF at h
  rw [Option.isSome_map] at h
  obtain ⟨q, hq⟩ := Option.isSome_iff_exists.1 h
  obtain ⟨y, hy, _⟩ := wyF_at hq
  have e : srAt B ix s k = (plc s k, (wyF B ix s (plc s k)).getD wy0) := rfl
  rw [e]
  exact ⟨y, hy, by rw [hy]; rfl⟩
theorem srF_ok {B : List Int} {ix : List Nat} {s : Sta} {n : Int} (h : (fetF B ix (s.go n)).1 = 0) : ∀ r ∈ srF B ix (s.go n), WayOk B ix s r := by
  intro r hr
  obtain ⟨k, hk, rfl⟩ := List.mem_map.1 hr
  obtain ⟨_, _, _, hall⟩ := fet_all h
  exact srAt_ok (s := s.go n) (hall k (List.mem_range.1 hk))
theorem page_one {B : List Int} {n : Nat} {s : Sta} (hb : Byts B) {r r' : Sr} (h : WayOk B (List.range n) s r) (h' : WayOk B (List.range n) s r') (e : r.1 / 64 = r'.1 / 64) : r.2.page = r'.2.page := by
  obtain ⟨h0, h1, y, hy, ey⟩ := h
  obtain ⟨h0', h1', y', hy', ey'⟩ := h'
  rw [ey, ey']
  have q := wyF_iff (B := B) (ix := List.range n) (s := s) (a := r.1)
  have q' := wyF_iff (B := B) (ix := List.range n) (s := s) (a := r'.1)
  rw [hy] at q
  rw [hy'] at q'
  obtain ⟨p, hp⟩ := Option.isSome_iff_exists.1 q.symm
  obtain ⟨p', hp'⟩ := Option.isSome_iff_exists.1 q'.symm
  cases hg : pgB s with
  | false =>
    rw [wyF_flat hp hg] at hy
    rw [wyF_flat hp' hg] at hy'
    cases hy; cases hy'
    have hg' : ¬ s.ps.toNat / 4 % 2 = 1 := by unfold pgB at hg; simpa using hg
    have f : ∀ {a : Int} {z : Nat}, ledF B (List.range n) s a 1 = some z → z = a.toNat := by
      intro a z hz
      unfold ledF toF at hz
      rw [if_neg hg'] at hz
      split at hz
      · cases hz; rfl
      · cases hz
    have f1 := f hp
    have f2 := f hp'
    show p / 64 = p' / 64
    omega
  | true =>
    rw [wyF_page hp hg, List.length_range] at hy
    rw [wyF_page hp' hg, List.length_range] at hy'
    have e2 : r'.1.toNat = r.1.toNat - r.1.toNat % 64 + r'.1.toNat % 64 := by omega
    rw [e2] at hy'
    rcases look_page (wdF B (List.range n)) n (s.c 0).toNat 16 r.1.toNat (r'.1.toNat % 64) (by omega) (fun a x => wdF_lt hb a x) with ⟨u, _⟩ | ⟨b, ee, d, t, q, u, v, _⟩
    · rw [hy] at u; cases u
    · rw [hy] at u
      rw [hy'] at v
      cases u; cases v; rfl
structure Whole (B : List Int) (ix : List Nat) (s : Sta) (x : SB) : Prop where
  op : ∀ e ∈ x.I, 0 ≤ e.1 ∧ e.1 < 256
  e1 : ∀ j e, x.I[j]? = some e → j + 1 < x.I.length → endI e.1 = 1
  e2 : ∀ e, x.I[x.I.length - 1]? = some e → endI e.1 = x.e
  a0 : ∀ a, x.A[0]? = some a → a = s.pc
  n0 : x.A = [] → x.n = s.pc
  a1 : ∀ j a b, x.A[j]? = some a → x.A[j + 1]? = some b → (b - a) % 4294967296 ≤ 6
  n1 : ∀ a, x.A[x.A.length - 1]? = some a → (x.n - a) % 4294967296 ≤ 6
  ar : ∀ a ∈ x.A, 0 ≤ a ∧ a < 4294967296
  nr : 0 ≤ x.n ∧ x.n < 4294967296
  len : x.I.length = x.A.length
  pg : (pgL x.R).length ≤ 2
  wy : ∀ r ∈ x.R, WayOk B ix s r
  r1 : x.I ≠ [] → x.R ≠ []
theorem whole_zero (B : List Int) (ix : List Nat) {s : Sta} (ok : s.Ok) : Whole B ix s (sb0 s) :=
  ⟨by simp [sb0], by simp [sb0], by simp [sb0], by simp [sb0], fun _ => rfl, by simp [sb0], by simp [sb0], by simp [sb0], ok.pc, rfl, by simp [sb0, pgL, risL], by simp [sb0], by simp [sb0]⟩
theorem at_snoc {α : Type} {l : List α} {a b : α} {j : Nat} (h : (l ++ [a])[j]? = some b) : (j < l.length ∧ l[j]? = some b) ∨ (j = l.length ∧ b = a) := by
  rcases Nat.lt_or_ge j l.length with hj | hj
  · rw [List.getElem?_append_left hj] at h; exact .inl ⟨hj, h⟩
  · rw [List.getElem?_append_right hj] at h
    rcases Nat.eq_or_lt_of_le hj with e | e
    · subst e; simp at h; exact .inr ⟨rfl, h.symm⟩
    · rw [List.getElem?_eq_none (by simp; omega)] at h; cases h
theorem Whole.one {B : List Int} {n : Nat} {s : Sta} {x : SB} (hb : Byts B) (W : Whole B (List.range n) s x) (hs : x.stop B (List.range n) s = false) (he : x.I = [] ∨ x.e = 1) : Whole B (List.range n) s (x.one B (List.range n) s) := by
  have hf : (fetF B (List.range n) (s.go x.n)).1 = 0 ∧ (pgL (x.R ++ srF B (List.range n) (s.go x.n))).length ≤ 2 := by
    unfold SB.stop at hs; simp at hs; exact hs
  obtain ⟨hf, hp⟩ := hf
  obtain ⟨_, h1, h6, _⟩ := fet_all hf
  have ho := fetO_range hb (List.range n) (s.go x.n)
  have hn := W.nr
  have hI : (x.one B (List.range n) s).I = x.I ++ [insF4 B (List.range n) (s.go x.n)] := rfl
  have hA : (x.one B (List.range n) s).A = x.A ++ [x.n] := rfl
  have hR : (x.one B (List.range n) s).R = x.R ++ srF B (List.range n) (s.go x.n) := rfl
  have hN : (x.one B (List.range n) s).n = (x.n + fetN B (List.range n) (s.go x.n)) % 4294967296 := rfl
  have hE : (x.one B (List.range n) s).e = endI (fetO B (List.range n) (s.go x.n)) := rfl
  have hl : (srF B (List.range n) (s.go x.n)).length = fetN B (List.range n) (s.go x.n) := srN_len _ _ _ _
  refine ⟨?_, ?_, ?_, ?_, ?_, ?_, ?_, ?_, ?_, ?_, ?_, ?_, ?_⟩
  · intro e hm
    rw [hI] at hm
    rcases List.mem_append.1 hm with h | h
    · exact W.op e h
    · simp at h; subst h; exact ho
  · intro j e hj hlt
    rw [hI] at hj hlt
    simp at hlt
    rcases at_snoc hj with ⟨hj1, hj2⟩ | ⟨hj1, _⟩
    · by_cases hl2 : j + 1 < x.I.length
      · exact W.e1 j e hj2 hl2
      · have : j = x.I.length - 1 := by omega
        subst this
        rw [W.e2 e hj2]
        rcases he with h | h
        · rw [h] at hj1; simp at hj1
        · exact h
    · omega
  · intro e hj
    rw [hI] at hj
    simp at hj
    subst hj
    rw [hE]; rfl
  · intro a ha
    rw [hA] at ha
    rcases at_snoc ha with ⟨_, h⟩ | ⟨h, h'⟩
    · exact W.a0 a h
    · rw [h']; exact W.n0 (List.length_eq_zero_iff.1 h.symm)
  · intro h; rw [hA] at h; simp at h
  · intro j a b h h'
    rw [hA] at h h'
    rcases at_snoc h' with ⟨q1, q2⟩ | ⟨q1, q2⟩
    · rw [List.getElem?_append_left (by omega)] at h
      exact W.a1 j a b h q2
    · rw [List.getElem?_append_left (by omega)] at h
      have e : j = x.A.length - 1 := by omega
      rw [e] at h
      rw [q2]
      exact W.n1 a h
  · intro a h
    rw [hA] at h
    simp at h
    subst h
    rw [hN]; omega
  · intro a h
    rw [hA] at h
    rcases List.mem_append.1 h with h | h
    · exact W.ar a h
    · simp at h; subst h; exact hn
  · rw [hN]; omega
  · rw [hI, hA]; simp [W.len]
  · rw [hR]; exact hp
  · intro r hr
    rw [hR] at hr
    rcases List.mem_append.1 hr with h | h
    · exact W.wy r h
    · exact srF_ok hf r h
  · intro _ e
    rw [hR] at e
    have := congrArg List.length e
    rw [List.length_append, hl] at this
    simp at this; omega
theorem Whole.run {B : List Int} {n : Nat} {s : Sta} (hb : Byts B) : ∀ (k : Nat) (x : SB), Whole B (List.range n) s x → (x.I = [] ∨ x.e = 1) → Whole B (List.range n) s (SB.run B (List.range n) s k x) ∧ (SB.run B (List.range n) s k x).I.length ≤ x.I.length + k
  | 0, x, W, _ => ⟨W, Nat.le_refl _⟩
  | k + 1, x, W, he => by
    cases h : x.stop B (List.range n) s with
    | true => rw [run_stop _ h]; exact ⟨W, by omega⟩
    | false =>
      rw [run_on _ h]
      have W1 := W.one hb h he
      have hl : (x.one B (List.range n) s).I.length = x.I.length + 1 := by rw [one_I]; simp
      split
      · rename_i h1
        obtain ⟨a, b⟩ := Whole.run hb k _ W1 (.inr h1)
        exact ⟨a, by omega⟩
      · exact ⟨W1, by omega⟩
theorem two_of {l : List Int} (h : l.length ≤ 2) : ∃ a b, ∀ z ∈ l, z = a ∨ z = b := by
  match l, h with
  | [], _ => exact ⟨0, 0, by simp⟩
  | [x], _ => exact ⟨x, x, by simp⟩
  | [x, y], _ => exact ⟨x, y, by simp⟩
theorem frames_two {B : List Int} {n : Nat} {s : Sta} {x : SB} (hb : Byts B) (W : Whole B (List.range n) s x) : (fmL x.R).length ≤ 2 := by
  obtain ⟨a, b, hab⟩ := two_of W.pg
  have hpg : ∀ r ∈ x.R, r.1 / 64 = a ∨ r.1 / 64 = b := fun r hr => hab _ (by unfold pgL; rw [risL_mem]; exact List.mem_map.2 ⟨r, hr, rfl⟩)
  have rep : ∀ c : Int, ∃ f : Int, ∀ r ∈ x.R, r.1 / 64 = c → (r.2.page : Int) = f := by
    intro c
    by_cases h : ∃ r ∈ x.R, r.1 / 64 = c
    · obtain ⟨r0, h0, e0⟩ := h
      exact ⟨r0.2.page, fun r hr e => by rw [page_one hb (W.wy r hr) (W.wy r0 h0) (by rw [e, e0])]⟩
    · exact ⟨0, fun r hr e => absurd ⟨r, hr, e⟩ h⟩
  obtain ⟨f, hf⟩ := rep a
  obtain ⟨g, hg⟩ := rep b
  refine rise_two (a := f) (b := g) _ (risL_rise _) fun z hz => ?_
  unfold fmL at hz
  rw [risL_mem] at hz
  obtain ⟨r, hr, rfl⟩ := List.mem_map.1 hz
  rcases hpg r hr with h | h
  · exact .inl (hf r hr h)
  · exact .inr (hg r hr h)
theorem ris_pos {l : List Int} (h : l ≠ []) : 1 ≤ (risL l).length := by
  obtain ⟨a, ha⟩ := List.exists_mem_of_ne_nil l h
  have : a ∈ risL l := (risL_mem a l).2 ha
  exact List.length_pos_of_mem this
theorem scn_ends {B : List Int} {n : Nat} {s : Sta} (hb : Byts B) (hx : (n : Int) ≤ 512) (ok : s.Ok) (m : Int) (h : (fetF B (List.range n) s).1 = 0) :
    Whole B (List.range n) s (scnB B (List.range n) s m) ∧ 1 ≤ (scnB B (List.range n) s m).I.length ∧ (scnB B (List.range n) s m).I.length ≤ 32 ∧ ((1 : Int) < (scnB B (List.range n) s m).I.length → ((scnB B (List.range n) s m).I.length : Int) ≤ m) ∧
    1 ≤ (fmL (scnB B (List.range n) s m).R).length ∧ (fmL (scnB B (List.range n) s m).R).length ≤ 2 ∧ (pgB s = false ↔ (scnT s (scnB B (List.range n) s m)).length = 0) := by
  have hs : (sb0 s).stop B (List.range n) s = false := stop_not (x := sb0 s) h (by have := first_two (ix := List.range n) (by simpa using hx) ok h; simp [sb0] at this ⊢; omega)
  have h1 : 1 ≤ mstN m := by unfold mstN; omega
  obtain ⟨k, hk⟩ : ∃ k, mstN m = k + 1 := ⟨mstN m - 1, by omega⟩
  obtain ⟨W, hl⟩ := Whole.run (n := n) hb (mstN m) (sb0 s) (whole_zero B _ ok) (.inl rfl)
  have hI : [insF4 B (List.range n) (s.go s.pc)] <+: (scnB B (List.range n) s m).I := by
    unfold scnB
    rw [hk, run_on k hs]
    have e : ((sb0 s).one B (List.range n) s).I = [insF4 B (List.range n) (s.go s.pc)] := rfl
    split
    · rw [← e]; exact (run_pre B (List.range n) s k ((sb0 s).one B (List.range n) s)).1
    · rw [← e]; exact List.prefix_refl _
  have hpos : 1 ≤ (scnB B (List.range n) s m).I.length := by have := hI.length_le; simpa using this
  have hne : (scnB B (List.range n) s m).I ≠ [] := by intro e; rw [e] at hpos; simp at hpos
  have hR : (scnB B (List.range n) s m).R ≠ [] := W.r1 hne
  have hlen : (scnB B (List.range n) s m).I.length ≤ mstN m := by have : (sb0 s).I.length = 0 := rfl; unfold scnB; omega
  refine ⟨W, hpos, ?_, ?_, ?_, frames_two hb W, ?_⟩
  · unfold mstN at hlen; omega
  · intro q; unfold mstN at hlen; omega
  · refine ris_pos ?_
    intro q
    exact hR (List.map_eq_nil_iff.1 q)
  · unfold scnT
    constructor
    · intro e; rw [e]; rfl
    · intro e
      cases hp : pgB s with
      | false => rfl
      | true =>
        rw [hp, if_pos rfl] at e
        have : 1 ≤ (tbL (scnB B (List.range n) s m).R).length := by
          refine ris_pos ?_
          obtain ⟨r, hr⟩ := List.exists_mem_of_ne_nil _ hR
          intro q
          have : (r.2.dir : Int) ∈ (scnB B (List.range n) s m).R.flatMap fun x => [(x.2.dir : Int), (x.2.tab : Int)] := List.mem_flatMap.2 ⟨r, hr, by simp⟩
          rw [q] at this; simp at this
        omega
theorem sta_midd {w : World} {g : Nat} {fr : Int} {vi vc : Value} {en : Int} {s : Sta} {vs vd : Value} (h : w.heap[g]? = some (.cells (gstV fr vi vc en s vs vd) 31 (0, 0))) : w.rangeAt g 4 s.v.toList := fun j v hv => by
  have hj : j < 19 := (List.getElem?_eq_some_iff.1 hv).1
  rw [cell_of_block h]
  have e : (gstV fr vi vc en s vs vd).toList = [.int .i64 fr, vi, vc, .int .u16 en] ++ (s.v.toList ++ [vs, vd]) := rfl
  rw [← Array.getElem?_toList, e, List.getElem?_append_right (by simp), List.getElem?_append_left (by show 4 + j - 4 < 19; omega)]
  show s.v.toList[4 + j - 4]? = some v
  rw [Nat.add_sub_cancel_left]; exact hv
theorem load_sta19 {ops : Array Oper} {rest : List Oper} {op : Oper} {a : Act} {w : World} {Q : Exit → Act → World → Prop} (hgd : op.guard = none) (x : Operand) (ho : op.op = .load 28 x)
    (b o : Nat) (hx : a.eval x = .pointer (some ⟨b, o, none⟩)) (s : Sta) (hc : w.rangeAt b o s.v.toList)
    (h : wpList Tryz.prog ops Q rest (a.put op.dst (.agg s.v)) w) : wpList Tryz.prog ops Q (op :: rest) a w :=
  wpList_load_mid hgd 28 x ho b o hx s.v.toList _ hc Tryz.underlying28 rfl size_sta h
theorem quiet_mid19 {P : Program} {ops : Array Oper} {C : World → Prop} {Q : Act → Prop} {a : Act} {o : Oper} {rest : List Oper} (ty : TypeId) (x : Operand) (ho : o.op = .load ty x) (b k : Nat) (hx : a.eval x = .pointer (some ⟨b, k, none⟩)) (hw : Region.wanted o (yielded ops a.tmps) = true)
    (cs : List Value) (d : TypeDesc) (hC : ∀ w, C w → w.rangeAt b k cs) (hu : P.underlying ty = some d) (hd : d.isRow = true) (hi : (P.info? ty).map (·.size) = some cs.length)
    (h : wpQuiet P ops C Q rest (a.put o.dst (.agg cs.toArray))) : wpQuiet P ops C Q (o :: rest) a :=
  wpQuiet_step fun K hK => by
    rw [if_pos hw]
    refine ⟨.agg cs.toArray, fun w hc => ?_, hK _ h⟩
    unfold Oper.quietAt execOp
    simp only [ho, hx, Instr.loadAt, Instr.sureAddr, Sem.run_bind, Sem.run_pure, Result.andThen_ok, run_loadVar_mid w b k ty cs d (hC w hc) hu hd hi]
    exact ⟨rfl, rfl⟩
theorem kcell19 {W w' : World} (h : Kep W w') {b o : Nat} {v : Value} (hc : W.cell? ⟨b, o, none⟩ = some v) : w'.cell? ⟨b, o, none⟩ = some v := (h.cell (World.block_lt_of_cell? W _ hc)).trans hc
theorem lies_in19 {w : World} {x : Option Addr} {C : List In4} (h : Lies w x (inss C)) {k : Nat} {e : In4} (he : C[k]? = some e) : ∃ b off : Nat, x = some ⟨b, off, none⟩ ∧ w.rangeAt b (off + k * 4) (inV e) := by
  rcases h with h | ⟨b, off, rfl, _, hc⟩
  · have := inss_at C k e he 0 (by decide)
    rw [h] at this; simp [inV] at this
  · refine ⟨b, off, rfl, fun j v hv => ?_⟩
    have hj : j < 4 := (List.getElem?_eq_some_iff.1 hv).1
    rw [Nat.add_assoc]
    exact hc (k * 4 + j) v ((inss_at C k e he j hj).trans hv)
theorem lies_nu19 {w : World} {x : Option Addr} {kd : IntKind} {L : List Int} (h : Lies w x (num kd L)) {k : Nat} {v : Int} (he : L[k]? = some v) : ∃ b off : Nat, x = some ⟨b, off, none⟩ ∧ w.cell? ⟨b, off + k, none⟩ = some (.int kd v) := by
  have hn : (num kd L)[k]? = some (.int kd v) := by unfold num; rw [List.getElem?_map, he]; rfl
  rcases h with h | ⟨b, off, rfl, _, hc⟩
  · rw [h] at hn; simp at hn
  · exact ⟨b, off, rfl, hc k _ hn⟩
theorem Two.mem19 {w : World} {p R n : Nat} {x : Option Addr} {Rb : Nat} {B : List Int} (T : Two w (mpt p) R n x Rb B) : Mem w (mpt p) R (List.range n) B := ⟨T.ram, T.row, fits_range T.len, T.byts, by rw [List.length_range]; have := T.le; omega⟩
theorem num_max {n c : Nat} (h1 : n ≤ c) (h2 : c ≤ maxLen) : (n : Int) ≤ 9223372036854775807 := by simp [maxLen] at h2; omega
set_option maxHeartbeats 2000000 in
theorem ints18_yes {w : World} {xa xb : Option Addr} {n ca cb : Nat} {L : List Int} (ha : Lies w xa (num .i64 L)) (hb : Lies w xb (num .i64 L)) (hn : L.length = n) (hm : (n : Int) ≤ 9223372036854775807) :
    Calls Tryz.prog 32 #[.slice xa n ca, .slice xb n cb] w fun e w' => e = .returned (.bool true) ∧ Kep w w' := by
  have HA := hidd ha
  have HB := hidd hb
  have HN := hidd hn
  clear ha hb hn
  go_enter Tryz.func32, Tryz.ntmps32
  go_wp2_with fail
  go_loopw [5] (fun i wr => ∃ k : Nat, (k : Int) ≤ n ∧ i = .int .i64 k ∧ Hid (Kep w wr)) (fun i _ => n - (intOf i).toNat)
  case atStart => exact ⟨0, by omega, rfl, Kep.refl _⟩
  case round =>
    obtain ⟨k, hk, rfl, hK⟩ := hrel
    by_cases hlt : k < n
    · obtain ⟨z, hz⟩ : ∃ z, L[k]? = some z := ⟨_, List.getElem?_eq_getElem (by rw [HN.out]; exact hlt)⟩
      obtain ⟨b1, o1, rfl, ga⟩ := lies_nu19 (HA.out.kep hK.out) hz
      obtain ⟨b2, o2, rfl, gb⟩ := lies_nu19 (HB.out.kep hK.out) hz
      clear hz
      go_upto_region 6 with fail
      go_quiet (fail)
      have KQ : Hid (Kep w (wr.drewN nq)) := hK.out.drewN nq
      clear ga gb hK
      go_wp2_with fail
      go_roundw
      case rel => exact ⟨k + 1, by omega, by go_num, KQ⟩
      case measure => simp [intOf]; omega
    · obtain rfl : k = n := by omega
      have KE := hidd hK.out
      clear hK hlt hk
      go_wp2_with fail
      go_ret
      exact ⟨rfl, KE.out⟩
set_option maxHeartbeats 8000000 in
set_option maxRecDepth 100000 in
theorem same18_yes {w : World} {vIa vAa vFa vTa vIb vAb vFb vTb : Value} {I : List In4} {A F T : List Int} {n t e : Int}
    (ia : Rowv w vIa I.length (inss I)) (aa : Rowv w vAa A.length (num .u32 A)) (fa : Rowv w vFa F.length (num .i64 F)) (ta : Rowv w vTa T.length (num .i64 T))
    (ib : Rowv w vIb I.length (inss I)) (ab : Rowv w vAb A.length (num .u32 A)) (fb : Rowv w vFb F.length (num .i64 F)) (tb : Rowv w vTb T.length (num .i64 T)) (hIA : I.length = A.length) :
    Calls Tryz.prog 10 #[.agg (blkC vIa vAa n t e vFa vTa), .agg (blkC vIb vAb n t e vFb vTb)] w fun e w' => e = .returned (.bool true) ∧ Kep w w' := by
  obtain ⟨xia, cia, rfl, i1a, i2a, i3a⟩ := ia
  obtain ⟨xaa, caa, rfl, a1a, a2a, a3a⟩ := aa
  obtain ⟨xfa, cfa, rfl, f1a, f2a, f3a⟩ := fa
  obtain ⟨xta, cta, rfl, t1a, t2a, t3a⟩ := ta
  obtain ⟨xib, cib, rfl, i1b, i2b, i3b⟩ := ib
  obtain ⟨xab, cab, rfl, a1b, a2b, a3b⟩ := ab
  obtain ⟨xfb, cfb, rfl, f1b, f2b, f3b⟩ := fb
  obtain ⟨xtb, ctb, rfl, t1b, t2b, t3b⟩ := tb
  have hmax : (I.length : Int) ≤ 9223372036854775807 := num_max i1a i2a
  have LIa := hidd i3a
  have LAa := hidd a3a
  have LIb := hidd i3b
  have LAb := hidd a3b
  have HF : Hid (∀ w', Kep w w' → Calls Tryz.prog 32 #[.slice xfa F.length cfa, .slice xfb F.length cfb] w' fun e w'' => e = .returned (.bool true) ∧ Kep w' w'') := fun w' k => ints18_yes (f3a.kep k) (f3b.kep k) rfl (num_max f1a f2a)
  have HT : Hid (∀ w', Kep w w' → Calls Tryz.prog 32 #[.slice xta T.length cta, .slice xtb T.length ctb] w' fun e w'' => e = .returned (.bool true) ∧ Kep w' w'') := fun w' k => ints18_yes (t3a.kep k) (t3b.kep k) rfl (num_max t1a t2a)
  rw [← hIA]
  have HIA := hidd hIA
  clear i1a i2a i3a a1a a2a a3a f1a f2a f3a t1a t2a t3a i1b i2b i3b a1b a2b a3b f1b f2b f3b t1b t2b t3b hIA
  obtain ⟨Va, hVa⟩ : ∃ V, Hid (blkC (.slice xia I.length cia) (.slice xaa I.length caa) n t e (.slice xfa F.length cfa) (.slice xta T.length cta) = V) := ⟨_, rfl⟩
  obtain ⟨Vb, hVb⟩ : ∃ V, Hid (blkC (.slice xib I.length cib) (.slice xab I.length cab) n t e (.slice xfb F.length cfb) (.slice xtb T.length ctb) = V) := ⟨_, rfl⟩
  have p0 : Hid (Va[0]? = some (.slice xia I.length cia) ∧ Va[1]? = some (.slice xaa I.length caa) ∧ Va[2]? = some (.int .u32 n) ∧ Va[3]? = some (.int .u32 t) ∧ Va[4]? = some (.int .i64 e) ∧ Va[5]? = some (.slice xfa F.length cfa) ∧ Va[6]? = some (.slice xta T.length cta)) := by rw [Hid, ← hVa.out]; exact ⟨rfl, rfl, rfl, rfl, rfl, rfl, rfl⟩
  have p1 : Hid (Vb[0]? = some (.slice xib I.length cib) ∧ Vb[1]? = some (.slice xab I.length cab) ∧ Vb[2]? = some (.int .u32 n) ∧ Vb[3]? = some (.int .u32 t) ∧ Vb[4]? = some (.int .i64 e) ∧ Vb[5]? = some (.slice xfb F.length cfb) ∧ Vb[6]? = some (.slice xtb T.length ctb)) := by rw [Hid, ← hVb.out]; exact ⟨rfl, rfl, rfl, rfl, rfl, rfl, rfl⟩
  rw [hVa.out, hVb.out]
  clear hVa hVb
  go_enter Tryz.func10, Tryz.ntmps10
  go_upto_region 1 with fail
  obtain ⟨i2, q2⟩ : ∃ i, Hid (i = w.heap.size) := ⟨_, rfl⟩
  obtain ⟨i3, q3⟩ : ∃ i, Hid (i = w.heap.size + 1) := ⟨_, rfl⟩
  rw [← q3.out, ← q2.out]
  have B2 := hidd (show ((w.alloc (.cells Va 40)).alloc (.cells Vb 40)).heap[i2]? = some (.cells Va 40 (0, 0)) by rw [q2.out]; exact ((Kep.refl _).alloc _).block (hat _ _ _ rfl))
  have B3 := hidd (show ((w.alloc (.cells Va 40)).alloc (.cells Vb 40)).heap[i3]? = some (.cells Vb 40 (0, 0)) by rw [q3.out]; exact hat _ _ _ (by simp))
  have K1 := hidd (((Kep.refl w).alloc (.cells Va 40)).alloc (.cells Vb 40))
  generalize (w.alloc (.cells Va 40)).alloc (.cells Vb 40) = W1 at B2 B3 K1 ⊢
  have CA : Hid (∀ W, Kep W1 W → W.cell? ⟨i2, 0, none⟩ = some (.slice xia I.length cia) ∧ W.cell? ⟨i2, 1, none⟩ = some (.slice xaa I.length caa) ∧ W.cell? ⟨i2, 2, none⟩ = some (.int .u32 n) ∧ W.cell? ⟨i2, 3, none⟩ = some (.int .u32 t) ∧ W.cell? ⟨i2, 4, none⟩ = some (.int .i64 e) ∧ W.cell? ⟨i2, 5, none⟩ = some (.slice xfa F.length cfa) ∧ W.cell? ⟨i2, 6, none⟩ = some (.slice xta T.length cta)) := fun W k => by
    have h := k.block B2.out
    obtain ⟨e0, e1, e2, e3, e4, e5, e6⟩ := p0.out
    exact ⟨(cell_of_block h).trans e0, (cell_of_block h).trans e1, (cell_of_block h).trans e2, (cell_of_block h).trans e3, (cell_of_block h).trans e4, (cell_of_block h).trans e5, (cell_of_block h).trans e6⟩
  have CB : Hid (∀ W, Kep W1 W → W.cell? ⟨i3, 0, none⟩ = some (.slice xib I.length cib) ∧ W.cell? ⟨i3, 1, none⟩ = some (.slice xab I.length cab) ∧ W.cell? ⟨i3, 2, none⟩ = some (.int .u32 n) ∧ W.cell? ⟨i3, 3, none⟩ = some (.int .u32 t) ∧ W.cell? ⟨i3, 4, none⟩ = some (.int .i64 e) ∧ W.cell? ⟨i3, 5, none⟩ = some (.slice xfb F.length cfb) ∧ W.cell? ⟨i3, 6, none⟩ = some (.slice xtb T.length ctb)) := fun W k => by
    have h := k.block B3.out
    obtain ⟨e0, e1, e2, e3, e4, e5, e6⟩ := p1.out
    exact ⟨(cell_of_block h).trans e0, (cell_of_block h).trans e1, (cell_of_block h).trans e2, (cell_of_block h).trans e3, (cell_of_block h).trans e4, (cell_of_block h).trans e5, (cell_of_block h).trans e6⟩
  clear B2 B3 p0 p1 q2 q3
  obtain ⟨ca0, ca1, ca2, ca3, ca4, ca5, ca6⟩ := CA.out _ (Kep.refl _)
  obtain ⟨cb0, cb1, cb2, cb3, cb4, cb5, cb6⟩ := CB.out _ (Kep.refl _)
  go_wp2_with fail
  refine (HF.out _ K1.out).mono ?_
  rintro x w2 ⟨rfl, k2⟩
  have K2 := hidd (k2)
  clear ca0 ca1 ca2 ca3 ca4 ca5 ca6 cb0 cb1 cb2 cb3 cb4 cb5 cb6 k2
  obtain ⟨ca0, ca1, ca2, ca3, ca4, ca5, ca6⟩ := CA.out _ K2.out
  obtain ⟨cb0, cb1, cb2, cb3, cb4, cb5, cb6⟩ := CB.out _ K2.out
  go_wp2_with fail
  refine (HT.out _ (kep_trans K1.out K2.out)).mono ?_
  rintro x w3 ⟨rfl, k3⟩
  have K3 := hidd (kep_trans K2.out k3)
  clear ca0 ca1 ca2 ca3 ca4 ca5 ca6 cb0 cb1 cb2 cb3 cb4 cb5 cb6 k3 K2 HF HT
  go_wp2_with fail
  go_loopw [5] (fun i wr => ∃ k : Nat, (k : Int) ≤ I.length ∧ i = .int .i64 k ∧ Hid (Kep W1 wr)) (fun i _ => I.length - (intOf i).toNat)
  case atStart => exact ⟨0, by omega, rfl, K3.out⟩
  case round =>
    obtain ⟨k, hk, rfl, hK⟩ := hrel
    obtain ⟨ka0, ka1, _⟩ := CA.out _ hK.out
    obtain ⟨kb0, kb1, _⟩ := CB.out _ hK.out
    by_cases hlt : k < I.length
    · obtain ⟨e, he⟩ : ∃ e, I[k]? = some e := ⟨_, List.getElem?_eq_getElem hlt⟩
      obtain ⟨g, hg⟩ : ∃ g, A[k]? = some g := ⟨_, List.getElem?_eq_getElem (by rw [← HIA.out]; exact hlt)⟩
      obtain ⟨b1, o1, rfl, ra⟩ := lies_in19 (LIa.out.kep (kep_trans K1.out hK.out)) he
      obtain ⟨b2, o2, rfl, rb⟩ := lies_in19 (LIb.out.kep (kep_trans K1.out hK.out)) he
      obtain ⟨b3, o3, rfl, ga⟩ := lies_nu19 (LAa.out.kep (kep_trans K1.out hK.out)) hg
      obtain ⟨b4, o4, rfl, gb⟩ := lies_nu19 (LAb.out.kep (kep_trans K1.out hK.out)) hg
      have RA1 := hidd ra
      have RB1 := hidd rb
      clear ra rb he hg hk
      obtain ⟨eo, ea, eb, em⟩ := e
      go_upto_region 6 with fail
      refine wp_region_quiet_lit (by kernel_rfl) (by kernel_rfl) ?_
      repeat (first
        | (refine quiet_mid19 53 _ (by rfl) b1 (o1 + k * 4) (by rfl) (by rfl) [.int .u8 eo, .int .u8 ea, .int .u8 eb, .int .i32 em] _ (fun w h => by obtain ⟨n, rfl⟩ := h; exact RA1.out) Tryz.underlying53 rfl (by kernel_rfl) ?_)
        | (refine quiet_mid19 53 _ (by rfl) b2 (o2 + k * 4) (by rfl) (by rfl) [.int .u8 eo, .int .u8 ea, .int .u8 eb, .int .i32 em] _ (fun w h => by obtain ⟨n, rfl⟩ := h; exact RB1.out) Tryz.underlying53 rfl (by kernel_rfl) ?_)
        | quiet_step (fail))
      refine wpQuiet_nil ?_
      intro _ hw'
      obtain ⟨nq, hw''⟩ := hw'
      subst hw''
      have KQ : Hid (Kep W1 (wr.drewN nq)) := hK.out.drewN nq
      clear ka0 ka1 kb0 kb1 ga gb hK RA1 RB1
      go_wp2_with fail
      go_roundw
      case rel => exact ⟨k + 1, by omega, by go_num, KQ⟩
      case measure => simp [intOf]; omega
    · obtain rfl : k = I.length := by omega
      have KE := hidd hK.out
      clear hK hlt hk
      go_wp2_with fail
      go_ret
      exact ⟨rfl, kep_trans K1.out KE.out⟩
def sg (a : Int) : Int := if 2147483648 ≤ a then a - 4294967296 else a
def lowI2 (x : Int) : Int := x - x % 2 - x / 2 % 2 * 2
theorem and_one_n (x : Nat) : x &&& 1 = x % 2 := Nat.and_one_is_mod x
theorem and_four_n (x : Nat) : x &&& 4 = x / 4 % 2 * 4 := by
  have h1 : (x &&& 4) / 4 = x / 4 % 2 := by
    have h : (x &&& 4) >>> 2 = x >>> 2 &&& 1 := by rw [Nat.shiftRight_and_distrib]; rfl
    rw [Nat.shiftRight_eq_div_pow, Nat.shiftRight_eq_div_pow, and_one_n] at h
    simpa using h
  have h2 : (x &&& 4) % 4 = 0 := by
    rw [show 4 = 2 ^ 2 by rfl, Nat.and_mod_two_pow, show 2 ^ 2 % 2 ^ 2 = 0 by decide, Nat.and_zero]
  omega
theorem and_low2 (x : Nat) (hx : x < 4294967296) : x &&& 4294967292 = x - x % 4 := by
  have h1 : (x &&& 4294967292) >>> 2 = x / 4 := by
    rw [Nat.shiftRight_and_distrib, Nat.shiftRight_eq_div_pow, show 4294967292 >>> 2 = 2 ^ 30 - 1 by decide, Nat.and_two_pow_sub_one_eq_mod]
    exact Nat.mod_eq_of_lt (by omega)
  have h2 : (x &&& 4294967292) % 4 = 0 := by
    rw [show 4 = 2 ^ 2 by rfl, Nat.and_mod_two_pow, show 4294967292 % 2 ^ 2 = 0 by decide, Nat.and_zero]
  rw [Nat.shiftRight_eq_div_pow] at h1
  omega
theorem low2_is (x : Int) (h : 0 ≤ x ∧ x < 4294967296) : bits .andNot .u32 x 3 = lowI2 x := by
  obtain ⟨m, rfl⟩ : ∃ m : Nat, x = m := ⟨x.toNat, by omega⟩
  rw [show (3 : Int) = ((3 : Nat) : Int) from rfl, u32_andNot_nat m 3 (by omega) (by decide), show 4294967295 - 3 = 4294967292 from rfl, and_low2 m (by omega)]
  unfold lowI2; omega
theorem and4_is (x : Int) (h : 0 ≤ x ∧ x < 4294967296) : bits .and .u32 x 4 = x / 4 % 2 * 4 := by
  obtain ⟨m, rfl⟩ : ∃ m : Nat, x = m := ⟨x.toNat, by omega⟩
  rw [show (4 : Int) = ((4 : Nat) : Int) from rfl, u32_and_nat m 4 (by omega) (by decide), and_four_n]
  omega
structure TW (w w2 : World) (p o kb : Nat) where
  val : World
  tb : Tb w val p o kb
  st : Stp o kb w2 val
theorem region_tw {P : Program} {id : Nat} {Q : Exit → Act → World → Prop} {a : Act} {w w2 : World} {p o kb : Nat} {l : List Oper} (hm : P.follows .mixedOrders = true) (hB : Region.lexB .any l.toArray = true) (hT : Tb w w2 p o kb)
    (h : wpQuiet P l.toArray (fun w' => ∃ i : TW w w2 p o kb, w' = i.val) (fun a' => ∀ w', (∃ i : TW w w2 p o kb, w' = i.val) → Q .normal a' w') l a) : (Code.region id l.toArray true).wp P Q a w2 :=
  wp_region_quiet (C := fun w' => ∃ i : TW w w2 p o kb, w' = i.val) hm hB ⟨⟨_, hT.kp (Kep.refl w2).drew, (Stp.refl w2).drew⟩, rfl⟩ (by simpa using h)
end Go.Proofs.YtamffningddgbaaGreatDoor
