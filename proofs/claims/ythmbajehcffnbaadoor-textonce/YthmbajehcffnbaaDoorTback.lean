/- What is shown is read as it was; what is read is shown by just that text: plain facts, no program. -/
import Derived.Test.YthmbajehcffnbaaDoorTpure
namespace Go.Proofs.YthmbajehcffnbaaDoor
set_option linter.unusedVariables false

theorem forms_no : ∀ r, r < 10 → (hA r = false → f1 r = 0) ∧ (hB r = false → f2 r = 0) ∧ (hN r = false → lo r = 0 ∧ hi r = 0) ∧ (hA r = true → f1 r = 7) ∧ (hB r = true → f2 r = 7 ∧ hA r = true) := by decide
theorem split_two (w v : List UInt8) (h : (32 : UInt8) ∉ w) (h2 : (32 : UInt8) ∉ v) : splitL (w ++ 32 :: v) = [w, v] := by rw [split_cons w v h, split_word v h2]
theorem split_three (w v u : List UInt8) (h : (32 : UInt8) ∉ w) (h2 : (32 : UInt8) ∉ v) (h3 : (32 : UInt8) ∉ u) : splitL (w ++ 32 :: (v ++ 32 :: u)) = [w, v, u] := by rw [split_cons w _ h, split_two v u h2 h3]
theorem split_four (w v u t : List UInt8) (h : (32 : UInt8) ∉ w) (h2 : (32 : UInt8) ∉ v) (h3 : (32 : UInt8) ∉ u) (h4 : (32 : UInt8) ∉ t) : splitL (w ++ 32 :: (v ++ 32 :: (u ++ 32 :: t))) = [w, v, u, t] := by rw [split_cons w _ h, split_three v u t h2 h3 h4]
theorem toA (l : List UInt8) (a : Array UInt8) (h : l = a.toList) : l.toArray = a := by subst h; simp

theorem read_back (op a b imm : Int) (h0 : 0 ≤ op ∧ op < 256) (ha : 0 ≤ a) (hb : 0 ≤ b) (hi : -2147483648 ≤ imm ∧ imm ≤ 2147483647) (hm : mayB (rowOf op true) a b imm = true) :
    readR (showA op a b imm (rowOf op true)).toList = .ok (op, a, b, imm) := by
  obtain ⟨m0, m1, m2, m3, m4⟩ := may_pts hm
  obtain ⟨n1, n2, n3⟩ := named_back op h0.1 h0.2 m0
  obtain ⟨p1, p2⟩ := f12_le _ (rowOf_lt op true)
  obtain ⟨q1, q2, q3, q4, q5⟩ := forms_no _ (rowOf_lt op true)
  have hNa : (nameA op).toList.toArray = nameA op := by simp
  have ra : (32 : UInt8) ∉ [114, dg a] := by
    have := dg_ne a ha (by omega)
    simp only [List.mem_cons, List.not_mem_nil, or_false, not_or]
    exact ⟨by decide, this.symm⟩
  have rb : (32 : UInt8) ∉ [letB op, dg b] := by
    have := dg_ne b hb (by omega)
    have := letB_ne op
    simp only [List.mem_cons, List.not_mem_nil, or_false, not_or]
    exact ⟨this.symm, (dg_ne b hb (by omega)).symm⟩
  have ga := reg_back 114 a ha (by omega)
  have gb := reg_back (letB op) b hb (by omega)
  have gn := numL_itoa imm hi.1 hi.2
  have gE : ∀ a b, mayB (rowOf op true) a b imm = true → numE op a b (Lib.itoa imm) = .ok (op, a, b, imm) := by
    intro a b h
    unfold numE
    rw [gn]
    simp only [h, if_true]
  have hi0 := itoa_no imm
  have hi1 := itoa_ne imm
  unfold readR showA
  cases xa : hA (rowOf op true) <;> cases xb : hB (rowOf op true) <;> cases xn : hN (rowOf op true)
  · have e : (nameA op ++ partA false 114 (dg a) ++ partA false (letB op) (dg b) ++ partN false imm).toList = (nameA op).toList := by simp [partA, partN]
    obtain rfl : a = 0 := by have := q1 xa; omega
    obtain rfl : b = 0 := by have := q2 xb; omega
    obtain rfl : imm = 0 := by have := q3 xn; omega
    rw [e, split_word _ n3, if_neg (by simpa using n2)]
    simp only [List.take_succ_cons, List.take_nil, readP]
    rw [hNa, n1]
    simp only [xa, xb, xn, readF]
  · have e : (nameA op ++ partA false 114 (dg a) ++ partA false (letB op) (dg b) ++ partN true imm).toList = (nameA op).toList ++ 32 :: Lib.itoa imm := by simp [partA, partN]
    obtain rfl : a = 0 := by have := q1 xa; omega
    obtain rfl : b = 0 := by have := q2 xb; omega
    rw [e, split_two _ _ n3 hi0, if_neg (by simpa using ⟨n2, hi1⟩)]
    simp only [List.take_succ_cons, List.take_nil, readP]
    rw [hNa, n1]
    simp only [xa, xb, xn, readF]
    exact gE _ _ hm
  · exact absurd (q5 xb).2 (by rw [xa]; decide)
  · exact absurd (q5 xb).2 (by rw [xa]; decide)
  · have e : (nameA op ++ partA true 114 (dg a) ++ partA false (letB op) (dg b) ++ partN false imm).toList = (nameA op).toList ++ 32 :: [114, dg a] := by simp [partA, partN]
    obtain rfl : b = 0 := by have := q2 xb; omega
    obtain rfl : imm = 0 := by have := q3 xn; omega
    rw [e, split_two _ _ n3 ra, if_neg (by simpa using n2)]
    simp only [List.take_succ_cons, List.take_nil, readP]
    rw [hNa, n1]
    simp only [xa, xb, xn, readF, ga]
  · have e : (nameA op ++ partA true 114 (dg a) ++ partA false (letB op) (dg b) ++ partN true imm).toList = (nameA op).toList ++ 32 :: ([114, dg a] ++ 32 :: Lib.itoa imm) := by simp [partA, partN]
    obtain rfl : b = 0 := by have := q2 xb; omega
    rw [e, split_three _ _ _ n3 ra hi0, if_neg (by simpa using ⟨n2, hi1⟩)]
    simp only [List.take_succ_cons, List.take_nil, readP]
    rw [hNa, n1]
    simp only [xa, xb, xn, readF, ga]
    exact gE _ _ hm
  · have e : (nameA op ++ partA true 114 (dg a) ++ partA true (letB op) (dg b) ++ partN false imm).toList = (nameA op).toList ++ 32 :: ([114, dg a] ++ 32 :: [letB op, dg b]) := by simp [partA, partN]
    obtain rfl : imm = 0 := by have := q3 xn; omega
    rw [e, split_three _ _ _ n3 ra rb, if_neg (by simpa using n2)]
    simp only [List.take_succ_cons, List.take_nil, readP]
    rw [hNa, n1]
    simp only [xa, xb, xn, readF, ga, gb]
  · have e : (nameA op ++ partA true 114 (dg a) ++ partA true (letB op) (dg b) ++ partN true imm).toList = (nameA op).toList ++ 32 :: ([114, dg a] ++ 32 :: ([letB op, dg b] ++ 32 :: Lib.itoa imm)) := by simp [partA, partN]
    rw [e, split_four _ _ _ _ n3 ra rb hi0, if_neg (by simpa using ⟨n2, hi1⟩)]
    simp only [List.take_succ_cons, List.take_nil, readP]
    rw [hNa, n1]
    simp only [xa, xb, xn, readF, ga, gb]
    exact gE _ _ hm

theorem show_ne (op a b imm : Int) (h0 : 0 ≤ op ∧ op < 256) (hm : mayB (rowOf op true) a b imm = true) : showA op a b imm (rowOf op true) ≠ #[] := by
  obtain ⟨m0, _⟩ := may_pts hm
  obtain ⟨n1, n2, n3⟩ := named_back op h0.1 h0.2 m0
  intro e
  unfold showA at e
  simp only [Array.append_eq_empty_iff] at e
  exact n2 e.1.1.1
theorem show_size (op a b imm : Int) (r : Nat) (h0 : 0 ≤ op ∧ op < 256) (hi : -2147483648 ≤ imm ∧ imm ≤ 2147483647) : (showA op a b imm r).size ≤ 100 := by
  have h1 := name_size op h0.1 h0.2
  have h2 := itoa_size imm hi.1 hi.2
  have h3 : ∀ (x : Bool) (l d : UInt8), (partA x l d).size ≤ 3 := by intro x l d; cases x <;> simp [partA]
  have h4 : (partN (hN r) imm).size ≤ 22 := by unfold partN; split <;> simp <;> omega
  have h5 := h3 (hA r) 114 (dg a)
  have h6 := h3 (hB r) (letB op) (dg b)
  unfold showA
  simp only [Array.size_append]
  omega
/-- Two instructions with one text are one. -/
theorem show_inj (op a b imm op' a' b' imm' : Int) (h0 : 0 ≤ op ∧ op < 256) (ha : 0 ≤ a) (hb : 0 ≤ b) (hi : -2147483648 ≤ imm ∧ imm ≤ 2147483647)
    (h0' : 0 ≤ op' ∧ op' < 256) (ha' : 0 ≤ a') (hb' : 0 ≤ b') (hi' : -2147483648 ≤ imm' ∧ imm' ≤ 2147483647)
    (h : showS op a b imm = showS op' a' b' imm') (hne : showS op a b imm ≠ #[]) : op = op' ∧ a = a' ∧ b = b' ∧ imm = imm' := by
  cases hm : mayB (rowOf op true) a b imm
  · exact absurd (by unfold showS; rw [hm]; rfl) hne
  · cases hm' : mayB (rowOf op' true) a' b' imm'
    · rw [h] at hne
      exact absurd (by unfold showS; rw [hm']; rfl) hne
    · unfold showS at h
      rw [if_pos hm, if_pos hm'] at h
      have e1 := read_back op a b imm h0 ha hb hi hm
      have e2 := read_back op' a' b' imm' h0' ha' hb' hi' hm'
      rw [h, e2] at e1
      simp only [Except.ok.injEq, Prod.mk.injEq] at e1
      exact ⟨e1.1.symm, e1.2.1.symm, e1.2.2.1.symm, e1.2.2.2.symm⟩

theorem once_num {op a b : Int} {n : List UInt8} {x : Ins4} (h : numE op a b n = .ok x) : ∃ v, x = (op, a, b, v) ∧ mayB (rowOf op true) a b v = true ∧ Lib.itoa v = n ∧ -2147483648 ≤ v ∧ v ≤ 2147483647 := by
  unfold numE at h
  cases hn : numL n with
  | none => rw [hn] at h; cases h
  | some v =>
    rw [hn] at h
    simp only at h
    split at h
    · rename_i hm
      obtain ⟨h1, h2, h3⟩ := numL_own n v hn
      simp only [Except.ok.injEq] at h
      exact ⟨v, h.symm, hm, h1, h2, h3⟩
    · cases h
theorem may_of {r : Nat} {a b imm : Int} (h0 : r ≠ 0) (h1 : a ≤ f1 r) (h2 : b ≤ f2 r) (h3 : lo r ≤ imm) (h4 : imm ≤ hi r) : mayB r a b imm = true := by
  unfold mayB
  simp only [Bool.and_eq_true, decide_eq_true_eq, bne_iff_ne]
  exact ⟨h0, ⟨⟨h1, h2⟩, h3⟩, h4⟩
theorem lo_hi : ∀ r, r < 10 → lo r ≤ 0 ∧ 0 ≤ hi r ∧ 0 ≤ f1 r ∧ 0 ≤ f2 r := by decide
def optL (x : Bool) (w : List UInt8) : List (List UInt8) := if x then [w] else []
structure OnceF (op : Int) (xa xb xn : Bool) (rest : List (List UInt8)) (a b v : Int) : Prop where
  parts : rest = optL xa [114, dg a] ++ optL xb [letB op, dg b] ++ optL xn (Lib.itoa v)
  a0 : 0 ≤ a ∧ a ≤ 7
  b0 : 0 ≤ b ∧ b ≤ 7
  an : xa = false → a = 0
  bn : xb = false → b = 0
  vn : xn = false → v = 0
  may : xn = true → mayB (rowOf op true) a b v = true
  rng : -2147483648 ≤ v ∧ v ≤ 2147483647
theorem once_F (op : Int) (xa xb xn : Bool) (rest : List (List UInt8)) (x : Ins4) (h : readF op xa xb xn rest = .ok x) : ∃ a b v, x = (op, a, b, v) ∧ OnceF op xa xb xn rest a b v := by
  rcases rest with _ | ⟨p, _ | ⟨q, _ | ⟨n, _ | ⟨m, rest⟩⟩⟩⟩ <;> cases xa <;> cases xb <;> cases xn <;> simp only [readF] at h <;> first | cases h | skip
  · exact ⟨0, 0, 0, rfl, ⟨rfl, by decide, by decide, fun _ => rfl, fun _ => rfl, fun _ => rfl, (fun e => by cases e), by decide⟩⟩
  · obtain ⟨v, rfl, h1, h2, h3⟩ := once_num h
    exact ⟨0, 0, v, rfl, ⟨by simp [optL, h2], by decide, by decide, fun _ => rfl, fun _ => rfl, (fun e => by cases e), fun _ => h1, h3⟩⟩
  · cases hp : regL p 114 with
    | none => rw [hp] at h; cases h
    | some a =>
      rw [hp] at h
      simp only [Except.ok.injEq] at h
      obtain ⟨rfl, ha⟩ := reg_own hp
      exact ⟨a, 0, 0, h.symm, ⟨rfl, ha, by decide, (fun e => by cases e), fun _ => rfl, fun _ => rfl, (fun e => by cases e), by decide⟩⟩
  · cases hp : regL p 114 with
    | none => rw [hp] at h; cases h
    | some a =>
      rw [hp] at h
      simp only at h
      obtain ⟨rfl, ha⟩ := reg_own hp
      obtain ⟨v, rfl, h1, h2, h3⟩ := once_num h
      exact ⟨a, 0, v, rfl, ⟨by simp [optL, h2], ha, by decide, (fun e => by cases e), fun _ => rfl, (fun e => by cases e), fun _ => h1, h3⟩⟩
  · cases hp : regL p 114 with
    | none => rw [hp] at h; cases h
    | some a =>
      rw [hp] at h
      simp only at h
      obtain ⟨rfl, ha⟩ := reg_own hp
      cases hq : regL q (letB op) with
      | none => rw [hq] at h; cases h
      | some b =>
        rw [hq] at h
        simp only [Except.ok.injEq] at h
        obtain ⟨rfl, hb⟩ := reg_own hq
        exact ⟨a, b, 0, h.symm, ⟨rfl, ha, hb, (fun e => by cases e), (fun e => by cases e), fun _ => rfl, (fun e => by cases e), by decide⟩⟩
  · cases hp : regL p 114 with
    | none => rw [hp] at h; cases h
    | some a =>
      rw [hp] at h
      simp only at h
      obtain ⟨rfl, ha⟩ := reg_own hp
      cases hq : regL q (letB op) with
      | none => rw [hq] at h; cases h
      | some b =>
        rw [hq] at h
        simp only at h
        obtain ⟨rfl, hb⟩ := reg_own hq
        obtain ⟨v, rfl, h1, h2, h3⟩ := once_num h
        exact ⟨a, b, v, rfl, ⟨by simp [optL, h2], ha, hb, (fun e => by cases e), (fun e => by cases e), (fun e => by cases e), fun _ => h1, h3⟩⟩
theorem join_opt (op a b v : Int) (n : List UInt8) : ∀ xa xb xn : Bool, joinL (n :: (optL xa [114, dg a] ++ optL xb [letB op, dg b] ++ optL xn (Lib.itoa v))) = n ++ (partA xa 114 (dg a)).toList ++ (partA xb (letB op) (dg b)).toList ++ (partN xn v).toList := by
  intro xa xb xn
  cases xa <;> cases xb <;> cases xn <;> simp [optL, partA, partN, joinL]
theorem opt_len (op a b v : Int) (xa xb xn : Bool) : (optL xa [114, dg a] ++ optL xb [letB op, dg b] ++ optL xn (Lib.itoa v)).length ≤ 3 := by
  cases xa <;> cases xb <;> cases xn <;> simp [optL]
theorem read_once (s : List UInt8) (op a b imm : Int) (h : readR s = .ok (op, a, b, imm)) :
    (showS op a b imm).toList = s ∧ mayB (rowOf op true) a b imm = true ∧ (0 ≤ op ∧ op < 256) ∧ (0 ≤ a ∧ a < 256) ∧ (0 ≤ b ∧ b < 256) ∧ (-2147483648 ≤ imm ∧ imm ≤ 2147483647) := by
  unfold readR at h
  split at h
  · cases h
  · have hj := join_split s
    obtain ⟨ps, hps⟩ : ∃ ps, (splitL s).take 5 = ps := ⟨_, rfl⟩
    have hwhole : ps.length ≤ 4 → splitL s = ps := by
      intro hl
      rw [← hps] at hl ⊢
      rw [List.length_take] at hl
      rw [List.take_of_length_le (by omega)]
    rw [hps] at h
    cases ps with
    | nil => cases h
    | cons n rest =>
      simp only [readP] at h
      cases hn : namedA n.toArray with
      | none => rw [hn] at h; cases h
      | some o =>
        rw [hn] at h
        obtain ⟨g1, g2, g3, g4⟩ := named_own hn
        obtain ⟨a', b', v', hx, hF⟩ := once_F _ _ _ _ _ _ h
        simp only [Prod.mk.injEq] at hx
        obtain ⟨rfl, rfl, rfl, rfl⟩ := hx
        obtain ⟨q1, q2, q3, q4, q5⟩ := forms_no _ (rowOf_lt op true)
        obtain ⟨l1, l2, l3, l4⟩ := lo_hi _ (rowOf_lt op true)
        have hm : mayB (rowOf op true) a b imm = true := by
          cases xn : hN (rowOf op true)
          · have hv := hF.vn xn
            subst hv
            refine may_of g4 ?_ ?_ l1 l2
            · cases xa : hA (rowOf op true)
              · rw [hF.an xa]; exact l3
              · rw [q4 xa]; exact hF.a0.2
            · cases xb : hB (rowOf op true)
              · rw [hF.bn xb]; exact l4
              · rw [(q5 xb).1]; exact hF.b0.2
          · exact hF.may xn
        have hlen : (n :: rest).length ≤ 4 := by
          rw [hF.parts]
          have := opt_len op a b imm (hA (rowOf op true)) (hB (rowOf op true)) (hN (rowOf op true))
          simp only [List.length_cons]
          omega
        rw [hwhole hlen, hF.parts, join_opt] at hj
        refine ⟨?_, hm, ⟨g2, g3⟩, ⟨hF.a0.1, by have := hF.a0; omega⟩, ⟨hF.b0.1, by have := hF.b0; omega⟩, hF.rng⟩
        unfold showS
        rw [if_pos hm]
        unfold showA
        rw [g1]
        simpa using hj
end Go.Proofs.YthmbajehcffnbaaDoor
