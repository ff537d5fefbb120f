/- Part of a proof. -/
import Derived.Test.YtpalbpjmjbcelaaDoorJ10
namespace Go.Proofs.YtpalbpjmjbcelaaDoor
open Go.RowKit
set_option linter.unusedVariables false
set_option linter.unusedSimpArgs false
theorem run_item {n : Int} (hn : 0 ≤ n ∧ n < 4294967296) {I : List In4} {A : List Int} {la : Nat} {e : Int} (h : mayL I la e = true) (io : ∀ i ∈ I, In4.Ok i) {k : Nat} (hk : k ≤ dnI I e) {x : It} (hx : x ∈ runI n I A k) :
    GdI x.1 ∧ x.2.2.2 = -1 ∧ ((x.1.1 = 0 ∨ (16 ≤ x.1.1 ∧ x.1.1 ≤ 33) ∨ (48 ≤ x.1.1 ∧ x.1.1 ≤ 58)) ∨ ((65 ≤ x.1.1 ∧ x.1.1 ≤ 71) ∧ x.1.2.2.2 = 5 ∧ e = 3)) := by
  have hd : dnI I e ≤ I.length := by unfold dnI; split <;> omega
  obtain ⟨j, i, h', hj, hi, hl, rfl⟩ := runI_mem (by omega) hx
  obtain ⟨a, b⟩ := may_ins h hi (by omega)
  have o := io _ (List.mem_of_getElem? hi)
  obtain ⟨g1, g2, g3⟩ := lay4_good hn o a b hl
  refine ⟨g1, rfl, ?_⟩
  rcases g3 with g | ⟨q1, q2, q3⟩
  · exact .inl g
  · refine .inr ⟨q2, q3, ?_⟩
    obtain ⟨f1, f2, f3⟩ := may_fit h
    by_cases hl : j < I.length - 1
    · obtain ⟨_, b2⟩ := mid_at hi hl (may_mid h)
      rw [bnd_cf i.1 (by omega) (by omega)] at b2; cases b2
    · obtain rfl : j = I.length - 1 := by omega
      rw [last_at f1] at hi
      obtain rfl : lastI I = i := by simpa using hi
      rw [(may_last h).2]
      unfold bEnd
      rw [bnd_cf (lastI I).1 (by omega) (by omega), if_neg (by simp), if_neg (by omega), if_pos (by omega)]
theorem trI_split {I : List In4} {A : List Int} {n t e first : Int} {la : Nat} (h : mayL I la e = true) : ∃ p c q, 0 ≤ c ∧ c ≤ 32 ∧
    ((e ≠ 3 ∧ trI I A n t e first = runI n I A (dnI I e) ++ outI p c first) ∨ (e = 3 ∧ trI I A n t e first = (runI n I A (dnI I e) ++ outI p c first) ++ outI q c (first + 1))) := by
  obtain ⟨f1, f2, f3⟩ := may_fit h
  by_cases h4 : e = 4
  · subst h4
    exact ⟨A.getD (I.length - 1) 0, (I.length : Int) - 1, 0, by omega, by omega, .inl ⟨by omega, rfl⟩⟩
  have hd : dnI I e = I.length := by unfold dnI; rw [if_neg h4]
  rw [hd]
  by_cases h3 : e = 3
  · subst h3
    exact ⟨n, I.length, t, by omega, by omega, .inr ⟨rfl, rfl⟩⟩
  by_cases h2 : e = 2
  · subst h2
    exact ⟨t, I.length, 0, by omega, by omega, .inl ⟨h3, rfl⟩⟩
  · refine ⟨n, I.length, 0, by omega, by omega, .inl ⟨h3, ?_⟩⟩
    unfold trI; rw [if_neg h2, if_neg h3, if_neg h4]
def Itm (e : Int) (x : It) : Prop := GdI x.1 ∧ ((x.2.2.2 = -1 ∧ ((x.1.1 = 0 ∨ (16 ≤ x.1.1 ∧ x.1.1 ≤ 33) ∨ (48 ≤ x.1.1 ∧ x.1.1 ≤ 58)) ∨ ((65 ≤ x.1.1 ∧ x.1.1 ≤ 71) ∧ x.1.2.2.2 = 5 ∧ e = 3))) ∨ (x.1.1 = 112 ∧ x.2.2.2 = -1) ∨ (x.1.1 = 113 ∧ x.1.2.2.2 = x.2.2.2 ∧ 0 ≤ x.2.2.2 ∧ x.2.2.2 ≤ 65535))
theorem out_item {e p c f : Int} (hc : 0 ≤ c ∧ c ≤ 255) (hf : 0 ≤ f ∧ f ≤ 65535) {x : It} (hx : x ∈ outI p c f) : Itm e x := by
  unfold outI at hx
  simp only [List.mem_cons, List.mem_nil_iff, or_false] at hx
  rcases hx with rfl | rfl
  · exact ⟨gd_tally hc.1 hc.2, .inr (.inl ⟨rfl, rfl⟩)⟩
  · exact ⟨gd_leave hf.1 hf.2, .inr (.inr ⟨rfl, rfl, hf.1, hf.2⟩)⟩
theorem trI_item {n t first : Int} (hn : 0 ≤ n ∧ n < 4294967296) {I : List In4} {A : List Int} {la : Nat} {e : Int} (h : mayL I la e = true) (io : ∀ i ∈ I, In4.Ok i) (hf : 0 ≤ first ∧ first ≤ 65534) {x : It} (hx : x ∈ trI I A n t e first) : Itm e x := by
  obtain ⟨p, c, q, c0, c1, hs⟩ := trI_split (A := A) (n := n) (t := t) (first := first) h
  have run : ∀ x ∈ runI n I A (dnI I e), Itm e x := fun x hx => by
    obtain ⟨a, b, c⟩ := run_item hn h io (Nat.le_refl _) hx
    exact ⟨a, .inl ⟨b, c⟩⟩
  rcases hs with ⟨_, hs⟩ | ⟨_, hs⟩
  · rw [hs] at hx
    rcases List.mem_append.1 hx with hx | hx
    · exact run x hx
    · exact out_item ⟨c0, by omega⟩ ⟨hf.1, by omega⟩ hx
  · rw [hs] at hx
    rcases List.mem_append.1 hx with hx | hx
    · rcases List.mem_append.1 hx with hx | hx
      · exact run x hx
      · exact out_item ⟨c0, by omega⟩ ⟨hf.1, by omega⟩ hx
    · exact out_item ⟨c0, by omega⟩ ⟨by omega, by omega⟩ hx
theorem runI_le32 {n : Int} {I : List In4} {A : List Int} {la : Nat} {e : Int} (h : mayL I la e = true) : (runI n I A (dnI I e)).length ≤ 32 := by
  obtain ⟨f1, f2, f3⟩ := may_fit h
  have := runI_len n I A (dnI I e)
  have hd : dnI I e ≤ I.length := by unfold dnI; split <;> omega
  omega
theorem trI_len {I : List In4} {A : List Int} {n t e first : Int} {la : Nat} (h : mayL I la e = true) : 2 ≤ (trI I A n t e first).length ∧ (trI I A n t e first).length ≤ 36 := by
  obtain ⟨p, c, q, c0, c1, hs⟩ := trI_split (A := A) (n := n) (t := t) (first := first) h
  have := runI_le32 (n := n) (A := A) h
  rcases hs with ⟨_, hs⟩ | ⟨_, hs⟩ <;> rw [hs] <;> simp [outI] <;> omega
structure CdR (w : World) (g o c g2 o2 c2 : Nat) (T : List It) : Prop where
  le : (itB T).length ≤ c
  mx : c ≤ maxLen
  le2 : T.length ≤ c2
  mx2 : c2 ≤ maxLen
  by_ : w.rangeAt g o (bs (itB T))
  ro : w.rangeAt g2 o2 (rws (itR T))
  lt : g < w.heap.size
  lt2 : g2 < w.heap.size
theorem cdr_of {w : World} {v1 v2 : Value} {T : List It} (h : CdAt w v1 v2 T) (hg : ∀ x ∈ T, GdI x.1) (hn : 1 ≤ T.length) :
    ∃ g o c g2 o2 c2, v1 = .slice (some ⟨g, o, none⟩) (itB T).length c ∧ v2 = .slice (some ⟨g2, o2, none⟩) T.length c2 ∧ CdR w g o c g2 o2 c2 T := by
  obtain ⟨F, G, s1, s2⟩ := h
  have hb : 1 ≤ (itB T).length := by
    match T, hn with
    | x :: r, _ =>
      have e : (itB (x :: r)).length = (encH x.1).length + (itB r).length := by simp [itB]
      have := (hg x (by simp)).len
      omega
  rcases s1.form with ⟨_, h0, _⟩ | ⟨g, o, c, rfl, _, a1, a2, a3, a4, _⟩
  · omega
  rcases s2.form with ⟨_, h0, _⟩ | ⟨g2, o2, c2, rfl, _, b1, b2, b3, b4, _⟩
  · omega
  exact ⟨g, o, c, g2, o2, c2, rfl, rfl, a1, a2, b1, b2, a4, b4, a3, b3⟩
theorem lttr_read {w : World} {xi : Option Addr} {li ci : Nat} {I : List In4} {xa : Option Addr} {la ca : Nat} {A : List Int} {n t e : Int} {xf : Option Addr} {lf cf : Nat} {xt : Option Addr} {lt ct : Nat} (H : BlkIn w xi li ci I xa la ca A n t e) (first : Int) (hm : mayL I la e = true) (hf : 0 ≤ first ∧ first ≤ 65534) (hT : Tabs w) :
    Calls Tryd.prog 11 #[.agg (blkX xi li ci xa la ca n t e xf lf cf xt lt ct), .int .i64 first] w fun r w' => ∃ g o c g2 o2 c2, r = .returned (.tuple #[.agg #[.slice (some ⟨g, o, none⟩) (itB (trI I A n t e first)).length c, .slice (some ⟨g2, o2, none⟩) (trI I A n t e first).length c2], .int .i64 0]) ∧ CdR w' g o c g2 o2 c2 (trI I A n t e first) ∧ Kep w w' := by
  refine (lttr_any H first hm hf hT).mono ?_
  rintro r w' ⟨v1, v2, rfl, h, k⟩
  obtain ⟨g, o, c, g2, o2, c2, rfl, rfl, R⟩ := cdr_of h (fun x hx => (trI_item H.hn hm H.io hf hx).1) (by have := trI_len (A := A) (n := n) (t := t) (first := first) hm; omega)
  exact ⟨g, o, c, g2, o2, c2, rfl, R, k⟩
end Go.Proofs.YtpalbpjmjbcelaaDoor
