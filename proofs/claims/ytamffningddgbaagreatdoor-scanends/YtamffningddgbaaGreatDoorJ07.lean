/- Part of a proof. -/
import Derived.Deep.Slices
import Derived.Lib.SmallJoins
import Derived.OpenShut
import Derived.Test.YtamffningddgbaaGreatDoorJ06
namespace Go.Proofs.YtamffningddgbaaGreatDoor
open Go.RowKit
set_option linter.unusedVariables false
set_option linter.unusedSimpArgs false
def layL (B : List Int) (ix : List Nat) (a : Nat) : List Int → List Int
  | [] => B
  | z :: zs => layL (B.set (pos ix a) z) ix (a + 1) zs
theorem layL_len (ix : List Nat) : ∀ (zs B : List Int) (a : Nat), (layL B ix a zs).length = B.length
  | [], _, _ => rfl
  | z :: zs, B, a => by simp [layL, layL_len ix zs]
theorem layL_append (ix : List Nat) : ∀ (xs ys B : List Int) (a : Nat), layL B ix a (xs ++ ys) = layL (layL B ix a xs) ix (a + xs.length) ys
  | [], ys, B, a => rfl
  | z :: zs, ys, B, a => by
    simp only [List.cons_append, layL, layL_append ix zs, List.length_cons]
    rw [show a + 1 + zs.length = a + (zs.length + 1) by omega]
theorem splice_cons (B : List Int) (p : Nat) (z : Int) (zs : List Int) (h : p < B.length) : splice (B.set p z) (p + 1) zs = splice B p (z :: zs) := by
  unfold splice
  apply List.ext_getElem?
  intro j
  simp only [List.getElem?_append, List.getElem?_take, List.getElem?_drop, List.getElem?_set, List.length_take, List.length_set, List.length_cons]
  rcases Nat.lt_trichotomy j p with h1 | rfl | h1
  · simp [show j < min (p + 1) B.length by omega, show j < min p B.length by omega, show j < p + 1 by omega, show j < p by omega, show p ≠ j by omega]
  · simp [show j < min (j + 1) B.length by omega, show ¬ j < min j B.length by omega, h]
    simp [show min j B.length = j by omega]
  · have e1 : min (p + 1) B.length = p + 1 := by omega
    have e2 : min p B.length = p := by omega
    rw [e1, e2]
    simp only [show ¬ j < p + 1 by omega, if_false, show ¬ j < p by omega]
    obtain ⟨k, rfl⟩ : ∃ k, j = p + 1 + k := ⟨j - (p + 1), by omega⟩
    rw [show p + 1 + k - (p + 1) = k by omega, show p + 1 + k - p = k + 1 by omega]
    simp only [List.getElem?_cons_succ, Nat.add_lt_add_iff_right]
    split
    · rfl
    · rw [if_neg (by omega)]
      congr 1
      omega
theorem splice_nil (B : List Int) (p : Nat) : splice B p [] = B := by simp [splice]
theorem pos_succ (ix : List Nat) (a : Nat) (h : a % 64 + 1 < 64) : pos ix (a + 1) = pos ix a + 1 := by
  unfold pos
  rw [show (a + 1) / 64 = a / 64 by omega]
  omega
theorem layL_chunk (ix : List Nat) : ∀ (xs B : List Int) (a : Nat), a % 64 + xs.length ≤ 64 → pos ix a + xs.length ≤ B.length → layL B ix a xs = splice B (pos ix a) xs
  | [], B, a, _, _ => (splice_nil B _).symm
  | [z], B, a, _, h => by
    rw [← splice_cons _ _ _ _ (by simp at h; omega), splice_nil]; rfl
  | z :: y :: xs, B, a, h1, h2 => by
    have e := pos_succ ix a (by simp at h1; omega)
    rw [layL, layL_chunk ix (y :: xs) (B.set (pos ix a) z) (a + 1) (by simp at h1 ⊢; omega) (by rw [e]; simp at h2 ⊢; omega), e]
    exact splice_cons _ _ _ _ (by simp at h2; omega)
theorem byt_splice (B : List Int) (p : Nat) (xs : List Int) : splice (byt B) p (byt xs) = byt (splice B p xs) := by simp [splice, byt, List.map_drop, List.map_take]
def Src (w : World) (x : Option Addr) (zs : List Int) (l : List Nat) : Prop :=
  zs = [] ∨ ∃ b off : Nat, x = some ⟨b, off, none⟩ ∧ b < w.heap.size ∧ b ∉ l ∧ ∀ i, i < zs.length → w.cell? ⟨b, off + i, none⟩ = some (.int .u8 (zs.getD i 0))
theorem Src.put {w w' : World} {x : Option Addr} {zs : List Int} {l : List Nat} (h : Src w x zs l) (k : Put l w w') : Src w' x zs l := by
  rcases h with h | ⟨b, off, e, hb, hl, hc⟩
  · exact .inl h
  · exact .inr ⟨b, off, e, Nat.lt_of_lt_of_le hb k.size, hl, fun i hi => (k.cell hb hl).trans (hc i hi)⟩
theorem copy_into {P : Program} {w : World} {ops : Array Oper} {rest : List Oper} {o : Oper} {a : Act} {Q : Exit → Act → World → Prop} (hgd : o.guard = none) (d s : Operand) (dT sT : TypeId)
    (ho : o.op = .call { callee := .builtin .copy, args := #[d, s], argTypes := #[dT, sT] }) (elem : TypeId) (hu : P.underlying dT = some (.slice elem)) (hsz : (P.info? elem).map (·.size) = some 1)
    (g off dLen dCap : Nat) (ad : Addr) (sLen sCap : Nat) (hd : a.eval d = .slice (some ⟨g, off, none⟩) dLen dCap) (hs : a.eval s = .slice (some ad) sLen sCap)
    (cur : List Value) (t : TypeId) (hg : w.heap[g]? = some (.cells cur.toArray t (0, 0))) (cs : List Value) (hn : cs.length = Nat.min sLen dLen)
    (hsrc : ∀ j v, cs[j]? = some v → w.cell? (ad.add j) = some v) (hfit : off + cs.length ≤ cur.length) (h1 : ∀ v ∈ cs, v.oneCell' = true)
    (h : ∀ w', Hid (w'.heap[g]? = some (.cells (splice cur off cs).toArray t (0, 0))) → Hid (Put [g] w w') → wpList P ops Q rest (a.put o.dst (goInt cs.length)) w') : wpList P ops Q (o :: rest) a w := by
  refine wpList_copy_own hgd d s dT sT ho elem hu hsz g off dLen dCap ad sLen sCap hd hs cur.toArray t hg cs hn hsrc (by simpa using hfit) h1 ?_
  exact h _ (show _ = _ by simpa [splice] using setRow_heap w g _ _ t _ hg) ((Put.refl _).setRow (by simp) _)
def lenV : Value → Nat
  | .slice _ n _ => n
  | _ => 0
theorem take_more (zs : List Int) (k n : Nat) : zs.take (k + n) = zs.take k ++ (zs.drop k).take n := List.take_add
set_option maxRecDepth 100000 in
theorem fill_put (w : World) (v : Value) (R : Nat) (ix : List Nat) (B : List Int) (h : Ram w v R ix) (hix : (ix.length : Int) ≤ 512) (hB : RowB w R B) (hf : Fits B ix) (a : Nat) (ha : (a : Int) < 4294967296) (x : Option Addr) (zs : List Int) (len cap : Nat) (hl : zs.length = len) (hlc : len ≤ cap) (hmax : (cap : Int) ≤ 9223372036854775807) (S : Src w x zs [R]) :
    Calls Tryz.prog 19 #[v, .int .u32 a, .slice x len cap] w fun e w' => e = .returned (.bool (decide (a + len ≤ 64 * ix.length))) ∧ Put [R] w w' ∧ RowB w' R (if a + len ≤ 64 * ix.length then layL B ix a zs else B) := by
  have hc : Hid (∀ w, Ram w v R ix → Calls Tryz.prog 45 #[v] w fun e w' => e = .returned (.int .u32 (64 * ix.length)) ∧ w' = w) := fun w h => msize_any w v R ix h hix
  have hF : Hid (∀ w k, Ram w v R ix → k < 64 * ix.length → Calls Tryz.prog 41 #[v, .int .u32 k] w fun e w' => e = .returned (fromV R ix k) ∧ w' = w) := fun w k h hk => from_any w v R ix h hix k hk
  have h' : Hid (Ram w v R ix) := h
  have hB' : Hid (RowB w R B) := hB
  have hf' : Hid (Fits B ix) := hf
  clear h hB hf
  have hlc' : (len : Int) ≤ cap := by omega
  by_cases hfit : a + len ≤ 64 * ix.length
  · rw [if_pos hfit, decide_eq_true hfit]
    have hfit' : (a : Int) + len ≤ 64 * ix.length := by omega
    have hno : decide (64 * (ix.length : Int) < (a : Int) + len) = false := decide_eq_false (by omega)
    obtain ⟨b, off, hs1⟩ : ∃ b off : Nat, Hid (0 < len → x = some ⟨b, off, none⟩ ∧ b < w.heap.size ∧ b ≠ R ∧ ∀ i, i < len → w.cell? ⟨b, off + i, none⟩ = some (.int .u8 (zs.getD i 0))) := by
      rcases S with rfl | ⟨b, off, e, hb, hn, hcell⟩
      · exact ⟨0, 0, fun h0 => by simp at hl; omega⟩
      · exact ⟨b, off, fun _ => ⟨e, hb, by simpa using hn, by rw [← hl]; exact hcell⟩⟩
    clear S
    go_enter Tryz.func19, Tryz.ntmps19
    go_wp2_with (go_at_call 45; refine (hc.out _ h'.out).mono ?_; rintro e w1 ⟨rfl, rfl⟩)
    go_loopw [1, 2] (fun s1 s2 wr => ∃ (k l c : Nat) (x' : Option Addr), k + l = len ∧ (l : Int) ≤ c ∧ (c : Int) ≤ cap ∧ s1 = .int .u32 ((a : Int) + k) ∧ s2 = .slice x' l c ∧ Hid (0 < l → x' = some ⟨b, off + k, none⟩) ∧ Hid (Put [R] w1 wr ∧ RowB wr R (layL B ix a (zs.take k)))) (fun _ s2 _ => lenV s2)
    case atStart => exact ⟨0, len, cap, x, by omega, by omega, by omega, by simp, rfl, fun h0 => (hs1.out h0).1, Put.refl _, by simpa [layL] using hB'.out⟩
    case round =>
      obtain ⟨k, l, c, x', hkl, hl1, hc1, rfl, rfl, hx, hP⟩ := hrel
      rcases Nat.eq_zero_or_pos l with rfl | hl0
      · go_wp2
        go_ret
        have e1 : zs.take k = zs := List.take_of_length_le (by omega)
        have := hP.out
        rw [e1] at this
        exact ⟨rfl, this.1, this.2⟩
      · have hl0' : (0 : Int) < l := by omega
        have hfr := hF.out wr (a + k) (h'.out.put hP.out.1) (by omega)
        have ecast : ((a + k : Nat) : Int) = (a : Int) + k := by omega
        rw [ecast] at hfr
        unfold fromV at hfr
        have hfit0 := (hf'.out.len (layL_len ix (zs.take k) B a)).pos (a := a + k) (by omega)
        have hpm : (a + k) % 64 ≤ pos ix (a + k) := by unfold pos; omega
        obtain ⟨m, hm⟩ : ∃ m, m = 64 - (a + k) % 64 := ⟨_, rfl⟩
        rw [← hm] at hfr
        have hm1 : 1 ≤ m ∧ m ≤ 64 ∧ (a + k) % 64 + m = 64 := by omega
        obtain ⟨q, hq⟩ : ∃ q, q = pos ix (a + k) := ⟨_, rfl⟩
        rw [← hq] at hfr hfit0 hpm
        obtain ⟨n, hn⟩ : ∃ n, n = Nat.min l m := ⟨_, rfl⟩
        have hn1 : 1 ≤ n ∧ n ≤ l ∧ n ≤ m := by have : n = min l m := hn; omega
        obtain ⟨hx1, hbl, hbR, hcell⟩ := hs1.out (by omega)
        have hrow := hP.out.2 (by intro e; have := congrArg List.length e; have h2 := hfit0.2; rw [layL_len] at this h2; simp only [List.length_nil] at this; omega)
        obtain ⟨cs, hcs⟩ : ∃ cs, cs = byt ((zs.drop k).take n) := ⟨_, rfl⟩
        have hcl : cs.length = n := by rw [hcs, byt_len]; simp; omega
        have hsrc : ∀ j v, cs[j]? = some v → wr.cell? ((⟨b, off + k, none⟩ : Addr).add j) = some v := by
          intro j v hj
          have hjn : j < n := by have := (List.getElem?_eq_some_iff.1 hj).1; omega
          rw [hcs, byt_at, List.getElem?_take_of_lt hjn, List.getElem?_drop] at hj
          rw [Addr.add_lit, hP.out.1.cell hbl (by simpa using hbR), Nat.add_assoc, hcell (k + j) (by omega), ← hj]
          simp [show k + j < zs.length by omega]
        have h1c : ∀ v ∈ cs, v.oneCell' = true := by rw [hcs]; exact byt_one _
        obtain ⟨x'', hx''⟩ : ∃ x'', x'' = (if c = n then x' else x'.map (·.add n)) := ⟨_, rfl⟩
        have hsl := cut_bytes x' l c n (by omega) (by omega)
        rw [← hx''] at hsl
        have hfit1 : q + n ≤ (byt (layL B ix a (zs.take k))).length := by rw [byt_len]; omega
        have hfr' : Hid (Calls Tryz.prog 41 #[v, .int .u32 ((a : Int) + k)] wr fun e w' => e = .returned (.slice (some ⟨R, q, none⟩) m m) ∧ w' = wr) := hfr
        have hX : Hid (0 < l - n → x'' = some ⟨b, off + (k + n), none⟩) := by
          intro h0
          rw [hx'', hx.out (by omega), if_neg (by omega)]
          simp [Addr.add_lit, Nat.add_assoc]
        have hR : Hid (layL B ix a (zs.take (k + n)) = splice (layL B ix a (zs.take k)) q ((zs.drop k).take n)) := by
          have hlen : (zs.take k).length = k := by simp; omega
          have hlen2 : ((zs.drop k).take n).length = n := by simp; omega
          rw [Hid, take_more, layL_append, hlen, layL_chunk ix _ _ (a + k) (by rw [hlen2]; omega) (by rw [hlen2, ← hq, ← byt_len]; exact hfit1), ← hq]
        have hcs' : Hid (cs = byt ((zs.drop k).take n)) := hcs
        have hrow' : Hid (wr.heap[R]? = some (.cells (byt (layL B ix a (zs.take k))).toArray 5 (0, 0))) := hrow
        have hx2 : x' = some ⟨b, off + k, none⟩ := hx.out hl0
        have hsrc' : Hid (∀ j v, cs[j]? = some v → wr.cell? ((⟨b, off + k, none⟩ : Addr).add j) = some v) := hsrc
        have h1c' : Hid (∀ v ∈ cs, v.oneCell' = true) := h1c
        have hfit2 : Hid (q + cs.length ≤ (byt (layL B ix a (zs.take k))).length) := by rw [Hid, hcl]; exact hfit1
        have hn' : Hid (cs.length = Nat.min l m) := by rw [Hid, hcl]; exact hn
        have hnl : (n : Int) ≤ l := by omega
        have hn64 : (n : Int) ≤ 64 := by omega
        have hkl' : (k : Int) + l = len := by omega
        subst hx2
        clear hx1 hfr hfit0 hpm hrow hsrc h1c hcs hx'' hfit1 hcell hm hq hn hx
        go_wp2_with (first | (go_at_call 41; refine hfr'.out.mono ?_; rintro e w2 ⟨rfl, rfl⟩) | (refine copy_into rfl (.tmp 23) (.tmp 24) 22 22 rfl 5 Tryz.underlying22 (by kernel_rfl) R q m m ⟨b, off + k, none⟩ l c rfl rfl _ 5 hrow'.out cs hn'.out hsrc'.out hfit2.out h1c'.out ?_; intro w3 H3 P3))
        go_region
        all_goals
          go_wp2
          go_roundw
          case rel =>
            refine ⟨k + n, l - n, c - n, x'', by omega, by omega, by omega, by go_num, by go_num, hX, ?_⟩
            refine ⟨(hP.out.1.trans P3.out).drew, fun _ => ?_⟩
            rw [hR.out, heap_drew, H3.out, hcs'.out, byt_splice]
          case measure => simp [lenV]; omega
  · rw [if_neg hfit, decide_eq_false hfit]
    have hfit' : (64 * ix.length : Int) < a + len := by omega
    have hno : decide (64 * (ix.length : Int) < (a : Int) + len) = true := decide_eq_true (by omega)
    clear S
    go_enter Tryz.func19, Tryz.ntmps19
    go_wp2_with (go_at_call 45; refine (hc.out _ h'.out).mono ?_; rintro e w1 ⟨rfl, rfl⟩)
    go_ret
    exact ⟨rfl, Put.refl _, hB'.out⟩
structure Refd (w : World) (x : Option Addr) (Rb : Nat) (B : List Int) : Prop where
  row : RowB w Rb B
  adr : B ≠ [] → x = some ⟨Rb, 0, none⟩
  max : (B.length : Int) ≤ 32768
abbrev refV (x : Option Addr) (n : Nat) : Value := .agg #[.slice x n n]
theorem size_ref : (Tryz.prog.info? 34).map (·.size) = some 1 := by kernel_rfl
set_option maxRecDepth 100000 in
theorem refNew_any (w : World) (n : Nat) (h1 : (1 : Int) ≤ n) (h2 : (n : Int) ≤ 512) :
    Calls Tryz.prog 16 #[.int .i64 n] w fun e w' => e = .returned (refV (some ⟨w.heap.size + 1, 0, none⟩) (64 * n)) ∧ Kep w w' ∧ w'.heap[w.heap.size + 1]? = some (.cells (byt (List.replicate (64 * n) 0)).toArray 5 (0, 0)) := by
  have m1 := make_row (n * 64) (by omega)
  have e1 : ((n * 64 : Nat) : Int) = (n : Int) * 64 := by omega
  rw [e1] at m1
  have e2 : 64 * n = n * 64 := by omega
  rw [e2]
  clear e1 e2
  generalize (byt (List.replicate (n * 64) 0)).toArray = Z at m1
  go_enter Tryz.func16, Tryz.ntmps16
  go_wp2
  refine bodyPost_ret (results1 rfl _ _ w.heap.size 34 #[.slice (some ⟨w.heap.size + 1, 0, none⟩) (n * 64) (n * 64)] (0, 0) _ rfl ?_ Tryz.underlying34 rfl size_ref) rfl ⟨rfl, ((Kep.refl _).alloc _).alloc _, ?_⟩
  · exact (hsk _ _ _ (by simp)).trans (hat _ _ _ rfl)
  · exact hat _ _ _ (by simp)
theorem splice_step (B : List Int) (a : Nat) (zs : List Int) (k : Nat) (hk : k < zs.length) (h : a + zs.length ≤ B.length) : (splice B a (zs.take k)).set (a + k) (zs.getD k 0) = splice B a (zs.take (k + 1)) := by
  have l1 : (zs.take k).length = k := by simp; omega
  have l2 : (zs.take (k + 1)).length = k + 1 := by simp; omega
  have e : zs.take (k + 1) = zs.take k ++ [zs.getD k 0] := by rw [List.take_add_one]; simp [List.getD, hk]
  unfold splice
  rw [l1, l2, e, List.append_assoc, List.set_append_right _ _ (by simp; omega), List.length_take, show min a B.length = a by omega, show a + k - a = k by omega, List.set_append_right _ _ (by omega), l1, Nat.sub_self]
  congr 2
  rw [← Nat.add_assoc]
  obtain ⟨y, hy⟩ : ∃ y, B.drop (a + k) = y :: B.drop (a + k + 1) := ⟨_, (List.drop_eq_getElem_cons (by omega))⟩
  rw [hy]
  simp
theorem splice_zero (B : List Int) (a : Nat) (zs : List Int) : splice B a (zs.take 0) = B := by simp [splice]
theorem layL_range {n : Nat} : ∀ (zs B : List Int) (a : Nat), B.length = 64 * n → a + zs.length ≤ 64 * n → layL B (List.range n) a zs = splice B a zs
  | [], B, a, _, _ => (splice_nil B _).symm
  | z :: zs, B, a, h1, h2 => by
    simp only [List.length_cons] at h2
    rw [layL, pos_range (by omega), layL_range zs _ _ (by simpa using h1) (by omega)]
    exact splice_cons _ _ _ _ (by omega)
set_option maxRecDepth 100000 in
theorem refFill_any (w : World) (y : Option Addr) (Rb : Nat) (B : List Int) (h : Refd w y Rb B) (a : Nat) (ha : (a : Int) < 4294967296) (x : Option Addr) (zs : List Int) (len cap : Nat) (hl : zs.length = len) (hlc : len ≤ cap) (hmax : (cap : Int) ≤ 9223372036854775807) (S : Src w x zs [Rb]) :
    Calls Tryz.prog 17 #[refV y B.length, .int .u32 a, .slice x len cap] w fun e w' => e = .returned (.bool (decide (a + len ≤ B.length))) ∧ Put [Rb] w w' ∧ RowB w' Rb (if a + len ≤ B.length then splice B a zs else B) := by
  obtain ⟨n, hn⟩ : ∃ n, n = B.length := ⟨_, rfl⟩
  have hm := h.max
  have hr : Hid (∀ o, RowB (w.alloc o) Rb B) := fun o => h.row.kep ((Kep.refl _).alloc o)
  have hadr := h.adr
  by_cases h1 : a ≤ B.length
  · by_cases h2 : a + len ≤ B.length
    · rw [if_pos h2, decide_eq_true h2]
      rw [← hn] at h1 h2 hm ⊢
      have g1 : (a : Int) ≤ n := by omega
      have g2 : (a : Int) + len ≤ n := by omega
      have g3 : decide ((n : Int) < (a : Int)) = false := decide_eq_false (by omega)
      have g4 : decide ((n : Int) - (a : Int) < len) = false := decide_eq_false (by omega)
      have hlc' : (len : Int) ≤ cap := by omega
      have S' : Hid (Src w x zs [Rb]) := S
      have hw : Hid (B ≠ [] → Rb < w.heap.size) := fun hB => h.row.lt hB
      have hn' : Hid (n = B.length) := hn
      have ha' : Hid (B ≠ [] → y = some ⟨Rb, 0, none⟩) := hadr
      have hl' : Hid (zs.length = len) := hl
      clear h hn S ha hadr hl h1 h2
      go_enter Tryz.func17, Tryz.ntmps17
      go_wp2
      go_loopw [7] (fun i wr => ∃ k : Nat, (k : Int) ≤ len ∧ i = .int .i64 k ∧ Hid (Put [Rb] (w.alloc (.cells #[.slice y n n] 34)) wr ∧ RowB wr Rb (splice B a (zs.take k)))) (fun i _ => len - (intOf i).toNat)
      case atStart => exact ⟨0, by omega, rfl, Put.refl _, by rw [splice_zero]; exact hr.out _⟩
      case round =>
        obtain ⟨k, hk, rfl, hP⟩ := hrel
        by_cases hlt : k < len
        · have hlt' : (k : Int) < len := by omega
          have hz := hl'.out
          have hB : B ≠ [] := by intro e; have := hn'.out; rw [e] at this; simp at this; omega
          have hRb := hw.out hB
          rcases (S'.out.put (Put.of_kep ((Kep.refl _).alloc (.cells #[.slice y n n] 34)))).put hP.out.1 with e | ⟨b, off, rfl, hb, hbn, hcell⟩
          · rw [e] at hz; simp at hz; omega
          have d0 : wr.cell? ⟨w.heap.size, 0, none⟩ = some (.slice y n n) := by
            rw [hP.out.1.cell (by simp) (by simp; omega)]; simp
          rw [ha'.out hB] at d0
          have d1 := hcell k (by omega)
          have hlen : (splice B a (zs.take k)).length = n := by rw [length_splice _ _ _ (by simp; have := hn'.out; omega)]; exact hn'.out.symm
          have hr2 := hP.out.2
          have hne2 : splice B a (zs.take k) ≠ [] := by intro e; rw [e] at hlen; simp at hlen; omega
          have d2 := hr2.cell (k := a + k) (by omega)
          have f2 : wr.frozen? ⟨Rb, a + k, none⟩ = false := by simp only [World.frozen?, hr2 hne2]; simp
          have hstep : Hid ((splice B a (zs.take k)).set (a + k) (zs.getD k 0) = splice B a (zs.take (k + 1))) := splice_step B a zs k (by omega) (by have := hn'.out; omega)
          have hr2' : Hid (RowB wr Rb (splice B a (zs.take k))) := hr2
          generalize zs.getD k 0 = z at d1 hstep
          generalize (splice B a (zs.take k)).getD (a + k) 0 = z0 at d2
          have hbR : b ≠ Rb := by simpa using hbn
          have hwR : w.heap.size ≠ Rb := by omega
          clear hr2 hne2 hcell hbn hz hlen hlt
          go_wp2
          go_region
          all_goals
            go_wp2
            go_roundw
            case rel =>
              refine ⟨k + 1, by omega, by go_num, (hP.out.1.setCell (by simp) _).drew, ?_⟩
              have := hr2'.out.set (a + k) z
              rw [hstep.out] at this
              exact this.kep (Kep.refl _).drew
            case measure => simp [intOf]; omega
        · have : k = len := by omega
          go_wp2
          go_ret
          have e1 : zs.take k = zs := List.take_of_length_le (by have := hl'.out; omega)
          have := hP.out
          rw [e1] at this
          exact ⟨rfl, (Put.of_kep ((Kep.refl _).alloc _)).trans this.1, this.2⟩
    · rw [if_neg h2, decide_eq_false h2]
      rw [← hn] at h1 h2 hm ⊢
      have g1 : (a : Int) ≤ n := by omega
      have g3 : decide ((n : Int) < (a : Int)) = false := decide_eq_false (by omega)
      have g4 : decide ((n : Int) - (a : Int) < len) = true := decide_eq_true (by omega)
      have hlc' : (len : Int) ≤ cap := by omega
      clear h hn S ha hadr hl h1
      have g2 : (n : Int) < a + len := by omega
      clear h2
      go_enter Tryz.func17, Tryz.ntmps17
      go_wp2
      go_ret
      exact ⟨rfl, Put.of_kep ((Kep.refl _).alloc _), hr.out _⟩
  · rw [if_neg (by omega), decide_eq_false (by omega)]
    rw [← hn] at h1 hm ⊢
    have g1 : (n : Int) < a := by omega
    have g3 : decide ((n : Int) < (a : Int)) = true := decide_eq_true (by omega)
    have hlc' : (len : Int) ≤ cap := by omega
    clear h hn S hadr hl h1
    go_enter Tryz.func17, Tryz.ntmps17
    go_wp2
    go_ret
    exact ⟨rfl, Put.of_kep ((Kep.refl _).alloc _), hr.out _⟩
theorem enc_byts (r : Nat) (op a b imm : Int) (h0 : 0 ≤ op ∧ op < 256) (ha : 0 ≤ a ∧ a ≤ 7) (hb : 0 ≤ b ∧ b ≤ 7) : Byts (encL r op a b imm) := by
  intro n hn
  unfold encL preL at hn
  rw [List.mem_append] at hn
  rcases hn with hn | hn
  · split at hn
    · simp only [List.mem_cons, List.not_mem_nil, or_false] at hn
      rcases hn with rfl | rfl <;> omega
    · simp only [List.mem_cons, List.not_mem_nil, or_false] at hn
      subst hn; omega
  · obtain ⟨j, _, rfl⟩ := List.mem_map.1 hn
    unfold byteAt; omega
theorem codL_byts : ∀ (C : List In4) (x : List Int × Nat), (∀ i ∈ C, In4.Ok i) → Byts x.1 → Byts (codL C x).1
  | [], x, _, h => h
  | i :: r, x, hC, h => by
    have hi := hC i (by simp)
    refine codL_byts r (codS x i) (fun j hj => hC j (by simp [hj])) ?_
    unfold codS
    split
    · rename_i hm
      obtain ⟨h0, h1, h2⟩ := may3 hm
      obtain ⟨f1, f2⟩ := f12_le (rowOf_lt i.1 false)
      obtain ⟨o, a, b, _⟩ := hi
      exact layE_byts _ _ _ h (enc_byts _ _ _ _ _ o ⟨a.1, by omega⟩ ⟨b.1, by omega⟩)
    · exact h
theorem gstL_byts {fr : Int} {Z : List Int} {C : List In4} {en : Int} (hZ : Byts Z) (hC : ∀ i ∈ C, In4.Ok i) : Byts (gstL fr Z C en) := by
  unfold gstL
  refine codL_byts _ _ (fun i hi => hC i (List.mem_of_mem_take hi)) ?_
  intro n hn
  unfold cpyL at hn
  rcases List.mem_append.1 hn with hn | hn
  · exact hZ n (List.mem_of_mem_take (List.mem_of_mem_take hn))
  · have := List.eq_of_mem_replicate hn; omega
end Go.Proofs.YtamffningddgbaaGreatDoor
namespace Go.Proofs.YtamffningddgbaaGreatDoor
open Go.RowKit Go.WideShapes Go.ChangeShapes Go.ChangeAt
set_option linter.unusedVariables false
theorem list2 {α : Type} (l : List α) (h : l.length = 2) : ∃ a b, l = [a, b] := by
  match l, h with
  | [a, b], _ => exact ⟨a, b, rfl⟩
theorem list3 {α : Type} (l : List α) (h : l.length = 3) : ∃ a b c, l = [a, b, c] := by
  match l, h with
  | [a, b, c], _ => exact ⟨a, b, c, rfl⟩
theorem list4 {α : Type} (l : List α) (h : l.length = 4) : ∃ a b c d, l = [a, b, c, d] := by
  match l, h with
  | [a, b, c, d], _ => exact ⟨a, b, c, d, rfl⟩
theorem no_spot {w : World} {b off : Nat} {s : Option Nat} {v : Value} (h : w.cell? ⟨b, off, s⟩ = some v) : s = none := by
  cases s with
  | none => rfl
  | some t => exfalso; simp [World.cell?] at h; revert h; split <;> simp
end Go.Proofs.YtamffningddgbaaGreatDoor
namespace Go.Proofs.YtamffningddgbaaGreatDoor
open Go.RowKit Go.ChangeShapes Go.WideShapes Go.ChangeAt
set_option linter.unusedVariables false
theorem trod_five {H : Type} {enc : TypeId × Value → H} {P : Program} {w : World} {base : Nat} {spare : Nat → Bool} {held : Bool} {t : TypeId} {f0 f1 f2 f3 f4 : Field} {fuel : Nat} {cs : List Value} {x : DataW H × List MemPlace}
    (ht : P.underlying t = some (.struct #[f0, f1, f2, f3, f4])) (h : DataW.trod enc P w base spare held fuel t cs = some x) :
    ∃ y0 y1 y2 y3 y4 n, cs.length = P.cellsOf t ∧ DataW.trod enc P w base spare held n f0.type ((cs.drop f0.offset).take (P.cellsOf f0.type)) = some y0 ∧
      DataW.trod enc P w base spare held n f1.type ((cs.drop f1.offset).take (P.cellsOf f1.type)) = some y1 ∧ DataW.trod enc P w base spare held n f2.type ((cs.drop f2.offset).take (P.cellsOf f2.type)) = some y2 ∧
      DataW.trod enc P w base spare held n f3.type ((cs.drop f3.offset).take (P.cellsOf f3.type)) = some y3 ∧ DataW.trod enc P w base spare held n f4.type ((cs.drop f4.offset).take (P.cellsOf f4.type)) = some y4 := by
  obtain ⟨xs, n, _, rfl, hl, hlen, hf⟩ := DataW.trod_struct ht h
  match xs, hlen with
  | [y0, y1, y2, y3, y4], _ => exact ⟨y0, y1, y2, y3, y4, n, hl, by simpa using hf 0 f0 rfl, by simpa using hf 1 f1 rfl, by simpa using hf 2 f2 rfl, by simpa using hf 3 f3 rfl, by simpa using hf 4 f4 rfl⟩
theorem list19 {α : Type} (l : List α) (h : l.length = 19) : ∃ v0 v1 v2 v3 v4 v5 v6 v7 v8 v9 v10 v11 v12 v13 v14 v15 v16 v17 v18, l = [v0, v1, v2, v3, v4, v5, v6, v7, v8, v9, v10, v11, v12, v13, v14, v15, v16, v17, v18] := by
  match l, h with
  | [v0, v1, v2, v3, v4, v5, v6, v7, v8, v9, v10, v11, v12, v13, v14, v15, v16, v17, v18], _ => exact ⟨v0, v1, v2, v3, v4, v5, v6, v7, v8, v9, v10, v11, v12, v13, v14, v15, v16, v17, v18, rfl⟩
theorem list8 {α : Type} (l : List α) (h : l.length = 8) : ∃ a b c d e f g i, l = [a, b, c, d, e, f, g, i] := by
  match l, h with
  | [a, b, c, d, e, f, g, i], _ => exact ⟨a, b, c, d, e, f, g, i, rfl⟩
theorem arr_in {H : Type} {enc : TypeId × Value → H} {P : Program} {w : World} {base : Nat} {sp : Nat → Bool} {held : Bool} {t e : TypeId} {n fuel : Nat} {k : IntKind} {cs : List Value} {y : DataW H × List MemPlace} (ht : P.underlying t = some (.array n e)) (he : P.underlying e = some (.int k)) (hc : P.cellsOf e = 1) (hl : cs.length = n)
    (hf : DataW.trod enc P w base sp held fuel t cs = some y) : ∃ zs : List Int, zs.length = n ∧ cs = zs.map (Value.int k) ∧ ∀ z ∈ zs, (Lit.int k z).wf = true := by
  obtain ⟨xs, m, _, _, _, hxl, hx⟩ := DataW.trod_array ht hf
  have each : ∀ i, i < n → ∃ z : Int, cs[i]? = some (.int k z) ∧ (Lit.int k z).wf = true := by
    intro i hi
    have h1 := hx i hi
    rw [hc, List.getElem?_eq_getElem (by omega)] at h1
    obtain ⟨z, e1, _, q⟩ := DataW.trod_int he h1
    refine ⟨z, ?_, q⟩
    simp only [Nat.mul_one] at e1
    have := congrArg (fun l => l[0]?) e1
    simpa using this
  obtain ⟨zs, hzs⟩ : ∃ zs : List Int, zs.length = n ∧ ∀ i, i < n → ∃ z, zs[i]? = some z ∧ cs[i]? = some (.int k z) ∧ (Lit.int k z).wf = true := by
    refine ⟨(List.range n).map fun i => if hi : i < n then (each i hi).choose else 0, by simp, fun i hi => ⟨(each i hi).choose, by simp [hi], (each i hi).choose_spec⟩⟩
  refine ⟨zs, hzs.1, ?_, fun z hz => ?_⟩
  · apply List.ext_getElem?
    intro i
    by_cases hi : i < n
    · obtain ⟨z, e1, e2, _⟩ := hzs.2 i hi
      rw [e2, List.getElem?_map, e1]; rfl
    · rw [List.getElem?_eq_none (by omega), List.getElem?_eq_none (by rw [List.length_map]; omega)]
  · obtain ⟨i, hi, rfl⟩ := List.mem_iff_getElem.1 hz
    obtain ⟨z, e1, _, q⟩ := hzs.2 i (by omega)
    rw [List.getElem?_eq_getElem hi] at e1
    obtain rfl := Option.some.inj e1
    exact q
theorem getD_range (zs : List Int) (h : ∀ z ∈ zs, (Lit.int .u32 z).wf = true) (n : Nat) : 0 ≤ zs.getD n 0 ∧ zs.getD n 0 < 4294967296 := by
  rw [List.getD_eq_getElem?_getD]
  cases e : zs[n]? with
  | none => exact ⟨by decide, by decide⟩
  | some z =>
    have hz : z ∈ zs := List.mem_of_getElem? e
    have := bounds_u32 (h z hz)
    simp only [Option.getD_some]
    omega
theorem sta_of {H : Type} {enc : TypeId × Value → H} {w : World} {base : Nat} {sp : Nat → Bool} {held : Bool} {fuel : Nat} {cs : List Value} {y : DataW H × List MemPlace}
    (h : DataW.trod enc Tryz.prog w base sp held fuel 28 cs = some y) : ∃ s : Sta, s.Ok ∧ cs = s.v.toList := by
  obtain ⟨y0, y1, y2, y3, y4, n, hl, g0, g1, g2, g3, g4⟩ := trod_five Tryz.underlying28 h
  have c19 : Tryz.prog.cellsOf 28 = 19 := by kernel_rfl
  have c8 : Tryz.prog.cellsOf 26 = 8 := by kernel_rfl
  have c1 : Tryz.prog.cellsOf 25 = 1 := by kernel_rfl
  have cb : Tryz.prog.cellsOf 4 = 1 := by kernel_rfl
  rw [c19] at hl
  obtain ⟨v0, v1, v2, v3, v4, v5, v6, v7, v8, v9, v10, v11, v12, v13, v14, v15, v16, v17, v18, rfl⟩ := list19 cs hl
  rw [c8] at g0 g3
  rw [c1] at g1 g2
  rw [cb] at g4
  obtain ⟨zs, l0, e0, q0⟩ := arr_in Tryz.underlying26 Tryz.underlying25 c1 (by simp) g0
  obtain ⟨pc, e1, _, q1⟩ := DataW.trod_int Tryz.underlying25 g1
  obtain ⟨ps, e2, _, q2⟩ := DataW.trod_int Tryz.underlying25 g2
  obtain ⟨xs, l3, e3, q3⟩ := arr_in Tryz.underlying26 Tryz.underlying25 c1 (by simp) g3
  obtain ⟨hb, e4, _⟩ := DataW.trod_bool Tryz.underlying4 g4
  refine ⟨⟨fun k => zs.getD k 0, pc, ps, fun k => xs.getD k 0, hb⟩, ⟨getD_range zs q0, ?_, ?_, getD_range xs q3⟩, ?_⟩
  · have := bounds_u32 q1; exact ⟨by show 0 ≤ pc; omega, by show pc < _; omega⟩
  · have := bounds_u32 q2; exact ⟨by show 0 ≤ ps; omega, by show ps < _; omega⟩
  obtain ⟨a0, a1, a2, a3, a4, a5, a6, a7, rfl⟩ := list8 zs l0
  obtain ⟨b0, b1, b2, b3, b4, b5, b6, b7, rfl⟩ := list8 xs l3
  simp at e0 e1 e2 e3 e4
  simp [Sta.v, e0, e1, e2, e3, e4]
end Go.Proofs.YtamffningddgbaaGreatDoor
namespace Go.Proofs.YtamffningddgbaaGreatDoor
open Go.RowKit Go.WideShapes Go.ChangeShapes Go.ChangeAt
set_option linter.unusedVariables false
theorem byts_of {zs : List Int} (h : ∀ n ∈ zs, (Lit.int .u8 n).wf = true) : Byts zs := by
  intro n hn
  have := h n hn
  simp [Lit.wf, IntKind.min, IntKind.max, IntKind.signed, IntKind.bits] at this; omega
def BSl (w : World) (x : Option Addr) (l c : Nat) (zs : List Int) : Prop := zs.length = l ∧ l ≤ c ∧ (c : Int) ≤ 9223372036854775807 ∧ Src w x zs [] ∧ Byts zs
theorem bsl_of {H : Type} {enc : TypeId × Value → H} {w : World} {base : Nat} {sp : Nat → Bool} {held : Bool} {fuel : Nat} {v : Value} {y : DataW H × List MemPlace}
    (h : DataW.trod enc Tryz.prog w base sp held fuel 22 [v] = some y) : ∃ (x : Option Addr) (l c : Nat) (zs : List Int), v = .slice x l c ∧ BSl w x l c zs := by
  rcases open_ints Tryz.underlying22 Tryz.underlying5 (by kernel_rfl) h with ⟨hcs, _⟩ | ⟨a, l, c, zs, hcs, _, hl, hm, hz, _, hcell, hwz⟩
  · simp at hcs
    exact ⟨none, 0, 0, [], hcs, rfl, Nat.le_refl _, by omega, .inl rfl, fun b hb => by simp at hb⟩
  · simp at hcs
    have hzl : l ≤ zs.length := by rw [hz]; split <;> omega
    refine ⟨some a, l, c, zs.take l, hcs, by simp; omega, hl, by unfold maxLen at hm; omega, ?_, fun b hb => byts_of hwz b (List.take_subset _ _ hb)⟩
    rcases Nat.eq_zero_or_pos l with rfl | hpos
    · exact .inl (by simp)
    right
    obtain ⟨b, off, s⟩ := a
    have h0 := hcell 0 (by omega)
    have hs : s = none := no_spot h0
    subst hs
    refine ⟨b, off, rfl, World.block_lt_of_cell? w _ h0, by simp, fun i hi => ?_⟩
    have hil : i < l := by simp at hi; omega
    have := hcell i (by omega)
    rw [Addr.add_lit] at this
    rw [this]
    simp [List.getD, hil]
end Go.Proofs.YtamffningddgbaaGreatDoor
namespace Go.Proofs.YtamffningddgbaaGreatDoor
open Go.RowKit Go.WideShapes Go.ChangeShapes Go.ChangeAt
set_option linter.unusedVariables false
theorem trod_struct3 {H : Type} {enc : TypeId × Value → H} {P : Program} {w : World} {base : Nat} {spare : Nat → Bool} {held : Bool} {t : TypeId} {f0 f1 f2 : Field} {fuel : Nat} {cs : List Value} {x : DataW H × List MemPlace}
    (ht : P.underlying t = some (.struct #[f0, f1, f2])) (h : DataW.trod enc P w base spare held fuel t cs = some x) :
    ∃ y0 y1 y2 n, cs.length = P.cellsOf t ∧ DataW.trod enc P w base spare held n f0.type ((cs.drop f0.offset).take (P.cellsOf f0.type)) = some y0 ∧
      DataW.trod enc P w base spare held n f1.type ((cs.drop f1.offset).take (P.cellsOf f1.type)) = some y1 ∧ DataW.trod enc P w base spare held n f2.type ((cs.drop f2.offset).take (P.cellsOf f2.type)) = some y2 := by
  obtain ⟨xs, n, _, rfl, hl, hlen, hf⟩ := DataW.trod_struct ht h
  match xs, hlen with
  | [y0, y1, y2], _ => exact ⟨y0, y1, y2, n, hl, by simpa using hf 0 f0 rfl, by simpa using hf 1 f1 rfl, by simpa using hf 2 f2 rfl⟩
theorem vu8_of {a : Int} (h : (Lit.int .u8 a).wf = true) : 0 ≤ a ∧ a < 256 := by
  simp [Lit.wf, IntKind.min, IntKind.max, IntKind.signed, IntKind.bits] at h; omega
theorem rows3 {α : Type} (cells : α → List Value) (h3 : ∀ a, (cells a).length = 3) {w : World} {b off len : Nat} (each : ∀ i, i < len → ∃ a : α, ∀ j, j < 3 → w.cell? ⟨b, off + i * 3 + j, none⟩ = (cells a)[j]?) (good : α → Prop) (hg : ∀ i, (hi : i < len) → ∃ a : α, (∀ j, j < 3 → w.cell? ⟨b, off + i * 3 + j, none⟩ = (cells a)[j]?) ∧ good a) :
    ∃ es : List α, es.length = len ∧ (∀ a ∈ es, good a) ∧ ∀ j u, (es.flatMap cells)[j]? = some u → w.cell? ⟨b, off + j, none⟩ = some u := by
  induction len with
  | zero => exact ⟨[], rfl, by simp, by simp⟩
  | succ n ih =>
    obtain ⟨es, h1, h2, h4⟩ := ih (fun i hi => each i (by omega)) (fun i hi => hg i (by omega))
    obtain ⟨a, ha, hga⟩ := hg n (by omega)
    have hfl : (es.flatMap cells).length = n * 3 := by
      rw [← h1]; clear h1 h2 h4 ha hg ih each
      induction es with
      | nil => rfl
      | cons x xs ih => simp only [List.flatMap_cons, List.length_append, List.length_cons, ih, h3]; omega
    refine ⟨es ++ [a], by simp [h1], fun x hx => ?_, fun j u hj => ?_⟩
    · rcases List.mem_append.1 hx with h | h
      · exact h2 x h
      · simp at h; subst h; exact hga
    · rw [List.flatMap_append, List.flatMap_cons, List.flatMap_nil, List.append_nil] at hj
      by_cases hlt : j < n * 3
      · rw [List.getElem?_append_left (by omega)] at hj; exact h4 j u hj
      · rw [List.getElem?_append_right (by omega), hfl] at hj
        have hj3 : j - n * 3 < 3 := by have := (List.getElem?_eq_some_iff.1 hj).1; rw [h3] at this; exact this
        have := ha (j - n * 3) hj3
        rw [hj, Nat.add_assoc, show n * 3 + (j - n * 3) = j by omega] at this
        exact this
theorem ev_of {H : Type} {enc : TypeId × Value → H} {w : World} {base : Nat} {sp : Nat → Bool} {held : Bool} {fuel : Nat} {cs : List Value} {y : DataW H × List MemPlace}
    (h : DataW.trod enc Tryz.prog w base sp held fuel 246 cs = some y) : ∃ e : Ev, cs = evV e ∧ 0 ≤ e.2.2 ∧ e.2.2 < 256 := by
  obtain ⟨y0, y1, y2, n, hl, g0, g1, g2⟩ := trod_struct3 Tryz.underlying246 h
  have cE : Tryz.prog.cellsOf 246 = 3 := by kernel_rfl
  have c3 : Tryz.prog.cellsOf 3 = 1 := by kernel_rfl
  have c5 : Tryz.prog.cellsOf 5 = 1 := by kernel_rfl
  rw [cE] at hl
  obtain ⟨v0, v1, v2, rfl⟩ := list3 cs hl
  rw [c3] at g0 g1
  rw [c5] at g2
  obtain ⟨a, e0, _, q0⟩ := DataW.trod_int Tryz.underlying3 g0
  obtain ⟨k, e1, _, q1⟩ := DataW.trod_int Tryz.underlying3 g1
  obtain ⟨b, e2, _, q2⟩ := DataW.trod_int Tryz.underlying5 g2
  simp at e0 e1 e2
  subst e0 e1 e2
  exact ⟨(a, k, b), rfl, vu8_of q2⟩
structure EvRow (w : World) (x : Option Addr) (len cap : Nat) (E : List Ev) : Prop where
  hl : E.length = len
  hle : len ≤ cap
  hmax : (cap : Int) ≤ 9223372036854775807
  lies : Lies w x (evs E)
  byte : ∀ e ∈ E, 0 ≤ e.2.2 ∧ e.2.2 < 256
theorem evs_of {H : Type} {enc : TypeId × Value → H} {w : World} {base : Nat} {sp : Nat → Bool} {held : Bool} {fuel : Nat} {x : Option Addr} {len cap : Nat} {y : DataW H × List MemPlace}
    (h : DataW.trod enc Tryz.prog w base sp held fuel 29 (Value.slice x len cap).cells.toList = some y) : ∃ E, EvRow w x len cap E := by
  rcases Go.Deep.open_slice Tryz.underlying29 h with ⟨hcs, _⟩ | ⟨a, l, c, m, n, D, Pl, hcs, _, hl, hm, hmm, _, hx⟩
  · simp [Value.cells] at hcs
    obtain ⟨rfl, rfl, rfl⟩ := hcs
    exact ⟨[], rfl, Nat.le_refl _, by decide, .inl rfl, by simp⟩
  · simp [Value.cells] at hcs
    obtain ⟨rfl, rfl, rfl⟩ := hcs
    have c3 : Tryz.prog.cellsOf 246 = 3 := by kernel_rfl
    have hlm : len ≤ m := by rw [hmm]; split <;> omega
    have hm' : (cap : Int) ≤ 9223372036854775807 := by unfold maxLen at hm; omega
    rcases Nat.eq_zero_or_pos len with h0 | h0
    · exact ⟨[], h0.symm, hl, hm', .inl rfl, by simp⟩
    obtain ⟨b, off, s⟩ := a
    have each0 : ∀ i, i < len → ∃ e : Ev, (∀ j, j < 3 → w.cell? (((⟨b, off, s⟩ : Addr).add (i * 3)).add j) = (evV e)[j]?) ∧ (0 ≤ e.2.2 ∧ e.2.2 < 256) := by
      intro i hi
      obtain ⟨cs, h1, h2⟩ := hx i (by omega)
      rw [c3] at h1
      obtain ⟨_, hlen, hcell⟩ := World.cells?_some h1
      obtain ⟨e, rfl, hs⟩ := ev_of h2
      exact ⟨e, fun j hj => by rw [hcell j hj], hs⟩
    obtain ⟨e0, hc0, _⟩ := each0 0 h0
    have hc1 : w.cell? (((⟨b, off, s⟩ : Addr).add (0 * 3)).add 0) = some (.int .i64 e0.1) := hc0 0 (by omega)
    have hs : s = none := by simp only [Addr.add] at hc1; exact no_spot hc1
    subst hs
    have each : ∀ i, i < len → ∃ e : Ev, (∀ j, j < 3 → w.cell? ⟨b, off + i * 3 + j, none⟩ = (evV e)[j]?) ∧ (0 ≤ e.2.2 ∧ e.2.2 < 256) := fun i hi => by
      obtain ⟨e, h1, h2⟩ := each0 i hi
      exact ⟨e, fun j hj => by have := h1 j hj; rw [Addr.add_lit, Addr.add_lit] at this; exact this, h2⟩
    obtain ⟨E, r1, r2, r3⟩ := rows3 evV (fun _ => rfl) (fun i hi => (each i hi).imp fun _ h => h.1) _ each
    exact ⟨E, r1, hl, hm', .inr ⟨b, off, rfl, World.block_lt_of_cell? w _ hc1, r3⟩, r2⟩
end Go.Proofs.YtamffningddgbaaGreatDoor
