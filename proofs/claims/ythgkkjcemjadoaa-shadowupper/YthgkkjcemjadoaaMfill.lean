/- Bytes that are laid into a memory, from an address on. -/
import Derived.Test.YthgkkjcemjadoaaMframe
namespace Go.Proofs.Ythgkkjcemjadoaa
open Go.RowKit
set_option linter.unusedVariables false

/-- Bytes laid one behind the other from address a on. -/
def layL (B : List Int) (ix : List Nat) (a : Nat) : List Int → List Int
  | [] => B
  | z :: zs => layL (B.set (pos ix a) z) ix (a + 1) zs
theorem layL_len (ix : List Nat) : ∀ (zs B : List Int) (a : Nat), (layL B ix a zs).length = B.length
  | [], _, _ => rfl
  | z :: zs, B, a => by simp [layL, layL_len ix zs]
theorem layL_append (ix : List Nat) : ∀ (xs ys B : List Int) (a : Nat), layL B ix a (xs ++ ys) = layL (layL B ix a xs) ix (a + xs.length) ys
  | [], ys, B, a => rfl
  | z :: zs, ys, B, a => by
    simp only [List.cons_append, layL, layL_append ix zs, List.length_cons]
    rw [show a + 1 + zs.length = a + (zs.length + 1) by omega]
theorem Byts.layL (ix : List Nat) : ∀ (zs B : List Int) (a : Nat), Byts B → Byts zs → Byts (layL B ix a zs)
  | [], _, _, h, _ => h
  | z :: zs, B, a, h, hz => Byts.layL ix zs _ _ (h.set _ (hz z (by simp)).1 (hz z (by simp)).2) (fun b hb => hz b (by simp [hb]))
theorem splice_cons (B : List Int) (p : Nat) (z : Int) (zs : List Int) (h : p < B.length) : splice (B.set p z) (p + 1) zs = splice B p (z :: zs) := by
  unfold splice
  apply List.ext_getElem?
  intro j
  simp only [List.getElem?_append, List.getElem?_take, List.getElem?_drop, List.getElem?_set, List.length_take, List.length_set, List.length_cons]
  rcases Nat.lt_trichotomy j p with h1 | rfl | h1
  · simp [show j < min (p + 1) B.length by omega, show j < min p B.length by omega, show j < p + 1 by omega, show j < p by omega, show p ≠ j by omega]
  · simp [show j < min (j + 1) B.length by omega, show ¬ j < min j B.length by omega, h]
    simp [show min j B.length = j by omega]
  · have e1 : min (p + 1) B.length = p + 1 := by omega
    have e2 : min p B.length = p := by omega
    rw [e1, e2]
    simp only [show ¬ j < p + 1 by omega, if_false, show ¬ j < p by omega]
    obtain ⟨k, rfl⟩ : ∃ k, j = p + 1 + k := ⟨j - (p + 1), by omega⟩
    rw [show p + 1 + k - (p + 1) = k by omega, show p + 1 + k - p = k + 1 by omega]
    simp only [List.getElem?_cons_succ, Nat.add_lt_add_iff_right]
    split
    · rfl
    · rw [if_neg (by omega)]
      congr 1
      omega
theorem splice_nil (B : List Int) (p : Nat) : splice B p [] = B := by simp [splice]
theorem pos_succ (ix : List Nat) (a : Nat) (h : a % 64 + 1 < 64) : pos ix (a + 1) = pos ix a + 1 := by
  unfold pos
  rw [show (a + 1) / 64 = a / 64 by omega]
  omega
theorem layL_chunk (ix : List Nat) : ∀ (xs B : List Int) (a : Nat), a % 64 + xs.length ≤ 64 → pos ix a + xs.length ≤ B.length → layL B ix a xs = splice B (pos ix a) xs
  | [], B, a, _, _ => (splice_nil B _).symm
  | [z], B, a, _, h => by
    rw [← splice_cons _ _ _ _ (by simp at h; omega), splice_nil]; rfl
  | z :: y :: xs, B, a, h1, h2 => by
    have e := pos_succ ix a (by simp at h1; omega)
    rw [layL, layL_chunk ix (y :: xs) (B.set (pos ix a) z) (a + 1) (by simp at h1 ⊢; omega) (by rw [e]; simp at h2 ⊢; omega), e]
    exact splice_cons _ _ _ _ (by simp at h2; omega)
theorem byt_splice (B : List Int) (p : Nat) (xs : List Int) : splice (byt B) p (byt xs) = byt (splice B p xs) := by simp [splice, byt, List.map_drop, List.map_take]

/-- A slice whose elements are the bytes zs, in a block that is none of l. -/
def Src (w : World) (x : Option Addr) (zs : List Int) (l : List Nat) : Prop :=
  zs = [] ∨ ∃ b off : Nat, x = some ⟨b, off, none⟩ ∧ b < w.heap.size ∧ b ∉ l ∧ ∀ i, i < zs.length → w.cell? ⟨b, off + i, none⟩ = some (.int .u8 (zs.getD i 0))
theorem Src.put {w w' : World} {x : Option Addr} {zs : List Int} {l : List Nat} (h : Src w x zs l) (k : Put l w w') : Src w' x zs l := by
  rcases h with h | ⟨b, off, e, hb, hl, hc⟩
  · exact .inl h
  · exact .inr ⟨b, off, e, Nat.lt_of_lt_of_le hb k.size, hl, fun i hi => (k.cell hb hl).trans (hc i hi)⟩
theorem Src.mono {w : World} {x : Option Addr} {zs : List Int} {l m : List Nat} (h : Src w x zs l) (k : ∀ b ∈ m, b ∈ l) : Src w x zs m := by
  rcases h with h | ⟨b, off, e, hb, hl, hc⟩
  · exact .inl h
  · exact .inr ⟨b, off, e, hb, fun hm => hl (k b hm), hc⟩

theorem copy_into {P : Program} {w : World} {ops : Array Oper} {rest : List Oper} {o : Oper} {a : Act} {Q : Exit → Act → World → Prop} (hgd : o.guard = none) (d s : Operand) (dT sT : TypeId)
    (ho : o.op = .call { callee := .builtin .copy, args := #[d, s], argTypes := #[dT, sT] }) (elem : TypeId) (hu : P.underlying dT = some (.slice elem)) (hsz : (P.info? elem).map (·.size) = some 1)
    (g off dLen dCap : Nat) (ad : Addr) (sLen sCap : Nat) (hd : a.eval d = .slice (some ⟨g, off, none⟩) dLen dCap) (hs : a.eval s = .slice (some ad) sLen sCap)
    (cur : List Value) (t : TypeId) (hg : w.heap[g]? = some (.cells cur.toArray t (0, 0))) (cs : List Value) (hn : cs.length = Nat.min sLen dLen)
    (hsrc : ∀ j v, cs[j]? = some v → w.cell? (ad.add j) = some v) (hfit : off + cs.length ≤ cur.length) (h1 : ∀ v ∈ cs, v.oneCell' = true)
    (h : ∀ w', Hid (w'.heap[g]? = some (.cells (splice cur off cs).toArray t (0, 0))) → Hid (Put [g] w w') → wpList P ops Q rest (a.put o.dst (goInt cs.length)) w') : wpList P ops Q (o :: rest) a w := by
  refine wpList_copy_own hgd d s dT sT ho elem hu hsz g off dLen dCap ad sLen sCap hd hs cur.toArray t hg cs hn hsrc (by simpa using hfit) h1 ?_
  exact h _ (show _ = _ by simpa [splice] using setRow_heap w g _ _ t _ hg) ((Put.refl _).setRow (by simp) _)

theorem cut_bytes (x : Option Addr) (l c n : Nat) (hn : n ≤ l) (hc : l ≤ c) (w : World) : (Instr.slice 52 (.slice x l c) (some (.int .i64 n)) none none).run Try.prog w = .ok (.slice (if c = n then x else x.map (·.add n)) (l - n) (c - n)) w := by
  have hs : (sizeOf (Try.prog.elem 52)).run Try.prog w = .ok 1 w := by kernel_rfl
  rw [run_slice_l (P := Try.prog) w 52 x l c (by kernel_rfl) .i64 n (by omega) (by omega), hs]
  simp [sliced, Result.andThen]

def lenV : Value → Nat
  | .slice _ n _ => n
  | _ => 0
theorem take_more (zs : List Int) (k n : Nat) : zs.take (k + n) = zs.take k ++ (zs.drop k).take n := List.take_add

set_option maxRecDepth 100000 in
theorem fill_put (w : World) (v : Value) (R : Nat) (ix : List Nat) (B : List Int) (h : Ram w v R ix) (hix : (ix.length : Int) ≤ 512) (hB : RowB w R B) (hf : Fits B ix) (a : Nat) (ha : (a : Int) < 4294967296) (x : Option Addr) (zs : List Int) (len cap : Nat) (hl : zs.length = len) (hlc : len ≤ cap) (hmax : (cap : Int) ≤ 9223372036854775807) (S : Src w x zs [R]) :
    Calls Try.prog 31 #[v, .int .u32 a, .slice x len cap] w fun e w' => e = .returned (.bool (decide (a + len ≤ 64 * ix.length))) ∧ Put [R] w w' ∧ RowB w' R (if a + len ≤ 64 * ix.length then layL B ix a zs else B) := by
  have hc : Hid (∀ w, Ram w v R ix → Calls Try.prog 49 #[v] w fun e w' => e = .returned (.int .u32 (64 * ix.length)) ∧ w' = w) := fun w h => msize_any w v R ix h hix
  have hF : Hid (∀ w k, Ram w v R ix → k < 64 * ix.length → Calls Try.prog 58 #[v, .int .u32 k] w fun e w' => e = .returned (fromV R ix k) ∧ w' = w) := fun w k h hk => from_any w v R ix h hix k hk
  have h' : Hid (Ram w v R ix) := h
  have hB' : Hid (RowB w R B) := hB
  have hf' : Hid (Fits B ix) := hf
  clear h hB hf
  have hlc' : (len : Int) ≤ cap := by omega
  by_cases hfit : a + len ≤ 64 * ix.length
  · rw [if_pos hfit, decide_eq_true hfit]
    have hfit' : (a : Int) + len ≤ 64 * ix.length := by omega
    have hno : decide (64 * (ix.length : Int) < (a : Int) + len) = false := decide_eq_false (by omega)
    obtain ⟨b, off, hs1⟩ : ∃ b off : Nat, Hid (0 < len → x = some ⟨b, off, none⟩ ∧ b < w.heap.size ∧ b ≠ R ∧ ∀ i, i < len → w.cell? ⟨b, off + i, none⟩ = some (.int .u8 (zs.getD i 0))) := by
      rcases S with rfl | ⟨b, off, e, hb, hn, hcell⟩
      · exact ⟨0, 0, fun h0 => by simp at hl; omega⟩
      · exact ⟨b, off, fun _ => ⟨e, hb, by simpa using hn, by rw [← hl]; exact hcell⟩⟩
    clear S
    go_enter Try.func31, Try.ntmps31
    go_wp2_with (go_at_call 49; refine (hc.out _ h'.out).mono ?_; rintro e w1 ⟨rfl, rfl⟩)
    go_loopw [1, 2] (fun s1 s2 wr => ∃ (k l c : Nat) (x' : Option Addr), k + l = len ∧ (l : Int) ≤ c ∧ (c : Int) ≤ cap ∧ s1 = .int .u32 ((a : Int) + k) ∧ s2 = .slice x' l c ∧ Hid (0 < l → x' = some ⟨b, off + k, none⟩) ∧ Hid (Put [R] w1 wr ∧ RowB wr R (layL B ix a (zs.take k)))) (fun _ s2 _ => lenV s2)
    case atStart => exact ⟨0, len, cap, x, by omega, by omega, by omega, by simp, rfl, fun h0 => (hs1.out h0).1, Put.refl _, by simpa [layL] using hB'.out⟩
    case round =>
      obtain ⟨k, l, c, x', hkl, hl1, hc1, rfl, rfl, hx, hP⟩ := hrel
      rcases Nat.eq_zero_or_pos l with rfl | hl0
      · go_wp2
        go_ret
        have e1 : zs.take k = zs := List.take_of_length_le (by omega)
        have := hP.out
        rw [e1] at this
        exact ⟨rfl, this.1, this.2⟩
      · have hl0' : (0 : Int) < l := by omega
        have hfr := hF.out wr (a + k) (h'.out.put hP.out.1) (by omega)
        have ecast : ((a + k : Nat) : Int) = (a : Int) + k := by omega
        rw [ecast] at hfr
        unfold fromV at hfr
        have hfit0 := (hf'.out.len (layL_len ix (zs.take k) B a)).pos (a := a + k) (by omega)
        have hpm : (a + k) % 64 ≤ pos ix (a + k) := by unfold pos; omega
        obtain ⟨m, hm⟩ : ∃ m, m = 64 - (a + k) % 64 := ⟨_, rfl⟩
        rw [← hm] at hfr
        have hm1 : 1 ≤ m ∧ m ≤ 64 ∧ (a + k) % 64 + m = 64 := by omega
        obtain ⟨q, hq⟩ : ∃ q, q = pos ix (a + k) := ⟨_, rfl⟩
        rw [← hq] at hfr hfit0 hpm
        obtain ⟨n, hn⟩ : ∃ n, n = Nat.min l m := ⟨_, rfl⟩
        have hn1 : 1 ≤ n ∧ n ≤ l ∧ n ≤ m := by have : n = min l m := hn; omega
        obtain ⟨hx1, hbl, hbR, hcell⟩ := hs1.out (by omega)
        have hrow := hP.out.2 (by intro e; have := congrArg List.length e; have h2 := hfit0.2; rw [layL_len] at this h2; simp only [List.length_nil] at this; omega)
        obtain ⟨cs, hcs⟩ : ∃ cs, cs = byt ((zs.drop k).take n) := ⟨_, rfl⟩
        have hcl : cs.length = n := by rw [hcs, byt_len]; simp; omega
        have hsrc : ∀ j v, cs[j]? = some v → wr.cell? ((⟨b, off + k, none⟩ : Addr).add j) = some v := by
          intro j v hj
          have hjn : j < n := by have := (List.getElem?_eq_some_iff.1 hj).1; omega
          rw [hcs, byt_at, List.getElem?_take_of_lt hjn, List.getElem?_drop] at hj
          rw [Addr.add_lit, hP.out.1.cell hbl (by simpa using hbR), Nat.add_assoc, hcell (k + j) (by omega), ← hj]
          simp [show k + j < zs.length by omega]
        have h1c : ∀ v ∈ cs, v.oneCell' = true := by rw [hcs]; exact byt_one _
        obtain ⟨x'', hx''⟩ : ∃ x'', x'' = (if c = n then x' else x'.map (·.add n)) := ⟨_, rfl⟩
        have hsl := cut_bytes x' l c n (by omega) (by omega)
        rw [← hx''] at hsl
        have hfit1 : q + n ≤ (byt (layL B ix a (zs.take k))).length := by rw [byt_len]; omega
        have hfr' : Hid (Calls Try.prog 58 #[v, .int .u32 ((a : Int) + k)] wr fun e w' => e = .returned (.slice (some ⟨R, q, none⟩) m m) ∧ w' = wr) := hfr
        have hX : Hid (0 < l - n → x'' = some ⟨b, off + (k + n), none⟩) := by
          intro h0
          rw [hx'', hx.out (by omega), if_neg (by omega)]
          simp [Addr.add_lit, Nat.add_assoc]
        have hR : Hid (layL B ix a (zs.take (k + n)) = splice (layL B ix a (zs.take k)) q ((zs.drop k).take n)) := by
          have hlen : (zs.take k).length = k := by simp; omega
          have hlen2 : ((zs.drop k).take n).length = n := by simp; omega
          rw [Hid, take_more, layL_append, hlen, layL_chunk ix _ _ (a + k) (by rw [hlen2]; omega) (by rw [hlen2, ← hq, ← byt_len]; exact hfit1), ← hq]
        have hcs' : Hid (cs = byt ((zs.drop k).take n)) := hcs
        have hrow' : Hid (wr.heap[R]? = some (.cells (byt (layL B ix a (zs.take k))).toArray 5 (0, 0))) := hrow
        have hx2 : x' = some ⟨b, off + k, none⟩ := hx.out hl0
        have hsrc' : Hid (∀ j v, cs[j]? = some v → wr.cell? ((⟨b, off + k, none⟩ : Addr).add j) = some v) := hsrc
        have h1c' : Hid (∀ v ∈ cs, v.oneCell' = true) := h1c
        have hfit2 : Hid (q + cs.length ≤ (byt (layL B ix a (zs.take k))).length) := by rw [Hid, hcl]; exact hfit1
        have hn' : Hid (cs.length = Nat.min l m) := by rw [Hid, hcl]; exact hn
        have hnl : (n : Int) ≤ l := by omega
        have hn64 : (n : Int) ≤ 64 := by omega
        have hkl' : (k : Int) + l = len := by omega
        subst hx2
        clear hx1 hfr hfit0 hpm hrow hsrc h1c hcs hx'' hfit1 hcell hm hq hn hx
        go_wp2_with (first | (go_at_call 58; refine hfr'.out.mono ?_; rintro e w2 ⟨rfl, rfl⟩) | (refine copy_into rfl (.tmp 23) (.tmp 24) 52 52 rfl 5 Try.underlying52 (by kernel_rfl) R q m m ⟨b, off + k, none⟩ l c rfl rfl _ 5 hrow'.out cs hn'.out hsrc'.out hfit2.out h1c'.out ?_; intro w3 H3 P3))
        go_region
        all_goals
          go_wp2
          go_roundw
          case rel =>
            refine ⟨k + n, l - n, c - n, x'', by omega, by omega, by omega, by go_num, by go_num, hX, ?_⟩
            refine ⟨(hP.out.1.trans P3.out).drew, fun _ => ?_⟩
            rw [hR.out, heap_drew, H3.out, hcs'.out, byt_splice]
          case measure => simp [lenV]; omega
  · rw [if_neg hfit, decide_eq_false hfit]
    have hfit' : (64 * ix.length : Int) < a + len := by omega
    have hno : decide (64 * (ix.length : Int) < (a : Int) + len) = true := decide_eq_true (by omega)
    clear S
    go_enter Try.func31, Try.ntmps31
    go_wp2_with (go_at_call 49; refine (hc.out _ h'.out).mono ?_; rintro e w1 ⟨rfl, rfl⟩)
    go_ret
    exact ⟨rfl, Put.refl _, hB'.out⟩
end Go.Proofs.Ythgkkjcemjadoaa
