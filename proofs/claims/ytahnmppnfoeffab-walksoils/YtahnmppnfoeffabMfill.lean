/- Bytes that are laid into a memory, from an address on. -/
import Derived.Test.YtahnmppnfoeffabMframe
namespace Go.Proofs.Ytahnmppnfoeffab
open Go.RowKit
set_option linter.unusedVariables false

/-- Bytes laid one behind the other from address a on. -/
def layL (B : List Int) (ix : List Nat) (a : Nat) : List Int → List Int
  | [] => B
  | z :: zs => layL (B.set (pos ix a) z) ix (a + 1) zs
theorem layL_len (ix : List Nat) : ∀ (zs B : List Int) (a : Nat), (layL B ix a zs).length = B.length
  | [], _, _ => rfl
  | z :: zs, B, a => by simp [layL, layL_len ix zs]
theorem layL_append (ix : List Nat) : ∀ (xs ys B : List Int) (a : Nat), layL B ix a (xs ++ ys) = layL (layL B ix a xs) ix (a + xs.length) ys
  | [], ys, B, a => rfl
  | z :: zs, ys, B, a => by
    simp only [List.cons_append, layL, layL_append ix zs, List.length_cons]
    rw [show a + 1 + zs.length = a + (zs.length + 1) by omega]
theorem Byts.layL (ix : List Nat) : ∀ (zs B : List Int) (a : Nat), Byts B → Byts zs → Byts (layL B ix a zs)
  | [], _, _, h, _ => h
  | z :: zs, B, a, h, hz => Byts.layL ix zs _ _ (h.set _ (hz z (by simp)).1 (hz z (by simp)).2) (fun b hb => hz b (by simp [hb]))
theorem splice_cons (B : List Int) (p : Nat) (z : Int) (zs : List Int) (h : p < B.length) : splice (B.set p z) (p + 1) zs = splice B p (z :: zs) := by
  unfold splice
  apply List.ext_getElem?
  intro j
  simp only [List.getElem?_append, List.getElem?_take, List.getElem?_drop, List.getElem?_set, List.length_take, List.length_set, List.length_cons]
  rcases Nat.lt_trichotomy j p with h1 | rfl | h1
  · simp [show j < min (p + 1) B.length by omega, show j < min p B.length by omega, show j < p + 1 by omega, show j < p by omega, show p ≠ j by omega]
  · simp [show j < min (j + 1) B.length by omega, show ¬ j < min j B.length by omega, h]
    simp [show min j B.length = j by omega]
  · have e1 : min (p + 1) B.length = p + 1 := by omega
    have e2 : min p B.length = p := by omega
    rw [e1, e2]
    simp only [show ¬ j < p + 1 by omega, if_false, show ¬ j < p by omega]
    obtain ⟨k, rfl⟩ : ∃ k, j = p + 1 + k := ⟨j - (p + 1), by omega⟩
    rw [show p + 1 + k - (p + 1) = k by omega, show p + 1 + k - p = k + 1 by omega]
    simp only [List.getElem?_cons_succ, Nat.add_lt_add_iff_right]
    split
    · rfl
    · rw [if_neg (by omega)]
      congr 1
      omega
theorem splice_nil (B : List Int) (p : Nat) : splice B p [] = B := by simp [splice]
theorem pos_succ (ix : List Nat) (a : Nat) (h : a % 64 + 1 < 64) : pos ix (a + 1) = pos ix a + 1 := by
  unfold pos
  rw [show (a + 1) / 64 = a / 64 by omega]
  omega
theorem layL_chunk (ix : List Nat) : ∀ (xs B : List Int) (a : Nat), a % 64 + xs.length ≤ 64 → pos ix a + xs.length ≤ B.length → layL B ix a xs = splice B (pos ix a) xs
  | [], B, a, _, _ => (splice_nil B _).symm
  | [z], B, a, _, h => by
    rw [← splice_cons _ _ _ _ (by simp at h; omega), splice_nil]; rfl
  | z :: y :: xs, B, a, h1, h2 => by
    have e := pos_succ ix a (by simp at h1; omega)
    rw [layL, layL_chunk ix (y :: xs) (B.set (pos ix a) z) (a + 1) (by simp at h1 ⊢; omega) (by rw [e]; simp at h2 ⊢; omega), e]
    exact splice_cons _ _ _ _ (by simp at h2; omega)
theorem byt_splice (B : List Int) (p : Nat) (xs : List Int) : splice (byt B) p (byt xs) = byt (splice B p xs) := by simp [splice, byt, List.map_drop, List.map_take]

/-- A slice whose elements are the bytes zs, in a block that is none of l. -/
def Src (w : World) (x : Option Addr) (zs : List Int) (l : List Nat) : Prop :=
  zs = [] ∨ ∃ b off : Nat, x = some ⟨b, off, none⟩ ∧ b < w.heap.size ∧ b ∉ l ∧ ∀ i, i < zs.length → w.cell? ⟨b, off + i, none⟩ = some (.int .u8 (zs.getD i 0))
theorem Src.put {w w' : World} {x : Option Addr} {zs : List Int} {l : List Nat} (h : Src w x zs l) (k : Put l w w') : Src w' x zs l := by
  rcases h with h | ⟨b, off, e, hb, hl, hc⟩
  · exact .inl h
  · exact .inr ⟨b, off, e, Nat.lt_of_lt_of_le hb k.size, hl, fun i hi => (k.cell hb hl).trans (hc i hi)⟩
theorem Src.mono {w : World} {x : Option Addr} {zs : List Int} {l m : List Nat} (h : Src w x zs l) (k : ∀ b ∈ m, b ∈ l) : Src w x zs m := by
  rcases h with h | ⟨b, off, e, hb, hl, hc⟩
  · exact .inl h
  · exact .inr ⟨b, off, e, hb, fun hm => hl (k b hm), hc⟩

theorem copy_into {P : Program} {w : World} {ops : Array Oper} {rest : List Oper} {o : Oper} {a : Act} {Q : Exit → Act → World → Prop} (hgd : o.guard = none) (d s : Operand) (dT sT : TypeId)
    (ho : o.op = .call { callee := .builtin .copy, args := #[d, s], argTypes := #[dT, sT] }) (elem : TypeId) (hu : P.underlying dT = some (.slice elem)) (hsz : (P.info? elem).map (·.size) = some 1)
    (g off dLen dCap : Nat) (ad : Addr) (sLen sCap : Nat) (hd : a.eval d = .slice (some ⟨g, off, none⟩) dLen dCap) (hs : a.eval s = .slice (some ad) sLen sCap)
    (cur : List Value) (t : TypeId) (hg : w.heap[g]? = some (.cells cur.toArray t (0, 0))) (cs : List Value) (hn : cs.length = Nat.min sLen dLen)
    (hsrc : ∀ j v, cs[j]? = some v → w.cell? (ad.add j) = some v) (hfit : off + cs.length ≤ cur.length) (h1 : ∀ v ∈ cs, v.oneCell' = true)
    (h : ∀ w', Hid (w'.heap[g]? = some (.cells (splice cur off cs).toArray t (0, 0))) → Hid (Put [g] w w') → wpList P ops Q rest (a.put o.dst (goInt cs.length)) w') : wpList P ops Q (o :: rest) a w := by
  refine wpList_copy_own hgd d s dT sT ho elem hu hsz g off dLen dCap ad sLen sCap hd hs cur.toArray t hg cs hn hsrc (by simpa using hfit) h1 ?_
  exact h _ (show _ = _ by simpa [splice] using setRow_heap w g _ _ t _ hg) ((Put.refl _).setRow (by simp) _)

theorem cut_bytes (x : Option Addr) (l c n : Nat) (hn : n ≤ l) (hc : l ≤ c) (w : World) : (Instr.slice 29 (.slice x l c) (some (.int .i64 n)) none none).run Try.prog w = .ok (.slice (if c = n then x else x.map (·.add n)) (l - n) (c - n)) w := by
  have hs : (sizeOf (Try.prog.elem 29)).run Try.prog w = .ok 1 w := by kernel_rfl
  rw [run_slice_l (P := Try.prog) w 29 x l c (by kernel_rfl) .i64 n (by omega) (by omega), hs]
  simp [sliced, Result.andThen]

def lenV : Value → Nat
  | .slice _ n _ => n
  | _ => 0
theorem take_more (zs : List Int) (k n : Nat) : zs.take (k + n) = zs.take k ++ (zs.drop k).take n := List.take_add

end Go.Proofs.Ytahnmppnfoeffab
