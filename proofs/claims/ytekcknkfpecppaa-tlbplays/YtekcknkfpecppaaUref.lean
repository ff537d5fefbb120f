/- The document's look: of all that was done, gone through backwards. -/
import Derived.Test.YtekcknkfpecppaaUopen
import Derived.Laws.AppendOwn
namespace Go.Proofs.Ytekcknkfpecppaa
open Go.RowKit
set_option linter.unusedVariables false

/-- What the document remembers of a page, of calls from the last one back. -/
def refR (n page : Nat) : List St → Option (Int × Int)
  | [] => none
  | x :: r => if x.k = 2 ∨ (x.k = 1 ∧ x.p = page) then none else if x.k = 0 ∧ x.p % n = page % n then (if x.p = page then some (x.b, x.f) else none) else refR n page r
def refL (n : Nat) (D : List St) (page : Nat) : Option (Int × Int) := refR n page D.reverse
theorem refL_snoc (n : Nat) (D : List St) (x : St) (page : Nat) : refL n (D ++ [x]) page = if x.k = 2 ∨ (x.k = 1 ∧ x.p = page) then none else if x.k = 0 ∧ x.p % n = page % n then (if x.p = page then some (x.b, x.f) else none) else refL n D page := by
  simp only [refL, List.reverse_append, List.reverse_cons, List.reverse_nil, List.nil_append, List.singleton_append, refR]
/-- The slots remember what the document says, behind each call. -/
theorem look_ref {n : Nat} {S : List Sl} {D : List St} (hn : 1 ≤ n) (hl : S.length = n) (h : ∀ page, lookS S page = refL n D page) (x : St) (page : Nat) : lookS (stepS S x.k x.p x.b x.f) page = refL n (D ++ [x]) page := by
  rw [lookS_step (by omega), refL_snoc, hl, h]
theorem take_rev {D : List St} {k : Nat} {x : St} (h : D[k]? = some x) : (D.take (k + 1)).reverse = x :: (D.take k).reverse := by
  rw [List.take_add_one, h]; simp

set_option maxHeartbeats 4000000 in
set_option maxRecDepth 100000 in
theorem rlook_any (w : World) (n : Nat) (hn1 : 1 ≤ n) (hn9 : n ≤ 64) (x : Option Addr) (len cap : Nat) (D : List St) (hD : StRow w x len cap D) (hlen : (len : Int) ≤ 1000) (page : Nat) (hp : (page : Int) < 4294967296) :
    Calls Try.prog 11 #[.int .i64 n, .slice x len cap, .int .u32 page] w fun e w' => e = .returned (.tuple (lookR (refL n D page))) ∧ Kep w w' := by
  have hD' : Hid (StRow w x len cap D) := hD
  have h0 : Hid (D.take len = D) := List.take_of_length_le (by have := hD.1; omega)
  have gn : (n : Int) ≤ 64 := by omega
  have g0 : ((n : Int) == 0) = false := by simp; omega
  clear hD
  go_enter Try.func11, Try.ntmps11
  go_wp2_with fail
  go_loopw [9] (fun i wr => ∃ k : Nat, (k : Int) ≤ len ∧ i = .int .i64 ((k : Int) - 1) ∧ Hid (refL n D page = refR n page (D.take k).reverse) ∧ Hid (Kep w wr)) (fun i _ => ((intOf i) + 1).toNat)
  case atStart => exact ⟨len, by omega, by go_num, by unfold Hid refL; rw [h0.out], Kep.refl _⟩
  case round =>
    obtain ⟨k, hk, rfl, hR, hK⟩ := hrel
    by_cases hz : k = 0
    · subst hz
      have e : Hid (refL n D page = none) := by unfold Hid; rw [hR.out]; rfl
      go_wp2_with fail
      go_ret3
      rw [e.out]
      exact ⟨rfl, hK.out⟩
    · obtain ⟨j, rfl⟩ : ∃ j, k = j + 1 := ⟨k - 1, by omega⟩
      obtain ⟨b, off, ⟨kd, xp, xb, xf⟩, hx, hxp, hadr, hcap, lb, m0, m1, m2, m3⟩ := hD'.out.at (k := j) (by omega)
      subst hadr
      simp only at m0 m1 m2 m3 hxp
      have hR2 : Hid (refL n D page = refR n page (⟨kd, xp, xb, xf⟩ :: (D.take j).reverse)) := by unfold Hid; rw [hR.out, take_rev hx]
      have x0 := (hK.out.cell lb).trans m0
      have x1 := (hK.out.cell lb).trans m1
      have x2 := (hK.out.cell lb).trans m2
      have x3 := (hK.out.cell lb).trans m3
      have ej : ((j + 1 : Nat) : Int) - 1 = j := by omega
      rw [ej]
      clear m0 m1 m2 m3 hR ej hz hx
      by_cases h2 : kd = 2
      · subst h2
        have e : Hid (refL n D page = none) := by unfold Hid; rw [hR2.out]; simp [refR]
        go_wp2_with fail
        go_ret3
        rw [e.out]
        exact ⟨rfl, (hK.out.alloc _)⟩
      · by_cases h1 : kd = 1
        · subst h1
          by_cases hm : xp = page
          · have e : Hid (refL n D page = none) := by unfold Hid; rw [hR2.out]; simp [refR, hm]
            subst hm
            clear h2
            go_wp2_with fail
            go_ret3
            rw [e.out]
            exact ⟨rfl, (hK.out.alloc _)⟩
          · have e : Hid (refL n D page = refR n page (D.take j).reverse) := by unfold Hid; rw [hR2.out]; simp [refR, hm]
            have hm' : ((xp : Int) == (page : Int)) = false := by simp; omega
            clear hm h2 hR2
            go_wp2_with fail
            go_quiet (fail)
            go_wp2_with fail
            go_roundw
            case rel => exact ⟨j, by omega, by go_num, e, (hK.out.alloc _).drewN _⟩
            case measure => simp [intOf]
        · by_cases h0 : kd = 0
          · subst h0
            by_cases hq : xp % n = page % n
            · by_cases hm : xp = page
              · have e : Hid (refL n D page = some (xb, xf)) := by unfold Hid; rw [hR2.out]; simp [refR, hm]
                subst hm
                clear h2 h1 hq hR2
                go_wp2_with fail
                go_quiet (fail)
                go_wp2_with fail
                go_quiet (fail)
                go_wp2_with fail
                go_ret3
                rw [e.out]
                exact ⟨rfl, (hK.out.alloc _).drewN _ |>.drewN _⟩
              · have e : Hid (refL n D page = none) := by unfold Hid; rw [hR2.out]; simp [refR, hm, hq]
                have hm' : ((xp : Int) == (page : Int)) = false := by simp; omega
                have hq' : ((xp : Int) % (n : Int) == (page : Int) % (n : Int)) = true := by simp; omega
                clear h2 h1 hq hm hR2
                go_wp2_with fail
                go_quiet (fail)
                go_wp2_with fail
                go_ret3
                rw [e.out]
                exact ⟨rfl, (hK.out.alloc _).drewN _⟩
            · have e : Hid (refL n D page = refR n page (D.take j).reverse) := by unfold Hid; rw [hR2.out]; simp [refR, hq]
              have hq' : ((xp : Int) % (n : Int) == (page : Int) % (n : Int)) = false := by simp; omega
              clear h2 h1 hq hR2
              go_wp2_with fail
              go_quiet (fail)
              go_wp2_with fail
              go_roundw
              case rel => exact ⟨j, by omega, by go_num, e, (hK.out.alloc _).drewN _⟩
              case measure => simp [intOf]
          · have e : Hid (refL n D page = refR n page (D.take j).reverse) := by unfold Hid; rw [hR2.out]; simp [refR, h0, h1, h2]
            have f0 : (kd == 0) = false := by simpa using h0
            have f1 : (kd == 1) = false := by simpa using h1
            have f2 : (kd == 2) = false := by simpa using h2
            clear h0 h1 h2 hR2
            go_wp2_with fail
            go_quiet (fail)
            go_wp2_with fail
            go_roundw
            case rel => exact ⟨j, by omega, by go_num, e, (hK.out.alloc _).drewN _⟩
            case measure => simp [intOf]

def stC (s : St) : List Value := (stV s).toList
theorem flat_at : ∀ (D : List St) (i : Nat) (e : St), D[i]? = some e → ∀ j, j < 4 → (D.flatMap stC)[i * 4 + j]? = (stV e)[j]?
  | [], i, e, h, j, hj => by simp at h
  | x :: D, 0, e, h, j, hj => by
    simp at h; subst h
    rw [List.flatMap_cons, List.getElem?_append_left (by simp [stC]; omega)]
    simp [stC]
  | x :: D, i + 1, e, h, j, hj => by
    rw [List.flatMap_cons, List.getElem?_append_right (by simp [stC]; omega), ← flat_at D i e (by simpa using h) j hj]
    have : (stC x).length = 4 := rfl
    rw [this]
    congr 1; omega
/-- A slice that a law has made of calls reads as a row of them. -/
theorem own_row {w : World} {base : Nat} {v : Value} {D : List St} (h : w.ownsRow base 31 4 v D.length (D.flatMap stC)) (hp : ∀ e ∈ D, (e.p : Int) < 4294967296) : ∃ x cap, v = .slice x D.length cap ∧ StRow w x D.length cap D := by
  rcases h.2 with ⟨h1, h2⟩ | ⟨g, cap, cur, h1, h2, h3, h4, h5, _⟩
  · obtain rfl := List.length_eq_zero_iff.1 h2
    exact ⟨none, 0, h1, rfl, by simp, .inl rfl⟩
  · subst h1
    refine ⟨_, cap, rfl, rfl, hp, .inr ⟨g, 0, rfl, h4, h5, block_lt h3, fun i e he j hj => ?_⟩⟩
    have hi := (List.getElem?_eq_some_iff.1 he).1
    rw [Nat.zero_add, World.ownsRow.cellAt h (i * 4 + j) (by omega), flat_at D i e he j hj]
theorem own_put {w w' : World} {base : Nat} {e : TypeId} {size n : Nat} {v : Value} {xs : List Value} {l : List Nat} (h : w.ownsRow base e size v n xs) (P : Put l w w') (hl : ∀ b ∈ l, b < base) : w'.ownsRow base e size v n xs := by
  refine ⟨h.1, ?_⟩
  rcases h.2 with h1 | ⟨g, cap, cur, h1, h2, h3, h4⟩
  · exact .inl h1
  · exact .inr ⟨g, cap, cur, h1, h2, P.keeps h3 (fun hm => by have := hl g hm; omega), h4⟩
theorem own_base {w : World} {base : Nat} {e : TypeId} {size n g : Nat} {v : Value} {xs : List Value} (h : w.ownsRow base e size v n xs) (hg : v.ownBlock = some g) : base ≤ g := by
  rcases h.2 with ⟨rfl, _⟩ | ⟨g', cap, cur, rfl, h2, _⟩
  · simp [Value.ownBlock] at hg
  · simp [Value.ownBlock] at hg; omega
/-- What an append turns: its own row alone. -/
theorem grown_put {w w' : World} {row : Option Nat} (h : w.grownBy w' row) (l : List Nat) (hl : ∀ k, row = some k → k ∈ l) : Put l w w' :=
  ⟨h.os, h.tape, h.output, h.size, fun k hk hn => h.block k hk fun e => hn (hl k e.symm)⟩
theorem new4 (w : World) (s : St) : ∀ j u, (stC s)[j]? = some u → (w.alloc (.cells (stV s) 31)).cell? ((⟨w.heap.size, 0, none⟩ : Addr).add j) = some u := by
  intro j u hj
  rw [Addr.add_lit, cell_of_block (hat _ _ _ rfl)]
  simpa [stC] using hj
theorem new4c (s : St) : ∀ u ∈ stC s, u.oneCell' = true := by
  intro u hu
  simp [stC] at hu
  rcases hu with rfl | rfl | rfl | rfl <;> rfl
theorem info_done : (Try.prog.info? 31).map (fun i => (i.zero, i.size, i.bytes)) = some (some (.agg #[.int .i64 0, .int .u32 0, .int .u32 0, .int .i64 0]), 4, 24) := by kernel_rfl
end Go.Proofs.Ytekcknkfpecppaa
