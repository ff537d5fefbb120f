/- What a pool does: New, Take, Give, Reset, Left, Counts. -/
import Derived.Test.YthgkkjcemjadoaaPlbase
import Derived.Laws.LoneSync
import Derived.BigRegion
import Derived.BigQuiet
namespace Go.Proofs.Ythgkkjcemjadoaa
open Go.RowKit
set_option linter.unusedVariables false
set_option linter.unusedSimpArgs false

theorem padd_any (a : Addr) (d : Int) (h0 : 0 ≤ d) (h1 : d < 1000000) (w : World) (hc : w.cell? a = some (.int .i64 d)) (hz : w.frozen? a = false) :
    Calls Try.prog 67 #[.pointer (some a), .int .i64 1] w fun e w' => e = .returned (.int .i64 (d + 1)) ∧ w' = w.setCell a (.int .i64 (d + 1)) := by
  have hadd := run_call_add (P := Try.prog) Try.func68 (by kernel_rfl) (by kernel_rfl) (by kernel_rfl) .i64 (by kernel_rfl) (y := 1) (s := d + 1) hc hz (by simp only [Op.intArith]; simp [go_sem]; rw [IntKind.wrap_i64]; omega)
  go_enter Try.func67, Try.ntmps67
  go_wp2
  go_ret
  exact ⟨rfl, rfl⟩

theorem pmade_yes (w : World) (p M : Nat) (hc : w.cell? ⟨p, 2, none⟩ = some (.map (some M))) :
    Calls Try.prog 34 #[.pointer (some ⟨p, 0, none⟩)] w fun e w' => e = .returned (.bool true) ∧ w' = w := by
  have hq : ∀ w, (binOp .neq 77 (.map (some M)) (.map none)).run Try.prog w = .ok (.bool true) w := fun w => by kernel_rfl
  go_enter Try.func34, Try.ntmps34
  go_wp2
  go_ret
  exact ⟨rfl, rfl⟩

theorem pmade_no (w : World) (v : Value) (h : NoPool w v) :
    Calls Try.prog 34 #[v] w fun e w' => e = .returned (.bool false) ∧ w' = w := by
  have hq : ∀ w, (binOp .neq 77 (.map none) (.map none)).run Try.prog w = .ok (.bool false) w := fun w => by kernel_rfl
  rcases h with rfl | ⟨p, rfl, hb⟩
  · go_enter Try.func34, Try.ntmps34
    go_wp2
    go_ret
    exact ⟨rfl, rfl⟩
  · have hc : w.cell? ⟨p, 2, none⟩ = some (.map none) := cell_of_block hb
    go_enter Try.func34, Try.ntmps34
    go_wp2
    go_ret
    exact ⟨rfl, rfl⟩

theorem make_set (n : Nat) (hn : (n : Int) ≤ 512) (w : World) : (Instr.makeMap 77 (some (.int .i64 n))).run Try.prog w = .ok (.map (some w.heap.size)) (w.alloc (.map #[] 0)) := by
  simp [Instr.makeMap, go_sem, run_underlying Try.underlying77]

theorem pnew_any (w : World) (f : Int) (n : Nat) (h0 : 0 ≤ f) (h1 : f + n ≤ 512) :
    Calls Try.prog 23 #[.int .i64 f, .int .i64 n] w fun e w' => e = .returned (.tuple #[.pointer (some ⟨w.heap.size + 1, 0, none⟩), .int .i64 0]) ∧ Kep w w' ∧ PoolAt w' (w.heap.size + 1) w.heap.size f (List.replicate n false) 0 0 := by
  have m1 := make_set n (by omega)
  go_enter Try.func23, Try.ntmps23
  go_wp2
  go_ret2
  refine ⟨rfl, ((Kep.refl _).alloc _).alloc _, ?_, ?_, h0, by simp; exact h1⟩
  · rw [List.length_replicate]; exact hat _ _ _ (by simp)
  · rw [nTrue_none]
    exact ((SetI.made w).ext fun k _ => (lentF_none f n k).symm).kep ((Kep.refl _).alloc _)

theorem pnew_no (w : World) (f n : Int) (hf : I6 f) (hn : I6 n) (h : f < 0 ∨ n < 0 ∨ 512 - f < n) :
    Calls Try.prog 23 #[.int .i64 f, .int .i64 n] w fun e w' => e = .returned (.tuple #[.pointer none, .int .i64 2]) ∧ w' = w := by
  unfold I6 at hf hn
  rcases (by omega : f < 0 ∨ (0 ≤ f ∧ n < 0) ∨ (0 ≤ f ∧ 0 ≤ n ∧ 512 - f < n)) with h | ⟨h0, h⟩ | ⟨h0, h1, h⟩
  all_goals
    go_enter Try.func23, Try.ntmps23
    go_wp2
    go_ret2
    exact ⟨rfl, rfl⟩

set_option maxHeartbeats 1000000 in
theorem pleast_any (w : World) (p M : Nat) (f : Int) (L : List Bool) (g m : Int) (h : PoolAt w p M f L g m) :
    Calls Try.prog 66 #[.pointer (some ⟨p, 0, none⟩)] w fun e w' => e = .returned (leastR f L) ∧ Kep w w' := by
  have hP : Hid (PoolAt w p M f L g m) := h
  have c0 := h.c0
  have c1 := h.c1
  have c2 := h.c2
  have hr := h.rng
  clear h
  generalize hn : L.length = n at c1 hr
  have hn' : Hid (L.length = n) := hn
  clear hn
  obtain ⟨hr0, hr1⟩ := hr
  go_enter Try.func66, Try.ntmps66
  go_wp2_with fail
  go_loopw [11] (fun i wr => ∃ k : Nat, (k : Int) ≤ n ∧ i = .int .i64 k ∧ Hid (∀ j, j < k → L.getD j false = true) ∧ Hid (Kep w wr)) (fun i _ => n - (intOf i).toNat)
  case atStart => exact ⟨0, by omega, rfl, fun j hj => by omega, Kep.refl _⟩
  case round =>
    obtain ⟨k, hk, rfl, hA, K⟩ := hrel
    by_cases hlt : (k : Int) < n
    · have hkL : Hid (k < L.length) := by rw [Hid, hn'.out]; omega
      have PW := hP.out.kep K.out
      have d0 := PW.c0
      have d2 := PW.c2
      have hpl : p < wr.heap.size := block_lt PW.box
      have hw : IntKind.i64.wrap (f + k) = f + k := by rw [IntKind.wrap_i64]; omega
      have hl1 : (Instr.lookup 77 (.map (some M)) (.int .i64 (f + k)) true).run Try.prog wr.drew = .ok (.tuple #[.agg #[], .bool (L.getD k false)]) wr.drew :=
        ((PW.set.kep (Kep.refl _).drew).look (f + k) (by unfold I6; omega)).trans (by rw [lentF_at])
      have hl2 : (Instr.lookup 77 (.map (some M)) (.int .i64 (f + k)) true).run Try.prog (wr.alloc (.cells #[] 78)).drew = .ok (.tuple #[.agg #[], .bool (L.getD k false)]) (wr.alloc (.cells #[] 78)).drew :=
        ((PW.set.kep ((Kep.refl _).alloc _).drew).look (f + k) (by unfold I6; omega)).trans (by rw [lentF_at])
      generalize hbb : L.getD k false = b at hl1 hl2
      have hbb' : Hid (L.getD k false = b) := hbb
      clear PW hbb c0 c1 c2
      cases b
      all_goals
        go_wp2_with fail
        go_region
        all_goals
          go_wp2_with fail
          first
            | (go_ret2
               exact ⟨by rw [leastR_yes (leastL_is hkL.out hA.out hbb'.out) hkL.out]; rfl, (K.out.alloc _).drew⟩)
            | (go_roundw
               case rel => exact ⟨k + 1, by omega, by go_num, fun j hj => by
                 rcases Nat.lt_or_ge j k with g | g
                 · exact hA.out j g
                 · have : j = k := by omega
                   subst this; exact hbb'.out, (K.out.alloc _).drew⟩
               case measure => simp [intOf]; omega)
    · obtain rfl : k = n := by omega
      have e : leastL L = L.length := leastL_no (fun j hj => hA.out j (by have := hn'.out; omega))
      go_wp2_with fail
      go_ret2
      exact ⟨by rw [leastR_no e]; rfl, K.out⟩

set_option maxHeartbeats 1000000 in
theorem ptake_any (w : World) (p M : Nat) (f : Int) (L : List Bool) (g m : Int) (h : PoolAt w p M f L g m) (hg : 0 ≤ g ∧ g < 1000000) (hm : 0 ≤ m ∧ m < 1000000) :
    Calls Try.prog 61 #[.pointer (some ⟨p, 0, none⟩)] w fun e w' => e = .returned (leastR f L) ∧ (if leastL L < L.length then PoolAt w' p M f (takeL L) (g + 1) m else PoolAt w' p M f L g (m + 1)) ∧ Put [p, M] w w' := by
  have HM : Hid (Calls Try.prog 34 #[.pointer (some ⟨p, 0, none⟩)] w fun e w' => e = .returned (.bool true) ∧ w' = w) := pmade_yes w p M h.c2
  have HL : Hid (Calls Try.prog 66 #[.pointer (some ⟨p, 0, none⟩)] w fun e w' => e = .returned (leastR f L) ∧ Kep w w') := pleast_any w p M f L g m h
  have hP : Hid (PoolAt w p M f L g m) := h
  have hr := h.rng
  clear h
  by_cases hl : leastL L < L.length
  · simp only [if_pos hl, leastR_yes rfl hl] at HL ⊢
    have hat0 : Hid (L.getD (leastL L) false = false) := leastL_at hl
    have hl' : Hid (leastL L < L.length) := hl
    have hT : Hid (takeL L = L.set (leastL L) true) := rfl
    generalize takeL L = L' at hT
    have hk : (leastL L : Int) < 512 := by omega
    generalize leastL L = k at HL hat0 hl' hT hk hl
    clear hl
    go_enter Try.func61, Try.ntmps61
    go_wp2_with (go_at_call 34; refine HM.out.mono ?_; rintro e w0 ⟨rfl, hq0⟩; rw [hq0]; clear hq0 w0)
    refine HL.out.mono ?_
    rintro e w1 ⟨rfl, K⟩
    have P1 := hP.out.kep K
    have c2 := P1.c2
    obtain ⟨w2, hu, S2, Q2⟩ := P1.set.store (by have := nTrue_le L; have := hl'.out; unfold maxLen; omega) (f + k) (by unfold I6; omega)
    have P2 : PoolAt w2 p M f L' g m := by
      refine ⟨?_, ?_, ?_⟩
      · have := Q2.keeps P1.box (by simp; exact fun e => P1.ne e.symm)
        rw [hT.out]; simpa using this
      · rw [lentF_at, hat0.out] at S2
        simp only [Bool.false_eq_true, if_false] at S2
        rw [hT.out, nTrue_ins hl'.out hat0.out]
        exact S2.ext fun j _ => lentF_ins f L k hl'.out j
      · rw [hT.out]; simpa using P1.rng
    have HA : Hid (Calls Try.prog 67 #[.pointer (some ⟨p, 3, none⟩), .int .i64 1] w2 fun e w' => e = .returned (.int .i64 (g + 1)) ∧ w' = w2.setCell ⟨p, 3, none⟩ (.int .i64 (g + 1))) := padd_any _ g hg.1 hg.2 w2 P2.c3 (by simp [World.frozen?, P2.box])
    have P3 : Hid (PoolAt (w2.setCell ⟨p, 3, none⟩ (.int .i64 (g + 1))) p M f L' (g + 1) m ∧ Put [p, M] w (w2.setCell ⟨p, 3, none⟩ (.int .i64 (g + 1)))) := ⟨P2.hit _, ((Put.of_kep K).trans (Q2.mono (by simp))).setCell (by simp) _⟩
    clear HL hP P1 S2 Q2 P2 K hat0 hl' hT hg hm hr hk
    go_wp2_with (go_at_call 67; refine HA.out.mono ?_; rintro e w3 ⟨rfl, rfl⟩)
    go_ret2
    exact ⟨rfl, P3.out.1, P3.out.2⟩
  · have hl2 : leastL L = L.length := Nat.le_antisymm (leastL_le L) (Nat.le_of_not_lt hl)
    simp only [if_neg hl, leastR_no hl2] at HL ⊢
    clear hl hl2
    go_enter Try.func61, Try.ntmps61
    go_wp2_with (go_at_call 34; refine HM.out.mono ?_; rintro e w0 ⟨rfl, hq0⟩; rw [hq0]; clear hq0 w0)
    refine HL.out.mono ?_
    rintro e w1 ⟨rfl, K⟩
    have P1 := hP.out.kep K
    have HA : Hid (Calls Try.prog 67 #[.pointer (some ⟨p, 4, none⟩), .int .i64 1] w1 fun e w' => e = .returned (.int .i64 (m + 1)) ∧ w' = w1.setCell ⟨p, 4, none⟩ (.int .i64 (m + 1))) := padd_any _ m hm.1 hm.2 w1 P1.c4 (by simp [World.frozen?, P1.box])
    have P3 : Hid (PoolAt (w1.setCell ⟨p, 4, none⟩ (.int .i64 (m + 1))) p M f L g (m + 1) ∧ Put [p, M] w (w1.setCell ⟨p, 4, none⟩ (.int .i64 (m + 1)))) := ⟨P1.miss _, (Put.of_kep K).setCell (by simp) _⟩
    clear HL hP P1 K hg hm hr
    go_wp2_with (go_at_call 67; refine HA.out.mono ?_; rintro e w3 ⟨rfl, rfl⟩)
    go_ret2
    exact ⟨rfl, P3.out.1, P3.out.2⟩

/-- Of what number a frame is, if it is one of the pool's. -/
def giveR (f : Int) (L : List Bool) (j : Int) : Bool := lentF f L j

theorem give_set {w : World} {M : Nat} {f : Int} {L : List Bool} {j : Int} (h : SetI w M (delF (lentF f L) j) (if lentF f L j then nTrue L - 1 else nTrue L)) : SetI w M (lentF f (giveL f L j)) (nTrue (giveL f L j)) := by
  by_cases g : f ≤ j
  · have e : f + (((j - f).toNat : Nat) : Int) = j := by omega
    generalize hk : (j - f).toNat = k at e
    have e2 : giveL f L j = L.set k false := by unfold giveL; rw [if_pos g, hk]
    rw [e2]
    subst e
    have h2 : ∀ i, I6 i → delF (lentF f L) (f + k) i = lentF f (L.set k false) i := fun i _ => lentF_del f L k i
    rw [lentF_at] at h
    cases hb : L.getD k false
    · rw [hb] at h
      simp only [Bool.false_eq_true, if_false] at h
      have e3 : L.set k false = L := by
        rcases Nat.lt_or_ge k L.length with hk2 | hk2
        · exact set_same hk2 hb
        · exact List.set_eq_of_length_le hk2
      rw [e3] at h2 ⊢
      exact h.ext h2
    · rw [hb] at h
      simp only [if_true] at h
      have hk2 : k < L.length := by
        rcases Nat.lt_or_ge k L.length with hk2 | hk2
        · exact hk2
        · rw [List.getD, List.getElem?_eq_none hk2] at hb; cases hb
      rw [nTrue_del hk2 hb]
      exact h.ext h2
  · have e2 : giveL f L j = L := by unfold giveL; rw [if_neg g]
    have e3 : lentF f L j = false := lentF_off (.inl (by omega))
    rw [e3] at h
    simp only [Bool.false_eq_true, if_false] at h
    rw [e2]
    exact h.ext fun i _ => delF_no e3 i

set_option maxHeartbeats 1000000 in
theorem pgive_any (w : World) (p M : Nat) (f : Int) (L : List Bool) (g m : Int) (h : PoolAt w p M f L g m) (j : Int) (hj : I6 j) :
    Calls Try.prog 62 #[.pointer (some ⟨p, 0, none⟩), .int .i64 j] w fun e w' => e = .returned (.bool (lentF f L j)) ∧ PoolAt w' p M f (giveL f L j) g m ∧ Put [M] w w' := by
  have HM : Hid (Calls Try.prog 34 #[.pointer (some ⟨p, 0, none⟩)] w fun e w' => e = .returned (.bool true) ∧ w' = w) := pmade_yes w p M h.c2
  have c2 := h.c2
  have hl := h.set.look j hj
  have P1 := h.kep ((Kep.refl w).alloc (.cells #[] 78))
  have c2' := P1.c2
  obtain ⟨w2, hd, S2, Q2⟩ := P1.set.drop j hj 0
  have hd' : ∀ ty, (Builtin.delete_ #[77, 3] ty #[.map (some M), .int .i64 j]).run Try.prog (w.alloc (.cells #[] 78)) = .ok (.tuple #[]) w2 := fun ty => hd
  have P2 : Hid (PoolAt w2 p M f (giveL f L j) g m ∧ Put [M] w w2) := by
    refine ⟨⟨?_, give_set S2, by rw [giveL_len]; exact P1.rng⟩, (Put.of_kep ((Kep.refl w).alloc _)).trans Q2⟩
    rw [giveL_len]
    exact Q2.keeps P1.box (by simp; exact fun e => P1.ne e.symm)
  generalize lentF f L j = b at hl
  clear h P1 S2 Q2 hd
  go_enter Try.func62, Try.ntmps62
  go_wp2_with (go_at_call 34; refine HM.out.mono ?_; rintro e w0 ⟨rfl, hq0⟩; rw [hq0]; clear hq0 w0)
  go_ret
  exact ⟨rfl, P2.out.1, P2.out.2⟩

theorem pleft_any (w : World) (p M : Nat) (f : Int) (L : List Bool) (g m : Int) (h : PoolAt w p M f L g m) :
    Calls Try.prog 11 #[.pointer (some ⟨p, 0, none⟩)] w fun e w' => e = .returned (.int .i64 (L.length - nTrue L)) ∧ Kep w w' := by
  have HM : Hid (Calls Try.prog 34 #[.pointer (some ⟨p, 0, none⟩)] w fun e w' => e = .returned (.bool true) ∧ w' = w) := pmade_yes w p M h.c2
  have c1 := h.c1
  have c2 := h.c2
  have hl : ∀ ty, (Builtin.len_ #[77] ty #[.map (some M)]).run Try.prog w.drew = .ok (.int .i64 (nTrue L)) w.drew := fun ty => (h.set.kep (Kep.refl _).drew).len ty
  have hn : (nTrue L : Int) ≤ L.length := by have := nTrue_le L; omega
  have hr := h.rng
  clear h
  generalize nTrue L = s at hl hn
  generalize L.length = n at c1 hr hn
  have hw : IntKind.i64.wrap ((n : Int) - s) = n - s := by rw [IntKind.wrap_i64]; omega
  go_enter Try.func11, Try.ntmps11
  go_wp2_with (go_at_call 34; refine HM.out.mono ?_; rintro e w0 ⟨rfl, hq0⟩; rw [hq0]; clear hq0 w0)
  go_region
  all_goals
    go_wp2_with fail
    go_ret
    exact ⟨rfl, (Kep.refl _).drew⟩

theorem ptake_no (w : World) (v : Value) (h : NoPool w v) : Calls Try.prog 61 #[v] w fun e w' => e = .returned (.tuple #[.int .i64 0, .bool false]) ∧ w' = w := by
  have HM : Hid (Calls Try.prog 34 #[v] w fun e w' => e = .returned (.bool false) ∧ w' = w) := pmade_no w v h
  clear h
  go_enter Try.func61, Try.ntmps61
  go_wp2_with (go_at_call 34; refine HM.out.mono ?_; rintro e w0 ⟨rfl, hq0⟩; rw [hq0]; clear hq0 w0)
  go_ret2
  exact ⟨rfl, rfl⟩

theorem pgive_no (w : World) (v : Value) (h : NoPool w v) (j : Int) : Calls Try.prog 62 #[v, .int .i64 j] w fun e w' => e = .returned (.bool false) ∧ w' = w := by
  have HM : Hid (Calls Try.prog 34 #[v] w fun e w' => e = .returned (.bool false) ∧ w' = w) := pmade_no w v h
  clear h
  go_enter Try.func62, Try.ntmps62
  go_wp2_with (go_at_call 34; refine HM.out.mono ?_; rintro e w0 ⟨rfl, hq0⟩; rw [hq0]; clear hq0 w0)
  go_ret
  exact ⟨rfl, rfl⟩

theorem pleft_no (w : World) (v : Value) (h : NoPool w v) : Calls Try.prog 11 #[v] w fun e w' => e = .returned (.int .i64 0) ∧ w' = w := by
  have HM : Hid (Calls Try.prog 34 #[v] w fun e w' => e = .returned (.bool false) ∧ w' = w) := pmade_no w v h
  clear h
  go_enter Try.func11, Try.ntmps11
  go_wp2_with (go_at_call 34; refine HM.out.mono ?_; rintro e w0 ⟨rfl, hq0⟩; rw [hq0]; clear hq0 w0)
  go_ret
  exact ⟨rfl, rfl⟩

end Go.Proofs.Ythgkkjcemjadoaa
