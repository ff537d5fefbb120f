/- The directory wiped; what Upper has laid; Clear. -/
import Derived.Test.YthgkkjcemjadoaaSdback
import Derived.Laws.CopyRow
namespace Go.Proofs.Ythgkkjcemjadoaa
open Go.RowKit
set_option linter.unusedVariables false
set_option linter.unusedSimpArgs false

theorem index_u32 {T : TypeId} {n : Nat} (h : Try.prog.underlying T = some (.array n 34)) (xs : List Nat) (hx : xs.length = n) (k : Nat) (hk : k < n) (w : World) : (Instr.index T (.agg (u32s xs).toArray) (.int .i64 k)).run Try.prog w = .ok (.int .u32 (xs.getD k 0 : Nat)) w := by
  have hs : (sizeOf 34).run Try.prog w = .ok 1 w := by kernel_rfl
  have ha : (isAgg 34).run Try.prog w = .ok false w := by kernel_rfl
  have hb : 0 ≤ (k : Int) ∧ (k : Int) < n := by omega
  have hu := u32s_at (L := xs) (k := k) (by omega)
  simp [Instr.index, run_underlying h, asIntOf, hb, hs, ha, go_sem, part, hu, List.getD, hx, hk]
/-- Words and zeros behind them. -/
def pad16 (U : List Nat) : List Nat := U ++ List.replicate (16 - U.length) 0
theorem pad16_len {U : List Nat} (h : U.length ≤ 16) : (pad16 U).length = 16 := by simp [pad16]; omega
theorem pad16_at (U : List Nat) (k : Nat) : (pad16 U).getD k 0 = U.getD k 0 := by
  unfold pad16
  simp only [List.getD_eq_getElem?_getD]
  by_cases h : k < U.length
  · rw [List.getElem?_append_left h]
  · rw [List.getElem?_append_right (by omega), List.getElem?_eq_none (Nat.le_of_not_lt h), List.getElem?_replicate]
    split <;> rfl
theorem cp_words {w : World} {g : Nat} {t : TypeId} (hg : w.heap[g]? = some (.cells z16 t (0, 0))) {x : Option Addr} {c : Nat} {U : List Nat} {F : List Nat} (hs : Sli w 34 1 (.slice x U.length c) U.length (u32s U) F) (hl : U.length ≤ 16) :
    ∃ w', (∀ ty, (Builtin.copy_ #[23, 23] ty #[.slice (some ⟨g, 0, none⟩) 16 16, .slice x U.length c]).run Try.prog w = .ok (.int .i64 U.length) w') ∧ w'.heap[g]? = some (.cells (u32s (pad16 U)).toArray t (0, 0)) ∧ Put [g] w w' := by
  have hi : (Try.prog.info? 34).map (·.size) = some 1 := by kernel_rfl
  rcases hs.form with ⟨hv, h0, h1, _⟩ | ⟨b, off, cap, hv, _, h1, h2, hb, hc, _⟩
  · have hU : U = [] := List.length_eq_zero_iff.1 h0
    subst hU
    simp only [List.length_nil, Value.slice.injEq, true_and] at hv
    obtain ⟨rfl, rfl⟩ := hv
    refine ⟨w, fun ty => ?_, by rw [show pad16 [] = List.replicate 16 0 from rfl]; rw [hg]; rfl, Put.refl _⟩
    exact (run_copy_nil (P := Try.prog) w 23 23 ty 34 ⟨g, 0, none⟩ 16 16 Try.underlying23 (by kernel_rfl)).trans rfl
  · cases hv
    refine ⟨_, fun ty => (run_copy_row (P := Try.prog) w 23 23 ty 34 g 0 16 16 ⟨b, off, none⟩ U.length c z16 t (u32s U) Try.underlying23 hi hg (by rw [u32s_len]; exact (Nat.min_eq_left hl).symm) (fun j v hj => by rw [Addr.add_lit]; exact hc j v hj) (by rw [u32s_len, z16_size]; omega) (u32s_ones U)).trans (congrArg (fun n : Nat => Result.ok (goInt n) _) (u32s_len U)), (setRow_heap w g _ _ t _ hg).trans ?_, (Put.refl _).setRow (by simp) _⟩
    have : z16.toList.take 0 ++ u32s U ++ z16.toList.drop (0 + (u32s U).length) = u32s (pad16 U) := by
      unfold pad16 z16 u32s
      rw [List.map_append, List.map_replicate, List.take_zero, List.nil_append, Nat.zero_add, List.length_map, List.drop_replicate]
      rfl
    rw [this]
theorem mk128 : ∀ w, Sem.run Try.prog (Instr.makeSlice 52 (.int .i64 128) (.int .i64 128)) w = .ok (.slice (some ⟨w.heap.size, 0, none⟩) 128 128) (w.alloc (.cells (byt (List.replicate 128 0)).toArray 5)) := fun w => make_row 128 (by decide) w
def row128 : Array Value := (byt (List.replicate 128 0)).toArray
set_option maxHeartbeats 1000000 in
theorem wipe_core (w : World) (p pv R n d q : Nat) (s : SD) (B : List Int) (F : List Nat) (hs : ShAt w p (.pointer (some ⟨pv, 0, none⟩)) q d s F) (hr : Ram w (.pointer (some ⟨pv, 0, none⟩)) R (List.range n)) (hB : RowB w R B) (lB : B.length = 64 * n) (hn : n ≤ 512) (hd : d + 1 < n) (hpR : p ≠ R) :
    Calls Try.prog 50 #[.pointer (some ⟨p, 0, none⟩)] w fun x w' => x = .returned (.tuple #[]) ∧ RowB w' R (zer B n (64 * d) 128) ∧ Put [R] w w' := by
  have c0 := hs.c0
  have c2 := hs.c2
  have lp : p < w.heap.size := by obtain ⟨_, hb⟩ := hs.blk; exact block_lt hb
  have mk : ∀ w, Sem.run Try.prog (Instr.makeSlice 52 (.int .i64 128) (.int .i64 128)) w = .ok (.slice (some ⟨w.heap.size, 0, none⟩) 128 128) (w.alloc (.cells row128 5)) := mk128
  have K1 : Kep w (w.drew.alloc (.cells row128 5)) := (Kep.refl w).drew.alloc _
  have RB : R < w.heap.size := block_lt (hB (by intro e; rw [e] at lB; simp at lB; omega))
  have H3 : Hid (Calls Try.prog 31 #[.pointer (some ⟨pv, 0, none⟩), .int .u32 (64 * d : Nat), .slice (some ⟨w.heap.size, 0, none⟩) 128 128] (w.drew.alloc (.cells row128 5)) fun e w' => e = .returned (.bool true) ∧ Put [R] (w.drew.alloc (.cells row128 5)) w' ∧ RowB w' R (zer B n (64 * d) 128)) :=
    shfill_any (hr.kep K1) (hB.kep K1) lB hn (64 * d) 128 w.heap.size (by omega) (by omega) (hat _ _ _ (by simp)) (by omega)
  have P1 : Hid (Put [R] w (w.drew.alloc (.cells row128 5))) := Put.of_kep K1
  clear hs hr hB K1
  go_enter Try.func50, Try.ntmps50
  go_wp2_with fail
  refine wp_region_held_drew (S := fun w' => w'.cell? ⟨p, 0, none⟩ = some (.pointer (some ⟨pv, 0, none⟩)) ∧ w'.cell? ⟨p, 2, none⟩ = some (.int .u32 (64 * d : Nat))) (by kernel_rfl) (⟨c0, c2⟩) (fun hH => ?_)
  refine wpAnyH_take (i := 0) (v := .pointer (some ⟨p, 0, none⟩)) rfl (by kernel_rfl) (by kernel_rfl) (by kernel_rfl) (fun _ _ _ h => h) (.inl ⟨by rfl, by intro w hS; go_simp⟩) hH ?_
  (try dsimp only [Act.put]); (try simp only [List.getElem_toArray, List.getElem_cons_zero, List.getElem_cons_succ, Act.put, List.setIfInBounds_toArray, List.set_cons_zero, List.set_cons_succ])
  refine wpAnyH_take (i := 1) (v := .pointer (some ⟨p, 0, none⟩)) rfl (by kernel_rfl) (by kernel_rfl) (by kernel_rfl) (fun _ _ _ h => h) (.inl ⟨by rfl, by intro w hS; go_simp⟩) hH ?_
  (try dsimp only [Act.put]); (try simp only [List.getElem_toArray, List.getElem_cons_zero, List.getElem_cons_succ, Act.put, List.setIfInBounds_toArray, List.set_cons_zero, List.set_cons_succ])
  refine wpAnyH_take (i := 2) (v := .pointer (some ⟨p, 0, none⟩)) rfl (by kernel_rfl) (by kernel_rfl) (by kernel_rfl) (fun _ _ _ h => h) (.inl ⟨by rfl, by intro w hS; go_simp⟩) hH ?_
  (try dsimp only [Act.put]); (try simp only [List.getElem_toArray, List.getElem_cons_zero, List.getElem_cons_succ, Act.put, List.setIfInBounds_toArray, List.set_cons_zero, List.set_cons_succ])
  refine wpAnyH_take (i := 3) (v := .pointer (some ⟨pv, 0, none⟩)) rfl (by kernel_rfl) (by kernel_rfl) (by kernel_rfl) (fun _ _ _ h => h) (.inl ⟨by rfl, by intro w hS; have c := hS.1; clear hS; go_simp⟩) hH ?_
  (try dsimp only [Act.put]); (try simp only [List.getElem_toArray, List.getElem_cons_zero, List.getElem_cons_succ, Act.put, List.setIfInBounds_toArray, List.set_cons_zero, List.set_cons_succ])
  refine wpAnyH_take (i := 4) (v := .pointer (some ⟨p, 0, none⟩)) rfl (by kernel_rfl) (by kernel_rfl) (by kernel_rfl) (fun _ _ _ h => h) (.inl ⟨by rfl, by intro w hS; go_simp⟩) hH ?_
  (try dsimp only [Act.put]); (try simp only [List.getElem_toArray, List.getElem_cons_zero, List.getElem_cons_succ, Act.put, List.setIfInBounds_toArray, List.set_cons_zero, List.set_cons_succ])
  refine wpAnyH_take (i := 5) (v := .pointer (some ⟨p, 0, none⟩)) rfl (by kernel_rfl) (by kernel_rfl) (by kernel_rfl) (fun _ _ _ h => h) (.inl ⟨by rfl, by intro w hS; go_simp⟩) hH ?_
  (try dsimp only [Act.put]); (try simp only [List.getElem_toArray, List.getElem_cons_zero, List.getElem_cons_succ, Act.put, List.setIfInBounds_toArray, List.set_cons_zero, List.set_cons_succ])
  refine wpAnyH_take (i := 6) (v := .pointer (some ⟨p, 2, none⟩)) rfl (by kernel_rfl) (by kernel_rfl) (by kernel_rfl) (fun _ _ _ h => h) (.inl ⟨by rfl, by intro w hS; go_simp⟩) hH ?_
  (try dsimp only [Act.put]); (try simp only [List.getElem_toArray, List.getElem_cons_zero, List.getElem_cons_succ, Act.put, List.setIfInBounds_toArray, List.set_cons_zero, List.set_cons_succ])
  refine wpAnyH_take (i := 7) (v := .int .u32 (64 * d : Nat)) rfl (by kernel_rfl) (by kernel_rfl) (by kernel_rfl) (fun _ _ _ h => h) (.inl ⟨by rfl, by intro w hS; have c := hS.2; clear hS; go_simp⟩) hH ?_
  (try dsimp only [Act.put]); (try simp only [List.getElem_toArray, List.getElem_cons_zero, List.getElem_cons_succ, Act.put, List.setIfInBounds_toArray, List.set_cons_zero, List.set_cons_succ])
  refine wpAnyH_ready (rs := [8]) (by kernel_rfl) (by simp) ?_
  refine AllReadyH.cons rfl (fun K hK => ?_) AllReadyH.nil
  rw [if_pos (by rfl)]
  go_simp
  refine hK.out _ _ ⟨(((Kep.refl w).drew.alloc _).cell lp).trans c0, (((Kep.refl w).drew.alloc _).cell lp).trans c2⟩ (fun hH => ?_)
  clear hK K
  (try dsimp only [Act.put]); (try simp only [List.getElem_toArray, List.getElem_cons_zero, List.getElem_cons_succ, Act.put, List.setIfInBounds_toArray, List.set_cons_zero, List.set_cons_succ])
  refine wpAnyH_ready (rs := [9]) (by kernel_rfl) (by simp) ?_
  refine AllReadyH.cons rfl (fun K hK => ?_) AllReadyH.nil
  rw [if_pos (by rfl)]
  go_simp
  refine H3.out.mono ?_
  rintro x w3 ⟨rfl, P3, B3⟩
  have P4 : Put [R] w w3 := P1.out.trans P3
  refine hK.out _ _ ⟨(P4.cell lp (by simp; exact hpR)).trans c0, (P4.cell lp (by simp; exact hpR)).trans c2⟩ (fun hH => ?_)
  clear hK K
  (try dsimp only [Act.put]); (try simp only [List.getElem_toArray, List.getElem_cons_zero, List.getElem_cons_succ, Act.put, List.setIfInBounds_toArray, List.set_cons_zero, List.set_cons_succ])
  refine wpAnyH_done (by kernel_rfl) ?_ _
  go_wp2_with fail
  go_end0
  exact ⟨rfl, B3, P4⟩

set_option maxHeartbeats 4000000 in
theorem shwipe_any {w : World} {p pv R n d f q M : Nat} {Z : List Int} {s : SD} {B : List Int} {L : List Bool} {g m : Int} {F : List Nat} (h : ShW w p pv R n d f q M Z s B L g m F) :
    Calls Try.prog 50 #[.pointer (some ⟨p, 0, none⟩)] w fun x w' => x = .returned (.tuple #[]) ∧ ShW w' p pv R n d f q M Z s (zer B n (64 * d) 128) L g m F ∧ Put [R] w w' := by
  refine (wipe_core w p pv R n d q s B F h.sh h.ram h.row h.inv.lB h.inv.nn h.inv.dn h.ne.1).mono ?_
  rintro x w' ⟨rfl, hB, k⟩
  exact ⟨rfl, h.mem k hB (h.inv.dir (wipe_only h.inv)), k⟩

set_option maxHeartbeats 4000000 in
theorem shlayup_core (w : World) (p pv R n d q : Nat) (s : SD) (B : List Int) (F : List Nat) (hs : ShAt w p (.pointer (some ⟨pv, 0, none⟩)) q d s F) (hr : Ram w (.pointer (some ⟨pv, 0, none⟩)) R (List.range n)) (hB : RowB w R B) (lB : B.length = 64 * n) (hn : n ≤ 512) (hd : d + 1 < n) (hpR : p ≠ R) (lU : s.U.length ≤ 16) (uw : ∀ u ∈ s.U, u < 4294967296) (bB : Byts B) :
    Calls Try.prog 54 #[.pointer (some ⟨p, 0, none⟩)] w fun x w' => x = .returned (.tuple #[]) ∧ RowB w' R (upB d s.U 16 B) ∧ Put [R] w w' := by
  have c0' : Hid (w.cell? ⟨p, 0, none⟩ = some (.pointer (some ⟨pv, 0, none⟩)) ∧ w.cell? ⟨p, 2, none⟩ = some (.int .u32 (64 * d : Nat))) := ⟨hs.c0, hs.c2⟩
  have lp : p < w.heap.size := by obtain ⟨_, hb⟩ := hs.blk; exact block_lt hb
  have RB : R < w.heap.size := block_lt (hB (by intro e; rw [e] at lB; simp at lB; omega))
  have HR : Hid (Ram w (.pointer (some ⟨pv, 0, none⟩)) R (List.range n) ∧ RowB w R B) := ⟨hr, hB⟩
  have HUP : Hid (∀ k, k ≤ 16 → (upB d s.U k B).length = 64 * n) := fun k hk => (upB_only (n := n) s.U bB lB hd k hk).len.trans lB
  have HUW : Hid (∀ k, s.U.getD k 0 < 4294967296) := fun k => by
    by_cases g : k < s.U.length
    · have : s.U.getD k 0 = s.U[k] := by simp [List.getD, g]
      rw [this]; exact uw _ (List.getElem_mem g)
    · rw [show s.U.getD k 0 = 0 by simp [List.getD, List.getElem?_eq_none (Nat.le_of_not_lt g)]]; decide
  obtain ⟨ux, uc, cU, sU⟩ := hs.cU
  have A0 : (w.alloc (.cells z16 86)).drew.heap[w.heap.size]? = some (.cells z16 86 (0, 0)) := hat _ _ _ rfl
  have KW : Kep w (w.alloc (.cells z16 86)) := (Kep.refl w).alloc _
  obtain ⟨w2, hcp, A2, Q2⟩ := cp_words A0 (sU.kep KW.drew) lU
  have K2 : Hid (Kep w w2) := KW.drew.put Q2 (by simp)
  have cU1 : (w.alloc (.cells z16 86)).cell? ⟨p, 547, none⟩ = some (.slice ux s.U.length uc) := (KW.cell lp).trans cU
  have cU2 : w2.cell? ⟨p, 547, none⟩ = some (.slice ux s.U.length uc) := (K2.out.cell lp).trans cU
  have hix : ∀ k : Nat, k < 16 → ∀ w, (Instr.index 86 (.agg (u32s (pad16 s.U)).toArray) (.int .i64 k)).run Try.prog w = .ok (.int .u32 (s.U.getD k 0 : Nat)) w := fun k hk w => by
    rw [← pad16_at]
    exact index_u32 Try.underlying86 (pad16 s.U) (pad16_len lU) k hk w
  have hsz : (Try.prog.info? 86).map (·.size) = some (u32s (pad16 s.U)).toArray.size := by
    rw [List.size_toArray, u32s_len, pad16_len lU]; kernel_rfl
  generalize (u32s (pad16 s.U)).toArray = Y at A2 hix hsz
  have hix' : Hid _ := hix
  generalize s.U = U at HUP HUW hix' hcp cU1 cU2
  clear hs hr hB sU cU Q2 hix A0 KW uw lU
  generalize hgx : w.heap.size = gx at A2 hcp
  go_enter Try.func54, Try.ntmps54
  go_wp2_with fail
  change Code.wp Try.prog _ _ _ (w.alloc (.cells z16 86))
  generalize w.alloc (.cells z16 86) = W0 at hcp cU1 ⊢
  refine wp_region_held_drew (S := fun w' => w'.cell? ⟨p, 547, none⟩ = some (.slice ux U.length uc)) (by kernel_rfl) (cU1) (fun hH => ?_)
  refine wpAnyH_take (i := 0) (v := .slice (some ⟨gx, 0, none⟩) 16 16) rfl (by kernel_rfl) (by kernel_rfl) (by kernel_rfl) (fun _ _ _ h => h) (.inl ⟨by rfl, by intro w hS; go_simp⟩) hH ?_
  (try dsimp only [Act.put]); (try simp only [List.getElem_toArray, List.getElem_cons_zero, List.getElem_cons_succ, Act.put, List.setIfInBounds_toArray, List.set_cons_zero, List.set_cons_succ])
  refine wpAnyH_take (i := 1) (v := .pointer (some ⟨p, 0, none⟩)) rfl (by kernel_rfl) (by kernel_rfl) (by kernel_rfl) (fun _ _ _ h => h) (.inl ⟨by rfl, by intro w hS; go_simp⟩) hH ?_
  (try dsimp only [Act.put]); (try simp only [List.getElem_toArray, List.getElem_cons_zero, List.getElem_cons_succ, Act.put, List.setIfInBounds_toArray, List.set_cons_zero, List.set_cons_succ])
  refine wpAnyH_take (i := 2) (v := .pointer (some ⟨p, 0, none⟩)) rfl (by kernel_rfl) (by kernel_rfl) (by kernel_rfl) (fun _ _ _ h => h) (.inl ⟨by rfl, by intro w hS; go_simp⟩) hH ?_
  (try dsimp only [Act.put]); (try simp only [List.getElem_toArray, List.getElem_cons_zero, List.getElem_cons_succ, Act.put, List.setIfInBounds_toArray, List.set_cons_zero, List.set_cons_succ])
  refine wpAnyH_take (i := 3) (v := .pointer (some ⟨p, 547, none⟩)) rfl (by kernel_rfl) (by kernel_rfl) (by kernel_rfl) (fun _ _ _ h => h) (.inl ⟨by rfl, by intro w hS; go_simp⟩) hH ?_
  (try dsimp only [Act.put]); (try simp only [List.getElem_toArray, List.getElem_cons_zero, List.getElem_cons_succ, Act.put, List.setIfInBounds_toArray, List.set_cons_zero, List.set_cons_succ])
  refine wpAnyH_take (i := 4) (v := .slice ux U.length uc) rfl (by kernel_rfl) (by kernel_rfl) (by kernel_rfl) (fun _ _ _ h => h) (.inl ⟨by rfl, by intro w hS; have c := hS; clear hS; go_simp⟩) hH ?_
  (try dsimp only [Act.put]); (try simp only [List.getElem_toArray, List.getElem_cons_zero, List.getElem_cons_succ, Act.put, List.setIfInBounds_toArray, List.set_cons_zero, List.set_cons_succ])
  refine wpAnyH_ready (rs := [5]) (by kernel_rfl) (by simp) ?_
  refine AllReadyH.cons rfl (fun K hK => ?_) AllReadyH.nil
  rw [if_pos (by rfl)]
  go_simp
  refine hK.out _ _ cU2 (fun hH => ?_)
  clear hK K
  (try dsimp only [Act.put]); (try simp only [List.getElem_toArray, List.getElem_cons_zero, List.getElem_cons_succ, Act.put, List.setIfInBounds_toArray, List.set_cons_zero, List.set_cons_succ])
  refine wpAnyH_done (by kernel_rfl) ?_ _
  go_wp2_with (refine wpList_load_row (by rfl) 86 _ (by rfl) gx (by rfl) 86 _ (0, 0) _ A2 Try.underlying86 rfl hsz ?_)
  clear cU2 A2 hsz
  go_loopw [12] (fun i wr => ∃ k : Nat, (k : Int) ≤ 16 ∧ i = .int .i64 k ∧ Hid (Put [R] w wr ∧ RowB wr R (upB d U k B))) (fun i _ => 16 - (intOf i).toNat)
  case atStart => exact ⟨0, by omega, rfl, Put.of_kep K2.out, HR.out.2.kep K2.out⟩
  case round =>
    obtain ⟨k, hk, rfl, hI⟩ := hrel
    by_cases hlt : (k : Int) < 16
    · have hk16 : k < 16 := by omega
      have hixk := hix'.out k hk16
      have hUk : U.getD k 0 < 4294967296 := HUW.out k
      have hLk : (upB d U k B).length = 64 * n := HUP.out k (by omega)
      have hnx : upB d U (k + 1) B = setW (upB d U k B) (64 * d + 64 + 4 * k) (U.getD k 0 : Nat) := rfl
      have hnx' : Hid _ := hnx
      have c0 : wr.cell? ⟨p, 0, none⟩ = some (.pointer (some ⟨pv, 0, none⟩)) := (hI.out.1.cell lp (by simp; exact hpR)).trans c0'.out.1
      have c2 : wr.cell? ⟨p, 2, none⟩ = some (.int .u32 (64 * d : Nat)) := (hI.out.1.cell lp (by simp; exact hpR)).trans c0'.out.2
      obtain ⟨j, hj⟩ : ∃ j, Hid (j = 16 + k) := ⟨_, rfl⟩
      obtain ⟨ad, had⟩ : ∃ ad, Hid (ad = 64 * d + 4 * j) := ⟨_, rfl⟩
      have H2 : Hid (∀ w, w.cell? ⟨p, 2, none⟩ = some (.int .u32 (64 * d : Nat)) → Calls Try.prog 64 #[.pointer (some ⟨p, 0, none⟩), .int .i64 j] w fun e w' => e = .returned (.int .u32 (ad : Nat)) ∧ w' = w) := fun w => by rw [had.out]; exact shentry_any p d j (by omega) (by rw [hj.out]; omega) w
      have eA : ad = 64 * d + 64 + 4 * k := by rw [had.out, hj.out]; omega
      have H3 : Hid (Calls Try.prog 63 #[.pointer (some ⟨pv, 0, none⟩), .int .u32 (ad : Nat), .int .u32 (U.getD k 0 : Nat)] wr.drew fun e w' => e = .returned (.bool true) ∧ Put [R] wr.drew w' ∧ RowB w' R (upB d U (k + 1) B)) := by
        rw [hnx, eA]
        exact shsetw_any ((HR.out.1.put hI.out.1).kep (Kep.refl _).drew) (hI.out.2.kep (Kep.refl _).drew) hLk hn _ (by omega) (by omega) _ hUk
      clear eA
      generalize U.getD k 0 = u at hixk H3
      clear hnx hnx' hLk hUk
      go_wp2_with fail
      refine wp_region_held_drew (S := fun w' => w'.cell? ⟨p, 0, none⟩ = some (.pointer (some ⟨pv, 0, none⟩))) (by kernel_rfl) (c0) (fun hH => ?_)
      refine wpAnyH_take (i := 0) (v := .pointer (some ⟨p, 0, none⟩)) rfl (by kernel_rfl) (by kernel_rfl) (by kernel_rfl) (fun _ _ _ h => h) (.inl ⟨by rfl, by intro w hS; go_simp⟩) hH ?_
      (try dsimp only [Act.put]); (try simp only [List.getElem_toArray, List.getElem_cons_zero, List.getElem_cons_succ, Act.put, List.setIfInBounds_toArray, List.set_cons_zero, List.set_cons_succ])
      refine wpAnyH_take (i := 1) (v := .pointer (some ⟨p, 0, none⟩)) rfl (by kernel_rfl) (by kernel_rfl) (by kernel_rfl) (fun _ _ _ h => h) (.inl ⟨by rfl, by intro w hS; go_simp⟩) hH ?_
      (try dsimp only [Act.put]); (try simp only [List.getElem_toArray, List.getElem_cons_zero, List.getElem_cons_succ, Act.put, List.setIfInBounds_toArray, List.set_cons_zero, List.set_cons_succ])
      refine wpAnyH_take (i := 2) (v := .pointer (some ⟨p, 0, none⟩)) rfl (by kernel_rfl) (by kernel_rfl) (by kernel_rfl) (fun _ _ _ h => h) (.inl ⟨by rfl, by intro w hS; go_simp⟩) hH ?_
      (try dsimp only [Act.put]); (try simp only [List.getElem_toArray, List.getElem_cons_zero, List.getElem_cons_succ, Act.put, List.setIfInBounds_toArray, List.set_cons_zero, List.set_cons_succ])
      refine wpAnyH_take (i := 3) (v := .pointer (some ⟨pv, 0, none⟩)) rfl (by kernel_rfl) (by kernel_rfl) (by kernel_rfl) (fun _ _ _ h => h) (.inl ⟨by rfl, by intro w hS; have c := hS; clear hS; go_simp⟩) hH ?_
      (try dsimp only [Act.put]); (try simp only [List.getElem_toArray, List.getElem_cons_zero, List.getElem_cons_succ, Act.put, List.setIfInBounds_toArray, List.set_cons_zero, List.set_cons_succ])
      refine wpAnyH_take (i := 4) (v := .pointer (some ⟨p, 0, none⟩)) rfl (by kernel_rfl) (by kernel_rfl) (by kernel_rfl) (fun _ _ _ h => h) (.inl ⟨by rfl, by intro w hS; go_simp⟩) hH ?_
      (try dsimp only [Act.put]); (try simp only [List.getElem_toArray, List.getElem_cons_zero, List.getElem_cons_succ, Act.put, List.setIfInBounds_toArray, List.set_cons_zero, List.set_cons_succ])
      refine wpAnyH_take (i := 5) (v := .int .i64 k) rfl (by kernel_rfl) (by kernel_rfl) (by kernel_rfl) (fun _ _ _ h => h) (.inl ⟨by rfl, by intro w hS; go_simp⟩) hH ?_
      (try dsimp only [Act.put]); (try simp only [List.getElem_toArray, List.getElem_cons_zero, List.getElem_cons_succ, Act.put, List.setIfInBounds_toArray, List.set_cons_zero, List.set_cons_succ])
      refine wpAnyH_take (i := 6) (v := .int .i64 j) rfl (by kernel_rfl) (by kernel_rfl) (by kernel_rfl) (fun _ _ _ h => h) (.inl ⟨by rfl, by intro w hS; have hj2 := hj.out; clear hS; go_simp; rw [IntKind.wrap_i64]; omega⟩) hH ?_
      (try dsimp only [Act.put]); (try simp only [List.getElem_toArray, List.getElem_cons_zero, List.getElem_cons_succ, Act.put, List.setIfInBounds_toArray, List.set_cons_zero, List.set_cons_succ])
      refine wpAnyH_take (i := 8) (v := .int .u32 u) rfl (by kernel_rfl) (by kernel_rfl) (by kernel_rfl) (fun _ _ _ h => h) (.inl ⟨by rfl, by intro w hS; go_simp⟩) hH ?_
      (try dsimp only [Act.put]); (try simp only [List.getElem_toArray, List.getElem_cons_zero, List.getElem_cons_succ, Act.put, List.setIfInBounds_toArray, List.set_cons_zero, List.set_cons_succ])
      refine wpAnyH_ready (rs := [7]) (by kernel_rfl) (by simp) ?_
      refine AllReadyH.cons rfl (fun K hK => ?_) AllReadyH.nil
      rw [if_pos (by rfl)]
      go_simp
      refine (H2.out wr.drew c2).mono ?_
      rintro x w4 ⟨rfl, rfl⟩
      refine hK.out _ _ c0 (fun hH => ?_)
      clear hK K
      (try dsimp only [Act.put]); (try simp only [List.getElem_toArray, List.getElem_cons_zero, List.getElem_cons_succ, Act.put, List.setIfInBounds_toArray, List.set_cons_zero, List.set_cons_succ])
      refine wpAnyH_ready (rs := [9]) (by kernel_rfl) (by simp) ?_
      refine AllReadyH.cons rfl (fun K hK => ?_) AllReadyH.nil
      rw [if_pos (by rfl)]
      go_simp
      refine H3.out.mono ?_
      rintro x w5 ⟨rfl, P5a, B5⟩
      have P5 : Put [R] w w5 := hI.out.1.drew.trans P5a
      refine hK.out _ _ ((P5.cell lp (by simp; exact hpR)).trans c0'.out.1) (fun hH => ?_)
      clear hK K
      (try dsimp only [Act.put]); (try simp only [List.getElem_toArray, List.getElem_cons_zero, List.getElem_cons_succ, Act.put, List.setIfInBounds_toArray, List.set_cons_zero, List.set_cons_succ])
      refine wpAnyH_done (by kernel_rfl) ?_ _
      go_wp2_with fail
      go_roundw
      case rel => exact ⟨k + 1, by omega, by go_num, P5, B5⟩
      case measure => simp [intOf]; omega
    · go_wp2_with fail
      go_end0
      obtain rfl : k = 16 := by omega
      exact ⟨rfl, hI.out.2, hI.out.1⟩

end Go.Proofs.Ythgkkjcemjadoaa
