/- List; two rows that are the same; that marks are there at all. -/
import Derived.Test.YtncfkbnjiacblaaMklist
namespace Go.Proofs.Ytncfkbnjiacblaa
open Go.RowKit Go.Shelf Go.Great
set_option linter.unusedVariables false
set_option linter.unusedSimpArgs false
attribute [local go_sem] Oper.semAt_some

theorem frames_any (w : World) (x : Option Addr) (n : Nat) :
    Calls Try.prog 24 #[.slice x n n] w fun e w' => e = .returned (.func (.func 25) #[] #[.pointer (some ⟨w.heap.size, 0, none⟩)]) ∧ w' = w.alloc (.cells #[.slice x n n] 44) := by
  have hmf : ∀ (fn : Fn) (first cap : Array Value) (w : World), (Instr.makeFunc fn first cap).run Try.prog w = .ok (.func fn first cap) w := fun _ _ _ _ => rfl
  go_enter Try.func24, Try.ntmps24
  go_wp2
  go_ret
  exact ⟨rfl, rfl⟩
set_option maxRecDepth 100000 in
set_option maxHeartbeats 4000000 in
theorem list_in (w : World) (v : Value) (n : Nat) (k : Int) (L0 L1 L : List Bool) (hL : kindL L0 L1 k = L) (hn : L.length = n) (hmax : (n : Int) ≤ 64) (h : MSt w v L0 L1) :
    CallsIn Fence.wide 5 Try.prog 17 #[v, .int .i64 k] w fun e W' => ∃ v, e = .returned v ∧ W'.ownsRow w.heap.size 3 1 v (frs L n).length (ints (frs L n)) ∧ Kep w W' := by
  have HO : Hid (∀ w', Kep w w' → CallsIn Fence.wide 4 Try.prog 21 #[v, .int .i64 k] w' fun e w'' => ∃ x, e = .returned (.slice x n n) ∧ SetAt w x L ∧ w'' = w') := fun w' kw => callsIn_wide.2 (by
    have hp : MSt w v L0 L1 := h
    rcases hp with ⟨rfl, rfl, rfl⟩ | ⟨p, x0, x1, rfl, hb, h0, h1⟩
    · refine (of_any k (h.kep kw)).mono ?_
      rintro e w2 ⟨x, rfl, _, rfl⟩
      have e : L = [] := by rw [← hL]; simp [kindL]
      subst e
      rw [hL]
      exact ⟨x, by rw [hn], .inl rfl, rfl⟩
    · refine (of_box (n0 := 0) (n1 := 0) k (kw.block hb)).mono ?_
      rintro e w2 ⟨rfl, rfl⟩
      rw [hL, hn]
      refine ⟨_, rfl, ?_, rfl⟩
      rw [← hL]
      unfold kindX kindL
      split
      · exact h0
      · split
        · exact h1
        · exact .inl rfl)
  have HF : Hid (∀ w' x, CallsIn Fence.wide 4 Try.prog 24 #[.slice x n n] w' fun e w'' => e = .returned (.func (.func 25) #[] #[.pointer (some ⟨w'.heap.size, 0, none⟩)]) ∧ w'' = w'.alloc (.cells #[.slice x n n] 44)) := fun w' x => callsIn_wide.2 (frames_any w' x n)
  have hn' : Hid (L.length = n) := hn
  clear h hn hL
  refine callsIn_of_wp_marks Try.func17 rfl trivial ?_ rfl
  simp only [Try.ntmps17, List.size_toArray, List.length_cons, List.length_nil, Nat.reduceAdd, Nat.reduceSub, Array.replicate_succ, Array.replicate_zero, List.push_toArray, List.append_toArray, List.nil_append, List.cons_append]
  gi_wp2_with (refine ⟨trivial, ?_⟩; first
    | (gi_at_call 21; refine (HO.out _ ((Kep.refl _).alloc _)).mono ?_; rintro e w' ⟨x, rfl, hS, hq0⟩; rw [hq0]; clear hq0 w')
    | (gi_at_call 24; refine (HF.out _ x).mono ?_; rintro e w' ⟨rfl, rfl⟩))
  obtain ⟨W0, hW0⟩ : ∃ W0, Hid (W0 = (w.alloc (.cells #[.slice none 0 0] 39)).alloc (.cells #[.slice x n n] 44)) := ⟨_, rfl⟩
  have hz : W0.heap.size = w.heap.size + 2 := by rw [hW0.out]; simp
  have hS' : Hid (SetAt w x L) := hS
  have I0 : ListI w x n [] W0 := by
    rw [hW0.out]
    refine ⟨⟨.slice none 0 0, ?_, World.ownsRow_nil _ _ _ _⟩, ((Kep.refl _).alloc _).alloc _, ?_, by simp⟩
    · exact (hsk _ _ _ (by simp)).trans (hat _ _ _ rfl)
    · exact hat _ _ _ (by simp)
  rw [← hW0.out]
  clear hW0 hS
  refine range_all rfl (by decide) (gf := 25) (lb := #[.pointer (some ⟨w.heap.size + 1, 0, none⟩)]) rfl trivial (enters_of Try.func25 (by kernel_rfl) rfl)
    (fun y : Nat => #[.int .i64 y]) (fun _ => rfl) (ListI w x n) (fun s y W => s = frs L y ∧ y < n ∧ L.getD y false = true ∧ ListI w x n s W) (fun s y => s ++ [(y : Int)]) (fun s => s = frs L n)
    (fun s W W' h k => h.soft (by omega) k) [] I0 ?seq ?round ?done
  case seq =>
    intro l J Jm W hJ hJm hJJ hY h0
    exact frames1_in 4 l n (by decide) L hn'.out (by omega) (w.heap.size + 1) W0.heap.size x (ListI w x n) (fun s W h => ⟨h.2.2.1.cell, hS'.out.kep h.2.1⟩) J Jm W hJ hJm hY h0
  case round =>
    rintro l s y W ⟨rfl, hy, hb, hI⟩
    simp only []
    gi_wp2
    refine ⟨KeepsFrom.refl _ _, fun W2 hs2 => ?_⟩
    obtain ⟨⟨v, h1, h2⟩, h3, h4, h5⟩ := hI.soft (by omega) hs2
    have c1 := h1.cell
    have hlen := frs_len L y
    have hP : Hid (∀ (g c : Nat) (w' : World), w'.ownsRow w.heap.size 3 1 (.slice (some ⟨g, 0, none⟩) ((frs L y).length + 1) c) ((frs L y).length + 1) (ints (frs L y) ++ [.int .i64 (y : Int)]) → (W2.alloc (.cells #[.int .i64 (y : Int)] 3)).grownBy w' v.ownBlock →
      w'.cell? ⟨w.heap.size, 0, none⟩ = some v ∧ w'.frozen? ⟨w.heap.size, 0, none⟩ = false ∧ ∀ B, KeepsFrom B W2 (w'.setCell ⟨w.heap.size, 0, none⟩ (.slice (some ⟨g, 0, none⟩) ((frs L y).length + 1) c)) ∧ ListI w x n (frs L y ++ [(y : Int)]) (w'.setCell ⟨w.heap.size, 0, none⟩ (.slice (some ⟨g, 0, none⟩) ((frs L y).length + 1) c))) := fun g c w' ho hg => list_push h1 h2 h3 h4 (by omega) ho hg
    obtain ⟨i0, hi, hz0, hz1, hz2⟩ := info_parts info_i64
    have hO : Hid ((W2.alloc (.cells #[.int .i64 (y : Int)] 3)).ownsRow w.heap.size 3 1 v (frs L y).length (ints (frs L y))) := (Soft.of_kep (B := 0) ((Kep.refl _).alloc _)).owns h2
    have hm1 : (frs L y).length + 1 ≤ maxLen := by unfold maxLen; omega
    have hsz : Hid (w.heap.size ≤ (W2.alloc (.cells #[.int .i64 (y : Int)] 3)).heap.size) := by have := h3.size; rw [Hid]; simp; omega
    clear h1 h2 h3 h4 h5 hI hs2 I0 hS'
    generalize frs L y = s at *
    gi_wp2_with (gi_at_builtin; refine wpListIn_append_own _ rfl _ _ 39 rfl w.heap.size 3 i0 (.int .i64 0) 1 8 Try.underlying39 hi hz0 hz1 hz2 rfl (by decide) v s.length (ints s) rfl hO.out ⟨W2.heap.size, 0, none⟩ 1 1 [.int .i64 y] rfl rfl (cell_one_new _ _ _) (ints_one _) hm1 (by omega) hsz.out ?_; intro v' w1 hown' hgrow _; obtain ⟨g, c, rfl⟩ := ownsRow_succ hown'; obtain ⟨hc', hz', hfin⟩ := hP.out g c w1 hown' hgrow; have hfin' : Hid _ := hfin; clear hfin hP hO hown' hgrow)
    exact hfin'.out _
  case done =>
    rintro D s W hD rfl ⟨⟨v, hv, hrow⟩, hkp, _, _⟩ hK
    have hc := hv.cell
    gi_wp2
    refine ⟨by simp, .inl ⟨_, _, rfl, run_takeDeferred hK, ?_⟩⟩
    have hs := Soft.obj (B := w.heap.size) (.deferred none) hK rfl (by omega)
    refine ⟨v, by simp [results, Try.f17, go_sem], v, rfl, hs.owns hrow, hs.kept hkp (Nat.le_refl _)⟩
theorem mlist_any {w : World} {v : Value} {L0 L1 : List Bool} (k : Int) (h : MSt w v L0 L1) (hmax : ((kindL L0 L1 k).length : Int) ≤ 64) :
    Calls Try.prog 17 #[v, .int .i64 k] w fun e w' => ∃ (x : Option Addr) (cap : Nat), e = .returned (.slice x (frs (kindL L0 L1 k) (kindL L0 L1 k).length).length cap) ∧ LI w' x (frs (kindL L0 L1 k) (kindL L0 L1 k).length) ∧ Kep w w' := by
  refine (callsIn_wide.1 (list_in w v _ k L0 L1 _ rfl rfl hmax h)).mono ?_
  rintro e w' ⟨v', rfl, ho, K⟩
  obtain ⟨x, cap, rfl, hL⟩ := LI.of_owns ho
  exact ⟨x, cap, rfl, hL, K⟩
set_option maxHeartbeats 1000000 in
theorem same15_yes (x y : Option Addr) (n c d : Nat) (hn : (n : Int) ≤ 512) (l : List Int) (hl : l.length = n) (w : World) (hx : LI w x l) (hy : LI w y l) :
    Calls Try.prog 16 #[.slice x n c, .slice y n d] w fun e w' => e = .returned (.bool true) ∧ Kep w w' := by
  have hx' : Hid (LI w x l) := hx
  have hy' : Hid (LI w y l) := hy
  clear hx hy
  go_enter Try.func16, Try.ntmps16
  go_wp2_with fail
  go_loopw [5] (fun i wr => ∃ k : Nat, (k : Int) ≤ n ∧ i = .int .i64 k ∧ Hid (Kep w wr)) (fun i _ => n - (intOf i).toNat)
  case atStart => exact ⟨0, by omega, rfl, Kep.refl _⟩
  case round =>
    obtain ⟨k, hk, rfl, K⟩ := hrel
    by_cases hlt : k < n
    · have hkl : k < l.length := by omega
      have hne : l ≠ [] := fun e => by rw [e] at hkl; simp at hkl
      obtain ⟨R, rfl, _, hc⟩ := (hx'.out.kep K.out).resolve_left hne
      obtain ⟨S, rfl, _, hd⟩ := (hy'.out.kep K.out).resolve_left hne
      have c1 := hc k hkl
      have c2 := hd k hkl
      clear hc hd hx' hy'
      generalize l.getD k 0 = a at c1 c2
      have hlt' : (k : Int) < n := by omega
      go_wp2_with fail
      go_region
      all_goals
        go_wp2_with fail
        go_roundw
        case rel => exact ⟨k + 1, by omega, by go_num, K.out.drew⟩
        case measure => simp [intOf]; omega
    · obtain rfl : k = n := by omega
      go_wp2_with fail
      go_ret
      exact ⟨rfl, K.out⟩
theorem works15_any (w : World) : Calls Try.prog 19 #[] w fun e w' => e = .returned (.bool true) ∧ Kep w w' := by
  have HN : Hid (Calls Try.prog 7 #[.int .i64 4] w fun e w' => e = .returned (.tuple #[.pointer (some ⟨w.heap.size, 0, none⟩), .int .i64 0]) ∧ Kep w w' ∧ MarksAt w' w.heap.size (w.heap.size + 1) (w.heap.size + 2) [false, false, false, false] [false, false, false, false]) := mnew_any w 4 (by omega) (by omega)
  go_enter Try.func19, Try.ntmps19
  go_wp2_with fail
  refine HN.out.mono ?_
  rintro e w1 ⟨rfl, K1, M1⟩
  have H2 : Hid (Calls Try.prog 10 #[.pointer (some ⟨w.heap.size, 0, none⟩), .int .i64 2, .int .i64 1] w1 fun e w' => e = .returned (.bool true) ∧ MarksAt w' w.heap.size (w.heap.size + 1) (w.heap.size + 2) [false, false, true, false] [false, false, false, false] ∧ Put [w.heap.size + 1, w.heap.size + 2] w1 w') := mmark_any 2 1 M1
  have K1' : Hid (Kep w w1) := K1
  clear HN M1 K1
  go_wp2_with fail
  refine H2.out.mono ?_
  rintro e w2 ⟨rfl, M2, P2⟩
  have H3 : Hid (Calls Try.prog 10 #[.pointer (some ⟨w.heap.size, 0, none⟩), .int .i64 2, .int .i64 2] w2 fun e w' => e = .returned (.bool false) ∧ MarksAt w' w.heap.size (w.heap.size + 1) (w.heap.size + 2) [false, false, true, false] [false, false, true, false] ∧ Put [w.heap.size + 1, w.heap.size + 2] w2 w') := mmark_any 2 2 M2
  have K2' : Hid (Kep w w2) := K1'.out.put P2 (by simp)
  clear H2 M2 P2 K1'
  go_wp2_with fail
  refine H3.out.mono ?_
  rintro e w3 ⟨rfl, M3, P3⟩
  have H4 : Hid (Calls Try.prog 14 #[.pointer (some ⟨w.heap.size, 0, none⟩), .int .i64 2, .int .i64 1] w3 fun e w' => e = .returned (.bool true) ∧ w' = w3) := mhas_any 2 1 M3.st
  have K3' : Hid (Kep w w3) := K2'.out.put P3 (by simp)
  clear H3 M3 P3 K2'
  go_wp2_with fail
  refine H4.out.mono ?_
  rintro e w4 ⟨rfl, rfl⟩
  go_wp2_with fail
  go_ret
  exact ⟨rfl, K3'.out⟩
end Go.Proofs.Ytncfkbnjiacblaa
