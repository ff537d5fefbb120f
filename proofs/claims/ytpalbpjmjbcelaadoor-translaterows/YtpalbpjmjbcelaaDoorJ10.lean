/- Part of a proof. -/
import Derived.Test.YtpalbpjmjbcelaaDoorJ09
namespace Go.Proofs.YtpalbpjmjbcelaaDoor
open Go.RowKit
set_option linter.unusedVariables false
set_option linter.unusedSimpArgs false
def CdAt (w : World) (v1 v2 : Value) (T : List It) : Prop := ∃ F G, Sli w 5 1 v1 (itB T).length (bs (itB T)) F ∧ Sli w 41 4 v2 T.length (rws (itR T)) G
theorem CdAt.kep {w w' : World} {v1 v2 : Value} {T : List It} (h : CdAt w v1 v2 T) (k : Kep w w') : CdAt w' v1 v2 T := by
  obtain ⟨F, G, a, b⟩ := h
  exact ⟨F, G, a.kep k, b.kep k⟩
theorem outsI_one (p dn first : Int) : outsI [p] dn first 1 = outI p dn first := by
  show [] ++ outI p dn (first + ((0 : Nat) : Int)) = _
  rw [List.nil_append]; congr 1; omega
theorem outsI_two (p q dn first : Int) : outsI [p, q] dn first 2 = outI p dn first ++ outI q dn (first + 1) := by
  show ([] ++ outI p dn (first + ((0 : Nat) : Int))) ++ outI q dn (first + ((1 : Nat) : Int)) = _
  rw [List.nil_append]; congr 2; omega
theorem lttr_any {w : World} {xi : Option Addr} {li ci : Nat} {I : List In4} {xa : Option Addr} {la ca : Nat} {A : List Int} {n t e : Int} {xf : Option Addr} {lf cf : Nat} {xt : Option Addr} {lt ct : Nat} (H : BlkIn w xi li ci I xa la ca A n t e) (first : Int) (hm : mayL I la e = true) (hf : 0 ≤ first ∧ first ≤ 65534) (hT : Tabs w) :
    Calls Tryd.prog 11 #[.agg (blkX xi li ci xa la ca n t e xf lf cf xt lt ct), .int .i64 first] w fun r w' => ∃ v1 v2, r = .returned (.tuple #[.agg #[v1, v2], .int .i64 0]) ∧ CdAt w' v1 v2 (trI I A n t e first) ∧ Kep w w' := by
  obtain ⟨m1, m2, m3⟩ := may_fit hm
  by_cases h4 : e = 4
  · subst h4
    refine (lttr_asked H first hm hf hT).mono ?_
    rintro r w' ⟨v1, v2, F, G, rfl, a, b, k⟩
    have e : trI I A n t 4 first = runI n I A (la - 1) ++ outI (A.getD (la - 1) 0) ((la : Int) - 1) first := by rw [m3]; rfl
    exact ⟨v1, v2, rfl, ⟨F, G, by rw [e]; exact a, by rw [e]; exact b⟩, k⟩
  by_cases h3 : e = 3
  · subst h3
    refine (lttr_led H first hm hf [n, t] (.inl ⟨rfl, rfl⟩) hT).mono ?_
    rintro r w' ⟨v1, v2, F, G, rfl, a, b, k⟩
    have e : trI I A n t 3 first = runI n I A la ++ outsI [n, t] la first [n, t].length := by
      show (runI n I A I.length ++ outI n I.length first) ++ outI t I.length (first + 1) = runI n I A la ++ outsI [n, t] la first 2
      rw [outsI_two, m3, List.append_assoc]
    exact ⟨v1, v2, rfl, ⟨F, G, by rw [e]; exact a, by rw [e]; exact b⟩, k⟩
  by_cases h2 : e = 2
  · subst h2
    refine (lttr_led H first hm hf [t] (.inr (.inl ⟨rfl, rfl⟩)) hT).mono ?_
    rintro r w' ⟨v1, v2, F, G, rfl, a, b, k⟩
    have e : trI I A n t 2 first = runI n I A la ++ outsI [t] la first [t].length := by
      show runI n I A I.length ++ outI t I.length first = runI n I A la ++ outsI [t] la first 1
      rw [outsI_one, m3]
    exact ⟨v1, v2, rfl, ⟨F, G, by rw [e]; exact a, by rw [e]; exact b⟩, k⟩
  · refine (lttr_led H first hm hf [n] (.inr (.inr ⟨h2, h3, h4, rfl⟩)) hT).mono ?_
    rintro r w' ⟨v1, v2, F, G, rfl, a, b, k⟩
    have e : trI I A n t e first = runI n I A la ++ outsI [n] la first [n].length := by
      show trI I A n t e first = runI n I A la ++ outsI [n] la first 1
      unfold trI
      rw [if_neg h2, if_neg h3, if_neg h4, outsI_one, m3]
    exact ⟨v1, v2, rfl, ⟨F, G, by rw [e]; exact a, by rw [e]; exact b⟩, k⟩
set_option maxRecDepth 100000 in
theorem lt_str {w : World} {v : Value} {n : Nat} {B : List Int} {F : List Nat} (h : Sli w 5 1 v n (bs B) F) {w' : World} (k : Kep w w') :
    Sem.run Tryd.prog (convert 30 9 v) w' = .ok (.string (strOf B)) w' := by
  have hn : (bs B).length = n := by have := h.1; omega
  rcases (h.kep k).form with ⟨rfl, rfl, h0, _⟩ | ⟨g, off, cap, rfl, _, _, _, hg, hc, _⟩
  · obtain rfl : B = [] := by simpa [bs] using h0
    rfl
  · rw [run_convert_bytes_string w' 30 9 5 _ n cap Tryd.underlying30 Tryd.underlying5 Tryd.underlying9]
    refine run_bytesToString w' ⟨g, off, none⟩ n cap B ?_
    have := run_loadCells_list (P := Tryd.prog) w' ⟨g, off, none⟩ (bs B) (by
      intro j u hj
      rw [Addr.add_lit]
      exact hc j u hj)
    rw [hn] at this
    exact this
abbrev wkI : List In4 := [(25, 1, 2, 0), (65, 0, 0, 4)]
theorem wk_may : mayL wkI 2 3 = true := by decide +kernel
theorem wk_bytes : itB (trI wkI [8, 10] 13 17 3 6) = [25, 18, 65, 5, 0, 112, 2, 113, 6, 0, 112, 2, 113, 7, 0] := by decide +kernel
theorem wk_rows : (trI wkI [8, 10] 13 17 3 6).length = 6 := by decide +kernel
theorem wk_in {w : World} {b1 b2 : Nat} (h1 : w.rangeAt b1 0 (inss wkI)) (h2 : w.rangeAt b2 0 (num .u32 [8, 10])) : BlkIn w (some ⟨b1, 0, none⟩) 2 2 wkI (some ⟨b2, 0, none⟩) 2 2 [8, 10] 13 17 3 := by
  have l1 : b1 < w.heap.size := World.block_lt_of_cell? w _ (h1 0 _ rfl)
  have l2 : b2 < w.heap.size := World.block_lt_of_cell? w _ (h2 0 _ rfl)
  refine ⟨rfl, by omega, by omega, .inr ⟨b1, 0, rfl, l1, h1⟩, ?_, rfl, by omega, by omega, .inr ⟨b2, 0, rfl, l2, h2⟩, ?_, by omega, by omega, by omega⟩
  · intro i hi
    simp only [wkI, List.mem_cons, List.mem_nil_iff, or_false] at hi
    rcases hi with rfl | rfl
    · exact In4.ok (by omega) (by omega) (by omega) (by omega)
    · exact In4.ok (by omega) (by omega) (by omega) (by omega)
  · intro a ha
    simp only [List.mem_cons, List.mem_nil_iff, or_false] at ha
    rcases ha with rfl | rfl <;> omega
set_option maxHeartbeats 4000000 in
set_option maxRecDepth 100000 in
theorem works20_any (w : World) (hT : Tabs w) :
    Calls Tryd.prog 10 #[] w fun e w' => e = .returned (.bool true) ∧ Kep w w' := by
  obtain ⟨b1, q1⟩ : ∃ i, Hid (i = w.heap.size) := ⟨_, rfl⟩
  obtain ⟨b2, q2⟩ : ∃ i, Hid (i = w.heap.size + 1) := ⟨_, rfl⟩
  obtain ⟨W, hW⟩ : ∃ V, Hid ((w.alloc (.cells #[.int .u8 25, .int .u8 1, .int .u8 2, .int .i32 0, .int .u8 65, .int .u8 0, .int .u8 0, .int .i32 4] 43)).alloc (.cells #[.int .u32 8, .int .u32 10] 24) = V) := ⟨_, rfl⟩
  have K1 : Hid (Kep w W) := by rw [Hid, ← hW.out]; exact ((Kep.refl _).alloc _).alloc _
  have B1 : W.heap[b1]? = some (.cells #[.int .u8 25, .int .u8 1, .int .u8 2, .int .i32 0, .int .u8 65, .int .u8 0, .int .u8 0, .int .i32 4] 43 (0, 0)) := by rw [← hW.out, q1.out]; exact ((Kep.refl _).alloc _).block (hat _ _ _ rfl)
  have B2 : W.heap[b2]? = some (.cells #[.int .u32 8, .int .u32 10] 24 (0, 0)) := by rw [← hW.out, q2.out]; exact hat _ _ _ (by simp)
  have H := wk_in (w := W) (b1 := b1) (b2 := b2) (fun j v hj => by rw [Nat.zero_add, cell_of_block B1, List.getElem?_toArray]; exact hj) (fun j v hj => by rw [Nat.zero_add, cell_of_block B2, List.getElem?_toArray]; exact hj)
  have TR := lttr_any (xf := none) (lf := 0) (cf := 0) (xt := none) (lt := 0) (ct := 0) H 6 wk_may (by omega) (hT.grown K1.out)
  have TR := hidd TR
  clear H B1 B2 hT
  go_enter Tryd.func10, Tryd.ntmps10
  go_wp2_with fail
  rw [hW.out, ← q2.out, ← q1.out]
  refine TR.out.mono ?_
  rintro r w1 ⟨v1, v2, rfl, ⟨F, G, s1, s2⟩, k1⟩
  have K := hidd (kep_trans K1.out k1)
  rw [wk_bytes, show ([25, 18, 65, 5, 0, 112, 2, 113, 6, 0, 112, 2, 113, 7, 0] : List Int).length = 15 from rfl] at s1
  rw [wk_rows] at s2
  obtain ⟨x1, c1, hv1, _⟩ := s1.lies
  obtain ⟨x2, c2, hv2, _⟩ := s2.lies
  subst hv1 hv2
  have e2 : strOf [25, 18, 65, 5, 0, 112, 2, 113, 6, 0, 112, 2, 113, 7, 0] = ⟨#[25, 18, 65, 5, 0, 112, 2, 113, 6, 0, 112, 2, 113, 7, 0]⟩ := by decide +kernel
  have hc := fun w' (k : Kep w1 w') => lt_str s1 k
  rw [e2] at hc
  have hc1 := hc _ ((Kep.refl w1).alloc (.cells #[.slice x1 15 c1, .slice x2 6 c2] 33))
  clear s1 s2 e2 hc k1 TR hW q1 q2 K1
  go_wp2_with fail
  go_ret
  exact ⟨rfl, K.out.alloc _⟩
def rB (r : Nat) : Bool := [false, false, false, true, false, false, true, false, false, false].getD r false
def rS (r : Nat) : Bool := [false, false, false, false, false, true, true, true, false, true].getD r false
def rformA (r : Nat) : Array Value := #[.int .i64 (sz r), .bool (hasA r), .bool (rB r), .int .i64 (f3 r), .bool (rS r)]
theorem size24 : (Tryd.prog.info? 111).map (·.size) = some 5 := by kernel_rfl
theorem rform_one (r : Nat) : (rformA r).all (·.oneCell') = true := by simp [rformA, Value.oneCell']
abbrev zero24 : Array Value := #[.int .i64 0, .bool false, .bool false, .int .i64 0, .bool false]
theorem ret24 (w : World) (r : Nat) : Kep w ((w.alloc (.cells zero24 111)).setRow w.heap.size (rformA r)) := ((Kep.refl _).alloc _).setRow _ _ (Nat.le_refl _)
set_option maxHeartbeats 2000000 in
set_option maxRecDepth 100000 in
theorem ref1 (op : Int) (host : Bool) (w : World) (h : op = 0 ∨ op = 1 ∨ op = 2 ∨ op = 3) :
    Calls Tryd.prog 40 #[.int .u8 op, .bool host] w fun e w' => e = .returned (.agg (rformA 1)) ∧ Kep w w' := by
  rcases h with rfl | rfl | rfl | rfl
  all_goals
    go_enter Tryd.func40, Tryd.ntmps40
    go_wp2_with (refine wpList_store_row rfl 111 _ _ rfl w.heap.size (rformA 1) rfl rfl 111 zero24 (heap_alloc_new _ _) size24 rfl (rform_one _) ?_)
  all_goals
    try simp only [Exit.inBlock, Exit.then]
    refine bodyPost_ret (results_cell_row rfl _ _ w.heap.size 111 (rformA 1) (0, 0) _ rfl (setRow_heap _ _ _ _ _ _ (heap_alloc_new _ _)) Tryd.underlying111 rfl size24) rfl ⟨rfl, ret24 w 1⟩
set_option maxHeartbeats 2000000 in
set_option maxRecDepth 100000 in
theorem ref3a (op : Int) (host : Bool) (w : World) (h : 16 ≤ op) (h' : op ≤ 31) :
    Calls Tryd.prog 40 #[.int .u8 op, .bool host] w fun e w' => e = .returned (.agg (rformA 3)) ∧ Kep w w' := by
  have q0 : (op == 0) = false := by rw [beq_eq_false_iff_ne]; omega
  have q1 : (op == 1) = false := by rw [beq_eq_false_iff_ne]; omega
  have q2 : (op == 2) = false := by rw [beq_eq_false_iff_ne]; omega
  have q3 : (op == 3) = false := by rw [beq_eq_false_iff_ne]; omega
  all_goals
    go_enter Tryd.func40, Tryd.ntmps40
    go_wp2_with (refine wpList_store_row rfl 111 _ _ rfl w.heap.size (rformA 3) rfl rfl 111 zero24 (heap_alloc_new _ _) size24 rfl (rform_one _) ?_)
  all_goals
    try simp only [Exit.inBlock, Exit.then]
    refine bodyPost_ret (results_cell_row rfl _ _ w.heap.size 111 (rformA 3) (0, 0) _ rfl (setRow_heap _ _ _ _ _ _ (heap_alloc_new _ _)) Tryd.underlying111 rfl size24) rfl ⟨rfl, ret24 w 3⟩
set_option maxHeartbeats 2000000 in
set_option maxRecDepth 100000 in
theorem ref3b (op : Int) (host : Bool) (w : World) (h : op = 58 ∨ op = 98 ∨ op = 99 ∨ op = 100 ∨ op = 101) :
    Calls Tryd.prog 40 #[.int .u8 op, .bool host] w fun e w' => e = .returned (.agg (rformA 3)) ∧ Kep w w' := by
  rcases h with rfl | rfl | rfl | rfl | rfl
  all_goals
    go_enter Tryd.func40, Tryd.ntmps40
    go_wp2_with (refine wpList_store_row rfl 111 _ _ rfl w.heap.size (rformA 3) rfl rfl 111 zero24 (heap_alloc_new _ _) size24 rfl (rform_one _) ?_)
  all_goals
    try simp only [Exit.inBlock, Exit.then]
    refine bodyPost_ret (results_cell_row rfl _ _ w.heap.size 111 (rformA 3) (0, 0) _ rfl (setRow_heap _ _ _ _ _ _ (heap_alloc_new _ _)) Tryd.underlying111 rfl size24) rfl ⟨rfl, ret24 w 3⟩
set_option maxHeartbeats 2000000 in
set_option maxRecDepth 100000 in
theorem ref2 (op : Int) (host : Bool) (w : World) (h : op = 73 ∨ op = 74 ∨ op = 56 ∨ op = 57 ∨ op = 96 ∨ op = 97) :
    Calls Tryd.prog 40 #[.int .u8 op, .bool host] w fun e w' => e = .returned (.agg (rformA 2)) ∧ Kep w w' := by
  rcases h with rfl | rfl | rfl | rfl | rfl | rfl
  all_goals
    go_enter Tryd.func40, Tryd.ntmps40
    go_wp2_with (refine wpList_store_row rfl 111 _ _ rfl w.heap.size (rformA 2) rfl rfl 111 zero24 (heap_alloc_new _ _) size24 rfl (rform_one _) ?_)
  all_goals
    try simp only [Exit.inBlock, Exit.then]
    refine bodyPost_ret (results_cell_row rfl _ _ w.heap.size 111 (rformA 2) (0, 0) _ rfl (setRow_heap _ _ _ _ _ _ (heap_alloc_new _ _)) Tryd.underlying111 rfl size24) rfl ⟨rfl, ret24 w 2⟩
set_option maxHeartbeats 2000000 in
set_option maxRecDepth 100000 in
theorem ref4 (op : Int) (host : Bool) (w : World) (h : op = 80 ∨ (op = 112 ∧ host = true)) :
    Calls Tryd.prog 40 #[.int .u8 op, .bool host] w fun e w' => e = .returned (.agg (rformA 4)) ∧ Kep w w' := by
  rcases h with rfl | ⟨rfl, rfl⟩
  all_goals
    go_enter Tryd.func40, Tryd.ntmps40
    go_wp2_with (refine wpList_store_row rfl 111 _ _ rfl w.heap.size (rformA 4) rfl rfl 111 zero24 (heap_alloc_new _ _) size24 rfl (rform_one _) ?_)
  all_goals
    try simp only [Exit.inBlock, Exit.then]
    refine bodyPost_ret (results_cell_row rfl _ _ w.heap.size 111 (rformA 4) (0, 0) _ rfl (setRow_heap _ _ _ _ _ _ (heap_alloc_new _ _)) Tryd.underlying111 rfl size24) rfl ⟨rfl, ret24 w 4⟩
set_option maxHeartbeats 2000000 in
set_option maxRecDepth 100000 in
theorem ref5 (op : Int) (host : Bool) (w : World) (h : op = 33) :
    Calls Tryd.prog 40 #[.int .u8 op, .bool host] w fun e w' => e = .returned (.agg (rformA 5)) ∧ Kep w w' := by
  subst h
  all_goals
    go_enter Tryd.func40, Tryd.ntmps40
    go_wp2_with (refine wpList_store_row rfl 111 _ _ rfl w.heap.size (rformA 5) rfl rfl 111 zero24 (heap_alloc_new _ _) size24 rfl (rform_one _) ?_)
  all_goals
    try simp only [Exit.inBlock, Exit.then]
    refine bodyPost_ret (results_cell_row rfl _ _ w.heap.size 111 (rformA 5) (0, 0) _ rfl (setRow_heap _ _ _ _ _ _ (heap_alloc_new _ _)) Tryd.underlying111 rfl size24) rfl ⟨rfl, ret24 w 5⟩
set_option maxHeartbeats 2000000 in
set_option maxRecDepth 100000 in
theorem ref9 (op : Int) (host : Bool) (w : World) (h : op = 32) :
    Calls Tryd.prog 40 #[.int .u8 op, .bool host] w fun e w' => e = .returned (.agg (rformA 9)) ∧ Kep w w' := by
  subst h
  all_goals
    go_enter Tryd.func40, Tryd.ntmps40
    go_wp2_with (refine wpList_store_row rfl 111 _ _ rfl w.heap.size (rformA 9) rfl rfl 111 zero24 (heap_alloc_new _ _) size24 rfl (rform_one _) ?_)
  all_goals
    try simp only [Exit.inBlock, Exit.then]
    refine bodyPost_ret (results_cell_row rfl _ _ w.heap.size 111 (rformA 9) (0, 0) _ rfl (setRow_heap _ _ _ _ _ _ (heap_alloc_new _ _)) Tryd.underlying111 rfl size24) rfl ⟨rfl, ret24 w 9⟩
set_option maxHeartbeats 2000000 in
set_option maxRecDepth 100000 in
theorem ref8 (op : Int) (host : Bool) (w : World) (h : op = 113 ∧ host = true) :
    Calls Tryd.prog 40 #[.int .u8 op, .bool host] w fun e w' => e = .returned (.agg (rformA 8)) ∧ Kep w w' := by
  obtain ⟨rfl, rfl⟩ := h
  all_goals
    go_enter Tryd.func40, Tryd.ntmps40
    go_wp2_with (refine wpList_store_row rfl 111 _ _ rfl w.heap.size (rformA 8) rfl rfl 111 zero24 (heap_alloc_new _ _) size24 rfl (rform_one _) ?_)
  all_goals
    try simp only [Exit.inBlock, Exit.then]
    refine bodyPost_ret (results_cell_row rfl _ _ w.heap.size 111 (rformA 8) (0, 0) _ rfl (setRow_heap _ _ _ _ _ _ (heap_alloc_new _ _)) Tryd.underlying111 rfl size24) rfl ⟨rfl, ret24 w 8⟩
set_option maxHeartbeats 2000000 in
set_option maxRecDepth 100000 in
theorem ref6 (op : Int) (host : Bool) (w : World) (h : 48 ≤ op) (h' : op ≤ 55) :
    Calls Tryd.prog 40 #[.int .u8 op, .bool host] w fun e w' => e = .returned (.agg (rformA 6)) ∧ Kep w w' := by
  have q0 : (op == 0) = false := by rw [beq_eq_false_iff_ne]; omega
  have q1 : (op == 1) = false := by rw [beq_eq_false_iff_ne]; omega
  have q2 : (op == 2) = false := by rw [beq_eq_false_iff_ne]; omega
  have q3 : (op == 3) = false := by rw [beq_eq_false_iff_ne]; omega
  have q58 : (op == 58) = false := by rw [beq_eq_false_iff_ne]; omega
  have q98 : (op == 98) = false := by rw [beq_eq_false_iff_ne]; omega
  have q99 : (op == 99) = false := by rw [beq_eq_false_iff_ne]; omega
  have q100 : (op == 100) = false := by rw [beq_eq_false_iff_ne]; omega
  have q101 : (op == 101) = false := by rw [beq_eq_false_iff_ne]; omega
  have q73 : (op == 73) = false := by rw [beq_eq_false_iff_ne]; omega
  have q74 : (op == 74) = false := by rw [beq_eq_false_iff_ne]; omega
  have q56 : (op == 56) = false := by rw [beq_eq_false_iff_ne]; omega
  have q57 : (op == 57) = false := by rw [beq_eq_false_iff_ne]; omega
  have q96 : (op == 96) = false := by rw [beq_eq_false_iff_ne]; omega
  have q97 : (op == 97) = false := by rw [beq_eq_false_iff_ne]; omega
  have q80 : (op == 80) = false := by rw [beq_eq_false_iff_ne]; omega
  have q112 : (op == 112) = false := by rw [beq_eq_false_iff_ne]; omega
  have q33 : (op == 33) = false := by rw [beq_eq_false_iff_ne]; omega
  have r31 : decide (op ≤ 31) = false := by rw [decide_eq_false_iff_not]; omega
  all_goals
    go_enter Tryd.func40, Tryd.ntmps40
    go_wp2_with (refine wpList_store_row rfl 111 _ _ rfl w.heap.size (rformA 6) rfl rfl 111 zero24 (heap_alloc_new _ _) size24 rfl (rform_one _) ?_)
  all_goals
    try simp only [Exit.inBlock, Exit.then]
    refine bodyPost_ret (results_cell_row rfl _ _ w.heap.size 111 (rformA 6) (0, 0) _ rfl (setRow_heap _ _ _ _ _ _ (heap_alloc_new _ _)) Tryd.underlying111 rfl size24) rfl ⟨rfl, ret24 w 6⟩
set_option maxHeartbeats 2000000 in
set_option maxRecDepth 100000 in
theorem ref7 (op : Int) (host : Bool) (w : World) (h : 64 ≤ op) (h' : op ≤ 72) :
    Calls Tryd.prog 40 #[.int .u8 op, .bool host] w fun e w' => e = .returned (.agg (rformA 7)) ∧ Kep w w' := by
  have q0 : (op == 0) = false := by rw [beq_eq_false_iff_ne]; omega
  have q1 : (op == 1) = false := by rw [beq_eq_false_iff_ne]; omega
  have q2 : (op == 2) = false := by rw [beq_eq_false_iff_ne]; omega
  have q3 : (op == 3) = false := by rw [beq_eq_false_iff_ne]; omega
  have q58 : (op == 58) = false := by rw [beq_eq_false_iff_ne]; omega
  have q98 : (op == 98) = false := by rw [beq_eq_false_iff_ne]; omega
  have q99 : (op == 99) = false := by rw [beq_eq_false_iff_ne]; omega
  have q100 : (op == 100) = false := by rw [beq_eq_false_iff_ne]; omega
  have q101 : (op == 101) = false := by rw [beq_eq_false_iff_ne]; omega
  have q73 : (op == 73) = false := by rw [beq_eq_false_iff_ne]; omega
  have q74 : (op == 74) = false := by rw [beq_eq_false_iff_ne]; omega
  have q56 : (op == 56) = false := by rw [beq_eq_false_iff_ne]; omega
  have q57 : (op == 57) = false := by rw [beq_eq_false_iff_ne]; omega
  have q96 : (op == 96) = false := by rw [beq_eq_false_iff_ne]; omega
  have q97 : (op == 97) = false := by rw [beq_eq_false_iff_ne]; omega
  have q80 : (op == 80) = false := by rw [beq_eq_false_iff_ne]; omega
  have q112 : (op == 112) = false := by rw [beq_eq_false_iff_ne]; omega
  have q33 : (op == 33) = false := by rw [beq_eq_false_iff_ne]; omega
  have r31 : decide (op ≤ 31) = false := by rw [decide_eq_false_iff_not]; omega
  have r55 : decide (op ≤ 55) = false := by rw [decide_eq_false_iff_not]; omega
  all_goals
    go_enter Tryd.func40, Tryd.ntmps40
    go_wp2_with (refine wpList_store_row rfl 111 _ _ rfl w.heap.size (rformA 7) rfl rfl 111 zero24 (heap_alloc_new _ _) size24 rfl (rform_one _) ?_)
  all_goals
    try simp only [Exit.inBlock, Exit.then]
    refine bodyPost_ret (results_cell_row rfl _ _ w.heap.size 111 (rformA 7) (0, 0) _ rfl (setRow_heap _ _ _ _ _ _ (heap_alloc_new _ _)) Tryd.underlying111 rfl size24) rfl ⟨rfl, ret24 w 7⟩
set_option maxHeartbeats 2000000 in
set_option maxRecDepth 100000 in
theorem ref0h (op : Int) (host : Bool) (w : World)  (h : op = 112 ∨ op = 113) (hh : host = false) :
    Calls Tryd.prog 40 #[.int .u8 op, .bool host] w fun e w' => e = .returned (.agg (rformA 0)) ∧ Kep w w' := by
  subst hh
  rcases h with rfl | rfl
  all_goals
    go_enter Tryd.func40, Tryd.ntmps40
    go_wp2_with (refine wpList_store_row rfl 111 _ _ rfl w.heap.size (rformA 0) rfl rfl 111 zero24 (heap_alloc_new _ _) size24 rfl (rform_one _) ?_)
  all_goals
    try simp only [Exit.inBlock, Exit.then]
    refine bodyPost_ret (results_cell_row rfl _ _ w.heap.size 111 (rformA 0) (0, 0) _ rfl (setRow_heap _ _ _ _ _ _ (heap_alloc_new _ _)) Tryd.underlying111 rfl size24) rfl ⟨rfl, ret24 w 0⟩
set_option maxHeartbeats 2000000 in
set_option maxRecDepth 100000 in
theorem ref0 (op : Int) (host : Bool) (w : World) (h0 : op ≠ 0 ∧ op ≠ 1 ∧ op ≠ 2 ∧ op ≠ 3) (h1 : ¬ (16 ≤ op ∧ op ≤ 31)) (h2 : op ≠ 58 ∧ op ≠ 98 ∧ op ≠ 99 ∧ op ≠ 100 ∧ op ≠ 101) (h3 : op ≠ 73 ∧ op ≠ 74 ∧ op ≠ 56 ∧ op ≠ 57 ∧ op ≠ 96 ∧ op ≠ 97) (h4 : op ≠ 80 ∧ op ≠ 112 ∧ op ≠ 33) (h5 : ¬ (48 ≤ op ∧ op ≤ 55)) (h6 : ¬ (64 ≤ op ∧ op ≤ 72)) (h7 : op ≠ 113 ∧ op ≠ 32) :
    Calls Tryd.prog 40 #[.int .u8 op, .bool host] w fun e w' => e = .returned (.agg (rformA 0)) ∧ Kep w w' := by
  have q0 : (op == 0) = false := by rw [beq_eq_false_iff_ne]; omega
  have q1 : (op == 1) = false := by rw [beq_eq_false_iff_ne]; omega
  have q2 : (op == 2) = false := by rw [beq_eq_false_iff_ne]; omega
  have q3 : (op == 3) = false := by rw [beq_eq_false_iff_ne]; omega
  have q58 : (op == 58) = false := by rw [beq_eq_false_iff_ne]; omega
  have q98 : (op == 98) = false := by rw [beq_eq_false_iff_ne]; omega
  have q99 : (op == 99) = false := by rw [beq_eq_false_iff_ne]; omega
  have q100 : (op == 100) = false := by rw [beq_eq_false_iff_ne]; omega
  have q101 : (op == 101) = false := by rw [beq_eq_false_iff_ne]; omega
  have q73 : (op == 73) = false := by rw [beq_eq_false_iff_ne]; omega
  have q74 : (op == 74) = false := by rw [beq_eq_false_iff_ne]; omega
  have q56 : (op == 56) = false := by rw [beq_eq_false_iff_ne]; omega
  have q57 : (op == 57) = false := by rw [beq_eq_false_iff_ne]; omega
  have q96 : (op == 96) = false := by rw [beq_eq_false_iff_ne]; omega
  have q97 : (op == 97) = false := by rw [beq_eq_false_iff_ne]; omega
  have q80 : (op == 80) = false := by rw [beq_eq_false_iff_ne]; omega
  have q112 : (op == 112) = false := by rw [beq_eq_false_iff_ne]; omega
  have q33 : (op == 33) = false := by rw [beq_eq_false_iff_ne]; omega
  have q113 : (op == 113) = false := by rw [beq_eq_false_iff_ne]; omega
  have q32 : (op == 32) = false := by rw [beq_eq_false_iff_ne]; omega
  have c : (decide (op ≥ 16) = false ∧ decide (op ≥ 48) = false ∧ decide (op ≥ 64) = false) ∨ ((decide (op ≥ 16) = true ∧ decide (op ≤ 31) = false) ∧ decide (op ≥ 48) = false ∧ decide (op ≥ 64) = false) ∨
      ((decide (op ≥ 16) = true ∧ decide (op ≤ 31) = false) ∧ (decide (op ≥ 48) = true ∧ decide (op ≤ 55) = false) ∧ decide (op ≥ 64) = false) ∨
      ((decide (op ≥ 16) = true ∧ decide (op ≤ 31) = false) ∧ (decide (op ≥ 48) = true ∧ decide (op ≤ 55) = false) ∧ (decide (op ≥ 64) = true ∧ decide (op ≤ 72) = false)) := by
    simp only [decide_eq_false_iff_not, decide_eq_true_iff]; omega
  clear h0 h1 h2 h3 h4 h5 h6 h7
  rcases c with ⟨c1, c2, c3⟩ | ⟨⟨c1, c2⟩, c3, c4⟩ | ⟨⟨c1, c2⟩, ⟨c3, c4⟩, c5⟩ | ⟨⟨c1, c2⟩, ⟨c3, c4⟩, ⟨c5, c6⟩⟩
  all_goals
    go_enter Tryd.func40, Tryd.ntmps40
    go_wp2_with (refine wpList_store_row rfl 111 _ _ rfl w.heap.size (rformA 0) rfl rfl 111 zero24 (heap_alloc_new _ _) size24 rfl (rform_one _) ?_)
  all_goals
    try simp only [Exit.inBlock, Exit.then]
    refine bodyPost_ret (results_cell_row rfl _ _ w.heap.size 111 (rformA 0) (0, 0) _ rfl (setRow_heap _ _ _ _ _ _ (heap_alloc_new _ _)) Tryd.underlying111 rfl size24) rfl ⟨rfl, ret24 w 0⟩
theorem refOf_any (op : Int) (host : Bool) (w : World) :
    Calls Tryd.prog 40 #[.int .u8 op, .bool host] w fun e w' => e = .returned (.agg (rformA (rowOf op host))) ∧ Kep w w' := by
  unfold rowOf
  split
  · exact ref1 op host w (by assumption)
  split
  · rename_i h
    rcases h with h | h
    · exact ref3a op host w h.1 h.2
    · exact ref3b op host w h
  split
  · exact ref2 op host w (by assumption)
  split
  · exact ref4 op host w (by assumption)
  split
  · exact ref5 op host w (by assumption)
  split
  · rename_i h; exact ref6 op host w h.1 h.2
  split
  · rename_i h; exact ref7 op host w h.1 h.2
  split
  · exact ref8 op host w (by assumption)
  split
  · exact ref9 op host w (by assumption)
  · by_cases c : op = 112 ∨ op = 113
    · refine ref0h op host w c ?_
      cases host
      · rfl
      · exfalso; simp_all
    · apply ref0 <;> omega
end Go.Proofs.YtpalbpjmjbcelaaDoor
