/- What Read answers of any text. -/
import Derived.Test.YthmbajehcffnbaaDoorTreada
import Derived.Test.YthmbajehcffnbaaDoorTreadb
import Derived.Test.YthmbajehcffnbaaDoorTreadc
import Derived.Test.YthmbajehcffnbaaDoorTreadd
import Derived.Test.YthmbajehcffnbaaDoorTreade
namespace Go.Proofs.YthmbajehcffnbaaDoor
open Go.RowKit
set_option linter.unusedVariables false

set_option maxHeartbeats 4000000 in
set_option maxRecDepth 100000 in
theorem read_cut (s : List UInt8) (w : World)
    (HC : ∀ w, Calls Tryd.prog 23 #[strV s] w fun e w' => e = .returned (.tuple #[.slice none 0 0, .bool false]) ∧ Kep w w') :
    Calls Tryd.prog 11 #[strV s] w fun e w' => e = .returned (.tuple #[.agg zI, .int .i64 40]) ∧ Kep w w' := by
  have H1 : Hid _ := HC
  clear HC
  go_enter Tryd.func11, Tryd.ntmps11
  go_wp2_with fail
  refine (H1.out _).mono ?_
  rintro e w1 ⟨rfl, g1⟩
  have R1 : Hid (w1.heap[w.heap.size]? = some (.cells zI 23 (0, 0))) := g1.block (heap_alloc_new _ _)
  have G1 : Hid (Kep w w1) := kep_trans ((Kep.refl _).alloc _) g1
  clear g1
  go_wp2_with (refine wpList_store_row rfl 23 _ _ rfl w.heap.size zI rfl rfl 23 _ R1.out sizeIns rfl (ins_one _ _ _ _) ?_)
  try simp only [Exit.inBlock, Exit.then]
  exact bodyPost_ret (results2 rfl _ _ w.heap.size 23 zI (0, 0) _ rfl (setRow_heap _ _ _ _ _ _ R1.out) Tryd.underlying23 rfl sizeIns) rfl ⟨rfl, G1.out.setRow _ _ (Nat.le_refl _)⟩

set_option maxHeartbeats 4000000 in
set_option maxRecDepth 100000 in
theorem read_name (s n : List UInt8) (ps : List (List UInt8)) (N : Nat) (hN : (0 : Int) < N) (w : World)
    (HC : ∀ w, Calls Tryd.prog 23 #[strV s] w fun e w' => (∃ g cap, e = .returned (.tuple #[.slice (some ⟨g, 0, none⟩) N cap, .bool true]) ∧ PartsAt w' g (n :: ps)) ∧ Kep w w')
    (HN : ∀ w, Calls Tryd.prog 24 #[strV n] w fun e w' => e = .returned (.tuple #[.int .u8 0, .bool false]) ∧ Kep w w') :
    Calls Tryd.prog 11 #[strV s] w fun e w' => e = .returned (.tuple #[.agg zI, .int .i64 40]) ∧ Kep w w' := by
  have H1 : Hid _ := HC
  have H2 : Hid _ := HN
  clear HC HN
  go_enter Tryd.func11, Tryd.ntmps11
  go_wp2_with fail
  refine (H1.out _).mono ?_
  rintro e w1 ⟨⟨g, cap, rfl, hP1⟩, g1⟩
  have S1 : Hid (RdS w w1 g (n :: ps)) := ⟨g1.block (heap_alloc_new _ _), hP1, kep_trans ((Kep.refl _).alloc _) g1⟩
  have c0 : w1.cell? ⟨g, 0, none⟩ = some (strV n) := hP1.cell 0 n rfl
  clear hP1 g1
  go_wp2_with fail
  refine (H2.out _).mono ?_
  rintro e w2 ⟨rfl, g2⟩
  have S2 : Hid (RdS w w2 g (n :: ps)) := S1.out.kep g2
  clear g2 c0
  go_wp2_with (refine wpList_store_row rfl 23 _ _ rfl w.heap.size zI rfl rfl 23 _ S2.out.rs sizeIns rfl (ins_one _ _ _ _) ?_)
  try simp only [Exit.inBlock, Exit.then]
  exact bodyPost_ret (results2 rfl _ _ w.heap.size 23 zI (0, 0) _ rfl (setRow_heap _ _ _ _ _ _ S2.out.rs) Tryd.underlying23 rfl sizeIns) rfl ⟨rfl, S2.out.kp.setRow _ _ (Nat.le_refl _)⟩

set_option maxHeartbeats 4000000 in
set_option maxRecDepth 100000 in
theorem read_len (op : Int) (s n : List UInt8) (ps : List (List UInt8)) (N : Nat) (c : Int) (ls : Array UInt8) (xn : Bool) (hN : (0 : Int) < N) (hc : ((N : Int) == c) = false) (w : World) (hE : Env w)
    (HC : ∀ w, Calls Tryd.prog 23 #[strV s] w fun e w' => (∃ g cap, e = .returned (.tuple #[.slice (some ⟨g, 0, none⟩) N cap, .bool true]) ∧ PartsAt w' g (n :: ps)) ∧ Kep w w')
    (HN : ∀ w, Calls Tryd.prog 24 #[strV n] w fun e w' => e = .returned (.tuple #[.int .u8 op, .bool true]) ∧ Kep w w')
    (HF : ∀ w, Env w → Calls Tryd.prog 14 #[.int .u8 op] w fun e w' => e = .returned (.agg #[.string ⟨ls⟩, .bool xn]) ∧ Kep w w')
    (HW : ∀ w, Calls Tryd.prog 25 #[.agg #[.string ⟨ls⟩, .bool xn]] w fun e w' => e = .returned (.int .i64 c) ∧ Kep w w') :
    Calls Tryd.prog 11 #[strV s] w fun e w' => e = .returned (.tuple #[.agg zI, .int .i64 40]) ∧ Kep w w' := by
  have hE' : Hid (Env w) := hE
  have H1 : Hid _ := HC
  have H2 : Hid _ := HN
  have H3 : Hid _ := HF
  have H4 : Hid _ := HW
  clear HC HN HF HW hE
  go_enter Tryd.func11, Tryd.ntmps11
  go_wp2_with fail
  refine (H1.out _).mono ?_
  rintro e w1 ⟨⟨g, cap, rfl, hP1⟩, g1⟩
  have S1 : Hid (RdS w w1 g (n :: ps)) := ⟨g1.block (heap_alloc_new _ _), hP1, kep_trans ((Kep.refl _).alloc _) g1⟩
  have c0 : w1.cell? ⟨g, 0, none⟩ = some (strV n) := hP1.cell 0 n rfl
  clear hP1 g1
  go_wp2_with fail
  refine (H2.out _).mono ?_
  rintro e w2 ⟨rfl, g2⟩
  have S2 : Hid (RdS w w2 g (n :: ps)) := S1.out.kep g2
  clear g2 c0
  go_wp2_with fail
  refine (H3.out _ (hE'.out.grown S2.out.kp)).mono ?_
  rintro e w3 ⟨rfl, g3⟩
  have S3 : Hid (RdS w w3 g (n :: ps)) := S2.out.kep g3
  clear g3
  go_wp2_with fail
  refine (H4.out _).mono ?_
  rintro e w4 ⟨rfl, g4⟩
  have S4 : Hid (RdS w w4 g (n :: ps)) := S3.out.kep (kep_trans ((Kep.refl _).alloc _) g4)
  clear g4
  go_wp2_with (refine wpList_store_row rfl 23 _ _ rfl w.heap.size zI rfl rfl 23 _ S4.out.rs sizeIns rfl (ins_one _ _ _ _) ?_)
  try simp only [Exit.inBlock, Exit.then]
  exact bodyPost_ret (results2 rfl _ _ w.heap.size 23 zI (0, 0) _ rfl (setRow_heap _ _ _ _ _ _ S4.out.rs) Tryd.underlying23 rfl sizeIns) rfl ⟨rfl, S4.out.kp.setRow _ _ (Nat.le_refl _)⟩

theorem split_len : ∀ (s : List UInt8) (x : List UInt8), x ∈ splitL s → x.length ≤ s.length
  | [], x, h => by simp [splitL] at h; simp [h]
  | c :: cs, x, h => by
    have ih := split_len cs
    simp only [splitL] at h
    split at h
    · rcases List.mem_cons.1 h with rfl | h2
      · simp
      · have := ih x h2; simp; omega
    · cases hs : splitL cs with
      | nil => exact absurd hs (splitL_ne cs)
      | cons y ys =>
        rw [hs] at h ih
        rcases List.mem_cons.1 h with rfl | h2
        · have := ih y (by simp); simp; omega
        · have := ih x (by simp [h2]); simp; omega

theorem read_form (op : Int) (xa xb xn : Bool) (hab : xb = true → xa = true) (s n : List UInt8) (rest : List (List UInt8)) (w : World) (h0 : 0 ≤ op) (h1 : op < 256) (hE : Env w) (hlen : ∀ x ∈ rest, (x.length : Int) ≤ 140737488355328)
    (HC : ∀ w, Calls Tryd.prog 23 #[strV s] w fun e w' => (∃ g cap, e = .returned (.tuple #[.slice (some ⟨g, 0, none⟩) (n :: rest).length cap, .bool true]) ∧ PartsAt w' g (n :: rest)) ∧ Kep w w')
    (HN : ∀ w, Calls Tryd.prog 24 #[strV n] w fun e w' => e = .returned (.tuple #[.int .u8 op, .bool true]) ∧ Kep w w')
    (HF : ∀ w, Env w → Calls Tryd.prog 14 #[.int .u8 op] w fun e w' => e = .returned (.agg #[.string ⟨lets op xa xb⟩, .bool xn]) ∧ Kep w w') :
    Calls Tryd.prog 11 #[strV s] w fun e w' => e = .returned (.tuple #[.agg (insV (readF op xa xb xn rest)), .int .i64 (errV (readF op xa xb xn rest))]) ∧ Kep w w' := by
  rcases (by cases xa <;> cases xb <;> simp_all : (xa = false ∧ xb = false) ∨ (xa = true ∧ xb = false) ∨ (xa = true ∧ xb = true)) with ⟨rfl, rfl⟩ | ⟨rfl, rfl⟩ | ⟨rfl, rfl⟩
  · cases xn
    · rcases rest with _ | ⟨p, _ | ⟨q, _ | ⟨m, _ | ⟨t, rest⟩⟩⟩⟩
      · exact read_0o op s n  w h0 h1 hE HC HN HF
      · exact read_len op s n [p] _ 1 #[] false (by simp) (by rfl) w hE HC HN HF (fun w => fwords_any #[] false (by simp) w)
      · exact read_len op s n [p, q] _ 1 #[] false (by simp) (by rfl) w hE HC HN HF (fun w => fwords_any #[] false (by simp) w)
      · exact read_len op s n [p, q, m] _ 1 #[] false (by simp) (by rfl) w hE HC HN HF (fun w => fwords_any #[] false (by simp) w)
      · exact read_len op s n (p :: q :: m :: t :: rest) _ 1 #[] false (by simp; omega) (by simp; omega) w hE HC HN HF (fun w => fwords_any #[] false (by simp) w)
    · rcases rest with _ | ⟨p, _ | ⟨q, _ | ⟨m, _ | ⟨t, rest⟩⟩⟩⟩
      · exact read_len op s n [] _ 2 #[] true (by simp) (by rfl) w hE HC HN HF (fun w => fwords_any #[] true (by simp) w)
      · exact read_0n op s n p w h0 h1 hE (hlen p (by simp)) HC HN HF
      · exact read_len op s n [p, q] _ 2 #[] true (by simp) (by rfl) w hE HC HN HF (fun w => fwords_any #[] true (by simp) w)
      · exact read_len op s n [p, q, m] _ 2 #[] true (by simp) (by rfl) w hE HC HN HF (fun w => fwords_any #[] true (by simp) w)
      · exact read_len op s n (p :: q :: m :: t :: rest) _ 2 #[] true (by simp; omega) (by simp; omega) w hE HC HN HF (fun w => fwords_any #[] true (by simp) w)
  · cases xn
    · rcases rest with _ | ⟨p, _ | ⟨q, _ | ⟨m, _ | ⟨t, rest⟩⟩⟩⟩
      · exact read_len op s n [] _ 2 #[114] false (by simp) (by rfl) w hE HC HN HF (fun w => fwords_any #[114] false (by simp) w)
      · exact read_1o op s n p w h0 h1 hE HC HN HF
      · exact read_len op s n [p, q] _ 2 #[114] false (by simp) (by rfl) w hE HC HN HF (fun w => fwords_any #[114] false (by simp) w)
      · exact read_len op s n [p, q, m] _ 2 #[114] false (by simp) (by rfl) w hE HC HN HF (fun w => fwords_any #[114] false (by simp) w)
      · exact read_len op s n (p :: q :: m :: t :: rest) _ 2 #[114] false (by simp; omega) (by simp; omega) w hE HC HN HF (fun w => fwords_any #[114] false (by simp) w)
    · rcases rest with _ | ⟨p, _ | ⟨q, _ | ⟨m, _ | ⟨t, rest⟩⟩⟩⟩
      · exact read_len op s n [] _ 3 #[114] true (by simp) (by rfl) w hE HC HN HF (fun w => fwords_any #[114] true (by simp) w)
      · exact read_len op s n [p] _ 3 #[114] true (by simp) (by rfl) w hE HC HN HF (fun w => fwords_any #[114] true (by simp) w)
      · exact read_1n op s n p q w h0 h1 hE (hlen q (by simp)) HC HN HF
      · exact read_len op s n [p, q, m] _ 3 #[114] true (by simp) (by rfl) w hE HC HN HF (fun w => fwords_any #[114] true (by simp) w)
      · exact read_len op s n (p :: q :: m :: t :: rest) _ 3 #[114] true (by simp; omega) (by simp; omega) w hE HC HN HF (fun w => fwords_any #[114] true (by simp) w)
  · cases xn
    · rcases rest with _ | ⟨p, _ | ⟨q, _ | ⟨m, _ | ⟨t, rest⟩⟩⟩⟩
      · exact read_len op s n [] _ 3 #[114, letB op] false (by simp) (by rfl) w hE HC HN HF (fun w => fwords_any #[114, letB op] false (by simp) w)
      · exact read_len op s n [p] _ 3 #[114, letB op] false (by simp) (by rfl) w hE HC HN HF (fun w => fwords_any #[114, letB op] false (by simp) w)
      · exact read_2o op s n p q w h0 h1 hE HC HN HF
      · exact read_len op s n [p, q, m] _ 3 #[114, letB op] false (by simp) (by rfl) w hE HC HN HF (fun w => fwords_any #[114, letB op] false (by simp) w)
      · exact read_len op s n (p :: q :: m :: t :: rest) _ 3 #[114, letB op] false (by simp; omega) (by simp; omega) w hE HC HN HF (fun w => fwords_any #[114, letB op] false (by simp) w)
    · rcases rest with _ | ⟨p, _ | ⟨q, _ | ⟨m, _ | ⟨t, rest⟩⟩⟩⟩
      · exact read_len op s n [] _ 4 #[114, letB op] true (by simp) (by rfl) w hE HC HN HF (fun w => fwords_any #[114, letB op] true (by simp) w)
      · exact read_len op s n [p] _ 4 #[114, letB op] true (by simp) (by rfl) w hE HC HN HF (fun w => fwords_any #[114, letB op] true (by simp) w)
      · exact read_len op s n [p, q] _ 4 #[114, letB op] true (by simp) (by rfl) w hE HC HN HF (fun w => fwords_any #[114, letB op] true (by simp) w)
      · exact read_2n op s n p q m w h0 h1 hE (hlen m (by simp)) HC HN HF
      · exact read_len op s n (p :: q :: m :: t :: rest) _ 4 #[114, letB op] true (by simp; omega) (by simp; omega) w hE HC HN HF (fun w => fwords_any #[114, letB op] true (by simp) w)

theorem read_any (s : List UInt8) (hs : (s.length : Int) ≤ 140737488355328) (w : World) (hE : Env w) :
    Calls Tryd.prog 11 #[strV s] w fun e w' => e = .returned (.tuple #[.agg (insV (readR s)), .int .i64 (errV (readR s))]) ∧ Kep w w' := by
  unfold readR
  have HC := fun w => tcut_any s hs w
  have hsub : ∀ x ∈ (splitL s).take 5, (x.length : Int) ≤ 140737488355328 := fun x hx => by
    have := split_len s x (List.mem_of_mem_take hx)
    omega
  by_cases hin : [] ∈ (splitL s).take 5
  · rw [if_pos hin]
    refine read_cut s w fun w => (HC w).mono ?_
    rintro e w' ⟨⟨h, _⟩ | ⟨_, _, _, h, _⟩, k⟩
    · exact ⟨h, k⟩
    · exact absurd hin h
  · rw [if_neg hin]
    have HC' : ∀ w, Calls Tryd.prog 23 #[strV s] w fun e w' => (∃ g cap, e = .returned (.tuple #[.slice (some ⟨g, 0, none⟩) ((splitL s).take 5).length cap, .bool true]) ∧ PartsAt w' g ((splitL s).take 5)) ∧ Kep w w' := fun w => (HC w).mono (by
      rintro e w' ⟨⟨_, h⟩ | ⟨g, cap, h, _, hp⟩, k⟩
      · exact absurd h hin
      · exact ⟨⟨g, cap, h, hp⟩, k⟩)
    obtain ⟨ps, hps⟩ : ∃ ps, (splitL s).take 5 = ps := ⟨_, rfl⟩
    rw [hps] at HC' hsub ⊢
    cases ps with
    | nil =>
      have := List.length_pos_iff.2 (splitL_ne s)
      have h2 : ((splitL s).take 5).length = 0 := by rw [hps]; rfl
      rw [List.length_take] at h2
      omega
    | cons n rest =>
      have HN := fun w => named_any n.toArray w
      simp only [readP]
      cases hn : namedA n.toArray with
      | none =>
        rw [hn] at HN
        exact read_name s n rest _ (by first | (simp; done) | (simp; omega)) w HC' HN
      | some op =>
        rw [hn] at HN
        obtain ⟨_, g2, g3, g4⟩ := named_own hn
        exact read_form op _ _ _ (ab_forms _ (rowOf_lt op true)) s n rest w g2 g3 hE (fun x hx => hsub x (by simp [hx])) HC' HN (fun w h => tformOf_any op w g2 g3 h.1)
end Go.Proofs.YthmbajehcffnbaaDoor
