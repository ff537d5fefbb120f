/- For every number of frames, list of numbers and four words, the law RamWindows returns true: a window shows just the frames that it was asked for, in that order; what is laid in one of both is there in the other. -/
import Derived.Test.YtiegihaagolmdaaRows
import Derived.Test.YtiegihaagolmdaaMwin
import Derived.WalkKit
import Derived.ProofKit
import Derived.OpenShut
import Derived.ShutString
import Derived.ChangeOld
import Derived.Below
import Derived.Lib.SmallJoins
namespace Go.Proofs.Ytiegihaagolmdaa.ramWindows
open Go.ChangeShapes Go.WideShapes Go.ChangeAt Go.RowKit
set_option linter.unusedVariables false

theorem own : ownKnob Try.prog.godebug = none := by kernel_rfl
theorem laidOut : laidOutB Try.prog = true := by kernel_rfl

theorem pigeon : ∀ (n : Nat) (l : List Int), l.Nodup → (∀ z ∈ l, 0 ≤ z ∧ z < n) → l.length ≤ n
  | 0, l, _, h => by
    cases l with
    | nil => simp
    | cons z l => have := h z (by simp); omega
  | n + 1, l, hd, h => by
    by_cases hm : (n : Int) ∈ l
    · have h1 := pigeon n (l.erase n) (hd.erase _) (fun z hz => by
        have h2 := (hd.mem_erase_iff).1 hz
        have h3 := h z h2.2
        exact ⟨h3.1, by have := h2.1; omega⟩)
      rw [List.length_erase_of_mem hm] at h1
      omega
    · have h1 := pigeon n l hd (fun z hz => by
        have h3 := h z hz
        refine ⟨h3.1, ?_⟩
        have : z ≠ n := fun e => hm (e ▸ hz)
        omega)
      omega
theorem good_take {zs : List Int} {m k : Nat} (h : Good zs m) : Good (zs.take k) m := ⟨fun z hz => h.1 z (List.take_subset _ _ hz), h.2.sublist (List.take_sublist _ _)⟩
/-- What the law has found of the list behind k rounds, and of the k-th number behind j. -/
def mayB (zs : List Int) (m k : Nat) : Prop := (1 ≤ zs.length ∧ zs.length ≤ m) ∧ Good (zs.take k) m
def mayJ (zs : List Int) (m k j : Nat) : Prop := (0 ≤ zs.getD k 0 ∧ zs.getD k 0 < m) ∧ ∀ i, i < j → zs.getD i 0 ≠ zs.getD k 0
theorem may_step {zs : List Int} {m k : Nat} (hk : k < zs.length) (h : mayB zs m k) : mayB zs m (k + 1) ↔ mayJ zs m k k := by
  have hzk : zs.getD k 0 = zs[k] := by simp [List.getD, hk]
  have e : zs.take (k + 1) = zs.take k ++ [zs.getD k 0] := by rw [List.take_add_one, List.getElem?_eq_getElem hk, ← hzk]; rfl
  constructor
  · rintro ⟨_, g⟩
    rw [e] at g
    refine ⟨g.1 _ (by simp), fun i hi e2 => ?_⟩
    have hd := List.nodup_append.1 g.2
    refine hd.2.2 (zs.getD i 0) ?_ (zs.getD k 0) (by simp) e2
    have : zs.getD i 0 = (zs.take k)[i]'(by simp; omega) := by simp [List.getD, show i < zs.length by omega]
    rw [this]; exact List.getElem_mem _
  · rintro ⟨h1, h2⟩
    refine ⟨h.1, ?_⟩
    rw [e]
    refine ⟨fun z hz => ?_, List.nodup_append.2 ⟨h.2.2, by simp, fun a ha b hb e2 => ?_⟩⟩
    · rcases List.mem_append.1 hz with hz | hz
      · exact h.2.1 z hz
      · simp at hz; subst hz; exact h1
    · simp only [List.mem_singleton] at hb
      subst hb
      obtain ⟨i, hi, rfl⟩ := List.mem_iff_getElem.1 ha
      have hik : i < k := by simp at hi; omega
      refine h2 i hik ?_
      rw [← e2]
      simp [List.getD, show i < zs.length by omega]
theorem may_all {zs : List Int} {m : Nat} : mayB zs m zs.length ↔ (1 ≤ zs.length ∧ zs.length ≤ m) ∧ Good zs m := by unfold mayB; rw [List.take_length]
theorem may_mono {zs : List Int} {m k : Nat} (h : ¬ mayB zs m k) : ¬ ((1 ≤ zs.length ∧ zs.length ≤ m) ∧ Good zs m) := fun g => h ⟨g.1, good_take g.2⟩
theorem isl_kep {k : IntKind} {w w' : World} {x : Option Addr} {l c : Nat} {zs : List Int} (h : ISl k w x l c zs) (K : Kep w w') : ISl k w' x l c zs := by
  refine ⟨h.1, h.2.1, h.2.2.1, ?_, h.2.2.2.2⟩
  rcases h.2.2.2.1 with e | ⟨b, off, e, hb, hc⟩
  · exact .inl e
  · exact .inr ⟨b, off, e, K.lt hb, fun i hi => (K.cell hb).trans (hc i hi)⟩
theorem win_no (w : World) (v : Value) (R n : Nat) (hr : Ram w v R (List.range n)) (hn1 : 1 ≤ n) (hn2 : n ≤ 5) (hR : R < w.heap.size) (x : Option Addr) (l c : Nat) (zs : List Int) (S : ISl .i64 w x l c zs) (hno : ¬ ((1 ≤ zs.length ∧ zs.length ≤ n) ∧ Good zs n)) :
    Calls Try.prog 19 #[v, .slice x l c] w fun e w' => e = .returned (.tuple #[.pointer none, .int .i64 2]) ∧ Kep w w' := by
  by_cases hl : l = 0 ∨ 512 < l
  · exact (window_long w v R _ hr (by simp; omega) x l c hl).mono fun e w' h => ⟨h.1, by rw [h.2]; exact Kep.refl _⟩
  · refine (window_any w v R _ hr (by simp; omega) (by simp; omega) x l c zs S (by omega) (by omega) hR).mono ?_
    rintro e w' ⟨pv, er, rfl, K, _, h⟩
    rw [List.length_range] at h
    obtain ⟨rfl, rfl⟩ := h (fun g => hno ⟨⟨by have := S.1; omega, pigeon n zs g.2 g.1⟩, g⟩)
    exact ⟨rfl, K⟩
theorem win_yes (w : World) (v : Value) (R n : Nat) (hr : Ram w v R (List.range n)) (hn2 : n ≤ 5) (hR : R < w.heap.size) (x : Option Addr) (l c : Nat) (zs : List Int) (S : ISl .i64 w x l c zs) (hl : 1 ≤ l) (hln : l ≤ n) (hg : Good zs n) :
    Calls Try.prog 19 #[v, .slice x l c] w fun e w' => ∃ p : Nat, e = .returned (.tuple #[.pointer (some ⟨p, 0, none⟩), .int .i64 0]) ∧ Kep w w' ∧ Ram w' (.pointer (some ⟨p, 0, none⟩)) R (winX (List.range n) zs) := by
  refine (window_any w v R _ hr (by simp; omega) (by simp; omega) x l c zs S (by omega) (by omega) hR).mono ?_
  rintro e w' ⟨pv, er, rfl, K, h, _⟩
  rw [List.length_range] at h
  obtain ⟨rfl, ⟨p, rfl⟩, r⟩ := h hg
  exact ⟨p, rfl, K, r⟩
/-- A memory, a window onto it, and the document's memory with the same bytes. -/
structure Tri (w : World) (v u : Value) (jx : List Nat) (R n : Nat) (x : Option Addr) (Rb : Nat) (B : List Int) : Prop where
  two : Two w v R n x Rb B
  win : Ram w u R jx
  off : Off w u [R, Rb]
theorem tri_kep {w w' : World} {v u : Value} {jx : List Nat} {R n : Nat} {x : Option Addr} {Rb : Nat} {B : List Int} (h : Tri w v u jx R n x Rb B) (k : Kep w w') : Tri w' v u jx R n x Rb B :=
  ⟨h.two.kep k, h.win.kep k, h.off.put h.win (Put.of_kep k)⟩
theorem tri_pair {w wa wb : World} {v u : Value} {jx : List Nat} {R n : Nat} {x : Option Addr} {Rb : Nat} {B C : List Int} (T : Tri w v u jx R n x Rb B) (P1 : Put [R] w wa) (R1 : RowB wa R C) (P2 : Put [Rb] wa wb) (R2 : RowB wb Rb C) (h1 : C.length = B.length) (h2 : Byts C) : Tri wb v u jx R n x Rb C ∧ Put [R, Rb] w wb := by
  have P : Put [R, Rb] w wb := (P1.mono (by simp)).trans (P2.mono (by simp))
  exact ⟨⟨T.two.put P (R1.put P2 (by simpa using T.two.ne)) R2 h1 h2, T.win.off P T.off, T.off.put T.win P⟩, P⟩
theorem rng_at {n z : Nat} (h : z < n) : (List.range n).getD z 0 = z := by simp [List.getD, h]
theorem winX_fits {zs : List Int} {n : Nat} {B : List Int} (hg : Good zs n) (hB : B.length = 64 * n) : Fits B (winX (List.range n) zs) := by
  intro i hi
  obtain ⟨z, hz, rfl⟩ := List.mem_map.1 hi
  have := hg.1 z hz
  rw [rng_at (by omega)]
  omega
theorem win_at {zs : List Int} {n k q : Nat} (hk : k < zs.length) (hg : Good zs n) (e : zs.getD k 0 = q) : (winX (List.range n) zs).getD k 0 = q := by
  rw [winX_at hk e]
  have h1 : zs.getD k 0 ∈ zs := by simp [List.getD, hk]
  have := hg.1 _ h1
  exact rng_at (by omega)
theorem win_pos {zs : List Int} {n a q : Nat} (ha : a < 64 * zs.length) (hg : Good zs n) (e : zs.getD (a / 64) 0 = q) : pos (winX (List.range n) zs) a = 64 * q + a % 64 := by
  unfold pos
  rw [win_at (by omega) hg e]
theorem frame_ix (w : World) (v : Value) (R : Nat) (ix : List Nat) (B : List Int) (h : Ram w v R ix) (hw : RowB w R B) (hf : Fits B ix) (k q : Nat) (hk : k < ix.length) (e : ix.getD k 0 = q) :
    Calls Try.prog 18 #[v, .int .i64 k] w fun e w' => ∃ u : Value, e = .returned u ∧ Str w' u (strL (frameL B q)) ∧ Kep w w' := by
  have hl := frameL_len (B := B) (i := q) (hf q (by rw [← e]; simp [List.getD, hk]))
  refine (frame_yes w v R _ B h hw hf k hk).mono ?_
  rintro e' w' ⟨rfl, K, hb⟩
  rw [e] at hb
  refine ⟨_, rfl, rd_str ⟨w.heap.size, 0, 64, by rw [hl], ?_⟩ (by intro e; rw [e] at hl; simp at hl), K⟩
  intro j u hu
  rw [Addr.add_lit, Nat.zero_add, cell_of_block hb]
  simpa using hu
theorem may_zero {zs : List Int} {m : Nat} : mayB zs m 0 ↔ (1 ≤ zs.length ∧ zs.length ≤ m) := ⟨fun h => h.1, fun h => ⟨h, fun z hz => by simp at hz, by simp⟩⟩

set_option maxHeartbeats 8000000 in
set_option maxRecDepth 100000 in
theorem walk (a0 : Int) (w0 : (Lit.int .i64 a0).wf = true) (x1 : Option Addr) (len1 cap1 : Nat) (z1 : List Int) (a2f0 : Int) (w2f0 : (Lit.int .u32 a2f0).wf = true) (a2f1 : Int) (w2f1 : (Lit.int .u32 a2f1).wf = true) (a2f2 : Int) (w2f2 : (Lit.int .u32 a2f2).wf = true) (a2f3 : Int) (w2f3 : (Lit.int .u32 a2f3).wf = true) (w : World) (w1 : ISl .i64 w x1 len1 cap1 z1) :
    Calls Try.prog 8 #[.int .i64 a0, .slice x1 len1 cap1, .agg #[.int .u32 a2f0, .int .u32 a2f1, .int .u32 a2f2, .int .u32 a2f3]] w fun e w' => e = .returned (.bool true) ∧ Kep w w' := by
  have b0 := i64_of w0
  have y0 := u32_of w2f0
  have y1 := u32_of w2f1
  have y2 := u32_of w2f2
  have y3 := u32_of w2f3
  have hM : Hid (∀ w, Calls Try.prog 9 #[.int .i64 a0] w fun e w' => ∃ (n p R Rb : Nat), e = .returned (.tuple #[.pointer (some ⟨p, 0, none⟩), refV (some ⟨Rb, 0, none⟩) (64 * n)]) ∧ 1 ≤ n ∧ n ≤ 5 ∧ Two w' (.pointer (some ⟨p, 0, none⟩)) R n (some ⟨Rb, 0, none⟩) Rb (List.replicate (64 * n) 0) ∧ Kep w w' ∧ w.heap.size ≤ R ∧ w.heap.size ≤ Rb) := fun w => made_any w a0 b0.1 b0.2
  have hS : Hid (ISl .i64 w x1 len1 cap1 z1) := w1
  have hzl : Hid (z1.length = len1) := w1.1
  have hcl : (len1 : Int) ≤ cap1 := by have := w1.2.1; omega
  have hcm : (cap1 : Int) ≤ 9223372036854775807 := w1.2.2.1
  clear w0 w1 w2f0 w2f1 w2f2 w2f3 b0
  go_enter Try.func8, Try.ntmps8
  go_wp2_with fail
  refine (hM.out _).mono ?_
  rintro e w1 ⟨n, p, R, Rb, rfl, hn1, hn2, T, K1, gR, gRb⟩
  have T1 : Hid (Two w1 (.pointer (some ⟨p, 0, none⟩)) R n (some ⟨Rb, 0, none⟩) Rb (List.replicate (64 * n) 0)) := T
  have bx : w1.heap[w.heap.size]? = some (.cells #[.int .u32 a2f0, .int .u32 a2f1, .int .u32 a2f2, .int .u32 a2f3] 60 (0, 0)) := K1.block (hat _ _ _ rfl)
  have lx := block_lt bx
  have bx' : Hid (w1.heap[w.heap.size]? = some (.cells #[.int .u32 a2f0, .int .u32 a2f1, .int .u32 a2f2, .int .u32 a2f3] 60 (0, 0))) := bx
  have K1' : Hid (Kep w w1) := kep_trans ((Kep.refl w).alloc _) K1
  have gR' : w.heap.size + 1 ≤ R := by simp at gR; omega
  have gRb' : w.heap.size + 1 ≤ Rb := by simp at gRb; omega
  have g4 : ((64 * n : Nat) : Int) / 64 = n := by omega
  have hn1' : (1 : Int) ≤ n := by omega
  have hn2' : (n : Int) ≤ 5 := by omega
  clear T K1 hM gR gRb bx
  by_cases hl1 : (1 : Int) ≤ len1
  · by_cases hl2 : (len1 : Int) ≤ n
    · have t1 : decide ((1 : Int) ≤ len1) = true := decide_eq_true hl1
      have t2 : decide ((len1 : Int) ≤ n) = true := decide_eq_true hl2
      obtain ⟨b, off, hx, hbl, hcell⟩ : ∃ b off : Nat, x1 = some ⟨b, off, none⟩ ∧ b < w.heap.size ∧ ∀ i, i < z1.length → w.cell? ⟨b, off + i, none⟩ = some (.int .i64 (z1.getD i 0)) := by
        rcases hS.out.2.2.2.1 with e | h
        · have := hzl.out; rw [e] at this; simp at this; omega
        · exact h
      subst hx
      have hb2 : b < (w1.alloc (.cells #[.slice (some ⟨Rb, 0, none⟩) (64 * n) (64 * n)] 26)).heap.size := by have := K1'.out.lt hbl; simp; omega
      have hcell2 : Hid (∀ i, i < z1.length → (w1.alloc (.cells #[.slice (some ⟨Rb, 0, none⟩) (64 * n) (64 * n)] 26)).cell? ⟨b, off + i, none⟩ = some (.int .i64 (z1.getD i 0))) := fun i hi => (cell_old (K1'.out.lt hbl)).trans ((K1'.out.cell hbl).trans (hcell i hi))
      have hcellw : Hid (∀ i, i < z1.length → w.cell? ⟨b, off + i, none⟩ = some (.int .i64 (z1.getD i 0))) := hcell
      clear hcell
      go_wp2_with fail
      go_loopw [10, 11] (fun m i wr => ∃ (k : Nat) (mb : Bool), (k : Int) ≤ len1 ∧ m = .bool mb ∧ i = .int .i64 k ∧ Hid (mb = true ↔ mayB z1 n k) ∧ Hid (Kep (w1.alloc (.cells #[.slice (some ⟨Rb, 0, none⟩) (64 * n) (64 * n)] 26)) wr)) (fun _ i _ => len1 - (intOf i).toNat)
      case atStart => exact ⟨0, true, by omega, rfl, rfl, ⟨fun _ => may_zero.2 (by have := hzl.out; omega), fun _ => rfl⟩, Kep.refl _⟩
      case round =>
        obtain ⟨k, mb, hk, rfl, rfl, hB, K⟩ := hrel
        by_cases hkl : k < len1
        · have hkl' : (k : Int) < len1 := by omega
          have hkz : k < z1.length := by have := hzl.out; omega
          cases mb with
          | true =>
            have hmay : Hid (mayB z1 n k) := hB.out.1 rfl
            obtain ⟨z, hz⟩ : ∃ z, z = z1.getD k 0 := ⟨_, rfl⟩
            have hzz : Hid (z = z1.getD k 0) := hz
            have d0 : wr.cell? ⟨b, off + k, none⟩ = some (.int .i64 z) := (K.out.cell hb2).trans ((hcell2.out k hkz).trans (by rw [hz]))
            clear hz
            rcases (by omega : z < 0 ∨ (0 ≤ z ∧ (n : Int) ≤ z) ∨ (0 ≤ z ∧ z < n)) with hr | ⟨hr, hr'⟩ | ⟨hr, hr'⟩
            · have t3 : decide (0 ≤ z) = false := decide_eq_false (by omega)
              go_wp2_with fail
              go_loopw [10, 12] (fun m i ws => ∃ (j : Nat) (mj : Bool), (j : Int) ≤ k ∧ m = .bool mj ∧ i = .int .i64 j ∧ Hid (mj = true ↔ mayJ z1 n k j) ∧ Hid (Kep (w1.alloc (.cells #[.slice (some ⟨Rb, 0, none⟩) (64 * n) (64 * n)] 26)) ws)) (fun _ i _ => k - (intOf i).toNat)
              case atStart => exact ⟨0, false, by omega, rfl, rfl, ⟨fun e => by simp at e, fun g => by have := g.1.1; rw [← hzz.out] at this; omega⟩, K⟩
              case round =>
                obtain ⟨j, mj, hj, rfl, rfl, hJ, KS⟩ := hrel
                rename World => ws
                clear d0
                have d1 : ws.cell? ⟨b, off + k, none⟩ = some (.int .i64 z) := (KS.out.cell hb2).trans ((hcell2.out k hkz).trans (by rw [hzz.out]))
                by_cases hjk : j < k
                · have hjk' : (j : Int) < k := by omega
                  have hjl' : (j : Int) < len1 := by omega
                  obtain ⟨zj, hzj⟩ : ∃ zj, zj = z1.getD j 0 := ⟨_, rfl⟩
                  have d2 : ws.cell? ⟨b, off + j, none⟩ = some (.int .i64 zj) := (KS.out.cell hb2).trans ((hcell2.out j (by have := hzl.out; omega)).trans (by rw [hzj]))
                  have hzj' : Hid (zj = z1.getD j 0) := hzj
                  clear hzj
                  cases mj with
                  | true =>
                    by_cases heq : zj = z
                    · have h5 : (zj != z) = false := by simp [heq]
                      have hne : Hid (¬ mayJ z1 n k (j + 1)) := fun g => g.2 j (by omega) (by rw [← hzj'.out, ← hzz.out]; exact heq)
                      clear heq
                      go_wp2_with fail
                      go_quiet (fail)
                      go_wp2_with fail
                      go_roundw
                      case rel => exact ⟨j + 1, false, by omega, rfl, by go_num, ⟨fun e => by simp at e, fun g => absurd g hne.out⟩, KS.out.drewN _⟩
                      case measure => simp [intOf]; omega
                    · have h5 : (zj != z) = true := by simp [heq]
                      have hye : Hid (mayJ z1 n k (j + 1)) := by
                        have g := hJ.out.1 rfl
                        refine ⟨g.1, fun i hi => ?_⟩
                        rcases (by omega : i < j ∨ i = j) with h | rfl
                        · exact g.2 i h
                        · rw [← hzj'.out, ← hzz.out]; exact heq
                      clear heq
                      go_wp2_with fail
                      go_quiet (fail)
                      go_wp2_with fail
                      go_roundw
                      case rel => exact ⟨j + 1, true, by omega, rfl, by go_num, ⟨fun _ => hye.out, fun _ => rfl⟩, KS.out.drewN _⟩
                      case measure => simp [intOf]; omega
                  | false =>
                    have hne : Hid (¬ mayJ z1 n k (j + 1)) := fun g => by
                      have := hJ.out.2 ⟨g.1, fun i hi => g.2 i (by omega)⟩
                      simp at this
                    go_wp2_with fail
                    go_quiet (fail)
                    go_wp2_with fail
                    go_roundw
                    case rel => exact ⟨j + 1, false, by omega, rfl, by go_num, ⟨fun e => by simp at e, fun g => absurd g hne.out⟩, KS.out.drewN _⟩
                    case measure => simp [intOf]; omega
                · obtain rfl : j = k := by omega
                  go_wp2_with fail
                  go_roundw
                  case rel => exact ⟨j + 1, mj, by omega, rfl, by go_num, hJ.out.trans (may_step hkz hmay.out).symm, KS.out⟩
                  case measure => simp [intOf]; omega
            · have t3 : decide (0 ≤ z) = true := decide_eq_true (by omega)
              have t4 : decide (z < n) = false := decide_eq_false (by omega)
              go_wp2_with fail
              go_loopw [10, 12] (fun m i ws => ∃ (j : Nat) (mj : Bool), (j : Int) ≤ k ∧ m = .bool mj ∧ i = .int .i64 j ∧ Hid (mj = true ↔ mayJ z1 n k j) ∧ Hid (Kep (w1.alloc (.cells #[.slice (some ⟨Rb, 0, none⟩) (64 * n) (64 * n)] 26)) ws)) (fun _ i _ => k - (intOf i).toNat)
              case atStart => exact ⟨0, false, by omega, rfl, rfl, ⟨fun e => by simp at e, fun g => by have := g.1.2; rw [← hzz.out] at this; omega⟩, K⟩
              case round =>
                obtain ⟨j, mj, hj, rfl, rfl, hJ, KS⟩ := hrel
                rename World => ws
                clear d0
                have d1 : ws.cell? ⟨b, off + k, none⟩ = some (.int .i64 z) := (KS.out.cell hb2).trans ((hcell2.out k hkz).trans (by rw [hzz.out]))
                by_cases hjk : j < k
                · have hjk' : (j : Int) < k := by omega
                  have hjl' : (j : Int) < len1 := by omega
                  obtain ⟨zj, hzj⟩ : ∃ zj, zj = z1.getD j 0 := ⟨_, rfl⟩
                  have d2 : ws.cell? ⟨b, off + j, none⟩ = some (.int .i64 zj) := (KS.out.cell hb2).trans ((hcell2.out j (by have := hzl.out; omega)).trans (by rw [hzj]))
                  have hzj' : Hid (zj = z1.getD j 0) := hzj
                  clear hzj
                  cases mj with
                  | true =>
                    by_cases heq : zj = z
                    · have h5 : (zj != z) = false := by simp [heq]
                      have hne : Hid (¬ mayJ z1 n k (j + 1)) := fun g => g.2 j (by omega) (by rw [← hzj'.out, ← hzz.out]; exact heq)
                      clear heq
                      go_wp2_with fail
                      go_quiet (fail)
                      go_wp2_with fail
                      go_roundw
                      case rel => exact ⟨j + 1, false, by omega, rfl, by go_num, ⟨fun e => by simp at e, fun g => absurd g hne.out⟩, KS.out.drewN _⟩
                      case measure => simp [intOf]; omega
                    · have h5 : (zj != z) = true := by simp [heq]
                      have hye : Hid (mayJ z1 n k (j + 1)) := by
                        have g := hJ.out.1 rfl
                        refine ⟨g.1, fun i hi => ?_⟩
                        rcases (by omega : i < j ∨ i = j) with h | rfl
                        · exact g.2 i h
                        · rw [← hzj'.out, ← hzz.out]; exact heq
                      clear heq
                      go_wp2_with fail
                      go_quiet (fail)
                      go_wp2_with fail
                      go_roundw
                      case rel => exact ⟨j + 1, true, by omega, rfl, by go_num, ⟨fun _ => hye.out, fun _ => rfl⟩, KS.out.drewN _⟩
                      case measure => simp [intOf]; omega
                  | false =>
                    have hne : Hid (¬ mayJ z1 n k (j + 1)) := fun g => by
                      have := hJ.out.2 ⟨g.1, fun i hi => g.2 i (by omega)⟩
                      simp at this
                    go_wp2_with fail
                    go_quiet (fail)
                    go_wp2_with fail
                    go_roundw
                    case rel => exact ⟨j + 1, false, by omega, rfl, by go_num, ⟨fun e => by simp at e, fun g => absurd g hne.out⟩, KS.out.drewN _⟩
                    case measure => simp [intOf]; omega
                · obtain rfl : j = k := by omega
                  go_wp2_with fail
                  go_roundw
                  case rel => exact ⟨j + 1, mj, by omega, rfl, by go_num, hJ.out.trans (may_step hkz hmay.out).symm, KS.out⟩
                  case measure => simp [intOf]; omega
            · have t3 : decide (0 ≤ z) = true := decide_eq_true (by omega)
              have t4 : decide (z < n) = true := decide_eq_true (by omega)
              go_wp2_with fail
              go_loopw [10, 12] (fun m i ws => ∃ (j : Nat) (mj : Bool), (j : Int) ≤ k ∧ m = .bool mj ∧ i = .int .i64 j ∧ Hid (mj = true ↔ mayJ z1 n k j) ∧ Hid (Kep (w1.alloc (.cells #[.slice (some ⟨Rb, 0, none⟩) (64 * n) (64 * n)] 26)) ws)) (fun _ i _ => k - (intOf i).toNat)
              case atStart => exact ⟨0, true, by omega, rfl, rfl, ⟨fun _ => ⟨by rw [← hzz.out]; omega, fun i hi => by omega⟩, fun _ => rfl⟩, K⟩
              case round =>
                obtain ⟨j, mj, hj, rfl, rfl, hJ, KS⟩ := hrel
                rename World => ws
                clear d0
                have d1 : ws.cell? ⟨b, off + k, none⟩ = some (.int .i64 z) := (KS.out.cell hb2).trans ((hcell2.out k hkz).trans (by rw [hzz.out]))
                by_cases hjk : j < k
                · have hjk' : (j : Int) < k := by omega
                  have hjl' : (j : Int) < len1 := by omega
                  obtain ⟨zj, hzj⟩ : ∃ zj, zj = z1.getD j 0 := ⟨_, rfl⟩
                  have d2 : ws.cell? ⟨b, off + j, none⟩ = some (.int .i64 zj) := (KS.out.cell hb2).trans ((hcell2.out j (by have := hzl.out; omega)).trans (by rw [hzj]))
                  have hzj' : Hid (zj = z1.getD j 0) := hzj
                  clear hzj
                  cases mj with
                  | true =>
                    by_cases heq : zj = z
                    · have h5 : (zj != z) = false := by simp [heq]
                      have hne : Hid (¬ mayJ z1 n k (j + 1)) := fun g => g.2 j (by omega) (by rw [← hzj'.out, ← hzz.out]; exact heq)
                      clear heq
                      go_wp2_with fail
                      go_quiet (fail)
                      go_wp2_with fail
                      go_roundw
                      case rel => exact ⟨j + 1, false, by omega, rfl, by go_num, ⟨fun e => by simp at e, fun g => absurd g hne.out⟩, KS.out.drewN _⟩
                      case measure => simp [intOf]; omega
                    · have h5 : (zj != z) = true := by simp [heq]
                      have hye : Hid (mayJ z1 n k (j + 1)) := by
                        have g := hJ.out.1 rfl
                        refine ⟨g.1, fun i hi => ?_⟩
                        rcases (by omega : i < j ∨ i = j) with h | rfl
                        · exact g.2 i h
                        · rw [← hzj'.out, ← hzz.out]; exact heq
                      clear heq
                      go_wp2_with fail
                      go_quiet (fail)
                      go_wp2_with fail
                      go_roundw
                      case rel => exact ⟨j + 1, true, by omega, rfl, by go_num, ⟨fun _ => hye.out, fun _ => rfl⟩, KS.out.drewN _⟩
                      case measure => simp [intOf]; omega
                  | false =>
                    have hne : Hid (¬ mayJ z1 n k (j + 1)) := fun g => by
                      have := hJ.out.2 ⟨g.1, fun i hi => g.2 i (by omega)⟩
                      simp at this
                    go_wp2_with fail
                    go_quiet (fail)
                    go_wp2_with fail
                    go_roundw
                    case rel => exact ⟨j + 1, false, by omega, rfl, by go_num, ⟨fun e => by simp at e, fun g => absurd g hne.out⟩, KS.out.drewN _⟩
                    case measure => simp [intOf]; omega
                · obtain rfl : j = k := by omega
                  go_wp2_with fail
                  go_roundw
                  case rel => exact ⟨j + 1, mj, by omega, rfl, by go_num, hJ.out.trans (may_step hkz hmay.out).symm, KS.out⟩
                  case measure => simp [intOf]; omega
          | false =>
            have hno : Hid (¬ ((1 ≤ z1.length ∧ z1.length ≤ n) ∧ Good z1 n)) := may_mono (fun g => by have := hB.out.2 g; simp at this)
            have KN : Hid (Kep w1 wr) := kep_trans ((Kep.refl _).alloc _) K.out
            have HW : Hid (Calls Try.prog 19 #[.pointer (some ⟨p, 0, none⟩), .slice (some ⟨b, off, none⟩) len1 cap1] wr fun e w' => e = .returned (.tuple #[.pointer none, .int .i64 2]) ∧ Kep wr w') := win_no wr _ R n (T1.out.kep KN.out).ram hn1 hn2 (T1.out.kep KN.out).lR _ _ _ z1 (isl_kep (isl_kep hS.out K1'.out) KN.out) hno.out
            go_wp2_with fail
            refine HW.out.mono ?_
            rintro e w3 ⟨rfl, k3⟩
            have K3 : Hid (Kep w w3) := kep_trans (kep_trans K1'.out KN.out) k3
            clear k3
            go_wp2_with fail
            go_ret
            exact ⟨rfl, K3.out⟩
        · cases mb with
          | true =>
            have hye : Hid (Good z1 n) := by
              have := hB.out.1 rfl
              rw [show k = z1.length by have := hzl.out; omega] at this
              exact (may_all.1 this).2
            have KN : Hid (Kep w1 wr) := kep_trans ((Kep.refl _).alloc _) K.out
            have TN : Hid (Two wr (.pointer (some ⟨p, 0, none⟩)) R n (some ⟨Rb, 0, none⟩) Rb (List.replicate (64 * n) 0)) := T1.out.kep KN.out
            have HW : Hid (Calls Try.prog 19 #[.pointer (some ⟨p, 0, none⟩), .slice (some ⟨b, off, none⟩) len1 cap1] wr fun e w' => ∃ p' : Nat, e = .returned (.tuple #[.pointer (some ⟨p', 0, none⟩), .int .i64 0]) ∧ Kep wr w' ∧ Ram w' (.pointer (some ⟨p', 0, none⟩)) R (winX (List.range n) z1)) := win_yes wr _ R n TN.out.ram hn2 TN.out.lR _ _ _ z1 (isl_kep (isl_kep hS.out K1'.out) KN.out) (by omega) (by omega) hye.out
            have bw : wr.heap[w1.heap.size]? = some (.cells #[.slice (some ⟨Rb, 0, none⟩) (64 * n) (64 * n)] 26 (0, 0)) := K.out.block (hat _ _ _ rfl)
            have bw' : Hid (wr.heap[w1.heap.size]? = some (.cells #[.slice (some ⟨Rb, 0, none⟩) (64 * n) (64 * n)] 26 (0, 0))) := bw
            have lw1 := block_lt bw
            clear bw
            go_wp2_with fail
            refine HW.out.mono ?_
            rintro e w3 ⟨p', rfl, k3, r3⟩
            have K3 : Hid (Kep wr w3) := k3
            have hne0 : (List.replicate (64 * n) (0 : Int)) ≠ [] := by intro e; have := congrArg List.length e; simp at this; omega
            have X3 : Hid (Tri w3 (.pointer (some ⟨p, 0, none⟩)) (.pointer (some ⟨p', 0, none⟩)) (winX (List.range n) z1) R n (some ⟨Rb, 0, none⟩) Rb (List.replicate (64 * n) 0)) := ⟨TN.out.kep k3, r3, off_of r3 (TN.out.kep k3).ref.row hne0⟩
            have hjl : (winX (List.range n) z1).length = len1 := by rw [winX_len]; exact hzl.out
            have hjl' : Hid ((winX (List.range n) z1).length = len1) := hjl
            have SV : Hid (∀ w', Kep w3 w' → Calls Try.prog 16 #[.pointer (some ⟨p', 0, none⟩)] w' fun e w'' => e = .returned (.int .u32 (64 * len1)) ∧ w'' = w') := fun w' kk => by
              have := size_any w' _ R _ (X3.out.win.kep kk) (by rw [hjl]; omega)
              rw [hjl] at this
              exact this
            have SR : Hid (∀ w', Kep w3 w' → Calls Try.prog 16 #[.pointer (some ⟨p, 0, none⟩)] w' fun e w'' => e = .returned (.int .u32 (64 * n)) ∧ w'' = w') := fun w' kk => by
              have := size_any w' _ R _ (X3.out.two.ram.kep kk) (by simp; omega)
              rw [List.length_range] at this
              exact this
            clear k3 r3 HW hjl hne0
            have KX : Hid (Kep w1 w3) := kep_trans KN.out K3.out
            have e0 : w3.cell? ⟨w.heap.size, 0, none⟩ = some (.int .u32 a2f0) := by rw [cell_of_block (KX.out.block bx'.out)]; rfl
            have e2 : w3.cell? ⟨w.heap.size, 2, none⟩ = some (.int .u32 a2f2) := by rw [cell_of_block (KX.out.block bx'.out)]; rfl
            have l3 : w.heap.size < w3.heap.size := KX.out.lt lx
            obtain ⟨a, ha, ha2⟩ : ∃ a : Nat, a2f0 % (64 * (len1 : Int)) = a ∧ (a : Int) < 64 * len1 := ⟨(a2f0 % (64 * (len1 : Int))).toNat, by have := Int.emod_nonneg a2f0 (show 64 * (len1 : Int) ≠ 0 by omega); omega, by have := Int.emod_nonneg a2f0 (show 64 * (len1 : Int) ≠ 0 by omega); have := Int.emod_lt_of_pos a2f0 (show 0 < 64 * (len1 : Int) by omega); omega⟩
            obtain ⟨c, hc, hc2⟩ : ∃ c : Nat, a2f2 % (64 * (n : Int)) = c ∧ (c : Int) < 64 * n := ⟨(a2f2 % (64 * (n : Int))).toNat, by have := Int.emod_nonneg a2f2 (show 64 * (n : Int) ≠ 0 by omega); omega, by have := Int.emod_nonneg a2f2 (show 64 * (n : Int) ≠ 0 by omega); have := Int.emod_lt_of_pos a2f2 (show 0 < 64 * (n : Int) by omega); omega⟩
            have hz5 : ((64 * (len1 : Int)) == 0) = false := by rw [beq_eq_false_iff_ne]; omega
            have hz6 : ((64 * (n : Int)) == 0) = false := by rw [beq_eq_false_iff_ne]; omega
            go_wp2_with (go_at_call 16; refine (SV.out _ (Kep.refl _)).mono ?_; rintro e w4 ⟨rfl, rfl⟩)
            rename World => w4
            go_quiet (first | (go_at_call 16; exact (SV.out _ ((Kep.refl _).drewN _)).mono fun _ _ h => ⟨h.1, _, h.2⟩))
            rw [ha]
            have k5 : Hid (Kep w4 (w4.drewN nq)) := (Kep.refl _).drewN _
            generalize w4.drewN nq = w5 at k5 ⊢
            have haq : a / 64 < z1.length := by have := hzl.out; omega
            obtain ⟨q, hq⟩ : ∃ q : Nat, z1.getD (a / 64) 0 = q := by
              have h1 : z1.getD (a / 64) 0 ∈ z1 := by simp [List.getD, haq]
              exact ⟨(z1.getD (a / 64) 0).toNat, by have := hye.out.1 _ h1; omega⟩
            have hqn : (q : Int) < n := by
              have h1 : z1.getD (a / 64) 0 ∈ z1 := by simp [List.getD, haq]
              have := hye.out.1 _ h1
              omega
            have f0 : w5.cell? ⟨b, off + a / 64, none⟩ = some (.int .i64 q) := ((kep_trans (kep_trans K.out K3.out) k5.out).cell hb2).trans ((hcell2.out _ haq).trans (by rw [hq]))
            have e2' := (k5.out.cell (o := 2) l3).trans e2
            have hq' : Hid (z1.getD (a / 64) 0 = q) := hq
            have hal : (a : Int) / 64 < len1 := by omega
            clear e0 e2 hq ha hz5
            go_wp2_with fail
            go_quiet (first | (go_at_call 16; exact (SR.out _ (k5.out.drewN _)).mono fun _ _ h => ⟨h.1, _, h.2⟩))
            rw [hc]
            have k6 : Hid (Kep w4 (w5.drewN nq)) := k5.out.drewN _
            generalize w5.drewN nq = w6 at k6 ⊢
            clear hc hz6 f0 e2' k5
            obtain ⟨bb, hbb⟩ : ∃ bb : Nat, bb = 64 * q + a % 64 := ⟨_, rfl⟩
            have hbi : 64 * (q : Int) + (a : Int) % 64 = (bb : Int) := by omega
            rw [hbi]
            have X6 : Hid (Tri w6 (.pointer (some ⟨p, 0, none⟩)) (.pointer (some ⟨p', 0, none⟩)) (winX (List.range n) z1) R n (some ⟨Rb, 0, none⟩) Rb (List.replicate (64 * n) 0)) := tri_kep X3.out k6.out
            have hpos : Hid (pos (winX (List.range n) z1) a = bb) := by rw [Hid, win_pos (by have := hzl.out; omega) hye.out hq'.out, hbb]
            have hbn : bb < 64 * n := by omega
            have hbn' : (bb : Int) < 64 * n := by omega
            have e1 : w6.cell? ⟨w.heap.size, 1, none⟩ = some (.int .u32 a2f1) := by rw [cell_of_block (k6.out.block (KX.out.block bx'.out))]; rfl
            have l6 : w.heap.size < w6.heap.size := k6.out.lt l3
            obtain ⟨v1, hv1, hv1a, hv1b⟩ : ∃ v1, a2f1 % 256 = v1 ∧ 0 ≤ v1 ∧ v1 < 256 := ⟨_, rfl, by omega, by omega⟩
            obtain ⟨v3, hv3, hv3a, hv3b⟩ : ∃ v3, a2f3 % 256 = v3 ∧ 0 ≤ v3 ∧ v3 < 256 := ⟨_, rfl, by omega, by omega⟩
            have B1 : Hid (Calls Try.prog 12 #[.pointer (some ⟨p', 0, none⟩), .int .u32 a, .int .u8 v1] w6 fun e w' => e = .returned (.bool true) ∧ Put [R] w6 w' ∧ RowB w' R ((List.replicate (64 * n) 0).set bb v1)) := by
              have := setByte_put w6 _ R _ _ X6.out.win (by rw [hjl'.out]; omega) X6.out.two.row (winX_fits hye.out X6.out.two.len) a (by omega) v1
              rw [hjl'.out, if_pos (by omega), decide_eq_true (by omega), hpos.out] at this
              exact this
            have bwx : w6.heap[w1.heap.size]? = some (.cells #[.slice (some ⟨Rb, 0, none⟩) (64 * n) (64 * n)] 26 (0, 0)) := (kep_trans K3.out k6.out).block bw'.out
            have c6 : w6.cell? ⟨w1.heap.size, 0, none⟩ = some (.slice (some ⟨Rb, 0, none⟩) (64 * n) (64 * n)) := by rw [cell_of_block bwx]; rfl
            have l61 := block_lt bwx
            have nx : w.heap.size ∉ [R, Rb] := nm2 (by omega) (by omega)
            have nx1 : w1.heap.size ∉ [R, Rb] := nm2 (by have := T1.out.lR; omega) (by have := T1.out.lRb; omega)
            have bwx' : Hid (w6.heap[w1.heap.size]? = some (.cells #[.slice (some ⟨Rb, 0, none⟩) (64 * n) (64 * n)] 26 (0, 0))) := bwx
            have bxx' : Hid (w6.heap[w.heap.size]? = some (.cells #[.int .u32 a2f0, .int .u32 a2f1, .int .u32 a2f2, .int .u32 a2f3] 60 (0, 0))) := k6.out.block (KX.out.block bx'.out)
            clear hbi bwx hbb
            go_wp2_with fail
            refine B1.out.mono ?_
            rintro e w7 ⟨rfl, P7, R7⟩
            have nx2 : w.heap.size ∉ [R] := by simp; omega
            have nx3 : w1.heap.size ∉ [R] := by have := T1.out.lR; simp; omega
            have c7 := (P7.cell (o := 0) l61 nx3).trans c6
            have e7 := (P7.cell (o := 1) l6 nx2).trans e1
            have Q7 : Hid (Put [R] w6 w7 ∧ RowB w7 R ((List.replicate (64 * n) 0).set bb v1)) := ⟨P7, R7⟩
            have B2 : Hid (Calls Try.prog 23 #[refV (some ⟨Rb, 0, none⟩) (64 * n), .int .u32 bb, .int .u8 v1] w7 fun e w' => e = .returned (.bool true) ∧ Put [Rb] w7 w' ∧ RowB w' Rb ((List.replicate (64 * n) 0).set bb v1)) := by
              have := refSetByte_any w7 _ Rb _ (X6.out.two.ref.put P7 (by simpa using X6.out.two.ne.symm)) bb (by omega) v1
              rw [X6.out.two.len, if_pos hbn, decide_eq_true hbn] at this
              exact this
            clear P7 R7 B1 c6 e1
            go_wp2_with fail
            refine B2.out.mono ?_
            rintro e w8 ⟨rfl, P8, R8⟩
            have t8 := tri_pair X6.out Q7.out.1 Q7.out.2 P8 R8 (by simp) ((byts_zero _).set _ hv1a hv1b)
            have X8 : Hid (Tri w8 (.pointer (some ⟨p, 0, none⟩)) (.pointer (some ⟨p', 0, none⟩)) (winX (List.range n) z1) R n (some ⟨Rb, 0, none⟩) Rb ((List.replicate (64 * n) 0).set bb v1)) := t8.1
            have P68 : Hid (Put [R, Rb] w6 w8) := t8.2
            obtain ⟨C1, hC1⟩ : ∃ C1, C1 = (List.replicate (64 * n) (0 : Int)).set bb v1 := ⟨_, rfl⟩
            rw [← hC1] at X8
            have e8 : w8.cell? ⟨w.heap.size, 3, none⟩ = some (.int .u32 a2f3) := by rw [cell_of_block (P68.out.keeps bxx'.out nx)]; rfl
            have c8 : w8.cell? ⟨w1.heap.size, 0, none⟩ = some (.slice (some ⟨Rb, 0, none⟩) (64 * n) (64 * n)) := by rw [cell_of_block (P68.out.keeps bwx'.out nx1)]; rfl
            have hcn : c < 64 * n := by omega
            have B3 : Hid (Calls Try.prog 12 #[.pointer (some ⟨p, 0, none⟩), .int .u32 c, .int .u8 v3] w8 fun e w' => e = .returned (.bool true) ∧ Put [R] w8 w' ∧ RowB w' R (C1.set c v3)) := by
              have := setByte_put w8 _ R _ _ X8.out.two.ram (by simp; omega) X8.out.two.row (fits_range X8.out.two.len) c (by omega) v3
              rw [List.length_range, if_pos hcn, decide_eq_true hcn, pos_range hcn] at this
              exact this
            have l8 : w.heap.size < w8.heap.size := Nat.lt_of_lt_of_le l6 P68.out.size
            have l81 : w1.heap.size < w8.heap.size := Nat.lt_of_lt_of_le l61 P68.out.size
            clear t8 P8 R8 B2 c7 e7 hC1 Q7
            go_wp2_with fail
            refine B3.out.mono ?_
            rintro e w9 ⟨rfl, P9, R9⟩
            have c9 := (P9.cell (o := 0) l81 nx3).trans c8
            have e9 := (P9.cell (o := 3) l8 nx2).trans e8
            have Q9 : Hid (Put [R] w8 w9 ∧ RowB w9 R (C1.set c v3)) := ⟨P9, R9⟩
            have B4 : Hid (Calls Try.prog 23 #[refV (some ⟨Rb, 0, none⟩) (64 * n), .int .u32 c, .int .u8 v3] w9 fun e w' => e = .returned (.bool true) ∧ Put [Rb] w9 w' ∧ RowB w' Rb (C1.set c v3)) := by
              have := refSetByte_any w9 _ Rb _ (X8.out.two.ref.put P9 (by simpa using X8.out.two.ne.symm)) c (by omega) v3
              rw [X8.out.two.len, if_pos hcn, decide_eq_true hcn] at this
              exact this
            clear P9 R9 B3 c8 e8
            go_wp2_with fail
            refine B4.out.mono ?_
            rintro e w10 ⟨rfl, P10, R10⟩
            have t10 := tri_pair X8.out Q9.out.1 Q9.out.2 P10 R10 (by simp) (X8.out.two.byts.set _ hv3a hv3b)
            obtain ⟨C, hC⟩ : ∃ C, C = C1.set c v3 := ⟨_, rfl⟩
            rw [← hC] at t10
            have XX : Hid (Tri w10 (.pointer (some ⟨p, 0, none⟩)) (.pointer (some ⟨p', 0, none⟩)) (winX (List.range n) z1) R n (some ⟨Rb, 0, none⟩) Rb C) := t10.1
            have PP : Hid (Put [R, Rb] w6 w10) := P68.out.trans t10.2
            have KZ : Hid (Kep w w10) := (kep_trans (kep_trans K1'.out KX.out) k6.out).put PP.out (by simp; omega)
            clear t10 P10 R10 B4 c9 e9 hC Q9 P68 X8 X6
            have hbw : b < w.heap.size := hbl
            have hcw : Hid (∀ i, i < z1.length → w.cell? ⟨b, off + i, none⟩ = some (.int .i64 (z1.getD i 0))) := hcellw.out
            go_wp2_with fail
            go_loopw [18] (fun i ws => ∃ t : Nat, (t : Int) ≤ len1 ∧ i = .int .i64 t ∧ Hid (Kep w10 ws)) (fun i _ => len1 - (intOf i).toNat)
            case atStart => exact ⟨0, by omega, rfl, Kep.refl _⟩
            case round =>
              obtain ⟨t, ht, rfl, KS⟩ := hrel
              rename World => ws
              have XS : Hid (Tri ws (.pointer (some ⟨p, 0, none⟩)) (.pointer (some ⟨p', 0, none⟩)) (winX (List.range n) z1) R n (some ⟨Rb, 0, none⟩) Rb C) := tri_kep XX.out KS.out
              have bT : ws.heap[w1.heap.size]? = some (.cells #[.slice (some ⟨Rb, 0, none⟩) (64 * n) (64 * n)] 26 (0, 0)) := KS.out.block (PP.out.keeps bwx'.out nx1)
              have cT : ws.cell? ⟨w1.heap.size, 0, none⟩ = some (.slice (some ⟨Rb, 0, none⟩) (64 * n) (64 * n)) := by rw [cell_of_block bT]; rfl
              have lT := block_lt bT
              have lb : b < ws.heap.size := (kep_trans KZ.out KS.out).lt hbw
              have KW : Hid (Kep w ws) := kep_trans KZ.out KS.out
              clear bT
              by_cases htl : t < len1
              · have htl' : (t : Int) < len1 := by omega
                have htz : t < z1.length := by have := hzl.out; omega
                obtain ⟨qt, hqt⟩ : ∃ qt : Nat, z1.getD t 0 = qt := by
                  have h1 : z1.getD t 0 ∈ z1 := by simp [List.getD, htz]
                  exact ⟨(z1.getD t 0).toNat, by have := hye.out.1 _ h1; omega⟩
                have hqn2 : qt < n := by
                  have h1 : z1.getD t 0 ∈ z1 := by simp [List.getD, htz]
                  have := hye.out.1 _ h1
                  omega
                have cL : ws.cell? ⟨b, off + t, none⟩ = some (.int .i64 qt) := (KW.out.cell hbw).trans ((hcw.out t htz).trans (by rw [hqt]))
                have G1 : Hid (∀ w', Kep ws w' → Calls Try.prog 18 #[.pointer (some ⟨p', 0, none⟩), .int .i64 t] w' fun e w'' => ∃ u : Value, e = .returned u ∧ Str w'' u (strL (frameL C qt)) ∧ Kep w' w'') := fun w' kk => by
                  have X := tri_kep XS.out kk
                  exact frame_ix w' _ R _ C X.win X.two.row (winX_fits hye.out X.two.len) t qt (by rw [hjl'.out]; exact htl) (win_at htz hye.out hqt)
                have G2 : Hid (∀ w', Kep ws w' → Calls Try.prog 24 #[refV (some ⟨Rb, 0, none⟩) (64 * n), .int .i64 qt] w' fun e w'' => ∃ u : Value, e = .returned u ∧ Str w'' u (strL (frameL C qt)) ∧ Kep w' w'') := fun w' kk => by
                  have X := tri_kep XS.out kk
                  have := refFrame_str w' _ R n _ Rb C X.two qt hqn2
                  rw [X.two.len] at this
                  exact this
                generalize strL (frameL C qt) = s at G1 G2
                have kk0 : Hid (Kep ws ws.drew) := (Kep.refl _).drew
                clear hqt
                go_wp2_with fail
                go_region_held (fun w' => w'.cell? ⟨w1.heap.size, 0, none⟩ = some (.slice (some ⟨Rb, 0, none⟩) (64 * n) (64 * n)) ∧ w'.cell? ⟨b, off + t, none⟩ = some (.int .i64 qt)) (first | assumption | (go_keep; done)) (first
                  | (go_at_call 18; refine (G1.out _ kk0.out).mono ?_; rintro e wa ⟨u1, rfl, s1, k1⟩; have j1 : Hid (Kep ws wa) := kep_trans kk0.out k1; have z1' := s1 wa (Kep.refl _); have yy1 := (j1.out.cell (o := 0) lT).trans cT; have yy2 := (j1.out.cell (o := off + t) lb).trans cL; have s1' : Hid (Str wa u1 s) := s1; clear s1 k1)
                  | (go_at_call 24; refine (G2.out _ j1.out).mono ?_; rintro e wb ⟨u2, rfl, s2, k2⟩; have z2 := s2 wb (Kep.refl _); have z3 := s1'.out wb k2; have yy3 := (k2.cell (o := 0) (j1.out.lt lT)).trans yy1; have yy4 := (k2.cell (o := off + t) (j1.out.lt lb)).trans yy2; have j2 : Hid (Kep ws wb) := kep_trans j1.out k2; clear s2 k2))
                all_goals
                  go_wp2_with fail
                  go_roundw
                  case rel => exact ⟨t + 1, by omega, by go_num, kep_trans KS.out j2.out⟩
                  case measure => simp [intOf]; omega
              · have BV : Hid (Calls Try.prog 17 #[.pointer (some ⟨p', 0, none⟩), .int .u32 a] ws fun e w'' => e = .returned (.tuple #[.int .u8 (C.getD bb 0), .bool true]) ∧ w'' = ws) := by
                  have := byte_any ws _ R _ C XS.out.win (by rw [hjl'.out]; omega) XS.out.two.row (winX_fits hye.out XS.out.two.len) a (by omega)
                  rw [hjl'.out, if_pos (by omega), hpos.out] at this
                  exact this
                have BR : Hid (Calls Try.prog 17 #[.pointer (some ⟨p, 0, none⟩), .int .u32 bb] ws fun e w'' => e = .returned (.tuple #[.int .u8 (C.getD bb 0), .bool true]) ∧ w'' = ws) := by
                  have := byte_any ws _ R _ C XS.out.two.ram (by simp; omega) XS.out.two.row (fits_range XS.out.two.len) bb (by omega)
                  rw [List.length_range, if_pos hbn, pos_range hbn] at this
                  exact this
                have SA : Hid (Calls Try.prog 11 #[.pointer (some ⟨p, 0, none⟩), refV (some ⟨Rb, 0, none⟩) (64 * n)] ws fun e w'' => e = .returned (.bool true) ∧ Kep ws w'') := by
                  have := same_any ws _ R n _ Rb C XS.out.two
                  rw [XS.out.two.len] at this
                  exact this
                have hjne : winX (List.range n) z1 ≠ [] := by intro e; have := hjl'.out; rw [e] at this; simp at this; omega
                have CP : Hid (∀ w', Kep ws w' → Calls Try.prog 10 #[.pointer (some ⟨p', 0, none⟩)] w' fun e w'' => ∃ pc : Nat, e = .returned (.pointer (some ⟨pc, 0, none⟩)) ∧ Own w' w'' (.pointer (some ⟨pc, 0, none⟩)) w'.heap.size len1 (view C (winX (List.range n) z1))) := fun w' kk => by
                  have X := tri_kep XS.out kk
                  have := copy_any w' _ R _ C X.win hjne (by rw [hjl'.out]; omega) X.two.row (winX_fits hye.out X.two.len) X.two.byts
                  rw [hjl'.out] at this
                  exact this
                have SO : Hid (∀ w' w'' pc B, Own w' w'' (.pointer (some ⟨pc, 0, none⟩)) w'.heap.size len1 B → Calls Try.prog 16 #[.pointer (some ⟨pc, 0, none⟩)] w'' fun e w3 => e = .returned (.int .u32 (64 * len1)) ∧ w3 = w'') := fun w' w'' pc B O => by
                  have := size_any w'' _ _ _ O.ram (by simp; omega)
                  rw [List.length_range] at this
                  exact this
                have SW : Hid (∀ w', Kep ws w' → Calls Try.prog 16 #[.pointer (some ⟨p', 0, none⟩)] w' fun e w'' => e = .returned (.int .u32 (64 * len1)) ∧ w'' = w') := fun w' kk => by
                  have := size_any w' _ R _ ((tri_kep XS.out kk).win) (by rw [hjl'.out]; omega)
                  rw [hjl'.out] at this
                  exact this
                generalize C.getD bb 0 = yv at BV BR
                go_wp2_with fail
                refine BV.out.mono ?_
                rintro e wv ⟨rfl, rfl⟩
                go_wp2_with fail
                refine BR.out.mono ?_
                rintro e wv ⟨rfl, rfl⟩
                go_wp2_with fail
                refine SA.out.mono ?_
                rintro e wc ⟨rfl, kc⟩
                have KC : Hid (Kep _ wc) := kc
                have KWc : Hid (Kep w wc) := kep_trans KW.out kc
                clear kc
                go_wp2_with fail
                refine (CP.out _ KC.out).mono ?_
                rintro e wd ⟨pc, rfl, O⟩
                have OD : Hid (Own wc wd (.pointer (some ⟨pc, 0, none⟩)) wc.heap.size len1 (view C (winX (List.range n) z1))) := O
                clear O
                go_wp2_with fail
                refine (SO.out _ _ _ _ OD.out).mono ?_
                rintro e we ⟨rfl, rfl⟩
                go_wp2_with fail
                refine (SW.out _ (kep_trans KC.out OD.out.kep)).mono ?_
                rintro e we ⟨rfl, rfl⟩
                go_wp2_with fail
                go_ret
                exact ⟨rfl, kep_trans KWc.out OD.out.kep⟩
          | false =>
            have hno : Hid (¬ ((1 ≤ z1.length ∧ z1.length ≤ n) ∧ Good z1 n)) := may_mono (fun g => by have := hB.out.2 g; simp at this)
            have KN : Hid (Kep w1 wr) := kep_trans ((Kep.refl _).alloc _) K.out
            have HW : Hid (Calls Try.prog 19 #[.pointer (some ⟨p, 0, none⟩), .slice (some ⟨b, off, none⟩) len1 cap1] wr fun e w' => e = .returned (.tuple #[.pointer none, .int .i64 2]) ∧ Kep wr w') := win_no wr _ R n (T1.out.kep KN.out).ram hn1 hn2 (T1.out.kep KN.out).lR _ _ _ z1 (isl_kep (isl_kep hS.out K1'.out) KN.out) hno.out
            go_wp2_with fail
            refine HW.out.mono ?_
            rintro e w3 ⟨rfl, k3⟩
            have K3 : Hid (Kep w w3) := kep_trans (kep_trans K1'.out KN.out) k3
            clear k3
            go_wp2_with fail
            go_ret
            exact ⟨rfl, K3.out⟩
    · have t1 : decide ((1 : Int) ≤ len1) = true := decide_eq_true hl1
      have t2 : decide ((len1 : Int) ≤ n) = false := decide_eq_false (by omega)
      have hno : Hid (¬ ((1 ≤ z1.length ∧ z1.length ≤ n) ∧ Good z1 n)) := fun g => by have := hzl.out; have := g.1.2; omega
      go_wp2_with fail
      refine wp_loop_rounds 1 ?_
      rw [rounds_succ]
      have KN : Hid (Kep w1 (w1.alloc (.cells #[.slice (some ⟨Rb, 0, none⟩) (64 * n) (64 * n)] 26))) := (Kep.refl _).alloc _
      have HW : Hid (Calls Try.prog 19 #[.pointer (some ⟨p, 0, none⟩), .slice x1 len1 cap1] (w1.alloc (.cells #[.slice (some ⟨Rb, 0, none⟩) (64 * n) (64 * n)] 26)) fun e w' => e = .returned (.tuple #[.pointer none, .int .i64 2]) ∧ Kep (w1.alloc (.cells #[.slice (some ⟨Rb, 0, none⟩) (64 * n) (64 * n)] 26)) w') := win_no (w1.alloc (.cells #[.slice (some ⟨Rb, 0, none⟩) (64 * n) (64 * n)] 26)) _ R n (T1.out.kep KN.out).ram hn1 hn2 (T1.out.kep KN.out).lR _ _ _ z1 (isl_kep (isl_kep hS.out K1'.out) KN.out) hno.out
      go_wp2_with fail
      refine HW.out.mono ?_
      rintro e w3 ⟨rfl, k3⟩
      have K3 : Hid (Kep w w3) := kep_trans (kep_trans K1'.out KN.out) k3
      clear k3
      go_wp2_with fail
      go_ret
      exact ⟨rfl, K3.out⟩
  · have t1 : decide ((1 : Int) ≤ len1) = false := decide_eq_false (by omega)
    have hno : Hid (¬ ((1 ≤ z1.length ∧ z1.length ≤ n) ∧ Good z1 n)) := fun g => by have := hzl.out; have := g.1.1; omega
    go_wp2_with fail
    refine wp_loop_rounds 1 ?_
    rw [rounds_succ]
    have KN : Hid (Kep w1 (w1.alloc (.cells #[.slice (some ⟨Rb, 0, none⟩) (64 * n) (64 * n)] 26))) := (Kep.refl _).alloc _
    have HW : Hid (Calls Try.prog 19 #[.pointer (some ⟨p, 0, none⟩), .slice x1 len1 cap1] (w1.alloc (.cells #[.slice (some ⟨Rb, 0, none⟩) (64 * n) (64 * n)] 26)) fun e w' => e = .returned (.tuple #[.pointer none, .int .i64 2]) ∧ Kep (w1.alloc (.cells #[.slice (some ⟨Rb, 0, none⟩) (64 * n) (64 * n)] 26)) w') := win_no (w1.alloc (.cells #[.slice (some ⟨Rb, 0, none⟩) (64 * n) (64 * n)] 26)) _ R n (T1.out.kep KN.out).ram hn1 hn2 (T1.out.kep KN.out).lR _ _ _ z1 (isl_kep (isl_kep hS.out K1'.out) KN.out) hno.out
    go_wp2_with fail
    refine HW.out.mono ?_
    rintro e w3 ⟨rfl, k3⟩
    have K3 : Hid (Kep w w3) := kep_trans (kep_trans K1'.out KN.out) k3
    clear k3
    go_wp2_with fail
    go_ret
    exact ⟨rfl, K3.out⟩

set_option maxRecDepth 100000 in
theorem lifted (os : Os) (started : os.Started) (H : Type) (enc : TypeId × Value → H) :
    ReturnsInHanded {} Try.checked os 8 .any (Rows.ramWindowsSpec.pre6 enc Try.prog Try.f8 Rows.ramWindowsRow.domain false) (Rows.ramWindowsSpec.post enc Try.prog Try.f8 false true false false) := by
  refine returnsInHanded_of_change (C := Try.checked) own started (by kernel_rfl) Try.func8
    (ChangeSpec.witness6 (enc := enc) (C := Try.checked) false ⟨#[], #[.int .i64 0, .slice none 0 0, .agg #[.int .u32 0, .int .u32 0, .int .u32 0, .int .u32 0]], []⟩ 8 (by kernel_rfl) (by kernel_rfl) (by kernel_rfl) (by kernel_rfl)) ?_
  intro W base args ds gs before hval0 hW hcnd _
  have hval : ∀ (j : Nat) t v, Try.f8.params[j]? = some t → args[j]? = some v → Value.okWide Try.prog W .any base t v := hval0
  have hW' := hW
  obtain ⟨p, q, hA0, hV, rfl, hfz, hnd⟩ := hW
  have hA : DataW.TrodAll enc Try.prog W 0 (fun _ => true) true Try.f8.params.toList args.toList ds p := hA0
  rw [Try.params8] at hA hval
  obtain ⟨v0, vs0, d0, ds0, p0, q0, hargs, rfl, rfl, h0, r0⟩ := trodAll_cons hA
  obtain ⟨v1, vs1, d1, ds1, p1, q1, rfl, rfl, rfl, h1, r1⟩ := trodAll_cons r0
  obtain ⟨v2, vs2, d2, ds2, p2, q2, rfl, rfl, rfl, h2, r2⟩ := trodAll_cons r1
  obtain ⟨rfl, rfl, rfl⟩ := trodAll_nil r2
  obtain rfl : args = #[v0, v1, v2] := by cases args; simp_all
  obtain ⟨rfl, rfl⟩ := trodVars_none hV
  have k0 := h0
  have lt0 : ∀ x ∈ p0, x.block < W.heap.size := by obtain ⟨m, hm⟩ := k0; exact DataW.trod_lt m _ _ _ hm
  obtain ⟨a0, rfl, rfl, rfl, w0⟩ := open_int Try.underlying3 (hval 0 3 v0 rfl rfl) h0
  have k1 := h1
  have lt1 : ∀ x ∈ p1, x.block < W.heap.size := by obtain ⟨m, hm⟩ := k1; exact DataW.trod_lt m _ _ _ hm
  obtain ⟨x1, len1, cap1, z1, rfl, w1⟩ := open_isl Try.underlying51 Try.underlying3 (by kernel_rfl) (hval 1 51 v1 rfl rfl) h1
  have k2 := h2
  have lt2 : ∀ x ∈ p2, x.block < W.heap.size := by obtain ⟨m, hm⟩ := k2; exact DataW.trod_lt m _ _ _ hm
  obtain ⟨zs2, hl2, rfl, hw2⟩ := open_arr Try.underlying60 Try.underlying29 (by kernel_rfl) (by kernel_rfl) (hval 2 60 v2 rfl rfl) h2
  obtain ⟨a2f0, a2f1, a2f2, a2f3, rfl⟩ := list4 zs2 hl2
  clear hA0 hval0
  refine (walk a0 w0 x1 len1 cap1 z1 a2f0 (hw2 _ (by simp)) a2f1 (hw2 _ (by simp)) a2f2 (hw2 _ (by simp)) a2f3 (hw2 _ (by simp)) W w1).mono fun e W' ⟨he, bel0⟩ => ?_
  have bel : Below W.heap.size W W' := bel0
  subst he
  exact ⟨_, rfl, _, _, _, [], _, [], hW', trodAll_mk1 (shut_bool Try.underlying4 _), (trodAll_cons_mk (Below.trod laidOut (by kernel_rfl) (of_decide_eq_true (by kernel_rfl)) k0 bel lt0) (trodAll_cons_mk (Below.trod laidOut (by kernel_rfl) (of_decide_eq_true (by kernel_rfl)) k1 bel lt1) (trodAll_cons_mk (Below.trod laidOut (by kernel_rfl) (of_decide_eq_true (by kernel_rfl)) k2 bel lt2) trodAll_mk0))), rfl, bel.frame _, fun h => by cases h⟩

theorem over : Rows.ramWindowsRow.holds Try.pinned (OpenSpec.ofChange Rows.ramWindowsSpec) :=
  OpenClaim.holds_of_wide 8 Try.f8 rfl rfl rfl rfl rfl rfl rfl ⟨rfl, rfl, rfl, rfl, rfl⟩ rfl rfl rfl rfl rfl (by kernel_rfl) Try.func8 (by kernel_rfl)
    (of_decide_eq_true (by kernel_rfl)) (by unfold Func.isWrapper; first | (rw [if_pos (by decide +kernel)]; kernel_rfl) | (rw [if_neg (by decide +kernel)]; exact ⟨rfl, rfl⟩))
    (fun os started H enc _ => lifted os started H enc)
end Go.Proofs.Ytiegihaagolmdaa.ramWindows
namespace Go.Proofs.Ytiegihaagolmdaa

theorem ramWindows_holds : Rows.RamWindowsSaid := ramWindows.over
#print axioms ramWindows_holds
end Go.Proofs.Ytiegihaagolmdaa
