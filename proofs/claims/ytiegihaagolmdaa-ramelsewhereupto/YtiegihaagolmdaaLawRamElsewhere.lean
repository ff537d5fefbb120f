/- For every number of frames, row of bytes and two addresses that together hold at most 1048576 values, the law RamElsewhere returns true: what is laid at one place is read there, and turns no other byte. -/
import Derived.Test.YtiegihaagolmdaaRows
import Derived.Test.YtiegihaagolmdaaMopen
import Derived.WalkKit
import Derived.ProofKit
import Derived.OpenShut
import Derived.ShutString
import Derived.ChangeOld
import Derived.Below
import Derived.Lib.SmallJoins
import Derived.JoinedCond
namespace Go.Proofs.Ytiegihaagolmdaa.ramElsewhere
open Go.ChangeShapes Go.WideShapes Go.ChangeAt Go.RowKit
set_option linter.unusedVariables false

theorem own : ownKnob Try.prog.godebug = none := by kernel_rfl
theorem laidOut : laidOutB Try.prog = true := by kernel_rfl

def nearN (a : Nat) : Nat := if a % 3 = 0 then a else a % 400
theorem near_is (w : World) (a : Nat) (ha : (a : Int) < 4294967296) :
    Calls Try.prog 20 #[.int .u32 a] w fun e w' => e = .returned (.int .u32 (nearN a)) ∧ w' = w := by
  by_cases h : a % 3 = 0
  · have h5 : ((a : Int) % 3 == 0) = true := by simp; omega
    unfold nearN
    rw [if_pos h]
    go_enter Try.func20, Try.ntmps20
    go_wp2
    go_ret
    exact ⟨rfl, rfl⟩
  · have h5 : ((a : Int) % 3 == 0) = false := by simp; omega
    unfold nearN
    rw [if_neg h]
    go_enter Try.func20, Try.ntmps20
    go_wp2
    go_ret
    exact ⟨rfl, rfl⟩
theorem nearN_lt {a : Nat} (ha : (a : Int) < 4294967296) : (nearN a : Int) < 4294967296 := by unfold nearN; split <;> omega
theorem splice_at (B : List Int) (a : Nat) (zs : List Int) (h : a + zs.length ≤ B.length) (o : Nat) : (splice B a zs).getD o 0 = if a ≤ o ∧ o < a + zs.length then zs.getD (o - a) 0 else B.getD o 0 := by
  have e1 : min a B.length = a := by omega
  unfold splice
  simp only [List.getD, List.getElem?_append, List.length_take, e1, List.getElem?_take, List.getElem?_drop]
  by_cases h1 : o < a
  · simp [h1, show ¬ a ≤ o by omega]
  · by_cases h2 : o < a + zs.length
    · simp [h1, show a ≤ o by omega, h2, show o - a < zs.length by omega]
    · simp only [h1, if_false, show ¬ o - a < zs.length by omega, h2, and_false]
      rw [show a + zs.length + (o - a - zs.length) = o by omega]
theorem short {H : Type} {enc : TypeId × Value → H} {w : World} {base : Nat} {sp : Nat → Bool} {held : Bool} {x : Option Addr} {l c : Nat} {d e0 e2 : DataW H} {p : List MemPlace} (h : DataW.Trod enc Try.prog w base sp held 24 (.slice x l c) d p) (hk : Rows.uptoSmall H [e0, d, e2] = true) : l ≤ 1048576 := by
  have h1 : Rows.uptoBulkAll [e0, d, e2] ≤ 1048576 := of_decide_eq_true hk
  simp only [Rows.uptoBulkAll] at h1
  have len_le : ∀ ls : List (DataW H), ls.length ≤ Rows.uptoBulkAll ls := by
    intro ls
    induction ls with
    | nil => simp [Rows.uptoBulkAll]
    | cons y ys ih =>
      have : 1 ≤ Rows.uptoBulk y := by
        cases y with
        | lit q => cases q <;> simp [Rows.uptoBulk]
        | nil => simp [Rows.uptoBulk]
        | ptr q => simp [Rows.uptoBulk]
        | slice q r => simp [Rows.uptoBulk]
        | agg q => simp [Rows.uptoBulk]
        | iface q r => simp [Rows.uptoBulk]
        | map q => simp [Rows.uptoBulk]
        | held q => simp [Rows.uptoBulk]
      simp only [Rows.uptoBulkAll, List.length_cons]
      omega
  obtain ⟨fuel, hf⟩ := h
  rcases open_ints Try.underlying24 Try.underlying5 (by kernel_rfl) hf with ⟨hcs, hx⟩ | ⟨a, l', c', zs, hcs, _, hl, hm, hz, hx, _⟩
  · simp [Value.cells] at hcs
    omega
  · simp [Value.cells] at hcs
    obtain ⟨rfl, rfl, rfl⟩ := hcs
    have hzl : l ≤ zs.length := by rw [hz]; split <;> omega
    have hd : d = .slice (lits .u8 (zs.take l)) (lits .u8 (zs.drop l)) := by
      have := congrArg Prod.fst hx
      exact this
    subst hd
    simp only [Rows.uptoBulk] at h1
    have h2 := len_le (lits .u8 (zs.take l))
    have h3 : (lits (H := H) .u8 (zs.take l)).length = l := by simp [lits]; omega
    omega

set_option maxHeartbeats 4000000 in
set_option maxRecDepth 100000 in
theorem walk (a0 : Int) (w0 : (Lit.int .i64 a0).wf = true) (x1 : Option Addr) (len1 cap1 : Nat) (z1 : List Int) (a2f0 : Int) (w2f0 : (Lit.int .u32 a2f0).wf = true) (a2f1 : Int) (w2f1 : (Lit.int .u32 a2f1).wf = true) (w : World) (w1 : BSl w x1 len1 cap1 z1) (hs : len1 ≤ 1048576) :
    Calls Try.prog 7 #[.int .i64 a0, .slice x1 len1 cap1, .agg #[.int .u32 a2f0, .int .u32 a2f1]] w fun e w' => e = .returned (.bool true) ∧ Kep w w' := by
  have b0 := i64_of w0
  have b1 := u32_of w2f0
  have b2 := u32_of w2f1
  obtain ⟨a, rfl⟩ : ∃ a : Nat, a2f0 = a := ⟨a2f0.toNat, by omega⟩
  obtain ⟨o, rfl⟩ : ∃ o : Nat, a2f1 = o := ⟨a2f1.toNat, by omega⟩
  have hM : Hid (∀ w, Calls Try.prog 9 #[.int .i64 a0] w fun e w' => ∃ (n p R Rb : Nat), e = .returned (.tuple #[.pointer (some ⟨p, 0, none⟩), refV (some ⟨Rb, 0, none⟩) (64 * n)]) ∧ 1 ≤ n ∧ n ≤ 5 ∧ Two w' (.pointer (some ⟨p, 0, none⟩)) R n (some ⟨Rb, 0, none⟩) Rb (List.replicate (64 * n) 0) ∧ Kep w w' ∧ w.heap.size ≤ R ∧ w.heap.size ≤ Rb) := fun w => made_any w a0 b0.1 b0.2
  have hA : Hid (∀ w, Calls Try.prog 20 #[.int .u32 a] w fun e w' => e = .returned (.int .u32 (nearN a)) ∧ w' = w) := fun w => near_is w a b1.2
  have hO : Hid (∀ w, Calls Try.prog 20 #[.int .u32 o] w fun e w' => e = .returned (.int .u32 (nearN o)) ∧ w' = w) := fun w => near_is w o b2.2
  have hna := nearN_lt b1.2
  have hno := nearN_lt b2.2
  have hS : Hid (BSl w x1 len1 cap1 z1) := w1
  have hs' : (len1 : Int) ≤ 1048576 := by omega
  have hcl : (len1 : Int) ≤ cap1 := by have := w1.2.1; omega
  clear w0 w1 w2f0 w2f1 b0 b1 b2 hs
  generalize nearN a = a' at hA hna
  generalize nearN o = o' at hO hno
  go_enter Try.func7, Try.ntmps7
  go_wp2_with fail
  refine (hM.out _).mono ?_
  rintro e w1 ⟨n, p, R, Rb, rfl, hn1, hn2, T, K1, gR, gRb⟩
  have T1 : Hid (Two w1 (.pointer (some ⟨p, 0, none⟩)) R n (some ⟨Rb, 0, none⟩) Rb (List.replicate (64 * n) 0)) := T
  have bx : w1.heap[w.heap.size]? = some (.cells #[.int .u32 a, .int .u32 o] 57 (0, 0)) := K1.block (hat _ _ _ rfl)
  have lx := block_lt bx
  have c0 : w1.cell? ⟨w.heap.size, 0, none⟩ = some (.int .u32 a) := by rw [cell_of_block bx]; rfl
  have c1 : w1.cell? ⟨w.heap.size, 1, none⟩ = some (.int .u32 o) := by rw [cell_of_block bx]; rfl
  have K1' : Hid (Kep w w1) := kep_trans ((Kep.refl w).alloc _) K1
  have gR' : w.heap.size ≤ R := by simp at gR; omega
  have gRb' : w.heap.size ≤ Rb := by simp at gRb; omega
  clear T K1 hM gR gRb bx
  have d0 : ∀ o2, (w1.alloc o2).cell? ⟨w.heap.size, 0, none⟩ = some (.int .u32 a) := fun _ => (cell_old lx).trans c0
  have d1 : ∀ o2, (w1.alloc o2).cell? ⟨w.heap.size, 1, none⟩ = some (.int .u32 o) := fun _ => (cell_old lx).trans c1
  go_wp2_with fail
  go_quiet (first | (go_at_call_of 20 (Value.int .u32 (a : Int)); exact (hA.out _).mono fun _ _ h => ⟨h.1, _, h.2⟩) | (go_at_call 20; exact (hO.out _).mono fun _ _ h => ⟨h.1, _, h.2⟩))
  have T2 : Two ((w1.alloc (.cells #[.slice (some ⟨Rb, 0, none⟩) (64 * n) (64 * n)] 26)).drewN nq) (.pointer (some ⟨p, 0, none⟩)) R n (some ⟨Rb, 0, none⟩) Rb (List.replicate (64 * n) 0) := T1.out.kep (((Kep.refl _).alloc _).drewN _)
  have K2 : Kep w ((w1.alloc (.cells #[.slice (some ⟨Rb, 0, none⟩) (64 * n) (64 * n)] 26)).drewN nq) := kep_trans K1'.out (((Kep.refl _).alloc _).drewN _)
  generalize ((w1.alloc (.cells #[.slice (some ⟨Rb, 0, none⟩) (64 * n) (64 * n)] 26)).drewN nq) = w2 at T2 K2 ⊢
  clear d0 d1 c0 c1 T1 K1' hA hO lx
  have T2' : Hid (Two w2 (.pointer (some ⟨p, 0, none⟩)) R n (some ⟨Rb, 0, none⟩) Rb (List.replicate (64 * n) 0)) := T2
  have K2' : Hid (Kep w w2) := K2
  have hl : Hid (((List.range n).length : Int) ≤ 512) := by unfold Hid; simp; omega
  have HB : Hid (Calls Try.prog 12 #[.pointer (some ⟨p, 0, none⟩), .int .u32 o', .int .u8 77] w2 _) := setByte_put w2 _ _ _ _ T2.ram hl.out T2.row (fits_range T2.len) o' hno 77
  clear T2 K2
  go_wp2_with fail
  refine HB.out.mono ?_
  rintro e w3 ⟨rfl, P3, R3⟩
  rw [List.length_range] at R3 ⊢
  obtain ⟨B, hB⟩ : ∃ B, B = (if o' < 64 * n then (List.replicate (64 * n) (0 : Int)).set (pos (List.range n) o') 77 else List.replicate (64 * n) 0) := ⟨_, rfl⟩
  rw [← hB] at R3
  have hBl : B.length = 64 * n := by rw [hB]; split <;> simp
  have r3 : Hid (Ram w3 (.pointer (some ⟨p, 0, none⟩)) R (List.range n)) := T2'.out.ram.put P3
  have R3' : Hid (RowB w3 R B) := R3
  have K3 : Hid (Kep w w3) := K2'.out.put P3 (by simpa using gR')
  have S3 : Hid (Src w3 x1 z1 [R]) := (hS.out.2.2.2.1.more (l := [R]) (by simpa using gR')).put (Put.of_kep K3.out)
  have BY : Hid (∀ (w' : World) (C : List Int), Ram w' (.pointer (some ⟨p, 0, none⟩)) R (List.range n) → RowB w' R C → C.length = 64 * n → Calls Try.prog 17 #[.pointer (some ⟨p, 0, none⟩), .int .u32 o'] w' fun e w'' => e = .returned (.tuple #[.int .u8 (if o' < 64 * n then C.getD o' 0 else 0), .bool (decide (o' < 64 * n))]) ∧ w'' = w') := fun w' C hr hw hC => by
    have := byte_any w' _ R _ C hr hl.out hw (fits_range hC) o' hno
    rw [List.length_range] at this
    by_cases h : o' < 64 * n
    · rw [if_pos h, pos_range h] at this
      rw [if_pos h, decide_eq_true h]
      exact this
    · rw [if_neg h] at this
      rw [if_neg h, decide_eq_false h]
      exact this
  have SZ : Hid (∀ w' : World, Ram w' (.pointer (some ⟨p, 0, none⟩)) R (List.range n) → Calls Try.prog 16 #[.pointer (some ⟨p, 0, none⟩)] w' fun e w'' => e = .returned (.int .u32 (64 * n)) ∧ w'' = w') := fun w' hr => by
    have := size_any w' _ _ _ hr hl.out
    rw [List.length_range] at this
    exact this
  have HF : Hid (Calls Try.prog 22 #[.pointer (some ⟨p, 0, none⟩), .int .u32 a', .slice x1 len1 cap1] w3 _) := fill_put w3 _ _ _ B r3.out hl.out R3 (fits_range hBl) a' hna x1 z1 len1 cap1 hS.out.1 hS.out.2.1 hS.out.2.2.1 S3.out
  have hBl' : Hid (B.length = 64 * n) := hBl
  have B3 : Hid (Calls Try.prog 17 #[.pointer (some ⟨p, 0, none⟩), .int .u32 o'] w3 fun e w'' => e = .returned (.tuple #[.int .u8 (if o' < 64 * n then B.getD o' 0 else 0), .bool (decide (o' < 64 * n))]) ∧ w'' = w3) := BY.out w3 B r3.out R3 hBl
  clear P3 R3 HB hB hBl T2' K2' S3
  generalize hwas : (if o' < 64 * n then B.getD o' 0 else 0) = was at B3
  have hwas' : Hid ((if o' < 64 * n then B.getD o' 0 else 0) = was) := hwas
  clear hwas
  go_wp2_with (go_at_call 17; refine B3.out.mono ?_; rintro e w4 ⟨rfl, rfl⟩)
  rename World => w4
  refine HF.out.mono ?_
  rintro e w5 ⟨rfl, P5, R5⟩
  rw [List.length_range] at R5 ⊢
  have r5 : Hid (Ram w5 (.pointer (some ⟨p, 0, none⟩)) R (List.range n)) := r3.out.put P5
  have K5 : Hid (Kep w w5) := K3.out.put P5 (by simpa using gR')
  have SZ5 : Hid (Calls Try.prog 16 #[.pointer (some ⟨p, 0, none⟩)] w5 fun e w'' => e = .returned (.int .u32 (64 * n)) ∧ w'' = w5) := SZ.out w5 r5.out
  have hn1' : (1 : Int) ≤ n := by omega
  have hn2' : (n : Int) ≤ 5 := by omega
  by_cases hfit : a' + len1 ≤ 64 * n
  · rw [if_pos hfit] at R5
    rw [decide_eq_true hfit]
    have hzl : z1.length = len1 := hS.out.1
    rw [layL_range z1 B a' hBl'.out (by omega)] at R5
    have B5 := BY.out w5 _ r5.out R5 (by rw [length_splice _ _ _ (by have := hBl'.out; omega)]; exact hBl'.out)
    rw [splice_at B a' z1 (by have := hBl'.out; omega), hzl] at B5
    have hfit' : (a' : Int) + len1 ≤ 64 * n := by omega
    by_cases hin : a' ≤ o' ∧ o' < a' + len1
    · rw [if_pos hin, if_pos (by omega), decide_eq_true (by omega : o' < 64 * n)] at B5
      rw [decide_eq_true (by omega : o' < 64 * n)]
      rcases hS.out.2.2.2.1.put (Put.of_kep K5.out) with e | ⟨b, off, rfl, hb, _, hcell⟩
      · rw [e] at hzl; simp at hzl; omega
      have d := hcell (o' - a') (by omega)
      generalize z1.getD (o' - a') 0 = y at d B5
      have B5' : Hid (Calls Try.prog 17 #[.pointer (some ⟨p, 0, none⟩), .int .u32 o'] w5 fun e w'' => e = .returned (.tuple #[.int .u8 y, .bool true]) ∧ w'' = w5) := B5
      have g1 : (a' : Int) ≤ o' := by omega
      have g2 : (o' : Int) < 64 * n := by omega
      have g3 : (o' : Int) - a' < len1 := by omega
      have g4 : decide ((a' : Int) ≤ (o' : Int)) = true := decide_eq_true g1
      have g5 : decide ((o' : Int) < 64 * (n : Int)) = true := decide_eq_true g2
      have g6 : decide ((o' : Int) - a' < (len1 : Int)) = true := decide_eq_true g3
      clear B5 R5 P5 HF BY SZ hwas' B3 hin hfit hcell hna hno
      go_wp2_with (first | (go_at_call 17; refine B5'.out.mono ?_; rintro e w6 ⟨rfl, rfl⟩) | (go_at_call 16; refine SZ5.out.mono ?_; rintro e w6 ⟨rfl, rfl⟩))
      go_ret
      exact ⟨rfl, K5.out⟩
    · have e1 : (if o' < 64 * n then (if a' ≤ o' ∧ o' < a' + len1 then z1.getD (o' - a') 0 else B.getD o' 0) else 0) = was := by rw [if_neg hin]; exact hwas'.out
      rw [e1] at B5
      have B5' : Hid (Calls Try.prog 17 #[.pointer (some ⟨p, 0, none⟩), .int .u32 o'] w5 fun e w'' => e = .returned (.tuple #[.int .u8 was, .bool (decide (o' < 64 * n))]) ∧ w'' = w5) := B5
      clear B5 R5 P5 HF BY SZ hwas' B3 e1
      generalize hok : decide (o' < 64 * n) = ok at B5' ⊢
      rcases (by omega : o' < a' ∨ (a' ≤ o' ∧ 64 * n ≤ o') ∨ (a' ≤ o' ∧ o' < 64 * n ∧ a' + len1 ≤ o')) with h | ⟨h, h'⟩ | ⟨h, h', h''⟩
      · have g1 : (o' : Int) < a' := by omega
        have g4 : decide ((a' : Int) ≤ (o' : Int)) = false := decide_eq_false (by omega)
        clear h hin hfit hok hna hno
        go_wp2_with (first | (go_at_call 17; refine B5'.out.mono ?_; rintro e w6 ⟨rfl, rfl⟩) | (go_at_call 16; refine SZ5.out.mono ?_; rintro e w6 ⟨rfl, rfl⟩))
        go_ret
        exact ⟨rfl, K5.out⟩
      · have g1 : (a' : Int) ≤ o' := by omega
        have g2 : (64 * n : Int) ≤ o' := by omega
        have g4 : decide ((a' : Int) ≤ (o' : Int)) = true := decide_eq_true g1
        have g5 : decide ((o' : Int) < 64 * (n : Int)) = false := decide_eq_false (by omega)
        clear h h' hin hfit hok hna
        go_wp2_with (first | (go_at_call 17; refine B5'.out.mono ?_; rintro e w6 ⟨rfl, rfl⟩) | (go_at_call 16; refine SZ5.out.mono ?_; rintro e w6 ⟨rfl, rfl⟩))
        go_ret
        exact ⟨rfl, K5.out⟩
      · have g1 : (a' : Int) ≤ o' := by omega
        have g2 : (o' : Int) < 64 * n := by omega
        have g3 : (len1 : Int) ≤ (o' : Int) - a' := by omega
        have g4 : decide ((a' : Int) ≤ (o' : Int)) = true := decide_eq_true g1
        have g5 : decide ((o' : Int) < 64 * (n : Int)) = true := decide_eq_true g2
        have g6 : decide ((o' : Int) - a' < (len1 : Int)) = false := decide_eq_false (by omega)
        clear h h' h'' hin hfit hok hno hna
        go_wp2_with (first | (go_at_call 17; refine B5'.out.mono ?_; rintro e w6 ⟨rfl, rfl⟩) | (go_at_call 16; refine SZ5.out.mono ?_; rintro e w6 ⟨rfl, rfl⟩))
        go_ret
        exact ⟨rfl, K5.out⟩
  · rw [if_neg hfit] at R5
    rw [decide_eq_false hfit]
    have B5 := BY.out w5 B r5.out R5 hBl'.out
    rw [hwas'.out] at B5
    have B5' : Hid (Calls Try.prog 17 #[.pointer (some ⟨p, 0, none⟩), .int .u32 o'] w5 fun e w'' => e = .returned (.tuple #[.int .u8 was, .bool (decide (o' < 64 * n))]) ∧ w'' = w5) := B5
    generalize decide (o' < 64 * n) = ok at B5' ⊢
    clear B5 R5 P5 HF BY SZ hwas' B3
    rcases (by omega : 64 * n < a' ∨ (a' ≤ 64 * n ∧ 64 * n < a' + len1)) with h | ⟨h, h'⟩
    · have g1 : (64 * n : Int) < a' := by omega
      have g2 : decide ((64 * n : Int) < (a' : Int)) = true := decide_eq_true g1
      clear h hfit
      go_wp2_with (first | (go_at_call 17; refine B5'.out.mono ?_; rintro e w6 ⟨rfl, rfl⟩) | (go_at_call 16; refine SZ5.out.mono ?_; rintro e w6 ⟨rfl, rfl⟩))
      go_ret
      exact ⟨rfl, K5.out⟩
    · have g1 : (a' : Int) ≤ 64 * n := by omega
      have g3 : (64 * n : Int) < a' + len1 := by omega
      have g2 : decide ((64 * n : Int) < (a' : Int)) = false := decide_eq_false (by omega)
      have g4 : decide ((64 * n : Int) - a' < (len1 : Int)) = true := decide_eq_true (by omega)
      clear h h' hfit
      go_wp2_with (first | (go_at_call 17; refine B5'.out.mono ?_; rintro e w6 ⟨rfl, rfl⟩) | (go_at_call 16; refine SZ5.out.mono ?_; rintro e w6 ⟨rfl, rfl⟩))
      go_ret
      exact ⟨rfl, K5.out⟩

set_option maxRecDepth 100000 in
theorem lifted (os : Os) (started : os.Started) (H : Type) (enc : TypeId × Value → H) (F : Stop.Interp) :
    ReturnsInHanded {} Try.checked os 7 .any ((Rows.OpenSpec.upto Rows.ramElsewhereSpec).pre6 enc Try.prog Try.f7 Rows.ramElsewhereUptoRow.domain false) (((Rows.OpenSpec.upto Rows.ramElsewhereSpec).at F).post enc Try.prog Try.f7 false true false false) := by
  refine returnsInHanded_of_cond (C := Try.checked) (s := Rows.OpenSpec.upto Rows.ramElsewhereSpec) (k := Rows.uptoSmall) rfl own started (by kernel_rfl) Try.func7
    (OpenSpec.witness (enc := enc) (C := Try.checked) (s := Rows.OpenSpec.upto Rows.ramElsewhereSpec) (k := Rows.uptoSmall) rfl false ⟨#[], #[.int .i64 0, .slice none 0 0, .agg #[.int .u32 0, .int .u32 0]], []⟩ 8 (by kernel_rfl) (by kernel_rfl) (by kernel_rfl)
      (x := ([.lit (.int .i64 0), .nil, .agg [.lit (.int .u32 0), .lit (.int .u32 0)]], [], [])) (by kernel_rfl) rfl (by kernel_rfl)) ?_
  intro W base args ds gs before hval0 hW hcnd hk _
  have hval : ∀ (j : Nat) t v, Try.f7.params[j]? = some t → args[j]? = some v → Value.okWide Try.prog W .any base t v := hval0
  have hW' := hW
  obtain ⟨p, q, hA0, hV, rfl, hfz, hnd⟩ := hW
  have hA : DataW.TrodAll enc Try.prog W 0 (fun _ => true) true Try.f7.params.toList args.toList ds p := hA0
  rw [Try.params7] at hA hval
  obtain ⟨v0, vs0, d0, ds0, p0, q0, hargs, rfl, rfl, h0, r0⟩ := trodAll_cons hA
  obtain ⟨v1, vs1, d1, ds1, p1, q1, rfl, rfl, rfl, h1, r1⟩ := trodAll_cons r0
  obtain ⟨v2, vs2, d2, ds2, p2, q2, rfl, rfl, rfl, h2, r2⟩ := trodAll_cons r1
  obtain ⟨rfl, rfl, rfl⟩ := trodAll_nil r2
  obtain rfl : args = #[v0, v1, v2] := by cases args; simp_all
  obtain ⟨rfl, rfl⟩ := trodVars_none hV
  have k0 := h0
  have lt0 : ∀ x ∈ p0, x.block < W.heap.size := by obtain ⟨m, hm⟩ := k0; exact DataW.trod_lt m _ _ _ hm
  obtain ⟨a0, rfl, rfl, rfl, w0⟩ := open_int Try.underlying3 (hval 0 3 v0 rfl rfl) h0
  have k1 := h1
  have lt1 : ∀ x ∈ p1, x.block < W.heap.size := by obtain ⟨m, hm⟩ := k1; exact DataW.trod_lt m _ _ _ hm
  obtain ⟨x1, len1, cap1, z1, rfl, w1⟩ := open_bsl (hval 1 24 v1 rfl rfl) h1
  have k2 := h2
  have lt2 : ∀ x ∈ p2, x.block < W.heap.size := by obtain ⟨m, hm⟩ := k2; exact DataW.trod_lt m _ _ _ hm
  obtain ⟨zs2, hl2, rfl, hw2⟩ := open_arr Try.underlying57 Try.underlying29 (by kernel_rfl) (by kernel_rfl) (hval 2 57 v2 rfl rfl) h2
  obtain ⟨a2f0, a2f1, rfl⟩ := list2 zs2 hl2
  simp only [List.append_nil] at hk
  clear hA0 hval0
  refine (walk a0 w0 x1 len1 cap1 z1 a2f0 (hw2 _ (by simp)) a2f1 (hw2 _ (by simp)) W w1 (short k1 hk)).mono fun e W' ⟨he, bel0⟩ => ?_
  have bel : Below W.heap.size W W' := bel0
  subst he
  exact ⟨_, rfl, _, _, _, [], _, [], hW', trodAll_mk1 (shut_bool Try.underlying4 _), (trodAll_cons_mk (Below.trod laidOut (by kernel_rfl) (of_decide_eq_true (by kernel_rfl)) k0 bel lt0) (trodAll_cons_mk (Below.trod laidOut (by kernel_rfl) (of_decide_eq_true (by kernel_rfl)) k1 bel lt1) (trodAll_cons_mk (Below.trod laidOut (by kernel_rfl) (of_decide_eq_true (by kernel_rfl)) k2 bel lt2) trodAll_mk0))), rfl, bel.frame _, fun h => by cases h⟩

theorem over : Rows.ramElsewhereUptoRow.holds Try.pinned (Rows.OpenSpec.upto Rows.ramElsewhereSpec) :=
  OpenClaim.holds_of_cond 7 Try.f7 rfl rfl rfl rfl rfl rfl rfl ⟨rfl, rfl, rfl, rfl, rfl⟩ rfl rfl rfl rfl rfl (by kernel_rfl) Try.func7 (by kernel_rfl)
    (of_decide_eq_true (by kernel_rfl)) (by unfold Func.isWrapper; first | (rw [if_pos (by decide +kernel)]; kernel_rfl) | (rw [if_neg (by decide +kernel)]; exact ⟨rfl, rfl⟩))
    (fun os started H enc _ F => lifted os started H enc F)
end Go.Proofs.Ytiegihaagolmdaa.ramElsewhere
namespace Go.Proofs.Ytiegihaagolmdaa

theorem ramElsewhere_holds : Rows.RamElsewhereUptoSaid := ramElsewhere.over
#print axioms ramElsewhere_holds
end Go.Proofs.Ytiegihaagolmdaa
