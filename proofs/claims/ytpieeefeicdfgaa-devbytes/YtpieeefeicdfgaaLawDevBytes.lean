/- For every row of bytes and every number, the law DevBytes returns true: what is read is what was typed, in order. -/
import Derived.Test.YtpieeefeicdfgaaRows
import Derived.Test.YtpieeefeicdfgaaVbyt
import Derived.WalkKit
import Derived.ProofKit
import Derived.OpenShut
import Derived.ShutString
import Derived.ChangeOld
import Derived.Below
import Derived.Lib.SmallJoins
namespace Go.Proofs.Ytpieeefeicdfgaa.devBytes
open Go.ChangeShapes Go.WideShapes Go.ChangeAt Go.RowKit
set_option linter.unusedVariables false
set_option linter.unusedSimpArgs false

theorem own : ownKnob Try.prog.godebug = none := by kernel_rfl
theorem laidOut : laidOutB Try.prog = true := by kernel_rfl

/-- The script as far as it is made. -/
def Scr (w : World) (T : List Int) (k : Nat) (v : Value) (wr : World) : Prop := ∃ G, Sli wr 74 3 v k (evs (scr T k)) G ∧ (∀ g ∈ G, w.heap.size ≤ g) ∧ Kep w wr
/-- What was read, and what waits to be. -/
def RdQ (w : World) (p : Nat) (E : List Ev) (T : List Int) (n : Nat) (v : Value) (wr : World) : Prop := ∃ B Q, B.length = n ∧ B ++ Q = T ∧ GotQ w p E B Q v wr
def slen (v : Value) : Nat := match v with
  | .slice _ n _ => n
  | _ => 0

set_option maxHeartbeats 8000000 in
set_option maxRecDepth 100000 in
theorem walk (x0 : Option Addr) (len0 cap0 : Nat) (z0 : List Int) (a1 : Int) (w1 : (Lit.int .u8 a1).wf = true) (w : World) (w0 : BSl w x0 len0 cap0 z0) :
    Calls Try.prog 7 #[.slice x0 len0 cap0, .int .u8 a1] w fun e w' => e = .returned (.bool true) ∧ Kep w w' := by
  have hM : Hid (∀ w, Calls Try.prog 11 #[] w fun e w' => e = .returned (.bool true) ∧ Kep w w') := works11_any
  have ha1 : 0 ≤ a1 ∧ a1 < 256 := by simp [Lit.wf, IntKind.min, IntKind.max, IntKind.signed, IntKind.bits] at w1; omega
  obtain ⟨hz, hzc, hzm, hsrc, hzb⟩ := id w0
  have hL0 := BSl.lies w0
  obtain ⟨i0, hi, hy0, hy1, hy2⟩ := info_parts info_ev
  obtain ⟨j0, hj, hb0, hb1, hb2⟩ := info_parts vinfo_u8
  rcases Nat.lt_or_ge 30 len0 with hbig | hbig
  case' inl =>
    rcases hsrc with hsrc | ⟨b0, off0, hx, -, -, -⟩
    · subst hsrc; simp at hz; omega
    subst hx
    have HL : Hid (Lies w (some ⟨b0, off0, none⟩) (byt (z0.take 30)) ∧ (z0.take 30).length = 30 ∧ Byts (z0.take 30)) := by
      refine ⟨?_, by simp; omega, fun b hb => hzb b (List.mem_of_mem_take hb)⟩
      rcases hL0 with h0 | ⟨b, off, e, hb, hc⟩
      · exact .inl (by have := congrArg List.length h0; rw [byt_len] at this; simp at this; subst this; rfl)
      · refine .inr ⟨b, off, e, hb, fun j u hj => hc j u ?_⟩
        have hj' : j < 30 := by have := (List.getElem?_eq_some_iff.1 hj).1; rw [byt_len] at this; simp at this; omega
        rw [byt_at] at hj ⊢
        rw [List.getElem?_take_of_lt hj'] at hj; exact hj
    generalize z0.take 30 = T at HL
    have hcap : (30 : Int) ≤ cap0 := by omega
    have hd0 : decide ((30 : Int) < len0) = true := decide_eq_true (by omega)
    have hlc : (len0 : Int) ≤ cap0 := by omega
    clear w0 hz hL0 hzb hbig
    go_enter Try.func7, Try.ntmps7
    go_wp2_with fail
    obtain ⟨L, hL30⟩ : ∃ L : Nat, L = 30 := ⟨30, rfl⟩
    have hsv : Value.slice (some ⟨b0, off0, none⟩) 30 cap0 = .slice (some ⟨b0, off0, none⟩) L cap0 := by rw [hL30]
    rw [hsv]
    rw [← hL30] at HL
    have hL : (L : Int) ≤ 30 := by omega
    have hcap' : (L : Int) ≤ cap0 := by omega
    clear hcap
    have hcap := hcap'
    clear hcap' hlc hd0 hzc hL30 hsv
    generalize hx0 : (some ⟨b0, off0, none⟩ : Option Addr) = x0 at HL ⊢
    clear hx0
  case' inr =>
    have HL : Hid (Lies w x0 (byt z0) ∧ z0.length = len0 ∧ Byts z0) := ⟨hL0, hz, hzb⟩
    generalize z0 = T at HL
    have hd0 : decide ((30 : Int) < len0) = false := decide_eq_false (by omega)
    have hL : (len0 : Int) ≤ 30 := by omega
    have hcap : (len0 : Int) ≤ cap0 := by omega
    clear w0 hz hL0 hsrc hzb hbig hzc
    generalize len0 = L at *
    go_enter Try.func7, Try.ntmps7
    go_wp2_with fail
  all_goals
    go_loopw [5, 6] (fun v i wr => ∃ (k : Nat) (xs : Option Addr) (cs : Nat), v = .slice xs k cs ∧ i = .int .i64 k ∧ (k : Int) ≤ L ∧ (k : Int) ≤ cs ∧ (cs : Int) ≤ 9223372036854775807 ∧ Hid (Scr w T k (.slice xs k cs) wr)) (fun _ i _ => 100 - (intOf i).toNat)
    case atStart => exact ⟨0, none, 0, rfl, rfl, by omega, by omega, by omega, ⟨[], Sli.nil _ _ _, by simp, Kep.refl _⟩⟩
    case round =>
      obtain ⟨k, xs, cs, rfl, rfl, hk, hkc, hcm, A⟩ := hrel
      by_cases hlt : (k : Int) < L
      · obtain ⟨hlies, hTl, _⟩ := HL.out
        obtain ⟨b, off, hx, hc⟩ : ∃ b off : Nat, x0 = some ⟨b, off, none⟩ ∧ wr.cell? ⟨b, off + k, none⟩ = some (.int .u8 (T.getD k 0)) := by
          obtain ⟨_, _, _, K⟩ := A.out
          have hkT : k < T.length := by omega
          rcases hlies.kep K with h0 | ⟨b, off, e, _, hc⟩
          · have := congrArg List.length h0; rw [byt_len] at this; simp at this; subst this; simp at hTl; omega
          · exact ⟨b, off, e, hc _ _ (by rw [byt_at]; simp [List.getD, hkT])⟩
        subst hx
        have hS : Hid (scr T (k + 1) = scr T k ++ [((k : Int), 1, T.getD k 0)]) := scr_succ T k
        generalize T.getD k 0 = y at hc hS
        have A2 : Hid (Scr w T k (.slice xs k cs) (wr.alloc (.cells #[.int .i64 k, .int .i64 1, .int .u8 y] 74))) := by
          obtain ⟨G, h1, h2, h3⟩ := A.out
          exact ⟨G, h1.kep ((Kep.refl _).alloc _), h2, h3.alloc _⟩
        obtain ⟨G, hsl, hG, KA⟩ := A2.out
        have HG : Hid _ := hG
        have HK : Hid _ := KA
        clear hG KA A2
        go_wp2_with (at_builtin; refine wpList_append_sli rfl (.tmp 22) (.tmp 29) 22 rfl 74 i0 _ 3 24 Try.underlying22 hi hy0 hy1 hy2 rfl (by decide) _ k (evs (scr T k)) G rfl hsl ⟨wr.heap.size, 0, none⟩ 1 (evV ((k : Int), 1, y)) rfl rfl (cell_news3 (o := ((k : Int), 1, y))) (by simp [evV, Value.oneCell']) (by unfold maxLen; omega) (by omega) ?_; intro v' w1 G1 S1 P1 H1; obtain ⟨x1, c1, hv', _, hle1, hmx1, _⟩ := S1.out.lies; subst hv')
        go_roundw
        case rel =>
          refine ⟨k + 1, x1, c1, by go_num, by go_num, by omega, by omega, by unfold maxLen at hmx1; omega, G1, ?_, ?_, Kep.put HK.out P1.out HG.out⟩
          · rw [hS.out, evs_append]; simpa [evs] using S1.out
          · intro g hg
            rcases H1.out g hg with h | h
            · exact HG.out g h
            · have := HK.out.size; omega
        case measure => simp [intOf]; omega
      · obtain rfl : L = k := by omega
        have HN : Hid (Calls Try.prog 9 #[.slice xs L cs, .slice none 0 0] wr fun e w' => ∃ p F, e = .returned (.tuple #[.pointer (some ⟨p, 0, none⟩), .int .i64 0]) ∧ Dev w' p (ds0 (scr T L) []) F ∧ Kep wr w' ∧ ∀ g ∈ F, wr.heap.size ≤ g) := by
          obtain ⟨G, hsl, hG, K⟩ := A.out
          obtain ⟨x1, c1, hv, hlies, _⟩ := hsl.lies
          cases hv
          exact vnew_ok wr xs L cs (scr T L) (scr_len T L) (by omega) hlies none 0 0 [] rfl (Nat.le_refl _) (by decide) (.inl rfl) (scr_ok T L (by omega))
        have okD : Hid (ds0 (scr T L) []).Ok := ds0_ok (scr_ok T L (by omega)) (scr_byte T L HL.out.2.2) byts_nil
        have K0 : Hid (Kep w wr) := by obtain ⟨_, _, _, K⟩ := A.out; exact K
        go_wp2_with fail
        refine HN.out.mono ?_
        rintro e w2 ⟨p, F, rfl, d2, k2, f2⟩
        have A2 : Hid (RdQ w p ((scr T L).drop 0) (T.take 0) 0 (.slice none 0 0) w2) := ⟨[], [], rfl, rfl, _, F, [], d2, okD.out, rfl, rfl, Sli.nil _ _ _, fun g hg => Nat.le_trans K0.out.size (f2 g hg), by simp, by simp, kep_trans K0.out k2⟩
        clear d2 k2 f2 HN okD A K0 hlt
        go_wp2_with fail
        go_loopw [9, 10] (fun v i wr => ∃ (k n cg : Nat) (xg : Option Addr), v = .slice xg n cg ∧ i = .int .i64 k ∧ (k : Int) ≤ 40 ∧ (n : Int) ≤ 30 ∧ (n : Int) ≤ cg ∧ (cg : Int) ≤ 9223372036854775807 ∧ Hid (RdQ w p ((scr T L).drop k) (T.take k) n (.slice xg n cg) wr)) (fun _ i _ => 100 - (intOf i).toNat)
        case atStart => exact ⟨0, 0, 0, none, rfl, rfl, by omega, by omega, by omega, by omega, A2⟩
        case round =>
          obtain ⟨k, n, cg, xg, rfl, rfl, hk, hn, hnc, hcgm, A⟩ := hrel
          clear A2
          by_cases hlt : (k : Int) < 40
          · obtain ⟨B, Q, hB, hBQ, hG⟩ := A.out
            have hTl := HL.out.2.1
            have hlen : n + Q.length ≤ 30 := by have := congrArg List.length hBQ; simp at this; omega
            have HC := GotQ.come hTl (by omega) hG (by omega)
            have hBQ' : B ++ (Q ++ (if k < T.length then [T.getD k 0] else [])) = T.take (k + 1) := by rw [← List.append_assoc, hBQ, ← take_oneMore]
            generalize Q ++ (if k < T.length then [T.getD k 0] else []) = Q2 at HC hBQ'
            have HC' : Hid (Calls Try.prog 20 #[.pointer (some ⟨p, 0, none⟩), .int .i64 k, .pointer none] wr fun e W => (∃ vc vw, e = .returned (.tuple #[vc, vw])) ∧ GotQ w p ((scr T L).drop (k + 1)) B Q2 (.slice xg n cg) W) := HC
            have HBQ : Hid (B ++ Q2 = T.take (k + 1)) := hBQ'
            have HB : Hid (B.length = n) := hB
            have hnQ : (n : Int) + (Q2.length : Nat) ≤ 30 := by have := congrArg List.length hBQ'; simp at this; omega
            clear hG HC hBQ hBQ' hB A hlen hTl
            go_wp2_with fail
            refine HC'.out.mono ?_
            rintro e w3 ⟨⟨vc, vw, rfl⟩, a3⟩
            have A3 : Hid (GotQ w p ((scr T L).drop (k + 1)) B Q2 (.slice xg n cg) w3) := a3
            have HI := a3.in1
            clear HC' a3
            cases Q2 with
            | nil =>
              have HI' : Hid (Calls Try.prog 15 #[.pointer (some ⟨p, 0, none⟩), .int .i64 1] w3 fun e W => e = .returned (.int .u32 0) ∧ W = w3) := HI
              clear HI
              go_wp2_with (go_at_call 15; refine HI'.out.mono ?_; rintro e w4 ⟨rfl, rfl⟩)
              all_goals
                go_roundw
                case rel => exact ⟨k + 1, n, cg, xg, rfl, by go_num, by omega, hn, hnc, hcgm, B, [], HB.out, HBQ.out, A3.out⟩
                case measure => simp [intOf]; omega
            | cons c r =>
              have hcb := A3.out.byts c (by simp)
              have hcm : c % 256 = c := by omega
              obtain ⟨q, hq⟩ : ∃ q : Int, q = ((c :: r).length : Nat) := ⟨_, rfl⟩
              have hq0 : 0 < q := by simp at hq; omega
              have hqd : decide (0 < q) = true := decide_eq_true hq0
              have HI' : Hid (Calls Try.prog 15 #[.pointer (some ⟨p, 0, none⟩), .int .i64 1] w3 fun e W => e = .returned (.int .u32 q) ∧ W = w3) := by rw [hq]; exact HI
              have HR : Hid (Calls Try.prog 21 #[.pointer (some ⟨p, 0, none⟩), .int .i64 0] w3 fun e W => e = .returned (.int .u32 c) ∧ GotQ w p ((scr T L).drop (k + 1)) B r (.slice xg n cg) W) := A3.out.read
              have hn29 : (n : Int) < 30 := by simp only [List.length_cons] at hnQ; omega
              clear HI hq hnQ
              go_wp2_with (first
                | (go_at_call 15; refine HI'.out.mono ?_; rintro e w4 ⟨rfl, rfl⟩)
                | (go_at_call 21; refine HR.out.mono ?_; rintro e w5 ⟨rfl, a5⟩; have A5 : Hid _ := a5.kep ((Kep.refl _).alloc (.cells #[.int .u8 c] 5)); clear a5; obtain ⟨s5, F5, G5, d5, ok5, e5, q5, hsl0, f5, g5, n5, k5⟩ := A5.out; have D5 : Hid _ := d5; have O5 : Hid _ := ok5; have F5' : Hid _ := f5; have G5' : Hid _ := g5; have N5 : Hid _ := n5; have K5 : Hid _ := k5; have E5 : Hid _ := e5; have Q5 : Hid _ := q5; have hsl := hsl0; rw [HB.out] at hsl; clear d5 ok5 f5 g5 n5 k5 e5 q5 hsl0)
                | (at_builtin; refine wpList_append_sli rfl (.tmp 56) (.tmp 60) 23 rfl 5 j0 _ 1 1 Try.underlying23 hj hb0 hb1 hb2 rfl (by decide) _ n (byt B) G5 rfl hsl ⟨w5.heap.size, 0, none⟩ 1 [.int .u8 c] rfl rfl cell_news (by simp [Value.oneCell']) (by unfold maxLen; omega) (by omega) ?_; intro v' w1 G1 S1 P1 H1; obtain ⟨x1, c1, hv', _, hle1, hmx1, _⟩ := S1.out.lies; subst hv'))
              all_goals
                go_roundw
                case rel =>
                  first
                    | exact ⟨k + 1, n + 1, c1, x1, by go_num, by go_num, by omega, by omega, by omega, by unfold maxLen at hmx1; omega, B ++ [c], r, by have := HB.out; simp; omega, by rw [List.append_assoc]; exact HBQ.out,
                        s5, F5, G1, Dev.put D5.out P1.out N5.out, O5.out, E5.out, Q5.out, by have := S1.out; rw [show (B ++ [c]).length = n + 1 by have := HB.out; simp; omega]; simpa [byt] using this, F5'.out, fun g hg => (H1.out g hg).elim (G5'.out g) (fun h => Nat.le_trans (Kep.size K5.out) h), fun g hg hg' => (H1.out g hg').elim (N5.out g hg) (fun h => by have := Dev.lt D5.out g hg; omega), Kep.put K5.out P1.out G5'.out⟩
                    | exact ⟨k + 1, n, cg, xg, rfl, by go_num, by omega, hn, hnc, hcgm, B, c :: r, HB.out, HBQ.out, A3.out⟩
                case measure => simp [intOf]; omega
          · obtain rfl : k = 40 := by omega
            obtain ⟨E0, hE0⟩ : ∃ E0, E0 = (scr T L).drop 40 := ⟨_, rfl⟩
            have A4 : Hid (RdQ w p E0 T n (.slice xg n cg) wr) := by
              have := A.out
              rw [List.take_of_length_le (by have := HL.out.2.1; omega), ← hE0] at this; exact this
            clear A hE0 hlt hk
            go_wp2_with fail
            go_loopw [9] (fun v wr => ∃ (n cg : Nat) (xg : Option Addr), v = .slice xg n cg ∧ (n : Int) ≤ 30 ∧ (n : Int) ≤ cg ∧ (cg : Int) ≤ 9223372036854775807 ∧ Hid (RdQ w p E0 T n (.slice xg n cg) wr)) (fun v _ => 100 - slen v)
            case atStart => exact ⟨n, cg, xg, rfl, hn, hnc, hcgm, A4⟩
            case round =>
              clear A4 hn hnc hcgm
              obtain ⟨n, cg, xg, rfl, hn, hnc, hcgm, A⟩ := hrel
              obtain ⟨B, Q2, hB, hBQ, hG⟩ := A.out
              have A3 : Hid (GotQ w p E0 B Q2 (.slice xg n cg) wr) := hG
              have HI := hG.in1
              have HBQ : Hid (B ++ Q2 = T) := hBQ
              have HB : Hid (B.length = n) := hB
              have hTl := HL.out.2.1
              have hnQ : (n : Int) + (Q2.length : Nat) ≤ 30 := by have := congrArg List.length hBQ; simp at this; omega
              clear A hG hBQ hB hTl
              cases Q2 with
              | nil =>
                have HI' : Hid (Calls Try.prog 15 #[.pointer (some ⟨p, 0, none⟩), .int .i64 1] wr fun e W => e = .returned (.int .u32 0) ∧ W = wr) := HI
                have HR : Hid (Calls Try.prog 21 #[.pointer (some ⟨p, 0, none⟩), .int .i64 0] wr fun e W => e = .returned (.int .u32 4294967295) ∧ Kep w W) := A3.out.read.mono (by rintro e W ⟨rfl, h⟩; exact ⟨rfl, h.world⟩)
                have hBT : B = T := by have := HBQ.out; simpa using this
                have y1 : Sem.run Try.prog (convert 23 9 (.slice xg n cg)) wr = .ok (.string (strL T)) wr := by
                  obtain ⟨s, F, G, _, _, _, _, sl, _⟩ := A3.out
                  rw [hBT] at sl
                  exact sl.str wr (Kep.refl _)
                have y2 : Sem.run Try.prog (convert 23 9 (.slice x0 L cap0)) wr = .ok (.string (strL T)) wr := by
                  obtain ⟨h1, h2, _⟩ := HL.out
                  have := (Lies.strAny (cap := cap0) h1) wr A3.out.world
                  rw [h2] at this; exact this
                generalize strL T = st at y1 y2
                clear HI hnQ hBT
                go_wp2_with (first
                  | (go_at_call 15; refine HI'.out.mono ?_; rintro e w4 ⟨rfl, rfl⟩)
                  | (go_at_call 21; refine HR.out.mono ?_; rintro e w5 ⟨rfl, k5⟩; have K5 : Hid (Kep w w5) := k5; clear k5)
                  | (go_at_call 11; refine (hM.out _).mono ?_; rintro e w6 ⟨rfl, k6⟩; have K6 : Hid (Kep w w6) := kep_trans K5.out k6; clear k6))
                go_ret
                exact ⟨rfl, K6.out⟩
              | cons c r =>
                have hcb := A3.out.byts c (by simp)
                have hcm : c % 256 = c := by omega
                obtain ⟨q, hq⟩ : ∃ q : Int, q = ((c :: r).length : Nat) := ⟨_, rfl⟩
                have hq0 : 0 < q := by simp at hq; omega
                have hqd : decide (0 < q) = true := decide_eq_true hq0
                have HI' : Hid (Calls Try.prog 15 #[.pointer (some ⟨p, 0, none⟩), .int .i64 1] wr fun e W => e = .returned (.int .u32 q) ∧ W = wr) := by rw [hq]; exact HI
                have HR : Hid (Calls Try.prog 21 #[.pointer (some ⟨p, 0, none⟩), .int .i64 0] wr fun e W => e = .returned (.int .u32 c) ∧ GotQ w p E0 B r (.slice xg n cg) W) := A3.out.read
                have hn29 : (n : Int) < 30 := by simp only [List.length_cons] at hnQ; omega
                have hn50 : (n : Int) < 50 := by omega
                clear HI hq hnQ
                go_wp2_with (first
                  | (go_at_call 15; refine HI'.out.mono ?_; rintro e w4 ⟨rfl, rfl⟩)
                  | (go_at_call 21; refine HR.out.mono ?_; rintro e w5 ⟨rfl, a5⟩; have A5 : Hid _ := a5.kep ((Kep.refl _).alloc (.cells #[.int .u8 c] 5)); clear a5; obtain ⟨s5, F5, G5, d5, ok5, e5, q5, hsl0, f5, g5, n5, k5⟩ := A5.out; have D5 : Hid _ := d5; have O5 : Hid _ := ok5; have F5' : Hid _ := f5; have G5' : Hid _ := g5; have N5 : Hid _ := n5; have K5 : Hid _ := k5; have E5 : Hid _ := e5; have Q5 : Hid _ := q5; have hsl := hsl0; rw [HB.out] at hsl; clear d5 ok5 f5 g5 n5 k5 e5 q5 hsl0)
                  | (at_builtin; refine wpList_append_sli rfl (.tmp 70) (.tmp 74) 23 rfl 5 j0 _ 1 1 Try.underlying23 hj hb0 hb1 hb2 rfl (by decide) _ n (byt B) G5 rfl hsl ⟨w5.heap.size, 0, none⟩ 1 [.int .u8 c] rfl rfl cell_news (by simp [Value.oneCell']) (by unfold maxLen; omega) (by omega) ?_; intro v' w1 G1 S1 P1 H1; obtain ⟨x1, c1, hv', _, hle1, hmx1, _⟩ := S1.out.lies; subst hv'))
                go_roundw
                case rel =>
                  refine ⟨_, _, _, _, _, _, _, _, _, _, _, _, _, _, _, ⟨n + 1, c1, x1, rfl, ?_⟩, rfl⟩
                  exact ⟨ by omega, by omega, by unfold maxLen at hmx1; omega, B ++ [c], r, by have := HB.out; simp; omega, by rw [List.append_assoc]; exact HBQ.out,
                        s5, F5, G1, Dev.put D5.out P1.out N5.out, O5.out, E5.out, Q5.out, by have := S1.out; rw [show (B ++ [c]).length = n + 1 by have := HB.out; simp; omega]; simpa [byt] using this, F5'.out, fun g hg => (H1.out g hg).elim (G5'.out g) (fun h => Nat.le_trans (Kep.size K5.out) h), fun g hg hg' => (H1.out g hg').elim (N5.out g hg) (fun h => by have := Dev.lt D5.out g hg; omega), Kep.put K5.out P1.out G5'.out⟩
                case measure => simp [slen]; omega

set_option maxRecDepth 100000 in
theorem lifted (os : Os) (started : os.Started) (H : Type) (enc : TypeId × Value → H) :
    ReturnsInHanded {} Try.checked os 7 .any (Rows.devBytesSpec.pre6 enc Try.prog Try.f7 Rows.devBytesRow.domain false) (Rows.devBytesSpec.post enc Try.prog Try.f7 false true false false) := by
  refine returnsInHanded_of_change (C := Try.checked) own started (by kernel_rfl) Try.func7
    (ChangeSpec.witness6 (enc := enc) (C := Try.checked) false ⟨#[], #[.slice none 0 0, .int .u8 0], []⟩ 8 (by kernel_rfl) (by kernel_rfl) (by kernel_rfl) (by kernel_rfl)) ?_
  intro W base args ds gs before hval0 hW hcnd _
  have hval : ∀ (j : Nat) t v, Try.f7.params[j]? = some t → args[j]? = some v → Value.okWide Try.prog W .any base t v := hval0
  have hW' := hW
  obtain ⟨p, q, hA0, hV, rfl, hfz, hnd⟩ := hW
  have hA : DataW.TrodAll enc Try.prog W 0 (fun _ => true) true Try.f7.params.toList args.toList ds p := hA0
  rw [Try.params7] at hA hval
  obtain ⟨v0, vs0, d0, ds0, p0, q0, hargs, rfl, rfl, h0, r0⟩ := trodAll_cons hA
  obtain ⟨v1, vs1, d1, ds1, p1, q1, rfl, rfl, rfl, h1, r1⟩ := trodAll_cons r0
  obtain ⟨rfl, rfl, rfl⟩ := trodAll_nil r1
  obtain rfl : args = #[v0, v1] := by cases args; simp_all
  obtain ⟨rfl, rfl⟩ := trodVars_none hV
  have k0 := h0
  have lt0 : ∀ x ∈ p0, x.block < W.heap.size := by obtain ⟨m, hm⟩ := k0; exact DataW.trod_lt m _ _ _ hm
  obtain ⟨x0, len0, cap0, z0, rfl, w0⟩ := open_bsl (hval 0 23 v0 rfl rfl) h0
  have k1 := h1
  have lt1 : ∀ x ∈ p1, x.block < W.heap.size := by obtain ⟨m, hm⟩ := k1; exact DataW.trod_lt m _ _ _ hm
  obtain ⟨a1, rfl, rfl, rfl, w1⟩ := open_int Try.underlying5 (hval 1 5 v1 rfl rfl) h1
  clear hA0 hval0
  refine (walk x0 len0 cap0 z0 a1 w1 W w0).mono fun e W' ⟨he, bel0⟩ => ?_
  have bel : Below W.heap.size W W' := bel0
  subst he
  exact ⟨_, rfl, _, _, _, [], _, [], hW', trodAll_mk1 (shut_bool Try.underlying4 _), (trodAll_cons_mk (Below.trod laidOut (by kernel_rfl) (of_decide_eq_true (by kernel_rfl)) k0 bel lt0) (trodAll_cons_mk (Below.trod laidOut (by kernel_rfl) (of_decide_eq_true (by kernel_rfl)) k1 bel lt1) trodAll_mk0)), rfl, bel.frame _, fun h => by cases h⟩

theorem over : Rows.devBytesRow.holds Try.pinned (OpenSpec.ofChange Rows.devBytesSpec) :=
  OpenClaim.holds_of_wide 7 Try.f7 rfl rfl rfl rfl rfl rfl rfl ⟨rfl, rfl, rfl, rfl, rfl⟩ rfl rfl rfl rfl rfl (by kernel_rfl) Try.func7 (by kernel_rfl)
    (of_decide_eq_true (by kernel_rfl)) (by unfold Func.isWrapper; first | (rw [if_pos (by decide +kernel)]; kernel_rfl) | (rw [if_neg (by decide +kernel)]; exact ⟨rfl, rfl⟩))
    (fun os started H enc _ => lifted os started H enc)
end Go.Proofs.Ytpieeefeicdfgaa.devBytes
namespace Go.Proofs.Ytpieeefeicdfgaa

theorem devBytes_holds : Rows.DevBytesSaid := devBytes.over
#print axioms devBytes_holds
end Go.Proofs.Ytpieeefeicdfgaa
