/- For every number of frames, first frame, key and two places, the law StrewMaps returns true: a map tells of any frame where it lies, and what lies there, as the document says. -/
import Derived.Test.YtmibiboboekniaaRows
import Derived.Test.YtmibiboboekniaaQget
import Derived.Test.YtmibiboboekniaaQworks
import Derived.Test.YtmibiboboekniaaGenl
import Derived.WalkKit
import Derived.ProofKit
import Derived.OpenShut
import Derived.ShutString
import Derived.ChangeOld
import Derived.Below
import Derived.Lib.SmallJoins
namespace Go.Proofs.Ytmibiboboekniaa.strewMaps
open Go.ChangeShapes Go.WideShapes Go.ChangeAt Go.RowKit
set_option linter.unusedVariables false
set_option linter.unusedSimpArgs false

theorem own : ownKnob Try.prog.godebug = none := by kernel_rfl
theorem laidOut : laidOutB Try.prog = true := by kernel_rfl

/-- What the law has: its three numbers, the map, the row that the document wants. -/
structure Maps13 (w wr : World) (p R M g : Nat) (X : Array Value) (H l : List Int) (T : List Value) (n : Nat) (f : Int → Option Int) : Prop where
  kep : Kep w wr
  box : wr.heap[w.heap.size]? = some (.cells X 28 (0, 0))
  map : MapAt wr p R M H n f
  row : RowT wr g l T
  ne : g ≠ p ∧ g ≠ R ∧ g ≠ M ∧ g ≠ w.heap.size
  ge : w.heap.size ≤ g
theorem Maps13.kept {w wr w' : World} {p R M g n : Nat} {X : Array Value} {H l : List Int} {T : List Value} {f : Int → Option Int} (h : Maps13 w wr p R M g X H l T n f) (k : Kep wr w') : Maps13 w w' p R M g X H l T n f :=
  ⟨kep_trans h.kep k, k.block h.box, h.map.kep k, h.row.kep k, h.ne, h.ge⟩
theorem Maps13.set {w wr : World} {p R M g n : Nat} {X : Array Value} {H l : List Int} {T : List Value} {f : Int → Option Int} (h : Maps13 w wr p R M g X H l T n f) {k : Nat} (hk : k < l.length) (a : Int) : Maps13 w (wr.setCell ⟨g, k, none⟩ (.int .i64 a)) p R M g X H (l.set k a) T n f := by
  have P : Put [g] wr (wr.setCell ⟨g, k, none⟩ (.int .i64 a)) := (Put.refl _).setCell (by simp) _
  have hn := h.ne
  exact ⟨h.kep.setCell h.ge _, P.keeps h.box (by simp; exact fun e => hn.2.2.2 e.symm), h.map.put P (by simp; exact fun e => hn.1 e.symm) (by simp; exact fun e => hn.2.1 e.symm) (by simp; exact fun e => hn.2.2.1 e.symm), h.row.set hk a, h.ne, h.ge⟩
theorem Maps13.of {w w1 w2 : World} {p R M g n : Nat} {X : Array Value} {H l : List Int} {T : List Value} {f : Int → Option Int} (A : MapAt w1 p R M H n f) (K1 : Kep (w.alloc (.cells X 28)) w1) (K2 : Kep w1 w2) (hg : w1.heap.size ≤ g) (hR : RowT w2 g l T) : Maps13 w w2 p R M g X H l T n f := by
  have b1 : w1.heap[w.heap.size]? = some (.cells X 28 (0, 0)) := K1.block (hat _ _ _ rfl)
  have h1 := block_lt A.box
  have h2 := block_lt A.row
  have h3 := A.map.lt
  have h4 := block_lt b1
  exact ⟨kep_trans (kep_trans ((Kep.refl _).alloc _) K1) K2, K2.block b1, A.kep K2, hR, ⟨by omega, by omega, by omega, by omega⟩, by omega⟩
theorem gst_step {l : List Int} {k : Nat} {a h : Int} (e : l.getD k 0 = a) : gstF l (k + 1) h = if h = a then some (k : Int) else gstF l k h := by rw [← e]; rfl
set_option maxHeartbeats 8000000 in
set_option maxRecDepth 100000 in
theorem walk (a0 : Int) (w0 : (Lit.int .i64 a0).wf = true) (a1 : Int) (w1 : (Lit.int .i64 a1).wf = true) (a2f0 : Int) (w2f0 : (Lit.int .u32 a2f0).wf = true) (a2f1 : Int) (w2f1 : (Lit.int .u32 a2f1).wf = true) (a2f2 : Int) (w2f2 : (Lit.int .u32 a2f2).wf = true) (w : World)  :
    Calls Try.prog 4 #[.int .i64 a0, .int .i64 a1, .agg #[.int .u32 a2f0, .int .u32 a2f1, .int .u32 a2f2]] w fun e w' => e = .returned (.bool true) ∧ Kep w w' := by
  have HW : Hid (∀ w, Calls Try.prog 11 #[] w fun e w' => e = .returned (.bool true) ∧ Kep w w') := works13_any
  have hx0 := u32_of w2f0
  have hx1 := u32_of w2f1
  have hx2 := u32_of w2f2
  have b0 : I64 a0 := i64_of w0
  have b1 : I64 a1 := i64_of w1
  clear w2f0 w2f1 w2f2 w0 w1
  by_cases hbad : a0 < 1 ∨ 64 < a0 ∨ a1 < 0 ∨ 512 - a0 < a1
  · have HN : Hid (∀ w, Calls Try.prog 12 #[.int .i64 a0, .int .i64 a1, .int .u32 a2f0] w fun e w' => e = .returned (.tuple #[.pointer none, .int .i64 2]) ∧ w' = w) := fun w => snew_no a0 a1 a2f0 hbad b0 b1 w
    unfold I64 at b0 b1
    rcases (by omega : a0 < 1 ∨ (1 ≤ a0 ∧ 64 < a0) ∨ (1 ≤ a0 ∧ a0 ≤ 64 ∧ a1 < 0) ∨ (1 ≤ a0 ∧ a0 ≤ 64 ∧ 0 ≤ a1 ∧ 512 - a0 < a1)) with h | ⟨h0, h⟩ | ⟨h0, h1, h⟩ | ⟨h0, h1, h2, h⟩
    all_goals
      clear hbad
      go_enter Try.func4, Try.ntmps4
      go_wp2_with (first | (go_at_call 12; refine (HN.out _).mono ?_; rintro e w1 ⟨rfl, rfl⟩) | (go_at_call 11; refine (HW.out _).mono ?_; rintro e w4 ⟨rfl, KW⟩))
      go_ret
      exact ⟨rfl, kep_trans ((Kep.refl _).alloc _) KW⟩
  · obtain ⟨n, rfl⟩ : ∃ n : Nat, a0 = n := ⟨a0.toNat, by omega⟩
    have h1 : (1 : Int) ≤ n := by omega
    have h2 : (n : Int) ≤ 64 := by omega
    have f0 : 0 ≤ a1 := by omega
    have f1 : a1 ≤ 512 - n := by omega
    clear hbad b0 b1
    have HN : Hid (∀ w, Calls Try.prog 12 #[.int .i64 n, .int .i64 a1, .int .u32 a2f0] w fun e w' => ∃ p R M : Nat, e = .returned (.tuple #[.pointer (some ⟨p, 0, none⟩), .int .i64 0]) ∧ MapAt w' p R M ((ordL n a2f0).map (· + a1)) n (gstF ((ordL n a2f0).map (· + a1)) n) ∧ Kep w w') := fun w => snew_any n h1 h2 a1 f0 f1 a2f0 hx0 w
    have HR : Hid (∀ w, Calls Try.prog 10 #[.int .i64 n, .int .u32 a2f0] w fun e w' => ∃ (g cap : Nat) (T : List Value), e = .returned (.slice (some ⟨g, 0, none⟩) n cap) ∧ Kep w w' ∧ w.heap.size ≤ g ∧ RowT w' g (ordL n a2f0) T ∧ n ≤ cap ∧ cap ≤ maxLen) := fun w => rorder_any n h1 (by omega) a2f0 hx0 w
    have hl : (ordL n a2f0).length = n := ordL_len n a2f0
    have hI : Hid (InR n (ordL n a2f0)) := ordL_in (by omega) a2f0
    generalize ordL n a2f0 = l at HN HR hl hI
    have hH : Hid (adL l a1 n = l.map (· + a1)) := by rw [Hid, ← hl, adL_all]
    have hlH : (l.map (· + a1)).length = n := by rw [List.length_map, hl]
    have hHr : Hid (∀ z ∈ l.map (· + a1), 0 ≤ z ∧ z < 1000) := by
      intro z hz
      obtain ⟨y, hy, rfl⟩ := List.mem_map.1 hz
      have := hI.out y hy
      show 0 ≤ y + a1 ∧ y + a1 < 1000
      omega
    generalize l.map (· + a1) = H at HN hH hlH hHr
    generalize hg : gstF H n = gf at HN
    have hg' : Hid (gstF H n = gf) := hg
    clear hg
    go_enter Try.func4, Try.ntmps4
    go_wp2_with fail
    refine (HN.out _).mono ?_
    rintro e w1 ⟨p, R, M, rfl, A, K⟩
    have A' : Hid (MapAt w1 p R M H n gf) := A
    have K' : Hid (Kep (w.alloc (.cells #[.int .u32 a2f0, .int .u32 a2f1, .int .u32 a2f2] 28)) w1) := K
    have c0 : w1.cell? ⟨w.heap.size, 0, none⟩ = some (.int .u32 a2f0) := (cell_of_block (K.block (hat _ _ _ rfl))).trans rfl
    clear A K HN
    go_wp2_with fail
    refine (HR.out _).mono ?_
    rintro e w2 ⟨g, cap, T, rfl, K2, hgg, R2, hc1, hc2⟩
    have A0 : Hid (Maps13 w w2 p R M g #[.int .u32 a2f0, .int .u32 a2f1, .int .u32 a2f2] H (adL l a1 0) T n gf) := by rw [adL_zero]; exact Maps13.of A'.out K'.out K2 hgg R2
    clear A' K' c0 K2 hgg R2 HR hc1 hc2
    go_wp2_with fail
    go_loopw [10] (fun i wr => ∃ k : Nat, (k : Int) ≤ n ∧ i = .int .i64 k ∧ Hid (Maps13 w wr p R M g #[.int .u32 a2f0, .int .u32 a2f1, .int .u32 a2f2] H (adL l a1 k) T n gf)) (fun i _ => n - (intOf i).toNat)
    case atStart => exact ⟨0, by omega, rfl, A0⟩
    case round =>
      clear A0
      obtain ⟨k, hkn, rfl, A⟩ := hrel
      by_cases hlt : k < n
      · have hlt' : (k : Int) < n := by omega
        have hkl : k < l.length := by omega
        have d2 : wr.cell? ⟨g, k, none⟩ = some (.int .i64 (l.getD k 0)) := by have := A.out.row.cell (k := k) (by rw [adL_len]; exact hkl); rwa [adL_at a1 hkl] at this
        have f2 := A.out.row.frz (k := k)
        have hr := hI.out.at hkl
        have A2 : Hid (Maps13 w (wr.setCell ⟨g, k, none⟩ (.int .i64 (l.getD k 0 + a1))) p R M g #[.int .u32 a2f0, .int .u32 a2f1, .int .u32 a2f2] H (adL l a1 (k + 1)) T n gf) := by
          have := A.out.set (k := k) (by rw [adL_len]; exact hkl) (l.getD k 0 + a1)
          rwa [adL_succ a1 hkl] at this
        generalize l.getD k 0 = a at d2 A2 hr
        clear A
        go_wp2_with fail
        go_roundw
        case rel => exact ⟨k + 1, by omega, by go_num, A2⟩
        case measure => simp [intOf]; omega
      · obtain rfl : k = n := by omega
        rw [hH.out] at A
        have HL : Hid (Calls Try.prog 13 #[.pointer (some ⟨p, 0, none⟩)] wr fun e w' => ∃ (x : Option Addr) (cap : Nat), e = .returned (.slice x k cap) ∧ LI w' x H ∧ Kep wr w') := by
          have := slist_any A.out.map (by omega) (by omega)
          rw [hlH] at this
          exact this
        go_wp2_with fail
        refine HL.out.mono ?_
        rintro e w3 ⟨x, cp, rfl, L3, K3⟩
        have A3 : Hid (Maps13 w w3 p R M g #[.int .u32 a2f0, .int .u32 a2f1, .int .u32 a2f2] H H T k gf) := A.out.kept K3
        have HS : Hid (Calls Try.prog 8 #[.slice x k cp, .slice (some ⟨g, 0, none⟩) k cap] w3 fun e w' => e = .returned (.bool true) ∧ Kep w3 w') := same13_yes _ _ k cp cap (by omega) H hlH w3 L3 A3.out.row.li
        clear HL L3 K3 A
        go_wp2_with fail
        refine HS.out.mono ?_
        rintro e w4 ⟨rfl, K4⟩
        have A4 : Hid (Maps13 w w4 p R M g #[.int .u32 a2f0, .int .u32 a2f1, .int .u32 a2f2] H H T k gf) := A3.out.kept K4
        clear HS K4 A3
        have e1 : w4.cell? ⟨w.heap.size, 1, none⟩ = some (.int .u32 a2f1) := (cell_of_block A4.out.box).trans rfl
        have e2 : w4.cell? ⟨w.heap.size, 2, none⟩ = some (.int .u32 a2f2) := (cell_of_block A4.out.box).trans rfl
        have z1 : 0 ≤ a2f1 % 70 ∧ a2f1 % 70 < 70 := by omega
        have z2 : 0 ≤ a2f2 % 520 ∧ a2f2 % 520 < 520 := by omega
        have HG : Hid (Calls Try.prog 15 #[.pointer (some ⟨p, 0, none⟩), .int .i64 (a2f2 % 520)] w4 fun e w' => e = .returned (.tuple #[.int .i64 ((gf (a2f2 % 520)).getD 0), .bool (gf (a2f2 % 520)).isSome]) ∧ w' = w4) := guest_any A4.out.map _ (by unfold I64; omega)
        have HH : Hid (∀ j : Nat, j < k → Calls Try.prog 14 #[.pointer (some ⟨p, 0, none⟩), .int .i64 j] w4 fun e w' => e = .returned (.tuple #[.int .i64 (H.getD j 0), .bool true]) ∧ w' = w4) := fun j hj => host_yes A4.out.map j (by omega) (by omega)
        have HHn : Hid (∀ j : Int, (j < 0 ∨ k ≤ j) → Calls Try.prog 14 #[.pointer (some ⟨p, 0, none⟩), .int .i64 j] w4 fun e w' => e = .returned (.tuple #[.int .i64 0, .bool false]) ∧ w' = w4) := fun j hj => host_no A4.out.map j (by rw [hlH]; exact hj)
        go_wp2_with fail
        rcases (by
          rcases (by omega : (a2f1 % 70 - 3 < 0 ∨ k ≤ a2f1 % 70 - 3) ∨ (0 ≤ a2f1 % 70 - 3 ∧ a2f1 % 70 - 3 < k)) with h | ⟨h, h'⟩
          · rcases h with h | h
            · exact .inl h
            · exact .inr (.inl ⟨by omega, h⟩)
          · exact .inr (.inr ⟨(a2f1 % 70 - 3).toNat, by omega, by omega⟩) : a2f1 % 70 - 3 < 0 ∨ (0 ≤ a2f1 % 70 - 3 ∧ k ≤ a2f1 % 70 - 3) ∨ ∃ j : Nat, a2f1 % 70 - 3 = j ∧ j < k) with hc | ⟨hc, hc'⟩ | ⟨j, hj, hjk⟩
        case' inl =>
          refine (HHn.out _ (.inl hc)).mono ?_
          rintro e w5 ⟨rfl, rfl⟩
          clear HH HHn
          go_wp2_with (go_at_call 15; refine HG.out.mono ?_; rintro e w1 ⟨rfl, rfl⟩)
        case' inr.inl =>
          refine (HHn.out _ (.inr hc')).mono ?_
          rintro e w5 ⟨rfl, rfl⟩
          clear HH HHn
          go_wp2_with (go_at_call 15; refine HG.out.mono ?_; rintro e w1 ⟨rfl, rfl⟩)
        case' inr.inr =>
          have dj := A4.out.row.cell (k := j) (by omega)
          have HJ : Hid (Calls Try.prog 14 #[.pointer (some ⟨p, 0, none⟩), .int .i64 j] w4 fun e w' => e = .returned (.tuple #[.int .i64 (H.getD j 0), .bool true]) ∧ w' = w4) := HH.out j hjk
          generalize H.getD j 0 = a at dj HJ
          have hjk' : (j : Int) < k := by omega
          rw [hj]
          refine HJ.out.mono ?_
          rintro e w5 ⟨rfl, rfl⟩
          clear HH HHn HJ
          go_wp2_with (go_at_call 15; refine HG.out.mono ?_; rintro e w1 ⟨rfl, rfl⟩)
        all_goals
          clear HG e1 e2
          go_loopw [17, 18, 19] (fun fv tv i wr => ∃ j : Nat, (j : Int) ≤ k ∧ i = .int .i64 j ∧ fv = .int .i64 ((gstF H j (a2f2 % 520)).getD 0) ∧ tv = .bool (gstF H j (a2f2 % 520)).isSome ∧ Hid (Maps13 w wr p R M g #[.int .u32 a2f0, .int .u32 a2f1, .int .u32 a2f2] H H T k gf)) (fun _ _ i _ => k - (intOf i).toNat)
          case atStart => exact ⟨0, by omega, rfl, rfl, rfl, A4⟩
          case round =>
            clear A4
            obtain ⟨m, hmk, rfl, rfl, rfl, A5⟩ := hrel
            by_cases hlt : m < k
            · have hlt' : (m : Int) < k := by omega
              have dm := A5.out.row.cell (k := m) (by omega)
              have hs := @gst_step H m (H.getD m 0) (a2f2 % 520) rfl
              generalize H.getD m 0 = b at dm hs
              have hr1 := gstF_range H (a2f2 % 520) m
              by_cases hb : b = a2f2 % 520
              · have hb' : (b == a2f2 % 520) = true := by simpa using hb
                rw [if_pos hb.symm] at hs
                have hs' : Hid (gstF H (m + 1) (a2f2 % 520) = some (m : Int)) := hs
                clear hs hb
                go_wp2_with fail
                go_roundw
                case rel => exact ⟨m + 1, by omega, by go_num, by rw [hs'.out]; rfl, by rw [hs'.out]; rfl, A5⟩
                case measure => simp [intOf]; omega
              · have hb' : (b == a2f2 % 520) = false := by simpa using hb
                rw [if_neg (fun e => hb e.symm)] at hs
                have hs' : Hid (gstF H (m + 1) (a2f2 % 520) = gstF H m (a2f2 % 520)) := hs
                clear hs hb
                go_wp2_with fail
                go_roundw
                case rel => exact ⟨m + 1, by omega, by go_num, by rw [hs'.out], by rw [hs'.out], A5⟩
                case measure => simp [intOf]; omega
            · obtain rfl : m = k := by omega
              rw [hg'.out]
              have K5 : Hid (Kep w wr) := A5.out.kep
              generalize (gf (a2f2 % 520)).getD 0 = ga
              generalize (gf (a2f2 % 520)).isSome = gb
              go_wp2_with (go_at_call 11; refine (HW.out _).mono ?_; rintro e w6 ⟨rfl, KW⟩)
              go_ret
              exact ⟨rfl, kep_trans K5.out KW⟩

set_option maxRecDepth 100000 in
theorem lifted (os : Os) (started : os.Started) (H : Type) (enc : TypeId × Value → H) :
    ReturnsInHanded {} Try.checked os 4 .any (Rows.strewMapsSpec.pre6 enc Try.prog Try.f4 Rows.strewMapsRow.domain false) (Rows.strewMapsSpec.post enc Try.prog Try.f4 false true false false) := by
  refine returnsInHanded_of_change (C := Try.checked) own started (by kernel_rfl) Try.func4
    (ChangeSpec.witness6 (enc := enc) (C := Try.checked) false ⟨#[], #[.int .i64 0, .int .i64 0, .agg #[.int .u32 0, .int .u32 0, .int .u32 0]], []⟩ 8 (by kernel_rfl) (by kernel_rfl) (by kernel_rfl) (by kernel_rfl)) ?_
  intro W base args ds gs before hval0 hW hcnd _
  have hval : ∀ (j : Nat) t v, Try.f4.params[j]? = some t → args[j]? = some v → Value.okWide Try.prog W .any base t v := hval0
  have hW' := hW
  obtain ⟨p, q, hA0, hV, rfl, hfz, hnd⟩ := hW
  have hA : DataW.TrodAll enc Try.prog W 0 (fun _ => true) true Try.f4.params.toList args.toList ds p := hA0
  rw [Try.params4] at hA hval
  obtain ⟨v0, vs0, d0, ds0, p0, q0, hargs, rfl, rfl, h0, r0⟩ := trodAll_cons hA
  obtain ⟨v1, vs1, d1, ds1, p1, q1, rfl, rfl, rfl, h1, r1⟩ := trodAll_cons r0
  obtain ⟨v2, vs2, d2, ds2, p2, q2, rfl, rfl, rfl, h2, r2⟩ := trodAll_cons r1
  obtain ⟨rfl, rfl, rfl⟩ := trodAll_nil r2
  obtain rfl : args = #[v0, v1, v2] := by cases args; simp_all
  obtain ⟨rfl, rfl⟩ := trodVars_none hV
  have k0 := h0
  have lt0 : ∀ x ∈ p0, x.block < W.heap.size := by obtain ⟨m, hm⟩ := k0; exact DataW.trod_lt m _ _ _ hm
  obtain ⟨a0, rfl, rfl, rfl, w0⟩ := open_int Try.underlying3 (hval 0 3 v0 rfl rfl) h0
  have k1 := h1
  have lt1 : ∀ x ∈ p1, x.block < W.heap.size := by obtain ⟨m, hm⟩ := k1; exact DataW.trod_lt m _ _ _ hm
  obtain ⟨a1, rfl, rfl, rfl, w1⟩ := open_int Try.underlying3 (hval 1 3 v1 rfl rfl) h1
  have k2 := h2
  have lt2 : ∀ x ∈ p2, x.block < W.heap.size := by obtain ⟨m, hm⟩ := k2; exact DataW.trod_lt m _ _ _ hm
  obtain ⟨zs2, hl2, rfl, hw2⟩ := open_arr Try.underlying28 Try.underlying22 (by kernel_rfl) (by kernel_rfl) (hval 2 28 v2 rfl rfl) h2
  obtain ⟨a2f0, a2f1, a2f2, rfl⟩ := list3 zs2 hl2
  clear hA0 hval0
  refine (walk a0 w0 a1 w1 a2f0 (hw2 _ (by simp)) a2f1 (hw2 _ (by simp)) a2f2 (hw2 _ (by simp)) W ).mono fun e W' ⟨he, bel0⟩ => ?_
  have bel : Below W.heap.size W W' := bel0
  subst he
  exact ⟨_, rfl, _, _, _, [], _, [], hW', trodAll_mk1 (shut_bool Try.underlying4 _), (trodAll_cons_mk (Below.trod laidOut (by kernel_rfl) (of_decide_eq_true (by kernel_rfl)) k0 bel lt0) (trodAll_cons_mk (Below.trod laidOut (by kernel_rfl) (of_decide_eq_true (by kernel_rfl)) k1 bel lt1) (trodAll_cons_mk (Below.trod laidOut (by kernel_rfl) (of_decide_eq_true (by kernel_rfl)) k2 bel lt2) trodAll_mk0))), rfl, bel.frame _, fun h => by cases h⟩

theorem over : Rows.strewMapsRow.holds Try.pinned (OpenSpec.ofChange Rows.strewMapsSpec) :=
  OpenClaim.holds_of_wide 4 Try.f4 rfl rfl rfl rfl rfl rfl rfl ⟨rfl, rfl, rfl, rfl, rfl⟩ rfl rfl rfl rfl rfl (by kernel_rfl) Try.func4 (by kernel_rfl)
    (of_decide_eq_true (by kernel_rfl)) (by unfold Func.isWrapper; first | (rw [if_pos (by decide +kernel)]; kernel_rfl) | (rw [if_neg (by decide +kernel)]; exact ⟨rfl, rfl⟩))
    (fun os started H enc _ => lifted os started H enc)
end Go.Proofs.Ytmibiboboekniaa.strewMaps
namespace Go.Proofs.Ytmibiboboekniaa

theorem strewMaps_holds : Rows.StrewMapsSaid := strewMaps.over
#print axioms strewMaps_holds
end Go.Proofs.Ytmibiboboekniaa
