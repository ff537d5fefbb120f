/- For every instruction, of a guest or of a host, and every row of bytes behind it, the law IsaBack returns true: an instruction that was encoded is decoded as it was; the code's two tables hold what its text lays. -/
import Derived.Test.YtoealddommhgnaaDoorRows
import Derived.Test.YtoealddommhgnaaDoorTie
import Derived.Test.YtoealddommhgnaaDoorCards
import Derived.Test.YtoealddommhgnaaDoorTab
import Derived.Test.YtoealddommhgnaaDoorWord
import Derived.Test.YtoealddommhgnaaDoorWorks
import Derived.Test.YtoealddommhgnaaDoorStrb
import Derived.WalkKit
import Derived.ProofKit
import Derived.OpenShut
import Derived.ShutString
import Derived.ChangeOld
import Derived.Below
import Derived.Lib.SmallJoins
import Derived.Lay
import Derived.SevenTiedAt
import Derived.Stop.Joined
namespace Go.Proofs.YtoealddommhgnaaDoor.isaBack
open Go.ChangeShapes Go.WideShapes Go.ChangeAt Go.RowKit
set_option linter.unusedVariables false

theorem own : ownKnob Tryd.prog.godebug = none := by kernel_rfl
theorem laidOut : laidOutB Tryd.prog = true := by kernel_rfl

abbrev laidL : List (String × DataW Unit) := [("mummer/isa.forms", Rows.laid_mummer_isa_forms), ("mummer/isa.spans", Rows.laid_mummer_isa_spans)]

theorem owns_form {w : World} {base n : Nat} {v : Value} {xs : List Value} (h : w.ownsRow base 5 1 v n xs) (hn : 0 < n) : ∃ C c, v = .slice (some ⟨C, 0, none⟩) n c ∧ base ≤ C := by
  rcases h.2 with ⟨_, h1⟩ | ⟨g, cap, cur, h1, h2, _⟩
  · omega
  · exact ⟨g, cap, h1, h2⟩
theorem firstZ_succ (zs : List Int) (k : Nat) : firstZ zs (k + 1) = firstZ zs k ++ [zat zs k] := by unfold firstZ; rw [List.range_succ, List.map_append]; rfl
theorem firstZ_fit {zs : List Int} (hz : ∀ n ∈ zs, 0 ≤ n ∧ n < 256) (k : Nat) : ∀ x ∈ firstZ zs k, 0 ≤ x ∧ x < 256 := by
  intro x hx
  obtain ⟨i, _, rfl⟩ := List.mem_map.1 hx
  exact zat_range hz i
theorem one_new (x : Int) (w : World) : ∀ j u, ([Value.int .u8 x])[j]? = some u → (w.alloc (.cells #[.int .u8 x] 5)).cell? ((⟨w.heap.size, 0, none⟩ : Addr).add j) = some u := one_cell x w

set_option maxHeartbeats 2000000 in
theorem no_walk (op a b imm : Int) (host : Bool) (x : Option Addr) (len cap : Nat) (w : World) (hw0 : 0 ≤ op ∧ op < 256) (hw3 : -2147483648 ≤ imm ∧ imm ≤ 2147483647) (hm : mayB (rowOf op host) a b imm = false) (hT : Tabs w) :
    Calls Tryd.prog 7 #[.agg (insA op a b imm), .bool host, .slice x len cap] w fun e w' => e = .returned (.bool true) ∧ Kep w w' := by
  have hT' : Hid (Tabs w) := hT
  have hm' : Hid (mayB (rowOf op host) a b imm = false) := hm
  clear hT hm
  go_enter Tryd.func7, Tryd.ntmps7
  go_wp2_with fail
  refine (encode_no op a b imm host hm' _ hw0.1 hw0.2 hw3.1 hw3.2 (hT'.grown ((Kep.refl _).alloc _))).mono ?_
  rintro e w1 ⟨rfl, g1⟩
  have G1 : Hid (Kep w w1) := kep_trans ((Kep.refl _).alloc _) g1
  have d0 := g1.cell (o := 0) (b := w.heap.size) (by simp)
  have d1 := g1.cell (o := 1) (b := w.heap.size) (by simp)
  have d2 := g1.cell (o := 2) (b := w.heap.size) (by simp)
  have d3 := g1.cell (o := 3) (b := w.heap.size) (by simp)
  simp at d0 d1 d2 d3
  clear g1
  go_wp2_with fail
  refine (may_any op a b imm host w1 hw0.1 hw0.2 hw3.1 hw3.2 (hT'.grown G1)).mono ?_
  rintro e w2 ⟨rfl, g2⟩
  rw [hm'.out]
  have G2 : Hid (Kep w w2) := kep_trans G1 g2
  clear g2
  go_wp2_with fail
  refine (works_any _ (hT'.grown G2)).mono ?_
  rintro e w3 ⟨rfl, g3⟩
  go_wp2_with fail
  go_ret
  exact ⟨rfl, kep_trans G2 g3⟩

set_option maxHeartbeats 4000000 in
theorem yes_walk (op a b imm : Int) (host : Bool) (x : Option Addr) (len cap : Nat) (zm : List Int) (w : World) (hw0 : 0 ≤ op ∧ op < 256) (hw1 : 0 ≤ a ∧ a < 256) (hw2 : 0 ≤ b ∧ b < 256) (hw3 : -2147483648 ≤ imm ∧ imm ≤ 2147483647)
    (hf : (Lit.int .u8 op).wf = true ∧ (Lit.int .u8 a).wf = true ∧ (Lit.int .u8 b).wf = true ∧ (Lit.int .i32 imm).wf = true)
    (hm : mayB (rowOf op host) a b imm = true) (hT : Tabs w) (hX : IsRow .u8 w x len cap zm) :
    Calls Tryd.prog 7 #[.agg (insA op a b imm), .bool host, .slice x len cap] w fun e w' => e = .returned (.bool true) ∧ Kep w w' := by
  have hr := rowOf_lt op host
  obtain ⟨m0, m1, m2, m3, m4⟩ := may_parts hm
  obtain ⟨p1, p2, _, _⟩ := f12 _ hr
  have hlen := enc_len (rowOf op host) op a b imm hr m0
  have hs1 : 1 ≤ sz (rowOf op host) ∧ sz (rowOf op host) ≤ 6 := by rcases sz_cases _ hr m0 with h | h | h | h <;> omega
  have hfit := enc_fit (rowOf op host) op a b imm hw0.1 hw0.2 hw1.1 (by omega) hw2.1 (by omega)
  have hop : Hid (∀ m, zat (encL (rowOf op host) op a b imm ++ m) 0 = op) := enc_op (rowOf op host) op a b imm
  have hrb : Hid (∀ m, _) := fun m => read_back (rowOf op host) hr op a b imm m hw1.1 hw2.1 hm
  have hE : Hid (∀ w, Tabs w → _) := fun w hT => encode_ok (rowOf op host) hr m0 op a b imm host rfl hm w hw0.1 hw0.2 hw3.1 hw3.2 hw1.1 (by omega) hw2.1 (by omega) hT
  generalize encL (rowOf op host) op a b imm = L at hlen hfit hop hrb hE
  obtain ⟨n, hn⟩ : ∃ n, L.length = n := ⟨_, rfl⟩
  rw [hn] at hlen hE
  have hdec : Hid (∀ m len', n ≤ len' → insD (rowOf op host) (L ++ m) len' = insA op a b imm ∧ numD (rowOf op host) (L ++ m) len' = n ∧ errD (rowOf op host) (L ++ m) len' = 0) := by
    intro m len' hl'
    obtain ⟨b1, b2, b3⟩ := hrb.out m
    have hok : okD (rowOf op host) (L ++ m) len' = true := by
      unfold okD
      rw [b1, b2]
      simp only [Bool.and_eq_true, decide_eq_true_eq, bne_iff_ne]
      exact ⟨m0, by omega, m1, m2⟩
    obtain ⟨y1, y2, y3, _⟩ := dec_yes hok
    rw [b1, b2, b3, hop.out m] at y1
    exact ⟨y1, by rw [y2, hlen], y3⟩
  have hn1 : (1 : Int) ≤ n := by omega
  have hn6 : (n : Int) ≤ 6 := by omega
  have hlm : (len : Int) ≤ 9223372036854775807 := by
    rcases hX with ⟨_, rfl, _⟩ | ⟨y, _, h1, h2, _⟩
    · omega
    · unfold maxLen at h2; omega
  have hmore : Hid (∀ k, k < len → ∃ b2 off2, x = some ⟨b2, off2, none⟩ ∧ b2 < w.heap.size ∧ w.cell? ⟨b2, off2 + k, none⟩ = some (.int .u8 (zat zm k))) := by
    intro k hk
    rcases row_cases hX with h | ⟨b2, off2, hx, _, hB⟩
    · omega
    · exact ⟨b2, off2, hx, hB.lt, hB.cell k hk⟩
  have hzm : Hid (∀ y ∈ firstZ zm len, 0 ≤ y ∧ y < 256) := by
    rcases row_cases hX with h | ⟨b2, off2, hx, _, hB⟩
    · subst h; intro y hy; simp [firstZ] at hy
    · exact firstZ_fit hB.fit len
  have hfl : Hid (∀ y ∈ L, 0 ≤ y ∧ y < 256) := hfit
  have hm' : Hid (mayB (rowOf op host) a b imm = true) := hm
  have hT' : Hid (Tabs w) := hT
  have hlen' : Hid ((n : Int) = sz (rowOf op host)) := hlen
  have hsame := ins_same op a b imm hf.1 hf.2.1 hf.2.2.1 hf.2.2.2
  obtain ⟨i5, hi5, hz0, hz1, hz2⟩ := info_parts info5
  clear hX hm hT hlen hfit hrb m0 m1 m2 m3 m4 p1 p2 hr hs1 hn hf
  go_enter Tryd.func7, Tryd.ntmps7
  go_wp2_with fail
  refine Calls.mono (hE.out _ (hT'.grown ((Kep.refl _).alloc _))) ?_
  rintro e w1 ⟨B, rfl, hown, g1⟩
  have g1' : Hid (Kep (w.alloc (.cells (insA op a b imm) 29)) w1) := g1
  have hown1 : Hid (w1.ownsRow (w.heap.size + 1) 5 1 (.slice (some ⟨B, 0, none⟩) n n) n (bs L)) := by
    have := hown; simp at this; exact this
  clear g1 hown hE
  go_wp2_with fail
  go_loopw [7, 10] (fun v i wr => ∃ (k C c : Nat), (k : Int) ≤ 20 ∧ (k : Int) ≤ len ∧ i = .int .i64 k ∧ v = .slice (some ⟨C, 0, none⟩) (n + k) c ∧ Hid (wr.ownsRow (w.heap.size + 1) 5 1 (.slice (some ⟨C, 0, none⟩) (n + k) c) (n + k) (bs (L ++ firstZ zm k))) ∧ Hid (Kep (w.alloc (.cells (insA op a b imm) 29)) wr)) (fun _ i _ => 30 - (intOf i).toNat)
  case atStart => exact ⟨0, B, n, by omega, by omega, rfl, rfl, by rw [show firstZ zm 0 = [] from rfl, List.append_nil]; exact hown1, g1'⟩
  case round =>
    obtain ⟨k, C, c, hk, hkl, rfl, rfl, hownk, hgk⟩ := hrel
    have hCb : w.heap.size + 1 ≤ C := owns_base hownk
    have hgw : Hid (Kep w wr) := kep_trans ((Kep.refl _).alloc _) hgk
    by_cases hgo : (k : Int) < len ∧ (k : Int) < 20
    · obtain ⟨b2, off2, hx, hb2, hcell⟩ := hmore.out k (by omega)
      subst hx
      have hc2 := (hgw.cell hb2).trans hcell
      have hx1 := hgo.1
      have hx2 := hgo.2
      obtain ⟨X, hX⟩ : ∃ X, Hid (X = bs (L ++ firstZ zm k)) := ⟨_, rfl⟩
      have hownk' : wr.ownsRow (w.heap.size + 1) 5 1 (.slice (some ⟨C, 0, none⟩) (n + k) c) (n + k) X := by rw [hX.out]; exact hownk
      have hszk : w.heap.size + 1 ≤ wr.heap.size := by have := hgk.size; simpa using this
      clear hcell hownk hgo
      go_wp2_with (at_builtin; (refine wpList_append_own _ rfl _ _ 31 rfl (w.heap.size + 1) 5 i5 (.int .u8 0) 1 1 Tryd.underlying31 hi5 hz0 hz1 hz2 rfl (by decide) (.slice (some ⟨C, 0, none⟩) (n + k) c) (n + k) X rfl (World.ownsRow.alloc hownk' _) ⟨wr.heap.size, 0, none⟩ 1 1 [.int .u8 (zat zm k)] rfl rfl (one_new _ _) (one_one _) (by unfold maxLen; omega) (by omega) (by simp; omega) ?_); (intro v5 w5 hown5 hgrow5 hnil5; obtain ⟨C5, c5, hv5, hC5⟩ := owns_form hown5 (by omega); subst hv5; have hg5 : Hid (Kep (w.alloc (.cells (insA op a b imm) 29)) w5) := (hgk.alloc _).by hgrow5 (by intro j hj; have h5 : some C = some j := hj; simp at h5; subst h5; simpa using hCb); have hown6 : Hid (w5.ownsRow (w.heap.size + 1) 5 1 (.slice (some ⟨C5, 0, none⟩) (n + (k + 1)) c5) (n + (k + 1)) (bs (L ++ firstZ zm (k + 1)))) := (by have h := hown5; rw [hX.out] at h; rw [firstZ_succ, ← List.append_assoc]; unfold bs; rw [List.map_append]; exact h); clear hgrow5 hown5 hnil5))
      go_roundw
      case rel => exact ⟨k + 1, C5, c5, by omega, by omega, by go_num, rfl, hown6, hg5⟩
      case measure => simp [intOf]; omega
    · have hend : Hid (¬ ((k : Int) < len ∧ (k : Int) < 20)) := hgo
      have hfk : Hid (∀ y ∈ L ++ firstZ zm k, 0 ≤ y ∧ y < 256) := by
        intro y hy
        rcases List.mem_append.1 hy with h | h
        · exact hfl.out y h
        · obtain ⟨i, hi, rfl⟩ := List.mem_map.1 h
          exact hzm.out _ (List.mem_map.2 ⟨i, by simp at hi ⊢; omega, rfl⟩)
      obtain ⟨y1, y2, y3⟩ := hdec.out (firstZ zm k) (n + k) (by omega)
      have hD := decode_any C 0 (n + k) c (L ++ firstZ zm k) host (rowOf op host) (by rw [hop.out]) wr (by omega) (owns_bytes hownk hfk (Nat.le_refl _)) (hT'.grown hgw)
      rw [y1, y2, y3] at hD
      have hD' : Hid _ := hD
      have d0 := hgk.cell (o := 0) (b := w.heap.size) (by simp)
      have d1 := hgk.cell (o := 1) (b := w.heap.size) (by simp)
      have d2 := hgk.cell (o := 2) (b := w.heap.size) (by simp)
      have d3 := hgk.cell (o := 3) (b := w.heap.size) (by simp)
      simp at d0 d1 d2 d3
      have zr : w.heap.size < wr.heap.size := hgk.lt (by simp)
      clear hD y1 y2 y3 hgo hownk hCb hdec hmore hzm hfl hfk
      rcases (by have := hend.out; omega : (len : Int) ≤ k ∨ ((k : Int) < len ∧ (20 : Int) ≤ k)) with hq | ⟨hq, hq'⟩
      all_goals
        go_wp2_with fail
        refine Calls.mono hD'.out ?_
        rintro e w2 ⟨rfl, g2⟩
        have zr2 : w.heap.size < w2.heap.size := g2.lt zr
        have hT2 : Hid (∀ o, Kep w (w2.alloc o)) := fun o => (kep_trans hgw g2).alloc o
        have c0 := (g2.cell (o := 0) zr).trans d0
        have c1 := (g2.cell (o := 1) zr).trans d1
        have c2 := (g2.cell (o := 2) zr).trans d2
        have c3 := (g2.cell (o := 3) zr).trans d3
        clear d0 d1 d2 d3 g2 hD'
        go_wp2_with fail
        refine (bytes_any op host _ hw0.1 hw0.2 (hT'.grown (hT2.out _))).mono ?_
        rintro e w3 ⟨rfl, g3⟩
        rw [← hlen'.out]
        have G3 : Hid (Kep w w3) := kep_trans (hT2.out _) g3
        have zr3 : w.heap.size < w3.heap.size := g3.lt (by simp; omega)
        have d0 := (g3.cell (o := 0) (b := w.heap.size) (by simp; omega)).trans ((cell_old zr2).trans c0)
        have d1 := (g3.cell (o := 1) (b := w.heap.size) (by simp; omega)).trans ((cell_old zr2).trans c1)
        have d2 := (g3.cell (o := 2) (b := w.heap.size) (by simp; omega)).trans ((cell_old zr2).trans c2)
        have d3 := (g3.cell (o := 3) (b := w.heap.size) (by simp; omega)).trans ((cell_old zr2).trans c3)
        clear c0 c1 c2 c3 g3
        go_wp2_with fail
        refine (may_any op a b imm host w3 hw0.1 hw0.2 hw3.1 hw3.2 (hT'.grown G3)).mono ?_
        rintro e w4 ⟨rfl, g4⟩
        rw [hm'.out]
        have G4 : Hid (Kep w w4) := kep_trans G3 g4
        clear g4
        go_wp2_with fail
        refine (works_any _ (hT'.grown G4)).mono ?_
        rintro e w5 ⟨rfl, g5⟩
        go_wp2_with fail
        go_ret
        exact ⟨rfl, kep_trans G4 g5⟩

theorem walk (a0f0 : Int) (w0f0 : (Lit.int .u8 a0f0).wf = true) (a0f1 : Int) (w0f1 : (Lit.int .u8 a0f1).wf = true) (a0f2 : Int) (w0f2 : (Lit.int .u8 a0f2).wf = true) (a0f3 : Int) (w0f3 : (Lit.int .i32 a0f3).wf = true) (a1 : Bool) (x2 : Option Addr) (len2 cap2 : Nat) (z2 : List Int) (w : World) (w2 : IsRow .u8 w x2 len2 cap2 z2) (hT : Tabs w) :
    Calls Tryd.prog 7 #[.agg #[.int .u8 a0f0, .int .u8 a0f1, .int .u8 a0f2, .int .i32 a0f3], .bool a1, .slice x2 len2 cap2] w fun e w' => e = .returned (.bool true) ∧ Kep w w' := by
  have hw0 := word8 w0f0
  have hw1 := word8 w0f1
  have hw2 := word8 w0f2
  have hw3 := word32 w0f3
  cases hm : mayB (rowOf a0f0 a1) a0f1 a0f2 a0f3
  · exact no_walk a0f0 a0f1 a0f2 a0f3 a1 x2 len2 cap2 w hw0 hw3 hm hT
  · exact yes_walk a0f0 a0f1 a0f2 a0f3 a1 x2 len2 cap2 z2 w hw0 hw1 hw2 hw3 ⟨w0f0, w0f1, w0f2, w0f3⟩ hm hT w2

set_option maxRecDepth 100000 in
theorem lifted (os : Os) (started : os.Started) (H : Type) (enc : TypeId × Value → H) :
    ReturnsInHanded {} Tryd.checked os 7 .any (fun w args => (Rows.isaBackSpec.pre enc Tryd.prog Tryd.f7 Rows.isaBackRow.domain false w args ∧ laidMetH Tryd.prog laidL w) ∧ sizedMet enc Tryd.prog Tryd.f7 (OpenSpec.ofChange Rows.isaBackSpec) false w args)
      (Rows.isaBackSpec.post enc Tryd.prog Tryd.f7 false true false false) := by
  refine returnsInHanded_of_change_and (C := Tryd.checked) (X := fun w _ => laidMetH Tryd.prog laidL w) (fun _ _ _ hh h => h.of_heap hh) own started (by kernel_rfl) Tryd.func7
    (ChangeSpec.witness_shaped (enc := enc) (C := Tryd.checked) (os := os) (X := fun w _ => laidMetH Tryd.prog laidL w) false (World.laidAll Tryd.prog os laidL) #[.agg #[.int .u8 0, .int .u8 0, .int .u8 0, .int .i32 0], .bool false, .slice none 0 0] 8 (World.laidAll_os _ _ _)
      (World.shaped_of_ZipB (by kernel_rfl) (by kernel_rfl)) (by kernel_rfl) (by kernel_rfl) (by kernel_rfl)
      (by rw [MakeChecks.laidMetH_plain _ _ _ (by kernel_rfl)]; exact laidMet_laidAll _ (by kernel_rfl) (by kernel_rfl))) ?_
  intro W base args ds gs before hval0 hW hcnd _ hL _
  have hval : ∀ (j : Nat) t v, Tryd.f7.params[j]? = some t → args[j]? = some v → Value.okWide Tryd.prog W .any base t v := hval0
  have hW' := hW
  obtain ⟨p, q, hA0, hV, rfl, hfz, hnd⟩ := hW
  have hA : DataW.TrodAll enc Tryd.prog W 0 (fun _ => true) true Tryd.f7.params.toList args.toList ds p := hA0
  rw [Tryd.params7] at hA hval
  obtain ⟨v0, vs0, d0, ds0, p0, q0, hargs, rfl, rfl, h0, r0⟩ := trodAll_cons hA
  obtain ⟨v1, vs1, d1, ds1, p1, q1, rfl, rfl, rfl, h1, r1⟩ := trodAll_cons r0
  obtain ⟨v2, vs2, d2, ds2, p2, q2, rfl, rfl, rfl, h2, r2⟩ := trodAll_cons r1
  obtain ⟨rfl, rfl, rfl⟩ := trodAll_nil r2
  obtain rfl : args = #[v0, v1, v2] := by cases args; simp_all
  obtain ⟨rfl, rfl⟩ := trodVars_none hV
  have k0 := h0
  have lt0 : ∀ x ∈ p0, x.block < W.heap.size := by obtain ⟨m, hm⟩ := k0; exact DataW.trod_lt m _ _ _ hm
  obtain ⟨c0f0, c0f1, c0f2, c0f3, y0f0, y0f1, y0f2, y0f3, m0, rfl, _, _, e0f0, e0f1, e0f2, e0f3⟩ := Joins.open_agg4 Tryd.underlying29 (by kernel_rfl) (show Tryd.prog.cellsOf 29 = 4 by kernel_rfl) (hval 0 29 v0 rfl rfl) h0
  obtain ⟨a0f0, q0f0, _, w0f0⟩ := DataW.trod_int Tryd.underlying5 e0f0
  obtain rfl : c0f0 = .int .u8 a0f0 := by simpa using q0f0
  obtain ⟨a0f1, q0f1, _, w0f1⟩ := DataW.trod_int Tryd.underlying5 e0f1
  obtain rfl : c0f1 = .int .u8 a0f1 := by simpa using q0f1
  obtain ⟨a0f2, q0f2, _, w0f2⟩ := DataW.trod_int Tryd.underlying5 e0f2
  obtain rfl : c0f2 = .int .u8 a0f2 := by simpa using q0f2
  obtain ⟨a0f3, q0f3, _, w0f3⟩ := DataW.trod_int Tryd.underlying21 e0f3
  obtain rfl : c0f3 = .int .i32 a0f3 := by simpa using q0f3
  have k1 := h1
  have lt1 : ∀ x ∈ p1, x.block < W.heap.size := by obtain ⟨m, hm⟩ := k1; exact DataW.trod_lt m _ _ _ hm
  obtain ⟨a1, rfl, rfl, rfl⟩ := open_bool Tryd.underlying4 (hval 1 4 v1 rfl rfl) h1
  have k2 := h2
  have lt2 : ∀ x ∈ p2, x.block < W.heap.size := by obtain ⟨m, hm⟩ := k2; exact DataW.trod_lt m _ _ _ hm
  obtain ⟨x2, len2, cap2, rfl⟩ := okWide_slice Tryd.underlying31 (hval 2 31 v2 rfl rfl)
  obtain ⟨z2, w2⟩ : ∃ zs, IsRow .u8 W x2 len2 cap2 zs := by
    obtain ⟨fuel, hf⟩ := h2
    rcases open_ints Tryd.underlying31 Tryd.underlying5 (by kernel_rfl) hf with ⟨hcs, _⟩ | ⟨x, l, c, zs, hcs, _, hl, hm, hz, _, hcell, hwz⟩
    · simp [Value.cells] at hcs
      obtain ⟨rfl, rfl, rfl⟩ := hcs
      exact ⟨[], .inl ⟨rfl, rfl, rfl, rfl⟩⟩
    · simp [Value.cells] at hcs
      obtain ⟨rfl, rfl, rfl⟩ := hcs
      exact ⟨zs, .inr ⟨_, rfl, hl, hm, by simpa using hz, hcell, hwz⟩⟩
  clear hA0 hval0
  refine (walk a0f0 w0f0 a0f1 w0f1 a0f2 w0f2 a0f3 w0f3 a1 x2 len2 cap2 z2 W w2 (tabs_of_laid hL)).mono fun e W' ⟨he, bel0⟩ => ?_
  have bel : Below W.heap.size W W' := bel0
  subst he
  exact ⟨_, rfl, _, _, _, [], _, [], hW', trodAll_mk1 (shut_bool Tryd.underlying4 _), (trodAll_cons_mk (Below.trod laidOut (by kernel_rfl) (of_decide_eq_true (by kernel_rfl)) k0 bel lt0) (trodAll_cons_mk (Below.trod laidOut (by kernel_rfl) (of_decide_eq_true (by kernel_rfl)) k1 bel lt1) (trodAll_cons_mk (Below.trod laidOut (by kernel_rfl) (of_decide_eq_true (by kernel_rfl)) k2 bel lt2) trodAll_mk0))), rfl, bel.frame _, fun h => by cases h⟩

theorem over : Rows.isaBackRow.holds Tryd.pinned (OpenSpec.ofChange Rows.isaBackSpec) :=
  OpenClaim.holds_of_wide 7 Tryd.f7 rfl rfl rfl rfl rfl rfl rfl ⟨rfl, rfl, rfl, rfl, rfl⟩ rfl rfl rfl rfl rfl (by kernel_rfl) Tryd.func7 (by kernel_rfl)
    (of_decide_eq_true (by kernel_rfl)) (by unfold Func.isWrapper; first | (rw [if_pos (by decide +kernel)]; kernel_rfl) | (rw [if_neg (by decide +kernel)]; exact ⟨rfl, rfl⟩))
    (fun os started H enc _ => lifted os started H enc)
end Go.Proofs.YtoealddommhgnaaDoor.isaBack
namespace Go.Proofs.YtoealddommhgnaaDoor

theorem isaBack_holds : Rows.IsaBackCardSaid :=
  Claim7.holds_tied_plain_at .later [] [.data, .data] true (true, "4a4c378768b5a2fc616b7a386bed56ba70b6b05b59bcd584326e4ab8cf124c1f") false isaBack.over (fun _ h => by cases h) (by kernel_rfl) (fun _ h => by cases h) isaBack_row_tie rfl ⟨rfl, rfl⟩ (by kernel_rfl) rfl
    (fun f fn hf hfn => by
      obtain rfl : f = 7 := Option.some.inj ((show Tryd.prog.funcNamed "mummer/mummerlaw02.IsaBack" = some 7 by kernel_rfl).symm.trans hf) |>.symm
      obtain rfl : fn = Tryd.f7 := (Option.some.inj (Tryd.func7.symm.trans hfn)).symm
      exact ⟨by kernel_rfl, fun j t ht => by
        rw [Tryd.params7] at ht
        have hm : t ∈ [29, 4, 31] := by simpa using Array.mem_of_getElem? ht
        have hall : ([29, 4, 31].all fun u => !Tryd.prog.wantsStandIn u) = true := by kernel_rfl
        exact (show Tryd.prog.wantsStandIn t = false by simpa using List.all_eq_true.1 hall t hm)⟩)
    (by kernel_rfl)
#print axioms isaBack_holds
end Go.Proofs.YtoealddommhgnaaDoor
