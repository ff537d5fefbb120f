/- The document's devices are made; when the next event may come; the queue's first byte is read. -/
import Derived.Test.YtpieeefeicdfgabVrdi
import Derived.Test.YtpieeefeicdfgabVout
namespace Go.Proofs.Ytpieeefeicdfgab
open Go.RowKit
set_option linter.unusedVariables false
set_option linter.unusedSimpArgs false

theorem drop_cons {α : Type} {l r : List α} {c : Nat} {e : α} (h : l.drop c = e :: r) : l[c]? = some e ∧ c < l.length ∧ l.drop (c + 1) = r := by
  have h1 : l[c]? = some e := by have := congrArg (fun x => x[0]?) h; simpa [List.getElem?_drop] using this
  refine ⟨h1, (List.getElem?_eq_some_iff.1 h1).1, ?_⟩
  have := congrArg (List.drop 1) h
  simpa [List.drop_drop] using this
theorem drop_nil {α : Type} {l : List α} {c : Nat} (h : l.drop c = []) (hc : c ≤ l.length) : c = l.length := by
  have := congrArg List.length h; simp at this; omega

set_option maxHeartbeats 1000000 in
theorem rnext_any {w : World} {p : Nat} {s : DS} {xS : Option Addr} {cS : Nat} {E0 : List Ev} {F : List Nat} (h : RDv w p s (.slice xS E0.length cS) E0 F) (ok : s.Ok) (hE : E0.length ≤ 64) (hS : Lies w xS (evs E0)) (step : Int) (hs : -9223372036854775808 ≤ step ∧ step ≤ 9223372036854775807) :
    Calls Try.prog 43 #[.pointer (some ⟨p, 0, none⟩), .int .i64 step] w fun e w' => e = .returned (.tuple (nextV s step)) ∧ Kep w w' := by
  obtain ⟨c, k, f, t, vq, vo, vd, Fq, Fo, Fd, D, hF⟩ := h
  have c0 : w.cell? ⟨p, 0, none⟩ = some (.slice xS E0.length cS) := D.c' 0
  have c1 : w.cell? ⟨p, 1, none⟩ = some (.int .i64 c) := D.c' 1
  have hD := D.E
  cases hx : s.E with
  | nil =>
    rw [hx] at hD
    have hc := drop_nil hD.symm D.lc
    have e : nextV s step = #[.int .i64 0, .bool false] := by unfold nextV; rw [hx]
    rw [e]
    have hn : (E0.length : Int) ≤ c := by omega
    have hn' : (E0.length ≤ c) = True := eq_true (by omega)
    generalize E0.length = n at *
    clear D hD hx e hS hc
    go_enter Try.func43, Try.ntmps43
    go_wp2_with fail
    go_quiet (fail)
    go_wp2_with fail
    go_ret2
    exact ⟨rfl, by (repeat (first | (with_reducible assumption) | (with_reducible exact Kep.refl _) | (with_reducible exact Hid.out (by assumption)) | (with_reducible refine Kep.alloc ?_ _) | (with_reducible refine Kep.drew ?_) | (with_reducible refine Kep.drewN ?_ _) | (with_reducible refine Kep.setRow ?_ _ _ (by (first | omega | (simp only [World.size_alloc, World.size_setCell, size_setRow, World.size_drew]; done) | (simp only [World.size_alloc, World.size_setCell, size_setRow, World.size_drew]; omega)))) | (with_reducible refine Kep.setCell ?_ (by first | omega | (simp only []; omega) | (show _ ≤ _; omega)) _)))⟩
  | cons e r =>
    rw [hx] at hD
    obtain ⟨hc1, hc2, _⟩ := drop_cons hD.symm
    obtain ⟨ea, eb, ec⟩ := e
    have hw := (ok.ev (ea, eb, ec) (by rw [hx]; simp)).1
    unfold wrongB at hw
    simp only [Bool.or_eq_false_iff, decide_eq_false_iff_not] at hw
    have ha0 : 0 ≤ ea := by omega
    have ha1 : ea ≤ 1073741824 := by omega
    rcases hS with h0 | ⟨b, off, hxs, hb, hcell⟩
    · have := evs_len E0; rw [h0] at this; simp at this; omega
    subst hxs
    have e0 : w.cell? ⟨b, off + c * 3, none⟩ = some (.int .i64 ea) := hcell _ _ (by have := evs_at E0 c _ hc1 0 (by omega); simpa [evV] using this)
    have ev : Hid (nextV s step = #[.int .i64 (max (ea - max step 0) 0), .bool true]) := by unfold Hid nextV; rw [hx]
    rw [ev.out]
    have hn : (c : Int) < E0.length := by omega
    have hn' : (E0.length ≤ c) = False := eq_false (by omega)
    have hn2 : (E0.length : Int) ≤ 64 := by omega
    have hn3 : ((E0.length : Int) ≤ c) = False := eq_false (by omega)
    generalize E0.length = n at *
    obtain ⟨hs0, hs1⟩ := hs
    clear D hD hx hcell hw hc1
    go_enter Try.func43, Try.ntmps43
    go_wp2_with fail
    go_quiet (fail)
    go_wp2_with fail
    go_quiet (fail)
    go_wp2_with fail
    all_goals go_ret2
    all_goals refine ⟨ret_nb ?_, by (repeat (first | (with_reducible assumption) | (with_reducible exact Kep.refl _) | (with_reducible exact Hid.out (by assumption)) | (with_reducible refine Kep.alloc ?_ _) | (with_reducible refine Kep.drew ?_) | (with_reducible refine Kep.drewN ?_ _) | (with_reducible refine Kep.setRow ?_ _ _ (by (first | omega | (simp only [World.size_alloc, World.size_setCell, size_setRow, World.size_drew]; done) | (simp only [World.size_alloc, World.size_setCell, size_setRow, World.size_drew]; omega)))) | (with_reducible refine Kep.setCell ?_ (by first | omega | (simp only []; omega) | (show _ ≤ _; omega)) _)))⟩
    all_goals omega

/-- A row of one's own, one element more. -/
theorem own_grow {w wr : World} {x : Int} {k : Nat} {v : Value} {xs : List Value} (O : wr.ownsRow w.heap.size 5 1 v k xs) : (wr.alloc (.cells #[.int .u8 x] 5)).ownsRow w.heap.size 5 1 v k xs := (Soft.of_kep (B := 0) ((Kep.refl wr).alloc _)).owns O

set_option maxHeartbeats 1000000 in
theorem rnew11_any (w : World) (xS : Option Addr) (cS : Nat) (E0 : List Ev) (x1 : Option Addr) (c1 : Nat) (Z : List Int) (hn : (Z.length : Int) ≤ 2048) (hc : Z.length ≤ c1) (hl : Lies w x1 (byt Z)) :
    Calls Try.prog 14 #[.slice xS E0.length cS, .slice x1 Z.length c1] w fun e w' => ∃ p F, e = .returned (.pointer (some ⟨p, 0, none⟩)) ∧ RDv w' p (ds0 E0 Z) (.slice xS E0.length cS) E0 F ∧ Kep w w' ∧ ∀ g ∈ F, w.heap.size ≤ g := by
  obtain ⟨i0, hi, hz0, hz1, hz2⟩ := info_parts vinfo_u8
  have hl' : Hid (Lies w x1 (byt Z)) := hl
  have hc' : (Z.length : Int) ≤ c1 := by omega
  obtain ⟨n, hZ⟩ : ∃ n, Hid (n = Z.length) := ⟨_, rfl⟩
  obtain ⟨nS, hE⟩ : ∃ n, Hid (n = E0.length) := ⟨_, rfl⟩
  rw [← hZ.out, ← hE.out]
  rw [← hZ.out] at hn hc'
  clear hl hc
  go_enter Try.func14, Try.ntmps14
  go_wp2_with fail
  go_loopw [5, 6] (fun a i wr => ∃ k : Nat, (k : Int) ≤ n ∧ i = .int .i64 k ∧ Hid (Kep w wr) ∧ Hid (wr.ownsRow w.heap.size 5 1 a k (byt (Z.take k)))) (fun _ i _ => n - (intOf i).toNat)
  case atStart => exact ⟨0, by omega, rfl, Kep.refl _, World.ownsRow_nil _ _ _ _⟩
  case round =>
    obtain ⟨k, hk, rfl, K, O⟩ := hrel
    by_cases hlt : k < n
    · have hlt' : (k : Int) < n := by omega
      have hlen := hZ.out
      obtain ⟨x, hx⟩ : ∃ x, Z[k]? = some x := ⟨_, List.getElem?_eq_getElem (by omega)⟩
      rcases (hl'.out.kep K.out) with h0 | ⟨b, off, rfl, hb, hcell⟩
      · have := congrArg List.length h0; rw [byt_len] at this; simp only [List.length_nil] at this; omega
      have cx : wr.cell? ⟨b, off + k, none⟩ = some (.int .u8 x) := hcell k _ (by rw [byt_at, hx]; rfl)
      obtain ⟨xa, ca, rfl⟩ := owns_form O.out
      have hnx : Hid (byt (Z.take (k + 1)) = byt (Z.take k) ++ [.int .u8 x]) := by rw [Hid, List.take_add_one, hx]; simp [byt]
      have oB : Hid ((wr.alloc (.cells #[.int .u8 x] 5)).ownsRow w.heap.size 5 1 (.slice xa k ca) k (byt (Z.take k))) := own_grow O.out
      have sB : Hid (w.heap.size ≤ (wr.alloc (.cells #[.int .u8 x] 5)).heap.size) := by have := K.out.size; rw [Hid, World.size_alloc]; omega
      clear hcell hlen hx hlt
      go_wp2_with (at_builtin; refine wpList_append_own _ rfl (.tmp 13) (.tmp 18) 37 rfl w.heap.size 5 i0 _ 1 1 Try.underlying37 hi hz0 hz1 hz2 rfl (by decide) _ k (byt (Z.take k)) rfl oB.out ⟨wr.heap.size, 0, none⟩ 1 1 [.int .u8 x] rfl rfl cell_news (by simp [Value.oneCell']) (by unfold maxLen; omega) (by omega) sB.out ?_; intro v' w1 hown hgrow _; have hown' : Hid _ := hown; have hgrow' : Hid _ := hgrow; clear hown hgrow)
      go_roundw
      case rel =>
        refine ⟨k + 1, by omega, by go_num, (kep_trans K.out ((Kep.refl wr).alloc _)).by hgrow'.out (fun b e => (World.ownsRow.lt oB.out b e).1), ?_⟩
        rw [Hid, hnx.out]; exact hown'.out
      case measure => simp [intOf]; omega
    · obtain ⟨xa, ca, rfl⟩ := owns_form O.out
      clear hl'
      go_wp2_with fail
      go_ret
      obtain ⟨G, s1, s2⟩ := Sli.of_owns O.out
      have hkn : k = n := by omega
      rw [List.take_of_length_le (by have := hZ.out; omega)] at s1
      have kA : Kep wr (wr.alloc (.cells (rdC (ds0 E0 Z) (.slice xS nS cS) 0 0 0 0 (.slice none 0 0) (.slice none 0 0) (.slice xa k ca)) 61)) := (Kep.refl _).alloc _
      have hG : wr.heap.size ∉ G := fun hm => by have := s1.lt _ hm; omega
      refine ⟨wr.heap.size, wr.heap.size :: ([] ++ ([] ++ G)), rfl, ⟨0, 0, 0, 0, _, _, _, [], [], G, ⟨hat _ _ _ rfl, Sli.nil _ _ _, Sli.nil _ _ _, ?_, by simp [ds0], by omega, by simp [ds0], by simp, by simp, hG, by simp, by simp, by simp⟩, rfl⟩, kep_trans K.out kA, ?_⟩
      · have := s1.kep kA
        show Sli _ 5 1 _ Z.length (byt Z) G
        rw [← hZ.out, ← hkn]; exact this
      · intro g hg
        simp at hg
        rcases hg with rfl | hg
        · exact K.out.size
        · exact s2 g hg

set_option maxHeartbeats 1000000 in
theorem rread_any {w : World} {p : Nat} {s : DS} {vS : Value} {E0 : List Ev} {F : List Nat} (h : RDv w p s vS E0 F) (ok : s.Ok) (port : Int) :
    Calls Try.prog 49 #[.pointer (some ⟨p, 0, none⟩), .int .i64 port] w fun e w' => e = .returned (.int .u32 (inI s port)) ∧ ∃ F', RDv w' p (readS s port) vS E0 F' ∧ Put F w w' ∧ ∀ g ∈ F', g ∈ F ∨ w.heap.size ≤ g := by
  have HI : Hid (Calls Try.prog 48 #[.pointer (some ⟨p, 0, none⟩), .int .i64 port] w fun e w' => e = .returned (.int .u32 (inI s port)) ∧ Kep w w') := rin_any h ok port
  have h' : Hid (RDv w p s vS E0 F) := h
  obtain ⟨c, k, f, t, vq, vo, vd, Fq, Fo, Fd, D, hF⟩ := h
  have hF' : Hid (F = p :: (Fq ++ (Fo ++ Fd))) := hF
  have D' : Hid (RDAt w p s vS E0 c k f t vq vo vd Fq Fo Fd) := D
  have hq32 : Hid (s.Q.length ≤ 32) := ok.q
  generalize hr : inI s port = r at HI ⊢
  have h4 : Hid (∀ w', Kep w w' → w'.cell? ⟨p, 4, none⟩ = some vq ∧ w'.frozen? ⟨p, 4, none⟩ = false) := fun w' K => ⟨(D.kep K).c' 4, (D.kep K).fz 4⟩
  obtain ⟨xq, cq, hvq, hlq, hq1, hq2, _⟩ := D.q.lies
  by_cases h0 : port = 0
  · subst h0
    clear hr hF ok
    by_cases hQ : s.Q.length = 0
    · have hQ' := List.eq_nil_of_length_eq_zero hQ
      have e : readS s 0 = s := by unfold readS; rw [if_pos rfl, hQ']; cases s; simp at hQ'; subst hQ'; rfl
      rw [e]
      rw [hQ] at hvq
      subst hvq
      clear D hlq hq1 hq2 hQ hQ' e
      go_enter Try.func49, Try.ntmps49
      go_wp2_with fail
      refine HI.out.mono ?_
      rintro e w1 ⟨rfl, k1⟩
      have K1 : Hid (Kep w w1) := k1
      have c4 := (h4.out _ k1).1
      clear k1
      go_wp2_with fail
      go_ret
      exact ⟨rfl, F, h'.out.kep K1.out, Put.of_kep K1.out, fun g hg => .inl hg⟩
    · have e : readS s 0 = { s with Q := s.Q.drop 1 } := by unfold readS; rw [if_pos rfl]
      rw [e]
      obtain ⟨i0, hi, hz0, hz1, hz2⟩ := info_parts vinfo_u8
      obtain ⟨n, hn⟩ : ∃ n, Hid (n = s.Q.length) := ⟨_, rfl⟩
      rw [← hn.out] at hvq hq1 hQ
      subst hvq
      have n0 : (0 : Int) < n := by omega
      have n0' : (0 < n) = True := eq_true (by omega)
      have n1 : (n : Int) ≤ 32 := by have := hq32.out; have := hn.out; omega
      have n2 : (n : Int) ≤ cq := by omega
      have hlq' : Hid (Lies w xq (byt s.Q)) := hlq
      clear D hlq hq1 hq2 hQ e
      go_enter Try.func49, Try.ntmps49
      go_wp2_with fail
      refine HI.out.mono ?_
      rintro e w1 ⟨rfl, k1⟩
      have K1 : Hid (Kep w w1) := k1
      have c4 := (h4.out _ k1).1
      clear k1 HI
      go_wp2_with fail
      clear c4
      go_loopw [6, 7] (fun a i wr => ∃ j : Nat, 1 ≤ (j : Int) ∧ (j : Int) ≤ n ∧ i = .int .i64 j ∧ Hid (Kep w wr) ∧ Hid (wr.ownsRow w.heap.size 5 1 a (j - 1) (byt ((s.Q.drop 1).take (j - 1))))) (fun _ i _ => n - (intOf i).toNat)
      case atStart => exact ⟨1, by omega, by omega, rfl, K1, World.ownsRow_nil _ _ _ _⟩
      case round =>
        obtain ⟨j, hj1, hj, rfl, K, O⟩ := hrel
        have c4 := (h4.out _ K.out).1
        by_cases hlt : j < n
        · have hlt' : (j : Int) < n := by omega
          have hlen := hn.out
          obtain ⟨x, hx⟩ : ∃ x, s.Q[j]? = some x := ⟨_, List.getElem?_eq_getElem (by omega)⟩
          rcases (hlq'.out.kep K.out) with h0 | ⟨b, off, rfl, hb, hcell⟩
          · have := congrArg List.length h0; rw [byt_len] at this; simp only [List.length_nil] at this; omega
          have cx : wr.cell? ⟨b, off + j, none⟩ = some (.int .u8 x) := hcell j _ (by rw [byt_at, hx]; rfl)
          obtain ⟨xa, ca, rfl⟩ := owns_form O.out
          have hnx : Hid (byt ((s.Q.drop 1).take j) = byt ((s.Q.drop 1).take (j - 1)) ++ [.int .u8 x]) := by
            obtain ⟨i, rfl⟩ : ∃ i, j = i + 1 := ⟨j - 1, by omega⟩
            rw [Hid, Nat.add_sub_cancel, List.take_add_one, List.getElem?_drop, Nat.add_comm 1 i, hx]; simp [byt]
          have oB : Hid ((wr.alloc (.cells #[.int .u8 x] 5)).ownsRow w.heap.size 5 1 (.slice xa (j - 1) ca) (j - 1) (byt ((s.Q.drop 1).take (j - 1)))) := own_grow O.out
          have sB : Hid (w.heap.size ≤ (wr.alloc (.cells #[.int .u8 x] 5)).heap.size) := by have := K.out.size; rw [Hid, World.size_alloc]; omega
          clear hcell hlen hx hlt
          go_wp2_with (at_builtin; refine wpList_append_own _ rfl (.tmp 30) (.tmp 38) 37 rfl w.heap.size 5 i0 _ 1 1 Try.underlying37 hi hz0 hz1 hz2 rfl (by decide) _ (j - 1) (byt ((s.Q.drop 1).take (j - 1))) rfl oB.out ⟨wr.heap.size, 0, none⟩ 1 1 [.int .u8 x] rfl rfl cell_news (by simp [Value.oneCell']) (by unfold maxLen; omega) (by omega) sB.out ?_; intro v' w1 hown hgrow _; have hown' : Hid _ := hown; have hgrow' : Hid _ := hgrow; clear hown hgrow)
          go_roundw
          case rel =>
            refine ⟨j + 1, by omega, by omega, by go_num, (kep_trans K.out ((Kep.refl wr).alloc _)).by hgrow'.out (fun b e => (World.ownsRow.lt oB.out b e).1), ?_⟩
            rw [Hid, Nat.add_sub_cancel, hnx.out]
            have := hown'.out
            rw [show j - 1 + 1 = j by omega] at this; exact this
          case measure => simp [intOf]; omega
        · obtain ⟨xa, ca, rfl⟩ := owns_form O.out
          have f4 := (h4.out _ K.out).2
          clear hlq'
          go_wp2_with fail
          go_ret
          have hjn : j = n := by omega
          have O2 := O.out
          rw [List.take_of_length_le (by rw [List.length_drop]; have := hn.out; omega)] at O2
          obtain ⟨G, s1, s2⟩ := Sli.of_owns O2
          have hl : (s.Q.drop 1).length = j - 1 := by rw [List.length_drop]; have := hn.out; omega
          obtain ⟨r1, r2, r3⟩ := D'.out.newq (Q' := s.Q.drop 1) (Put.of_kep K.out) (F1 := G) (by rw [hl]; exact s1) (fun g hg => .inr (s2 g hg))
          exact ⟨rfl, _, ⟨_, _, _, _, _, _, _, _, _, _, r1, rfl⟩, by rw [hF'.out]; exact r2, fun g hg => by rw [hF'.out]; exact r3 g hg⟩
  · have e : readS s port = s := by unfold readS; rw [if_neg h0]
    rw [e]
    have t0 : (port == 0) = false := by simp [h0]
    subst hvq
    clear D hr hlq hq1 hq2 h0 e hF ok
    go_enter Try.func49, Try.ntmps49
    go_wp2_with fail
    refine HI.out.mono ?_
    rintro e w1 ⟨rfl, k1⟩
    have K1 : Hid (Kep w w1) := k1
    clear k1
    go_wp2_with fail
    go_ret
    exact ⟨rfl, F, h'.out.kep K1.out, Put.of_kep K1.out, fun g hg => .inl hg⟩
end Go.Proofs.Ytpieeefeicdfgab
