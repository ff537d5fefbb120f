/- Part of a proof. -/
import Derived.Deep.RegionWith
import Derived.Deep.RegionHeld3
import Derived.Test.YtnignfloedcmlaaGreatDoorJ44
namespace Go.Proofs.YtnignfloedcmlaaGreatDoor
open Go.RowKit
set_option linter.unusedVariables false
set_option linter.unusedSimpArgs false
def imgL (n : Nat) (Z : List Int) : List Int := layL (List.replicate (64 * n) 0) (List.range n) 0 Z
def errM (n : Int) (l : Nat) (ps : Int) (E : List Ev) (D : List Int) : Int := if n < 1 ∨ 64 < n then 2 else if n * 64 < l then 3 else if psB ps = false then 2 else errI E D
theorem imgL_len (n : Nat) (Z : List Int) : (imgL n Z).length = 64 * n := by unfold imgL; rw [layL_len]; simp
theorem imgL_byts (n : Nat) {Z : List Int} (h : Byts Z) : Byts (imgL n Z) := Byts.layL _ _ _ _ (byts_zero _) h
theorem src_of {w w' : World} {x : Option Addr} {Z : List Int} {R : Nat} (h : Lies w x (byt Z)) (K : Kep w w') (hR : w.heap.size ≤ R) : Src w' x Z [R] := by
  rcases h with h | ⟨b, off, e, hb, hc⟩
  · refine .inl ?_
    have := congrArg List.length h
    rw [byt_len] at this
    exact List.eq_nil_of_length_eq_zero (by simpa using this)
  · refine .inr ⟨b, off, e, K.lt hb, by simp; omega, fun i hi => (K.cell hb).trans (hc i _ ?_)⟩
    rw [byt_at, List.getElem?_eq_getElem hi]
    simp [List.getD, hi]
set_option maxHeartbeats 8000000 in
set_option maxRecDepth 100000 in
theorem new_mem (w : World) (n : Nat) (h1 : 1 ≤ n) (h2 : n ≤ 64) (xi : Option Addr) (Z : List Int) (li ci : Nat) (hl : Z.length = li) (hlc : li ≤ ci) (hmax : (ci : Int) ≤ 9223372036854775807) (hZ : Byts Z) (hli : li ≤ 64 * n) (hi : Lies w xi (byt Z)) (s : Sta) (vx vy : Value) {Q : Ending → World → Prop}
    (k : ∀ w' pm R, Kep w w' → w.heap.size ≤ R → Mem w' (mpt pm) R (List.range n) (imgL n Z) → Calls Tryz.prog 12 #[.pointer (some ⟨pm, 0, none⟩), .agg s.v, vx, vy] w' Q) (hQ : ∀ e w', Q e w' → ∃ a b, e = .returned (.tuple #[a, b])) :
    Calls Tryz.prog 4 #[.int .i64 n, .slice xi li ci, .agg s.v, vx, vy] w Q := by
  have HM : Hid (∀ w', Calls Tryz.prog 9 #[.int .i64 n] w' fun e w'' => e = .returned (.bool true) ∧ w'' = w') := fun w' => by
    have := mayHave_any n w'
    rw [show (decide ((1 : Int) ≤ n) && decide ((n : Int) ≤ 64)) = true by simp; omega] at this
    exact this
  have HR : Hid (∀ w', Calls Tryz.prog 10 #[.int .i64 n] w' fun e w'' => ∃ p : Nat, e = .returned (.tuple #[.pointer (some ⟨p, 0, none⟩), .int .i64 0]) ∧ Own w' w'' (.pointer (some ⟨p, 0, none⟩)) w'.heap.size n (List.replicate (64 * n) 0)) := fun w' => new_any w' n h1 (by omega)
  have HF : Hid (∀ w' w'' p, Kep w w' → Own w' w'' (.pointer (some ⟨p, 0, none⟩)) w'.heap.size n (List.replicate (64 * n) 0) → Calls Tryz.prog 11 #[.pointer (some ⟨p, 0, none⟩), .int .u32 0, .slice xi li ci] w'' fun e w3 => (∃ y, e = .returned (.bool y)) ∧ Put [w'.heap.size] w'' w3 ∧ Kep w w3 ∧ Mem w3 (mpt p) w'.heap.size (List.range n) (imgL n Z)) := fun w' w'' p K O => by
    have hlen : (List.replicate (64 * n) (0 : Int)).length = 64 * n := by simp
    have S : Src w'' xi Z [w'.heap.size] := src_of hi (kep_trans K O.kep) K.size
    have hw := fill_put w'' (mpt p) w'.heap.size (List.range n) _ O.ram (by simp; omega) O.row (fits_range hlen) 0 (by decide) xi Z li ci hl hlc hmax S
    refine hw.mono ?_
    rintro e w3 ⟨rfl, p3, r3⟩
    have hlt : 0 + li ≤ 64 * (List.range n).length := by simp; omega
    rw [if_pos hlt] at r3
    refine ⟨⟨_, rfl⟩, p3, (kep_trans K O.kep).put p3 (by simpa using K.size), ⟨O.ram.put p3, r3, fits_range (imgL_len n Z), imgL_byts n hZ, by simp; omega⟩⟩
  have t1 : decide ((n : Int) * 64 < (li : Int)) = false := decide_eq_false (by omega)
  have hn : (n : Int) ≤ 64 := by omega
  have K' := hidd k
  have Q' := hidd hQ
  obtain ⟨W, hW⟩ : ∃ W, Hid (w.alloc (.cells s.v 26) = W) := ⟨_, rfl⟩
  have KW : Hid (Kep w W) := by rw [Hid, ← hW.out]; exact (Kep.refl w).alloc _
  have SW : Hid (W.heap[w.heap.size]? = some (.cells s.v 26 (0, 0))) := by rw [Hid, ← hW.out]; exact hat _ _ _ rfl
  clear k hQ hl hlc hZ hli hi h1 h2
  go_enter Tryz.func4, Tryz.ntmps4
  go_upto_region 1 with fail
  rw [hW.out]
  go_wp2_with (go_at_call 9; refine (HM.out _).mono ?_; rintro e W ⟨rfl, rfl⟩)
  refine (HR.out W).mono ?_
  rintro e w1 ⟨pm, rfl, O⟩
  have O' := hidd O
  have S1 := hidd (O.kep.block SW.out)
  clear O
  go_wp2_with fail
  refine (HF.out W w1 pm KW.out O'.out).mono ?_
  rintro e w2 ⟨⟨y, rfl⟩, p2, k2, m2⟩
  have S2 := hidd (p2.keeps S1.out (by have := block_lt SW.out; simp; omega))
  have C2 := hidd (K'.out w2 pm W.heap.size k2 (by have := KW.out.size; omega) m2)
  clear p2 k2 m2
  go_wp2_with (refine wpList_load_row (by rfl) 26 _ (by rfl) w.heap.size (by rfl) 26 _ (0, 0) _ S2.out Tryz.underlying26 rfl (by exact size_sta) ?_)
  refine C2.out.mono ?_
  intro e w3 hq
  obtain ⟨a, b, rfl⟩ := Q'.out e w3 hq
  have Z3 := hidd hq
  clear hq
  go_wp2_with fail
  exact Z3.out
theorem mnew_ok {w : World} (n : Nat) (h1 : 1 ≤ n) (h2 : n ≤ 64) {xi : Option Addr} {Z : List Int} {li ci : Nat} (hl : Z.length = li) (hlc : li ≤ ci) (hmax : (ci : Int) ≤ 9223372036854775807) (hZ : Byts Z) (hli : li ≤ 64 * n) (hi : Lies w xi (byt Z)) (s : Sta) (ok : s.Ok) (hp : psB s.ps = true) {x : Option Addr} {ne cap : Nat} {E : List Ev} {y : Option Addr} {m c : Nat} {D : List Int} (I : ScrD w x ne cap E y m c D) (he : errI E D = 0) (hT : Tabs w) :
    Calls Tryz.prog 4 #[.int .i64 n, .slice xi li ci, .agg s.v, .slice x ne cap, .slice y m c] w fun e w' => ∃ p pm R G, e = .returned (.tuple #[.pointer (some ⟨p, 0, none⟩), .int .i64 0]) ∧ Mach w' p pm R (List.range n) (ms0 E D (imgL n Z) s) G ∧ Kep w w' ∧ ∀ g ∈ R :: G, w.heap.size ≤ g := by
  have h2s := (tabs_size hT).2
  refine new_mem w n h1 h2 xi Z li ci hl hlc hmax hZ hli hi s _ _ (fun w' pm R K hR M => ?_) (fun e w' h => ?_)
  · have hne : imgL n Z ≠ [] := fun e => by have := imgL_len n Z; rw [e] at this; simp at this; omega
    refine (over_ok M hne (by intro e; have := congrArg List.length e; simp at this; omega) (by omega) s ok hp (I.kep K) he (by have := K.size; omega)).mono ?_
    rintro e w'' ⟨p, G, rfl, m1, k1, f1⟩
    refine ⟨p, pm, R, G, rfl, m1, kep_trans K k1, fun g hg => ?_⟩
    rcases List.mem_cons.1 hg with rfl | hg
    · exact hR
    · have := f1 g hg; have := K.size; omega
  · obtain ⟨p, pm, R, G, rfl, _⟩ := h
    exact ⟨_, _, rfl⟩
theorem mnew_no {w : World} (n : Nat) (h1 : 1 ≤ n) (h2 : n ≤ 64) {xi : Option Addr} {Z : List Int} {li ci : Nat} (hl : Z.length = li) (hlc : li ≤ ci) (hmax : (ci : Int) ≤ 9223372036854775807) (hZ : Byts Z) (hli : li ≤ 64 * n) (hi : Lies w xi (byt Z)) (s : Sta) (ok : s.Ok) {x : Option Addr} {ne cap : Nat} {E : List Ev} {y : Option Addr} {m c : Nat} {D : List Int} (I : ScrD w x ne cap E y m c D) (he : psB s.ps = false ∨ errI E D ≠ 0) :
    Calls Tryz.prog 4 #[.int .i64 n, .slice xi li ci, .agg s.v, .slice x ne cap, .slice y m c] w fun e w' => e = .returned (.tuple #[.pointer none, .int .i64 (if psB s.ps = false then 2 else errI E D)]) ∧ Kep w w' := by
  refine new_mem w n h1 h2 xi Z li ci hl hlc hmax hZ hli hi s _ _ (fun w' pm R K hR M => ?_) (fun e w' h => ⟨_, _, h.1⟩)
  have hix : List.range n ≠ [] := by intro e; have := congrArg List.length e; simp at this; omega
  cases hp : psB s.ps with
  | false =>
    rw [if_pos rfl]
    refine (over_ps M hix s ok hp _ _ _ _ _ _).mono ?_
    rintro e w'' ⟨rfl, k1⟩
    exact ⟨rfl, kep_trans K k1⟩
  | true =>
    rw [if_neg (by decide)]
    refine (over_dev M hix s ok hp (I.kep K) (he.resolve_left (by rw [hp]; decide))).mono ?_
    rintro e w'' ⟨rfl, k1⟩
    exact ⟨rfl, kep_trans K k1⟩
def strL (l : List Int) : ByteArray := l.foldl (fun r n => r.push (UInt8.ofNat n.toNat)) ByteArray.empty
theorem rd_string {w : World} {v : Value} {B : List Int} (h : Rd w v B) : Sem.run Tryz.prog (convert 22 9 v) w = .ok (.string (strL B)) w := by
  obtain ⟨g, off, c, rfl, hc⟩ := h
  rw [run_convert_bytes_string w 22 9 5 _ _ c Tryz.underlying22 Tryz.underlying5 Tryz.underlying9]
  refine run_bytesToString w ⟨g, off, none⟩ _ c B ?_
  have := run_loadCells_list (P := Tryz.prog) w ⟨g, off, none⟩ (byt B) hc
  rw [byt_len] at this
  exact this
theorem nil_string (w : World) : Sem.run Tryz.prog (convert 22 9 (.slice none 0 0)) w = .ok (.string (strL [])) w := by kernel_rfl
def Str (w : World) (v : Value) (s : ByteArray) : Prop := ∀ w', Kep w w' → Sem.run Tryz.prog (convert 22 9 v) w' = .ok (.string s) w'
theorem Lies.str {w : World} {x : Option Addr} {B : List Int} {cap : Nat} (h : Lies w x (byt B)) (hx : x = none → B.length = 0 ∧ cap = 0) (hs : ∀ a, x = some a → a.spot = none) : Str w (.slice x B.length cap) (strL B) := by
  cases x with
  | none =>
    obtain ⟨h0, rfl⟩ := hx rfl
    obtain rfl := List.eq_nil_of_length_eq_zero h0
    exact fun w' _ => nil_string w'
  | some a =>
    intro w' k
    obtain ⟨g, off, sp⟩ := a
    obtain rfl : sp = none := hs _ rfl
    refine rd_string ⟨g, off, cap, rfl, fun j u hj => ?_⟩
    rcases h.kep k with h0 | ⟨b, o, e, _, hc⟩
    · rw [h0] at hj; simp at hj
    · cases e; rw [Addr.add_lit]; exact hc j u hj
set_option maxRecDepth 100000 in
theorem Lies.strAny {w : World} {x : Option Addr} {B : List Int} {cap : Nat} (h : Lies w x (byt B)) : Str w (.slice x B.length cap) (strL B) := by
  by_cases hB : B = []
  · subst hB
    cases x with
    | none => exact fun w' _ => rfl
    | some a =>
      intro w' _
      show Sem.run Tryz.prog (convert 22 9 (.slice (some a) 0 cap)) w' = _
      rw [run_convert_bytes_string w' 22 9 5 _ _ cap Tryz.underlying22 Tryz.underlying5 Tryz.underlying9]
      exact run_bytesToString w' a _ cap [] (run_loadCells_list (P := Tryz.prog) w' a [] (by simp))
  · rcases id h with h0 | ⟨b, off, e, hb, hc⟩
    · exfalso; have := congrArg List.length h0; rw [byt_len] at this; exact hB (List.eq_nil_of_length_eq_zero this)
    · exact h.str (fun e' => by rw [e] at e'; cases e') (fun a e' => by rw [e] at e'; cases e'; rfl)
def OwnB (w w' : World) (v : Value) (B : List Int) : Prop := ∃ G, Sli w' 5 1 v B.length (byt B) G ∧ ∀ g ∈ G, w.heap.size ≤ g
theorem output_any {w : World} {p : Nat} {s : DS} {F : List Nat} (h : Dev w p s F) (hO : (s.O.length : Int) ≤ 140737488355328) :
    Calls Tryz.prog 33 #[.pointer (some ⟨p, 0, none⟩)] w fun e w' => ∃ v, e = .returned v ∧ OwnB w w' v s.O ∧ Kep w w' := by
  have HW : (Hid (Calls Tryz.prog 46 #[.pointer (some ⟨p, 0, none⟩)] w fun e w' => e = .returned (.bool true) ∧ w' = w)) := h.works
  obtain ⟨vs, vq, vo, vb, Fs, Fq, Fo, Fb, D, hF⟩ := h
  have c5 : w.cell? ⟨p, 5, none⟩ = some vo := D.c 5
  obtain ⟨xo, co, hvo, hl, _⟩ := D.o.lies
  subst hvo
  have HC : Hid (Calls Tryz.prog 47 #[.slice xo s.O.length co] w fun e w' => ∃ v, e = .returned v ∧ w'.ownsRow w.heap.size 5 1 v s.O.length (byt s.O) ∧ Kep w w') := clone_u8 w xo s.O.length co (byt s.O) (by rw [byt_len]; omega) hl (byt_ones _) (by omega)
  clear D hl
  go_enter Tryz.func33, Tryz.ntmps33
  go_wp2_with (go_at_call 46; refine HW.out.mono ?_; rintro e w1 ⟨rfl, rfl⟩)
  refine HC.out.mono ?_
  rintro e w2 ⟨v, rfl, ho, k2⟩
  have HO : Hid _ := ho
  have K2 : Hid _ := k2
  clear ho k2
  go_wp2_with fail
  go_ret
  obtain ⟨G, s1, s2⟩ := Sli.of_owns HO.out
  exact ⟨_, rfl, ⟨G, s1, s2⟩, K2.out⟩
set_option maxHeartbeats 2000000 in
set_option maxRecDepth 100000 in
theorem bytes_any2 {w : World} {p : Nat} {s : DS} {F : List Nat} (h : Dev w p s F) (ok : s.Ok) :
    Calls Tryz.prog 48 #[.pointer (some ⟨p, 6, none⟩)] w fun e w' => ∃ v, e = .returned v ∧ OwnB w w' v s.D ∧ Kep w w' := by
  obtain ⟨vs, vq, vo, vb, Fs, Fq, Fo, Fb, D, hF⟩ := h
  have c6 : w.cell? ⟨p, 6, none⟩ = some vb := D.c 6
  obtain ⟨xb, cb, hvb, hl, hle, hmx, _⟩ := D.d.lies
  subst hvb
  obtain ⟨nb, hnb⟩ : ∃ nb, nb = s.D.length / 64 := ⟨_, rfl⟩
  rw [← hnb] at c6
  have h32 : (nb : Int) ≤ 32 := by have := ok.d; omega
  have hlen : s.D.length = 64 * nb := by have := ok.d6; omega
  have hmx' : (cb : Int) ≤ 9223372036854775807 := by unfold maxLen at hmx; omega
  have hle' : (nb : Int) ≤ cb := by omega
  obtain ⟨i0, hi, hz0, hz1, hz2⟩ := info_parts vinfo_u8
  have mk : ∀ w, Sem.run Tryz.prog (Instr.makeSlice 22 (.int .i64 0) (.int .i64 ((nb : Int) * 64))) w = .ok (.slice (some ⟨w.heap.size, 0, none⟩) 0 (nb * 64)) (w.alloc (.cells (madeCells #[.int .u8 0] (nb * 64)) 5)) := fun w => by
    obtain ⟨c, hc⟩ : ∃ c, c = nb * 64 := ⟨_, rfl⟩
    have e : ((c : Nat) : Int) = (nb : Int) * 64 := by omega
    rw [← e, ← hc]
    have := run_make (P := Tryz.prog) w 22 5 i0 _ Tryz.underlying22 hi hz0 .i64 .i64 0 c (by omega) (by omega) (by rw [hz2]; omega) (by omega)
    rw [hz1] at this
    simpa [Value.cells] using this
  have hmade : Hid (∀ w0 : World, w0.heap.size = w.heap.size → (w0.alloc (.cells (madeCells #[.int .u8 0] (nb * 64)) 5)).ownsRow w.heap.size 5 1 (.slice (some ⟨w0.heap.size, 0, none⟩) 0 (nb * 64)) 0 []) := fun w0 e => World.ownsRow_made w0 _ _ (by omega) (by unfold maxLen; omega) (by simp [madeCells])
  generalize madeCells #[.int .u8 0] (nb * 64) = Z at mk hmade
  have RG : Hid (∀ wr k, Kep w wr → k < nb → ∃ g off, xb = some ⟨g, off, none⟩ ∧ g < w.heap.size ∧ wr.rangeAt g (off + k * 64) (byt ((s.D.drop (64 * k)).take 64)) ∧ (byt ((s.D.drop (64 * k)).take 64)).length = 64) := fun wr k K hk => by
    have h1 := D.d
    rcases hl with h0 | ⟨g, off, e, hg, hc⟩
    · have := congrArg List.length h0; rw [byt_len] at this; simp only [List.length_nil] at this; omega
    · refine ⟨g, off, e, hg, fun j u hj => ?_, by rw [byt_len]; simp; omega⟩
      have hj64 : j < 64 := by have := (List.getElem?_eq_some_iff.1 hj).1; rw [byt_len] at this; simp at this; omega
      rw [byt_at, List.getElem?_take_of_lt hj64, List.getElem?_drop] at hj
      rw [K.cell hg, Nat.add_assoc]
      refine hc _ _ ?_
      rw [byt_at, Nat.mul_comm k 64]; exact hj
  have z0 := zero_blk
  have lp := block_lt D.box
  have hlen' : Hid (s.D.length = 64 * nb) := hlen
  clear D hl hle hmx ok hlen hnb
  go_enter Tryz.func48, Tryz.ntmps48
  go_wp2_with fail
  go_loopw [3, 5, 18] (fun a _ i wr => ∃ k : Nat, (k : Int) ≤ nb ∧ i = .int .i64 k ∧ Hid (Kep w wr) ∧ Hid (wr.ownsRow w.heap.size 5 1 a (64 * k) (byt (s.D.take (64 * k))))) (fun _ _ i _ => nb - (intOf i).toNat)
  case atStart => exact ⟨0, by omega, rfl, (Kep.refl w).alloc _, by have := hmade.out w rfl; rw [Hid]; simpa [byt] using this⟩
  case round =>
    obtain ⟨k, hk, rfl, K, O⟩ := hrel
    by_cases hlt : k < nb
    · have hlt' : (k : Int) < nb := by omega
      obtain ⟨g, off, rfl, hg, hr, hXl⟩ := RG.out wr k K.out hlt
      obtain ⟨xa, ca, rfl⟩ := owns_form O.out
      have hnx : Hid (byt (s.D.take (64 * (k + 1))) = byt (s.D.take (64 * k)) ++ byt ((s.D.drop (64 * k)).take 64)) := by
        rw [Hid, Nat.mul_add, Nat.mul_one, List.take_add]; simp [byt]
      have hxo : Hid (∀ u ∈ byt ((s.D.drop (64 * k)).take 64), u.oneCell' = true) := byt_one _
      generalize byt ((s.D.drop (64 * k)).take 64) = X at hr hXl hnx hxo
      have hr' : Hid (wr.rangeAt g (off + k * 64) X) := hr
      have hXl' : Hid (X.length = 64) := hXl
      have kB : Hid (Kep wr ((wr.alloc (.cells zb64 108)).setRow wr.heap.size X.toArray)) := ((Kep.refl wr).alloc _).setRow _ _ (Nat.le_refl _)
      have bB : Hid (((wr.alloc (.cells zb64 108)).setRow wr.heap.size X.toArray).heap[wr.heap.size]? = some (.cells X.toArray 108 (0, 0))) := setRow_heap _ _ _ _ _ _ (hat _ _ _ rfl)
      have oB : Hid (((wr.alloc (.cells zb64 108)).setRow wr.heap.size X.toArray).ownsRow w.heap.size 5 1 (.slice xa (64 * k) ca) (64 * k) (byt (s.D.take (64 * k)))) := (Soft.of_kep (B := 0) kB.out).owns O.out
      have nB : Hid (∀ j u, X[j]? = some u → ((wr.alloc (.cells zb64 108)).setRow wr.heap.size X.toArray).cell? ((⟨wr.heap.size, 0, none⟩ : Addr).add j) = some u) := fun j u hj => by rw [Addr.add_lit, Nat.zero_add, cell_of_block bB.out, List.getElem?_toArray]; exact hj
      have sB : Hid (w.heap.size ≤ ((wr.alloc (.cells zb64 108)).setRow wr.heap.size X.toArray).heap.size) := Nat.le_trans K.out.size kB.out.size
      clear hr hXl
      go_wp2_with (first
        | (refine wpList_load_mid rfl 108 (.tmp 20) rfl g (off + k * 64) rfl X _ hr'.out Tryz.underlying108 rfl (by rw [size_blk, hXl'.out]) ?_)
        | (refine wpList_store_row (by rfl) 108 (.tmp 5) (.tmp 21) (by rfl) wr.heap.size X.toArray (by rfl) (by rfl) 108 zb64 (hat _ _ _ rfl) (by rw [size_blk]; simp [hXl'.out]) (by simp [hXl'.out]; rfl) (by have := hxo.out; simpa using this) ?_)
        | (at_builtin; refine wpList_append_own _ rfl (.tmp 22) (.tmp 23) 22 rfl w.heap.size 5 i0 _ 1 1 Tryz.underlying22 hi hz0 hz1 hz2 rfl (by decide) _ (64 * k) (byt (s.D.take (64 * k))) rfl oB.out ⟨wr.heap.size, 0, none⟩ 64 64 X rfl (by rw [hXl'.out]) nB.out hxo.out (by unfold maxLen; omega) (by omega) sB.out ?_; intro v' w1 hown hgrow _; have hown' : Hid _ := hown; have hgrow' : Hid _ := hgrow; clear hown hgrow))
      go_roundw
      case rel =>
        refine ⟨k + 1, by omega, by go_num, (kep_trans K.out kB.out).by hgrow'.out (fun b e => (World.ownsRow.lt oB.out b e).1), ?_⟩
        rw [Hid, hnx.out, Nat.mul_add, Nat.mul_one]; exact hown'.out
      case measure => simp [intOf]; omega
    · go_wp2_with fail
      go_ret
      have hk' : k = nb := by omega
      have := O.out
      rw [List.take_of_length_le (by have := hlen'.out; omega)] at this
      obtain ⟨G, s1, s2⟩ := Sli.of_owns this
      refine ⟨_, rfl, ⟨G, ?_, s2⟩, K.out⟩
      rw [hlen'.out, ← hk']; exact s1
theorem disk_any {w : World} {p : Nat} {s : DS} {F : List Nat} (h : Dev w p s F) (ok : s.Ok) :
    Calls Tryz.prog 34 #[.pointer (some ⟨p, 0, none⟩)] w fun e w' => ∃ v, e = .returned v ∧ OwnB w w' v s.D ∧ Kep w w' := by
  have HW : (Hid (Calls Tryz.prog 46 #[.pointer (some ⟨p, 0, none⟩)] w fun e w' => e = .returned (.bool true) ∧ w' = w)) := h.works
  have HB : Hid (Calls Tryz.prog 48 #[.pointer (some ⟨p, 6, none⟩)] w fun e w' => ∃ v, e = .returned v ∧ OwnB w w' v s.D ∧ Kep w w') := bytes_any2 h ok
  clear h ok
  go_enter Tryz.func34, Tryz.ntmps34
  go_wp2_with (go_at_call 46; refine HW.out.mono ?_; rintro e w1 ⟨rfl, rfl⟩)
  refine HB.out.mono ?_
  rintro e w2 ⟨v, rfl, ho, k2⟩
  have HO : Hid _ := ho
  have K2 : Hid _ := k2
  clear ho k2
  go_wp2_with fail
  go_ret
  exact ⟨_, rfl, HO.out, K2.out⟩
set_option maxHeartbeats 4000000 in
set_option maxRecDepth 100000 in
theorem mstate_any {w : World} {p pm R : Nat} {ix : List Nat} {x : MS} {G : List Nat} (H : Mach w p pm R ix x G) :
    Calls Tryz.prog 16 #[.pointer (some ⟨p, 0, none⟩)] w fun e w' => e = .returned (.agg x.s.v) ∧ Kep w w' := by
  have HW : Hid (∀ w', Kep w w' → Calls Tryz.prog 32 #[.pointer (some ⟨p, 0, none⟩)] w' fun e w'' => e = .returned (.bool true) ∧ w'' = w') := fun w' k => (H.kep k).works
  obtain ⟨q, vn, Fd, Fn, H, _⟩ := H
  obtain ⟨W, hW⟩ : ∃ W, Hid (w.alloc (.cells z19 26) = W) := ⟨_, rfl⟩
  have KW : Hid (Kep w W) := by rw [Hid, ← hW.out]; exact (Kep.refl w).alloc _
  have ZW : Hid (W.heap[w.heap.size]? = some (.cells z19 26 (0, 0))) := by rw [Hid, ← hW.out]; exact hat _ _ _ rfl
  have BW := hidd (H.box.kep KW.out)
  clear H
  go_enter Tryz.func16, Tryz.ntmps16
  go_upto_region 1 with fail
  rw [hW.out]
  clear hW
  go_upto_region 3 with (go_at_call 32; refine (HW.out _ KW.out).mono ?_; rintro e W ⟨rfl, rfl⟩)
  go_wp2_with (first
    | (refine load_sta (by rfl) _ (by rfl) p 2 (by rfl) x.s BW.out.st ?_)
    | (refine wpList_store_row (by rfl) 26 _ _ (by rfl) w.heap.size x.s.v (by rfl) (by rfl) 26 z19 ZW.out (by exact size_sta) (by rfl) (v_one _) ?_))
  exact bodyPost_ret (v := .agg x.s.v) (results1 (p := 2) (ty := 26) rfl _ _ w.heap.size 26 x.s.v (0, 0) _ rfl (setRow_heap _ _ _ _ _ _ ZW.out) Tryz.underlying26 rfl size_sta) rfl ⟨rfl, KW.out.setRow _ _ (Nat.le_refl _)⟩
set_option maxHeartbeats 4000000 in
theorem moutput_any {w : World} {p pm R : Nat} {ix : List Nat} {x : MS} {G : List Nat} (H : Mach w p pm R ix x G) (hO : (x.d.O.length : Int) ≤ 140737488355328) :
    Calls Tryz.prog 15 #[.pointer (some ⟨p, 0, none⟩)] w fun e w' => ∃ v, e = .returned v ∧ OwnB w w' v x.d.O ∧ Kep w w' := by
  have HW := hidd H.works
  obtain ⟨q, vn, Fd, Fn, H, _⟩ := H
  have c1 : w.cell? ⟨p, 1, none⟩ = some (.pointer (some ⟨q, 0, none⟩)) := H.box.cd
  have HO := hidd (output_any H.dev hO)
  clear H hO
  go_enter Tryz.func15, Tryz.ntmps15
  go_wp2_with (first
    | (go_at_call 32; refine HW.out.mono ?_; rintro e w1 ⟨rfl, rfl⟩)
    | (go_at_call 33; refine HO.out.mono ?_; rintro e w2 ⟨v, rfl, o2, k2⟩))
  go_ret
  exact ⟨v, rfl, o2, k2⟩
abbrev zW : List Int := [32, 0, 5, 0, 0, 0, 101, 0, 1]
def s0M : Sta := ⟨fun _ => 0, 0, 0, fun _ => 0, false⟩
theorem s0M_ok : s0M.Ok := ⟨fun _ => by show (0 : Int) ≤ 0 ∧ (0 : Int) < 4294967296; decide, by decide, by decide, fun _ => by show (0 : Int) ≤ 0 ∧ (0 : Int) < 4294967296; decide⟩
abbrev xW : MS := ms0 [] [] (imgL 1 zW) s0M
theorem runW_n : runN (List.range 1) 9 xW = 3 := by decide +kernel
theorem runW_o : (runX (List.range 1) 9 xW).d.O = [5] := by decide +kernel
theorem runW_h : (runX (List.range 1) 9 xW).s.h = true := by decide +kernel
theorem scr_nil (w : World) : ScrD w none 0 0 [] none 0 0 [] := ⟨rfl, Nat.le_refl _, by decide, .inl rfl, rfl, Nat.le_refl _, by decide, .inl rfl⟩
theorem fld_h (s : Sta) (w : World) : (Instr.field 26 (.agg s.v) 4).run Tryz.prog w = .ok (.bool s.h) w := by kernel_rfl
theorem ms0_ok {E : List Ev} {D B : List Int} {s : Sta} (hd : (ds0 E D).Ok) (he : E.length ≤ 64) (hs : s.Ok) (hB : B ≠ []) : (ms0 E D B s).Ok := ⟨hd, he, hs, hB, by show (0 : Int) ≤ 0; decide⟩
theorem ms0_room {E : List Ev} {D B : List Int} {s : Sta} (k : Nat) (h : k ≤ 900000) : Room k (ms0 E D B s) := ⟨by show 0 + k ≤ 900000; omega, by show 0 + k ≤ 900000; omega, by show (0 : Int) + k ≤ 4398046511104; omega⟩
theorem Goes.young {w0 w w1 : World} {p pm R : Nat} {ix : List Nat} {y : MS} {G : List Nat} (h : Goes w p pm R ix G y w1) (k : Kep w0 w) (hG : ∀ g ∈ R :: G, w0.heap.size ≤ g) : Kep w0 w1 := by
  obtain ⟨_, _, p1, _⟩ := h
  exact k.put p1 hG
theorem ds00_ok : (ds0 [] []).Ok := ⟨by decide, by decide, by decide, (fun b hb => by cases hb), by decide, by decide, (fun b hb => by cases hb), by decide, by decide, by decide, by decide, .inr ⟨.inl rfl, rfl, rfl, rfl⟩, (fun e he => by cases he)⟩
set_option maxHeartbeats 8000000 in
set_option maxRecDepth 100000 in
theorem works12_any (w : World) (hT : Tabs w) : Calls Tryz.prog 6 #[] w fun e w' => e = .returned (.bool true) ∧ Kep w w' := by
  obtain ⟨W, hW⟩ : ∃ W, Hid (w.alloc (.cells #[.int .u8 32, .int .u8 0, .int .u8 5, .int .u8 0, .int .u8 0, .int .u8 0, .int .u8 101, .int .u8 0, .int .u8 1] 5) = W) := ⟨_, rfl⟩
  have KW : Hid (Kep w W) := by rw [Hid, ← hW.out]; exact (Kep.refl w).alloc _
  have LW : Hid (Lies W (some ⟨w.heap.size, 0, none⟩) (byt zW)) := .inr ⟨w.heap.size, 0, rfl, by rw [← hW.out]; simp, fun j u hj => by
    rw [← hW.out, Nat.zero_add, cell_of_block (heap_alloc_new w _)]; simpa [byt] using hj⟩
  have HN : Hid (Calls Tryz.prog 4 #[.int .i64 1, .slice (some ⟨w.heap.size, 0, none⟩) 9 9, .agg z19, .slice none 0 0, .slice none 0 0] W fun e w' => ∃ p pm R G, e = .returned (.tuple #[.pointer (some ⟨p, 0, none⟩), .int .i64 0]) ∧ Mach w' p pm R (List.range 1) xW G ∧ Kep W w' ∧ ∀ g ∈ R :: G, W.heap.size ≤ g) :=
    mnew_ok 1 (Nat.le_refl _) (by decide) (li := 9) (ci := 9) rfl (Nat.le_refl _) (by decide) (by intro b hb; simp at hb; omega) (by decide) LW.out s0M s0M_ok (by decide) (scr_nil W) (by decide) (hT.grown KW.out)
  have okX : Hid (xW : MS).Ok := ms0_ok ds00_ok (by decide) s0M_ok (fun e => by have := imgL_len 1 zW; rw [e] at this; simp at this)
  have hT' := hidd hT
  clear hT LW
  go_enter Tryz.func6, Tryz.ntmps6
  go_wp2_with fail
  rw [hW.out]
  refine HN.out.mono ?_
  rintro e w1 ⟨p, pm, R, G, rfl, m1, k1, f1⟩
  have K1 := hidd (kep_trans KW.out k1)
  have F1 : Hid (∀ g ∈ R :: G, w.heap.size ≤ g) := fun g hg => by have := f1 g hg; have := KW.out.size; omega
  have HR : Hid (Calls Tryz.prog 14 #[.pointer (some ⟨p, 0, none⟩), .int .i64 9] w1 fun e w' => e = .returned (.int .i64 3) ∧ Goes w1 p pm R (List.range 1) G (runX (List.range 1) 9 xW) w') := by
    have := mrun_any m1 okX.out (hT'.out.grown K1.out) 9 (by decide) (ms0_room 9 (by decide))
    rw [runW_n] at this
    exact this
  clear m1 k1 f1 HN
  go_wp2_with fail
  refine HR.out.mono ?_
  rintro e w2 ⟨rfl, g2⟩
  have K2 := hidd (g2.young K1.out F1.out)
  obtain ⟨G2, m2, p2, f2⟩ := g2
  have HO : Hid (Calls Tryz.prog 15 #[.pointer (some ⟨p, 0, none⟩)] w2 fun e w' => ∃ v, e = .returned v ∧ OwnB w2 w' v [5] ∧ Kep w2 w') := by
    have := moutput_any m2 (by rw [runW_o]; decide)
    rw [runW_o] at this
    exact this
  have HS : Hid (∀ w', Kep w2 w' → Calls Tryz.prog 16 #[.pointer (some ⟨p, 0, none⟩)] w' fun e w'' => e = .returned (.agg (runX (List.range 1) 9 xW).s.v) ∧ Kep w' w'') := fun w' k => mstate_any (m2.kep k)
  have fh := fld_h (runX (List.range 1) 9 xW).s
  rw [runW_h] at fh
  generalize (runX (List.range 1) 9 xW).s = S at HS fh
  clear m2 p2 f2 HR okX
  go_wp2_with fail
  refine HO.out.mono ?_
  rintro e w3 ⟨v, rfl, ⟨Gv, sl, _⟩, k3⟩
  obtain ⟨xv, cv, rfl, hl, _⟩ := sl.lies
  have K3 := hidd k3
  have hc : Sem.run Tryz.prog (convert 22 9 (.slice xv 1 cv)) w3 = .ok (.string ⟨#[5]⟩) w3 := hl.strAny (cap := cv) w3 (Kep.refl _)
  clear sl hl k3
  simp only [List.length_cons, List.length_nil]
  go_wp2_with (go_at_call 16; refine (HS.out _ K3.out).mono ?_; rintro e w4 ⟨rfl, k4⟩)
  go_ret
  exact ⟨rfl, kep_trans (kep_trans K2.out K3.out) k4⟩
end Go.Proofs.YtnignfloedcmlaaGreatDoor
