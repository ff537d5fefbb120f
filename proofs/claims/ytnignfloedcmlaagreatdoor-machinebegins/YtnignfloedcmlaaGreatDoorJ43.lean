/- Part of a proof. -/
import Derived.Stop.RegionWithIn
import Derived.Test.YtnignfloedcmlaaGreatDoorJ42
namespace Go.Proofs.YtnignfloedcmlaaGreatDoor
open Go.RowKit
set_option linter.unusedVariables false
set_option linter.unusedSimpArgs false
theorem writeS_ok {d : DS} (h : d.Ok) (port v : Int) (hv : 0 ≤ v ∧ v < 4294967296) : (writeS d port v).Ok := by
  unfold writeS
  split
  · exact ⟨h.b, h.m, h.q, h.qb, h.d, h.d6, h.db, h.n, h.a, h.f, h.t, h.cmd, h.ev⟩
  split
  · exact ⟨h.b, h.m, h.q, h.qb, h.d, h.d6, h.db, hv, h.a, h.f, h.t, h.cmd, h.ev⟩
  split
  · exact ⟨h.b, h.m, h.q, h.qb, h.d, h.d6, h.db, h.n, hv, h.f, h.t, h.cmd, h.ev⟩
  split
  · unfold giveS
    split
    · rename_i hg
      exact ⟨h.b, h.m, h.q, h.qb, h.d, h.d6, h.db, h.n, h.a, h.n, h.a, .inl ⟨rfl, hg.2⟩, h.ev⟩
    · exact h
  split
  · exact ⟨h.b, ⟨by show 0 ≤ v % 8; omega, by show v % 8 ≤ 7; omega⟩, h.q, h.qb, h.d, h.d6, h.db, h.n, h.a, h.f, h.t, h.cmd, h.ev⟩
  split
  · exact ⟨clr_low h.b, h.m, h.q, h.qb, h.d, h.d6, h.db, h.n, h.a, h.f, h.t, h.cmd, h.ev⟩
  · exact h
theorem writeS_O (d : DS) (port v : Int) : (writeS d port v).O.length ≤ d.O.length + 1 := by
  unfold writeS giveS
  repeat' split
  all_goals first | (simp; done) | simp
theorem writeS_E (d : DS) (port v : Int) : (writeS d port v).E = d.E := by
  unfold writeS giveS
  repeat' split
  all_goals rfl
theorem readS_E (d : DS) (port : Int) : (readS d port).E = d.E := by unfold readS; split <;> rfl
theorem takenS_ok {d : DS} (h : d.Ok) (c : Int) : (takenS d c).Ok := by
  unfold takenS
  repeat' split
  all_goals first | exact h | exact ⟨clr_low h.b, h.m, h.q, h.qb, h.d, h.d6, h.db, h.n, h.a, h.f, h.t, h.cmd, h.ev⟩
theorem takenS_O (d : DS) (c : Int) : (takenS d c).O = d.O := by
  unfold takenS
  repeat' split
  all_goals rfl
theorem takenS_E (d : DS) (c : Int) : (takenS d c).E = d.E := by
  unfold takenS
  repeat' split
  all_goals rfl
theorem finD_ok {d : DS} (h : d.Ok) (rd wr : Bool) (port v : Int) (hv : 0 ≤ v ∧ v < 4294967296) : (finD d rd wr port v).Ok ∧ (finD d rd wr port v).O.length ≤ d.O.length + 1 ∧ (finD d rd wr port v).E = d.E := by
  rw [finD_is]
  cases rd <;> cases wr <;> unfold wrD rdD <;> dsimp only
  · exact ⟨h, by omega, rfl⟩
  · exact ⟨writeS_ok h port v hv, writeS_O d port v, writeS_E d port v⟩
  · exact ⟨readS_ok h port, by rw [readS_O]; omega, readS_E d port⟩
  · exact ⟨writeS_ok (readS_ok h port) port v hv, by have := writeS_O (readS d port) port v; rw [readS_O] at this; exact this, by rw [writeS_E, readS_E]⟩
theorem finB_len (x : MS) (ix : List Nat) (q : Int × Int × Int × Int) (at_ : Nat) : (finB x ix q at_).length = x.B.length := by
  unfold finB; split
  · rw [wrM_len, soiM_len]
  · rfl
theorem dlv_ok {x : MS} (ok : x.Ok) (k a back : Int) (ha : 0 ≤ a ∧ a < 4294967296) (hb : 0 ≤ back ∧ back < 4294967296) : (dlvX x k a back).Ok :=
  ⟨ok.d, ok.e, ent_ok ok.s k a back ha hb, ok.B, by have := ok.n; show 0 ≤ x.n + 1; omega⟩
theorem dlv_room {x : MS} {m : Nat} (rm : Room (m + 1) x) (k a back : Int) : Room m (dlvX x k a back) :=
  ⟨by have := rm.N; simp [dlvX]; omega, by have := rm.O; show x.d.O.length + m ≤ _; omega, by have := rm.n; show x.n + 1 + m ≤ _; omega⟩
theorem end_ok {x : MS} (ok : x.Ok) (ix : List Nat) {f : Fin} (hf : f.Ok ix) : (endX x ix f).Ok := by
  cases f with
  | fail k a => exact dlv_ok ok k a _ hf (backI_range ok.s.pc)
  | ok t q at_ rd wr port value =>
    obtain ⟨_, _, _, _, hx, ht⟩ := hf
    obtain ⟨h1, _, h3⟩ := finD_ok ok.d rd wr port value hx
    exact ⟨h1, by show (finD x.d rd wr port value).E.length ≤ 64; rw [h3]; exact ok.e, ht, ne_len (finB_len x ix q at_) ok.B, by have := ok.n; show 0 ≤ x.n + 1; omega⟩
theorem end_room {x : MS} (ok : x.Ok) (ix : List Nat) {f : Fin} (hf : f.Ok ix) {m : Nat} (rm : Room (m + 1) x) : Room m (endX x ix f) := by
  cases f with
  | fail k a => exact dlv_room rm _ _ _
  | ok t q at_ rd wr port value =>
    obtain ⟨_, _, _, _, hx, ht⟩ := hf
    obtain ⟨_, h2, _⟩ := finD_ok ok.d rd wr port value hx
    exact ⟨by have := rm.N; show x.N.length + m ≤ _; omega, by have := rm.O; show (finD x.d rd wr port value).O.length + m ≤ _; omega, by have := rm.n; show x.n + 1 + m ≤ _; omega⟩
theorem end_len (x : MS) (ix : List Nat) (f : Fin) : (endX x ix f).B.length = x.B.length := by
  cases f with
  | fail k a => rfl
  | ok t q at_ rd wr port value => exact finB_len x ix q at_
theorem comeN_inv (step : Int) (ix : List Nat) : ∀ (n : Nat) (x : CS), x.Ok ix → (comeN step ix n x).Ok ix ∧ (comeN step ix n x).s.E.length ≤ x.s.E.length ∧ (comeN step ix n x).B.length = x.B.length ∧ (comeN step ix n x).s.O = x.s.O
  | 0, x, h => ⟨h, Nat.le_refl _, rfl, rfl⟩
  | n + 1, x, h => by
    unfold comeN
    split
    · rename_i hd
      obtain ⟨h1, h2, h3, h4⟩ := comeN_inv step ix n (nxt step ix x) (nxt_ok h)
      have e := nxt_E (ix := ix) hd
      have e2 : (nxt step ix x).B.length = x.B.length := by
        unfold nxt; split
        · rfl
        · exact evM_len _ _ _ _
      have e3 : (nxt step ix x).s.O = x.s.O := by
        unfold nxt; split
        · rfl
        · exact evS_O _ _ _ _
      exact ⟨h1, by omega, h3.trans e2, h4.trans e3⟩
    · exact ⟨h, Nat.le_refl _, rfl, rfl⟩
theorem com_ok {x : MS} (ok : x.Ok) {ix : List Nat} (hb : Byts x.B) (hf : Fits x.B ix) : (comX x ix).Ok := by
  obtain ⟨h1, h2, h3, h4⟩ := comeN_inv x.n ix x.d.E.length ⟨x.d, x.B, [], []⟩ ⟨ok.d, hb, hf⟩
  exact ⟨h1.s, Nat.le_trans h2 ok.e, ok.s, ne_len h3 ok.B, ok.n⟩
theorem com_room {x : MS} (ok : x.Ok) {ix : List Nat} (hb : Byts x.B) (hf : Fits x.B ix) {m : Nat} (rm : Room m x) : Room m (comX x ix) := by
  obtain ⟨h1, h2, h3, h4⟩ := comeN_inv x.n ix x.d.E.length ⟨x.d, x.B, [], []⟩ ⟨ok.d, hb, hf⟩
  exact ⟨rm.N, by have := rm.O; show (comeN x.n ix x.d.E.length ⟨x.d, x.B, [], []⟩).s.O.length + m ≤ _; rw [h4]; exact this, rm.n⟩
theorem tak_ok {x : MS} (ok : x.Ok) : (takX x).Ok := by
  unfold takX; split
  · exact ok
  split
  · exact ok
  · exact dlv_ok (x := ⟨takenS x.d (tkI x), x.B, x.s, x.n, x.N⟩) ⟨takenS_ok ok.d _, by show (takenS x.d (tkI x)).E.length ≤ 64; rw [takenS_E]; exact ok.e, ok.s, ok.B, ok.n⟩ _ _ _ (by decide) ok.s.pc
theorem tak_room {x : MS} {m : Nat} (rm : Room (m + 1) x) : Room m (takX x) := by
  unfold takX; split
  · exact rm.less (by omega)
  split
  · exact rm.less (by omega)
  · exact dlv_room (x := ⟨takenS x.d (tkI x), x.B, x.s, x.n, x.N⟩) ⟨rm.N, by show (takenS x.d (tkI x)).O.length + (m + 1) ≤ _; rw [takenS_O]; exact rm.O, rm.n⟩ _ _ _
theorem one_fin {x : MS} (ok : x.Ok) {ix : List Nat} (hb : Byts x.B) : (oneF x ix).Ok ix := try_ok ok.s ok.d hb ix
theorem one_ok {x : MS} (ok : x.Ok) {ix : List Nat} (hb : Byts x.B) : (oneX x ix).Ok := by
  unfold oneX; split
  · exact ok
  · exact end_ok ok ix (one_fin ok hb)
theorem one_room {x : MS} (ok : x.Ok) {ix : List Nat} (hb : Byts x.B) {m : Nat} (rm : Room (m + 1) x) : Room m (oneX x ix) := by
  unfold oneX; split
  · exact rm.less (by omega)
  · exact end_room ok ix (one_fin ok hb) rm
theorem stp_ok {x : MS} (ok : x.Ok) {ix : List Nat} (hb : Byts x.B) (hf : Fits x.B ix) (hc : Byts (comX x ix).B) : (stpX x ix).Ok := by
  unfold stpX; split
  · exact ok
  split
  · exact one_ok (com_ok ok hb hf) hc
  · exact tak_ok (com_ok ok hb hf)
theorem stp_room {x : MS} (ok : x.Ok) {ix : List Nat} (hb : Byts x.B) (hf : Fits x.B ix) (hc : Byts (comX x ix).B) {m : Nat} (rm : Room (m + 1) x) : Room m (stpX x ix) := by
  unfold stpX; split
  · exact rm.less (by omega)
  split
  · exact one_room (com_ok ok hb hf) hc (com_room ok hb hf rm)
  · exact tak_room (com_room ok hb hf rm)
theorem com_byts {x : MS} (ok : x.Ok) {ix : List Nat} (hb : Byts x.B) (hf : Fits x.B ix) : Byts (comX x ix).B ∧ Fits (comX x ix).B ix := by
  obtain ⟨h1, _⟩ := comeN_inv x.n ix x.d.E.length ⟨x.d, x.B, [], []⟩ ⟨ok.d, hb, hf⟩
  exact ⟨h1.B, h1.fits⟩
theorem stp_halt {x : MS} {ix : List Nat} (h : x.s.h = true) : stpX x ix = x := by unfold stpX; rw [if_pos h]
theorem runX_halt {ix : List Nat} : ∀ (m : Nat) {x : MS}, x.s.h = true → runX ix m x = x
  | 0, x, h => rfl
  | m + 1, x, h => by show runX ix m (stpX x ix) = x; rw [stp_halt h]; exact runX_halt m h
theorem runX_succ (ix : List Nat) : ∀ (k : Nat) (x : MS), runX ix (k + 1) x = stpX (runX ix k x) ix
  | 0, x => rfl
  | k + 1, x => by show runX ix (k + 1) (stpX x ix) = stpX (runX ix k (stpX x ix)) ix; exact runX_succ ix k (stpX x ix)
theorem runN_go (ix : List Nat) : ∀ (k : Nat) (x : MS), runN ix k x = k → (runX ix k x).s.h = false → runN ix (k + 1) x = k + 1
  | 0, x, _, h => by
    have h' : x.s.h = false := h
    unfold runN; rw [h']; rfl
  | k + 1, x, h, hh => by
    have e : runN ix (k + 1) x = if x.s.h then 0 else runN ix k (stpX x ix) + 1 := rfl
    rw [e] at h
    split at h
    · omega
    · rename_i hx
      have e2 : runN ix (k + 1 + 1) x = if x.s.h then 0 else runN ix (k + 1) (stpX x ix) + 1 := rfl
      rw [e2, if_neg hx, runN_go ix k (stpX x ix) (by omega) hh]
theorem runN_stop (ix : List Nat) : ∀ (k m : Nat) (x : MS), runN ix k x = k → (runX ix k x).s.h = true → k ≤ m → runN ix m x = k ∧ runX ix m x = runX ix k x
  | 0, m, x, _, h, _ => by
    have h' : x.s.h = true := h
    refine ⟨?_, runX_halt m h'⟩
    cases m with
    | zero => rfl
    | succ m => unfold runN; rw [if_pos h']
  | k + 1, m, x, h, hh, hm => by
    obtain ⟨n, rfl⟩ : ∃ n, m = n + 1 := ⟨m - 1, by omega⟩
    have e : runN ix (k + 1) x = if x.s.h then 0 else runN ix k (stpX x ix) + 1 := rfl
    rw [e] at h
    split at h
    · omega
    · rename_i hx
      obtain ⟨h1, h2⟩ := runN_stop ix k n (stpX x ix) (by omega) hh (by omega)
      have e2 : runN ix (n + 1) x = if x.s.h then 0 else runN ix n (stpX x ix) + 1 := rfl
      exact ⟨by rw [e2, if_neg hx, h1], h2⟩
theorem Mach.stands {w : World} {p pm R : Nat} {ix : List Nat} {x : MS} {G : List Nat} (H : Mach w p pm R ix x G) : Calls Tryz.prog 42 #[.pointer (some ⟨p, 0, none⟩)] w fun e w' => e = .returned (.bool x.s.h) ∧ w' = w := by
  obtain ⟨q, vn, Fd, Fn, H, _⟩ := H
  exact stands_yes w p pm x.s.h H.box.cm H.box.hl
theorem Mach.works {w : World} {p pm R : Nat} {ix : List Nat} {x : MS} {G : List Nat} (H : Mach w p pm R ix x G) : Calls Tryz.prog 32 #[.pointer (some ⟨p, 0, none⟩)] w fun e w' => e = .returned (.bool true) ∧ w' = w := by
  obtain ⟨q, vn, Fd, Fn, H, _⟩ := H
  exact mworks_yes w p pm H.box.cm
theorem Goes.kep {w w1 w2 : World} {p pm R : Nat} {ix : List Nat} {y : MS} {G : List Nat} (h : Goes w p pm R ix G y w1) (k : Kep w1 w2) : Goes w p pm R ix G y w2 := by
  obtain ⟨G', h1, h2, h3⟩ := h
  exact ⟨G', h1.kep k, h2.trans (Put.of_kep k), h3⟩
theorem Goes.elder {w0 w w1 : World} {p pm R : Nat} {ix : List Nat} {y : MS} {G : List Nat} (h : Goes w p pm R ix G y w1) (k : Kep w0 w) : Goes w0 p pm R ix G y w1 := by
  obtain ⟨G', h1, h2, h3⟩ := h
  exact ⟨G', h1, (Put.of_kep k).trans h2, fun g hg => (h3 g hg).imp id (fun h => by have := k.size; omega)⟩
theorem Mach.mem {w : World} {p pm R : Nat} {ix : List Nat} {x : MS} {G : List Nat} (H : Mach w p pm R ix x G) : Mem w (mpt pm) R ix x.B := by
  obtain ⟨q, vn, Fd, Fn, H, _⟩ := H
  exact H.mem
theorem Mach.offG {w : World} {p pm R : Nat} {ix : List Nat} {x : MS} {G : List Nat} (H : Mach w p pm R ix x G) : Off w (mpt pm) (R :: G) := by
  obtain ⟨q, vn, Fd, Fn, H, rfl⟩ := H
  exact H.mem.ram.offR.cons H.far.off
theorem Goes.side {w0 w w1 w2 : World} {p pm R : Nat} {ix : List Nat} {x y : MS} {G : List Nat} (H : Mach w0 p pm R ix x G) (hB : x.B ≠ []) (k0 : Kep w0 w) (g : Goes w p pm R ix G y w1) (b : Nat) (h0 : w0.heap.size ≤ b) (h1 : b < w.heap.size) (P : Put [b] w1 w2) : Goes w0 p pm R ix G y w2 := by
  obtain ⟨G', m, p1, h⟩ := g
  have lt := H.lt hB
  have o1 : Off w (mpt pm) [b] := Off.stay (m := []) H.mem.ram (H.mem.ram.low (by simpa using h0)) (Put.of_kep k0) (fun p e => ⟨by simp, by simp⟩)
  have o2 : Off w1 (mpt pm) [b] := Off.stay (H.kep k0).mem.ram o1 p1 (H.kep k0).offG
  refine ⟨G', m.put P (fun g' hg hm => ?_) o2, ((Put.of_kep k0).trans p1).onto P (fun g' hg hl => ?_), fun g' hg => ?_⟩
  · obtain rfl : g' = b := by simpa using hm
    rcases List.mem_cons.1 hg with rfl | hg
    · have := lt g' (by simp); omega
    · rcases h g' hg with h | h
      · have := lt g' (by simp [h]); omega
      · omega
  · obtain rfl : g' = b := by simpa using hg
    omega
  · exact (h g' hg).imp id (fun h => by have := k0.size; omega)
set_option maxHeartbeats 16000000 in
set_option maxRecDepth 100000 in
theorem mone_any {w : World} {p pm R : Nat} {ix : List Nat} {x : MS} {G : List Nat} (H : Mach w p pm R ix x G) (ok : x.Ok) (rm : Room 1 x) (hT : Tabs w) :
    Calls Tryz.prog 45 #[.pointer (some ⟨p, 0, none⟩)] w fun e w' => e = .returned (.agg (fltV (oneV x ix))) ∧ Goes w p pm R ix G (oneX x ix) w' := by
  have HS : Hid (∀ w', Kep w w' → Calls Tryz.prog 42 #[.pointer (some ⟨p, 0, none⟩)] w' fun e w'' => e = .returned (.bool x.s.h) ∧ w'' = w') := fun w' k => (H.kep k).stands
  have H' := hidd H
  unfold oneV oneX
  cases hh : x.s.h with
  | true =>
    rw [hh] at HS
    clear H ok rm hT hh
    rw [if_pos rfl, if_pos rfl]
    go_enter Tryz.func45, Tryz.ntmps45
    go_wp2_with (go_at_call 42; refine (HS.out _ ((Kep.refl w).alloc _)).mono ?_; rintro e V ⟨rfl, hV⟩; rw [hV]; clear hV)
    refine bodyPost_ret (results1 (p := 2) (ty := 100) rfl _ _ w.heap.size 100 #[.int .i64 0, .int .u32 0] (0, 0) _ rfl blkA Tryz.underlying100 rfl size_flt) rfl ⟨rfl, Goes.of_kep H'.out kepA⟩
  | false =>
    rw [hh] at HS
    rw [if_neg (by decide), if_neg (by decide)]
    have hb := H.mem.byts
    have hf := one_fin (ix := ix) ok hb
    have HA : Hid (∀ w', Kep w w' → Calls Tryz.prog 56 #[.pointer (some ⟨p, 0, none⟩)] w' fun e w'' => e = .returned (endV (oneF x ix)) ∧ Kep w' w'') := fun w' k => by
      obtain ⟨q, vn, Fd, Fn, h, _⟩ := H.kep k
      exact attempt_any h.box h.mem ok.B ok.s (hT.grown k) h.dev ok.d
    have HE : Hid (∀ w', Kep w w' → Calls Tryz.prog 57 #[.pointer (some ⟨p, 0, none⟩), endV (oneF x ix)] w' fun e w'' => e = .returned (.tuple #[]) ∧ Goes w' p pm R ix G (endX x ix (oneF x ix)) w'') := fun w' k => settle_end (H.kep k) ok rm (hT.grown k) _ hf
    have hB' := hidd ok.B
    have nb : Hid (w.heap.size ∉ R :: G) := fun h => by have := H.lt ok.B _ h; omega
    generalize oneF x ix = f at HA HE hf ⊢
    generalize endX x ix f = Y at HE ⊢
    clear H ok rm hT hh hb hf
    cases f with
    | fail k a =>
      have ma := meth_fail k a
      have HF := hidd (fault_fail k a)
      show Calls _ _ _ _ fun e w' => e = .returned (.agg #[.int .i64 k, .int .u32 a]) ∧ Goes w p pm R ix G Y w'
      change Hid (∀ w', Kep w w' → Calls Tryz.prog 56 #[.pointer (some ⟨p, 0, none⟩)] w' fun e w'' => e = .returned (.iface 131 (.agg #[.int .i64 k, .int .u32 a])) ∧ Kep w' w'') at HA
      change Hid (∀ w', Kep w w' → Calls Tryz.prog 57 #[.pointer (some ⟨p, 0, none⟩), .iface 131 (.agg #[.int .i64 k, .int .u32 a])] w' fun e w'' => e = .returned (.tuple #[]) ∧ Goes w' p pm R ix G Y w'') at HE
      go_enter Tryz.func45, Tryz.ntmps45
      go_wp2_with fail
      refine (HS.out _ ((Kep.refl w).alloc _)).mono ?_
      rintro e V ⟨rfl, hV⟩
      have KV : Hid (Kep w V) := by rw [hV]; exact (Kep.refl w).alloc _
      have BV : Hid (V.heap[w.heap.size]? = some (.cells #[.int .i64 0, .int .u32 0] 100 (0, 0))) := by rw [hV]; exact hat _ _ _ rfl
      clear hV
      go_wp2_with fail
      refine (HA.out V KV.out).mono ?_
      rintro e w1 ⟨rfl, k1⟩
      have K1 := hidd (kep_trans KV.out k1)
      have B1 := hidd (k1.block BV.out)
      clear k1
      go_wp2_with fail
      refine (HE.out w1 K1.out).mono ?_
      rintro e w2 ⟨rfl, g2⟩
      have G2 := hidd g2
      obtain ⟨G', _, p2, _⟩ := g2
      have B2 := hidd (p2.keeps B1.out nb.out)
      clear p2
      go_wp2_with fail
      refine (HF.out w2).mono ?_
      rintro e w3 ⟨rfl, k3⟩
      have G3 := hidd (G2.out.kep k3)
      have B3 := hidd (k3.block B2.out)
      clear k3
      have z0 : w3.cell? ⟨w.heap.size, 0, none⟩ = some (.int .i64 0) := cell_of_block B3.out
      have z1 : w3.cell? ⟨w.heap.size, 1, none⟩ = some (.int .u32 0) := cell_of_block B3.out
      have zf := fun j => row_frozen B3.out j
      go_wp2_with fail
      refine bodyPost_ret (v := .agg #[.int .i64 k, .int .u32 a]) (results1 (p := 2) (ty := 100) rfl _ _ w.heap.size 100 #[.int .i64 k, .int .u32 a] (0, 0) _ rfl ((heap_setCell_row (heap_setCell_row B3.out _) _).trans rfl) Tryz.underlying100 rfl size_flt) rfl ⟨rfl, ?_⟩
      exact Goes.side H'.out hB'.out K1.out G3.out w.heap.size (Nat.le_refl _) (block_lt B1.out) (((Put.refl w3).setCell (p := ⟨w.heap.size, 0, none⟩) (by simp) _).setCell (p := ⟨w.heap.size, 1, none⟩) (by simp) _)
    | ok t q at_ rd wr port value =>
      have ma := meth_suc (sucV t q at_ rd wr port value)
      have HF := hidd (fault_suc (sucV t q at_ rd wr port value))
      show Calls _ _ _ _ fun e w' => e = .returned (.agg #[.int .i64 0, .int .u32 0]) ∧ Goes w p pm R ix G Y w'
      change Hid (∀ w', Kep w w' → Calls Tryz.prog 56 #[.pointer (some ⟨p, 0, none⟩)] w' fun e w'' => e = .returned (.iface 140 (.agg (sucV t q at_ rd wr port value))) ∧ Kep w' w'') at HA
      change Hid (∀ w', Kep w w' → Calls Tryz.prog 57 #[.pointer (some ⟨p, 0, none⟩), .iface 140 (.agg (sucV t q at_ rd wr port value))] w' fun e w'' => e = .returned (.tuple #[]) ∧ Goes w' p pm R ix G Y w'') at HE
      go_enter Tryz.func45, Tryz.ntmps45
      go_wp2_with fail
      refine (HS.out _ ((Kep.refl w).alloc _)).mono ?_
      rintro e V ⟨rfl, hV⟩
      have KV : Hid (Kep w V) := by rw [hV]; exact (Kep.refl w).alloc _
      have BV : Hid (V.heap[w.heap.size]? = some (.cells #[.int .i64 0, .int .u32 0] 100 (0, 0))) := by rw [hV]; exact hat _ _ _ rfl
      clear hV
      go_wp2_with fail
      refine (HA.out V KV.out).mono ?_
      rintro e w1 ⟨rfl, k1⟩
      have K1 := hidd (kep_trans KV.out k1)
      have B1 := hidd (k1.block BV.out)
      clear k1
      go_wp2_with fail
      refine (HE.out w1 K1.out).mono ?_
      rintro e w2 ⟨rfl, g2⟩
      have G2 := hidd g2
      obtain ⟨G', _, p2, _⟩ := g2
      have B2 := hidd (p2.keeps B1.out nb.out)
      clear p2
      go_wp2_with fail
      refine (HF.out w2).mono ?_
      rintro e w3 ⟨rfl, k3⟩
      have G3 := hidd (G2.out.kep k3)
      have B3 := hidd (k3.block B2.out)
      clear k3
      have z0 : w3.cell? ⟨w.heap.size, 0, none⟩ = some (.int .i64 0) := cell_of_block B3.out
      have z1 : w3.cell? ⟨w.heap.size, 1, none⟩ = some (.int .u32 0) := cell_of_block B3.out
      have zf := fun j => row_frozen B3.out j
      go_wp2_with fail
      refine bodyPost_ret (v := .agg #[.int .i64 0, .int .u32 0]) (results1 (p := 2) (ty := 100) rfl _ _ w.heap.size 100 #[.int .i64 0, .int .u32 0] (0, 0) _ rfl ((heap_setCell_row (heap_setCell_row B3.out _) _).trans rfl) Tryz.underlying100 rfl size_flt) rfl ⟨rfl, ?_⟩
      exact Goes.side H'.out hB'.out K1.out G3.out w.heap.size (Nat.le_refl _) (block_lt B1.out) (((Put.refl w3).setCell (p := ⟨w.heap.size, 0, none⟩) (by simp) _).setCell (p := ⟨w.heap.size, 1, none⟩) (by simp) _)
theorem mat_both {w w' : World} {p pm R : Nat} {ix : List Nat} {x : MS} {q : Nat} {vn : Value} {Fd Fn Fd' : List Nat} (h : MAt w p pm R ix x q vn Fd Fn) (hB : x.B ≠ []) {d : DS} {C : List Int} (k : Put (R :: Fd) w w') (D : Dev w' q d Fd') (hC : RowB w' R C) (hl : C.length = x.B.length) (hb : Byts C) (hF : ∀ g ∈ Fd', g ∈ Fd ∨ w.heap.size ≤ g) : MAt w' p pm R ix ⟨d, C, x.s, x.n, x.N⟩ q vn Fd' Fn := by
  have lp := h.box.lt
  have hR := h.far.row
  have ho : Off w (mpt pm) (R :: Fd) := h.mem.ram.offR.cons (h.far.off.sub (fun g hg => by simp [hg]))
  have fr := h.far.more (m := p :: (Fd' ++ Fn)) h.mem hB (fun g hg => by
    simp only [List.mem_cons, List.mem_append] at hg ⊢
    rcases hg with h1 | h1 | h1
    · exact .inl (.inl h1)
    · rcases hF g h1 with h2 | h2
      · exact .inl (.inr (.inl h2))
      · exact .inr h2
    · exact .inl (.inr (.inr h1)))
  have np : p ∉ R :: Fd := fun hm => by
    rcases List.mem_cons.1 hm with e | hm
    · exact hR (by simp [e])
    · exact h.pd hm
  refine ⟨h.box.put k np, D, h.nts.put k (fun g hg hm => ?_), h.mem.turn k ho hC hl hb, ⟨Off.stay h.mem.ram fr.off k ho, fr.row⟩, fun hm => ?_, h.pn, fun g hg hm => ?_, fun g hg => ?_⟩
  · rcases List.mem_cons.1 hm with rfl | hm
    · exact hR (by simp [hg])
    · exact h.dn g hm hg
  · rcases hF p hm with h2 | h2
    · exact h.pd h2
    · omega
  · rcases hF g hg with h2 | h2
    · exact h.dn g h2 hm
    · have := h.nts.lt g hm; omega
  · simp only [List.mem_cons, List.mem_append] at hg
    rcases hg with rfl | rfl | h1 | h1
    · exact h.lo g (by simp)
    · exact h.lo g (by simp)
    · rcases hF g h1 with h2 | h2
      · exact h.lo g (by simp [h2])
      · have := h.lo p (by simp); omega
    · exact h.lo g (by simp [h1])
def MCome (w : World) (p pm R : Nat) (ix : List Nat) (x : MS) (G : List Nat) (e : Ending) (W : World) : Prop :=
  ∃ vc vw Gc Gw, e = .returned (.tuple #[vc, vw]) ∧ Sli W 74 3 vc (comeC x.n ix ⟨x.d, x.B, [], []⟩).c.length (evs (comeC x.n ix ⟨x.d, x.B, [], []⟩).c) Gc ∧ Sli W 3 1 vw (comeC x.n ix ⟨x.d, x.B, [], []⟩).f.length ((comeC x.n ix ⟨x.d, x.B, [], []⟩).f.map (Value.int .i64)) Gw ∧ Goes w p pm R ix G (comX x ix) W
theorem dcome_any {w : World} {p pm R : Nat} {ix : List Nat} {x : MS} {q : Nat} {vn : Value} {Fd Fn : List Nat} (H : MAt w p pm R ix x q vn Fd Fn) (ok : x.Ok) :
    Calls Tryz.prog 52 #[.pointer (some ⟨q, 0, none⟩), .int .i64 x.n, .pointer (some ⟨pm, 0, none⟩)] w (MCome w p pm R ix x (p :: (Fd ++ Fn))) := by
  refine (come_any w q x.d Fd H.dev ok.d ok.e (some ⟨pm, 0, none⟩) R ix x.B (.inr ⟨ok.B, H.mem, H.far.sub (fun g hg => by simp [hg])⟩) H.mem.byts H.mem.fits x.n).mono ?_
  rintro e W ⟨vc, vw, F', Gc, Gw, rfl, d1, m1, sc, sw, p1, hF', _, _, okx, _, _, hlen⟩
  have hne : (comeC x.n ix ⟨x.d, x.B, [], []⟩).B ≠ [] := ne_len hlen ok.B
  have m2 : Mem W (mpt pm) R ix (comeC x.n ix ⟨x.d, x.B, [], []⟩).B := by
    rcases m1 with ⟨h, _⟩ | ⟨_, h, _⟩
    · cases h
    · exact h
  have p2 : Put (R :: Fd) w W := p1.mono (fun g hg => by
    rcases List.mem_append.1 hg with h | h
    · rw [(mem_rwL h).1]; simp
    · simp [h])
  refine ⟨vc, vw, Gc, Gw, rfl, sc, sw, Goes.of_at (mat_both H ok.B p2 d1 m2.row hlen m2.byts hF') (p2.mono (fun g hg => ?_)) hF' (fun g hg => .inl hg)⟩
  rcases List.mem_cons.1 hg with h | h
  · simp [h]
  · simp [h]
theorem MCome.elder {w0 w W : World} {p pm R : Nat} {ix : List Nat} {x : MS} {G : List Nat} {e : Ending} (h : MCome w p pm R ix x G e W) (k : Kep w0 w) : MCome w0 p pm R ix x G e W := by
  obtain ⟨vc, vw, Gc, Gw, h1, h2, h3, h4⟩ := h
  exact ⟨vc, vw, Gc, Gw, h1, h2, h3, h4.elder k⟩
set_option maxHeartbeats 8000000 in
set_option maxRecDepth 100000 in
theorem mcome_any {w : World} {p pm R : Nat} {ix : List Nat} {x : MS} {G : List Nat} (H : Mach w p pm R ix x G) (ok : x.Ok) :
    Calls Tryz.prog 43 #[.pointer (some ⟨p, 0, none⟩)] w (MCome w p pm R ix x G) := by
  have HW := hidd H.works
  obtain ⟨q, vn, Fd, Fn, H, rfl⟩ := H
  have c0 : w.cell? ⟨p, 0, none⟩ = some (.pointer (some ⟨pm, 0, none⟩)) := H.box.cm
  have c1 : w.cell? ⟨p, 1, none⟩ = some (.pointer (some ⟨q, 0, none⟩)) := H.box.cd
  have c2 := H.box.cn
  have HC := hidd (dcome_any (H.kep ((Kep.refl w).drew)) ok)
  clear H ok
  go_enter Tryz.func43, Tryz.ntmps43
  go_wp2_with (go_at_call 32; refine HW.out.mono ?_; rintro e w1 ⟨rfl, rfl⟩)
  go_region_with (go_at_call 52; refine HC.out.mono ?_; rintro e w2 hz; obtain ⟨vc, vw, Gc, Gw, rfl, hz⟩ := hz; have Z := hidd hz; clear hz)
  all_goals
    go_wp2_with fail
    go_ret2
    exact MCome.elder ⟨vc, vw, Gc, Gw, rfl, Z.out⟩ ((Kep.refl _).drew)
set_option maxHeartbeats 8000000 in
set_option maxRecDepth 100000 in
theorem mtake_any {w : World} {p pm R : Nat} {ix : List Nat} {x : MS} {G : List Nat} (H : Mach w p pm R ix x G) (ok : x.Ok) (rm : Room 1 x) :
    Calls Tryz.prog 44 #[.pointer (some ⟨p, 0, none⟩)] w fun e w' => e = .returned (.bool (takB x)) ∧ Goes w p pm R ix G (takX x) w' := by
  have HS := hidd H.stands
  have H' := hidd H
  obtain ⟨q, vn, Fd, Fn, H, rfl⟩ := H
  unfold takB takX
  cases hh : x.s.h with
  | true =>
    rw [hh] at HS
    rw [if_pos rfl]
    clear H ok rm
    go_enter Tryz.func44, Tryz.ntmps44
    go_wp2_with (go_at_call 42; refine HS.out.mono ?_; rintro e w1 ⟨rfl, rfl⟩)
    go_ret
    exact ⟨rfl, Goes.of_kep H'.out (Kep.refl _)⟩
  | false =>
    rw [hh] at HS
    rw [if_neg (by decide)]
    have c1 : w.cell? ⟨p, 1, none⟩ = some (.pointer (some ⟨q, 0, none⟩)) := H.box.cd
    have c2 := H.box.ps
    have HQ : Hid (∀ w', Kep w w' → Calls Tryz.prog 53 #[.pointer (some ⟨q, 0, none⟩), .int .u32 x.s.ps] w' fun e w'' => e = .returned (.int .i64 (tkI x)) ∧ Kep w' w'') := fun w' k => vwants_any (H.dev.kep k) ok.d x.s.ps ok.s.ps
    by_cases h0 : tkI x = 0
    · rw [h0] at HQ
      rw [if_pos h0, h0]
      generalize x.s.ps = ps at HQ c2
      clear H ok rm h0
      go_enter Tryz.func44, Tryz.ntmps44
      go_wp2_with (go_at_call 42; refine HS.out.mono ?_; rintro e w1 ⟨rfl, rfl⟩)
      go_region_with (go_at_call 53; refine (HQ.out _ ((Kep.refl _).drew)).mono ?_; rintro e w2 ⟨rfl, k2⟩; have K2 := hidd k2; clear k2)
      all_goals
        go_wp2_with fail
        go_ret
        exact ⟨rfl, Goes.of_kep H'.out (kep_trans ((Kep.refl _).drew) K2.out)⟩
    · rw [if_neg h0]
      have t0 : (tkI x == 0) = false := by simp [h0]
      rw [t0]
      have HA : Hid (∀ w', Kep w w' → Calls Tryz.prog 54 #[.pointer (some ⟨q, 0, none⟩), .int .i64 (tkI x)] w' fun e w'' => e = .returned (.tuple #[]) ∧ MAt w'' p pm R ix ⟨takenS x.d (tkI x), x.B, x.s, x.n, x.N⟩ q vn Fd Fn ∧ Put Fd w' w'') := fun w' k => by
        have h1 := H.kep k
        refine (taken_dev h1.dev ok.d (tkI x)).mono ?_
        rintro e w'' ⟨rfl, d1, p1⟩
        exact ⟨rfl, mat_dev h1 ok.B p1 d1 (fun g hg => .inl hg), p1⟩
      have HE : Hid (∀ w', MAt w' p pm R ix ⟨takenS x.d (tkI x), x.B, x.s, x.n, x.N⟩ q vn Fd Fn → Calls Tryz.prog 55 #[.pointer (some ⟨p, 0, none⟩), .agg #[.int .i64 (tkI x), .int .u32 0], .int .u32 x.s.pc] w' fun e w'' => e = .returned (.tuple #[]) ∧ ∃ vn' Fn', MAt w'' p pm R ix (dlvX ⟨takenS x.d (tkI x), x.B, x.s, x.n, x.N⟩ (tkI x) 0 x.s.pc) q vn' Fd Fn' ∧ Put (p :: Fn) w' w'' ∧ ∀ g ∈ Fn', g ∈ Fn ∨ w'.heap.size ≤ g) := fun w' h => menter_any h ok.B ok.s (by have := rm.N; show x.N.length < 1000000; omega) (by have := rm.n; have := ok.n; show 0 ≤ x.n ∧ x.n < 4611686018427387904; omega) (tkI x) 0 x.s.pc (by decide) ok.s.pc
      generalize dlvX ⟨takenS x.d (tkI x), x.B, x.s, x.n, x.N⟩ (tkI x) 0 x.s.pc = Y at HE ⊢
      have PC : Hid (∀ w', MAt w' p pm R ix ⟨takenS x.d (tkI x), x.B, x.s, x.n, x.N⟩ q vn Fd Fn → w'.cell? ⟨p, 10, none⟩ = some (.int .u32 x.s.pc)) := fun w' h => h.box.pc
      have CD : Hid (∀ w', Kep w w' → w'.cell? ⟨p, 1, none⟩ = some (.pointer (some ⟨q, 0, none⟩))) := fun w' k => (H.kep k).box.cd
      generalize takenS x.d (tkI x) = d1 at HA HE PC
      generalize tkI x = ck at *
      generalize x.s.ps = ps at HQ c2
      clear H ok rm h0
      go_enter Tryz.func44, Tryz.ntmps44
      go_wp2_with (go_at_call 42; refine HS.out.mono ?_; rintro e w1 ⟨rfl, rfl⟩)
      go_region_with (go_at_call 53; refine (HQ.out _ ((Kep.refl _).drew)).mono ?_; rintro e w2 ⟨rfl, k2⟩; have K2 := hidd (kep_trans ((Kep.refl _).drew) k2); clear k2)
      all_goals
        have cd := CD.out w2 K2.out
        go_wp2_with fail
        refine (HA.out w2 K2.out).mono ?_
        rintro e w3 ⟨rfl, m3, p3⟩
        have M3 := hidd m3
        have P3 := hidd p3
        have pc := PC.out w3 m3
        clear m3 p3
        go_wp2_with fail
        refine (HE.out w3 M3.out).mono ?_
        rintro e w4 ⟨rfl, vn', Fn', m4, p4, f4⟩
        have Z := hidd (Goes.of_at (w := w1) (Fd0 := Fd) (Fn0 := Fn) m4 ((((Put.of_kep K2.out).trans (P3.out.mono (m := R :: (p :: (Fd ++ Fn))) (fun g hg => by simp [hg]))).trans (p4.mono (fun g hg => by rcases List.mem_cons.1 hg with h | h; simp [h]; simp [h])))) (fun g hg => .inl hg) (fun g hg => (f4 g hg).imp id (fun h => by have := K2.out.size; have := P3.out.size; omega)))
        clear m4 p4 f4
        go_wp2_with fail
        go_ret
        exact ⟨rfl, Z.out⟩
end Go.Proofs.YtnignfloedcmlaaGreatDoor
