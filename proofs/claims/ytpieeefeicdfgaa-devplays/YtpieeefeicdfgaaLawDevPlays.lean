/- For every script, every row of bytes and all steps, the law DevPlays returns true: devices, the memory that they write, and a copy of them, are as the document says. -/
import Derived.Test.YtpieeefeicdfgaaRows
import Derived.Test.YtpieeefeicdfgaaVpl
import Derived.Test.YtpieeefeicdfgaaSkw
import Derived.WalkKit
import Derived.ProofKit
import Derived.OpenShut
import Derived.ShutString
import Derived.ChangeOld
import Derived.Below
import Derived.Lib.SmallJoins
namespace Go.Proofs.Ytpieeefeicdfgaa.devPlays
open Go.ChangeShapes Go.WideShapes Go.ChangeAt Go.RowKit
set_option linter.unusedVariables false
set_option linter.unusedSimpArgs false

theorem own : ownKnob Try.prog.godebug = none := by kernel_rfl
theorem laidOut : laidOutB Try.prog = true := by kernel_rfl

theorem stp_at : ∀ (E : List Stp) (k : Nat) (e : Stp), E[k]? = some e → ∀ j, j < 3 → (E.flatMap stpV)[k * 3 + j]? = (stpV e)[j]?
  | [], k, e, h, j, hj => by simp at h
  | x :: E, 0, e, h, j, hj => by
    simp at h; subst h
    rw [List.flatMap_cons, List.getElem?_append_left (by simp [stpV]; omega)]
    simp
  | x :: E, k + 1, e, h, j, hj => by
    rw [List.flatMap_cons, List.getElem?_append_right (by simp [stpV]; omega), ← stp_at E k e (by simpa using h) j hj]
    congr 1; simp [stpV]; omega
theorem writeS_E (s : DS) (c v : Int) : (writeS s c v).E = s.E := by
  unfold writeS
  split
  · rfl
  split
  · rfl
  split
  · rfl
  split
  · unfold giveS; split <;> rfl
  split
  · rfl
  split <;> rfl
theorem readS_E (s : DS) (c : Int) : (readS s c).E = s.E := by unfold readS; split <;> rfl
theorem takenS_E (s : DS) (c : Int) : (takenS s c).E = s.E := by unfold takenS; split; rfl; split; rfl; split <;> rfl
theorem comeN_E (step : Int) (ix : List Nat) : ∀ (n : Nat) (x : CS), (comeN step ix n x).s.E.length ≤ x.s.E.length
  | 0, x => Nat.le_refl _
  | n + 1, x => by
    unfold comeN; split
    · rename_i h
      have h1 := comeN_E step ix n (nxt step ix x)
      have h2 := nxt_E (ix := ix) h
      omega
    · exact Nat.le_refl _
/-- Devices that are newer than w0. -/
def OwnD (w0 : World) (p m : Nat) (W : World) : Prop := ∃ s F, Dev W p s F ∧ s.Ok ∧ s.E.length ≤ 64 ∧ s.O.length ≤ m ∧ (∀ g ∈ F, w0.heap.size ≤ g) ∧ Kep w0 W
theorem newer {w0 W : World} {F F' : List Nat} (K : Kep w0 W) (hF : ∀ g ∈ F, w0.heap.size ≤ g) (h : ∀ g ∈ F', g ∈ F ∨ W.heap.size ≤ g) : ∀ g ∈ F', w0.heap.size ≤ g := fun g hg => by
  rcases h g hg with h | h
  · exact hF g h
  · exact Nat.le_trans K.size h
theorem OwnD.write {w0 W : World} {p m : Nat} (h : OwnD w0 p m W) (hm : m < 900000) (port v : Int) (hv : 0 ≤ v ∧ v < 4294967296) : Calls Try.prog 19 #[.pointer (some ⟨p, 0, none⟩), .int .i64 port, .int .u32 v] W fun e W' => e = .returned (.tuple #[]) ∧ OwnD w0 p (m + 1) W' := by
  obtain ⟨s, F, d, ok, hE, hO, hF, K⟩ := h
  refine (write_dev d ok (by omega) port v hv).mono ?_
  rintro e W' ⟨rfl, F', d', k', f'⟩
  exact ⟨rfl, _, F', d', writeS_ok ok port v hv, by rw [writeS_E]; exact hE, Nat.le_trans (writeS_O s port v) (Nat.succ_le_succ hO), newer K hF f', K.put k' hF⟩
theorem OwnD.come {w0 W : World} {p m : Nat} (h : OwnD w0 p m W) (step : Int) : Calls Try.prog 20 #[.pointer (some ⟨p, 0, none⟩), .int .i64 step, .pointer none] W fun e W' => (∃ vc vw, e = .returned (.tuple #[vc, vw])) ∧ OwnD w0 p m W' := by
  obtain ⟨s, F, d, ok, hE, hO, hF, K⟩ := h
  refine (come_nil W p s F d ok hE step).mono ?_
  rintro e W' ⟨vc, vw, F', Gc, Gw, rfl, d', _, _, _, k', f', _, _, ok', _⟩
  exact ⟨⟨vc, vw, rfl⟩, _, F', d', ok'.s, Nat.le_trans (comeN_E _ _ _ _) hE, by rw [comeC_O]; exact hO, newer K hF f', K.put k' (fun g hg => by simp [rwL] at hg; exact hF g hg)⟩
theorem OwnD.read {w0 W : World} {p m : Nat} (h : OwnD w0 p m W) (port : Int) : Calls Try.prog 21 #[.pointer (some ⟨p, 0, none⟩), .int .i64 port] W fun e W' => (∃ r, e = .returned (.int .u32 r)) ∧ OwnD w0 p m W' := by
  obtain ⟨s, F, d, ok, hE, hO, hF, K⟩ := h
  refine (read_dev d ok port).mono ?_
  rintro e W' ⟨rfl, d', k'⟩
  exact ⟨⟨_, rfl⟩, _, F, d', readS_ok ok port, by rw [readS_E]; exact hE, by rw [readS_O]; exact hO, hF, K.put k' hF⟩
theorem OwnD.taken {w0 W : World} {p m : Nat} (h : OwnD w0 p m W) (cause : Int) : Calls Try.prog 22 #[.pointer (some ⟨p, 0, none⟩), .int .i64 cause] W fun e W' => e = .returned (.tuple #[]) ∧ OwnD w0 p m W' := by
  obtain ⟨s, F, d, ok, hE, hO, hF, K⟩ := h
  refine (taken_dev d ok cause).mono ?_
  rintro e W' ⟨rfl, d', k'⟩
  exact ⟨rfl, _, F, d', takenS_ok ok cause, by rw [takenS_E]; exact hE, by rw [takenS_O]; exact hO, hF, K.put k' hF⟩
set_option maxHeartbeats 16000000 in
set_option maxRecDepth 100000 in
theorem walk (x0 : Option Addr) (len0 cap0 : Nat) (z0 : List Ev) (x1 : Option Addr) (len1 cap1 : Nat) (z1 : List Int) (x2 : Option Addr) (len2 cap2 : Nat) (z2 : List Stp) (w : World) (w0 : EvRow w x0 len0 cap0 z0) (w1 : BSl w x1 len1 cap1 z1) (w2 : StpRow w x2 len2 cap2 z2) :
    Calls Try.prog 3 #[.slice x0 len0 cap0, .slice x1 len1 cap1, .slice x2 len2 cap2] w fun e w' => e = .returned (.bool true) ∧ Kep w w' := by
  obtain ⟨hz, hzc, hzm, _, hzb⟩ := id w1
  have HE : Hid (∀ w', Kep w w' → Calls Try.prog 10 #[.slice x0 len0 cap0, .slice x1 len1 cap1] w' fun e w'' => e = .returned (.int .i64 (errI z0 z1)) ∧ Kep w' w'') := fun w' k => error_any w' x0 len0 cap0 z0 (w0.kep k) x1 len1 cap1 z1 hz hzc hzm
  have hM : Hid (∀ w, Calls Try.prog 11 #[] w fun e w' => e = .returned (.bool true) ∧ Kep w w') := works11_any
  by_cases he : errI z0 z1 = 0
  · have HN : Hid (Calls Try.prog 9 #[.slice x0 len0 cap0, .slice x1 len1 cap1] w fun e w' => ∃ p F, e = .returned (.tuple #[.pointer (some ⟨p, 0, none⟩), .int .i64 0]) ∧ Dev w' p (ds0 z0 z1) F ∧ Kep w w' ∧ ∀ g ∈ F, w.heap.size ≤ g) := vnew_ok w x0 len0 cap0 z0 w0.hl w0.hle w0.lies x1 len1 cap1 z1 hz hzc hzm (BSl.lies w1) he
    have okD : Hid (ds0 z0 z1).Ok := ds0_ok he w0.byte hzb
    obtain ⟨he1, he2, _, _⟩ := errI_ok he
    have hE64 : Hid (z0.length ≤ 64) := he1
    have hMem : Hid (∀ w, Calls Try.prog 12 #[] w fun e w' => ∃ (p R Rb : Nat) (B : List Int), e = .returned (.tuple #[.pointer (some ⟨p, 0, none⟩), refV (some ⟨Rb, 0, none⟩) (64 * 5)]) ∧ Two w' (.pointer (some ⟨p, 0, none⟩)) R 5 (some ⟨Rb, 0, none⟩) Rb B ∧ Kep w w' ∧ w.heap.size ≤ R ∧ w.heap.size ≤ Rb) := memory_any
    obtain rfl : z0.length = len0 := w0.hl
    obtain rfl : z1.length = len1 := hz
    have HR : Hid (∀ w', Kep w w' → Calls Try.prog 13 #[.slice x0 z0.length cap0, .slice x1 z1.length cap1] w' fun e w'' => ∃ q G, e = .returned (.pointer (some ⟨q, 0, none⟩)) ∧ RDv w'' q (ds0 z0 z1) (.slice x0 z0.length cap0) z0 G ∧ Kep w' w'' ∧ ∀ g ∈ G, w'.heap.size ≤ g) := fun w' k => rnew11_any w' x0 cap0 z0 x1 cap1 z1 (by omega) (by omega) ((BSl.lies w1).kep k)
    have hS : Hid (Lies w x0 (evs z0)) := w0.lies
    have W2 : Hid (StpRow w x2 len2 cap2 z2) := w2
    rw [he] at HE
    obtain ⟨n0, hn0⟩ : ∃ n, Hid (n = z0.length) := ⟨_, rfl⟩
    obtain ⟨n1, hn1⟩ : ∃ n, Hid (n = z1.length) := ⟨_, rfl⟩
    rw [← hn0.out, ← hn1.out] at HE HN HR ⊢
    have h2l : (len2 : Int) ≤ 9223372036854775807 := by have := w2.hle; have := w2.hmax; omega
    have h2c : (len2 : Int) ≤ cap2 := by have := w2.hle; omega
    clear w0 w1 w2 hzc hzm hzb he he1 he2
    go_enter Try.func3, Try.ntmps3
    go_wp2_with fail
    refine HN.out.mono ?_
    rintro e w5 ⟨p, F, rfl, d5, k5, f5⟩
    have D5 : Hid (Dev w5 p (ds0 z0 z1) F) := d5
    have K5 : Hid (Kep w w5) := k5
    have F5 : Hid (∀ g ∈ F, w.heap.size ≤ g) := f5
    clear d5 k5 f5 HN
    go_wp2_with fail
    refine (HE.out _ K5.out).mono ?_
    rintro e w6 ⟨rfl, k6⟩
    have K6 : Hid (Kep w5 w6) := k6
    clear k6 HE
    go_wp2_with fail
    refine (hMem.out _).mono ?_
    rintro e w7 ⟨pr, R, Rb, B, rfl, T7, k7, r7, rb7⟩
    have T7' : Hid (Two w7 (.pointer (some ⟨pr, 0, none⟩)) R 5 (some ⟨Rb, 0, none⟩) Rb B) := T7
    have K7 : Hid (Kep w5 w7) := kep_trans K6.out k7
    have R7 : Hid (w5.heap.size ≤ R ∧ w5.heap.size ≤ Rb) := ⟨Nat.le_trans K6.out.size r7, Nat.le_trans K6.out.size rb7⟩
    have KA : Hid (Kep w (w7.alloc (ramC Rb))) := (kep_trans K5.out K7.out).alloc _
    clear T7 k7 r7 rb7 hMem K6
    go_wp2_with fail
    refine (HR.out _ KA.out).mono ?_
    rintro e w8 ⟨q, G, rfl, r8, k8, g8⟩
    have P8 : Hid (PKS w p q (.slice x0 z0.length cap0) z0 pr R Rb w7.heap.size (ramC Rb) 0 w8) := ⟨ds0 z0 z1, B, F, G, pka_start K5.out D5.out F5.out okD.out K7.out T7'.out R7.out.1 R7.out.2 k8 (by rw [← hn0.out]; exact r8) g8, by simp [ds0]⟩
    generalize w7.heap.size = gb at P8 ⊢
    clear r8 k8 g8 KA K5 K7 R7 T7' D5 F5 okD HR
    go_wp2_with fail
    go_loopw [13] (fun i wr => ∃ k : Nat, (k : Int) ≤ 120 ∧ (k : Int) ≤ len2 ∧ i = .int .i64 k ∧ Hid (PKS w p q (.slice x0 z0.length cap0) z0 pr R Rb gb (ramC Rb) k wr)) (fun i _ => 120 - (intOf i).toNat)
    case atStart => exact ⟨0, by omega, by omega, rfl, P8⟩
    case round =>
      obtain ⟨k, hk, hk2, rfl, A⟩ := hrel
      clear P8
      by_cases hlt : (k : Int) < 120 ∧ (k : Int) < len2
      case pos =>
        obtain ⟨hlt1, hlt2⟩ := hlt
        have hKw : Hid (Kep w wr) := by obtain ⟨s, B, F, G, A', _⟩ := A.out; exact A'.kep
        have hbx : wr.heap[gb]? = some (ramC Rb) := by obtain ⟨s, B, F, G, A', _⟩ := A.out; exact A'.bx
        have R2 := W2.out.kep hKw.out
        have hl2 : k < z2.length := by rw [R2.hl]; omega
        obtain ⟨e, hez⟩ : ∃ e, z2[k]? = some e := ⟨_, List.getElem?_eq_getElem hl2⟩
        obtain ⟨kd, nn, vv⟩ := e
        have hgood := R2.good (kd, nn, vv) (List.mem_of_getElem? hez)
        have hnn : Hid (-9223372036854775808 ≤ nn ∧ nn ≤ 9223372036854775807) := hgood.1
        have hvv : Hid (0 ≤ vv ∧ vv < 4294967296) := hgood.2
        rcases R2.lies with h0 | ⟨b, off, hxs, hb, hcell⟩
        · have := stp_at z2 k _ hez 0 (by omega); rw [h0] at this; simp [stpV] at this
        subst hxs
        have s0 : wr.cell? ⟨b, off + k * 3, none⟩ = some (.int .i64 kd) := hcell _ _ (by have := stp_at z2 k _ hez 0 (by omega); simpa [stpV] using this)
        have s1 : wr.cell? ⟨b, off + k * 3 + 1, none⟩ = some (.int .i64 nn) := by rw [Nat.add_assoc]; exact hcell _ _ (by have := stp_at z2 k _ hez 1 (by omega); simpa [stpV] using this)
        have s2 : wr.cell? ⟨b, off + k * 3 + 2, none⟩ = some (.int .u32 vv) := by rw [Nat.add_assoc]; exact hcell _ _ (by have := stp_at z2 k _ hez 2 (by omega); simpa [stpV] using this)
        have s3 : wr.cell? ⟨gb, 0, none⟩ = some (.slice (some ⟨Rb, 0, none⟩) 320 320) := (cell_of_block hbx).trans rfl
        have KEEP : Hid (∀ w' m, PKS w p q (.slice x0 z0.length cap0) z0 pr R Rb gb (ramC Rb) m w' → w'.cell? ⟨b, off + k * 3, none⟩ = some (.int .i64 kd) ∧ w'.cell? ⟨b, off + k * 3 + 1, none⟩ = some (.int .i64 nn) ∧ w'.cell? ⟨b, off + k * 3 + 2, none⟩ = some (.int .u32 vv) ∧ w'.cell? ⟨gb, 0, none⟩ = some (.slice (some ⟨Rb, 0, none⟩) 320 320)) := fun w' m P => by
          obtain ⟨s, B, F, G, A', _⟩ := P
          have R3 := W2.out.kep A'.kep
          rcases R3.lies with h0 | ⟨b', off', hxs, hb', hcell'⟩
          · have := stp_at z2 k _ hez 0 (by omega); rw [h0] at this; simp [stpV] at this
          · cases hxs
            refine ⟨hcell' _ _ (by have := stp_at z2 k _ hez 0 (by omega); simpa [stpV] using this), ?_, ?_, (cell_of_block A'.bx).trans rfl⟩
            · rw [Nat.add_assoc]; exact hcell' _ _ (by have := stp_at z2 k _ hez 1 (by omega); simpa [stpV] using this)
            · rw [Nat.add_assoc]; exact hcell' _ _ (by have := stp_at z2 k _ hez 2 (by omega); simpa [stpV] using this)
        have HS : Hid (Calls Try.prog 23 #[.pointer (some ⟨p, 0, none⟩), .pointer (some ⟨q, 0, none⟩), .agg #[.int .i64 kd, .int .i64 nn, .int .u32 vv], .pointer (some ⟨pr, 0, none⟩), refV (some ⟨Rb, 0, none⟩) 320] wr.drew fun e w' => e = .returned (.bool true) ∧ PKS w p q (.slice x0 z0.length cap0) z0 pr R Rb gb (ramC Rb) (k + 1) w') := step_any (by obtain ⟨s, B, F, G, A', hO⟩ := A.out; exact ⟨s, B, F, G, A'.kept ((Kep.refl wr).drew), hO⟩) hE64.out hS.out (by omega) kd nn vv hnn.out hvv.out
        clear R2 hl2 hez hgood hcell hbx
        by_cases h7 : kd = 7
        case pos =>
          subst h7
          obtain ⟨s, B, F, G, A1, hO⟩ := A.out
          have A1' : Hid (PKA w p q s s (.slice x0 z0.length cap0) z0 pr R Rb gb (ramC Rb) B B wr F G) := A1
          have hO' : Hid (s.O.length ≤ k) := hO
          have hsE : s.E.length ≤ 64 := by
            obtain ⟨_, _, _, _, _, _, _, _, _, _, D, _⟩ := A1.ref
            rw [D.E, List.length_drop]; have := hE64.out; omega
          have HC : Hid (Calls Try.prog 14 #[.pointer (some ⟨p, 0, none⟩)] wr fun e w' => ∃ p' F', e = .returned (.pointer (some ⟨p', 0, none⟩)) ∧ Dev w' p' s F' ∧ Kep wr w' ∧ ∀ g ∈ F', wr.heap.size ≤ g) := vcopy_any A1.dev A1.oks hsE (by omega)
          have hsE' : Hid (s.E.length ≤ 64) := hsE
          clear HS A hO KEEP
          go_wp2_with fail
          refine HC.out.mono ?_
          rintro e wc ⟨pc, Fc, rfl, dc, kc, fc⟩
          have DC : Hid (Dev wc pc s Fc) := dc
          have KC : Hid (Kep wr wc) := kc
          have FC : Hid (∀ g ∈ Fc, wr.heap.size ≤ g) := fc
          have A2 := A1.kept kc
          obtain ⟨vo, vd, co, cd, so, sd⟩ := RDv.outs A2.ref
          have lq : q < wc.heap.size := by obtain ⟨_, _, _, _, _, _, _, _, _, _, D, _⟩ := A2.ref; exact block_lt D.box
          have KE : Hid (∀ w', Kep wc w' → w'.cell? ⟨q, 5, none⟩ = some vo ∧ w'.cell? ⟨q, 6, none⟩ = some vd ∧ Sem.run Try.prog (convert 23 9 vo) w' = .ok (.string (strL s.O)) w' ∧ Sem.run Try.prog (convert 23 9 vd) w' = .ok (.string (strL s.D)) w') := fun w' K => ⟨(K.cell lq).trans co, (K.cell lq).trans cd, so w' K, sd w' K⟩
          have HOut : Hid (∀ w', Kep wc w' → Calls Try.prog 17 #[.pointer (some ⟨pc, 0, none⟩)] w' fun e w'' => ∃ u, e = .returned u ∧ Str w'' u (strL s.O) ∧ Kep w' w'') := fun w' K => by
            refine (output_any (dc.kep K) (by have := hO'.out; omega)).mono ?_
            rintro e w'' ⟨u, rfl, ⟨G1, sl1, _⟩, k1⟩
            exact ⟨u, rfl, sl1.str, k1⟩
          have HDsk : Hid (∀ w', Kep wc w' → Calls Try.prog 18 #[.pointer (some ⟨pc, 0, none⟩)] w' fun e w'' => ∃ u, e = .returned u ∧ Str w'' u (strL s.D) ∧ Kep w' w'') := fun w' K => by
            refine (disk_any (dc.kep K) A1'.out.oks).mono ?_
            rintro e w'' ⟨u, rfl, ⟨G1, sl1, _⟩, k1⟩
            exact ⟨u, rfl, sl1.str, k1⟩
          have HC1 : Hid (∀ w', Kep wc w' → Calls Try.prog 15 #[.pointer (some ⟨pc, 0, none⟩), .int .i64 1] w' fun e w'' => e = .returned (.int .u32 (inI s 1)) ∧ w'' = w') := fun w' K => in_any (dc.kep K) A1'.out.oks 1
          have HC0 : Hid (∀ w', Kep wc w' → Calls Try.prog 15 #[.pointer (some ⟨pc, 0, none⟩), .int .i64 0] w' fun e w'' => e = .returned (.int .u32 (inI s 0)) ∧ w'' = w') := fun w' K => in_any (dc.kep K) A1'.out.oks 0
          have HR1 : Hid (∀ w', Kep wc w' → Calls Try.prog 16 #[.pointer (some ⟨q, 0, none⟩), .int .i64 1] w' fun e w'' => e = .returned (.int .u32 (inI s 1)) ∧ Kep w' w'') := fun w' K => rin_any (A2.ref.kep K) A2.okt 1
          have HR0 : Hid (∀ w', Kep wc w' → Calls Try.prog 16 #[.pointer (some ⟨q, 0, none⟩), .int .i64 0] w' fun e w'' => e = .returned (.int .u32 (inI s 0)) ∧ Kep w' w'') := fun w' K => rin_any (A2.ref.kep K) A2.okt 0
          generalize strL s.O = sO at HOut KE
          generalize strL s.D = sD at HDsk KE
          generalize inI s 1 = r1 at HC1 HR1
          generalize inI s 0 = r0 at HC0 HR0
          have KD : Hid (Kep wc wc.drew) := (Kep.refl _).drew
          have y0 := KE.out _ KD.out
          clear A1 A2 dc kc fc co cd so sd lq HC hsE
          go_wp2_with fail
          go_region_held (fun w' => w'.cell? ⟨q, 5, none⟩ = some vo ∧ w'.cell? ⟨q, 6, none⟩ = some vd ∧ Sem.run Try.prog (convert 23 9 vo) w' = .ok (.string sO) w' ∧ Sem.run Try.prog (convert 23 9 vd) w' = .ok (.string sD) w') (assumption) (first
            | (go_at_call_of 15 (Value.int .i64 1); refine (HC1.out _ KD.out).mono ?_; rintro e wa ⟨rfl, hq⟩; rw [hq]; clear hq)
            | (go_at_call_of 16 (Value.int .i64 1); refine (HR1.out _ KD.out).mono ?_; rintro e wb ⟨rfl, k2⟩; have K2 : Hid (Kep wc wb) := kep_trans KD.out k2; have y2 := KE.out _ K2.out; clear k2)
            | (go_at_call_of 15 (Value.int .i64 0); refine (HC0.out _ K2.out).mono ?_; rintro e wa ⟨rfl, hq⟩; rw [hq]; clear hq)
            | (go_at_call_of 16 (Value.int .i64 0); refine (HR0.out _ K2.out).mono ?_; rintro e wd ⟨rfl, k3⟩; have K3 : Hid (Kep wc wd) := kep_trans K2.out k3; have y3 := KE.out _ K3.out; clear k3)
            | (go_at_call 17; refine (HOut.out _ K3.out).mono ?_; rintro e we ⟨u1, rfl, t1, k4⟩; have K4 : Hid (Kep wc we) := kep_trans K3.out k4; have y4 := KE.out _ K4.out; have U1 : Hid (Str we u1 sO) := t1; have v1 := t1 we (Kep.refl _); clear k4 t1)
            | (go_at_call 18; refine (HDsk.out _ K4.out).mono ?_; rintro e wf ⟨u2, rfl, t2, k5⟩; have K5 : Hid (Kep wc wf) := kep_trans K4.out k5; have y5 := KE.out _ K5.out; have v2 := t2 wf (Kep.refl _); have v1b := U1.out wf k5; clear k5 t2))
          all_goals
            have O1 : Hid (OwnD wr pc k wf) := ⟨s, Fc, DC.out.kep K5.out, A1'.out.oks, hsE'.out, hO'.out, FC.out, kep_trans KC.out K5.out⟩
            have hk9 : k < 800000 := by omega
            go_wp2_with fail
            refine (OwnD.write O1.out (by omega) 4 2 (by decide)).mono ?_
            rintro e wg ⟨rfl, o2⟩
            have O2 : Hid (OwnD wr pc (k + 1) wg) := o2
            clear o2 O1
            go_wp2_with fail
            refine (OwnD.come O2.out 1073741824).mono ?_
            rintro e wh ⟨⟨vc, vw, rfl⟩, o3⟩
            have O3 : Hid (OwnD wr pc (k + 1) wh) := o3
            clear o3 O2
            go_wp2_with fail
            refine (OwnD.read O3.out 0).mono ?_
            rintro e wi ⟨⟨rr, rfl⟩, o4⟩
            have O4 : Hid (OwnD wr pc (k + 1) wi) := o4
            clear o4 O3
            go_wp2_with fail
            refine (OwnD.write O4.out (by omega) 0 9 (by decide)).mono ?_
            rintro e wj ⟨rfl, o5⟩
            have O5 : Hid (OwnD wr pc (k + 1 + 1) wj) := o5
            clear o5 O4
            go_wp2_with fail
            refine (OwnD.taken O5.out 9).mono ?_
            rintro e wk ⟨rfl, o6⟩
            have KF : Hid (Kep wr wk) := by obtain ⟨_, _, _, _, _, _, _, K⟩ := o6; exact K
            clear o6 O5
            go_wp2_with fail
            go_roundw
            case rel => exact ⟨k + 1, by omega, by omega, by go_num, s, B, F, G, A1'.out.kept KF.out, Nat.le_succ_of_le hO'.out⟩
            case measure => simp [intOf]; omega
        case neg =>
          have t7 : (kd == 7) = false := by simp [h7]
          clear h7
          go_wp2_with fail
          go_region_held3 (fun w' => w'.cell? ⟨b, off + k * 3, none⟩ = some (.int .i64 kd) ∧ w'.cell? ⟨b, off + k * 3 + 1, none⟩ = some (.int .i64 nn) ∧ w'.cell? ⟨b, off + k * 3 + 2, none⟩ = some (.int .u32 vv) ∧ w'.cell? ⟨gb, 0, none⟩ = some (.slice (some ⟨Rb, 0, none⟩) 320 320)) (first | exact ⟨s0, s1, s2, s3⟩ | exact hkp) ((go_at_call 23; refine HS.out.mono ?_; rintro e w9 ⟨rfl, A9⟩; have hkp := KEEP.out w9 _ A9; have A9' : Hid (PKS w p q (.slice x0 z0.length cap0) z0 pr R Rb gb (ramC Rb) (k + 1) w9) := A9; clear A9))
          all_goals
            go_wp2_with fail
            go_roundw
            case rel => exact ⟨k + 1, by omega, by omega, by go_num, A9'⟩
            case measure => simp [intOf]; omega
      case neg =>
        have hcase : (decide ((k : Int) < len2) = false ∧ decide (k < len2) = false) ∨ ((decide ((k : Int) < len2) = true ∧ decide (k < len2) = true) ∧ decide ((k : Int) < 120) = false ∧ decide (k < 120) = false) := by
          by_cases h : (k : Int) < len2
          · exact .inr ⟨⟨decide_eq_true h, decide_eq_true (by omega)⟩, decide_eq_false (by omega), decide_eq_false (by omega)⟩
          · exact .inl ⟨decide_eq_false h, decide_eq_false (by omega)⟩
        clear hlt hk2
        rcases hcase with ⟨t1, t2⟩ | ⟨⟨t1, t2⟩, t3, t4⟩
        case' inl =>
          go_wp2_with fail
        case' inr =>
          go_wp2_with fail
        all_goals
          go_loopw [15] (fun i wz => ∃ j : Nat, (j : Int) ≤ 9 ∧ i = .int .i64 j ∧ Hid (PKS w p q (.slice x0 z0.length cap0) z0 pr R Rb gb (ramC Rb) k wz)) (fun i _ => 9 - (intOf i).toNat)
          case atStart => exact ⟨0, by omega, rfl, A⟩
          case round =>
            rename World => wz
            obtain ⟨j, hj, rfl, C⟩ := hrel
            clear A t1 t2
            obtain ⟨s, B, F, G, A1, hO⟩ := C.out
            have A1' : Hid (PKA w p q s s (.slice x0 z0.length cap0) z0 pr R Rb gb (ramC Rb) B B wz F G) := A1
            have hO' : Hid (s.O.length ≤ k) := hO
            by_cases hlt : (j : Int) < 9
            · have H1 : Hid (Calls Try.prog 15 #[.pointer (some ⟨p, 0, none⟩), .int .i64 j] wz fun e w' => e = .returned (.int .u32 (inI s j)) ∧ w' = wz) := in_any A1.dev A1.oks j
              have H2 : Hid (Calls Try.prog 16 #[.pointer (some ⟨q, 0, none⟩), .int .i64 j] wz fun e w' => e = .returned (.int .u32 (inI s j)) ∧ Kep wz w') := rin_any A1.ref A1.okt j
              generalize inI s j = r at H1 H2
              clear A1 hO C
              go_wp2_with (first
                | (go_at_call 15; refine H1.out.mono ?_; rintro e wy ⟨rfl, hq⟩; rw [hq]; clear hq)
                | (go_at_call 16; refine H2.out.mono ?_; rintro e wy ⟨rfl, ky⟩; have KY : Hid (Kep wz wy) := ky; clear ky))
              go_roundw
              case rel => exact ⟨j + 1, by omega, by go_num, s, B, F, G, A1'.out.kept KY.out, hO'.out⟩
              case measure => simp [intOf]; omega
            · obtain ⟨vo, vd, co, cd, so, sd⟩ := RDv.outs A1.ref
              have HOut : Hid (∀ w', Kep wz w' → Calls Try.prog 17 #[.pointer (some ⟨p, 0, none⟩)] w' fun e w'' => ∃ u, e = .returned u ∧ Str w'' u (strL s.O) ∧ Kep w' w'') := fun w' K => by
                refine (output_any (A1.dev.kep K) (by omega)).mono ?_
                rintro e w'' ⟨u, rfl, ⟨G1, sl1, _⟩, k1⟩
                exact ⟨u, rfl, sl1.str, k1⟩
              have HDsk : Hid (∀ w', Kep wz w' → Calls Try.prog 18 #[.pointer (some ⟨p, 0, none⟩)] w' fun e w'' => ∃ u, e = .returned u ∧ Str w'' u (strL s.D) ∧ Kep w' w'') := fun w' K => by
                refine (disk_any (A1.dev.kep K) A1.oks).mono ?_
                rintro e w'' ⟨u, rfl, ⟨G1, sl1, _⟩, k1⟩
                exact ⟨u, rfl, sl1.str, k1⟩
              have HAl : Hid (∀ w', Kep wz w' → Calls Try.prog 24 #[.pointer (some ⟨pr, 0, none⟩), refV (some ⟨Rb, 0, none⟩) 320] w' fun e w'' => e = .returned (.bool true) ∧ Kep w' w'') := fun w' K => by
                have := alike_any w' _ R 5 _ Rb B ((Two.of_pka A1).kep K)
                rw [A1.lB] at this; exact this
              have lq : q < wz.heap.size := by obtain ⟨_, _, _, _, _, _, _, _, _, _, D, _⟩ := A1.ref; exact block_lt D.box
              have KE : Hid (∀ w', Kep wz w' → w'.cell? ⟨q, 5, none⟩ = some vo ∧ w'.cell? ⟨q, 6, none⟩ = some vd ∧ w'.cell? ⟨gb, 0, none⟩ = some (.slice (some ⟨Rb, 0, none⟩) 320 320) ∧ Sem.run Try.prog (convert 23 9 vo) w' = .ok (.string (strL s.O)) w' ∧ Sem.run Try.prog (convert 23 9 vd) w' = .ok (.string (strL s.D)) w') := fun w' K => ⟨(K.cell lq).trans co, (K.cell lq).trans cd, (cell_of_block (K.block A1.bx)).trans rfl, so w' K, sd w' K⟩
              have hKz : Hid (Kep w wz) := A1.kep
              generalize strL s.O = sO at HOut KE
              generalize strL s.D = sD at HDsk KE
              have KD : Hid (Kep wz wz.drew) := (Kep.refl _).drew
              have y0 := KE.out _ KD.out
              obtain rfl : j = 9 := by omega
              clear A1 hO C co cd so sd lq hlt hj
              go_wp2_with fail
              go_region_held (fun w' => w'.cell? ⟨q, 5, none⟩ = some vo ∧ w'.cell? ⟨q, 6, none⟩ = some vd ∧ w'.cell? ⟨gb, 0, none⟩ = some (.slice (some ⟨Rb, 0, none⟩) 320 320) ∧ Sem.run Try.prog (convert 23 9 vo) w' = .ok (.string sO) w' ∧ Sem.run Try.prog (convert 23 9 vd) w' = .ok (.string sD) w') (assumption) (first
                | (go_at_call 17; refine (HOut.out _ KD.out).mono ?_; rintro e wa ⟨u1, rfl, t1, k1⟩; have K1 : Hid (Kep wz wa) := kep_trans KD.out k1; have y1 := KE.out _ K1.out; have U1 : Hid (Str wa u1 sO) := t1; have v1 := t1 wa (Kep.refl _); clear k1 t1)
                | (go_at_call 18; refine (HDsk.out _ K1.out).mono ?_; rintro e wb ⟨u2, rfl, t2, k2⟩; have K2 : Hid (Kep wz wb) := kep_trans K1.out k2; have y2 := KE.out _ K2.out; have U2 : Hid (Str wb u2 sD) := t2; have v2 := t2 wb (Kep.refl _); have v1b := U1.out wb k2; clear k2 t2)
                | (go_at_call 24; refine (HAl.out _ K2.out).mono ?_; rintro e wc ⟨rfl, k3⟩; have K3 : Hid (Kep wz wc) := kep_trans K2.out k3; have y3 := KE.out _ K3.out; have v2c := U2.out wc k3; clear k3)
                | (go_at_call 11; refine (hM.out _).mono ?_; rintro e wd ⟨rfl, k4⟩; have K4 : Hid (Kep wz wd) := kep_trans K3.out k4; have y4 := KE.out _ K4.out; clear k4))
              all_goals
                go_wp2_with fail
                go_ret
                exact ⟨rfl, kep_trans hKz.out K4.out⟩
  · have HN : Hid (Calls Try.prog 9 #[.slice x0 len0 cap0, .slice x1 len1 cap1] w fun e w' => e = .returned (.tuple #[.pointer none, .int .i64 (errI z0 z1)]) ∧ Kep w w') := vnew_no w x0 len0 cap0 z0 w0.hl w0.hle w0.hmax w0.lies x1 len1 cap1 z1 hz hzc hzm he
    have h23 : errI z0 z1 = 2 ∨ errI z0 z1 = 3 := (errI_cases z0 z1).resolve_left he
    clear w0 w1 w2 hz hzc hzm hzb he
    rcases h23 with h | h
    all_goals
      rw [h] at HE HN
      clear h
      go_enter Try.func3, Try.ntmps3
      go_wp2_with fail
      refine HN.out.mono ?_
      rintro e w5 ⟨rfl, k5⟩
      have K5 : Hid (Kep w w5) := k5
      clear k5 HN
      go_wp2_with fail
      refine (HE.out _ K5.out).mono ?_
      rintro e w6 ⟨rfl, k6⟩
      have K6 : Hid (Kep w5 w6) := k6
      clear k6 HE
      go_wp2_with (go_at_call 11; refine (hM.out _).mono ?_; rintro e w8 ⟨rfl, k8⟩; have K8 : Hid (Kep w6 w8) := k8; clear k8)
      go_ret
      exact ⟨rfl, kep_trans K5.out (kep_trans K6.out K8.out)⟩

set_option maxRecDepth 100000 in
theorem lifted (os : Os) (started : os.Started) (H : Type) (enc : TypeId × Value → H) :
    ReturnsInHanded {} Try.checked os 3 .any (Rows.devPlaysSpec.pre6 enc Try.prog Try.f3 Rows.devPlaysRow.domain false) (Rows.devPlaysSpec.post enc Try.prog Try.f3 false true false false) := by
  refine returnsInHanded_of_change (C := Try.checked) own started (by kernel_rfl) Try.func3
    (ChangeSpec.witness6 (enc := enc) (C := Try.checked) false ⟨#[], #[.slice none 0 0, .slice none 0 0, .slice none 0 0], []⟩ 8 (by kernel_rfl) (by kernel_rfl) (by kernel_rfl) (by kernel_rfl)) ?_
  intro W base args ds gs before hval0 hW hcnd _
  have hval : ∀ (j : Nat) t v, Try.f3.params[j]? = some t → args[j]? = some v → Value.okWide Try.prog W .any base t v := hval0
  have hW' := hW
  obtain ⟨p, q, hA0, hV, rfl, hfz, hnd⟩ := hW
  have hA : DataW.TrodAll enc Try.prog W 0 (fun _ => true) true Try.f3.params.toList args.toList ds p := hA0
  rw [Try.params3] at hA hval
  obtain ⟨v0, vs0, d0, ds0, p0, q0, hargs, rfl, rfl, h0, r0⟩ := trodAll_cons hA
  obtain ⟨v1, vs1, d1, ds1, p1, q1, rfl, rfl, rfl, h1, r1⟩ := trodAll_cons r0
  obtain ⟨v2, vs2, d2, ds2, p2, q2, rfl, rfl, rfl, h2, r2⟩ := trodAll_cons r1
  obtain ⟨rfl, rfl, rfl⟩ := trodAll_nil r2
  obtain rfl : args = #[v0, v1, v2] := by cases args; simp_all
  obtain ⟨rfl, rfl⟩ := trodVars_none hV
  have k0 := h0
  have lt0 : ∀ x ∈ p0, x.block < W.heap.size := by obtain ⟨m, hm⟩ := k0; exact DataW.trod_lt m _ _ _ hm
  obtain ⟨x0, len0, cap0, rfl⟩ := okWide_slice Try.underlying22 (hval 0 22 v0 rfl rfl)
  obtain ⟨z0, w0⟩ : ∃ zs, EvRow W x0 len0 cap0 zs := by
    obtain ⟨fuel, hf⟩ := h0
    exact evs_of hf
  have k1 := h1
  have lt1 : ∀ x ∈ p1, x.block < W.heap.size := by obtain ⟨m, hm⟩ := k1; exact DataW.trod_lt m _ _ _ hm
  obtain ⟨x1, len1, cap1, z1, rfl, w1⟩ := open_bsl (hval 1 23 v1 rfl rfl) h1
  have k2 := h2
  have lt2 : ∀ x ∈ p2, x.block < W.heap.size := by obtain ⟨m, hm⟩ := k2; exact DataW.trod_lt m _ _ _ hm
  obtain ⟨x2, len2, cap2, rfl⟩ := okWide_slice Try.underlying24 (hval 2 24 v2 rfl rfl)
  obtain ⟨z2, w2⟩ : ∃ zs, StpRow W x2 len2 cap2 zs := by
    obtain ⟨fuel, hf⟩ := h2
    exact stps_of hf
  clear hA0 hval0
  refine (walk x0 len0 cap0 z0 x1 len1 cap1 z1 x2 len2 cap2 z2 W w0 w1 w2).mono fun e W' ⟨he, bel0⟩ => ?_
  have bel : Below W.heap.size W W' := bel0
  subst he
  exact ⟨_, rfl, _, _, _, [], _, [], hW', trodAll_mk1 (shut_bool Try.underlying4 _), (trodAll_cons_mk (Below.trod laidOut (by kernel_rfl) (of_decide_eq_true (by kernel_rfl)) k0 bel lt0) (trodAll_cons_mk (Below.trod laidOut (by kernel_rfl) (of_decide_eq_true (by kernel_rfl)) k1 bel lt1) (trodAll_cons_mk (Below.trod laidOut (by kernel_rfl) (of_decide_eq_true (by kernel_rfl)) k2 bel lt2) trodAll_mk0))), rfl, bel.frame _, fun h => by cases h⟩

theorem over : Rows.devPlaysRow.holds Try.pinned (OpenSpec.ofChange Rows.devPlaysSpec) :=
  OpenClaim.holds_of_wide 3 Try.f3 rfl rfl rfl rfl rfl rfl rfl ⟨rfl, rfl, rfl, rfl, rfl⟩ rfl rfl rfl rfl rfl (by kernel_rfl) Try.func3 (by kernel_rfl)
    (of_decide_eq_true (by kernel_rfl)) (by unfold Func.isWrapper; first | (rw [if_pos (by decide +kernel)]; kernel_rfl) | (rw [if_neg (by decide +kernel)]; exact ⟨rfl, rfl⟩))
    (fun os started H enc _ => lifted os started H enc)
end Go.Proofs.Ytpieeefeicdfgaa.devPlays
namespace Go.Proofs.Ytpieeefeicdfgaa

theorem devPlays_holds : Rows.DevPlaysSaid := devPlays.over
#print axioms devPlays_holds
end Go.Proofs.Ytpieeefeicdfgaa
