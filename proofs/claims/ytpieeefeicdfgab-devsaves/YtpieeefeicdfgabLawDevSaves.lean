/- For every script, every row of bytes and all steps, the law DevSaves returns true: devices that were saved and loaded again go on as those that were not. -/
import Derived.Test.YtpieeefeicdfgabRows
import Derived.Test.YtpieeefeicdfgabVsz
import Derived.Test.YtpieeefeicdfgabSkw
import Derived.WalkKit
import Derived.ProofKit
import Derived.OpenShut
import Derived.ShutString
import Derived.ChangeOld
import Derived.Below
import Derived.Lib.SmallJoins
namespace Go.Proofs.Ytpieeefeicdfgab.devSaves
open Go.ChangeShapes Go.WideShapes Go.ChangeAt Go.RowKit
set_option linter.unusedVariables false
set_option linter.unusedSimpArgs false

theorem own : ownKnob Try.prog.godebug = none := by kernel_rfl
theorem laidOut : laidOutB Try.prog = true := by kernel_rfl

theorem yields_row_w {P : Program} {ops : Array Oper} {S : World → Prop} {o : Oper} {a : Act} (hg : Region.wanted o (yielded ops a.tmps) = true) (ty : TypeId) (x : Operand) (ho : o.op = .load ty x) (g : Nat) (hx : a.eval x = .pointer (some ⟨g, 0, none⟩)) (t : TypeId) (cs : Array Value) (fr : Nat × Nat) (d : TypeDesc)
    (hS : ∀ w, S w → w.heap[g]? = some (.cells cs t fr)) (hu : P.underlying ty = some d) (hd : (match d with | .struct _ | .array _ _ => true | _ => false) = true) (hi : (P.info? ty).map (·.size) = some cs.size) : YieldsIf P ops S o (.agg cs) a :=
  .inl ⟨hg, fun w h => by
    unfold execOp
    simp only [ho, hx, Instr.loadAt, Instr.sureAddr, Sem.run_bind, Sem.run_pure, Result.andThen_ok, run_loadVar_row w g t ty cs fr d (hS w h) hu hd hi]⟩
set_option maxHeartbeats 16000000 in
set_option maxRecDepth 100000 in
theorem walk (x0 : Option Addr) (len0 cap0 : Nat) (z0 : List Ev) (x1 : Option Addr) (len1 cap1 : Nat) (z1 : List Int) (x2 : Option Addr) (len2 cap2 : Nat) (z2 : List Stp) (y2 : Option Addr) (lem2 cap2b : Nat) (u2 : List Stp) (w : World) (w0 : EvRow w x0 len0 cap0 z0) (w1 : BSl w x1 len1 cap1 z1) (w2 : StpRow w x2 len2 cap2 z2) (w2b : StpRow w y2 lem2 cap2b u2) :
    Calls Try.prog 4 #[.slice x0 len0 cap0, .slice x1 len1 cap1, .agg #[.slice x2 len2 cap2, .slice y2 lem2 cap2b]] w fun e w' => e = .returned (.bool true) ∧ Kep w w' := by
  obtain ⟨hz, hzc, hzm, _, hzb⟩ := id w1
  have hM : Hid (∀ w, Calls Try.prog 7 #[] w fun e w' => e = .returned (.bool true) ∧ Kep w w') := works11_any
  have KA : Hid (Kep w (w.alloc (.cells #[.slice x2 len2 cap2, .slice y2 lem2 cap2b] 39))) := (Kep.refl w).alloc _
  have BA : Hid ((w.alloc (.cells #[.slice x2 len2 cap2, .slice y2 lem2 cap2b] 39)).heap[w.heap.size]? = some (.cells #[.slice x2 len2 cap2, .slice y2 lem2 cap2b] 39 (0, 0))) := hat _ _ _ rfl
  by_cases he : errI z0 z1 = 0
  · have HN : Hid (∀ V, Kep w V → Calls Try.prog 6 #[.slice x0 len0 cap0, .slice x1 len1 cap1] V fun e w' => ∃ p F, e = .returned (.tuple #[.pointer (some ⟨p, 0, none⟩), .int .i64 0]) ∧ Dev w' p (ds0 z0 z1) F ∧ Kep V w' ∧ ∀ g ∈ F, V.heap.size ≤ g) := fun V K => vnew_ok V x0 len0 cap0 z0 w0.hl w0.hle (w0.lies.kep K) x1 len1 cap1 z1 hz hzc hzm ((BSl.lies w1).kep K) he
    have okD : Hid (ds0 z0 z1).Ok := ds0_ok he w0.byte hzb
    obtain ⟨he1, he2, _, _⟩ := errI_ok he
    have hE64 : Hid (z0.length ≤ 64) := he1
    have hMem : Hid (∀ w, Calls Try.prog 13 #[] w fun e w' => ∃ (p R Rb : Nat) (B : List Int), e = .returned (.tuple #[.pointer (some ⟨p, 0, none⟩), refV (some ⟨Rb, 0, none⟩) (64 * 5)]) ∧ Two w' (.pointer (some ⟨p, 0, none⟩)) R 5 (some ⟨Rb, 0, none⟩) Rb B ∧ Kep w w' ∧ w.heap.size ≤ R ∧ w.heap.size ≤ Rb) := memory_any
    obtain rfl : z0.length = len0 := w0.hl
    obtain rfl : z1.length = len1 := hz
    have HR : Hid (∀ w', Kep w w' → Calls Try.prog 14 #[.slice x0 z0.length cap0, .slice x1 z1.length cap1] w' fun e w'' => ∃ q G, e = .returned (.pointer (some ⟨q, 0, none⟩)) ∧ RDv w'' q (ds0 z0 z1) (.slice x0 z0.length cap0) z0 G ∧ Kep w' w'' ∧ ∀ g ∈ G, w'.heap.size ≤ g) := fun w' k => rnew11_any w' x0 cap0 z0 x1 cap1 z1 (by omega) (by omega) ((BSl.lies w1).kep k)
    have hS0 : Hid (∀ V, Kep w V → Lies V x0 (evs z0)) := fun V K => w0.lies.kep K
    have W2 : Hid (∀ V, Kep w V → StpRow V x2 len2 cap2 z2) := fun V K => w2.kep K
    have W3 : Hid (∀ V, Kep w V → StpRow V y2 lem2 cap2b u2) := fun V K => w2b.kep K
    obtain ⟨n0, hn0⟩ : ∃ n, Hid (n = z0.length) := ⟨_, rfl⟩
    obtain ⟨n1, hn1⟩ : ∃ n, Hid (n = z1.length) := ⟨_, rfl⟩
    rw [← hn0.out, ← hn1.out] at HN HR ⊢
    have h2l : (len2 : Int) ≤ 9223372036854775807 := by have := w2.hle; have := w2.hmax; omega
    have h2c : (len2 : Int) ≤ cap2 := by have := w2.hle; omega
    have h3l : (lem2 : Int) ≤ 9223372036854775807 := by have := w2b.hle; have := w2b.hmax; omega
    have h3c : (lem2 : Int) ≤ cap2b := by have := w2b.hle; omega
    have zS : ∀ w : World, Sem.run Try.prog (zeroValue 55) w = .ok (.agg savZ) w := fun w => by kernel_rfl
    have hzs : Hid ((savZ : Array Value).size = 35) := rfl
    generalize savZ = ZZ at zS hzs
    clear w0 w1 w2 w2b hzc hzm hzb he he1 he2
    go_enter Try.func4, Try.ntmps4
    go_upto_region 1 with fail
    generalize w.alloc (.cells #[.slice x2 len2 cap2, .slice y2 lem2 cap2b] 39) = V at KA BA ⊢
    generalize w.heap.size = gl at BA ⊢
    go_wp2_with fail
    refine (HN.out V KA.out).mono ?_
    rintro e w5 ⟨p, F, rfl, d5, k5, f5⟩
    have D5 : Hid (Dev w5 p (ds0 z0 z1) F) := d5
    have K5 : Hid (Kep V w5) := k5
    have F5 : Hid (∀ g ∈ F, V.heap.size ≤ g) := f5
    clear d5 k5 f5 HN
    go_wp2_with fail
    refine (hMem.out _).mono ?_
    rintro e w7 ⟨pr, R, Rb, B, rfl, T7, k7, r7, rb7⟩
    have T7' : Hid (Two w7 (.pointer (some ⟨pr, 0, none⟩)) R 5 (some ⟨Rb, 0, none⟩) Rb B) := T7
    have K7 : Hid (Kep w5 w7) := k7
    have R7 : Hid (w5.heap.size ≤ R ∧ w5.heap.size ≤ Rb) := ⟨r7, rb7⟩
    have KB : Hid (Kep w (w7.alloc (ramC Rb))) := (kep_trans KA.out (kep_trans K5.out K7.out)).alloc _
    clear T7 k7 r7 rb7 hMem
    go_wp2_with fail
    refine (HR.out _ KB.out).mono ?_
    rintro e w8 ⟨q, G, rfl, r8, k8, g8⟩
    have P8 : Hid (PKS V p q (.slice x0 z0.length cap0) z0 pr R Rb w7.heap.size (ramC Rb) 0 w8) := ⟨ds0 z0 z1, B, F, G, pka_start K5.out D5.out F5.out okD.out K7.out T7'.out R7.out.1 R7.out.2 k8 (by rw [← hn0.out]; exact r8) g8, by simp [ds0]⟩
    generalize w7.heap.size = gb at P8 ⊢
    clear r8 k8 g8 KB K5 K7 R7 T7' D5 F5 okD HR
    go_wp2_with fail
    go_loopw [12] (fun i wr => ∃ k : Nat, (k : Int) ≤ 60 ∧ (k : Int) ≤ len2 ∧ i = .int .i64 k ∧ Hid (PKS V p q (.slice x0 z0.length cap0) z0 pr R Rb gb (ramC Rb) k wr)) (fun i _ => 60 - (intOf i).toNat)
    case atStart => exact ⟨0, by omega, by omega, rfl, P8⟩
    case round =>
      obtain ⟨k, hk, hk2, rfl, A⟩ := hrel
      clear P8
      have hKV : Hid (∀ m w', PKS V p q (.slice x0 z0.length cap0) z0 pr R Rb gb (ramC Rb) m w' → Kep V w' ∧ w'.heap[gb]? = some (ramC Rb)) := fun m w' P => by
        obtain ⟨s, B, F, G, A', _⟩ := P; exact ⟨A'.kep, A'.bx⟩
      obtain ⟨kv, hbx⟩ := hKV.out _ _ A.out
      have g0 : wr.cell? ⟨gl, 0, none⟩ = some (.slice x2 len2 cap2) := (cell_of_block (kv.block BA.out)).trans rfl
      by_cases hlt : (k : Int) < 60 ∧ (k : Int) < len2
      case pos =>
        obtain ⟨hlt1, hlt2⟩ := hlt
        obtain ⟨b, off, kd, nn, vv, hxs, ⟨hnn', hvv'⟩, hcell⟩ := stp_cells (W2.out V KA.out) (k := k) (by omega)
        have hnn : Hid (-9223372036854775808 ≤ nn ∧ nn ≤ 9223372036854775807) := hnn'
        have hvv : Hid (0 ≤ vv ∧ vv < 4294967296) := hvv'
        subst hxs
        have KEEP : Hid (∀ w' m, PKS V p q (.slice x0 z0.length cap0) z0 pr R Rb gb (ramC Rb) m w' → w'.cell? ⟨gl, 0, none⟩ = some (.slice (some ⟨b, off, none⟩) len2 cap2) ∧ w'.cell? ⟨b, off + k * 3, none⟩ = some (.int .i64 kd) ∧ w'.cell? ⟨b, off + k * 3 + 1, none⟩ = some (.int .i64 nn) ∧ w'.cell? ⟨b, off + k * 3 + 2, none⟩ = some (.int .u32 vv) ∧ w'.cell? ⟨gb, 0, none⟩ = some (.slice (some ⟨Rb, 0, none⟩) 320 320)) := fun w' m P => by
          obtain ⟨kw, hb⟩ := hKV.out _ _ P
          obtain ⟨e0, e1, e2⟩ := hcell w' kw
          exact ⟨(cell_of_block (kw.block BA.out)).trans rfl, e0, e1, e2, (cell_of_block hb).trans rfl⟩
        have s0 := KEEP.out wr k A.out
        have HS : Hid (Calls Try.prog 15 #[.pointer (some ⟨p, 0, none⟩), .pointer (some ⟨q, 0, none⟩), .agg #[.int .i64 kd, .int .i64 nn, .int .u32 vv], .pointer (some ⟨pr, 0, none⟩), refV (some ⟨Rb, 0, none⟩) 320] wr.drew fun e w' => e = .returned (.bool true) ∧ PKS V p q (.slice x0 z0.length cap0) z0 pr R Rb gb (ramC Rb) (k + 1) w') := step_any (by obtain ⟨s, B, F, G, A', hO⟩ := A.out; exact ⟨s, B, F, G, A'.kept ((Kep.refl wr).drew), hO⟩) hE64.out (hS0.out V KA.out) (by omega) kd nn vv hnn.out hvv.out
        clear hnn' hvv' hcell kv hbx
        go_wp2_with fail
        clear g0
        go_region_held3 (fun w' => w'.cell? ⟨gl, 0, none⟩ = some (.slice (some ⟨b, off, none⟩) len2 cap2) ∧ w'.cell? ⟨b, off + k * 3, none⟩ = some (.int .i64 kd) ∧ w'.cell? ⟨b, off + k * 3 + 1, none⟩ = some (.int .i64 nn) ∧ w'.cell? ⟨b, off + k * 3 + 2, none⟩ = some (.int .u32 vv) ∧ w'.cell? ⟨gb, 0, none⟩ = some (.slice (some ⟨Rb, 0, none⟩) 320 320)) (first | exact s0 | exact hkp) ((go_at_call 15; refine HS.out.mono ?_; rintro e w9 ⟨rfl, A9⟩; have hkp := KEEP.out w9 _ A9; have A9' : Hid (PKS V p q (.slice x0 z0.length cap0) z0 pr R Rb gb (ramC Rb) (k + 1) w9) := A9; clear A9))
        all_goals
          go_wp2_with fail
          go_roundw
          case rel => exact ⟨k + 1, by omega, by omega, by go_num, A9'⟩
          case measure => simp [intOf]; omega
      case neg =>
        have hcase : (decide ((k : Int) < len2) = false ∧ decide (k < len2) = false) ∨ ((decide ((k : Int) < len2) = true ∧ decide (k < len2) = true) ∧ decide ((k : Int) < 60) = false ∧ decide (k < 60) = false) := by
          by_cases h : (k : Int) < len2
          · exact .inr ⟨⟨decide_eq_true h, decide_eq_true (by omega)⟩, decide_eq_false (by omega), decide_eq_false (by omega)⟩
          · exact .inl ⟨decide_eq_false h, decide_eq_false (by omega)⟩
        have hk9 : (k : Int) ≤ 60 := hk
        clear hlt hk2 kv hbx
        obtain ⟨s, B, F, G, A1, hO⟩ := A.out
        have hA : Hid (PKA V p q s s (.slice x0 z0.length cap0) z0 pr R Rb gb (ramC Rb) B B wr F G) := A1
        have hO' : Hid (s.O.length ≤ k) := hO
        have sE : Hid (s.E.length ≤ 64) := A1.e64 hE64.out
        have HSV : Hid (∀ w', Kep wr w' → Calls Try.prog 16 #[.pointer (some ⟨p, 0, none⟩)] w' fun e w'' => ∃ X, e = .returned (.agg X) ∧ SavX w'' s X ∧ Kep w' w'') := fun w' K => savx_save (hA.out.dev.kep K) hA.out.oks sE.out (by have := hO'.out; omega)
        clear A1 hO A
        rcases hcase with ⟨t1, t2⟩ | ⟨⟨t1, t2⟩, t3, t4⟩
        case' inl => go_upto_region 12 with fail
        case' inr => go_upto_region 12 with fail
        all_goals
          clear g0 t1 t2
          go_upto_region 13 with (first
            | (go_at_call 16; refine (HSV.out wr (Kep.refl _)).mono ?_; rintro e wa ⟨X, rfl, sx, ka⟩; have SX : Hid (SavX wa s X) := sx; have Ka : Hid (Kep wr wa) := ka; have x35 : X.size = 35 := sx.size; have xone : Hid ((X.all fun x => x.oneCell') = true) := sx.one; clear sx ka)
            | (refine wpList_store_row (by rfl) 55 (.tmp 13) (.tmp 61) (by rfl) wa.heap.size X (by rfl) (by rfl) 55 ZZ (hat _ _ _ rfl) (by rw [x35]; exact size_sav) (by rw [x35]; exact hzs.out) xone.out ?_))
          dsimp only [Act.put]
          have Kb : Hid (Kep wr ((wa.alloc (.cells ZZ 55)).setRow wa.heap.size X)) := kep_trans Ka.out (((Kep.refl wa).alloc _).setRow _ _ (Nat.le_refl _))
          have SXb : Hid (SavX ((wa.alloc (.cells ZZ 55)).setRow wa.heap.size X) s X) := SX.out.kep (((Kep.refl wa).alloc _).setRow _ _ (Nat.le_refl _))
          have XB : Hid (((wa.alloc (.cells ZZ 55)).setRow wa.heap.size X).heap[wa.heap.size]? = some (.cells X 55 (0, 0))) := setRow_heap _ _ _ _ _ _ (hat _ _ _ rfl)
          generalize (wa.alloc (.cells ZZ 55)).setRow wa.heap.size X = wb at Kb SXb XB ⊢
          generalize wa.heap.size = gx at XB ⊢
          have xsz : Hid ((Try.prog.info? 55).map (·.size) = some X.size) := by show _ = _; rw [x35]; exact size_sav
          clear x35 xone SX Ka zS hzs HSV
          have HL : Hid (Calls Try.prog 17 #[.agg X] wb fun e W' => ∃ p F, e = .returned (.tuple #[.pointer (some ⟨p, 0, none⟩), .int .i64 0]) ∧ Dev W' p s F ∧ Kep wb W' ∧ ∀ g ∈ F, wb.heap.size ≤ g) := savx_load SXb.out hA.out.oks sE.out
          go_upto_region 14 with (first
            | (refine wpList_load_row (by rfl) 55 (.tmp 13) (by rfl) gx (by rfl) 55 X (0, 0) _ XB.out Try.underlying55 rfl xsz.out ?_)
            | (go_at_call 17; refine HL.out.mono ?_; rintro e wc ⟨p2, F2, rfl, d2, kc, f2⟩; have D2 : Hid (Dev wc p2 s F2) := d2; have Kc : Hid (Kep wb wc) := kc; have FF2 : Hid (∀ g ∈ F2, wb.heap.size ≤ g) := f2; clear kc d2 f2))
          have XC : Hid (wc.heap[gx]? = some (.cells X 55 (0, 0))) := Kc.out.block XB.out
          have HS2 : Hid (∀ w', Kep wc w' → Calls Try.prog 16 #[.pointer (some ⟨p2, 0, none⟩)] w' fun e w'' => ∃ X, e = .returned (.agg X) ∧ SavX w'' s X ∧ Kep w' w'') := fun w' K => savx_save (D2.out.kep K) hA.out.oks sE.out (by have := hO'.out; omega)
          have HSD : Hid (∀ w' Y, Kep wc w' → SavX w' s Y → Calls Try.prog 18 #[.agg Y, .agg X] w' fun e w'' => e = .returned (.bool true) ∧ Kep w' w'') := fun w' Y K sy => savx_saved sy (SXb.out.kep (kep_trans Kc.out K)) sE.out
          clear HL XB
          refine wp_region_held_drew (S := fun w' => w'.heap[gx]? = some (.cells X 55 (0, 0))) (by kernel_rfl) XC.out (fun hH => ?_)
          refine wpAnyH_take (i := 0 ) (v := .int .i64 0 ) rfl (by kernel_rfl) (by kernel_rfl) (by kernel_rfl) (fun _ _ _ h => h) (.inl ⟨by rfl, by intro w hS; go_simp⟩) hH ?_; (try dsimp only [Act.put]); (try simp only [List.getElem_toArray, List.getElem_cons_zero, List.getElem_cons_succ, Act.put, List.setIfInBounds_toArray, List.set_cons_zero, List.set_cons_succ])
          refine wpAnyH_take (i := 1 ) (v := .bool false ) rfl (by kernel_rfl) (by kernel_rfl) (by kernel_rfl) (fun _ _ _ h => h) (.inl ⟨by rfl, by intro w hS; go_simp⟩) hH ?_; (try dsimp only [Act.put]); (try simp only [List.getElem_toArray, List.getElem_cons_zero, List.getElem_cons_succ, Act.put, List.setIfInBounds_toArray, List.set_cons_zero, List.set_cons_succ])
          refine wpAnyH_take (i := 2 ) (v := .bool false ) rfl (by kernel_rfl) (by kernel_rfl) (by kernel_rfl) (fun _ _ _ h => h) (.inl ⟨by rfl, by intro w hS; go_simp⟩) hH ?_; (try dsimp only [Act.put]); (try simp only [List.getElem_toArray, List.getElem_cons_zero, List.getElem_cons_succ, Act.put, List.setIfInBounds_toArray, List.set_cons_zero, List.set_cons_succ])
          refine wpAnyH_take (i := 3 ) (v := .pointer (some ⟨p2, 0, none⟩) ) rfl (by kernel_rfl) (by kernel_rfl) (by kernel_rfl) (fun _ _ _ h => h) (.inl ⟨by rfl, by intro w hS; go_simp⟩) hH ?_; (try dsimp only [Act.put]); (try simp only [List.getElem_toArray, List.getElem_cons_zero, List.getElem_cons_succ, Act.put, List.setIfInBounds_toArray, List.set_cons_zero, List.set_cons_succ])
          refine wpAnyH_take (i := 5) (v := .agg X) rfl (by kernel_rfl) (by kernel_rfl) (by kernel_rfl) (fun _ _ _ h => h) (yields_row_w (by kernel_rfl) 55 _ rfl gx rfl 55 X (0, 0) _ (fun w h => h) Try.underlying55 rfl xsz.out) hH ?_
          (try dsimp only [Act.put]); (try simp only [List.getElem_toArray, List.getElem_cons_zero, List.getElem_cons_succ, Act.put, List.setIfInBounds_toArray, List.set_cons_zero, List.set_cons_succ])
          have KD : Hid (Kep wc wc.drew) := (Kep.refl wc).drew
          refine wpAnyH_ready (rs := [ 4 ]) (by kernel_rfl) (by simp) ?_; refine AllReadyH.cons rfl (fun K hK => ?_) AllReadyH.nil; rw [if_pos (by rfl)]; go_simp
          refine (HS2.out _ KD.out).mono ?_
          rintro e wd ⟨Y, rfl, sy, k3⟩
          refine hK.out _ _ (k3.block hH) (fun hH => ?_)
          clear hK K
          (try dsimp only [Act.put]); (try simp only [List.getElem_toArray, List.getElem_cons_zero, List.getElem_cons_succ, Act.put, List.setIfInBounds_toArray, List.set_cons_zero, List.set_cons_succ])
          have SY : Hid (SavX wd s Y) := sy
          have K3 : Hid (Kep wc wd) := kep_trans KD.out k3
          clear sy k3
          refine wpAnyH_ready (rs := [ 6 ]) (by kernel_rfl) (by simp) ?_; refine AllReadyH.cons rfl (fun K hK => ?_) AllReadyH.nil; rw [if_pos (by rfl)]; go_simp
          refine (HSD.out wd Y K3.out SY.out).mono ?_
          rintro e we ⟨rfl, k4⟩
          refine hK.out _ _ (k4.block hH) (fun hH => ?_)
          clear hK K
          (try dsimp only [Act.put]); (try simp only [List.getElem_toArray, List.getElem_cons_zero, List.getElem_cons_succ, Act.put, List.setIfInBounds_toArray, List.set_cons_zero, List.set_cons_succ])
          have K4 : Hid (Kep wc we) := kep_trans K3.out k4
          clear k4
          refine wpAnyH_take (i := 7 ) (v := .bool false ) rfl (by kernel_rfl) (by kernel_rfl) (by kernel_rfl) (fun _ _ _ h => h) (.inl ⟨by rfl, by intro w hS; go_simp⟩) hH ?_; (try dsimp only [Act.put]); (try simp only [List.getElem_toArray, List.getElem_cons_zero, List.getElem_cons_succ, Act.put, List.setIfInBounds_toArray, List.set_cons_zero, List.set_cons_succ])
          refine wpAnyH_take (i := 8 ) (v := .bool false ) rfl (by kernel_rfl) (by kernel_rfl) (by kernel_rfl) (fun _ _ _ h => h) (.inl ⟨by rfl, by intro w hS; go_simp⟩) hH ?_; (try dsimp only [Act.put]); (try simp only [List.getElem_toArray, List.getElem_cons_zero, List.getElem_cons_succ, Act.put, List.setIfInBounds_toArray, List.set_cons_zero, List.set_cons_succ])
          refine wpAnyH_done (by kernel_rfl) ?_ _
          have P9 : Hid (PKS V p2 q (.slice x0 z0.length cap0) z0 pr R Rb gb (ramC Rb) k we) := ⟨s, B, F2, G, hA.out.swap (kep_trans Kb.out (kep_trans Kc.out K4.out)) (D2.out.kep K4.out) (fun g hg => Nat.le_trans Kb.out.size (FF2.out g hg)), hO'.out⟩
          have hKV2 : Hid (∀ m w', PKS V p2 q (.slice x0 z0.length cap0) z0 pr R Rb gb (ramC Rb) m w' → Kep V w' ∧ w'.heap[gb]? = some (ramC Rb)) := fun m w' P => by
            obtain ⟨s, B, F, G, A', _⟩ := P; exact ⟨A'.kep, A'.bx⟩
          clear hA D2 FF2 HS2 HSD XC SXb SY Kb Kc K3 K4 KD hH hO' sE xsz
          go_wp2_with fail
          go_loopw [16] (fun i wz => ∃ j : Nat, (j : Int) ≤ 60 ∧ (j : Int) ≤ lem2 ∧ i = .int .i64 j ∧ Hid (PKS V p2 q (.slice x0 z0.length cap0) z0 pr R Rb gb (ramC Rb) (k + j) wz)) (fun i _ => 60 - (intOf i).toNat)
          case atStart => exact ⟨0, by omega, by omega, rfl, P9⟩
          case round =>
            rename World => wz
            obtain ⟨j, hj, hj2, rfl, C⟩ := hrel
            clear P9
            obtain ⟨kv, hbx⟩ := hKV2.out _ _ C.out
            have g1 : wz.cell? ⟨gl, 1, none⟩ = some (.slice y2 lem2 cap2b) := (cell_of_block (kv.block BA.out)).trans rfl
            by_cases hlt : (j : Int) < 60 ∧ (j : Int) < lem2
            case pos =>
              obtain ⟨hlt1, hlt2⟩ := hlt
              obtain ⟨b, off, kd, nn, vv, hxs, ⟨hnn', hvv'⟩, hcell⟩ := stp_cells (W3.out V KA.out) (k := j) (by omega)
              have hnn : Hid (-9223372036854775808 ≤ nn ∧ nn ≤ 9223372036854775807) := hnn'
              have hvv : Hid (0 ≤ vv ∧ vv < 4294967296) := hvv'
              subst hxs
              have KEEP : Hid (∀ w' m, PKS V p2 q (.slice x0 z0.length cap0) z0 pr R Rb gb (ramC Rb) m w' → w'.cell? ⟨gl, 1, none⟩ = some (.slice (some ⟨b, off, none⟩) lem2 cap2b) ∧ w'.cell? ⟨b, off + j * 3, none⟩ = some (.int .i64 kd) ∧ w'.cell? ⟨b, off + j * 3 + 1, none⟩ = some (.int .i64 nn) ∧ w'.cell? ⟨b, off + j * 3 + 2, none⟩ = some (.int .u32 vv) ∧ w'.cell? ⟨gb, 0, none⟩ = some (.slice (some ⟨Rb, 0, none⟩) 320 320)) := fun w' m P => by
                obtain ⟨kw, hb⟩ := hKV2.out _ _ P
                obtain ⟨e0, e1, e2⟩ := hcell w' kw
                exact ⟨(cell_of_block (kw.block BA.out)).trans rfl, e0, e1, e2, (cell_of_block hb).trans rfl⟩
              have s0 := KEEP.out wz _ C.out
              have HS : Hid (Calls Try.prog 15 #[.pointer (some ⟨p2, 0, none⟩), .pointer (some ⟨q, 0, none⟩), .agg #[.int .i64 kd, .int .i64 nn, .int .u32 vv], .pointer (some ⟨pr, 0, none⟩), refV (some ⟨Rb, 0, none⟩) 320] wz.drew fun e w' => e = .returned (.bool true) ∧ PKS V p2 q (.slice x0 z0.length cap0) z0 pr R Rb gb (ramC Rb) (k + j + 1) w') := step_any (by obtain ⟨s, B, F, G, A', hO⟩ := C.out; exact ⟨s, B, F, G, A'.kept ((Kep.refl wz).drew), hO⟩) hE64.out (hS0.out V KA.out) (by omega) kd nn vv hnn.out hvv.out
              clear hnn' hvv' hcell kv hbx
              go_wp2_with fail
              clear g1
              go_region_held3 (fun w' => w'.cell? ⟨gl, 1, none⟩ = some (.slice (some ⟨b, off, none⟩) lem2 cap2b) ∧ w'.cell? ⟨b, off + j * 3, none⟩ = some (.int .i64 kd) ∧ w'.cell? ⟨b, off + j * 3 + 1, none⟩ = some (.int .i64 nn) ∧ w'.cell? ⟨b, off + j * 3 + 2, none⟩ = some (.int .u32 vv) ∧ w'.cell? ⟨gb, 0, none⟩ = some (.slice (some ⟨Rb, 0, none⟩) 320 320)) (first | exact s0 | exact hkp) ((go_at_call 15; refine HS.out.mono ?_; rintro e w9 ⟨rfl, A9⟩; have hkp := KEEP.out w9 _ A9; have A9' : Hid (PKS V p2 q (.slice x0 z0.length cap0) z0 pr R Rb gb (ramC Rb) (k + j + 1) w9) := A9; clear A9))
              all_goals
                go_wp2_with fail
                go_roundw
                case rel => exact ⟨j + 1, by omega, by omega, by go_num, A9'⟩
                case measure => simp [intOf]; omega
            case neg =>
              have hcase2 : (decide ((j : Int) < lem2) = false ∧ decide (j < lem2) = false) ∨ ((decide ((j : Int) < lem2) = true ∧ decide (j < lem2) = true) ∧ decide ((j : Int) < 60) = false ∧ decide (j < 60) = false) := by
                by_cases h : (j : Int) < lem2
                · exact .inr ⟨⟨decide_eq_true h, decide_eq_true (by omega)⟩, decide_eq_false (by omega), decide_eq_false (by omega)⟩
                · exact .inl ⟨decide_eq_false h, decide_eq_false (by omega)⟩
              clear hlt hj2 kv hbx
              obtain ⟨s, B, F, G, A1, hO⟩ := C.out
              obtain ⟨vo, vd, co, cd, so, sd⟩ := RDv.outs A1.ref
              have HOut : Hid (∀ w', Kep wz w' → Calls Try.prog 19 #[.pointer (some ⟨p2, 0, none⟩)] w' fun e w'' => ∃ u, e = .returned u ∧ Str w'' u (strL s.O) ∧ Kep w' w'') := fun w' K => by
                refine (output_any (A1.dev.kep K) (by omega)).mono ?_
                rintro e w'' ⟨u, rfl, ⟨G1, sl1, _⟩, k1⟩
                exact ⟨u, rfl, sl1.str, k1⟩
              have HDsk : Hid (∀ w', Kep wz w' → Calls Try.prog 20 #[.pointer (some ⟨p2, 0, none⟩)] w' fun e w'' => ∃ u, e = .returned u ∧ Str w'' u (strL s.D) ∧ Kep w' w'') := fun w' K => by
                refine (disk_any (A1.dev.kep K) A1.oks).mono ?_
                rintro e w'' ⟨u, rfl, ⟨G1, sl1, _⟩, k1⟩
                exact ⟨u, rfl, sl1.str, k1⟩
              have HAl : Hid (∀ w', Kep wz w' → Calls Try.prog 21 #[.pointer (some ⟨pr, 0, none⟩), refV (some ⟨Rb, 0, none⟩) 320] w' fun e w'' => e = .returned (.bool true) ∧ Kep w' w'') := fun w' K => by
                have := alike_any w' _ R 5 _ Rb B ((Two.of_pka A1).kep K)
                rw [A1.lB] at this; exact this
              have lq : q < wz.heap.size := by obtain ⟨_, _, _, _, _, _, _, _, _, _, D, _⟩ := A1.ref; exact block_lt D.box
              have KE : Hid (∀ w', Kep wz w' → w'.cell? ⟨q, 5, none⟩ = some vo ∧ w'.cell? ⟨q, 6, none⟩ = some vd ∧ w'.cell? ⟨gb, 0, none⟩ = some (.slice (some ⟨Rb, 0, none⟩) 320 320) ∧ Sem.run Try.prog (convert 37 9 vo) w' = .ok (.string (strL s.O)) w' ∧ Sem.run Try.prog (convert 37 9 vd) w' = .ok (.string (strL s.D)) w') := fun w' K => ⟨(K.cell lq).trans co, (K.cell lq).trans cd, (cell_of_block (K.block A1.bx)).trans rfl, so w' K, sd w' K⟩
              have hKz : Hid (Kep w wz) := kep_trans KA.out A1.kep
              generalize strL s.O = sO at HOut KE
              generalize strL s.D = sD at HDsk KE
              have KD : Hid (Kep wz wz.drew) := (Kep.refl _).drew
              have y0 := KE.out _ KD.out
              clear A1 hO C co cd so sd lq hj hk hk9
              rcases hcase2 with ⟨t1, t2⟩ | ⟨⟨t1, t2⟩, t3, t4⟩
              case' inl => go_upto_region 21 with fail
              case' inr => go_upto_region 21 with fail
              all_goals
                clear g1 t1 t2
                go_region_held (fun w' => w'.cell? ⟨q, 5, none⟩ = some vo ∧ w'.cell? ⟨q, 6, none⟩ = some vd ∧ w'.cell? ⟨gb, 0, none⟩ = some (.slice (some ⟨Rb, 0, none⟩) 320 320) ∧ Sem.run Try.prog (convert 37 9 vo) w' = .ok (.string sO) w' ∧ Sem.run Try.prog (convert 37 9 vd) w' = .ok (.string sD) w') (assumption) (first
                  | (go_at_call 19; refine (HOut.out _ KD.out).mono ?_; rintro e wa ⟨u1, rfl, t1, k1⟩; have K1 : Hid (Kep wz wa) := kep_trans KD.out k1; have y1 := KE.out _ K1.out; have U1 : Hid (Str wa u1 sO) := t1; have v1 := t1 wa (Kep.refl _); clear k1 t1)
                  | (go_at_call 20; refine (HDsk.out _ K1.out).mono ?_; rintro e wb ⟨u2, rfl, t2, k2⟩; have K2 : Hid (Kep wz wb) := kep_trans K1.out k2; have y2 := KE.out _ K2.out; have U2 : Hid (Str wb u2 sD) := t2; have v2 := t2 wb (Kep.refl _); have v1b := U1.out wb k2; clear k2 t2)
                  | (go_at_call 21; refine (HAl.out _ K2.out).mono ?_; rintro e wc ⟨rfl, k3⟩; have K3 : Hid (Kep wz wc) := kep_trans K2.out k3; have y3 := KE.out _ K3.out; have v2c := U2.out wc k3; clear k3)
                  | (go_at_call 7; refine (hM.out _).mono ?_; rintro e wd ⟨rfl, k4⟩; have K4 : Hid (Kep wz wd) := kep_trans K3.out k4; have y4 := KE.out _ K4.out; clear k4))
                all_goals
                  go_wp2_with fail
                  go_ret
                  exact ⟨rfl, kep_trans hKz.out K4.out⟩
  · have HN : Hid (∀ V, Kep w V → Calls Try.prog 6 #[.slice x0 len0 cap0, .slice x1 len1 cap1] V fun e w' => e = .returned (.tuple #[.pointer none, .int .i64 (errI z0 z1)]) ∧ Kep V w') := fun V K => vnew_no V x0 len0 cap0 z0 w0.hl w0.hle w0.hmax (w0.lies.kep K) x1 len1 cap1 z1 hz hzc hzm he
    have h23 : errI z0 z1 = 2 ∨ errI z0 z1 = 3 := (errI_cases z0 z1).resolve_left he
    clear w0 w1 w2 w2b hz hzc hzm hzb he
    rcases h23 with h | h
    all_goals
      rw [h] at HN
      clear h
      go_enter Try.func4, Try.ntmps4
      go_upto_region 1 with fail
      generalize w.alloc (.cells #[.slice x2 len2 cap2, .slice y2 lem2 cap2b] 39) = V at KA BA ⊢
      go_wp2_with fail
      refine (HN.out V KA.out).mono ?_
      rintro e w5 ⟨rfl, k5⟩
      have K5 : Hid (Kep V w5) := k5
      clear k5 HN
      go_wp2_with (go_at_call 7; refine (hM.out _).mono ?_; rintro e w8 ⟨rfl, k8⟩; have K8 : Hid (Kep w5 w8) := k8; clear k8)
      go_ret
      exact ⟨rfl, kep_trans KA.out (kep_trans K5.out K8.out)⟩

set_option maxRecDepth 100000 in
theorem lifted (os : Os) (started : os.Started) (H : Type) (enc : TypeId × Value → H) :
    ReturnsInHanded {} Try.checked os 4 .any (Rows.devSavesSpec.pre6 enc Try.prog Try.f4 Rows.devSavesRow.domain false) (Rows.devSavesSpec.post enc Try.prog Try.f4 false true false false) := by
  refine returnsInHanded_of_change (C := Try.checked) own started (by kernel_rfl) Try.func4
    (ChangeSpec.witness6 (enc := enc) (C := Try.checked) false ⟨#[], #[.slice none 0 0, .slice none 0 0, .agg #[.slice none 0 0, .slice none 0 0]], []⟩ 8 (by kernel_rfl) (by kernel_rfl) (by kernel_rfl) (by kernel_rfl)) ?_
  intro W base args ds gs before hval0 hW hcnd _
  have hval : ∀ (j : Nat) t v, Try.f4.params[j]? = some t → args[j]? = some v → Value.okWide Try.prog W .any base t v := hval0
  have hW' := hW
  obtain ⟨p, q, hA0, hV, rfl, hfz, hnd⟩ := hW
  have hA : DataW.TrodAll enc Try.prog W 0 (fun _ => true) true Try.f4.params.toList args.toList ds p := hA0
  rw [Try.params4] at hA hval
  obtain ⟨v0, vs0, d0, ds0, p0, q0, hargs, rfl, rfl, h0, r0⟩ := trodAll_cons hA
  obtain ⟨v1, vs1, d1, ds1, p1, q1, rfl, rfl, rfl, h1, r1⟩ := trodAll_cons r0
  obtain ⟨v2, vs2, d2, ds2, p2, q2, rfl, rfl, rfl, h2, r2⟩ := trodAll_cons r1
  obtain ⟨rfl, rfl, rfl⟩ := trodAll_nil r2
  obtain rfl : args = #[v0, v1, v2] := by cases args; simp_all
  obtain ⟨rfl, rfl⟩ := trodVars_none hV
  have k0 := h0
  have lt0 : ∀ x ∈ p0, x.block < W.heap.size := by obtain ⟨m, hm⟩ := k0; exact DataW.trod_lt m _ _ _ hm
  obtain ⟨x0, len0, cap0, rfl⟩ := okWide_slice Try.underlying22 (hval 0 22 v0 rfl rfl)
  obtain ⟨z0, w0⟩ : ∃ zs, EvRow W x0 len0 cap0 zs := by
    obtain ⟨fuel, hf⟩ := h0
    exact evs_of hf
  have k1 := h1
  have lt1 : ∀ x ∈ p1, x.block < W.heap.size := by obtain ⟨m, hm⟩ := k1; exact DataW.trod_lt m _ _ _ hm
  obtain ⟨x1, len1, cap1, z1, rfl, w1⟩ := open_bsl (hval 1 37 v1 rfl rfl) h1
  have k2 := h2
  have lt2 : ∀ x ∈ p2, x.block < W.heap.size := by obtain ⟨m, hm⟩ := k2; exact DataW.trod_lt m _ _ _ hm
  obtain ⟨x2, len2, cap2, z2, y2, lem2, cap2b, u2, rfl, w2, w2b⟩ := open_stp2 (hval 2 39 v2 rfl rfl) h2
  clear hA0 hval0
  refine (walk x0 len0 cap0 z0 x1 len1 cap1 z1 x2 len2 cap2 z2 y2 lem2 cap2b u2 W w0 w1 w2 w2b).mono fun e W' ⟨he, bel0⟩ => ?_
  have bel : Below W.heap.size W W' := bel0
  subst he
  exact ⟨_, rfl, _, _, _, [], _, [], hW', trodAll_mk1 (shut_bool Try.underlying4 _), (trodAll_cons_mk (Below.trod laidOut (by kernel_rfl) (of_decide_eq_true (by kernel_rfl)) k0 bel lt0) (trodAll_cons_mk (Below.trod laidOut (by kernel_rfl) (of_decide_eq_true (by kernel_rfl)) k1 bel lt1) (trodAll_cons_mk (Below.trod laidOut (by kernel_rfl) (of_decide_eq_true (by kernel_rfl)) k2 bel lt2) trodAll_mk0))), rfl, bel.frame _, fun h => by cases h⟩

theorem over : Rows.devSavesRow.holds Try.pinned (OpenSpec.ofChange Rows.devSavesSpec) :=
  OpenClaim.holds_of_wide 4 Try.f4 rfl rfl rfl rfl rfl rfl rfl ⟨rfl, rfl, rfl, rfl, rfl⟩ rfl rfl rfl rfl rfl (by kernel_rfl) Try.func4 (by kernel_rfl)
    (of_decide_eq_true (by kernel_rfl)) (by unfold Func.isWrapper; first | (rw [if_pos (by decide +kernel)]; kernel_rfl) | (rw [if_neg (by decide +kernel)]; exact ⟨rfl, rfl⟩))
    (fun os started H enc _ => lifted os started H enc)
end Go.Proofs.Ytpieeefeicdfgab.devSaves
namespace Go.Proofs.Ytpieeefeicdfgab

theorem devSaves_holds : Rows.DevSavesSaid := devSaves.over
#print axioms devSaves_holds
end Go.Proofs.Ytpieeefeicdfgab
