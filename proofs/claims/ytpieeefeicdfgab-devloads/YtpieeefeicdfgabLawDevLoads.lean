/- Of whatever was saved, the law DevLoads returns true: it is loaded as it was, or refused for the document's reason. -/
import Derived.Test.YtpieeefeicdfgabRows
import Derived.Test.YtpieeefeicdfgabVpar
import Derived.Test.YtpieeefeicdfgabSkw
import Derived.WalkKit
import Derived.ProofKit
import Derived.OpenShut
import Derived.ShutString
import Derived.ChangeOld
import Derived.Below
import Derived.Lib.SmallJoins
import Derived.ChangeMaps5
import Derived.SizedLaws
namespace Go.Proofs.Ytpieeefeicdfgab.devLoads
open Go.ChangeShapes Go.WideShapes Go.ChangeAt Go.RowKit
set_option linter.unusedVariables false
set_option linter.unusedSimpArgs false

theorem own : ownKnob Try.prog.godebug = none := by kernel_rfl
theorem laidOut : laidOutB Try.prog = true := by kernel_rfl

theorem yields_row_w {P : Program} {ops : Array Oper} {S : World → Prop} {o : Oper} {a : Act} (hg : Region.wanted o (yielded ops a.tmps) = true) (ty : TypeId) (x : Operand) (ho : o.op = .load ty x) (g : Nat) (hx : a.eval x = .pointer (some ⟨g, 0, none⟩)) (t : TypeId) (cs : Array Value) (fr : Nat × Nat) (d : TypeDesc)
    (hS : ∀ w, S w → w.heap[g]? = some (.cells cs t fr)) (hu : P.underlying ty = some d) (hd : (match d with | .struct _ | .array _ _ => true | _ => false) = true) (hi : (P.info? ty).map (·.size) = some cs.size) : YieldsIf P ops S o (.agg cs) a :=
  .inl ⟨hg, fun w h => by
    unfold execOp
    simp only [ho, hx, Instr.loadAt, Instr.sureAddr, Sem.run_bind, Sem.run_pure, Result.andThen_ok, run_loadVar_row w g t ty cs fr d (hS w h) hu hd hi]⟩
theorem ownN_lies {w w' : World} {e : TypeId} {z : Nat} {x : Option Addr} {n c : Nat} {xs : List Value} (h : OwnN w w' e z (.slice x n c) n xs) : Lies w' x xs ∧ n ≤ c := by
  obtain ⟨G, s, _⟩ := h
  obtain ⟨x', c', e, h1, h2, _⟩ := s.lies
  cases e
  exact ⟨h1, h2⟩
theorem load_all {E : List Ev} {Z Q : List Int} {b m st k f t : Int} (h : loadI E Z Q b m st k f t = 0) : errI E Z = 0 ∧ Q.length ≤ 32 ∧ b ≤ 7 ∧ m ≤ 7 ∧ fitsB st k f t = true := by
  unfold loadI at h
  split at h
  · rename_i h0
    split at h
    · cases h
    · split at h
      · cases h
      · rename_i h1 h2
        simp only [not_or, Bool.not_eq_false] at h2
        exact ⟨h0, by omega, by omega, by omega, h2.2.2⟩
  · exact absurd h (by assumption)
/-- Loaded devices may be. -/
theorem load_ds {w : World} {E : List Ev} {Z Q O : List Int} {xo xd xq xs : Option Addr} {cd cs : Nat} {b m n a st k f t : Int} (P : SavP w E Z Q O xo xd cd xq xs cs b m n a st k f t) (h : loadI E Z Q b m st k f t = 0) : (⟨E, b, m, Q, O, Z, n, a, st, k, f, t⟩ : DS).Ok := by
  obtain ⟨h0, h1, h2, h3, h4⟩ := load_all h
  obtain ⟨_, e2, e3, e4⟩ := errI_ok h0
  refine ⟨⟨P.b.1, h2⟩, ⟨P.m.1, h3⟩, h1, P.qb, e2, e4, P.db, P.n, P.a, P.sav.f, P.sav.t, ?_, fun e he => ⟨?_, P.eb e he⟩⟩
  · unfold fitsB at h4
    simp only [Bool.or_eq_true, Bool.and_eq_true, decide_eq_true_eq] at h4
    exact h4
  · have := (List.any_eq_false.1 e3) e he
    simpa using this
/-- The document's two tests of a status and a command. -/
def busyB (st k : Int) : Bool := decide (st = 1) && decide (k = 1 ∨ k = 2)
def restB (st k f t : Int) : Bool := decide (st ≠ 1) && (decide (st ≤ 2) && (decide (k = 0) && (decide (f = 0) && decide (t = 0))))
theorem fits_is {st k f t : Int} (h0 : 0 ≤ st) : fitsB st k f t = (busyB st k || restB st k f t) := by
  unfold fitsB busyB restB
  rw [Bool.eq_iff_iff]; simp; omega
set_option maxHeartbeats 16000000 in
set_option maxRecDepth 100000 in
theorem walk (T : List Value) (E : List Ev) (Z Q O : List Int) (xo : Option Addr) (co : Nat) (xd : Option Addr) (cd : Nat) (xq : Option Addr) (cq : Nat) (xs : Option Addr) (cs : Nat) (b m n a st k f t : Int) (hT : T.length = 23) (w : World) (w0 : SavP w E Z Q O xo xd cd xq xs cs b m n a st k f t) :
    Calls Try.prog 5 #[.agg (savL T (.slice xo O.length co) (.slice xd Z.length cd) (.slice xq Q.length cq) (.slice xs E.length cs) b m n a st k f t).toArray] w fun e w' => e = .returned (.bool true) ∧ Kep w w' := by
  have hM : Hid (∀ w, Calls Try.prog 7 #[] w fun e w' => e = .returned (.bool true) ∧ Kep w w') := works11_any
  have W0 : Hid (SavP w E Z Q O xo xd cd xq xs cs b m n a st k f t) := w0
  have HE : Hid (∀ w', Kep w w' → Calls Try.prog 22 #[.slice xs E.length cs, .slice xd Z.length cd] w' fun e w'' => e = .returned (.int .i64 (errI E Z)) ∧ Kep w' w'') := fun w' K => error_any w' xs E.length cs E ⟨rfl, w0.sav.ec, w0.sav.em, w0.sav.e.kep K, w0.eb⟩ xd Z.length cd Z rfl w0.sav.dc w0.sav.dm
  have HL0 : Hid (loadI E Z Q b m st k f t = 0 → ∀ w', Kep w w' → Calls Try.prog 17 #[.agg (savL T (.slice xo O.length co) (.slice xd Z.length cd) (.slice xq Q.length cq) (.slice xs E.length cs) b m n a st k f t).toArray] w' fun e w'' => ∃ p F, e = .returned (.tuple #[.pointer (some ⟨p, 0, none⟩), .int .i64 0]) ∧ Dev w'' p ⟨E, b, m, Q, O, Z, n, a, st, k, f, t⟩ F ∧ Kep w' w'' ∧ ∀ g ∈ F, w'.heap.size ≤ g) := fun h w' K => by
    obtain ⟨h0, h1, h2, h3, h4⟩ := load_all h
    exact load_ok hT (w0.sav.kep K) h0 h1 h2 h3 h4
  have HL1 : Hid (loadI E Z Q b m st k f t ≠ 0 → ∀ w', Kep w w' → Calls Try.prog 17 #[.agg (savL T (.slice xo O.length co) (.slice xd Z.length cd) (.slice xq Q.length cq) (.slice xs E.length cs) b m n a st k f t).toArray] w' fun e w'' => e = .returned (.tuple #[.pointer none, .int .i64 (loadI E Z Q b m st k f t)]) ∧ Kep w' w'') := fun h w' K => load_no hT (w0.sav.kep K) h
  have HSV : Hid (loadI E Z Q b m st k f t = 0 → ∀ w' w'' p F, Kep w w' → Dev w' p ⟨E, b, m, Q, O, Z, n, a, st, k, f, t⟩ F → Kep w' w'' → Calls Try.prog 16 #[.pointer (some ⟨p, 0, none⟩)] w'' fun e w3 => ∃ xo' co' xd' cd' xq' cq' xs' cs', e = .returned (.agg (savL zH (.slice xo' O.length co') (.slice xd' Z.length cd') (.slice xq' Q.length cq') (.slice xs' E.length cs') b m n a st k f t).toArray) ∧ (∀ w4, Kep w3 w4 → Calls Try.prog 18 #[.agg (savL zH (.slice xo' O.length co') (.slice xd' Z.length cd') (.slice xq' Q.length cq') (.slice xs' E.length cs') b m n a st k f t).toArray, .agg (savL T (.slice xo O.length co) (.slice xd Z.length cd) (.slice xq Q.length cq) (.slice xs E.length cs) b m n a st k f t).toArray] w4 fun e w5 => e = .returned (.bool true) ∧ Kep w4 w5) ∧ Kep w'' w3) := fun h w' w'' p F K d K2 => by
    obtain ⟨h0, _⟩ := load_all h
    obtain ⟨e1, _⟩ := errI_ok h0
    refine (save_any (d.kep K2) (load_ds w0 h) e1 w0.sav.ol).mono ?_
    rintro e w3 ⟨xo', co', xd', cd', xq', cq', xs', cs', rfl, sd, k3⟩
    refine ⟨xo', co', xd', cd', xq', cq', xs', cs', rfl, fun w4 k4 => ?_, k3⟩
    have KK := kep_trans K (kep_trans K2 (kep_trans k3 k4))
    exact saved_any (by rfl) hT e1 (ownN_lies sd.e).2 w0.sav.ec ((ownN_lies sd.o).1.kep k4) ((ownN_lies sd.d).1.kep k4) ((ownN_lies sd.q).1.kep k4) ((ownN_lies sd.e).1.kep k4) (w0.sav.o.kep KK) (w0.sav.d.kep KK) (w0.sav.q.kep KK) (w0.sav.e.kep KK)
  have CX0 : Hid (∀ (w' : World) (r : Nat), w'.heap[r]? = some (.cells (savL T (.slice xo O.length co) (.slice xd Z.length cd) (.slice xq Q.length cq) (.slice xs E.length cs) b m n a st k f t).toArray 55 (0, 0)) → w'.cell? ⟨r, 23, none⟩ = some (.slice xo O.length co) ∧ w'.cell? ⟨r, 24, none⟩ = some (.slice xd Z.length cd) ∧ w'.cell? ⟨r, 25, none⟩ = some (.slice xq Q.length cq) ∧ w'.cell? ⟨r, 26, none⟩ = some (.slice xs E.length cs) ∧ w'.cell? ⟨r, 27, none⟩ = some (.int .u32 b) ∧ w'.cell? ⟨r, 28, none⟩ = some (.int .u32 m) ∧ w'.cell? ⟨r, 29, none⟩ = some (.int .u32 n) ∧ w'.cell? ⟨r, 30, none⟩ = some (.int .u32 a) ∧ w'.cell? ⟨r, 31, none⟩ = some (.int .u32 st) ∧ w'.cell? ⟨r, 32, none⟩ = some (.int .u32 k) ∧ w'.cell? ⟨r, 33, none⟩ = some (.int .u32 f) ∧ w'.cell? ⟨r, 34, none⟩ = some (.int .u32 t)) := fun w' r h => sav_box hT _ _ _ _ _ _ _ _ _ _ _ _ h
  have hsX : Hid ((savL T (.slice xo O.length co) (.slice xd Z.length cd) (.slice xq Q.length cq) (.slice xs E.length cs) b m n a st k f t).toArray.size = 35) := by
    show _ = _
    rw [List.size_toArray, savL, List.length_append, hT]; rfl
  have hql : (Q.length : Int) ≤ 9223372036854775807 := w0.sav.ql
  have hst : Hid (0 ≤ st) := w0.sav.st.1
  generalize (savL T (.slice xo O.length co) (.slice xd Z.length cd) (.slice xq Q.length cq) (.slice xs E.length cs) b m n a st k f t).toArray = X at HL0 HL1 HSV CX0 hsX ⊢
  have hX35 : Hid ((Try.prog.info? 55).map (·.size) = some X.size) := by
    show _ = _
    rw [hsX.out]; exact size_sav
  obtain ⟨BB, hBB⟩ : ∃ BB, Hid (BB = busyB st k) := ⟨_, rfl⟩
  obtain ⟨RR, hRR⟩ : ∃ RR, Hid (RR = restB st k f t) := ⟨_, rfl⟩
  have hfit : Hid (fitsB st k f t = (BB || RR)) := by rw [Hid, hBB.out, hRR.out]; exact fits_is hst.out
  have cB : ((st == 1) = false ∧ BB = false) ∨ ((st == 1) = true ∧ (k == 1) = true ∧ BB = true) ∨ ((st == 1) = true ∧ (k == 1) = false ∧ (k == 2) = true ∧ BB = true) ∨ ((st == 1) = true ∧ (k == 1) = false ∧ (k == 2) = false ∧ BB = false) := by
    rw [hBB.out]; unfold busyB
    by_cases h1 : st = 1
    · by_cases h2 : k = 1
      · right; left; simp [h1, h2]
      · by_cases h3 : k = 2
        · right; right; left; simp [h1, h2, h3]
        · right; right; right; simp [h1, h2, h3]
    · left; simp [h1]
  have cR : ((st != 1) = false ∧ RR = false) ∨ ((st != 1) = true ∧ decide (st ≤ 2) = false ∧ RR = false) ∨ ((st != 1) = true ∧ decide (st ≤ 2) = true ∧ (k == 0) = false ∧ RR = false) ∨ ((st != 1) = true ∧ decide (st ≤ 2) = true ∧ (k == 0) = true ∧ (f == 0) = false ∧ RR = false) ∨ ((st != 1) = true ∧ decide (st ≤ 2) = true ∧ (k == 0) = true ∧ (f == 0) = true ∧ (t == 0) = false ∧ RR = false) ∨ ((st != 1) = true ∧ decide (st ≤ 2) = true ∧ (k == 0) = true ∧ (f == 0) = true ∧ (t == 0) = true ∧ RR = true) := by
    rw [hRR.out]; unfold restB
    by_cases h1 : st = 1
    · left; simp [h1]
    · by_cases h2 : st ≤ 2
      · by_cases h3 : k = 0
        · by_cases h4 : f = 0
          · by_cases h5 : t = 0
            · right; right; right; right; right; simp [h1, h2, h3, h4, h5]
            · right; right; right; right; left; simp [h1, h2, h3, h4, h5]
          · right; right; right; left; simp [h1, h2, h3, h4]
        · right; right; left; simp [h1, h2, h3]
      · right; left; simp [h1, h2]
  have CB : Hid _ := cB
  have CR : Hid _ := cR
  have hcase : (∃ v : Int, (v = 2 ∨ v = 3) ∧ errI E Z = v ∧ loadI E Z Q b m st k f t = v) ∨ (errI E Z = 0 ∧ decide (32 < Q.length) = true ∧ decide ((32 : Int) < (Q.length : Int)) = true ∧ loadI E Z Q b m st k f t = 3) ∨ (errI E Z = 0 ∧ (decide (32 < Q.length) = false ∧ decide ((32 : Int) < (Q.length : Int)) = false) ∧ loadI E Z Q b m st k f t = 2 ∧ (decide ((7 : Int) < b) = true ∨ (decide ((7 : Int) < b) = false ∧ decide ((7 : Int) < m) = true) ∨ (decide ((7 : Int) < b) = false ∧ decide ((7 : Int) < m) = false ∧ BB = false ∧ RR = false))) ∨ (errI E Z = 0 ∧ (decide (32 < Q.length) = false ∧ decide ((32 : Int) < (Q.length : Int)) = false) ∧ loadI E Z Q b m st k f t = 0 ∧ decide ((7 : Int) < b) = false ∧ decide ((7 : Int) < m) = false ∧ ((BB = true) ∨ (BB = false ∧ RR = true))) := by
    by_cases h0 : errI E Z = 0
    · by_cases h1 : 32 < Q.length
      · right; left; exact ⟨h0, decide_eq_true h1, decide_eq_true (by omega), by unfold loadI; rw [if_pos h0, if_pos h1]⟩
      · have d1 : decide (32 < Q.length) = false ∧ decide ((32 : Int) < (Q.length : Int)) = false := ⟨decide_eq_false h1, decide_eq_false (by omega)⟩
        by_cases h2 : 7 < b
        · right; right; left; exact ⟨h0, d1, by unfold loadI; rw [if_pos h0, if_neg h1, if_pos (.inl h2)], .inl (decide_eq_true h2)⟩
        · by_cases h3 : 7 < m
          · right; right; left; exact ⟨h0, d1, by unfold loadI; rw [if_pos h0, if_neg h1, if_pos (.inr (.inl h3))], .inr (.inl ⟨decide_eq_false h2, decide_eq_true h3⟩)⟩
          · by_cases h4 : fitsB st k f t = false
            · right; right; left
              refine ⟨h0, d1, by unfold loadI; rw [if_pos h0, if_neg h1, if_pos (.inr (.inr h4))], .inr (.inr ⟨decide_eq_false h2, decide_eq_false h3, ?_⟩)⟩
              rw [hfit.out] at h4; simpa using h4
            · right; right; right
              refine ⟨h0, d1, by unfold loadI; rw [if_pos h0, if_neg h1, if_neg (by simp only [not_or]; exact ⟨h2, h3, h4⟩)], decide_eq_false h2, decide_eq_false h3, ?_⟩
              rw [hfit.out] at h4
              cases BB
              · exact .inr ⟨rfl, by simpa using h4⟩
              · exact .inl rfl
    · left
      refine ⟨errI E Z, (errI_cases E Z).resolve_left h0, rfl, by unfold loadI; rw [if_neg h0]⟩
  have KA : Hid (Kep w (w.alloc (.cells X 55))) := (Kep.refl w).alloc _
  have BA : Hid ((w.alloc (.cells X 55)).heap[w.heap.size]? = some (.cells X 55 (0, 0))) := hat _ _ _ rfl
  clear w0 hst hfit hBB hRR hsX cB cR
  rcases hcase with ⟨v, hv, h0, h1⟩ | ⟨h0, tq, tq', h1⟩ | ⟨h0, ⟨tq, tq'⟩, h1, hb⟩ | ⟨h0, ⟨tq, tq'⟩, h1, tb, tm, hb⟩
  case inl =>
    have HL : Hid (∀ w', Kep w w' → Calls Try.prog 17 #[.agg X] w' fun e w'' => e = .returned (.tuple #[.pointer none, .int .i64 v]) ∧ Kep w' w'') := by
      have := HL1.out (by rw [h1]; omega)
      rw [h1] at this; exact this
    rw [h0] at HE
    clear h0 h1 HL0 HL1 HSV
    rcases hv with rfl | rfl
    all_goals
      go_enter Try.func5, Try.ntmps5
      go_upto_region 1 with fail
      generalize w.alloc (.cells X 55) = V at KA BA ⊢
      generalize w.heap.size = r at BA ⊢
      go_upto_region 2 with (first
        | (refine wpList_load_row (by rfl) 55 (.tmp 1) (by rfl) r (by rfl) 55 X (0, 0) _ BA.out Try.underlying55 rfl hX35.out ?_)
        | (go_at_call 17; refine (HL.out V KA.out).mono ?_; rintro e w1 ⟨rfl, k1⟩; have K1 : Hid (Kep V w1) := k1; clear k1))
      have XR1 : Hid (w1.heap[r]? = some (.cells X 55 (0, 0))) := K1.out.block BA.out
      have KW1 : Hid (Kep w w1) := kep_trans KA.out K1.out
      obtain ⟨_, c24, _, c26, _⟩ := CX0.out w1 r XR1.out
      go_upto_region 3 with (go_at_call 22; refine (HE.out w1 KW1.out).mono ?_; rintro e W ⟨rfl, k2⟩; have K2 : Hid (Kep w1 W) := k2; clear k2)
      clear c24 c26
      have XR : Hid (W.heap[r]? = some (.cells X 55 (0, 0))) := K2.out.block XR1.out
      have KW : Hid (Kep w W) := kep_trans KW1.out K2.out
      obtain ⟨c23, c24, c25, c26, c27, c28, c29, c30, c31, c32, c33, c34⟩ := CX0.out W r XR.out
      go_upto_region 5 with fail
      go_cut [6] from 26 to 38 (fun s6 wx => s6 = .bool BB ∧ W = wx)
      case first =>
        clear CR
        rcases CB.out with ⟨h1, hh⟩ | ⟨h1, h2, hh⟩ | ⟨h1, h2, h3, hh⟩ | ⟨h1, h2, h3, hh⟩
        all_goals
          clear CB
          have hh' : Hid _ := hh
          clear hh
          go_wp2_with fail
          go_meet
          case rel => exact ⟨by rw [hh'.out], rfl⟩
      obtain ⟨rfl, hwc⟩ := hcut
      subst hwc
      go_upto_region 6 with fail
      go_cut [7] from 39 to 61 (fun s7 wx => s7 = .bool RR ∧ W = wx)
      case first =>
        clear CB
        rcases CR.out with ⟨h1, hh⟩ | ⟨h1, h2, hh⟩ | ⟨h1, h2, h3, hh⟩ | ⟨h1, h2, h3, h4, hh⟩ | ⟨h1, h2, h3, h4, h5, hh⟩ | ⟨h1, h2, h3, h4, h5, hh⟩
        all_goals
          clear CR
          have hh' : Hid _ := hh
          clear hh
          go_wp2_with fail
          go_meet
          case rel => exact ⟨by rw [hh'.out], rfl⟩
      obtain ⟨rfl, hwc⟩ := hcut
      subst hwc
      go_wp2_with (go_at_call 7; refine (hM.out _).mono ?_; rintro e w8 ⟨rfl, k8⟩; have K8 : Hid (Kep W w8) := k8; clear k8)
      go_ret
      exact ⟨rfl, kep_trans KW.out K8.out⟩
  case inr.inl =>
    have HL : Hid (∀ w', Kep w w' → Calls Try.prog 17 #[.agg X] w' fun e w'' => e = .returned (.tuple #[.pointer none, .int .i64 3]) ∧ Kep w' w'') := by
      have := HL1.out (by rw [h1]; omega)
      rw [h1] at this; exact this
    rw [h0] at HE
    clear h0 h1 HL0 HL1 HSV
    go_enter Try.func5, Try.ntmps5
    go_upto_region 1 with fail
    generalize w.alloc (.cells X 55) = V at KA BA ⊢
    generalize w.heap.size = r at BA ⊢
    go_upto_region 2 with (first
      | (refine wpList_load_row (by rfl) 55 (.tmp 1) (by rfl) r (by rfl) 55 X (0, 0) _ BA.out Try.underlying55 rfl hX35.out ?_)
      | (go_at_call 17; refine (HL.out V KA.out).mono ?_; rintro e w1 ⟨rfl, k1⟩; have K1 : Hid (Kep V w1) := k1; clear k1))
    have XR1 : Hid (w1.heap[r]? = some (.cells X 55 (0, 0))) := K1.out.block BA.out
    have KW1 : Hid (Kep w w1) := kep_trans KA.out K1.out
    obtain ⟨_, c24, _, c26, _⟩ := CX0.out w1 r XR1.out
    go_upto_region 3 with (go_at_call 22; refine (HE.out w1 KW1.out).mono ?_; rintro e W ⟨rfl, k2⟩; have K2 : Hid (Kep w1 W) := k2; clear k2)
    clear c24 c26
    have XR : Hid (W.heap[r]? = some (.cells X 55 (0, 0))) := K2.out.block XR1.out
    have KW : Hid (Kep w W) := kep_trans KW1.out K2.out
    obtain ⟨c23, c24, c25, c26, c27, c28, c29, c30, c31, c32, c33, c34⟩ := CX0.out W r XR.out
    go_upto_region 5 with fail
    go_cut [6] from 26 to 38 (fun s6 wx => s6 = .bool BB ∧ W = wx)
    case first =>
      clear CR
      rcases CB.out with ⟨h1, hh⟩ | ⟨h1, h2, hh⟩ | ⟨h1, h2, h3, hh⟩ | ⟨h1, h2, h3, hh⟩
      all_goals
        clear CB
        have hh' : Hid _ := hh
        clear hh
        go_wp2_with fail
        go_meet
        case rel => exact ⟨by rw [hh'.out], rfl⟩
    obtain ⟨rfl, hwc⟩ := hcut
    subst hwc
    go_upto_region 6 with fail
    go_cut [7] from 39 to 61 (fun s7 wx => s7 = .bool RR ∧ W = wx)
    case first =>
      clear CB
      rcases CR.out with ⟨h1, hh⟩ | ⟨h1, h2, hh⟩ | ⟨h1, h2, h3, hh⟩ | ⟨h1, h2, h3, h4, hh⟩ | ⟨h1, h2, h3, h4, h5, hh⟩ | ⟨h1, h2, h3, h4, h5, hh⟩
      all_goals
        clear CR
        have hh' : Hid _ := hh
        clear hh
        go_wp2_with fail
        go_meet
        case rel => exact ⟨by rw [hh'.out], rfl⟩
    obtain ⟨rfl, hwc⟩ := hcut
    subst hwc
    go_wp2_with (go_at_call 7; refine (hM.out _).mono ?_; rintro e w8 ⟨rfl, k8⟩; have K8 : Hid (Kep W w8) := k8; clear k8)
    go_ret
    exact ⟨rfl, kep_trans KW.out K8.out⟩
  case inr.inr.inl =>
    have HL : Hid (∀ w', Kep w w' → Calls Try.prog 17 #[.agg X] w' fun e w'' => e = .returned (.tuple #[.pointer none, .int .i64 2]) ∧ Kep w' w'') := by
      have := HL1.out (by rw [h1]; omega)
      rw [h1] at this; exact this
    rw [h0] at HE
    clear h0 h1 HL0 HL1 HSV
    go_enter Try.func5, Try.ntmps5
    go_upto_region 1 with fail
    generalize w.alloc (.cells X 55) = V at KA BA ⊢
    generalize w.heap.size = r at BA ⊢
    go_upto_region 2 with (first
      | (refine wpList_load_row (by rfl) 55 (.tmp 1) (by rfl) r (by rfl) 55 X (0, 0) _ BA.out Try.underlying55 rfl hX35.out ?_)
      | (go_at_call 17; refine (HL.out V KA.out).mono ?_; rintro e w1 ⟨rfl, k1⟩; have K1 : Hid (Kep V w1) := k1; clear k1))
    have XR1 : Hid (w1.heap[r]? = some (.cells X 55 (0, 0))) := K1.out.block BA.out
    have KW1 : Hid (Kep w w1) := kep_trans KA.out K1.out
    obtain ⟨_, c24, _, c26, _⟩ := CX0.out w1 r XR1.out
    go_upto_region 3 with (go_at_call 22; refine (HE.out w1 KW1.out).mono ?_; rintro e W ⟨rfl, k2⟩; have K2 : Hid (Kep w1 W) := k2; clear k2)
    clear c24 c26
    have XR : Hid (W.heap[r]? = some (.cells X 55 (0, 0))) := K2.out.block XR1.out
    have KW : Hid (Kep w W) := kep_trans KW1.out K2.out
    obtain ⟨c23, c24, c25, c26, c27, c28, c29, c30, c31, c32, c33, c34⟩ := CX0.out W r XR.out
    go_upto_region 5 with fail
    go_cut [6] from 26 to 38 (fun s6 wx => s6 = .bool BB ∧ W = wx)
    case first =>
      clear CR
      rcases CB.out with ⟨h1, hh⟩ | ⟨h1, h2, hh⟩ | ⟨h1, h2, h3, hh⟩ | ⟨h1, h2, h3, hh⟩
      all_goals
        clear CB
        have hh' : Hid _ := hh
        clear hh
        go_wp2_with fail
        go_meet
        case rel => exact ⟨by rw [hh'.out], rfl⟩
    obtain ⟨rfl, hwc⟩ := hcut
    subst hwc
    go_upto_region 6 with fail
    go_cut [7] from 39 to 61 (fun s7 wx => s7 = .bool RR ∧ W = wx)
    case first =>
      clear CB
      rcases CR.out with ⟨h1, hh⟩ | ⟨h1, h2, hh⟩ | ⟨h1, h2, h3, hh⟩ | ⟨h1, h2, h3, h4, hh⟩ | ⟨h1, h2, h3, h4, h5, hh⟩ | ⟨h1, h2, h3, h4, h5, hh⟩
      all_goals
        clear CR
        have hh' : Hid _ := hh
        clear hh
        go_wp2_with fail
        go_meet
        case rel => exact ⟨by rw [hh'.out], rfl⟩
    obtain ⟨rfl, hwc⟩ := hcut
    subst hwc
    rcases hb with h1 | ⟨h1, h2⟩ | ⟨h1, h2, h3, h4⟩
    case' inr.inr => subst h3 h4
    all_goals
      go_wp2_with (go_at_call 7; refine (hM.out _).mono ?_; rintro e w8 ⟨rfl, k8⟩; have K8 : Hid (Kep W w8) := k8; clear k8)
      go_ret
      exact ⟨rfl, kep_trans KW.out K8.out⟩
  case inr.inr.inr =>
    have HL : Hid (∀ w', Kep w w' → Calls Try.prog 17 #[.agg X] w' fun e w'' => ∃ p F, e = .returned (.tuple #[.pointer (some ⟨p, 0, none⟩), .int .i64 0]) ∧ Dev w'' p ⟨E, b, m, Q, O, Z, n, a, st, k, f, t⟩ F ∧ Kep w' w'' ∧ ∀ g ∈ F, w'.heap.size ≤ g) := HL0.out h1
    have HS := HSV.out h1
    have HSV' : Hid _ := HS
    rw [h0] at HE
    clear h0 h1 HL0 HL1 HSV HS
    go_enter Try.func5, Try.ntmps5
    go_upto_region 1 with fail
    generalize w.alloc (.cells X 55) = V at KA BA ⊢
    generalize w.heap.size = r at BA ⊢
    go_upto_region 2 with (first
      | (refine wpList_load_row (by rfl) 55 (.tmp 1) (by rfl) r (by rfl) 55 X (0, 0) _ BA.out Try.underlying55 rfl hX35.out ?_)
      | (go_at_call 17; refine (HL.out V KA.out).mono ?_; rintro e w1 ⟨p, F, rfl, d1, k1, f1⟩; have D1 : Hid (Dev w1 p ⟨E, b, m, Q, O, Z, n, a, st, k, f, t⟩ F) := d1; have K1 : Hid (Kep V w1) := k1; clear k1 d1 f1))
    have XR1 : Hid (w1.heap[r]? = some (.cells X 55 (0, 0))) := K1.out.block BA.out
    have KW1 : Hid (Kep w w1) := kep_trans KA.out K1.out
    obtain ⟨_, c24, _, c26, _⟩ := CX0.out w1 r XR1.out
    go_upto_region 3 with (go_at_call 22; refine (HE.out w1 KW1.out).mono ?_; rintro e W ⟨rfl, k2⟩; have K2 : Hid (Kep w1 W) := k2; clear k2)
    clear c24 c26
    have XR : Hid (W.heap[r]? = some (.cells X 55 (0, 0))) := K2.out.block XR1.out
    have KW : Hid (Kep w W) := kep_trans KW1.out K2.out
    obtain ⟨c23, c24, c25, c26, c27, c28, c29, c30, c31, c32, c33, c34⟩ := CX0.out W r XR.out
    go_upto_region 5 with fail
    go_cut [6] from 26 to 38 (fun s6 wx => s6 = .bool BB ∧ W = wx)
    case first =>
      clear CR
      rcases CB.out with ⟨h1, hh⟩ | ⟨h1, h2, hh⟩ | ⟨h1, h2, h3, hh⟩ | ⟨h1, h2, h3, hh⟩
      all_goals
        clear CB
        have hh' : Hid _ := hh
        clear hh
        go_wp2_with fail
        go_meet
        case rel => exact ⟨by rw [hh'.out], rfl⟩
    obtain ⟨rfl, hwc⟩ := hcut
    subst hwc
    go_upto_region 6 with fail
    go_cut [7] from 39 to 61 (fun s7 wx => s7 = .bool RR ∧ W = wx)
    case first =>
      clear CB
      rcases CR.out with ⟨h1, hh⟩ | ⟨h1, h2, hh⟩ | ⟨h1, h2, h3, hh⟩ | ⟨h1, h2, h3, h4, hh⟩ | ⟨h1, h2, h3, h4, h5, hh⟩ | ⟨h1, h2, h3, h4, h5, hh⟩
      all_goals
        clear CR
        have hh' : Hid _ := hh
        clear hh
        go_wp2_with fail
        go_meet
        case rel => exact ⟨by rw [hh'.out], rfl⟩
    obtain ⟨rfl, hwc⟩ := hcut
    subst hwc
    have HS : Hid (∀ w'', Kep W w'' → _) := fun w'' K => HSV'.out w1 w'' p F KW1.out D1.out (kep_trans K2.out K)
    have hn := hb
    clear hb
    rcases hn with h3 | ⟨h3, h4⟩
    case' inl => subst h3
    case' inr => subst h3 h4
    all_goals
      go_upto_region 11 with fail
      clear c23 c24 c25 c26 c27 c28 c29 c30 c31 c32 c33 c34
      refine wp_region_held_drew (S := fun w' => w'.heap[r]? = some (.cells X 55 (0, 0))) (by kernel_rfl) XR.out (fun hH => ?_)
      refine wpAnyH_take (i := 0 ) (v := .int .i64 0 ) rfl (by kernel_rfl) (by kernel_rfl) (by kernel_rfl) (fun _ _ _ h => h) (.inl ⟨by rfl, by intro w hS; go_simp⟩) hH ?_; (try dsimp only [Act.put]); (try simp only [List.getElem_toArray, List.getElem_cons_zero, List.getElem_cons_succ, Act.put, List.setIfInBounds_toArray, List.set_cons_zero, List.set_cons_succ])
      refine wpAnyH_take (i := 1 ) (v := .bool true ) rfl (by kernel_rfl) (by kernel_rfl) (by kernel_rfl) (fun _ _ _ h => h) (.inl ⟨by rfl, by intro w hS; go_simp⟩) hH ?_; (try dsimp only [Act.put]); (try simp only [List.getElem_toArray, List.getElem_cons_zero, List.getElem_cons_succ, Act.put, List.setIfInBounds_toArray, List.set_cons_zero, List.set_cons_succ])
      refine wpAnyH_take (i := 2 ) (v := .bool true ) rfl (by kernel_rfl) (by kernel_rfl) (by kernel_rfl) (fun _ _ _ h => h) (.inl ⟨by rfl, by intro w hS; go_simp⟩) hH ?_; (try dsimp only [Act.put]); (try simp only [List.getElem_toArray, List.getElem_cons_zero, List.getElem_cons_succ, Act.put, List.setIfInBounds_toArray, List.set_cons_zero, List.set_cons_succ])
      refine wpAnyH_take (i := 3 ) (v := .pointer (some ⟨p, 0, none⟩) ) rfl (by kernel_rfl) (by kernel_rfl) (by kernel_rfl) (fun _ _ _ h => h) (.inl ⟨by rfl, by intro w hS; go_simp⟩) hH ?_; (try dsimp only [Act.put]); (try simp only [List.getElem_toArray, List.getElem_cons_zero, List.getElem_cons_succ, Act.put, List.setIfInBounds_toArray, List.set_cons_zero, List.set_cons_succ])
      refine wpAnyH_take (i := 5) (v := .agg X) rfl (by kernel_rfl) (by kernel_rfl) (by kernel_rfl) (fun _ _ _ h => h) (yields_row_w (by kernel_rfl) 55 _ rfl r rfl 55 X (0, 0) _ (fun w h => h) Try.underlying55 rfl hX35.out) hH ?_
      (try dsimp only [Act.put]); (try simp only [List.getElem_toArray, List.getElem_cons_zero, List.getElem_cons_succ, Act.put, List.setIfInBounds_toArray, List.set_cons_zero, List.set_cons_succ])
      have KD : Hid (Kep W W.drew) := (Kep.refl W).drew
      refine wpAnyH_ready (rs := [ 4 ]) (by kernel_rfl) (by simp) ?_; refine AllReadyH.cons rfl (fun K hK => ?_) AllReadyH.nil; rw [if_pos (by rfl)]; go_simp
      refine (HS.out _ KD.out).mono ?_
      rintro e w3 ⟨xo', co', xd', cd', xq', cq', xs', cs', rfl, hsd, k3⟩
      refine hK.out _ _ (k3.block hH) (fun hH => ?_)
      clear hK K
      (try dsimp only [Act.put]); (try simp only [List.getElem_toArray, List.getElem_cons_zero, List.getElem_cons_succ, Act.put, List.setIfInBounds_toArray, List.set_cons_zero, List.set_cons_succ])
      have HD : Hid _ := hsd
      have K3 : Hid (Kep W w3) := kep_trans KD.out k3
      clear hsd k3
      refine wpAnyH_ready (rs := [ 6 ]) (by kernel_rfl) (by simp) ?_; refine AllReadyH.cons rfl (fun K hK => ?_) AllReadyH.nil; rw [if_pos (by rfl)]; go_simp
      refine (HD.out w3 (Kep.refl _)).mono ?_
      rintro e w4 ⟨rfl, k4⟩
      refine hK.out _ _ (k4.block hH) (fun hH => ?_)
      clear hK K
      (try dsimp only [Act.put]); (try simp only [List.getElem_toArray, List.getElem_cons_zero, List.getElem_cons_succ, Act.put, List.setIfInBounds_toArray, List.set_cons_zero, List.set_cons_succ])
      have K4 : Hid (Kep W w4) := kep_trans K3.out k4
      clear k4
      refine wpAnyH_take (i := 7 ) (v := .bool true ) rfl (by kernel_rfl) (by kernel_rfl) (by kernel_rfl) (fun _ _ _ h => h) (.inl ⟨by rfl, by intro w hS; go_simp⟩) hH ?_; (try dsimp only [Act.put]); (try simp only [List.getElem_toArray, List.getElem_cons_zero, List.getElem_cons_succ, Act.put, List.setIfInBounds_toArray, List.set_cons_zero, List.set_cons_succ])
      refine wpAnyH_take (i := 8 ) (v := .bool true ) rfl (by kernel_rfl) (by kernel_rfl) (by kernel_rfl) (fun _ _ _ h => h) (.inl ⟨by rfl, by intro w hS; go_simp⟩) hH ?_; (try dsimp only [Act.put]); (try simp only [List.getElem_toArray, List.getElem_cons_zero, List.getElem_cons_succ, Act.put, List.setIfInBounds_toArray, List.set_cons_zero, List.set_cons_succ])
      refine wpAnyH_ready (rs := [ 9 ]) (by kernel_rfl) (by simp) ?_; refine AllReadyH.cons rfl (fun K hK => ?_) AllReadyH.nil; rw [if_pos (by rfl)]; go_simp
      refine (hM.out w4).mono ?_
      rintro e w5 ⟨rfl, k5⟩
      refine hK.out _ _ (k5.block hH) (fun hH => ?_)
      clear hK K
      (try dsimp only [Act.put]); (try simp only [List.getElem_toArray, List.getElem_cons_zero, List.getElem_cons_succ, Act.put, List.setIfInBounds_toArray, List.set_cons_zero, List.set_cons_succ])
      have K5 : Hid (Kep W w5) := kep_trans K4.out k5
      clear k5
      refine wpAnyH_take (i := 10 ) (v := .bool true ) rfl (by kernel_rfl) (by kernel_rfl) (by kernel_rfl) (fun _ _ _ h => h) (.inl ⟨by rfl, by intro w hS; go_simp⟩) hH ?_; (try dsimp only [Act.put]); (try simp only [List.getElem_toArray, List.getElem_cons_zero, List.getElem_cons_succ, Act.put, List.setIfInBounds_toArray, List.set_cons_zero, List.set_cons_succ])
      refine wpAnyH_take (i := 11 ) (v := .bool true ) rfl (by kernel_rfl) (by kernel_rfl) (by kernel_rfl) (fun _ _ _ h => h) (.inl ⟨by rfl, by intro w hS; go_simp⟩) hH ?_; (try dsimp only [Act.put]); (try simp only [List.getElem_toArray, List.getElem_cons_zero, List.getElem_cons_succ, Act.put, List.setIfInBounds_toArray, List.set_cons_zero, List.set_cons_succ])
      refine wpAnyH_done (by kernel_rfl) ?_ _
      go_wp2_with fail
      go_ret
      exact ⟨rfl, kep_trans KW.out K5.out⟩

set_option maxRecDepth 100000 in
theorem lifted (os : Os) (started : os.Started) (H : Type) (enc : TypeId × Value → H) :
    ReturnsInHanded {} Try.checked os 5 .any (Rows.devLoadsSpec.pre6 enc Try.prog Try.f5 Rows.devLoadsRow.domain false) (Rows.devLoadsSpec.post enc Try.prog Try.f5 false true false false) := by
  refine returnsInHanded_of_change_sized (C := Try.checked) own started (by kernel_rfl) Try.func5
    (ChangeSpec.witness6 (enc := enc) (C := Try.checked) false ⟨#[], #[.agg #[.int .i64 0, .slice none 0 0, .int .u32 0, .int .u32 0, .int .u32 0, .int .u32 0, .int .u32 0, .int .u32 0, .int .u32 0, .int .u32 0, .int .u32 0, .int .u32 0, .int .u32 0, .int .u32 0, .int .u32 0, .int .u32 0, .int .u32 0, .int .u32 0, .int .u32 0, .int .u32 0, .bool false, .int .i64 0, .slice none 0 0, .slice none 0 0, .slice none 0 0, .slice none 0 0, .slice none 0 0, .int .u32 0, .int .u32 0, .int .u32 0, .int .u32 0, .int .u32 0, .int .u32 0, .int .u32 0, .int .u32 0]], []⟩ 8 (by kernel_rfl) (by kernel_rfl) (by kernel_rfl) (by kernel_rfl)) ?_
  intro W base args ds gs before hval0 hW hcnd hsz0 _
  have hval : ∀ (j : Nat) t v, Try.f5.params[j]? = some t → args[j]? = some v → Value.okWide Try.prog W .any base t v := hval0
  have hW' := hW
  obtain ⟨p, q, hA0, hV, rfl, hfz, hnd⟩ := hW
  have hA : DataW.TrodAll enc Try.prog W 0 (fun _ => true) true Try.f5.params.toList args.toList ds p := hA0
  have hsz : (DataW.weightsEach Try.prog (Try.f5.params.toList ++ Rows.devLoadsSpec.plain.varTypes Try.prog) (ds ++ gs)).all (· ≤ reachBytes) = true := hsz0
  rw [Try.params5] at hA hval hsz
  obtain ⟨v0, vs0, d0, ds0, p0, q0, hargs, rfl, rfl, h0, r0⟩ := trodAll_cons hA
  obtain ⟨rfl, rfl, rfl⟩ := trodAll_nil r0
  obtain rfl : args = #[v0] := by cases args; simp_all
  obtain ⟨rfl, rfl⟩ := trodVars_none hV
  have k0 := h0
  have lt0 : ∀ x ∈ p0, x.block < W.heap.size := by obtain ⟨m, hm⟩ := k0; exact DataW.trod_lt m _ _ _ hm
  obtain ⟨T, E, Z, Q, O, xo, co, xd, cd, xq, cq, xs, cs, b, m, n, a, st, k, f, t, rfl, hT, w0⟩ := open_sav (hval 0 55 v0 rfl rfl) h0 (fun n hn => by
    have h1 := List.all_eq_true.1 hsz n (DataW.weights_mem_each (j := 0) (t := 55) (d := d0) rfl rfl n hn)
    simpa using h1)
  clear hA0 hval0
  refine (walk T E Z Q O xo co xd cd xq cq xs cs b m n a st k f t hT W w0).mono fun e W' ⟨he, bel0⟩ => ?_
  have bel : Below W.heap.size W W' := bel0
  subst he
  exact ⟨_, rfl, _, _, _, [], _, [], hW', trodAll_mk1 (shut_bool Try.underlying4 _), (trodAll_cons_mk (Below.trod laidOut (by kernel_rfl) (of_decide_eq_true (by kernel_rfl)) k0 bel lt0) trodAll_mk0), rfl, bel.frame _, fun h => by cases h⟩

theorem over : Rows.devLoadsRow.holds Try.pinned (OpenSpec.ofChange Rows.devLoadsSpec) :=
  OpenClaim.holds_of_wide 5 Try.f5 rfl rfl rfl rfl rfl rfl rfl ⟨rfl, rfl, rfl, rfl, rfl⟩ rfl rfl rfl rfl rfl (by kernel_rfl) Try.func5 (by kernel_rfl)
    (of_decide_eq_true (by kernel_rfl)) (by unfold Func.isWrapper; first | (rw [if_pos (by decide +kernel)]; kernel_rfl) | (rw [if_neg (by decide +kernel)]; exact ⟨rfl, rfl⟩))
    (fun os started H enc _ => lifted os started H enc)
end Go.Proofs.Ytpieeefeicdfgab.devLoads
namespace Go.Proofs.Ytpieeefeicdfgab

theorem devLoads_holds : Rows.DevLoadsSaid := devLoads.over
#print axioms devLoads_holds
end Go.Proofs.Ytpieeefeicdfgab
