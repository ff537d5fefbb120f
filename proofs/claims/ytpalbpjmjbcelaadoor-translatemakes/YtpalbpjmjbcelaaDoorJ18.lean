/- Part of a proof. -/
import Derived.Deep.QuietTactic
import Derived.DeepKeys
import Derived.Test.YtpalbpjmjbcelaaDoorJ17
namespace Go.Proofs.YtpalbpjmjbcelaaDoor
open Go.RowKit
set_option linter.unusedVariables false
set_option linter.unusedSimpArgs false
theorem rw_key (a b c d : Int) (h0 : (Lit.int .i64 a).wf = true) (h1 : (Lit.int .u32 b).wf = true) (h2 : (Lit.int .i64 c).wf = true) (h3 : (Lit.int .i64 d).wf = true) :
    Tryd.prog.keyLits 2 41 (Value.agg #[.int .i64 a, .int .u32 b, .int .i64 c, .int .i64 d]).cells.toList = some [.int .i64 a, .int .u32 b, .int .i64 c, .int .i64 d] := by
  have cI : Tryd.prog.cellsOf 41 = 4 := by kernel_rfl
  have c5 : Tryd.prog.cellsOf 3 = 1 := by kernel_rfl
  have c21 : Tryd.prog.cellsOf 24 = 1 := by kernel_rfl
  simp [Program.keyLits, Tryd.underlying41, Tryd.underlying3, Tryd.underlying24, Value.cells, cI, c5, c21, h0, h1, h2, h3]
theorem rw_same (a b c d : Int) (h0 : (Lit.int .i64 a).wf = true) (h1 : (Lit.int .u32 b).wf = true) (h2 : (Lit.int .i64 c).wf = true) (h3 : (Lit.int .i64 d).wf = true) (w : World) :
    Sem.run Tryd.prog (Op.equalIn 10000 41 (.agg #[.int .i64 a, .int .u32 b, .int .i64 c, .int .i64 d]) (.agg #[.int .i64 a, .int .u32 b, .int .i64 c, .int .i64 d])) w = .ok true w := by
  obtain ⟨r, hr, hiff⟩ := run_equalIn_deep (P := Tryd.prog) 9998 2 41 (by kernel_rfl) w 2 2 (.agg #[.int .i64 a, .int .u32 b, .int .i64 c, .int .i64 d]) (.agg #[.int .i64 a, .int .u32 b, .int .i64 c, .int .i64 d]) _ _ (by kernel_rfl) (by kernel_rfl) (rw_key a b c d h0 h1 h2 h3) (rw_key a b c d h0 h1 h2 h3)
  rw [hr, hiff.2 rfl]
theorem lies_row {w : World} {x : Option Addr} {R : List Rw4} (h : Lies w x (rws R)) {k : Nat} {r : Rw4} (he : R[k]? = some r) : ∃ b off : Nat, x = some ⟨b, off, none⟩ ∧ w.rangeAt b (off + k * 4) (rwV r) := by
  rcases h with h | ⟨b, off, rfl, _, hc⟩
  · have := rws_at he 0 (by decide)
    rw [h] at this; simp [rwV] at this
  · refine ⟨b, off, rfl, fun j v hv => ?_⟩
    have hj : j < 4 := (List.getElem?_eq_some_iff.1 hv).1
    rw [Nat.add_assoc]
    exact hc (k * 4 + j) v ((rws_at he j hj).trans hv)
theorem quiet_mid20 {P : Program} {ops : Array Oper} {C : World → Prop} {Q : Act → Prop} {a : Act} {o : Oper} {rest : List Oper} (ty : TypeId) (x : Operand) (ho : o.op = .load ty x) (b k : Nat) (hx : a.eval x = .pointer (some ⟨b, k, none⟩)) (hw : Region.wanted o (yielded ops a.tmps) = true)
    (cs : List Value) (d : TypeDesc) (hC : ∀ w, C w → w.rangeAt b k cs) (hu : P.underlying ty = some d) (hd : d.isRow = true) (hi : (P.info? ty).map (·.size) = some cs.length)
    (h : wpQuiet P ops C Q rest (a.put o.dst (.agg cs.toArray))) : wpQuiet P ops C Q (o :: rest) a :=
  wpQuiet_step fun K hK => by
    rw [if_pos hw]
    refine ⟨.agg cs.toArray, fun w hc => ?_, hK _ h⟩
    unfold Oper.quietAt execOp
    simp only [ho, hx, Instr.loadAt, Instr.sureAddr, Sem.run_bind, Sem.run_pure, Result.andThen_ok, run_loadVar_mid w b k ty cs d (hC w hc) hu hd hi]
    exact ⟨rfl, rfl⟩
def RwOk (r : Rw4) : Prop := (Lit.int .i64 r.1).wf = true ∧ (Lit.int .u32 r.2.1).wf = true ∧ (Lit.int .i64 r.2.2.1).wf = true ∧ (Lit.int .i64 r.2.2.2).wf = true
set_option maxHeartbeats 4000000 in
set_option maxRecDepth 100000 in
theorem same20_any {w : World} {v1 v2 u1 u2 : Value} {T : List It} (hv : CdAt w v1 v2 T) (hu : CdAt w u1 u2 T) (hr : ∀ r ∈ itR T, RwOk r) :
    Calls Tryd.prog 12 #[.agg #[v1, v2], .agg #[u1, u2]] w fun e w' => e = .returned (.bool true) ∧ Kep w w' := by
  obtain ⟨F, G, s1, s2⟩ := hv
  obtain ⟨F', G', t1, t2⟩ := hu
  obtain ⟨x1, c1, hv1, _, p1, p2, _⟩ := s1.lies
  obtain ⟨x2, c2, hv2, L2, p3, p4, _⟩ := s2.lies
  obtain ⟨y1, d1, hu1, _, p5, p6, _⟩ := t1.lies
  obtain ⟨y2, d2, hu2, M2, p7, p8, _⟩ := t2.lies
  subst hv1 hv2 hu1 hu2
  have L2 := hidd L2
  have M2 := hidd M2
  have HR := hidd hr
  have RL : Hid ((itR T).length = T.length) := itR_len T
  obtain ⟨i2, q2⟩ : ∃ i, Hid (i = w.heap.size) := ⟨_, rfl⟩
  obtain ⟨i3, q3⟩ : ∃ i, Hid (i = w.heap.size + 1) := ⟨_, rfl⟩
  obtain ⟨W, hW⟩ : ∃ V, Hid ((w.alloc (.cells #[.slice x1 (itB T).length c1, .slice x2 T.length c2] 33)).alloc (.cells #[.slice y1 (itB T).length d1, .slice y2 T.length d2] 33) = V) := ⟨_, rfl⟩
  have K1 : Hid (Kep w W) := by rw [Hid, ← hW.out]; exact ((Kep.refl _).alloc _).alloc _
  have B2 : Hid (W.heap[i2]? = some (.cells #[.slice x1 (itB T).length c1, .slice x2 T.length c2] 33 (0, 0))) := by rw [Hid, ← hW.out, q2.out]; exact ((Kep.refl _).alloc _).block (hat _ _ _ rfl)
  have B3 : Hid (W.heap[i3]? = some (.cells #[.slice y1 (itB T).length d1, .slice y2 T.length d2] 33 (0, 0))) := by rw [Hid, ← hW.out, q3.out]; exact hat _ _ _ (by simp)
  have h1 := lt_str s1 K1.out
  have h2 := lt_str t1 K1.out
  have r3 : (T.length : Int) ≤ c2 := by omega
  have r4 : (c2 : Int) ≤ 9223372036854775807 := by unfold maxLen at p4; omega
  have r7 : (T.length : Int) ≤ d2 := by omega
  have r8 : (d2 : Int) ≤ 9223372036854775807 := by unfold maxLen at p8; omega
  clear s1 s2 t1 t2 p1 p2 p3 p4 p5 p6 p7 p8 hr
  go_enter Tryd.func12, Tryd.ntmps12
  go_upto_region 1 with fail
  rw [hW.out, ← q3.out, ← q2.out]
  clear hW q2 q3
  have a0 : W.cell? ⟨i2, 0, none⟩ = some (.slice x1 (itB T).length c1) := cell_of_block B2.out
  have a1 : W.cell? ⟨i2, 1, none⟩ = some (.slice x2 T.length c2) := cell_of_block B2.out
  have b0 : W.cell? ⟨i3, 0, none⟩ = some (.slice y1 (itB T).length d1) := cell_of_block B3.out
  have b1 : W.cell? ⟨i3, 1, none⟩ = some (.slice y2 T.length d2) := cell_of_block B3.out
  go_wp2_with fail
  clear a0 a1 b0 b1 h1 h2
  go_loopw [5] (fun i wr => ∃ k : Nat, (k : Int) ≤ T.length ∧ i = .int .i64 k ∧ Hid (Kep W wr)) (fun i _ => T.length - (intOf i).toNat)
  case atStart => exact ⟨0, by omega, rfl, hidd (Kep.refl _)⟩
  case round =>
    obtain ⟨k, hk, rfl, KR⟩ := hrel
    have a1 : wr.cell? ⟨i2, 1, none⟩ = some (.slice x2 T.length c2) := cell_of_block (KR.out.block B2.out)
    have b1 : wr.cell? ⟨i3, 1, none⟩ = some (.slice y2 T.length d2) := cell_of_block (KR.out.block B3.out)
    by_cases hlt : k < T.length
    · obtain ⟨⟨ro, rp, rd, re⟩, he⟩ : ∃ r, (itR T)[k]? = some r := ⟨_, List.getElem?_eq_getElem (by rw [RL.out]; exact hlt)⟩
      obtain ⟨g1, o1, e1, ra⟩ := lies_row (L2.out.kep (kep_trans K1.out KR.out)) he
      obtain ⟨g2, o2, e2, rb⟩ := lies_row (M2.out.kep (kep_trans K1.out KR.out)) he
      obtain ⟨w0, w1, w2, w3⟩ := HR.out _ (List.mem_of_getElem? he)
      have eq := rw_same ro rp rd re w0 w1 w2 w3
      subst e1 e2
      have RA := hidd ra
      have RB := hidd rb
      clear ra rb he w0 w1 w2 w3
      go_upto_region 6 with fail
      refine wp_region_quiet_lit (by kernel_rfl) (by kernel_rfl) ?_
      repeat (first
        | (refine quiet_mid20 41 _ (by rfl) g1 (o1 + k * 4) (by rfl) (by rfl) [.int .i64 ro, .int .u32 rp, .int .i64 rd, .int .i64 re] _ (fun w h => by obtain ⟨n, rfl⟩ := h; exact RA.out) Tryd.underlying41 rfl (by kernel_rfl) ?_)
        | (refine quiet_mid20 41 _ (by rfl) g2 (o2 + k * 4) (by rfl) (by rfl) [.int .i64 ro, .int .u32 rp, .int .i64 rd, .int .i64 re] _ (fun w h => by obtain ⟨n, rfl⟩ := h; exact RB.out) Tryd.underlying41 rfl (by kernel_rfl) ?_)
        | quiet_step (fail))
      refine wpQuiet_nil ?_
      intro _ hw'
      obtain ⟨nq, hw''⟩ := hw'
      subst hw''
      have KQ : Hid (Kep W (wr.drewN nq)) := KR.out.drewN nq
      clear a1 b1 KR RA RB
      go_wp2_with fail
      go_roundw
      case rel => exact ⟨k + 1, by omega, by go_num, KQ⟩
      case measure => simp [intOf]; omega
    · obtain rfl : k = T.length := by omega
      go_wp2_with fail
      go_ret
      exact ⟨rfl, kep_trans K1.out KR.out⟩
def RngI (x : It) : Prop := (0 ≤ x.2.1 ∧ x.2.1 < 4294967296) ∧ (0 ≤ x.2.2.1 ∧ x.2.2.1 ≤ 255) ∧ -1 ≤ x.2.2.2 ∧ x.2.2.2 ≤ 65535
theorem getD_rng {A : List Int} (ao : ∀ a ∈ A, 0 ≤ a ∧ a < 4294967296) (k : Nat) : 0 ≤ A.getD k 0 ∧ A.getD k 0 < 4294967296 := by
  rw [List.getD_eq_getElem?_getD]
  cases h : A[k]? with
  | none => exact ⟨by show (0 : Int) ≤ 0; omega, by show (0 : Int) < _; omega⟩
  | some a => exact ao a (List.mem_of_getElem? h)
theorem run_rng {n : Int} {I : List In4} {A : List Int} (ao : ∀ a ∈ A, 0 ≤ a ∧ a < 4294967296) {k : Nat} (hk : k ≤ 32) (hk2 : k ≤ I.length) {x : It} (hx : x ∈ runI n I A k) : RngI x := by
  obtain ⟨j, i, h', hj, hi, hl, rfl⟩ := runI_mem hk2 hx
  exact ⟨getD_rng ao j, ⟨by show (0 : Int) ≤ j; omega, by show (j : Int) ≤ 255; omega⟩, by show (-1 : Int) ≤ -1; omega, by show (-1 : Int) ≤ 65535; omega⟩
theorem out_rng {p c f : Int} (hp : 0 ≤ p ∧ p < 4294967296) (hc : 0 ≤ c ∧ c ≤ 255) (hf : 0 ≤ f ∧ f ≤ 65535) {x : It} (hx : x ∈ outI p c f) : RngI x := by
  unfold outI at hx
  simp only [List.mem_cons, List.mem_nil_iff, or_false] at hx
  rcases hx with rfl | rfl
  · exact ⟨hp, hc, by show (-1 : Int) ≤ -1; omega, by show (-1 : Int) ≤ 65535; omega⟩
  · exact ⟨hp, ⟨by show (0 : Int) ≤ 0; omega, by show (0 : Int) ≤ 255; omega⟩, by show -1 ≤ f; omega, hf.2⟩
theorem trI_rng {I : List In4} {A : List Int} {n t e first : Int} {la : Nat} (h : mayL I la e = true) (ao : ∀ a ∈ A, 0 ≤ a ∧ a < 4294967296) (hn : 0 ≤ n ∧ n < 4294967296) (ht : 0 ≤ t ∧ t < 4294967296) (hf : 0 ≤ first ∧ first ≤ 65534) {x : It} (hx : x ∈ trI I A n t e first) : RngI x := by
  obtain ⟨f1, f2, f3⟩ := may_fit h
  unfold trI at hx
  split at hx
  · rcases List.mem_append.1 hx with hx | hx
    · exact run_rng ao f2 (Nat.le_refl _) hx
    · exact out_rng ht ⟨by omega, by omega⟩ ⟨hf.1, by omega⟩ hx
  · split at hx
    · rcases List.mem_append.1 hx with hx | hx
      · rcases List.mem_append.1 hx with hx | hx
        · exact run_rng ao f2 (Nat.le_refl _) hx
        · exact out_rng hn ⟨by omega, by omega⟩ ⟨hf.1, by omega⟩ hx
      · exact out_rng ht ⟨by omega, by omega⟩ ⟨by omega, by omega⟩ hx
    · split at hx
      · rcases List.mem_append.1 hx with hx | hx
        · exact run_rng ao (by omega) (by omega) hx
        · exact out_rng (getD_rng ao _) ⟨by omega, by omega⟩ ⟨hf.1, by omega⟩ hx
      · rcases List.mem_append.1 hx with hx | hx
        · exact run_rng ao f2 (Nat.le_refl _) hx
        · exact out_rng hn ⟨by omega, by omega⟩ ⟨hf.1, by omega⟩ hx
theorem wf_i64 {a : Int} (h0 : -9223372036854775808 ≤ a) (h1 : a ≤ 9223372036854775807) : (Lit.int .i64 a).wf = true := by
  simp [Lit.wf, IntKind.min, IntKind.max, IntKind.signed, IntKind.bits]; omega
theorem wf_u32 {a : Int} (h0 : 0 ≤ a) (h1 : a < 4294967296) : (Lit.int .u32 a).wf = true := by
  simp [Lit.wf, IntKind.min, IntKind.max, IntKind.signed, IntKind.bits]; omega
theorem trI_ok {I : List In4} {A : List Int} {n t e first : Int} {la : Nat} (h : mayL I la e = true) (io : ∀ i ∈ I, In4.Ok i) (ao : ∀ a ∈ A, 0 ≤ a ∧ a < 4294967296) (hn : 0 ≤ n ∧ n < 4294967296) (ht : 0 ≤ t ∧ t < 4294967296) (hf : 0 ≤ first ∧ first ≤ 65534) : ∀ r ∈ itR (trI I A n t e first), RwOk r := by
  intro r hr
  obtain ⟨k, hk⟩ := List.getElem?_of_mem hr
  have hlt := (List.getElem?_eq_some_iff.1 hk).1
  rw [itR_len] at hlt
  have hx : (trI I A n t e first)[k]? = some (trI I A n t e first)[k] := List.getElem?_eq_getElem hlt
  rw [itR_at hx] at hk
  obtain rfl : (((itB ((trI I A n t e first).take k)).length : Int), ((trI I A n t e first)[k]).2) = r := by simpa using hk
  have hm := List.mem_of_getElem? hx
  obtain ⟨⟨a1, a2⟩, ⟨b1, b2⟩, c1, c2⟩ := trI_rng h ao hn ht hf hm
  have hB := itB_take_le (trI I A n t e first) k
  have h6 := itB_le (fun x hx => (trI_item (t := t) (A := A) hn h io hf hx).1)
  have h36 := (trI_len (A := A) (n := n) (t := t) (first := first) h).2
  exact ⟨wf_i64 (by show _ ≤ ((itB _).length : Int); omega) (by show ((itB _).length : Int) ≤ _; omega), wf_u32 a1 a2, wf_i64 (Int.le_trans (by omega) b1) (Int.le_trans b2 (by omega)), wf_i64 (Int.le_trans (by omega) c1) (Int.le_trans c2 (by omega))⟩
theorem same20_nil (w : World) : Calls Tryd.prog 12 #[.agg #[nilS, nilS], .agg #[nilS, nilS]] w fun e w' => e = .returned (.bool true) ∧ Kep w w' :=
  same20_any (T := []) ⟨[], [], Sli.nil _ _ _, Sli.nil _ _ _⟩ ⟨[], [], Sli.nil _ _ _, Sli.nil _ _ _⟩ (by simp [itR, itRo])
theorem yields_row20 {P : Program} {ops : Array Oper} {S : World → Prop} {o : Oper} {a : Act} (hw : Region.wanted o (yielded ops a.tmps) = true) (ty : TypeId) (x : Operand) (ho : o.op = .load ty x) (g : Nat) (hx : a.eval x = .pointer (some ⟨g, 0, none⟩)) (t : TypeId) (cs : Array Value) (fr : Nat × Nat) (d : TypeDesc)
    (hS : ∀ w, S w → w.heap[g]? = some (.cells cs t fr)) (hu : P.underlying ty = some d) (hd : (match d with | .struct _ | .array _ _ => true | _ => false) = true) (hi : (P.info? ty).map (·.size) = some cs.size) : YieldsIf P ops S o (.agg cs) a :=
  .inl ⟨hw, fun w h => by
    unfold execOp
    simp only [ho, hx, Instr.loadAt, Instr.sureAddr, Sem.run_bind, Sem.run_pure, Result.andThen_ok, run_loadVar_row w g t ty cs fr d (hS w h) hu hd hi]⟩
end Go.Proofs.YtpalbpjmjbcelaaDoor
