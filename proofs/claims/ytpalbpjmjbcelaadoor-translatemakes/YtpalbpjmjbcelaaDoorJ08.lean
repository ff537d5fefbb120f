/- Part of a proof. -/
import Derived.OrdersHeld
import Derived.Deep.AppendLies
import Derived.Deep.RegionHeld
import Derived.Test.YtpalbpjmjbcelaaDoorJ07
namespace Go.Proofs.YtpalbpjmjbcelaaDoor
open Go.RowKit
set_option linter.unusedVariables false
set_option linter.unusedSimpArgs false
theorem lt_u8 : (Tryd.prog.info? 5).map (fun i => (i.zero, i.size, i.bytes)) = some (some (.int .u8 0), 1, 1) := by kernel_rfl
theorem lt_row : (Tryd.prog.info? 41).map (fun i => (i.zero, i.size, i.bytes)) = some (some (.agg #[.int .i64 0, .int .u32 0, .int .i64 0, .int .i64 0]), 4, 32) := by kernel_rfl
theorem lt_szrow : (Tryd.prog.info? 41).map (·.size) = some 4 := by kernel_rfl
theorem bs_ones (B : List Int) : ∀ u ∈ bs B, u.oneCell' = true := by
  intro u hu
  simp only [bs, List.mem_map] at hu
  obtain ⟨b, _, rfl⟩ := hu
  rfl
theorem bs_app (B P : List Int) : bs (B ++ P) = bs B ++ bs P := by simp [bs]
set_option maxHeartbeats 1000000 in
set_option maxRecDepth 100000 in
theorem ltwrite_any {W : World} {c : Nat} {T : TypeId} {v1 v2 : Value} {B P : List Int} {F : List Nat} {C m k : Nat} (hb : W.heap[c]? = some (.cells #[v1, v2] T (0, 0))) (hS : Sli W 5 1 v1 B.length (bs B) F) (hc : c ∉ F)
    (hm : P.length = m) (hP : ∀ j u, (bs P)[j]? = some u → W.cell? ((⟨C, 0, none⟩ : Addr).add j) = some u) (hs : B.length + m ≤ 100000) :
    Calls Tryd.prog 43 #[.pointer (some ⟨c, 0, none⟩), .slice (some ⟨C, 0, none⟩) m k] W fun e W' => e = .returned (.int .i64 B.length) ∧ ∃ v1' F', W'.heap[c]? = some (.cells #[v1', v2] T (0, 0)) ∧
      Sli W' 5 1 v1' (B ++ P).length (bs (B ++ P)) F' ∧ Put (c :: F) W W' ∧ ∀ g ∈ F', g ∈ F ∨ W.heap.size ≤ g := by
  obtain ⟨i0, hi, hz0, hz1, hz2⟩ := info_parts lt_u8
  obtain ⟨x1, c1, rfl, _⟩ := hS.lies
  have hb' := hidd hb
  have hS' := hidd hS
  have hc' := hidd hc
  have hP' := hidd hP
  have d0 : W.cell? ⟨c, 0, none⟩ = some (.slice x1 B.length c1) := cell_of_block hb
  have fz : Hid (∀ w', Put F W w' → w'.cell? ⟨c, 0, none⟩ = some (.slice x1 B.length c1) ∧ w'.frozen? ⟨c, 0, none⟩ = false) := fun w' k => by
    have h := k.keeps hb'.out hc'.out
    exact ⟨cell_of_block h, by simp [World.frozen?, h]⟩
  have hlen : Hid ((bs P).length = m * 1) := by rw [Hid]; simp [bs, hm]
  have hm' := hidd hm
  have hs' := hidd hs
  clear hb hS hc hP hm hs
  go_enter Tryd.func43, Tryd.ntmps43
  go_wp2_with (at_builtin; refine wpList_append_slis rfl (.tmp 15) (.tmp 16) 30 rfl 5 i0 _ 1 1 Tryd.underlying30 hi hz0 hz1 hz2 rfl (by decide) _ B.length (bs B) F rfl hS'.out ⟨C, 0, none⟩ m k (bs P) rfl hlen.out hP'.out (bs_ones _) (by have := hs'.out; unfold maxLen; omega) (by have := hs'.out; omega) ?_; intro v' w1 F1 S1 P1 H1; obtain ⟨d1, d2⟩ := fz.out w1 P1.out; obtain ⟨x2, c2, hv', _⟩ := S1.out.lies; subst hv')
  go_ret
  refine ⟨rfl, .slice x2 (B.length + m) c2, F1, ?_, ?_, ?_, H1.out⟩
  · exact heap_setCell_row (P1.out.keeps hb'.out hc'.out) _
  · have e : (B ++ P).length = B.length + m := by rw [List.length_append, hm'.out]
    rw [e, bs_app]
    refine S1.out.put (l := [c]) ((Put.refl _).setCell (by simp) _) (fun g hg hm => ?_)
    obtain rfl : g = c := by simpa using hm
    rcases H1.out g hg with h | h
    · exact hc'.out h
    · have := block_lt hb'.out; omega
  · exact (P1.out.mono (fun g hg => by simp [hg])).setCell (by simp) _
structure CdW (w0 W : World) (c : Nat) (v1 v2 : Value) (L : List It) (F G : List Nat) : Prop where
  box : W.heap[c]? = some (.cells #[v1, v2] 63 (0, 0))
  sb : Sli W 5 1 v1 (itB L).length (bs (itB L)) F
  sr : Sli W 41 4 v2 L.length (rws (itR L)) G
  lo : w0.heap.size ≤ c ∧ (∀ g ∈ F, w0.heap.size ≤ g) ∧ ∀ g ∈ G, w0.heap.size ≤ g
  kp : Kep w0 W
section
variable {w0 W W' : World} {c : Nat} {v1 v2 : Value} {L : List It} {F G : List Nat}
theorem CdW.cF (h : CdW w0 W c v1 v2 L F G) : c ∉ F := fun hm => h.sb.ne h.box (by decide) c hm rfl
theorem CdW.cG (h : CdW w0 W c v1 v2 L F G) : c ∉ G := fun hm => h.sr.ne h.box (by decide) c hm rfl
theorem CdW.fg (h : CdW w0 W c v1 v2 L F G) : ∀ g ∈ G, g ∉ F := fun g hg hf => by
  rcases h.sr.form with ⟨_, _, _, rfl⟩ | ⟨g', o, cp, _, rfl, _⟩
  · simp at hg
  · obtain rfl : g = g' := by simpa using hg
    rcases h.sr.2 with ⟨_, _, h2⟩ | ⟨b, _, _, cur, _, h2, hb, _⟩
    · simp at h2
    · obtain rfl : g = b := by simpa using h2
      exact h.sb.ne hb (by decide) g hf rfl
theorem CdW.kep (h : CdW w0 W c v1 v2 L F G) (k : Kep W W') : CdW w0 W' c v1 v2 L F G := ⟨k.block h.box, h.sb.kep k, h.sr.kep k, h.lo, kep_trans h.kp k⟩
theorem CdW.lt (h : CdW w0 W c v1 v2 L F G) : c < W.heap.size ∧ (∀ g ∈ F, g < W.heap.size) ∧ ∀ g ∈ G, g < W.heap.size := ⟨block_lt h.box, h.sb.lt, h.sr.lt⟩
end
theorem rw_ones (r : Rw4) : ∀ u ∈ rwV r, u.oneCell' = true := by
  intro u hu; simp [rwV] at hu; rcases hu with rfl | rfl | rfl | rfl <;> rfl
theorem rws_ones (R : List Rw4) : ∀ u ∈ rws R, u.oneCell' = true := by
  intro u hu
  simp only [rws, List.mem_flatMap] at hu
  obtain ⟨r, _, h⟩ := hu
  exact rw_ones r u h
def rwA (r : Rw4) : Array Value := #[.int .i64 r.1, .int .u32 r.2.1, .int .i64 r.2.2.1, .int .i64 r.2.2.2]
theorem CdW.rows {w0 W4 V w5 : World} {c k : Nat} {v1 v2 v3 : Value} {L X : List It} {F G G1 : List Nat} (b4 : W4.heap[c]? = some (.cells #[v1, v2] 63 (0, 0))) (s4 : Sli W4 5 1 v1 (itB (L ++ X)).length (bs (itB (L ++ X))) F)
    (sr : Sli W4 41 4 v2 L.length (rws (itR L)) G) (kV : Kep W4 V) (S1 : Sli w5 41 4 v3 k (rws (itR (L ++ X))) G1) (hk : k = (L ++ X).length) (P1 : Put G V w5) (Q1 : ∀ g ∈ G1, g ∈ G ∨ V.heap.size ≤ g)
    (l0 : w0.heap.size ≤ c) (l1 : ∀ g ∈ F, w0.heap.size ≤ g) (l2 : ∀ g ∈ G, w0.heap.size ≤ g) (K : Kep w0 W4) : CdW w0 (w5.setCell ⟨c, 1, none⟩ v3) c v1 v3 (L ++ X) F G1 := by
  have cg : c ∉ G := fun hm => sr.ne b4 (by decide) c hm rfl
  have k5 : Put (c :: G) W4 (w5.setCell ⟨c, 1, none⟩ v3) := ((Put.of_kep kV).trans (P1.mono (fun g hg => List.mem_cons_of_mem _ hg))).setCell (by simp) _
  subst hk
  refine ⟨heap_setCell_row (P1.keeps (kV.block b4) cg) (k := 1) _, ?_, ?_, ⟨l0, l1, fun g hg => ?_⟩, ?_⟩
  · refine s4.put k5 (fun g hg hm => ?_)
    rcases List.mem_cons.1 hm with h | h
    · exact s4.ne b4 (by decide) g hg h
    · rcases sr.2 with ⟨_, _, h2⟩ | ⟨bb, _, _, cur, _, h2, hbb, _⟩
      · rw [h2] at h; simp at h
      · rw [h2] at h
        obtain rfl : g = bb := by simpa using h
        exact s4.ne hbb (by decide) g hg rfl
  · refine S1.put (l := [c]) ((Put.refl _).setCell (by simp) _) (fun g hg hm => ?_)
    obtain rfl : g = c := by simpa using hm
    rcases Q1 g hg with h | h
    · exact cg h
    · have := block_lt (kV.block b4); omega
  · rcases Q1 g hg with h | h
    · exact l2 g h
    · have := K.size; have := kV.size; omega
  · refine K.put k5 (fun g hg => ?_)
    rcases List.mem_cons.1 hg with h | h
    · subst h; exact l0
    · exact l2 g h
set_option maxHeartbeats 4000000 in
set_option maxRecDepth 100000 in
theorem ltlay_any {w0 W : World} {c : Nat} {v1 v2 : Value} {L : List It} {F G : List Nat} (H : CdW w0 W c v1 v2 L F G) (h : In4) (o : In4.Ok h) (hb : bok h = true) (of pc dn ex : Int) (hB : (itB L).length ≤ 1000) (hL : L.length ≤ 1000) (hT : Tabs W) (g0 : Nat) (X : Array Value) (ty : TypeId) (hX : W.heap[g0]? = some (.cells X ty (0, 0))) (hg0 : g0 ∉ c :: F ∧ g0 ∉ G) :
    Calls Tryd.prog 24 #[.pointer (some ⟨c, 0, none⟩), .agg (insA h.1 h.2.1 h.2.2.1 h.2.2.2), .agg #[.int .i64 of, .int .u32 pc, .int .i64 dn, .int .i64 ex]] W fun e W' => e = .returned (.tuple #[]) ∧
      ∃ v1' v2' F' G', CdW w0 W' c v1' v2' (L ++ [(h, pc, dn, ex)]) F' G' ∧ W'.heap[g0]? = some (.cells X ty (0, 0)) := by
  obtain ⟨i5, hi5, hz0, hz1, hz2⟩ := info_parts lt_row
  obtain ⟨op, a, b, imm⟩ := h
  simp only at o hb ⊢
  have g := gd_of_bok o hb
  have hr : rowOf op false ≠ 0 := (may_parts (show mayB (rowOf op false) a b imm = true from hb)).1
  have hab := g.ab
  have hen := enc_bok o hb
  have hln := g.len
  simp only at hen hab
  have E : Hid (∀ w, Tabs w → Calls Tryd.prog 42 #[.agg (insA op a b imm), .bool false] w fun e w' => ∃ B : Nat, e = .returned (.tuple #[.slice (some ⟨B, 0, none⟩) (encH (op, a, b, imm)).length (encH (op, a, b, imm)).length, .int .i64 0]) ∧
      w'.ownsRow w.heap.size 5 1 (.slice (some ⟨B, 0, none⟩) (encH (op, a, b, imm)).length (encH (op, a, b, imm)).length) (encH (op, a, b, imm)).length (bs (encH (op, a, b, imm))) ∧ Kep w w') := fun w hT => by
    have := encode_ok _ (rowOf_lt op false) hr op a b imm false rfl hb w o.1.1 o.1.2 o.2.2.2.1 o.2.2.2.2 o.2.1.1 hab.1 o.2.2.1.1 hab.2 hT
    rw [hen] at this; exact this
  have H' := hidd H
  have hB' := hidd hB
  have hL' := hidd hL
  have hT' := hidd hT
  have hln' := hidd hln
  have hX' := hidd hX
  have hg' := hidd hg0
  clear hX hg0 g hr hab hen H hB hL hT hln o hb
  generalize hP : encH (op, a, b, imm) = P at E hln'
  have hP' := hidd hP
  clear hP
  obtain ⟨x2, c2, hv2, _⟩ := H'.out.sr.lies
  subst hv2
  go_enter Tryd.func24, Tryd.ntmps24
  go_upto_region 1 with fail
  obtain ⟨bi, qi⟩ : ∃ i, Hid (i = W.heap.size) := ⟨_, rfl⟩
  obtain ⟨br, qr⟩ : ∃ i, Hid (i = W.heap.size + 1) := ⟨_, rfl⟩
  obtain ⟨W1, hW1⟩ : ∃ V, Hid ((W.alloc (.cells (insA op a b imm) 43)).alloc (.cells #[.int .i64 of, .int .u32 pc, .int .i64 dn, .int .i64 ex] 41) = V) := ⟨_, rfl⟩
  rw [hW1.out, ← qr.out, ← qi.out]
  have K1 : Hid (Kep W W1) := by rw [Hid, ← hW1.out]; exact ((Kep.refl _).alloc _).alloc _
  have Bi : Hid (W1.heap[bi]? = some (.cells (insA op a b imm) 43 (0, 0))) := by rw [Hid, ← hW1.out, qi.out]; exact ((Kep.refl _).alloc _).block (hat _ _ _ rfl)
  have Br : Hid (W1.heap[br]? = some (.cells #[.int .i64 of, .int .u32 pc, .int .i64 dn, .int .i64 ex] 41 (0, 0))) := by rw [Hid, ← hW1.out, qr.out]; exact hat _ _ _ (by simp)
  have lr : Hid (W.heap.size ≤ br) := by rw [Hid, qr.out]; omega
  clear hW1 qi qr
  have e0 : W1.cell? ⟨bi, 0, none⟩ = some (.int .u8 op) := cell_of_block Bi.out
  have e1 : W1.cell? ⟨bi, 1, none⟩ = some (.int .u8 a) := cell_of_block Bi.out
  have e2 : W1.cell? ⟨bi, 2, none⟩ = some (.int .u8 b) := cell_of_block Bi.out
  have e3 : W1.cell? ⟨bi, 3, none⟩ = some (.int .i32 imm) := cell_of_block Bi.out
  go_wp2_with fail
  refine (E.out _ (hT'.out.grown K1.out)).mono ?_
  rintro e w2 ⟨B, rfl, own, k2⟩
  have K2 := hidd (kep_trans K1.out k2)
  have Br2 := hidd (k2.block Br.out)
  have own' := hidd own
  have X2 := hidd (K2.out.block hX'.out)
  clear e0 e1 e2 e3 own k2 Bi Br K1
  go_wp2_with fail
  have H2 := hidd (H'.out.kep K2.out)
  refine (ltwrite_any H2.out.box H2.out.sb H2.out.cF rfl (World.ownsRow.cells own'.out rfl) (by have := hB'.out; have := hln'.out; omega)).mono ?_
  rintro e w3 ⟨rfl, v1n, F1, b3, s3, p3, q3⟩
  have hbr2 : br < w2.heap.size := block_lt Br2.out
  have nbr : Hid (br ∉ c :: F) := fun hm => by
    have l := lr.out
    rcases List.mem_cons.1 hm with h | h
    · have := H'.out.lt.1; omega
    · have := H'.out.lt.2.1 br h; omega
  have X3 := hidd (p3.keeps X2.out hg'.out.1)
  have ng : Hid (g0 ≠ br) := fun h => by have := block_lt hX'.out; have := lr.out; omega
  have Br3 := hidd (p3.keeps Br2.out nbr.out)
  have sr3 := hidd (H2.out.sr.put p3 (fun g hg hm => by
    rcases List.mem_cons.1 hm with h | h
    · subst h; exact H2.out.cG hg
    · exact H2.out.fg g hg h))
  have K3 := hidd (H2.out.kp.put p3 (fun g hg => by
    rcases List.mem_cons.1 hg with h | h
    · subst h; exact H2.out.lo.1
    · exact H2.out.lo.2.1 g h))
  have b3' := hidd b3
  have s3' := hidd s3
  have l1 : Hid (∀ g ∈ F1, w0.heap.size ≤ g) := fun g hg => by
    rcases q3 g hg with h | h
    · exact H2.out.lo.2.1 g h
    · have := H2.out.kp.size; omega
  have l2 : Hid (c ≠ br) := fun h => nbr.out (by simp [h])
  have d0 : w3.cell? ⟨br, 0, none⟩ = some (.int .i64 of) := cell_of_block Br3.out
  have d1 : w3.frozen? ⟨br, 0, none⟩ = false := by simp [World.frozen?, Br3.out]
  clear b3 s3 p3 q3 hbr2 Br2 own' E
  go_upto_region 3 with fail
  have X4 := hidd ((heap_setCell_other w3 ⟨br, 0, none⟩ g0 (.int .i64 (itB L).length) ng.out).trans X3.out)
  have b4 := hidd ((heap_setCell_other w3 ⟨br, 0, none⟩ c (.int .i64 (itB L).length) l2.out).trans b3'.out)
  have r4 : Hid ((w3.setCell ⟨br, 0, none⟩ (.int .i64 (itB L).length)).heap[br]? = some (.cells (rwA (((itB L).length : Int), pc, dn, ex)) 41 (0, 0))) := heap_setCell_row Br3.out (k := 0) (.int .i64 (itB L).length)
  have p4 : Put [br] w3 (w3.setCell ⟨br, 0, none⟩ (.int .i64 (itB L).length)) := (Put.refl _).setCell (by simp) _
  have nb : ∀ (e : TypeId) (z : Nat) (v : Value) (n : Nat) (xs : List Value) (F : List Nat), e ≠ 41 → Sli w3 e z v n xs F → ∀ g ∈ F, g ∉ [br] := fun e z v n xs F he hs g hg hm => by
    obtain rfl : g = br := by simpa using hm
    exact hs.ne Br3.out (Ne.symm he) g hg rfl
  have s4 := hidd (s3'.out.put p4 (nb _ _ _ _ _ _ (by decide) s3'.out))
  have ngr : ∀ g ∈ G, g ∉ [br] := fun g hg hm => by
    obtain rfl : g = br := by simpa using hm
    have := H'.out.lt.2.2 g hg; have := lr.out; omega
  have sr4 := hidd (sr3.out.put p4 ngr)
  have K4 := hidd (K3.out.put p4 (fun g hg => by
    obtain rfl : g = br := by simpa using hg
    have := H'.out.kp.size; have := lr.out; omega))
  generalize w3.setCell ⟨br, 0, none⟩ (.int .i64 (itB L).length) = W4 at X4 b4 r4 s4 sr4 K4 ⊢
  clear p4 nb ngr d0 d1 Br3 sr3 K3 b3' s3'
  have cg : Hid (c ∉ G) := fun hm => (H'.out.cG hm)
  have gr : Hid (∀ g ∈ G, g ≠ br) := fun g hg h => by subst h; have := H'.out.lt.2.2 g hg; have := lr.out; omega
  refine wp_region_held_drew (S := fun w' => w'.heap[br]? = some (.cells (rwA (((itB L).length : Int), pc, dn, ex)) 41 (0, 0))) (by kernel_rfl) (r4.out) (fun hH => ?_)
  have kD := hidd ((Kep.refl W4).drew)
  generalize W4.drew = D at hH kD ⊢
  refine wpAnyH_take (i := 0) (v := .pointer (some ⟨c, 0, none⟩)) rfl (by kernel_rfl) (by kernel_rfl) (by kernel_rfl) (fun _ _ _ h => h) (.inl ⟨by rfl, by intro w hS; go_simp⟩) hH ?_
  (try simp only [jA, jB, jC, Act.put, jD, jE, jF])
  refine wpAnyH_take (i := 1) (v := .pointer (some ⟨c, 0, none⟩)) rfl (by kernel_rfl) (by kernel_rfl) (by kernel_rfl) (fun _ _ _ h => h) (.inl ⟨by rfl, by intro w hS; go_simp⟩) hH ?_
  (try simp only [jA, jB, jC, Act.put, jD, jE, jF])
  refine wpAnyH_take (i := 2) (v := .pointer (some ⟨c, 0, none⟩)) rfl (by kernel_rfl) (by kernel_rfl) (by kernel_rfl) (fun _ _ _ h => h) (.inl ⟨by rfl, by intro w hS; go_simp⟩) hH ?_
  (try simp only [jA, jB, jC, Act.put, jD, jE, jF])
  refine wpAnyH_take (i := 3) (v := .pointer (some ⟨c, 1, none⟩)) rfl (by kernel_rfl) (by kernel_rfl) (by kernel_rfl) (fun _ _ _ h => h) (.inl ⟨by rfl, by intro w hS; go_simp⟩) hH ?_
  (try simp only [jA, jB, jC, Act.put, jD, jE, jF])
  refine wpAnyH_take (i := 5) (v := .agg #[.int .i64 (itB L).length, .int .u32 pc, .int .i64 dn, .int .i64 ex]) rfl (by kernel_rfl) (by kernel_rfl) (by kernel_rfl) (fun _ _ _ h => h) (yields_row rfl 41 (.tmp 5) (by rfl) br (by rfl) 41 #[.int .i64 (itB L).length, .int .u32 pc, .int .i64 dn, .int .i64 ex] (0, 0) _ (fun w h => h) Tryd.underlying41 rfl lt_szrow) hH ?_
  (try simp only [jA, jB, jC, Act.put, jD, jE, jF])
  refine wpAnyH_ready (rs := [4, 6]) (by kernel_rfl) (by simp) ?_
  refine AllReadyH.cons rfl (fun K hK => ?_) ?_
  · skip
    rw [if_pos (by rfl)]
    have q4 : (D).cell? ⟨c, 1, none⟩ = some (.slice x2 L.length c2) := cell_of_block (kD.out.block b4.out)
    go_simp
    clear q4
    refine hK.out _ _ hH (fun hH => ?_)
    clear hK K
    (try simp only [jA, jB, jC, Act.put, jD, jE, jF])
    refine wpAnyH_ready (rs := [6]) (by kernel_rfl) (by simp) ?_
    refine AllReadyH.cons rfl (fun K hK => ?_) AllReadyH.nil
    rw [if_pos (by rfl)]
    go_simp
    obtain ⟨V, eV⟩ : ∃ V, Hid ((D).alloc (.cells #[.int .i64 (itB L).length, .int .u32 pc, .int .i64 dn, .int .i64 ex] 41) = V) := ⟨_, rfl⟩
    obtain ⟨x6, ex6⟩ : ∃ x, Hid (x = D.heap.size) := ⟨_, rfl⟩
    rw [eV.out, ← ex6.out]
    have kV : Kep W4 V := by rw [← eV.out]; exact kD.out.alloc _
    have bx6 : Hid (V.heap[x6]? = some (.cells (rwA (((itB L).length : Int), pc, dn, ex)) 41 (0, 0))) := by rw [Hid, ← eV.out]; exact hat _ _ _ ex6.out
    refine hK.out _ _ (kV.block r4.out) (fun hH => ?_)
    have kV := hidd kV
    clear hK K
    (try simp only [jA, jB, jC, Act.put, jD, jE, jF])
    refine wpAnyH_ready (rs := [7]) (by kernel_rfl) (by simp) ?_
    refine AllReadyH.cons rfl (fun K hK => ?_) AllReadyH.nil
    rw [if_pos (by rfl)]
    refine wp_append_slis (.tmp 23) (.tmp 25) 31 (by rfl) 41 i5 _ 4 32 Tryd.underlying31 hi5 hz0 hz1 hz2 (by rfl) (by decide) _ L.length (rws (itR L)) G (by rfl) (sr4.out.kep kV.out) ⟨x6, 0, none⟩ 1 1 (rwV (((itB L).length : Int), pc, dn, ex)) (by rfl) (by rfl) (World.news_of_block bx6.out) (rw_ones _) (by have := hL'.out; unfold maxLen; omega) (by have := hL'.out; omega) ?_
    intro v' w5 G1 S1 P1 Q1
    obtain ⟨x3, c3, hv', _⟩ := S1.out.lies
    subst hv'
    refine hK.out _ _ (P1.out.keeps hH (fun h => gr.out _ h rfl)) (fun hH => ?_)
    clear hK K
    (try simp only [jA, jB, jC, Act.put, jD, jE, jF])
    refine wpAnyH_take (i := 8) (v := .pointer (some ⟨c, 0, none⟩)) rfl (by kernel_rfl) (by kernel_rfl) (by kernel_rfl) (fun _ _ _ h => h) (.inl ⟨by rfl, by intro w hS; go_simp⟩) hH ?_
    (try simp only [jA, jB, jC, Act.put, jD, jE, jF])
    refine wpAnyH_take (i := 9) (v := .pointer (some ⟨c, 1, none⟩)) rfl (by kernel_rfl) (by kernel_rfl) (by kernel_rfl) (fun _ _ _ h => h) (.inl ⟨by rfl, by intro w hS; go_simp⟩) hH ?_
    (try simp only [jA, jB, jC, Act.put, jD, jE, jF])
    refine wpAnyH_ready (rs := [10]) (by kernel_rfl) (by simp) ?_
    refine AllReadyH.cons rfl (fun K hK => ?_) AllReadyH.nil
    rw [if_pos (by rfl)]
    have hc5 := P1.out.keeps (kV.out.block b4.out) cg.out
    have d1 : w5.cell? ⟨c, 1, none⟩ = some (.slice x2 L.length c2) := cell_of_block hc5
    have d2 : w5.frozen? ⟨c, 1, none⟩ = false := by simp [World.frozen?, hc5]
    go_simp
    refine hK.out _ _ ((heap_setCell_other _ ⟨c, 1, none⟩ br _ (Ne.symm l2.out)).trans hH) (fun hH => ?_)
    clear hK K
    (try simp only [jA, jB, jC, Act.put, jD, jE, jF])
    refine wpAnyH_done (by kernel_rfl) ?_ _
    go_wp2_with fail
    go_end0
    refine ⟨rfl, v1n, .slice x3 (L.length + 1) c3, F1, G1, CdW.rows b4.out ?_ sr4.out kV.out (by rw [itR_more, rws_append]; simpa [rws] using S1.out) (by simp) P1.out Q1.out H'.out.lo.1 l1.out H'.out.lo.2.2 K4.out, (heap_setCell_other w5 ⟨c, 1, none⟩ g0 _ (fun h => hg'.out.1 (by simp [h]))).trans (P1.out.keeps (kV.out.block X4.out) hg'.out.2)⟩
    rw [itB_append, itB_one, hP'.out]; exact s4.out
  refine AllReadyH.cons rfl (fun K hK => ?_) AllReadyH.nil
  rw [if_pos (by rfl)]
  go_simp
  obtain ⟨V, eV⟩ : ∃ V, Hid ((D).alloc (.cells #[.int .i64 (itB L).length, .int .u32 pc, .int .i64 dn, .int .i64 ex] 41) = V) := ⟨_, rfl⟩
  obtain ⟨x6, ex6⟩ : ∃ x, Hid (x = D.heap.size) := ⟨_, rfl⟩
  rw [eV.out, ← ex6.out]
  have kV : Kep W4 V := by rw [← eV.out]; exact kD.out.alloc _
  have bx6 : Hid (V.heap[x6]? = some (.cells (rwA (((itB L).length : Int), pc, dn, ex)) 41 (0, 0))) := by rw [Hid, ← eV.out]; exact hat _ _ _ ex6.out
  refine hK.out _ _ (kV.block r4.out) (fun hH => ?_)
  have kV := hidd kV
  clear hK K
  (try simp only [jA, jB, jC, Act.put, jD, jE, jF])
  refine wpAnyH_ready (rs := [4]) (by kernel_rfl) (by simp) ?_
  refine AllReadyH.cons rfl (fun K hK => ?_) AllReadyH.nil
  rw [if_pos (by rfl)]
  have q4 : (V).cell? ⟨c, 1, none⟩ = some (.slice x2 L.length c2) := cell_of_block (kV.out.block b4.out)
  go_simp
  clear q4
  refine hK.out _ _ hH (fun hH => ?_)
  clear hK K
  (try simp only [jA, jB, jC, Act.put, jD, jE, jF])
  refine wpAnyH_ready (rs := [7]) (by kernel_rfl) (by simp) ?_
  refine AllReadyH.cons rfl (fun K hK => ?_) AllReadyH.nil
  rw [if_pos (by rfl)]
  refine wp_append_slis (.tmp 23) (.tmp 25) 31 (by rfl) 41 i5 _ 4 32 Tryd.underlying31 hi5 hz0 hz1 hz2 (by rfl) (by decide) _ L.length (rws (itR L)) G (by rfl) (sr4.out.kep kV.out) ⟨x6, 0, none⟩ 1 1 (rwV (((itB L).length : Int), pc, dn, ex)) (by rfl) (by rfl) (World.news_of_block bx6.out) (rw_ones _) (by have := hL'.out; unfold maxLen; omega) (by have := hL'.out; omega) ?_
  intro v' w5 G1 S1 P1 Q1
  obtain ⟨x3, c3, hv', _⟩ := S1.out.lies
  subst hv'
  refine hK.out _ _ (P1.out.keeps hH (fun h => gr.out _ h rfl)) (fun hH => ?_)
  clear hK K
  (try simp only [jA, jB, jC, Act.put, jD, jE, jF])
  refine wpAnyH_take (i := 8) (v := .pointer (some ⟨c, 0, none⟩)) rfl (by kernel_rfl) (by kernel_rfl) (by kernel_rfl) (fun _ _ _ h => h) (.inl ⟨by rfl, by intro w hS; go_simp⟩) hH ?_
  (try simp only [jA, jB, jC, Act.put, jD, jE, jF])
  refine wpAnyH_take (i := 9) (v := .pointer (some ⟨c, 1, none⟩)) rfl (by kernel_rfl) (by kernel_rfl) (by kernel_rfl) (fun _ _ _ h => h) (.inl ⟨by rfl, by intro w hS; go_simp⟩) hH ?_
  (try simp only [jA, jB, jC, Act.put, jD, jE, jF])
  refine wpAnyH_ready (rs := [10]) (by kernel_rfl) (by simp) ?_
  refine AllReadyH.cons rfl (fun K hK => ?_) AllReadyH.nil
  rw [if_pos (by rfl)]
  have hc5 := P1.out.keeps (kV.out.block b4.out) cg.out
  have d1 : w5.cell? ⟨c, 1, none⟩ = some (.slice x2 L.length c2) := cell_of_block hc5
  have d2 : w5.frozen? ⟨c, 1, none⟩ = false := by simp [World.frozen?, hc5]
  go_simp
  refine hK.out _ _ ((heap_setCell_other _ ⟨c, 1, none⟩ br _ (Ne.symm l2.out)).trans hH) (fun hH => ?_)
  clear hK K
  (try simp only [jA, jB, jC, Act.put, jD, jE, jF])
  refine wpAnyH_done (by kernel_rfl) ?_ _
  go_wp2_with fail
  go_end0
  refine ⟨rfl, v1n, .slice x3 (L.length + 1) c3, F1, G1, CdW.rows b4.out ?_ sr4.out kV.out (by rw [itR_more, rws_append]; simpa [rws] using S1.out) (by simp) P1.out Q1.out H'.out.lo.1 l1.out H'.out.lo.2.2 K4.out, (heap_setCell_other w5 ⟨c, 1, none⟩ g0 _ (fun h => hg'.out.1 (by simp [h]))).trans (P1.out.keeps (kV.out.block X4.out) hg'.out.2)⟩
  rw [itB_append, itB_one, hP'.out]; exact s4.out
theorem outI_B (L : List It) (pc : Int) {dn ex : Int} (hd : 0 ≤ dn ∧ dn ≤ 255) (hx : 0 ≤ ex ∧ ex ≤ 65535) : itB (L ++ outI pc dn ex) = itB L ++ [112, dn, 113, ex % 256, ex / 256] := by
  rw [itB_append]
  unfold outI itB
  simp only [List.flatMap_cons, List.flatMap_nil, enc_tally hd.1 hd.2, enc_leave hx.1 hx.2]
  rfl
theorem outI_R (L : List It) (pc : Int) {dn ex : Int} (hd : 0 ≤ dn ∧ dn ≤ 255) (hx : 0 ≤ ex ∧ ex ≤ 65535) : itR (L ++ outI pc dn ex) = itR L ++ [(((itB L).length : Int), pc, dn, -1), (((itB L).length : Int) + 2, pc, 0, ex)] := by
  unfold itR
  rw [itRo_append]
  unfold outI
  simp only [itRo, enc_tally hd.1 hd.2, Nat.zero_add]
  rfl
set_option maxHeartbeats 4000000 in
set_option maxRecDepth 100000 in
theorem ltleave_any {w0 W : World} {c : Nat} {v1 v2 : Value} {L : List It} {F G : List Nat} (H : CdW w0 W c v1 v2 L F G) (pc dn ex : Int) (hd : 0 ≤ dn ∧ dn ≤ 255) (hx : 0 ≤ ex ∧ ex ≤ 65535) (hB : (itB L).length ≤ 1000) (hL : L.length ≤ 1000) (hT : Tabs w0) :
    Calls Tryd.prog 25 #[.pointer (some ⟨c, 0, none⟩), .int .u32 pc, .int .i64 dn, .int .i64 ex] W fun e W' => e = .returned (.tuple #[]) ∧
      ∃ v1' v2' F' G', CdW w0 W' c v1' v2' (L ++ outI pc dn ex) F' G' := by
  obtain ⟨i5, hi5, hz0, hz1, hz2⟩ := info_parts lt_row
  have H' := hidd H
  have hB' := hidd hB
  have hL' := hidd hL
  have hT' := hidd hT
  have hd' := hidd hd
  have hx' := hidd hx
  clear H hB hL hT hd hx
  obtain ⟨x2, c2, hv2, _⟩ := H'.out.sr.lies
  subst hv2
  go_enter Tryd.func25, Tryd.ntmps25
  go_wp2_with fail
  refine (ststub_ok dn ex hd'.out.1 hd'.out.2 hx'.out.1 hx'.out.2 W (hT'.out.grown H'.out.kp)).mono ?_
  rintro e w2 ⟨B, cB, rfl, own, k2⟩
  have K2 := hidd k2
  have own' := hidd own
  clear own k2
  go_wp2_with fail
  have H2 := hidd (H'.out.kep K2.out)
  refine (ltwrite_any (P := [112, dn, 113, ex % 256, ex / 256]) H2.out.box H2.out.sb H2.out.cF rfl (World.ownsRow.cells own'.out rfl) (by have := hB'.out; show _ + 5 ≤ 100000; omega)).mono ?_
  rintro e W4 ⟨rfl, v1n, F1, b3, s3, p3, q3⟩
  have nT : ∀ g ∈ c :: F, W.heap.size ≤ g ∨ w0.heap.size ≤ g := fun g hg => by
    rcases List.mem_cons.1 hg with h | h
    · subst h; exact .inr H2.out.lo.1
    · exact .inr (H2.out.lo.2.1 g h)
  have sr4 := hidd (H2.out.sr.put p3 (fun g hg hm => by
    rcases List.mem_cons.1 hm with h | h
    · subst h; exact H2.out.cG hg
    · exact H2.out.fg g hg h))
  have K4 := hidd (H2.out.kp.put p3 (fun g hg => by
    rcases List.mem_cons.1 hg with h | h
    · subst h; exact H2.out.lo.1
    · exact H2.out.lo.2.1 g h))
  have T4 := hidd (hT'.out.grown K4.out)
  have b4 := hidd b3
  have s4 := hidd s3
  have l1 : Hid (∀ g ∈ F1, w0.heap.size ≤ g) := fun g hg => by
    rcases q3 g hg with h | h
    · exact H2.out.lo.2.1 g h
    · have := H2.out.kp.size; omega
  have cg : Hid (c ∉ G) := fun hm => (H'.out.cG hm)
  have SZ : Hid (∀ w, Kep W4 w → Calls Tryd.prog 45 #[.int .u8 112, .bool true] w fun e w' => e = .returned (.int .i64 2) ∧ Kep w w') := fun w k => bytes_any 112 true w (by decide) (by decide) (T4.out.grown k)
  have wr2 : Hid (IntKind.i64.wrap (((itB L).length : Int) + 2) = ((itB L).length : Int) + 2) := by have := hB'.out; rw [Hid]; unfold IntKind.wrap; simp [IntKind.signed, IntKind.bits]; omega
  clear b3 s3 p3 q3 own' nT
  go_upto_region 2 with fail
  refine wp_region_held_drew (S := fun w' => True) (by kernel_rfl) (trivial) (fun hH => ?_)
  have kD := hidd ((Kep.refl W4).drew)
  generalize W4.drew = D at hH kD ⊢
  refine wpAnyH_take (i := 0) (v := .pointer (some ⟨c, 0, none⟩)) rfl (by kernel_rfl) (by kernel_rfl) (by kernel_rfl) (fun _ _ _ h => h) (.inl ⟨by rfl, by intro w hS; go_simp⟩) hH ?_
  (try simp only [jA, jB, jC, Act.put, jD, jE, jF])
  refine wpAnyH_take (i := 1) (v := .pointer (some ⟨c, 0, none⟩)) rfl (by kernel_rfl) (by kernel_rfl) (by kernel_rfl) (fun _ _ _ h => h) (.inl ⟨by rfl, by intro w hS; go_simp⟩) hH ?_
  (try simp only [jA, jB, jC, Act.put, jD, jE, jF])
  refine wpAnyH_take (i := 2) (v := .pointer (some ⟨c, 0, none⟩)) rfl (by kernel_rfl) (by kernel_rfl) (by kernel_rfl) (fun _ _ _ h => h) (.inl ⟨by rfl, by intro w hS; go_simp⟩) hH ?_
  (try simp only [jA, jB, jC, Act.put, jD, jE, jF])
  refine wpAnyH_take (i := 3) (v := .pointer (some ⟨c, 1, none⟩)) rfl (by kernel_rfl) (by kernel_rfl) (by kernel_rfl) (fun _ _ _ h => h) (.inl ⟨by rfl, by intro w hS; go_simp⟩) hH ?_
  (try simp only [jA, jB, jC, Act.put, jD, jE, jF])
  refine wpAnyH_take (i := 5) (v := .int .i64 (itB L).length) rfl (by kernel_rfl) (by kernel_rfl) (by kernel_rfl) (fun _ _ _ h => h) (.inl ⟨by rfl, by intro w hS; go_simp⟩) hH ?_
  (try simp only [jA, jB, jC, Act.put, jD, jE, jF])
  refine wpAnyH_take (i := 6) (v := .int .u32 pc) rfl (by kernel_rfl) (by kernel_rfl) (by kernel_rfl) (fun _ _ _ h => h) (.inl ⟨by rfl, by intro w hS; go_simp⟩) hH ?_
  (try simp only [jA, jB, jC, Act.put, jD, jE, jF])
  refine wpAnyH_take (i := 7) (v := .int .i64 dn) rfl (by kernel_rfl) (by kernel_rfl) (by kernel_rfl) (fun _ _ _ h => h) (.inl ⟨by rfl, by intro w hS; go_simp⟩) hH ?_
  (try simp only [jA, jB, jC, Act.put, jD, jE, jF])
  refine wpAnyH_take (i := 8) (v := .agg #[.int .i64 (itB L).length, .int .u32 pc, .int .i64 dn, .int .i64 (-1)]) rfl (by kernel_rfl) (by kernel_rfl) (by kernel_rfl) (fun _ _ _ h => h) (.inl ⟨by rfl, by intro w hS; go_simp⟩) hH ?_
  (try simp only [jA, jB, jC, Act.put, jD, jE, jF])
  refine wpAnyH_take (i := 9) (v := .int .i64 (itB L).length) rfl (by kernel_rfl) (by kernel_rfl) (by kernel_rfl) (fun _ _ _ h => h) (.inl ⟨by rfl, by intro w hS; go_simp⟩) hH ?_
  (try simp only [jA, jB, jC, Act.put, jD, jE, jF])
  refine wpAnyH_take (i := 12) (v := .int .u32 pc) rfl (by kernel_rfl) (by kernel_rfl) (by kernel_rfl) (fun _ _ _ h => h) (.inl ⟨by rfl, by intro w hS; go_simp⟩) hH ?_
  (try simp only [jA, jB, jC, Act.put, jD, jE, jF])
  refine wpAnyH_take (i := 13) (v := .int .i64 ex) rfl (by kernel_rfl) (by kernel_rfl) (by kernel_rfl) (fun _ _ _ h => h) (.inl ⟨by rfl, by intro w hS; go_simp⟩) hH ?_
  (try simp only [jA, jB, jC, Act.put, jD, jE, jF])
  refine wpAnyH_ready (rs := [4, 10]) (by kernel_rfl) (by simp) ?_
  refine AllReadyH.cons rfl (fun K hK => ?_) ?_
  · skip
    rw [if_pos (by rfl)]
    have q4 : (D).cell? ⟨c, 1, none⟩ = some (.slice x2 L.length c2) := cell_of_block (kD.out.block b4.out)
    go_simp
    clear q4
    refine hK.out _ _ trivial (fun hH => ?_)
    clear hK K
    (try simp only [jA, jB, jC, Act.put, jD, jE, jF])
    refine wpAnyH_ready (rs := [10]) (by kernel_rfl) (by simp) ?_
    refine AllReadyH.cons rfl (fun K hK => ?_) AllReadyH.nil
    rw [if_pos (by rfl)]
    go_simp
    refine (SZ.out _ kD.out).mono ?_
    rintro x w5 ⟨rfl, k5⟩
    have k5 := hidd (kep_trans kD.out k5)
    refine hK.out _ _ trivial (fun hH => ?_)
    clear hK K
    (try simp only [jA, jB, jC, Act.put, jD, jE, jF])
    refine wpAnyH_take (i := 11) (v := .int .i64 (((itB L).length : Int) + 2)) rfl (by kernel_rfl) (by kernel_rfl) (by kernel_rfl) (fun _ _ _ h => h) (.inl ⟨by rfl, by intro w hS; have hb := wr2.out; go_simp⟩) hH ?_
    (try simp only [jA, jB, jC, Act.put, jD, jE, jF])
    refine wpAnyH_take (i := 14) (v := .agg #[.int .i64 (((itB L).length : Int) + 2), .int .u32 pc, .int .i64 0, .int .i64 ex]) rfl (by kernel_rfl) (by kernel_rfl) (by kernel_rfl) (fun _ _ _ h => h) (.inl ⟨by rfl, by intro w hS; go_simp⟩) hH ?_
    (try simp only [jA, jB, jC, Act.put, jD, jE, jF])
    refine wpAnyH_ready (rs := [15]) (by kernel_rfl) (by simp) ?_
    refine AllReadyH.cons rfl (fun K hK => ?_) AllReadyH.nil
    rw [if_pos (by rfl)]
    go_simp
    obtain ⟨V, eV⟩ : ∃ V, Hid ((w5).alloc (.cells #[.int .i64 (itB L).length, .int .u32 pc, .int .i64 dn, .int .i64 (-1), .int .i64 (((itB L).length : Int) + 2), .int .u32 pc, .int .i64 0, .int .i64 ex] 41) = V) := ⟨_, rfl⟩
    obtain ⟨x6, ex6⟩ : ∃ x, Hid (x = w5.heap.size) := ⟨_, rfl⟩
    rw [eV.out, ← ex6.out]
    have kV : Kep W4 V := by rw [← eV.out]; exact k5.out.alloc _
    have kV := hidd kV
    have bx6 : Hid (V.heap[x6]? = some (.cells #[.int .i64 (itB L).length, .int .u32 pc, .int .i64 dn, .int .i64 (-1), .int .i64 (((itB L).length : Int) + 2), .int .u32 pc, .int .i64 0, .int .i64 ex] 41 (0, 0))) := by rw [Hid, ← eV.out]; exact hat _ _ _ ex6.out
    refine hK.out _ _ trivial (fun hH => ?_)
    clear hK K
    (try simp only [jA, jB, jC, Act.put, jD, jE, jF])
    refine wpAnyH_ready (rs := [16]) (by kernel_rfl) (by simp) ?_
    refine AllReadyH.cons rfl (fun K hK => ?_) AllReadyH.nil
    rw [if_pos (by rfl)]
    refine wp_append_slis (.tmp 26) (.tmp 37) 31 (by rfl) 41 i5 _ 4 32 Tryd.underlying31 hi5 hz0 hz1 hz2 (by rfl) (by decide) _ L.length (rws (itR L)) G (by rfl) (sr4.out.kep kV.out) ⟨x6, 0, none⟩ 2 2 (rws [(((itB L).length : Int), pc, dn, -1), (((itB L).length : Int) + 2, pc, 0, ex)]) (by rfl) (by rfl) (World.news_of_block bx6.out) (rws_ones _) (by have := hL'.out; unfold maxLen; omega) (by have := hL'.out; omega) ?_
    intro v' w6 G1 S1 P1 Q1
    obtain ⟨x3, c3, hv', _⟩ := S1.out.lies
    subst hv'
    refine hK.out _ _ trivial (fun hH => ?_)
    clear hK K
    (try simp only [jA, jB, jC, Act.put, jD, jE, jF])
    refine wpAnyH_take (i := 17) (v := .pointer (some ⟨c, 0, none⟩)) rfl (by kernel_rfl) (by kernel_rfl) (by kernel_rfl) (fun _ _ _ h => h) (.inl ⟨by rfl, by intro w hS; go_simp⟩) hH ?_
    (try simp only [jA, jB, jC, Act.put, jD, jE, jF])
    refine wpAnyH_take (i := 18) (v := .pointer (some ⟨c, 1, none⟩)) rfl (by kernel_rfl) (by kernel_rfl) (by kernel_rfl) (fun _ _ _ h => h) (.inl ⟨by rfl, by intro w hS; go_simp⟩) hH ?_
    (try simp only [jA, jB, jC, Act.put, jD, jE, jF])
    refine wpAnyH_ready (rs := [19]) (by kernel_rfl) (by simp) ?_
    refine AllReadyH.cons rfl (fun K hK => ?_) AllReadyH.nil
    rw [if_pos (by rfl)]
    have hc5 := P1.out.keeps (kV.out.block b4.out) cg.out
    have d1 : w6.cell? ⟨c, 1, none⟩ = some (.slice x2 L.length c2) := cell_of_block hc5
    have d2 : w6.frozen? ⟨c, 1, none⟩ = false := by simp [World.frozen?, hc5]
    go_simp
    refine hK.out _ _ trivial (fun hH => ?_)
    clear hK K
    (try simp only [jA, jB, jC, Act.put, jD, jE, jF])
    refine wpAnyH_done (by kernel_rfl) ?_ _
    go_wp2_with fail
    go_end0
    refine ⟨rfl, v1n, .slice x3 (L.length + 2) c3, F1, G1, CdW.rows b4.out ?_ sr4.out kV.out (by rw [outI_R L pc hd'.out hx'.out, rws_append]; exact S1.out) (by simp [outI]) P1.out Q1.out H'.out.lo.1 l1.out H'.out.lo.2.2 K4.out⟩
    rw [outI_B L pc hd'.out hx'.out]; exact s4.out
  refine AllReadyH.cons rfl (fun K hK => ?_) AllReadyH.nil
  rw [if_pos (by rfl)]
  go_simp
  refine (SZ.out _ kD.out).mono ?_
  rintro x w5 ⟨rfl, k5⟩
  have k5 := hidd (kep_trans kD.out k5)
  refine hK.out _ _ trivial (fun hH => ?_)
  clear hK K
  (try simp only [jA, jB, jC, Act.put, jD, jE, jF])
  refine wpAnyH_take (i := 11) (v := .int .i64 (((itB L).length : Int) + 2)) rfl (by kernel_rfl) (by kernel_rfl) (by kernel_rfl) (fun _ _ _ h => h) (.inl ⟨by rfl, by intro w hS; have hb := wr2.out; go_simp⟩) hH ?_
  (try simp only [jA, jB, jC, Act.put, jD, jE, jF])
  refine wpAnyH_take (i := 14) (v := .agg #[.int .i64 (((itB L).length : Int) + 2), .int .u32 pc, .int .i64 0, .int .i64 ex]) rfl (by kernel_rfl) (by kernel_rfl) (by kernel_rfl) (fun _ _ _ h => h) (.inl ⟨by rfl, by intro w hS; go_simp⟩) hH ?_
  (try simp only [jA, jB, jC, Act.put, jD, jE, jF])
  refine wpAnyH_ready (rs := [4, 15]) (by kernel_rfl) (by simp) ?_
  refine AllReadyH.cons rfl (fun K hK => ?_) ?_
  · skip
    rw [if_pos (by rfl)]
    have q4 : (w5).cell? ⟨c, 1, none⟩ = some (.slice x2 L.length c2) := cell_of_block (k5.out.block b4.out)
    go_simp
    clear q4
    refine hK.out _ _ trivial (fun hH => ?_)
    clear hK K
    (try simp only [jA, jB, jC, Act.put, jD, jE, jF])
    refine wpAnyH_ready (rs := [15]) (by kernel_rfl) (by simp) ?_
    refine AllReadyH.cons rfl (fun K hK => ?_) AllReadyH.nil
    rw [if_pos (by rfl)]
    go_simp
    obtain ⟨V, eV⟩ : ∃ V, Hid ((w5).alloc (.cells #[.int .i64 (itB L).length, .int .u32 pc, .int .i64 dn, .int .i64 (-1), .int .i64 (((itB L).length : Int) + 2), .int .u32 pc, .int .i64 0, .int .i64 ex] 41) = V) := ⟨_, rfl⟩
    obtain ⟨x6, ex6⟩ : ∃ x, Hid (x = w5.heap.size) := ⟨_, rfl⟩
    rw [eV.out, ← ex6.out]
    have kV : Kep W4 V := by rw [← eV.out]; exact k5.out.alloc _
    have kV := hidd kV
    have bx6 : Hid (V.heap[x6]? = some (.cells #[.int .i64 (itB L).length, .int .u32 pc, .int .i64 dn, .int .i64 (-1), .int .i64 (((itB L).length : Int) + 2), .int .u32 pc, .int .i64 0, .int .i64 ex] 41 (0, 0))) := by rw [Hid, ← eV.out]; exact hat _ _ _ ex6.out
    refine hK.out _ _ trivial (fun hH => ?_)
    clear hK K
    (try simp only [jA, jB, jC, Act.put, jD, jE, jF])
    refine wpAnyH_ready (rs := [16]) (by kernel_rfl) (by simp) ?_
    refine AllReadyH.cons rfl (fun K hK => ?_) AllReadyH.nil
    rw [if_pos (by rfl)]
    refine wp_append_slis (.tmp 26) (.tmp 37) 31 (by rfl) 41 i5 _ 4 32 Tryd.underlying31 hi5 hz0 hz1 hz2 (by rfl) (by decide) _ L.length (rws (itR L)) G (by rfl) (sr4.out.kep kV.out) ⟨x6, 0, none⟩ 2 2 (rws [(((itB L).length : Int), pc, dn, -1), (((itB L).length : Int) + 2, pc, 0, ex)]) (by rfl) (by rfl) (World.news_of_block bx6.out) (rws_ones _) (by have := hL'.out; unfold maxLen; omega) (by have := hL'.out; omega) ?_
    intro v' w6 G1 S1 P1 Q1
    obtain ⟨x3, c3, hv', _⟩ := S1.out.lies
    subst hv'
    refine hK.out _ _ trivial (fun hH => ?_)
    clear hK K
    (try simp only [jA, jB, jC, Act.put, jD, jE, jF])
    refine wpAnyH_take (i := 17) (v := .pointer (some ⟨c, 0, none⟩)) rfl (by kernel_rfl) (by kernel_rfl) (by kernel_rfl) (fun _ _ _ h => h) (.inl ⟨by rfl, by intro w hS; go_simp⟩) hH ?_
    (try simp only [jA, jB, jC, Act.put, jD, jE, jF])
    refine wpAnyH_take (i := 18) (v := .pointer (some ⟨c, 1, none⟩)) rfl (by kernel_rfl) (by kernel_rfl) (by kernel_rfl) (fun _ _ _ h => h) (.inl ⟨by rfl, by intro w hS; go_simp⟩) hH ?_
    (try simp only [jA, jB, jC, Act.put, jD, jE, jF])
    refine wpAnyH_ready (rs := [19]) (by kernel_rfl) (by simp) ?_
    refine AllReadyH.cons rfl (fun K hK => ?_) AllReadyH.nil
    rw [if_pos (by rfl)]
    have hc5 := P1.out.keeps (kV.out.block b4.out) cg.out
    have d1 : w6.cell? ⟨c, 1, none⟩ = some (.slice x2 L.length c2) := cell_of_block hc5
    have d2 : w6.frozen? ⟨c, 1, none⟩ = false := by simp [World.frozen?, hc5]
    go_simp
    refine hK.out _ _ trivial (fun hH => ?_)
    clear hK K
    (try simp only [jA, jB, jC, Act.put, jD, jE, jF])
    refine wpAnyH_done (by kernel_rfl) ?_ _
    go_wp2_with fail
    go_end0
    refine ⟨rfl, v1n, .slice x3 (L.length + 2) c3, F1, G1, CdW.rows b4.out ?_ sr4.out kV.out (by rw [outI_R L pc hd'.out hx'.out, rws_append]; exact S1.out) (by simp [outI]) P1.out Q1.out H'.out.lo.1 l1.out H'.out.lo.2.2 K4.out⟩
    rw [outI_B L pc hd'.out hx'.out]; exact s4.out
  refine AllReadyH.cons rfl (fun K hK => ?_) AllReadyH.nil
  rw [if_pos (by rfl)]
  go_simp
  obtain ⟨V, eV⟩ : ∃ V, Hid ((w5).alloc (.cells #[.int .i64 (itB L).length, .int .u32 pc, .int .i64 dn, .int .i64 (-1), .int .i64 (((itB L).length : Int) + 2), .int .u32 pc, .int .i64 0, .int .i64 ex] 41) = V) := ⟨_, rfl⟩
  obtain ⟨x6, ex6⟩ : ∃ x, Hid (x = w5.heap.size) := ⟨_, rfl⟩
  rw [eV.out, ← ex6.out]
  have kV : Kep W4 V := by rw [← eV.out]; exact k5.out.alloc _
  have kV := hidd kV
  have bx6 : Hid (V.heap[x6]? = some (.cells #[.int .i64 (itB L).length, .int .u32 pc, .int .i64 dn, .int .i64 (-1), .int .i64 (((itB L).length : Int) + 2), .int .u32 pc, .int .i64 0, .int .i64 ex] 41 (0, 0))) := by rw [Hid, ← eV.out]; exact hat _ _ _ ex6.out
  refine hK.out _ _ trivial (fun hH => ?_)
  clear hK K
  (try simp only [jA, jB, jC, Act.put, jD, jE, jF])
  refine wpAnyH_ready (rs := [4]) (by kernel_rfl) (by simp) ?_
  refine AllReadyH.cons rfl (fun K hK => ?_) AllReadyH.nil
  rw [if_pos (by rfl)]
  have q4 : (V).cell? ⟨c, 1, none⟩ = some (.slice x2 L.length c2) := cell_of_block (kV.out.block b4.out)
  go_simp
  clear q4
  refine hK.out _ _ trivial (fun hH => ?_)
  clear hK K
  (try simp only [jA, jB, jC, Act.put, jD, jE, jF])
  refine wpAnyH_ready (rs := [16]) (by kernel_rfl) (by simp) ?_
  refine AllReadyH.cons rfl (fun K hK => ?_) AllReadyH.nil
  rw [if_pos (by rfl)]
  refine wp_append_slis (.tmp 26) (.tmp 37) 31 (by rfl) 41 i5 _ 4 32 Tryd.underlying31 hi5 hz0 hz1 hz2 (by rfl) (by decide) _ L.length (rws (itR L)) G (by rfl) (sr4.out.kep kV.out) ⟨x6, 0, none⟩ 2 2 (rws [(((itB L).length : Int), pc, dn, -1), (((itB L).length : Int) + 2, pc, 0, ex)]) (by rfl) (by rfl) (World.news_of_block bx6.out) (rws_ones _) (by have := hL'.out; unfold maxLen; omega) (by have := hL'.out; omega) ?_
  intro v' w6 G1 S1 P1 Q1
  obtain ⟨x3, c3, hv', _⟩ := S1.out.lies
  subst hv'
  refine hK.out _ _ trivial (fun hH => ?_)
  clear hK K
  (try simp only [jA, jB, jC, Act.put, jD, jE, jF])
  refine wpAnyH_take (i := 17) (v := .pointer (some ⟨c, 0, none⟩)) rfl (by kernel_rfl) (by kernel_rfl) (by kernel_rfl) (fun _ _ _ h => h) (.inl ⟨by rfl, by intro w hS; go_simp⟩) hH ?_
  (try simp only [jA, jB, jC, Act.put, jD, jE, jF])
  refine wpAnyH_take (i := 18) (v := .pointer (some ⟨c, 1, none⟩)) rfl (by kernel_rfl) (by kernel_rfl) (by kernel_rfl) (fun _ _ _ h => h) (.inl ⟨by rfl, by intro w hS; go_simp⟩) hH ?_
  (try simp only [jA, jB, jC, Act.put, jD, jE, jF])
  refine wpAnyH_ready (rs := [19]) (by kernel_rfl) (by simp) ?_
  refine AllReadyH.cons rfl (fun K hK => ?_) AllReadyH.nil
  rw [if_pos (by rfl)]
  have hc5 := P1.out.keeps (kV.out.block b4.out) cg.out
  have d1 : w6.cell? ⟨c, 1, none⟩ = some (.slice x2 L.length c2) := cell_of_block hc5
  have d2 : w6.frozen? ⟨c, 1, none⟩ = false := by simp [World.frozen?, hc5]
  go_simp
  refine hK.out _ _ trivial (fun hH => ?_)
  clear hK K
  (try simp only [jA, jB, jC, Act.put, jD, jE, jF])
  refine wpAnyH_done (by kernel_rfl) ?_ _
  go_wp2_with fail
  go_end0
  refine ⟨rfl, v1n, .slice x3 (L.length + 2) c3, F1, G1, CdW.rows b4.out ?_ sr4.out kV.out (by rw [outI_R L pc hd'.out hx'.out, rws_append]; exact S1.out) (by simp [outI]) P1.out Q1.out H'.out.lo.1 l1.out H'.out.lo.2.2 K4.out⟩
  rw [outI_B L pc hd'.out hx'.out]; exact s4.out
end Go.Proofs.YtpalbpjmjbcelaaDoor
