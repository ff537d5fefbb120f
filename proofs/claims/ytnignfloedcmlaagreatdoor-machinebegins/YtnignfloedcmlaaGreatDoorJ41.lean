/- Part of a proof. -/
import Derived.Test.YtnignfloedcmlaaGreatDoorJ40
namespace Go.Proofs.YtnignfloedcmlaaGreatDoor
open Go.RowKit
set_option linter.unusedVariables false
set_option linter.unusedSimpArgs false
theorem mat_mem {w w' : World} {p pm R : Nat} {ix : List Nat} {x : MS} {q : Nat} {vn : Value} {Fd Fn : List Nat} (h : MAt w p pm R ix x q vn Fd Fn) {C : List Int} (k : Put [R] w w') (hC : RowB w' R C) (hl : C.length = x.B.length) (hb : Byts C) : MAt w' p pm R ix ⟨x.d, C, x.s, x.n, x.N⟩ q vn Fd Fn := by
  have hR := h.far.row
  have ne : ∀ g ∈ p :: (Fd ++ Fn), g ∉ [R] := fun g hg hm => by obtain rfl : g = R := by simpa using hm
                                                                exact hR hg
  have ho := h.mem.ram.offR
  exact ⟨h.box.put k (ne p (by simp)), h.dev.put k (fun g hg => ne g (by simp [hg])), h.nts.put k (fun g hg => ne g (by simp [hg])), h.mem.turn k ho hC hl hb, ⟨Off.stay h.mem.ram h.far.off k ho, hR⟩, h.pd, h.pn, h.dn, h.lo⟩
theorem mat_dev {w w' : World} {p pm R : Nat} {ix : List Nat} {x : MS} {q : Nat} {vn : Value} {Fd Fn Fd' : List Nat} (h : MAt w p pm R ix x q vn Fd Fn) (hB : x.B ≠ []) {d : DS} (k : Put Fd w w') (D : Dev w' q d Fd') (hF : ∀ g ∈ Fd', g ∈ Fd ∨ w.heap.size ≤ g) : MAt w' p pm R ix ⟨d, x.B, x.s, x.n, x.N⟩ q vn Fd' Fn := by
  have lp := h.box.lt
  have ho : Off w (mpt pm) Fd := h.far.off.sub (fun g hg => by simp [hg])
  have hR : R ∉ Fd := fun hm => h.far.row (by simp [hm])
  have fr := h.far.more (m := p :: (Fd' ++ Fn)) h.mem hB (fun g hg => by
    simp only [List.mem_cons, List.mem_append] at hg ⊢
    rcases hg with h1 | h1 | h1
    · exact .inl (.inl h1)
    · rcases hF g h1 with h2 | h2
      · exact .inl (.inr (.inl h2))
      · exact .inr h2
    · exact .inl (.inr (.inr h1)))
  refine ⟨h.box.put k h.pd, D, h.nts.put k (fun g hg hm => h.dn g hm hg), h.mem.put k ho hR, ⟨Off.stay h.mem.ram fr.off k ho, fr.row⟩, fun hm => ?_, h.pn, fun g hg hm => ?_, fun g hg => ?_⟩
  · rcases hF p hm with h2 | h2
    · exact h.pd h2
    · omega
  · rcases hF g hg with h2 | h2
    · exact h.dn g h2 hm
    · have := h.nts.lt g hm; omega
  · simp only [List.mem_cons, List.mem_append] at hg
    rcases hg with rfl | rfl | h1 | h1
    · exact h.lo g (by simp)
    · exact h.lo g (by simp)
    · rcases hF g h1 with h2 | h2
      · exact h.lo g (by simp [h2])
      · have := h.lo p (by simp); omega
    · exact h.lo g (by simp [h1])
theorem mat_box {w w' : World} {p pm R : Nat} {ix : List Nat} {x : MS} {q : Nat} {vn : Value} {Fd Fn : List Nat} (h : MAt w p pm R ix x q vn Fd Fn) (hB : x.B ≠ []) {t : Sta} {m : Int} (k : Put [p] w w') (bx : Bx w' p (mpt pm) (mpt q) t m vn) : MAt w' p pm R ix ⟨x.d, x.B, t, m, x.N⟩ q vn Fd Fn := by
  have hn : ∀ g ∈ Fn, g ∉ [p] := fun g hg hm => by obtain rfl : g = p := by simpa using hm
                                                   exact h.pn hg
  exact mat_noted h hB (k.mono (by simp)) bx (h.nts.put k hn) (fun g hg => .inl hg)
theorem readS_ok {d : DS} (h : d.Ok) (port : Int) : (readS d port).Ok := by
  unfold readS; split
  · exact ⟨h.b, h.m, by have := h.q; simp; omega, fun b hb => h.qb b (List.drop_subset _ _ hb), h.d, h.d6, h.db, h.n, h.a, h.f, h.t, h.cmd, h.ev⟩
  · exact h
theorem readS_O (d : DS) (port : Int) : (readS d port).O = d.O := by unfold readS; split <;> rfl
theorem ne_len {B C : List Int} (h : C.length = B.length) (hB : B ≠ []) : C ≠ [] := fun e => by
  rw [e] at h
  exact hB (List.eq_nil_of_length_eq_zero (by simpa using h.symm))
def rdD (d : DS) (rd : Bool) (port : Int) : DS := match rd with | true => readS d port | false => d
def wrD (d : DS) (wr : Bool) (port value : Int) : DS := match wr with | true => writeS d port value | false => d
theorem finD_is (d : DS) (rd wr : Bool) (port value : Int) : finD d rd wr port value = wrD (rdD d rd port) wr port value := by cases rd <;> cases wr <;> rfl
def Fsu (W : World) (p pm R : Nat) (ix : List Nat) (q : Nat) (vn : Value) (Fd Fn : List Nat) (sb : Nat) (S : Array Value) (y : MS) (wx : World) : Prop :=
  ∃ Fd', MAt wx p pm R ix y q vn Fd' Fn ∧ wx.heap[sb]? = some (.cells S 140 (0, 0)) ∧ Put (R :: (p :: (Fd ++ Fn))) W wx ∧ ∀ g ∈ Fd', g ∈ Fd ∨ W.heap.size ≤ g
theorem suc_cells {w : World} {g : Nat} {t : Sta} {q : Int × Int × Int × Int} {at_ : Int} {rd wr : Bool} {port value : Int} (h : w.heap[g]? = some (.cells (sucV t q at_ rd wr port value) 140 (0, 0))) :
    w.cell? ⟨g, 19, none⟩ = some (.int .i64 q.1) ∧ w.cell? ⟨g, 20, none⟩ = some (.int .u32 q.2.1) ∧ w.cell? ⟨g, 21, none⟩ = some (.int .i64 q.2.2.1) ∧ w.cell? ⟨g, 22, none⟩ = some (.int .u32 q.2.2.2) ∧ w.cell? ⟨g, 23, none⟩ = some (.int .u32 at_) ∧ w.cell? ⟨g, 24, none⟩ = some (.bool rd) ∧ w.cell? ⟨g, 25, none⟩ = some (.bool wr) ∧ w.cell? ⟨g, 26, none⟩ = some (.int .i64 port) ∧ w.cell? ⟨g, 27, none⟩ = some (.int .u32 value) :=
  ⟨cell_of_block h, cell_of_block h, cell_of_block h, cell_of_block h, cell_of_block h, cell_of_block h, cell_of_block h, cell_of_block h, cell_of_block h⟩
theorem suc_next {w : World} {g : Nat} {t : Sta} {q : Int × Int × Int × Int} {at_ : Int} {rd wr : Bool} {port value : Int} (h : w.heap[g]? = some (.cells (sucV t q at_ rd wr port value) 140 (0, 0))) : w.rangeAt g 0 t.v.toList := fun j v hv => by
  have hj : j < t.v.toList.length := (List.getElem?_eq_some_iff.1 hv).1
  have e : (sucV t q at_ rd wr port value).toList = t.v.toList ++ [.int .i64 q.1, .int .u32 q.2.1, .int .i64 q.2.2.1, .int .u32 q.2.2.2, .int .u32 at_, .bool rd, .bool wr, .int .i64 port, .int .u32 value] := rfl
  rw [cell_of_block h, ← Array.getElem?_toList, e, Nat.zero_add, List.getElem?_append_left hj, hv]
theorem load_sta {ops : Array Oper} {rest : List Oper} {op : Oper} {a : Act} {w : World} {Q : Exit → Act → World → Prop} (hgd : op.guard = none) (x : Operand) (ho : op.op = .load 26 x)
    (b o : Nat) (hx : a.eval x = .pointer (some ⟨b, o, none⟩)) (s : Sta) (hc : w.rangeAt b o s.v.toList)
    (h : wpList Tryz.prog ops Q rest (a.put op.dst (.agg s.v)) w) : wpList Tryz.prog ops Q (op :: rest) a w :=
  wpList_load_mid hgd 26 x ho b o hx s.v.toList _ hc Tryz.underlying26 rfl size_sta h
set_option maxHeartbeats 16000000 in
set_option maxRecDepth 100000 in
theorem finish_suc {w : World} {p pm R : Nat} {ix : List Nat} {x : MS} {q : Nat} {vn : Value} {Fd Fn : List Nat} (H : MAt w p pm R ix x q vn Fd Fn) (ok : x.Ok) (rm : Room 1 x) (t : Sta) (kd ad vl : Int) (m : Nat) (at_ : Nat) (rd wr : Bool) (port value : Int) (ha : 0 ≤ ad ∧ ad < 4294967296) (hm : m ≤ 4) (hv : 0 ≤ vl ∧ vl < 4294967296) (hat_ : at_ ≤ 64 * ix.length) (hx : 0 ≤ value ∧ value < 4294967296) :
    Calls Tryz.prog 71 #[.pointer (some ⟨p, 0, none⟩), .agg (sucV t (kd, ad, (m : Int), vl) at_ rd wr port value)] w fun e w' => e = .returned (.tuple #[]) ∧ ∃ Fd', MAt w' p pm R ix (endX x ix (.ok t (kd, ad, (m : Int), vl) at_ rd wr port value)) q vn Fd' Fn ∧ Put (R :: (p :: (Fd ++ Fn))) w w' ∧ ∀ g ∈ Fd', g ∈ Fd ∨ w.heap.size ≤ g := by
  have hpR : p ≠ R := fun e => H.far.row (by simp [e])
  obtain ⟨S, hS⟩ : ∃ S, Hid (sucV t (kd, ad, (m : Int), vl) at_ rd wr port value = S) := ⟨_, rfl⟩
  rw [hS.out]
  obtain ⟨W, hW⟩ : ∃ W, Hid (w.alloc (.cells S 140) = W) := ⟨_, rfl⟩
  have KW : Hid (Kep w W) := by rw [Hid, ← hW.out]; exact (Kep.refl w).alloc _
  have SW0 : Hid (W.heap[w.heap.size]? = some (.cells S 140 (0, 0))) := by rw [Hid, ← hW.out]; exact hat _ _ _ rfl
  have HW : Hid (MAt W p pm R ix x q vn Fd Fn) := H.kep KW.out
  have lts : Hid (∀ g ∈ R :: (p :: (Fd ++ Fn)), g ≠ w.heap.size) := fun g hg e => by
    have := Mach.lt (G := p :: (Fd ++ Fn)) ⟨q, vn, Fd, Fn, H, rfl⟩ ok.B g hg
    omega
  have CX : Hid (∀ (w' : World) g, w'.heap[g]? = some (.cells S 140 (0, 0)) → (w'.cell? ⟨g, 19, none⟩ = some (.int .i64 kd) ∧ w'.cell? ⟨g, 20, none⟩ = some (.int .u32 ad) ∧ w'.cell? ⟨g, 21, none⟩ = some (.int .i64 m) ∧ w'.cell? ⟨g, 22, none⟩ = some (.int .u32 vl) ∧ w'.cell? ⟨g, 23, none⟩ = some (.int .u32 at_) ∧ w'.cell? ⟨g, 24, none⟩ = some (.bool rd) ∧ w'.cell? ⟨g, 25, none⟩ = some (.bool wr) ∧ w'.cell? ⟨g, 26, none⟩ = some (.int .i64 port) ∧ w'.cell? ⟨g, 27, none⟩ = some (.int .u32 value)) ∧ w'.rangeAt g 0 t.v.toList) := fun w' g h => by
    rw [← hS.out] at h
    exact ⟨suc_cells h, suc_next h⟩
  have OK := hidd ok
  have RM := hidd rm
  have HN := hidd hpR
  have hn0 := ok.n
  have hn1 := rm.n
  obtain ⟨Y, hY⟩ : ∃ Y, Hid (endX x ix (.ok t (kd, ad, (m : Int), vl) at_ rd wr port value) = Y) := ⟨_, rfl⟩
  rw [hY.out]
  obtain ⟨C, hC⟩ : ∃ C, Hid (finB x ix (kd, ad, (m : Int), vl) at_ = C) := ⟨_, rfl⟩
  have HA := hidd ha
  have HV := hidd hv
  have HX := hidd hx
  have HM := hidd hm
  have HT := hidd hat_
  clear H ok rm hpR ha hv hx hm hat_ hS
  go_enter Tryz.func71, Tryz.ntmps71
  go_upto_region 1 with fail
  rw [hW.out]
  obtain ⟨sb, qs⟩ : ∃ sb, Hid (sb = w.heap.size) := ⟨_, rfl⟩
  rw [← qs.out]
  have SW : Hid (W.heap[sb]? = some (.cells S 140 (0, 0))) := by rw [qs.out]; exact SW0.out
  have hsb : Hid (∀ g ∈ R :: (p :: (Fd ++ Fn)), g ≠ sb) := by rw [qs.out]; exact lts.out
  have lsb : Hid (sb < W.heap.size) := block_lt SW.out
  clear hW SW0 lts
  obtain ⟨⟨c19, c20, c21, c22, c23, _⟩, _⟩ := CX.out W sb SW.out
  go_upto_if 7 with fail
  go_cut [] (fun wx => Hid (Fsu W p pm R ix q vn Fd Fn sb S ⟨x.d, C, x.s, x.n, x.N⟩ wx))
  case first =>
    by_cases h3 : kd = 3
    · subst h3
      have HS := hidd (msoil_any HW.out.box HW.out.mem OK.out.s ad HA.out)
      have eC : Hid (C = wrM (soiM x.B ix x.s ad) ix at_ vl m) := by rw [Hid, ← hC.out]; unfold finB; rw [if_pos rfl]; dsimp only; rw [Int.toNat_natCast]
      go_wp2_with fail
      refine HS.out.mono ?_
      rintro e w1 ⟨rfl, p1, r1⟩
      have M1 := hidd (mat_mem HW.out p1 r1 (soiM_len _ _ _ _) (soiM_byts HW.out.mem.byts _ _ _))
      have P1 := hidd p1
      have S1 := hidd (p1.keeps SW.out (by have := hsb.out R (by simp); simpa using Ne.symm this))
      have HWr := hidd (mwrite_any M1.out.box M1.out.mem (ne_len (soiM_len x.B ix x.s ad) OK.out.B) HN.out at_ HT.out 3 ad vl HV.out m HM.out)
      clear p1 r1 c19 c20 c21 c22 c23 HS
      obtain ⟨⟨c19, c20, c21, c22, c23, _⟩, _⟩ := CX.out w1 sb S1.out
      go_wp2_with fail
      refine HWr.out.mono ?_
      rintro e w2 ⟨rfl, p2, r2⟩
      have M2 := hidd (mat_mem M1.out p2 r2 (wrM_len _ _ _ _ _) (wrM_byts M1.out.mem.byts _ _ _ _))
      have S2 := hidd (p2.keeps S1.out (by have := hsb.out R (by simp); simpa using Ne.symm this))
      have P2 := hidd (P1.out.trans p2)
      clear p2 r2 c19 c20 c21 c22 c23
      go_wp2_with fail
      go_meet
      rw [eC.out]
      exact ⟨Fd, M2.out, S2.out, P2.out.mono (by simp), fun g hg => .inl hg⟩
    · have t3 : (kd == 3) = false := by simp [h3]
      have eC : Hid (C = x.B) := by rw [Hid, ← hC.out]; unfold finB; rw [if_neg h3]
      go_wp2_with fail
      go_meet
      rw [eC.out]
      exact ⟨Fd, HW.out, SW.out, Put.refl _, fun g hg => .inl hg⟩
  case rest =>
    rename World => w1
    have C1 := hcut
    clear hcut HW SW c19 c20 c21 c22 c23
    have hCB : Hid (C ≠ []) := by
      refine ne_len ?_ OK.out.B
      rw [← hC.out]; unfold finB; split
      · rw [wrM_len, soiM_len]
      · rfl
    obtain ⟨F1, M1, S1, P1, H1⟩ := C1.out
    obtain ⟨⟨_, _, _, _, _, c24, _, c26, _⟩, _⟩ := CX.out w1 sb S1
    have c1 := M1.box.cd
    have M1' := hidd M1
    have S1' := hidd S1
    have P1' := hidd P1
    have H1' := hidd H1
    clear M1 S1 P1 H1
    go_upto_if 20 with fail
    go_cut [] (fun wx => Hid (Fsu W p pm R ix q vn Fd Fn sb S ⟨rdD x.d rd port, C, x.s, x.n, x.N⟩ wx))
    case first =>
      cases rd with
      | false =>
        go_wp2_with fail
        go_meet
        exact C1.out
      | true =>
        have HR := hidd (read_dev (M1'.out.dev.kep ((Kep.refl w1).drew)) OK.out.d port)
        go_upto_region 5 with fail
        go_region_with (go_at_call 91; refine HR.out.mono ?_; rintro e w2 ⟨rfl, d2, p2⟩; have D2 := hidd d2; have P2 := hidd p2; clear d2 p2)
        all_goals
          go_wp2_with fail
          go_meet
          have M1d := M1'.out.kep ((Kep.refl w1).drew)
          have nsb : sb ∉ F1 := fun h => by
            rcases H1'.out sb h with h | h
            · exact hsb.out sb (by simp [h]) rfl
            · have := lsb.out; omega
          refine ⟨F1, mat_dev M1d hCB.out P2.out D2.out (fun g hg => .inl hg), P2.out.keeps S1'.out nsb, P1'.out.drew.onto P2.out (fun g hg hlt => ?_), H1'.out⟩
          rcases H1'.out g hg with h | h
          · simp [h]
          · omega
    case rest =>
      rename World => w2
      have C2 := hcut
      clear hcut C1 c24 c26 c1 M1' S1' P1' H1'
      obtain ⟨d1, hd1⟩ : ∃ d1, Hid (rdD x.d rd port = d1) := ⟨_, rfl⟩
      have dk : Hid (d1.Ok ∧ d1.O = x.d.O) := by
        rw [← hd1.out]
        cases rd with
        | false => exact ⟨OK.out.d, rfl⟩
        | true => exact ⟨readS_ok OK.out.d port, readS_O _ _⟩
      have eY : Hid (Y = ⟨wrD d1 wr port value, C, t, x.n + 1, x.N⟩) := by
        rw [Hid, ← hY.out, ← hd1.out, ← hC.out, ← finD_is]; rfl
      rw [hd1.out] at C2
      obtain ⟨F2, M2, S2, P2, H2⟩ := C2.out
      obtain ⟨⟨_, _, _, _, _, _, c25, c26, c27⟩, _⟩ := CX.out w2 sb S2
      have c1 := M2.box.cd
      have M2' := hidd M2
      have S2' := hidd S2
      have P2' := hidd P2
      have H2' := hidd H2
      clear M2 S2 P2 H2 hd1 hY hC
      go_upto_if 29 with fail
      go_cut [] (fun wx => Hid (Fsu W p pm R ix q vn Fd Fn sb S ⟨wrD d1 wr port value, C, x.s, x.n, x.N⟩ wx))
      case first =>
        cases wr with
        | false =>
          go_wp2_with fail
          go_meet
          exact C2.out
        | true =>
          have HR := hidd (write_dev (M2'.out.dev.kep ((Kep.refl w2).drew)) dk.out.1 (by rw [dk.out.2]; have := RM.out.O; omega) port value HX.out)
          go_upto_region 7 with fail
          go_region_with (go_at_call 92; refine HR.out.mono ?_; rintro e w3 ⟨rfl, F3, d3, p3, f3⟩; have D3 := hidd d3; have P3 := hidd p3; have H3 := hidd f3; clear d3 p3 f3)
          all_goals
            go_wp2_with fail
            go_meet
            have M2d := M2'.out.kep ((Kep.refl w2).drew)
            have nsb : sb ∉ F2 := fun h => by
              rcases H2'.out sb h with h | h
              · exact hsb.out sb (by simp [h]) rfl
              · have := lsb.out; omega
            refine ⟨F3, mat_dev M2d hCB.out P3.out D3.out H3.out, P3.out.keeps S2'.out nsb, P2'.out.drew.onto P3.out (fun g hg hlt => ?_), fun g hg => ?_⟩
            · rcases H2'.out g hg with h | h
              · simp [h]
              · omega
            · rcases H3.out g hg with h | h
              · exact H2'.out g h
              · have h5 := P2'.out.size; simp at h; exact .inr (by omega)
      case rest =>
        rename World => w3
        obtain ⟨F3, M3, S3, P3, H3⟩ := hcut.out
        obtain ⟨_, nx⟩ := CX.out w3 sb S3
        have NX := hidd nx
        have M3' := hidd M3
        have P3' := hidd P3
        have H3' := hidd H3
        have B3 := hidd M3.box
        clear hcut S3 M3 P3 H3 nx c25 c26 c27 c1 C2
        go_upto_region 9 with (first
          | (refine load_sta (by rfl) _ (by rfl) sb 0 (by rfl) t NX.out ?_)
          | (refine wpList_store_mid (by rfl) 26 _ _ (by rfl) p 2 t.v (by rfl) (by rfl) B3.out.there (by exact size_sta) (v_one _) ?_))
        have B4 := hidd (B3.out.setSt t)
        have P4 := hidd (Put.setCells (l := [p]) (g := p) (by simp) t.v.toList 2 w3 (Put.refl w3))
        generalize w3.setCells p 2 t.v.toList = W4 at B4 P4 ⊢
        have e0 := B4.out.cn
        have e1 := B4.out.fz 21
        have B5 := hidd (B4.out.setN (x.n + 1))
        have P5 := hidd (P4.out.setCell (p := ⟨p, 21, none⟩) (by simp) (.int .i64 (x.n + 1)))
        go_wp2_with fail
        go_end0
        refine ⟨rfl, F3, ?_, ?_, fun g hg => ?_⟩
        · rw [eY.out]
          exact mat_box M3'.out hCB.out P5.out B5.out
        · refine ((Put.of_kep KW.out).trans P3'.out).onto P5.out (fun g hg _ => ?_)
          obtain rfl : g = p := by simpa using hg
          simp
        · rcases H3'.out g hg with h | h
          · exact .inl h
          · exact .inr (by have := KW.out.size; omega)
end Go.Proofs.YtnignfloedcmlaaGreatDoor
