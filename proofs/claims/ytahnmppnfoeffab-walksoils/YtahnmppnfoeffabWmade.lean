/- A memory that a law makes, beside the document's: the words of its entries are laid in both. -/
import Derived.Test.YtahnmppnfoeffabWopen
namespace Go.Proofs.Ytahnmppnfoeffab
open Go.RowKit
set_option linter.unusedVariables false

/-- Where an entry is laid in a memory of n frames, and as which word. -/
def eadr (n : Nat) (e : Ent) : Nat := e.f.toNat % n * 64 + e.p.toNat % 16 * 4
def eword (e : Ent) : Int := if 2147483648 ≤ e.z then e.z else e.t % 12 * 64 + e.z % 64
def mkB (n : Nat) : List Ent → List Int → List Int
  | [], B => B
  | e :: es, B => mkB n es (setW B (eadr n e) (eword e))
theorem mkB_snoc (n : Nat) (e : Ent) : ∀ (es : List Ent) (B : List Int), mkB n (es ++ [e]) B = setW (mkB n es B) (eadr n e) (eword e)
  | [], B => rfl
  | a :: es, B => mkB_snoc n e es _
theorem mkB_len (n : Nat) : ∀ (es : List Ent) (B : List Int), (mkB n es B).length = B.length
  | [], B => rfl
  | a :: es, B => (mkB_len n es _).trans (setW_len _ _ _)
theorem mkB_take (n : Nat) (es : List Ent) (k : Nat) (e : Ent) (h : es[k]? = some e) (B : List Int) : mkB n (es.take (k + 1)) B = setW (mkB n (es.take k) B) (eadr n e) (eword e) := by
  rw [List.take_add_one, h]
  exact mkB_snoc n e _ B
theorem eword_range {e : Ent} (h : EntOk e) : 0 ≤ eword e ∧ eword e < 4294967296 := by
  have := h.z0
  have := h.z1
  have := h.t0
  have := h.t1
  unfold eword
  split <;> omega
theorem eadr_lt {n : Nat} {e : Ent} (hn : 0 < n) : eadr n e % 4 = 0 ∧ eadr n e < 64 * n := by
  unfold eadr
  have := Nat.mod_lt e.f.toNat hn
  generalize e.f.toNat % n = q at *
  omega
theorem eadr_int {n : Nat} {e : Ent} (h : EntOk e) (hn : 0 < n) : (eadr n e : Int) = e.f.tmod n * 64 + e.p % 16 * 4 := by
  have h0 := h.f0
  have h1 := h.p0
  obtain ⟨f, hf⟩ : ∃ f : Nat, e.f = f := ⟨e.f.toNat, by omega⟩
  unfold eadr
  rw [hf, Int.toNat_natCast, Int.tmod_eq_emod_of_nonneg (by omega), ← Int.natCast_emod]
  generalize f % n = q
  omega

/-- A memory beside the document's, made behind w; two blocks more that hold the document's. -/
structure Mk (w wr : World) (p R n Rb g : Nat) (B : List Int) : Prop where
  two : Two wr (.pointer (some ⟨p, 0, none⟩)) R n (some ⟨Rb, 0, none⟩) Rb B
  kep : Kep w wr
  out : wr.heap[w.heap.size]? = some (.cells #[.slice none 0 0] 31 (0, 0))
  ref : wr.heap[g]? = some (.cells #[.slice (some ⟨Rb, 0, none⟩) (64 * n) (64 * n)] 31 (0, 0))
  gR : w.heap.size < R
  gRb : w.heap.size < Rb
  gg : w.heap.size < g
  nR : g ≠ R
  nRb : g ≠ Rb
theorem Mk.kep' {w wr w' : World} {p R n Rb g : Nat} {B : List Int} (h : Mk w wr p R n Rb g B) (k : Kep wr w') : Mk w w' p R n Rb g B :=
  ⟨h.two.kep k, kep_trans h.kep k, k.block h.out, k.block h.ref, h.gR, h.gRb, h.gg, h.nR, h.nRb⟩
theorem Mk.put {w wr w' : World} {p R n Rb g : Nat} {B C : List Int} (h : Mk w wr p R n Rb g B) (k : Put [R, Rb] wr w') (h1 : RowB w' R C) (h2 : RowB w' Rb C) (hl : C.length = B.length) (hb : Byts C) : Mk w w' p R n Rb g C :=
  ⟨h.two.put k h1 h2 hl hb, h.kep.put k (by simp; have := h.gR; have := h.gRb; omega), k.keeps h.out (by simp; have := h.gR; have := h.gRb; omega), k.keeps h.ref (by simp; have := h.nR; have := h.nRb; omega), h.gR, h.gRb, h.gg, h.nR, h.nRb⟩

theorem results3c {P : Program} {fn : Func} {u p v : Tmp} {ty : TypeId} (h : fn.results = #[.tmp u, .cell p ty, .tmp v]) (tmps : Array Value) (w : World) (g : Nat) (t : TypeId) (cs : Array Value) (fr : Nat × Nat) (d : TypeDesc)
    (hp : tmps.getD p undef = .pointer (some ⟨g, 0, none⟩)) (hg : w.heap[g]? = some (.cells cs t fr))
    (hu : P.underlying ty = some d) (hd : (match d with | .struct _ | .array _ _ => true | _ => false) = true) (hi : (P.info? ty).map (·.size) = some cs.size) :
    (results fn tmps).run P w = .ok (.tuple #[tmps.getD u undef, .agg cs, tmps.getD v undef]) w := by
  have hp' : tmps[p]?.getD undef = .pointer (some ⟨g, 0, none⟩) := by simpa using hp
  simp [results, h, hp', asAddr, run_loadVar_row w g t ty cs fr d hg hu hd hi]

set_option maxHeartbeats 4000000 in
set_option maxRecDepth 100000 in
theorem made6_any (w : World) (f : Int) (f0 : 0 ≤ f) (f1 : f < 256) (x : Option Addr) (len cap : Nat) (es : List Ent) (h : EntRow w x len cap es) :
    Calls Try.prog 7 #[.int .u8 f, .slice x len cap] w fun e w' => ∃ (n p R Rb : Nat), (n : Int) = 4 + f % 7 ∧ e = .returned (.tuple #[.pointer (some ⟨p, 0, none⟩), refV (some ⟨Rb, 0, none⟩) (64 * n), .bool true]) ∧
      Two w' (.pointer (some ⟨p, 0, none⟩)) R n (some ⟨Rb, 0, none⟩) Rb (mkB n (es.take 64) (List.replicate (64 * n) 0)) ∧ Kep w w' ∧ w.heap.size ≤ R ∧ w.heap.size ≤ Rb := by
  obtain ⟨n, hn, hn1, hn2⟩ : ∃ n : Nat, 4 + f % 7 = n ∧ (4 : Int) ≤ n ∧ (n : Int) ≤ 10 := ⟨(4 + f % 7).toNat, by omega, by omega, by omega⟩
  have hN : Hid (∀ w, Calls Try.prog 14 #[.int .i64 n] w fun e w' => ∃ p : Nat, e = .returned (.tuple #[.pointer (some ⟨p, 0, none⟩), .int .i64 0]) ∧ Own w w' (.pointer (some ⟨p, 0, none⟩)) w.heap.size n (List.replicate (64 * n) 0)) := fun w => new_any w n (by omega) (by omega)
  have hR : Hid (∀ w, Calls Try.prog 15 #[.int .i64 n] w fun e w' => e = .returned (refV (some ⟨w.heap.size + 1, 0, none⟩) (64 * n)) ∧ Kep w w' ∧ w'.heap[w.heap.size + 1]? = some (.cells (byt (List.replicate (64 * n) 0)).toArray 5 (0, 0))) := fun w => refNew_any w n (by omega) (by omega)
  have hE : Hid (EntRow w x len cap es) := h
  have hlm : (len : Int) ≤ 9223372036854775807 := by
    rcases h.2.2 with h0 | ⟨b, off, _, h1, h2, _⟩
    · have := h.1; rw [h0] at this; simp at this; omega
    · unfold maxLen at h2; omega
  clear h
  go_enter Try.func7, Try.ntmps7
  go_wp2_with fail
  refine (hN.out _).mono ?_
  rintro e w1 ⟨p, rfl, O⟩
  have O' : Hid (Own (w.alloc (.cells #[.slice none 0 0] 31)) w1 (.pointer (some ⟨p, 0, none⟩)) (w.alloc (.cells #[.slice none 0 0] 31)).heap.size n (List.replicate (64 * n) 0)) := O
  clear O hN
  go_wp2_with fail
  refine (hR.out _).mono ?_
  rintro e w2 ⟨rfl, k2, b2⟩
  have K2 : Hid (Kep w1 w2) := k2
  have B2 : Hid (w2.heap[w1.heap.size + 1]? = some (.cells (byt (List.replicate (64 * n) 0)).toArray 5 (0, 0))) := b2
  clear k2 b2 hR
  go_wp2_with fail
  obtain ⟨R, hRr⟩ : ∃ R, R = w.heap.size + 1 := ⟨_, rfl⟩
  obtain ⟨Rb, hRb⟩ : ∃ Rb, Rb = w1.heap.size + 1 := ⟨_, rfl⟩
  have hst : Hid (Mk w (w2.alloc (.cells #[.slice (some ⟨w1.heap.size + 1, 0, none⟩) (64 * n) (64 * n)] 31)) p R n Rb w2.heap.size (List.replicate (64 * n) 0)) := by
    have hne : (List.replicate (64 * n) (0 : Int)) ≠ [] := by intro e; have := congrArg List.length e; simp at this; omega
    have k3 := kep_trans K2.out ((Kep.refl _).alloc (.cells #[.slice (some ⟨w1.heap.size + 1, 0, none⟩) (64 * n) (64 * n)] 31))
    have r3 := O'.out.ram.kep k3
    have w3 := O'.out.row.kep k3
    simp only [World.size_alloc] at r3 w3
    rw [← hRr] at r3 w3
    have b3 : (w2.alloc (.cells #[.slice (some ⟨w1.heap.size + 1, 0, none⟩) (64 * n) (64 * n)] 31)).heap[Rb]? = some (.cells (byt (List.replicate (64 * n) 0)).toArray 5 (0, 0)) := by
      rw [hRb]; exact ((Kep.refl _).alloc _).block B2.out
    have hlt := O'.out.row.lt hne
    simp only [World.size_alloc] at hlt
    have hp0 := O'.out.ge
    have hb2 := block_lt B2.out
    exact ⟨⟨r3, w3, ⟨fun _ => b3, fun _ => by rw [hRb], by simp; omega⟩, by simp, byts_zero _, by omega, by omega, off_of r3 (fun _ => b3) hne, w3.lt hne, block_lt b3⟩,
      kep_trans (kep_trans ((Kep.refl w).alloc _) O'.out.kep) k3, k3.block (O'.out.kep.block (hat _ _ _ rfl)), by rw [hRb]; exact hat _ _ _ rfl, by omega, by omega, by have := K2.out.size; omega, by have := K2.out.size; omega, by omega⟩
  have gR : w.heap.size ≤ R := by omega
  have gRb : w.heap.size ≤ Rb := Nat.le_of_lt hst.out.gRb
  clear hRr hRb
  go_loopw [11] (fun i wr => ∃ k : Nat, (k : Int) ≤ len ∧ (k : Int) ≤ 64 ∧ i = .int .i64 k ∧ Hid (Mk w wr p R n Rb w2.heap.size (mkB n (es.take k) (List.replicate (64 * n) 0)))) (fun i _ => 100 - (intOf i).toNat)
  case atStart => exact ⟨0, by omega, by omega, rfl, hst.out⟩
  case round =>
    obtain ⟨k, hk1, hk2, rfl, hM⟩ := hrel
    have cx : wr.cell? ⟨w2.heap.size, 0, none⟩ = some (.slice (some ⟨Rb, 0, none⟩) (64 * n) (64 * n)) := cell_of_block hM.out.ref
    by_cases hend : (k : Int) < len ∧ (k : Int) < 64
    · obtain ⟨hl, h64⟩ := hend
      have hEl := hE.out.1
      rcases hE.out.2.2 with h0 | ⟨b, off, hx, g1, g2, g3, g4⟩
      · rw [h0] at hEl; simp at hEl; omega
      obtain ⟨e, he⟩ : ∃ e, es[k]? = some e := ⟨es[k], List.getElem?_eq_getElem (by omega)⟩
      have hok := hE.out.2.1 e (List.mem_of_getElem? he)
      have hcells := g4 k e he
      subst hx
      have hcap : (len : Int) ≤ cap := by omega
      have KW := hM.out.kep
      have x0 : wr.cell? ⟨b, off + k * 4, none⟩ = some (.int .u8 e.f) := (KW.cell g3).trans (hcells 0 (by omega))
      have x1 : wr.cell? ⟨b, off + k * 4 + 1, none⟩ = some (.int .u8 e.p) := (KW.cell g3).trans (hcells 1 (by omega))
      have x2 : wr.cell? ⟨b, off + k * 4 + 2, none⟩ = some (.int .u8 e.t) := (KW.cell g3).trans (hcells 2 (by omega))
      have x3 : wr.cell? ⟨b, off + k * 4 + 3, none⟩ = some (.int .u32 e.z) := (KW.cell g3).trans (hcells 3 (by omega))
      have hstep : Hid (mkB n (es.take (k + 1)) (List.replicate (64 * n) 0) = setW (mkB n (es.take k) (List.replicate (64 * n) 0)) (eadr n e) (eword e)) := mkB_take n es k e he _
      have ha := eadr_lt (n := n) (e := e) (by omega)
      have hai := eadr_int (n := n) hok (by omega)
      have hz := eword_range hok
      have hzd : Hid (eword e = if 2147483648 ≤ e.z then e.z else e.t % 12 * 64 + e.z % 64) := rfl
      generalize hC0 : mkB n (es.take (k + 1)) (List.replicate (64 * n) 0) = C at hstep
      have hC : Hid (mkB n (es.take (k + 1)) (List.replicate (64 * n) 0) = C) := hC0
      clear hC0
      generalize mkB n (es.take k) (List.replicate (64 * n) 0) = B at hstep hM
      generalize eadr n e = a at ha hai hstep
      generalize eword e = z at hz hzd hstep
      obtain ⟨ef, ep, et, ez⟩ := e
      obtain ⟨f0', f1', p0, p1, t0, t1, z0, z1⟩ := hok
      simp only at f0' f1' p0 p1 t0 t1 z0 z1 x0 x1 x2 x3 hai hzd
      have hSW : Hid (∀ o m, Calls Try.prog 16 #[.pointer (some ⟨p, 0, none⟩), .int .u32 a, .int .u32 z] ((wr.alloc o).drewN m) fun e w' => e = .returned (.bool true) ∧ Put [R] ((wr.alloc o).drewN m) w' ∧ RowB w' R C) := by
        intro o m
        have K := ((Kep.refl wr).alloc o).drewN m
        have T := hM.out.two
        have := setWord_put ((wr.alloc o).drewN m) _ R _ B (T.ram.kep K) (by simp; omega) (T.row.kep K) (fits_range T.len) a (by omega) z hz.1 hz.2
        rw [List.length_range, if_pos ha, decide_eq_true ha, pos_range ha.2, ← hstep.out] at this
        exact this
      have hRW : Hid (∀ o m w', Put [R] ((wr.alloc o).drewN m) w' → Calls Try.prog 17 #[.agg #[.slice (some ⟨Rb, 0, none⟩) (64 * n) (64 * n)], .int .u32 a, .int .u32 z] w' fun e w'' => e = .returned (.bool true) ∧ Put [Rb] w' w'' ∧ RowB w'' Rb C) := by
        intro o m w' P
        have K := ((Kep.refl wr).alloc o).drewN m
        have T := hM.out.two
        have hl := T.len
        have := refSetWord_any w' (some ⟨Rb, 0, none⟩) Rb B ((T.ref.kep K).put P (by have := T.ne; simp; omega)) (by omega) a (by omega) z hz.1 hz.2
        rw [hl, if_pos ha, decide_eq_true ha, ← hstep.out] at this
        exact this
      have hnew : Hid (∀ o m w' w'', Put [R] ((wr.alloc o).drewN m) w' → RowB w' R C → Put [Rb] w' w'' → RowB w'' Rb C → Mk w w'' p R n Rb w2.heap.size C) := by
        intro o m w' w'' P1 r1 P2 r2
        have K := ((Kep.refl wr).alloc o).drewN m
        have T := hM.out.two
        exact (hM.out.kep' K).put ((P1.mono (by simp)).trans (P2.mono (by simp))) (r1.put P2 (by have := T.ne; simp; omega)) r2 (by rw [hstep.out, setW_len]) (by rw [hstep.out]; exact T.byts.setW _ _)
      have cx' : Hid (∀ o m w', Put [R] ((wr.alloc o).drewN m) w' → w'.cell? ⟨w2.heap.size, 0, none⟩ = some (.slice (some ⟨Rb, 0, none⟩) (64 * n) (64 * n))) := by
        intro o m w' P
        have K := ((Kep.refl wr).alloc o).drewN m
        exact cell_of_block (P.keeps (K.block hM.out.ref) (by have := hM.out.nR; simp; omega))
      have hw : wrap64 (wrap64 (ef % (n : Int) * 64) + ep % 16 * 4) % 4294967296 = (a : Int) := by
        rw [Int.tmod_eq_emod_of_nonneg f0'] at hai
        have h1 := Int.emod_nonneg ef (b := (n : Int)) (by omega)
        have h2 := Int.emod_lt_of_pos ef (b := (n : Int)) (by omega)
        generalize ef % (n : Int) = q at *
        unfold wrap64
        omega
      have hn0 : ((n : Int) == 0) = false := by simp; omega
      clear g4 hcells he hEl hai hstep hE
      have hw' : Hid (wrap64 (wrap64 (ef % (n : Int) * 64) + ep % 16 * 4) % 4294967296 = (a : Int)) := hw
      clear hw
      by_cases hbig : 2147483648 ≤ ez
      · have hg : decide (2147483648 ≤ ez) = true := decide_eq_true hbig
        obtain rfl : z = ez := by rw [hzd.out, if_pos hbig]
        clear hbig
        go_wp2_with fail
        go_quiet (fail)
        rw [hw'.out]
        go_wp2_with fail
        refine (hSW.out _ _).mono ?_
        rintro e w3 ⟨rfl, P3, R3⟩
        have cz := cx'.out _ _ _ P3
        have RW3 : Hid (Calls Try.prog 17 #[.agg #[.slice (some ⟨Rb, 0, none⟩) (64 * n) (64 * n)], .int .u32 a, .int .u32 z] w3 fun e w'' => e = .returned (.bool true) ∧ Put [Rb] w3 w'' ∧ RowB w'' Rb C) := hRW.out _ _ _ P3
        have N3 : Hid (∀ w'', Put [Rb] w3 w'' → RowB w'' Rb C → Mk w w'' p R n Rb w2.heap.size C) := fun w'' P r => hnew.out _ _ _ _ P3 R3 P r
        clear P3 R3
        go_wp2_with fail
        refine RW3.out.mono ?_
        rintro e w4 ⟨rfl, P4, R4⟩
        have M4 : Hid (Mk w w4 p R n Rb w2.heap.size (mkB n (es.take (k + 1)) (List.replicate (64 * n) 0))) := by
          rw [hC.out]; exact N3.out _ P4 R4
        clear P4 R4
        go_wp2_with fail
        go_roundw
        case rel => exact ⟨k + 1, by omega, by omega, by go_num, M4.out⟩
        case measure => simp [intOf]; omega
      · have hg : decide (2147483648 ≤ ez) = false := decide_eq_false hbig
        have hz2 : et % 12 * 64 + ez % 64 = z := by rw [hzd.out, if_neg hbig]
        have hz2' : Hid (et % 12 * 64 + ez % 64 = z) := hz2
        clear hbig hz2
        go_wp2_with fail
        go_quiet (fail)
        rw [hw'.out]
        go_wp2_with fail
        rw [hz2'.out]
        refine (hSW.out _ _).mono ?_
        rintro e w3 ⟨rfl, P3, R3⟩
        have cz := cx'.out _ _ _ P3
        have RW3 : Hid (Calls Try.prog 17 #[.agg #[.slice (some ⟨Rb, 0, none⟩) (64 * n) (64 * n)], .int .u32 a, .int .u32 z] w3 fun e w'' => e = .returned (.bool true) ∧ Put [Rb] w3 w'' ∧ RowB w'' Rb C) := hRW.out _ _ _ P3
        have N3 : Hid (∀ w'', Put [Rb] w3 w'' → RowB w'' Rb C → Mk w w'' p R n Rb w2.heap.size C) := fun w'' P r => hnew.out _ _ _ _ P3 R3 P r
        clear P3 R3
        go_wp2_with fail
        refine RW3.out.mono ?_
        rintro e w4 ⟨rfl, P4, R4⟩
        have M4 : Hid (Mk w w4 p R n Rb w2.heap.size (mkB n (es.take (k + 1)) (List.replicate (64 * n) 0))) := by
          rw [hC.out]; exact N3.out _ P4 R4
        clear P4 R4
        go_wp2_with fail
        go_roundw
        case rel => exact ⟨k + 1, by omega, by omega, by go_num, M4.out⟩
        case measure => simp [intOf]; omega
    · have hcn : Hid (mkB n (es.take k) (List.replicate (64 * n) 0) = mkB n (es.take 64) (List.replicate (64 * n) 0)) := by
        have hEl := hE.out.1
        rcases (by omega : k = 64 ∨ (k = len ∧ k < 64)) with h | ⟨h, h'⟩
        · rw [h]; rfl
        · unfold Hid; rw [List.take_of_length_le (by omega), List.take_of_length_le (by omega)]
      have o0 : wr.cell? ⟨w.heap.size, 0, none⟩ = some (.slice none 0 0) := cell_of_block hM.out.out
      have of0 : wr.frozen? ⟨w.heap.size, 0, none⟩ = false := by simp [World.frozen?, hM.out.out]
      have hT : Hid (Two (wr.setCell ⟨w.heap.size, 0, none⟩ (.slice (some ⟨Rb, 0, none⟩) (64 * n) (64 * n))).drew (.pointer (some ⟨p, 0, none⟩)) R n (some ⟨Rb, 0, none⟩) Rb (mkB n (es.take 64) (List.replicate (64 * n) 0))) := by
        rw [← hcn.out]
        have T := hM.out.two
        have P5 : Put [w.heap.size] wr (wr.setCell ⟨w.heap.size, 0, none⟩ (.slice (some ⟨Rb, 0, none⟩) (64 * n) (64 * n))).drew := ((Put.refl _).setCell (by simp) _).drew
        have hne : mkB n (es.take k) (List.replicate (64 * n) 0) ≠ [] := by intro e; have := congrArg List.length e; rw [mkB_len] at this; simp at this; omega
        have r5 := T.ram.off P5 (off_tag T.ram hM.out.out (by decide) (by decide))
        have hw5 := T.row.put P5 (by have := hM.out.gR; simp; omega)
        have hb5 := T.ref.put P5 (by have := hM.out.gRb; simp; omega)
        exact ⟨r5, hw5, hb5, T.len, T.byts, T.ne, T.le, off_of r5 hb5.row hne, hw5.lt hne, hb5.row.lt hne⟩
      have hK : Hid (Kep w (wr.setCell ⟨w.heap.size, 0, none⟩ (.slice (some ⟨Rb, 0, none⟩) (64 * n) (64 * n))).drew) := (hM.out.kep.setCell (Nat.le_refl _) _).drew
      have hO : Hid ((wr.setCell ⟨w.heap.size, 0, none⟩ (.slice (some ⟨Rb, 0, none⟩) (64 * n) (64 * n))).drew.heap[w.heap.size]? = some (.cells #[.slice (some ⟨Rb, 0, none⟩) (64 * n) (64 * n)] 31 (0, 0))) := (heap_setCell_row hM.out.out _).trans (by simp)
      have hn' : Hid (4 + f % 7 = (n : Int)) := hn
      clear hM hst O' K2 B2 hE hn
      go_wp2_with fail
      all_goals go_region
      all_goals
        go_wp2_with fail
        exact bodyPost_ret (results3c rfl _ _ w.heap.size 31 #[.slice (some ⟨Rb, 0, none⟩) (64 * n) (64 * n)] (0, 0) _ rfl hO.out Try.underlying31 rfl size_ref) rfl ⟨n, p, R, Rb, hn'.out.symm, rfl, hT.out, hK.out, gR, gRb⟩
end Go.Proofs.Ytahnmppnfoeffab
