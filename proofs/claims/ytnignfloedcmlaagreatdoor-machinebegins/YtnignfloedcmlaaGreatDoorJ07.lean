/- Part of a proof. -/
import Derived.Deep.MidRow
import Derived.Test.YtnignfloedcmlaaGreatDoorJ06
namespace Go.Proofs.YtnignfloedcmlaaGreatDoor
open Go.RowKit
set_option linter.unusedVariables false
set_option linter.unusedSimpArgs false
structure Mem (w : World) (v : Value) (R : Nat) (ix : List Nat) (B : List Int) : Prop where
  ram : Ram w v R ix
  row : RowB w R B
  fits : Fits B ix
  byts : Byts B
  max : (ix.length : Int) ≤ 512
theorem Mem.kep {w w' : World} {v : Value} {R : Nat} {ix : List Nat} {B : List Int} (h : Mem w v R ix B) (k : Kep w w') : Mem w' v R ix B := ⟨h.ram.kep k, h.row.kep k, h.fits, h.byts, h.max⟩
theorem Off.stay {w w' : World} {v : Value} {R : Nat} {ix l m : List Nat} (h : Ram w v R ix) (ho : Off w v l) (k : Put m w w') (hm : Off w v m) : Off w' v l := by
  intro p e
  obtain ⟨h1, h2⟩ := ho p e
  obtain ⟨h3, h4⟩ := hm p e
  refine ⟨h1, fun F n c hc => h2 F n c ?_⟩
  rcases h with ⟨_, e'⟩ | ⟨_, p', e', hp, _⟩ | ⟨p', F', e', hp, _⟩
  · rw [e'] at e; cases e
  · rw [e'] at e; cases e
    rw [k.cell (block_lt hp) h3] at hc; exact hc
  · rw [e'] at e; cases e
    rw [k.cell (block_lt hp) h3] at hc; exact hc
theorem Mem.put {w w' : World} {v : Value} {R : Nat} {ix l : List Nat} {B : List Int} (h : Mem w v R ix B) (k : Put l w w') (ho : Off w v l) (hR : R ∉ l) : Mem w' v R ix B := ⟨h.ram.off k ho, h.row.put k hR, h.fits, h.byts, h.max⟩
structure Far (w : World) (v : Value) (R : Nat) (l : List Nat) : Prop where
  off : Off w v l
  row : R ∉ l
theorem Off.sub {w : World} {v : Value} {l m : List Nat} (h : Off w v l) (hs : ∀ g ∈ m, g ∈ l) : Off w v m := fun p e => ⟨fun hm => (h p e).1 (hs p hm), fun F n c hc hm => (h p e).2 F n c hc (hs F hm)⟩
theorem Far.sub {w : World} {v : Value} {R : Nat} {l m : List Nat} (h : Far w v R l) (hs : ∀ g ∈ m, g ∈ l) : Far w v R m := ⟨h.off.sub hs, fun hm => h.row (hs R hm)⟩
theorem Far.put {w w' : World} {v : Value} {R : Nat} {ix l : List Nat} {B : List Int} (h : Far w v R l) (M : Mem w v R ix B) (k : Put l w w') : Far w' v R l := ⟨Off.stay M.ram h.off k h.off, h.row⟩
theorem Far.kep {w w' : World} {v : Value} {R : Nat} {ix l : List Nat} {B : List Int} (h : Far w v R l) (M : Mem w v R ix B) (k : Kep w w') : Far w' v R l := ⟨Off.stay (m := []) M.ram h.off (Put.of_kep k) (fun p e => ⟨by simp, by simp⟩), h.row⟩
def DS.clear (s : DS) : DS := { s with k := 0, f := 0, t := 0 }
def finF (s : DS) (nf : Nat) : List Int := if canB s.D nf s.f s.t = true ∧ s.k ≠ 2 then [s.t / 64] else []
def finS (s : DS) (ix : List Nat) (B : List Int) : DS :=
  if canB s.D ix.length s.f s.t = true then (if s.k = 2 then { s.clear with s := 0, D := splice s.D (64 * s.f.toNat) (frameL B (ix.getD (s.t / 64).toNat 0)) } else { s.clear with s := 0 }) else { s.clear with s := 2 }
def finM (s : DS) (ix : List Nat) (B : List Int) : List Int := if canB s.D ix.length s.f s.t = true ∧ s.k ≠ 2 then layL B ix s.t.toNat (frameL s.D s.f.toNat) else B
abbrev clrW (w : World) (p : Nat) : World := ((w.setCell ⟨p, 10, none⟩ (.int .u32 0)).setCell ⟨p, 11, none⟩ (.int .u32 0)).setCell ⟨p, 12, none⟩ (.int .u32 0)
abbrev cmdC (s : DS) : Obj := .cells #[.int .u32 s.k, .int .u32 s.f, .int .u32 s.t] 87
theorem clear_at {w : World} {p : Nat} {s : DS} {vs vq vo vb : Value} {Fs Fq Fo Fb : List Nat} (h : DevAt w p s vs vq vo vb Fs Fq Fo Fb) :
    DevAt ((clrW w p).alloc (cmdC s)) p s.clear vs vq vo vb Fs Fq Fo Fb ∧ Put [p] w ((clrW w p).alloc (cmdC s)) ∧ ((clrW w p).alloc (cmdC s)).heap[w.heap.size]? = some (.cells #[.int .u32 s.k, .int .u32 s.f, .int .u32 s.t] 87 (0, 0)) := by
  have P : Put [p] w (clrW w p) := (((Put.refl w).setCell (by simp) _).setCell (by simp) _).setCell (by simp) _
  have b1 := box_set (j := 10) h.box (.int .u32 0)
  have b2 := box_set (j := 11) b1 (.int .u32 0)
  have b3 := box_set (j := 12) b2 (.int .u32 0)
  exact ⟨(h.turn (s' := s.clear) P b3 rfl rfl rfl rfl).kep ((Kep.refl _).alloc _), P.alloc _, hat _ _ _ (by simp [clrW])⟩
theorem status_at {w : World} {p : Nat} {s : DS} {vs vq vo vb : Value} {Fs Fq Fo Fb : List Nat} (h : DevAt w p s vs vq vo vb Fs Fq Fo Fb) (x : Int) :
    DevAt (w.setCell ⟨p, 9, none⟩ (.int .u32 x)) p { s with s := x } vs vq vo vb Fs Fq Fo Fb ∧ Put [p] w (w.setCell ⟨p, 9, none⟩ (.int .u32 x)) := by
  have P : Put [p] w (w.setCell ⟨p, 9, none⟩ (.int .u32 x)) := (Put.refl w).setCell (by simp) _
  exact ⟨h.turn P (box_set h.box _) rfl rfl rfl rfl, P⟩
set_option maxHeartbeats 2000000 in
theorem finish_no {w : World} {p : Nat} {s : DS} {vs vq vo vb : Value} {Fs Fq Fo Fb : List Nat} (h : DevAt w p s vs vq vo vb Fs Fq Fo Fb) (hD : s.D.length ≤ 2048) (v : Value) (R : Nat) (ix : List Nat) (B : List Int) (M : Mem w v R ix B) (hfar : Far w v R (p :: (Fs ++ (Fq ++ (Fo ++ Fb))))) (hf : 0 ≤ s.f ∧ s.f < 4294967296) (ht : 0 ≤ s.t ∧ s.t < 4294967296)
    (hc : canB s.D ix.length s.f s.t = false) :
    Calls Tryz.prog 62 #[.pointer (some ⟨p, 6, none⟩), v] w fun e w' => e = .returned (.slice none 0 0) ∧ DevAt w' p { s.clear with s := 2 } vs vq vo vb Fs Fq Fo Fb ∧ Put [p] w w' := by
  have c10 : w.cell? ⟨p, 10, none⟩ = some (.int .u32 s.k) := h.c 10
  have c11 : w.cell? ⟨p, 11, none⟩ = some (.int .u32 s.f) := h.c 11
  have c12 : w.cell? ⟨p, 12, none⟩ = some (.int .u32 s.t) := h.c 12
  have fz := h.fz
  have lp := block_lt h.box
  have hpn : p ≠ w.heap.size := by omega
  obtain ⟨h2, P2, b2⟩ := clear_at h
  have h2' : Hid _ := h2
  have P2' : Hid _ := P2
  have H : Hid (Calls Tryz.prog 73 #[.pointer (some ⟨p, 6, none⟩), .agg #[.int .u32 s.k, .int .u32 s.f, .int .u32 s.t], v] ((clrW w p).alloc (cmdC s)) fun e w' => e = .returned (.bool false) ∧ Kep ((clrW w p).alloc (cmdC s)) w') := by
    have := can_any h2 hD v R ix (M.put P2 (hfar.sub (by simp)).off (by simpa using fun e => hfar.row (by simp [e]))).ram M.max s.k s.f s.t hf ht
    rw [show canB s.clear.D ix.length s.f s.t = false from hc] at this
    exact this
  clear h h2 P2 M hfar hc b2
  go_enter Tryz.func62, Tryz.ntmps62
  go_wp2_with (go_at_call 73; refine H.out.mono ?_; rintro e w3 ⟨rfl, k3⟩; have h3 := h2'.out.kep k3; have d9 : w3.cell? ⟨p, 9, none⟩ = some (.int .u32 s.s) := h3.c 9; have dz := h3.fz 9; have h3' : Hid _ := h3; have K3 : Hid _ := k3; clear h3 k3)
  go_ret
  obtain ⟨r1, r2⟩ := status_at h3'.out 2
  exact ⟨rfl, r1, (P2'.out.trans (Put.of_kep K3.out)).trans r2⟩
theorem Sli.there {w : World} {e : TypeId} {z : Nat} {g off n cap : Nat} {xs : List Value} {F : List Nat} (h : Sli w e z (.slice (some ⟨g, off, none⟩) n cap) n xs F) (k : Nat) (hk : k < n) : w.there g (off + k * z) z ∧ F = [g] ∧ w.rangeAt g (off + k * z) ((xs.drop (k * z)).take z) := by
  have hlen := h.1
  rcases h.form with ⟨hv, _⟩ | ⟨g', off', cap', hv, hF, h1, h2, hg, hc, hs⟩
  · cases hv
  simp only [Value.slice.injEq, Option.some.injEq, Addr.mk.injEq, and_true, true_and] at hv
  obtain ⟨⟨rfl, rfl⟩, rfl⟩ := hv
  have hkz : k * z + z ≤ cap * z := by have := Nat.mul_le_mul_right z (show k + 1 ≤ cap by omega); rw [Nat.add_mul, Nat.one_mul] at this; exact this
  refine ⟨fun j hj => ?_, hF, fun j v hj => ?_⟩
  · rw [Nat.add_assoc]; exact hs (k * z + j) (by omega)
  · have hjz : j < z := by have := (List.getElem?_eq_some_iff.1 hj).1; simp at this; omega
    rw [List.getElem?_take_of_lt hjz, List.getElem?_drop] at hj
    rw [Nat.add_assoc]; exact hc _ _ hj
theorem Sli.store {w : World} {e : TypeId} {z : Nat} {g off n cap : Nat} {xs : List Value} {F : List Nat} (h : Sli w e z (.slice (some ⟨g, off, none⟩) n cap) n xs F) (k : Nat) (hk : k < n) (ys : List Value) (hy : ys.length = z) : Sli (w.setCells g (off + k * z) ys) e z (.slice (some ⟨g, off, none⟩) n cap) n (xs.take (k * z) ++ ys ++ xs.drop (k * z + z)) F := by
  rcases h with ⟨h0, ⟨hv, _⟩ | ⟨g', off', cap', cur, hv, rfl, hg, h2, h3, h4, h5⟩⟩
  · cases hv
  simp only [Value.slice.injEq, Option.some.injEq, Addr.mk.injEq, and_true, true_and] at hv
  obtain ⟨⟨rfl, rfl⟩, rfl⟩ := hv
  have hkz : k * z + z ≤ n * z := by have := Nat.mul_le_mul_right z (show k + 1 ≤ n by omega); rw [Nat.add_mul, Nat.one_mul] at this; exact this
  have hnz := Nat.mul_le_mul_right z h2
  have hrow := heap_setCells_row ys (off + k * z) w cur hg (by omega)
  refine ⟨by simp only [List.length_append, List.length_take, List.length_drop]; omega, .inr ⟨g, off, cap, _, rfl, rfl, hrow, h2, h3, by simp only [List.length_append, List.length_take, List.length_drop]; omega, ?_⟩⟩
  rw [← h5, hy]
  apply List.ext_getElem?
  intro j
  simp only [List.getElem?_take, List.getElem?_drop, List.getElem?_append, List.length_take, List.length_append, List.length_drop, hy]
  have m1 : min (off + k * z) cur.length = off + k * z := by omega
  have m2 : min (k * z) (min (n * z) (cur.length - off)) = k * z := by omega
  rw [m1, m2]
  by_cases j1 : j < k * z
  · simp [show j < n * z by omega, show off + j < off + k * z + z by omega, show off + j < off + k * z by omega, j1, show j < k * z + z by omega]
  · by_cases j2 : j < k * z + z
    · simp [show j < n * z by omega, show off + j < off + k * z + z by omega, show ¬ off + j < off + k * z by omega, j1, j2, show off + j - (off + k * z) = j - k * z by omega]
    · by_cases j3 : j < n * z
      · simp [j3, show ¬ off + j < off + k * z + z by omega, j2, show k * z + z + (j - (k * z + z)) < n * z by omega]
        congr 1; omega
      · simp [j3, j2, show ¬ k * z + z + (j - (k * z + z)) < n * z by omega]
theorem cell_cells {w : World} {b i g : Nat} {v : Value} (hn : b ≠ g) (o : Nat) (ys : List Value) (h : w.cell? ⟨b, i, none⟩ = some v) : (w.setCells g o ys).cell? ⟨b, i, none⟩ = some v := (World.cell?_setCells_out g ys o w ⟨b, i, none⟩ (fun e _ => absurd e hn)).trans h
set_option maxHeartbeats 4000000 in
set_option maxRecDepth 100000 in
theorem finish_out {w : World} {p : Nat} {s : DS} {vs vq vo vb : Value} {Fs Fq Fo Fb : List Nat} (h : DevAt w p s vs vq vo vb Fs Fq Fo Fb) (hD : s.D.length ≤ 2048) (hD6 : s.D.length % 64 = 0) (v : Value) (R : Nat) (ix : List Nat) (B : List Int) (M : Mem w v R ix B) (hfar : Far w v R (p :: (Fs ++ (Fq ++ (Fo ++ Fb))))) (f0 t0 : Nat) (hf : s.f = (f0 : Int)) (ht : s.t = (t0 : Int)) (hf1 : s.f < 4294967296) (ht1 : s.t < 4294967296)
    (hc : canB s.D ix.length s.f s.t = true) (hk : s.k = 2) :
    Calls Tryz.prog 62 #[.pointer (some ⟨p, 6, none⟩), v] w fun e w' => e = .returned (.slice none 0 0) ∧ DevAt w' p { s.clear with s := 0, D := splice s.D (64 * f0) (frameL B (ix.getD (t0 / 64) 0)) } vs vq vo vb Fs Fq Fo Fb ∧ Put (p :: Fb) w w' := by
  have c10 : w.cell? ⟨p, 10, none⟩ = some (.int .u32 2) := by rw [← hk]; exact h.c 10
  have c11 : w.cell? ⟨p, 11, none⟩ = some (.int .u32 (f0 : Int)) := by rw [← hf]; exact h.c 11
  have c12 : w.cell? ⟨p, 12, none⟩ = some (.int .u32 (t0 : Int)) := by rw [← ht]; exact h.c 12
  have fz := h.fz
  have lp := block_lt h.box
  have hpn : p ≠ w.heap.size := by omega
  have hcb := hc
  unfold canB at hcb
  simp only [Bool.and_eq_true, decide_eq_true_eq] at hcb
  obtain ⟨⟨g1, g2⟩, g3⟩ := hcb
  rw [hf] at g1
  rw [ht] at g2 g3
  obtain ⟨h2, P2, b2⟩ := clear_at h
  have M2 := M.put P2 (hfar.sub (by simp)).off (by simpa using fun e => hfar.row (by simp [e]))
  have H : Hid (Calls Tryz.prog 73 #[.pointer (some ⟨p, 6, none⟩), .agg #[.int .u32 2, .int .u32 (f0 : Int), .int .u32 (t0 : Int)], v] ((clrW w p).alloc (.cells #[.int .u32 2, .int .u32 (f0 : Int), .int .u32 (t0 : Int)] 87)) fun e w' => e = .returned (.bool true) ∧ Kep ((clrW w p).alloc (.cells #[.int .u32 2, .int .u32 (f0 : Int), .int .u32 (t0 : Int)] 87)) w') := by
    have := can_any h2 hD v R ix M2.ram M.max s.k s.f s.t (by omega) (by omega)
    rw [show canB s.clear.D ix.length s.f s.t = true from hc, hk, hf, ht] at this
    unfold cmdC at this
    rw [hk, hf, ht] at this
    exact this
  unfold cmdC at h2 P2 M2 b2
  rw [hk, hf, ht] at h2 P2 M2 b2
  have h2' : Hid _ := h2
  have P2' : Hid _ := P2
  have M2' : Hid _ := M2
  have b2' : Hid _ := b2
  have hfar' : Hid (Far ((clrW w p).alloc (.cells #[.int .u32 2, .int .u32 (f0 : Int), .int .u32 (t0 : Int)] 87)) v R (p :: (Fs ++ (Fq ++ (Fo ++ Fb))))) := (hfar.put M (P2.mono (by simp)))
  obtain ⟨xb, cb, hvb, hlb, hb1, hb2, hb3⟩ := h.d.lies
  obtain ⟨⟨g, off, sp⟩, hxb⟩ : ∃ a, xb = some a := by
    cases xb with
    | none => have := (hb3 rfl).1; omega
    | some a => exact ⟨a, rfl⟩
  have hsp : sp = none := by
    rcases h.d.form with ⟨hv, _⟩ | ⟨g', off', cap', hv, _⟩
    · rw [hvb, hxb] at hv; cases hv
    · rw [hvb, hxb] at hv; simp at hv; exact hv.1.2.2
  subst hsp
  subst hxb
  subst hvb
  obtain ⟨nb, hnb⟩ : ∃ nb, nb = s.D.length / 64 := ⟨_, rfl⟩
  have hd0 := h.d
  rw [← hnb] at h2' g1 hb1 hd0
  have g1' : f0 < nb := by omega
  have hnb32 : (nb : Int) ≤ 32 := by omega
  have hcap : (nb : Int) ≤ cb := by omega
  have hf1' : (f0 : Int) < 4294967296 := by omega
  have ht1' : (t0 : Int) < 4294967296 := by omega
  have hq : t0 / 64 < ix.length := by omega
  have hlenD : (byt s.D).length = nb * 64 := hd0.1
  have HF : Hid (∀ w', Kep ((clrW w p).alloc (.cells #[.int .u32 2, .int .u32 (f0 : Int), .int .u32 (t0 : Int)] 87)) w' → Calls Tryz.prog 23 #[v, .int .i64 ((t0 : Int) / 64)] ((w'.setCell ⟨p, 9, none⟩ (.int .u32 0)).drew) fun e w'' => e = .returned (.slice (some ⟨w'.heap.size, 0, none⟩) 64 64) ∧ Kep ((w'.setCell ⟨p, 9, none⟩ (.int .u32 0)).drew) w'' ∧ w''.heap[w'.heap.size]? = some (.cells (byt (frameL B (ix.getD (t0 / 64) 0))).toArray 5 (0, 0))) := fun w' k => by
    have P9 : Put [p] w' ((w'.setCell ⟨p, 9, none⟩ (.int .u32 0)).drew) := ((Put.refl w').setCell (by simp) _).drew
    have M4 := (M2'.out.kep k).put P9 ((hfar'.out.kep M2'.out k).sub (by simp)).off (by simpa using fun e => hfar'.out.row (by simp [e]))
    have := frame_yes _ v R ix B M4.ram M4.row M4.fits (t0 / 64) hq
    rw [show ((t0 / 64 : Nat) : Int) = (t0 : Int) / 64 by omega] at this
    rw [show ((w'.setCell ⟨p, 9, none⟩ (.int .u32 0)).drew).heap.size = w'.heap.size by simp] at this
    exact this
  have hzl : (frameL B (ix.getD (t0 / 64) 0)).length = 64 := frameL_len (M.fits _ (by simp [List.getD, hq]))
  generalize frameL B (ix.getD (t0 / 64) 0) = X at HF hzl ⊢
  have HB : Hid (∀ (w' : World) (q : Nat), w'.heap[q]? = some (.cells (byt X).toArray 5 (0, 0)) → Calls Tryz.prog 51 #[.slice (some ⟨q, 0, none⟩) 64 64] w' fun e w'' => e = .returned (.agg (byt X).toArray) ∧ Kep w' w'') := fun w' q hq => blockOf_any w' ⟨q, 0, none⟩ 64 X hzl (fun j u hj => by rw [Addr.add_lit, Nat.zero_add, cell_of_block hq, List.getElem?_toArray]; exact hj) (block_lt hq)
  have hzl' : Hid ((byt X).length = 64) := by rw [Hid, byt_len]; exact hzl
  have hxo : Hid (∀ u ∈ byt X, u.oneCell' = true) := byt_one X
  have hXs : Hid (byt (splice s.D (64 * f0) X) = (byt s.D).take (f0 * 64) ++ byt X ++ (byt s.D).drop (f0 * 64 + 64) ∧ (splice s.D (64 * f0) X).length / 64 = nb) := by
    refine ⟨?_, ?_⟩
    · rw [← byt_splice, splice, Nat.mul_comm 64 f0, byt_len, hzl, List.append_assoc]
    · rw [length_splice _ _ _ (by rw [hzl]; omega)]; exact hnb.symm
  have hg1 : (f0 : Int) < nb := by omega
  have hFb : Hid (Fb = [g]) := (hd0.there f0 g1').2.1
  have hpg : p ≠ g := fun e => h.pb (by rw [hFb.out, e]; simp)
  have hCg : w.heap.size ≠ g := fun e => by have := hd0.lt g (by rw [hFb.out]; simp); omega
  have sz : (Tryz.prog.info? 108).map (·.size) = some (byt X).length := by rw [size_blk, hzl'.out]
  have hnb' : Hid (nb = s.D.length / 64) := hnb
  have TH : Hid (∀ w6, DevAt w6 p { s.clear with s := 0 } vs vq vo (.slice (some ⟨g, off, none⟩) nb cb) Fs Fq Fo Fb → w6.there g (off + f0 * 64) (byt X).length) := fun w6 h6 => by
    have h9 := h6.d
    rw [show ({ s.clear with s := 0 } : DS).D.length / 64 = nb from hnb'.out.symm] at h9
    rw [hzl'.out]; exact (h9.there f0 g1').1
  have SE : Hid (∀ w6, DevAt w6 p { s.clear with s := 0 } vs vq vo (.slice (some ⟨g, off, none⟩) nb cb) Fs Fq Fo Fb → DevAt (w6.setCells g (off + f0 * 64) (byt X)) p { s.clear with s := 0, D := splice s.D (64 * f0) X } vs vq vo (.slice (some ⟨g, off, none⟩) nb cb) Fs Fq Fo Fb ∧ Put Fb w6 (w6.setCells g (off + f0 * 64) (byt X))) := fun w6 h6 => by
    have h9 : Sli w6 108 64 (.slice (some ⟨g, off, none⟩) nb cb) nb (byt s.D) Fb := by
      have h9 := h6.d
      rw [show ({ s.clear with s := 0 } : DS).D.length / 64 = nb from hnb'.out.symm] at h9
      exact h9
    have P : Put Fb w6 (w6.setCells g (off + f0 * 64) (byt X)) := by rw [hFb.out]; exact Put.setCells (by simp) _ _ _ (Put.refl _)
    have h10 := h9.store f0 g1' (byt X) hzl'.out
    rw [← hXs.out.1] at h10
    refine ⟨h6.newd (D' := splice s.D (64 * f0) X) P ?_, P⟩
    rw [hXs.out.2]; exact h10
  clear h hb3 hlb hc hD hD6 M hfar g1 g2 g3 h2 P2 M2 b2 hd0 hnb hzl
  go_enter Tryz.func62, Tryz.ntmps62
  go_wp2_with (go_at_call 73; refine H.out.mono ?_; rintro e w3 ⟨rfl, k3⟩; have h3 := h2'.out.kep k3; have d9 : w3.cell? ⟨p, 9, none⟩ = some (.int .u32 s.s) := h3.c 9; have dz := h3.fz 9; have d6 : w3.cell? ⟨p, 6, none⟩ = some (.slice (some ⟨g, off, none⟩) nb cb) := h3.c 6; have b3 := k3.block b2'.out; have e0 : w3.cell? ⟨w.heap.size, 0, none⟩ = some (.int .u32 2) := cell_of_block b3; have e1 : w3.cell? ⟨w.heap.size, 1, none⟩ = some (.int .u32 (f0 : Int)) := cell_of_block b3; have e2 : w3.cell? ⟨w.heap.size, 2, none⟩ = some (.int .u32 (t0 : Int)) := cell_of_block b3; have h3' : Hid _ := h3; have K3 : Hid _ := k3; clear h3 k3 b3)
  have hpn' : w.heap.size ≠ p := fun e => hpn e.symm
  have lC : w.heap.size < w3.heap.size := World.block_lt_of_cell? _ _ e0
  have lp3 : p < w3.heap.size := World.block_lt_of_cell? _ _ d9
  go_region_held3 (fun w' => w'.cell? ⟨p, 6, none⟩ = some (.slice (some ⟨g, off, none⟩) nb cb) ∧ w'.cell? ⟨w.heap.size, 1, none⟩ = some (.int .u32 (f0 : Int))) (constructor <;> repeat (first | (with_reducible assumption) | (with_reducible refine ck_drew ?_) | (with_reducible refine ck_off (by decide) ?_) | (with_reducible refine ck_set hpn' ?_))) (first
    | (go_at_call 23; refine (HF.out _ K3.out).mono ?_; rintro e w5 ⟨rfl, k5, r5⟩; have x6 := (k5.cell (o := 6) (show p < ((w3.setCell ⟨p, 9, none⟩ (.int .u32 0)).drew).heap.size by simpa using lp3)).trans (ck_drew (ck_off (by decide) d6)); have x1 := (k5.cell (o := 1) (show w.heap.size < ((w3.setCell ⟨p, 9, none⟩ (.int .u32 0)).drew).heap.size by simpa using lC)).trans (ck_drew (ck_set hpn' e1)); have K5 : Hid _ := k5; have R5 : Hid _ := r5; clear k5 r5)
    | (go_at_call 51; refine (HB.out _ _ R5.out).mono ?_; rintro e w6 ⟨rfl, k6⟩; have ya := (k6.cell (o := 6) (World.block_lt_of_cell? _ _ x6)).trans x6; have yb := (k6.cell (o := 1) (World.block_lt_of_cell? _ _ x1)).trans x1; have y6 := cell_cells hpg (off + f0 * 64) (byt X) ya; have y1 := cell_cells hCg (off + f0 * 64) (byt X) yb; have h6 := (((status_at h3'.out 0).1.kep ((Kep.refl _).drew)).kep K5.out).kep k6; have h6' : Hid _ := h6; have K6 : Hid _ := k6; have th := TH.out w6 h6; clear k6 h6))
  go_wp2_with fail
  go_ret
  obtain ⟨r1, r2⟩ := SE.out _ h6'.out
  rw [hnb'.out] at r1
  refine ⟨rfl, r1, ?_⟩
  have q1 : Put (p :: Fb) w ((w3.setCell ⟨p, 9, none⟩ (.int .u32 0)).drew) := (((P2'.out.trans (Put.of_kep K3.out)).trans (status_at h3'.out 0).2).drew).mono (by simp)
  exact ((q1.trans (Put.of_kep K5.out)).trans (Put.of_kep K6.out)).trans (r2.mono (by simp +contextual))
theorem rg_drew {w : World} {g o : Nat} {X : List Value} (h : w.rangeAt g o X) : w.drew.rangeAt g o X := h
theorem rg_alloc {w : World} {x : Obj} {g o : Nat} {X : List Value} (h : w.rangeAt g o X) : (w.alloc x).rangeAt g o X := fun j v hj => ck_alloc (h j v hj)
theorem rg_cells {w : World} {b g o : Nat} {X : List Value} (hn : g ≠ b) (q : Nat) (ys : List Value) (h : w.rangeAt g o X) : (w.setCells b q ys).rangeAt g o X := fun j v hj => cell_cells hn q ys (h j v hj)
theorem load_row_mid (w : World) (g o : Nat) (X : List Value) (hX : X.length = 64) (h : w.rangeAt g o X) : (loadVar 108 ⟨g, o, none⟩).run Tryz.prog w = .ok (.agg X.toArray) w :=
  run_loadVar_mid w g o 108 X _ h Tryz.underlying108 rfl (by rw [size_blk, hX])
set_option maxHeartbeats 4000000 in
set_option maxRecDepth 100000 in
theorem finish_in {w : World} {p : Nat} {s : DS} {vs vq vo vb : Value} {Fs Fq Fo Fb : List Nat} (h : DevAt w p s vs vq vo vb Fs Fq Fo Fb) (hD : s.D.length ≤ 2048) (hD6 : s.D.length % 64 = 0) (v : Value) (R : Nat) (ix : List Nat) (B : List Int) (M : Mem w v R ix B) (hfar : Far w v R (p :: (Fs ++ (Fq ++ (Fo ++ Fb))))) (f0 t0 : Nat) (hf : s.f = (f0 : Int)) (ht : s.t = (t0 : Int)) (hf1 : s.f < 4294967296) (ht1 : s.t < 4294967296)
    (hc : canB s.D ix.length s.f s.t = true) (hk : s.k = 1) :
    Calls Tryz.prog 62 #[.pointer (some ⟨p, 6, none⟩), v] w fun e w' => ∃ q, e = .returned (.slice (some ⟨q, 0, none⟩) 1 1) ∧ w.heap.size ≤ q ∧ w'.heap[q]? = some (.cells #[.int .i64 ((t0 : Int) / 64)] 3 (0, 0)) ∧ DevAt w' p { s.clear with s := 0 } vs vq vo vb Fs Fq Fo Fb ∧ Put [p, R] w w' ∧ RowB w' R (layL B ix t0 (frameL s.D f0)) := by
  have c10 : w.cell? ⟨p, 10, none⟩ = some (.int .u32 1) := by rw [← hk]; exact h.c 10
  have c11 : w.cell? ⟨p, 11, none⟩ = some (.int .u32 (f0 : Int)) := by rw [← hf]; exact h.c 11
  have c12 : w.cell? ⟨p, 12, none⟩ = some (.int .u32 (t0 : Int)) := by rw [← ht]; exact h.c 12
  have fz := h.fz
  have lp := block_lt h.box
  have hpn : p ≠ w.heap.size := by omega
  have hcb := hc
  unfold canB at hcb
  simp only [Bool.and_eq_true, decide_eq_true_eq] at hcb
  obtain ⟨⟨g1, g2⟩, g3⟩ := hcb
  rw [hf] at g1
  rw [ht] at g2 g3
  obtain ⟨h2, P2, b2⟩ := clear_at h
  have M2 := M.put P2 (hfar.sub (by simp)).off (by simpa using fun e => hfar.row (by simp [e]))
  have H : Hid (Calls Tryz.prog 73 #[.pointer (some ⟨p, 6, none⟩), .agg #[.int .u32 1, .int .u32 (f0 : Int), .int .u32 (t0 : Int)], v] ((clrW w p).alloc (.cells #[.int .u32 1, .int .u32 (f0 : Int), .int .u32 (t0 : Int)] 87)) fun e w' => e = .returned (.bool true) ∧ Kep ((clrW w p).alloc (.cells #[.int .u32 1, .int .u32 (f0 : Int), .int .u32 (t0 : Int)] 87)) w') := by
    have := can_any h2 hD v R ix M2.ram M.max s.k s.f s.t (by omega) (by omega)
    rw [show canB s.clear.D ix.length s.f s.t = true from hc, hk, hf, ht] at this
    unfold cmdC at this
    rw [hk, hf, ht] at this
    exact this
  unfold cmdC at h2 P2 M2 b2
  rw [hk, hf, ht] at h2 P2 M2 b2
  have h2' : Hid _ := h2
  have P2' : Hid _ := P2
  have M2' : Hid _ := M2
  have b2' : Hid _ := b2
  have hfar' : Hid (Far ((clrW w p).alloc (.cells #[.int .u32 1, .int .u32 (f0 : Int), .int .u32 (t0 : Int)] 87)) v R (p :: (Fs ++ (Fq ++ (Fo ++ Fb))))) := (hfar.put M (P2.mono (by simp)))
  obtain ⟨xb, cb, hvb, hlb, hb1, hb2, hb3⟩ := h.d.lies
  obtain ⟨⟨g, off, sp⟩, hxb⟩ : ∃ a, xb = some a := by
    cases xb with
    | none => have := (hb3 rfl).1; omega
    | some a => exact ⟨a, rfl⟩
  have hsp : sp = none := by
    rcases h.d.form with ⟨hv, _⟩ | ⟨g', off', cap', hv, _⟩
    · rw [hvb, hxb] at hv; cases hv
    · rw [hvb, hxb] at hv; simp at hv; exact hv.1.2.2
  subst hsp
  subst hxb
  subst hvb
  obtain ⟨nb, hnb⟩ : ∃ nb, nb = s.D.length / 64 := ⟨_, rfl⟩
  have hd0 := h.d
  rw [← hnb] at h2' g1 hb1 hd0
  have g1' : f0 < nb := by omega
  have hnb32 : (nb : Int) ≤ 32 := by omega
  have hcap : (nb : Int) ≤ cb := by omega
  have hf1' : (f0 : Int) < 4294967296 := by omega
  have ht1' : (t0 : Int) < 4294967296 := by omega
  have hlenD : s.D.length = nb * 64 := by have := hd0.1; rw [byt_len] at this; exact this
  have hXl : (frameL s.D f0).length = 64 := frameL_len (by omega)
  have hbX : ((byt s.D).drop (f0 * 64)).take 64 = byt (frameL s.D f0) := by simp [byt, frameL, Nat.mul_comm]
  have hnb' : Hid (nb = s.D.length / 64) := hnb
  have TH : Hid (∀ w6, DevAt w6 p { s.clear with s := 0 } vs vq vo (.slice (some ⟨g, off, none⟩) nb cb) Fs Fq Fo Fb → w6.rangeAt g (off + f0 * 64) (byt (frameL s.D f0))) := fun w6 h6 => by
    have h9 : Sli w6 108 64 (.slice (some ⟨g, off, none⟩) nb cb) nb (byt s.D) Fb := by
      have h9 := h6.d
      rw [show ({ s.clear with s := 0 } : DS).D.length / 64 = nb from hnb'.out.symm] at h9
      exact h9
    rw [← hbX]; exact (h9.there f0 g1').2.2
  generalize frameL s.D f0 = X at TH hXl ⊢
  have hXl' : Hid ((byt X).length = 64) := by rw [Hid, byt_len]; exact hXl
  have HF : Hid (∀ (w' w'' : World) (q : Nat), Kep ((clrW w p).alloc (.cells #[.int .u32 1, .int .u32 (f0 : Int), .int .u32 (t0 : Int)] 87)) w' → Put [p] w' w'' → w'.heap.size ≤ q → w''.heap[q]? = some (.cells (byt X).toArray 108 (0, 0)) → Calls Tryz.prog 11 #[v, .int .u32 (t0 : Int), .slice (some ⟨q, 0, none⟩) 64 64] w'' fun e w5 => e = .returned (.bool true) ∧ Put [R] w'' w5 ∧ RowB w5 R (layL B ix t0 X)) := fun w' w'' q k P9 hq hb => by
    have M3 := M2'.out.kep k
    have M4 := M3.put P9 ((hfar'.out.kep M2'.out k).sub (by simp)).off (by simpa using fun e => hfar'.out.row (by simp [e]))
    have hRq : q ≠ R := fun e => by
      have hB : B ≠ [] := by
        intro e'
        have := (M3.fits.pos (a := t0) (by omega)).2
        rw [e'] at this; simp at this
      have := M3.row.lt hB
      omega
    have := fill_put w'' v R ix B M4.ram M4.max M4.row M4.fits t0 ht1' (some ⟨q, 0, none⟩) X 64 64 hXl (Nat.le_refl _) (by decide) (.inr ⟨q, 0, rfl, block_lt hb, by simpa using hRq, fun i hi => by
      rw [Nat.zero_add, cell_of_block hb, List.getElem?_toArray, byt_at]; simp [hi]⟩)
    rw [if_pos (by omega), decide_eq_true (by omega)] at this
    exact this
  have hld : Hid (∀ w, w.rangeAt g (off + f0 * 64) (byt X) → (loadVar 108 ⟨g, off + f0 * 64, none⟩).run Tryz.prog w = .ok (.agg (byt X).toArray) w) := fun w hr => load_row_mid w g _ _ hXl'.out hr
  have hxo : Hid (∀ u ∈ byt X, u.oneCell' = true) := byt_one X
  have hg1 : (f0 : Int) < nb := by omega
  have z0 := zero_blk
  clear h hb3 hlb hc hD hD6 M hfar g1 g2 g3 h2 P2 M2 b2 hd0 hnb hXl hlenD hbX
  go_enter Tryz.func62, Tryz.ntmps62
  go_wp2_with (go_at_call 73; refine H.out.mono ?_; rintro e w3 ⟨rfl, k3⟩; have h3 := h2'.out.kep k3; have d9 : w3.cell? ⟨p, 9, none⟩ = some (.int .u32 s.s) := h3.c 9; have dz := h3.fz 9; have d6 : w3.cell? ⟨p, 6, none⟩ = some (.slice (some ⟨g, off, none⟩) nb cb) := h3.c 6; have b3 := k3.block b2'.out; have e0 : w3.cell? ⟨w.heap.size, 0, none⟩ = some (.int .u32 1) := cell_of_block b3; have e1 : w3.cell? ⟨w.heap.size, 1, none⟩ = some (.int .u32 (f0 : Int)) := cell_of_block b3; have e2 : w3.cell? ⟨w.heap.size, 2, none⟩ = some (.int .u32 (t0 : Int)) := cell_of_block b3; have h3' : Hid _ := h3; have K3 : Hid _ := k3; clear h3 k3 b3)
  have hpn' : w.heap.size ≠ p := fun e => hpn e.symm
  have hr := TH.out _ (status_at h3'.out 0).1
  have sz : (Tryz.prog.info? 108).map (·.size) = some (byt X).length := by rw [size_blk, hXl'.out]
  have hu90 := Tryz.underlying108
  have hXl2 := hXl'.out
  have hxo2 := hxo.out
  have tn : (((w3.setCell ⟨p, 9, none⟩ (.int .u32 0)).drew).alloc (.cells zb64 108)).there w3.heap.size 0 64 := by
    have hb : (((w3.setCell ⟨p, 9, none⟩ (.int .u32 0)).drew).alloc (.cells zb64 108)).heap[w3.heap.size]? = some (.cells zb64 108 (0, 0)) := hat _ _ _ (by simp)
    exact fun j hj => ⟨by rw [cell_of_block hb, Array.getElem?_eq_getElem (by rw [zb64_size]; omega)]; rfl, by simp only [World.frozen?, hb]; simp⟩
  have hp3 : p ≠ w3.heap.size := Nat.ne_of_lt (World.block_lt_of_cell? _ _ d9)
  have hC3 : w.heap.size ≠ w3.heap.size := Nat.ne_of_lt (World.block_lt_of_cell? _ _ e0)
  have hg3 : g ≠ w3.heap.size := by
    have h9 := h3'.out.d.form
    rcases h9 with ⟨hv, _⟩ | ⟨g', _, _, hv, _, _, _, hl, _⟩
    · cases hv
    · simp at hv; rw [hv.1.1]; exact Nat.ne_of_lt hl
  have x6 := ck_off (j := 9) (x := .int .u32 0) (by decide) d6
  have x1 := ck_set (j := 9) (x := .int .u32 0) hpn' e1
  go_region_held3 (fun w' => w'.cell? ⟨p, 6, none⟩ = some (.slice (some ⟨g, off, none⟩) nb cb) ∧ w'.cell? ⟨w.heap.size, 1, none⟩ = some (.int .u32 (f0 : Int)) ∧ w'.rangeAt g (off + f0 * 64) (byt X)) (refine ⟨?_, ?_, ?_⟩ <;> repeat (first | (with_reducible assumption) | (with_reducible refine ck_drew ?_) | (with_reducible refine ck_alloc ?_) | (with_reducible refine rg_drew ?_) | (with_reducible refine rg_alloc ?_) | (with_reducible refine cell_cells hp3 _ _ ?_) | (with_reducible refine cell_cells hC3 _ _ ?_) | (with_reducible refine rg_cells hg3 _ _ ?_))) (fail)
  have P4 : Hid (Put [p] w3 ((((w3.setCell ⟨p, 9, none⟩ (.int .u32 0)).alloc (.cells zb64 108)).drew).setCells w3.heap.size 0 (byt X))) := by
    have q0 : Put [p, w3.heap.size] w3 (((w3.setCell ⟨p, 9, none⟩ (.int .u32 0)).alloc (.cells zb64 108)).drew) := (((Put.refl w3).setCell (by simp) _).alloc _).drew
    refine (Put.setCells (g := w3.heap.size) (by simp) (byt X) 0 _ q0).less ?_
    intro k hk hlt
    simp at hk ⊢
    omega
  have B4 : Hid (((((w3.setCell ⟨p, 9, none⟩ (.int .u32 0)).alloc (.cells zb64 108)).drew).setCells w3.heap.size 0 (byt X)).heap[w3.heap.size]? = some (.cells (byt X).toArray 108 (0, 0))) := by
    have q1 := heap_setCells_row (R := w3.heap.size) (t := 108) (byt X) 0 (((w3.setCell ⟨p, 9, none⟩ (.int .u32 0)).alloc (.cells zb64 108)).drew) zb64.toList (hat _ _ _ (by simp)) (by rw [hXl'.out]; decide)
    rw [Hid, q1, hXl'.out, List.take_zero, List.nil_append, show List.drop (0 + 64) zb64.toList = [] from rfl, List.append_nil]
  have h4 : Hid (DevAt ((((w3.setCell ⟨p, 9, none⟩ (.int .u32 0)).alloc (.cells zb64 108)).drew).setCells w3.heap.size 0 (byt X)) p { s.clear with s := 0 } vs vq vo (.slice (some ⟨g, off, none⟩) nb cb) Fs Fq Fo Fb) := by
    have a1 := ((status_at h3'.out 0).1.kep ((Kep.refl _).alloc (.cells zb64 108))).kep ((Kep.refl _).drew)
    refine a1.put (Put.setCells (g := w3.heap.size) (l := [w3.heap.size]) (by simp) (byt X) 0 _ (Put.refl _)) ?_
    intro b hb hm
    have : b < w3.heap.size := Dev.lt (w := w3) ⟨_, _, _, _, _, _, _, _, h3'.out, rfl⟩ b hb
    simp at hm; omega
  have e24 : ((((w3.setCell ⟨p, 9, none⟩ (.int .u32 0)).alloc (.cells zb64 108)).drew).setCells w3.heap.size 0 (byt X)).cell? ⟨w.heap.size, 2, none⟩ = some (.int .u32 (t0 : Int)) := cell_cells hC3 _ _ (ck_drew (ck_alloc (ck_set hpn' e2)))
  have l3 : w.heap.size ≤ w3.heap.size := Nat.le_of_lt (World.block_lt_of_cell? _ _ e0)
  generalize (((w3.setCell ⟨p, 9, none⟩ (.int .u32 0)).alloc (.cells zb64 108)).drew).setCells w3.heap.size 0 (byt X) = W4 at P4 B4 h4 e24
  clear x6 x1 tn hr hxo2 hXl2 sz
  go_wp2_with fail
  go_region_with ((go_at_call 11; refine (HF.out w3 _ w3.heap.size K3.out (P4.out.drew) (Nat.le_refl _) B4.out).mono ?_; rintro e w5 ⟨rfl, k5, r5⟩; have K5 : Hid _ := k5; have R5 : Hid _ := r5; clear k5 r5))
  all_goals
    go_wp2_with fail
    go_ret
  have r1 := ((h4.out.kep ((Kep.refl _).drew)).put K5.out (fun b hb hm => by simp at hm; subst hm; exact hfar'.out.row hb)).kep ((Kep.refl _).alloc (.cells #[.int .i64 ((t0 : Int) / 64)] 3))
  rw [hnb'.out] at r1
  have q1 : Put [p, R] w W4.drew := (((P2'.out.trans (Put.of_kep K3.out)).trans P4.out).drew).mono (by simp)
  have q2 := q1.trans (K5.out.mono (by simp))
  exact ⟨w5.heap.size, rfl, q2.size, hat _ _ _ rfl, r1, q2.alloc _, RowB.kep R5.out ((Kep.refl _).alloc _)⟩
theorem finish_any {w : World} {p : Nat} {s : DS} {F : List Nat} (h : Dev w p s F) (hD : s.D.length ≤ 2048) (hD6 : s.D.length % 64 = 0) (v : Value) (R : Nat) (ix : List Nat) (B : List Int) (M : Mem w v R ix B) (hfar : Far w v R F) (hf : 0 ≤ s.f ∧ s.f < 4294967296) (ht : 0 ≤ s.t ∧ s.t < 4294967296) (hk : s.k = 1 ∨ s.k = 2) :
    Calls Tryz.prog 62 #[.pointer (some ⟨p, 6, none⟩), v] w fun e w' => ∃ vf G, e = .returned vf ∧ Sli w' 3 1 vf (finF s ix.length).length ((finF s ix.length).map (Value.int .i64)) G ∧ (∀ g ∈ G, w.heap.size ≤ g) ∧ Dev w' p (finS s ix B) F ∧ Put (R :: F) w w' ∧ RowB w' R (finM s ix B) ∧ (∀ g ∈ G, g ∉ F) := by
  obtain ⟨vs, vq, vo, vb, Fs, Fq, Fo, Fb, h, rfl⟩ := h
  have hlt : ∀ g ∈ p :: (Fs ++ (Fq ++ (Fo ++ Fb))), g < w.heap.size := Dev.lt ⟨_, _, _, _, _, _, _, _, h, rfl⟩
  cases hc : canB s.D ix.length s.f s.t with
  | false =>
    refine (finish_no h hD v R ix B M hfar hf ht hc).mono ?_
    rintro e w' ⟨rfl, h1, h2⟩
    have e1 : finF s ix.length = [] := by simp [finF, hc]
    have e2 : finS s ix B = { s.clear with s := 2 } := by simp [finS, hc]
    have e3 : finM s ix B = B := by simp [finM, hc]
    rw [e1, e2, e3]
    exact ⟨_, [], rfl, Sli.nil _ _ _, by simp, ⟨_, _, _, _, _, _, _, _, h1, rfl⟩, h2.mono (by simp), M.row.put h2 (by simpa using fun e => hfar.row (by simp [e])), by simp⟩
  | true =>
    obtain ⟨f0, hf0⟩ : ∃ n : Nat, s.f = n := ⟨s.f.toNat, by omega⟩
    obtain ⟨t0, ht0⟩ : ∃ n : Nat, s.t = n := ⟨s.t.toNat, by omega⟩
    have ef : s.f.toNat = f0 := by omega
    have et : s.t.toNat = t0 := by omega
    have et6 : (s.t / 64).toNat = t0 / 64 := by omega
    rcases hk with hk | hk
    · refine (finish_in h hD hD6 v R ix B M hfar f0 t0 hf0 ht0 hf.2 ht.2 hc hk).mono ?_
      rintro e w' ⟨q, rfl, hq, hb, h1, h2, h3⟩
      have e1 : finF s ix.length = [(t0 : Int) / 64] := by rw [← ht0]; simp [finF, hc, hk]
      have e2 : finS s ix B = { s.clear with s := 0 } := by simp [finS, hc, hk]
      have e3 : finM s ix B = layL B ix t0 (frameL s.D f0) := by simp [finM, hc, hk, ef, et]
      rw [e1, e2, e3]
      refine ⟨_, [q], rfl, ⟨rfl, .inr ⟨q, 0, 1, _, rfl, rfl, hb, Nat.le_refl _, by decide, by simp, rfl⟩⟩, by simpa using hq, ⟨_, _, _, _, _, _, _, _, h1, rfl⟩, h2.mono (by simp), h3, ?_⟩
      intro g hg hg'
      simp at hg; subst hg
      have := hlt _ hg'; omega
    · refine (finish_out h hD hD6 v R ix B M hfar f0 t0 hf0 ht0 hf.2 ht.2 hc hk).mono ?_
      rintro e w' ⟨rfl, h1, h2⟩
      have e1 : finF s ix.length = [] := by simp [finF, hc, hk]
      have e2 : finS s ix B = { s.clear with s := 0, D := splice s.D (64 * f0) (frameL B (ix.getD (t0 / 64) 0)) } := by simp [finS, hc, hk, ef, et6]
      have e3 : finM s ix B = B := by simp [finM, hc, hk]
      rw [e1, e2, e3]
      exact ⟨_, [], rfl, Sli.nil _ _ _, by simp, ⟨_, _, _, _, _, _, _, _, h1, rfl⟩, h2.mono (by intro k hk; simp at hk ⊢; rcases hk with hk | hk <;> simp [hk]), M.row.put h2 (fun hm => hfar.row (by simp at hm ⊢; rcases hm with hm | hm <;> simp [hm])), by simp⟩
end Go.Proofs.YtnignfloedcmlaaGreatDoor
