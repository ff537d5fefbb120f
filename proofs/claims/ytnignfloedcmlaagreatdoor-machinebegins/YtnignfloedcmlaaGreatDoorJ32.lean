/- Part of a proof. -/
import Derived.Deep.MidRow
import Derived.Test.YtnignfloedcmlaaGreatDoorJ31
namespace Go.Proofs.YtnignfloedcmlaaGreatDoor
open Go.RowKit
set_option linter.unusedVariables false
set_option linter.unusedSimpArgs false
theorem hidd {p : Prop} (h : p) : Hid p := h
theorem ntV_len (e : Nt) : (ntV e).length = 4 := rfl
theorem nts_len (N : List Nt) : (nts N).length = N.length * 4 := by
  induction N with
  | nil => rfl
  | cons e r ih => have h4 := ntV_len e; simp [nts] at ih ⊢; omega
theorem nts_snoc (N : List Nt) (e : Nt) : nts (N ++ [e]) = nts N ++ ntV e := by simp [nts]
theorem nts_at (N : List Nt) (k : Nat) (e : Nt) (h : N[k]? = some e) (j : Nat) (hj : j < 4) : (nts N)[k * 4 + j]? = (ntV e)[j]? := by
  induction N generalizing k with
  | nil => simp at h
  | cons a r ih =>
    have hc : nts (a :: r) = ntV a ++ nts r := by simp [nts]
    rw [hc]
    cases k with
    | zero =>
      obtain rfl : a = e := by simpa using h
      rw [List.getElem?_append_left (by rw [ntV_len]; omega)]
      congr 1; omega
    | succ k =>
      rw [List.getElem?_append_right (by rw [ntV_len]; omega), ntV_len, ← ih k (by simpa using h)]
      congr 1; omega
def mchV (vm vd : Value) (s : Sta) (n : Int) (vn : Value) : Array Value := #[vm, vd,
  .int .u32 (s.r 0), .int .u32 (s.r 1), .int .u32 (s.r 2), .int .u32 (s.r 3), .int .u32 (s.r 4), .int .u32 (s.r 5), .int .u32 (s.r 6), .int .u32 (s.r 7), .int .u32 s.pc, .int .u32 s.ps,
  .int .u32 (s.c 0), .int .u32 (s.c 1), .int .u32 (s.c 2), .int .u32 (s.c 3), .int .u32 (s.c 4), .int .u32 (s.c 5), .int .u32 (s.c 6), .int .u32 (s.c 7), .bool s.h, .int .i64 n, vn]
abbrev mpt (p : Nat) : Value := .pointer (some ⟨p, 0, none⟩)
def Bx (w : World) (p : Nat) (vm vd : Value) (s : Sta) (n : Int) (vn : Value) : Prop := w.heap[p]? = some (.cells (mchV vm vd s n vn) 72 (0, 0))
theorem Bx.cm {w : World} {p : Nat} {vm vd : Value} {s : Sta} {n : Int} {vn : Value} (h : Bx w p vm vd s n vn) : w.cell? ⟨p, 0, none⟩ = some vm := cell_of_block h
theorem Bx.cd {w : World} {p : Nat} {vm vd : Value} {s : Sta} {n : Int} {vn : Value} (h : Bx w p vm vd s n vn) : w.cell? ⟨p, 1, none⟩ = some vd := cell_of_block h
theorem Bx.pc {w : World} {p : Nat} {vm vd : Value} {s : Sta} {n : Int} {vn : Value} (h : Bx w p vm vd s n vn) : w.cell? ⟨p, 10, none⟩ = some (.int .u32 s.pc) := cell_of_block h
theorem Bx.ps {w : World} {p : Nat} {vm vd : Value} {s : Sta} {n : Int} {vn : Value} (h : Bx w p vm vd s n vn) : w.cell? ⟨p, 11, none⟩ = some (.int .u32 s.ps) := cell_of_block h
theorem Bx.c0 {w : World} {p : Nat} {vm vd : Value} {s : Sta} {n : Int} {vn : Value} (h : Bx w p vm vd s n vn) : w.cell? ⟨p, 12, none⟩ = some (.int .u32 (s.c 0)) := cell_of_block h
theorem Bx.hl {w : World} {p : Nat} {vm vd : Value} {s : Sta} {n : Int} {vn : Value} (h : Bx w p vm vd s n vn) : w.cell? ⟨p, 20, none⟩ = some (.bool s.h) := cell_of_block h
theorem Bx.cn {w : World} {p : Nat} {vm vd : Value} {s : Sta} {n : Int} {vn : Value} (h : Bx w p vm vd s n vn) : w.cell? ⟨p, 21, none⟩ = some (.int .i64 n) := cell_of_block h
theorem Bx.cN {w : World} {p : Nat} {vm vd : Value} {s : Sta} {n : Int} {vn : Value} (h : Bx w p vm vd s n vn) : w.cell? ⟨p, 22, none⟩ = some vn := cell_of_block h
theorem Bx.fz {w : World} {p : Nat} {vm vd : Value} {s : Sta} {n : Int} {vn : Value} (h : Bx w p vm vd s n vn) (k : Nat) : w.frozen? ⟨p, k, none⟩ = false := frozen_of_row _ _ _ _ _ h
theorem Bx.lt {w : World} {p : Nat} {vm vd : Value} {s : Sta} {n : Int} {vn : Value} (h : Bx w p vm vd s n vn) : p < w.heap.size := block_lt h
theorem Bx.kep {w w' : World} {p : Nat} {vm vd : Value} {s : Sta} {n : Int} {vn : Value} (h : Bx w p vm vd s n vn) (k : Kep w w') : Bx w' p vm vd s n vn := k.block h
theorem Bx.put {w w' : World} {p : Nat} {vm vd : Value} {s : Sta} {n : Int} {vn : Value} {l : List Nat} (h : Bx w p vm vd s n vn) (k : Put l w w') (hp : p ∉ l) : Bx w' p vm vd s n vn := k.keeps h hp
theorem mch_parts (vm vd : Value) (s : Sta) (n : Int) (vn : Value) : (mchV vm vd s n vn).toList = [vm, vd] ++ (s.v.toList ++ [.int .i64 n, vn]) := rfl
theorem Bx.st {w : World} {p : Nat} {vm vd : Value} {s : Sta} {n : Int} {vn : Value} (h : Bx w p vm vd s n vn) : w.rangeAt p 2 s.v.toList := fun j v hv => by
  have hj : j < s.v.toList.length := (List.getElem?_eq_some_iff.1 hv).1
  rw [cell_of_block h, ← Array.getElem?_toList, mch_parts, List.getElem?_append_right (by simp), List.getElem?_append_left (by simpa using hj), ← hv]
  congr 1
  simp
theorem Bx.there {w : World} {p : Nat} {vm vd : Value} {s : Sta} {n : Int} {vn : Value} (h : Bx w p vm vd s n vn) : w.there p 2 19 := fun j hj => ⟨h.st.isSome j (by exact hj), h.fz _⟩
theorem Bx.setSt {w : World} {p : Nat} {vm vd : Value} {s : Sta} {n : Int} {vn : Value} (h : Bx w p vm vd s n vn) (t : Sta) : Bx (w.setCells p 2 t.v.toList) p vm vd t n vn := by
  have h' : w.heap[p]? = some (.cells (mchV vm vd s n vn).toList.toArray 72 (0, 0)) := h
  unfold Bx
  rw [heap_setCells_row t.v.toList 2 w _ h' (by exact (by decide : 2 + 19 ≤ 23))]
  rfl
theorem Bx.setN {w : World} {p : Nat} {vm vd : Value} {s : Sta} {n : Int} {vn : Value} (h : Bx w p vm vd s n vn) (m : Int) : Bx (w.setCell ⟨p, 21, none⟩ (.int .i64 m)) p vm vd s m vn := by
  unfold Bx; rw [heap_setCell_row h]; rfl
theorem Bx.setL {w : World} {p : Nat} {vm vd : Value} {s : Sta} {n : Int} {vn : Value} (h : Bx w p vm vd s n vn) (v : Value) : Bx (w.setCell ⟨p, 22, none⟩ v) p vm vd s n v := by
  unfold Bx; rw [heap_setCell_row h]; rfl
structure MAt (w : World) (p pm R : Nat) (ix : List Nat) (x : MS) (q : Nat) (vn : Value) (Fd Fn : List Nat) : Prop where
  box : Bx w p (mpt pm) (mpt q) x.s x.n vn
  dev : Dev w q x.d Fd
  nts : Sli w 76 4 vn x.N.length (nts x.N) Fn
  mem : Mem w (mpt pm) R ix x.B
  far : Far w (mpt pm) R (p :: (Fd ++ Fn))
  pd : p ∉ Fd
  pn : p ∉ Fn
  dn : ∀ g ∈ Fd, g ∉ Fn
  lo : ∀ g ∈ R :: (p :: (Fd ++ Fn)), 2 ≤ g
def Mach (w : World) (p pm R : Nat) (ix : List Nat) (x : MS) (G : List Nat) : Prop := ∃ q vn Fd Fn, MAt w p pm R ix x q vn Fd Fn ∧ G = p :: (Fd ++ Fn)
structure MS.Ok (x : MS) : Prop where
  d : x.d.Ok
  e : x.d.E.length ≤ 64
  s : x.s.Ok
  B : x.B ≠ []
  n : 0 ≤ x.n
structure Room (k : Nat) (x : MS) : Prop where
  N : x.N.length + k ≤ 900000
  O : x.d.O.length + k ≤ 900000
  n : x.n + k ≤ 4398046511104
theorem Room.less {k m : Nat} {x : MS} (h : Room k x) (hm : m ≤ k) : Room m x := ⟨by have := h.N; omega, by have := h.O; omega, by have := h.n; omega⟩
theorem MAt.put {w w' : World} {p pm R : Nat} {ix : List Nat} {x : MS} {q : Nat} {vn : Value} {Fd Fn l : List Nat} (h : MAt w p pm R ix x q vn Fd Fn) (k : Put l w w') (hl : ∀ g ∈ R :: (p :: (Fd ++ Fn)), g ∉ l) (ho : Off w (mpt pm) l) : MAt w' p pm R ix x q vn Fd Fn :=
  ⟨h.box.put k (hl p (by simp)), h.dev.put k (fun g hg => hl g (by simp [hg])), h.nts.put k (fun g hg => hl g (by simp [hg])), h.mem.put k ho (hl R (by simp)), ⟨Off.stay h.mem.ram h.far.off k ho, h.far.row⟩, h.pd, h.pn, h.dn, h.lo⟩
theorem MAt.kep {w w' : World} {p pm R : Nat} {ix : List Nat} {x : MS} {q : Nat} {vn : Value} {Fd Fn : List Nat} (h : MAt w p pm R ix x q vn Fd Fn) (k : Kep w w') : MAt w' p pm R ix x q vn Fd Fn :=
  h.put (l := []) (Put.of_kep k) (by simp) (fun p e => ⟨by simp, by simp⟩)
theorem Mach.kep {w w' : World} {p pm R : Nat} {ix : List Nat} {x : MS} {G : List Nat} (h : Mach w p pm R ix x G) (k : Kep w w') : Mach w' p pm R ix x G := by
  obtain ⟨q, vn, Fd, Fn, h, e⟩ := h
  exact ⟨q, vn, Fd, Fn, h.kep k, e⟩
theorem Mach.put {w w' : World} {p pm R : Nat} {ix : List Nat} {x : MS} {G l : List Nat} (h : Mach w p pm R ix x G) (k : Put l w w') (hl : ∀ g ∈ R :: G, g ∉ l) (ho : Off w (mpt pm) l) : Mach w' p pm R ix x G := by
  obtain ⟨q, vn, Fd, Fn, h, rfl⟩ := h
  exact ⟨q, vn, Fd, Fn, h.put k hl ho, rfl⟩
theorem Mach.lt {w : World} {p pm R : Nat} {ix : List Nat} {x : MS} {G : List Nat} (h : Mach w p pm R ix x G) (hB : x.B ≠ []) : ∀ g ∈ R :: G, g < w.heap.size := by
  obtain ⟨q, vn, Fd, Fn, h, rfl⟩ := h
  intro g hg
  simp only [List.mem_cons, List.mem_append] at hg
  rcases hg with rfl | rfl | hg | hg
  · exact h.mem.row.lt hB
  · exact h.box.lt
  · exact h.dev.lt g hg
  · exact h.nts.lt g hg
theorem Mach.lo {w : World} {p pm R : Nat} {ix : List Nat} {x : MS} {G : List Nat} (h : Mach w p pm R ix x G) : ∀ g ∈ R :: G, 2 ≤ g := by
  obtain ⟨q, vn, Fd, Fn, h, rfl⟩ := h
  exact h.lo
theorem Tabs.put {w w' : World} {l : List Nat} (h : Tabs w) (k : Put l w w') (hl : ∀ g ∈ l, 2 ≤ g) : Tabs w' := by
  obtain ⟨⟨t0, e0⟩, t1, e1⟩ := h
  exact ⟨⟨t0, k.keeps e0 (fun hm => by have := hl _ hm; omega)⟩, t1, k.keeps e1 (fun hm => by have := hl _ hm; omega)⟩
theorem Mem.turn {w w' : World} {v : Value} {R : Nat} {ix l : List Nat} {B C : List Int} (h : Mem w v R ix B) (k : Put l w w') (ho : Off w v l) (hC : RowB w' R C) (hl : C.length = B.length) (hb : Byts C) : Mem w' v R ix C := ⟨h.ram.off k ho, hC, h.fits.len hl, hb, h.max⟩
def Goes (w : World) (p pm R : Nat) (ix : List Nat) (G : List Nat) (y : MS) (W : World) : Prop := ∃ G', Mach W p pm R ix y G' ∧ Put (R :: G) w W ∧ ∀ g ∈ G', g ∈ G ∨ w.heap.size ≤ g
theorem Goes.of_kep {w W : World} {p pm R : Nat} {ix : List Nat} {x : MS} {G : List Nat} (h : Mach w p pm R ix x G) (k : Kep w W) : Goes w p pm R ix G x W := ⟨G, h.kep k, Put.of_kep k, fun g hg => .inl hg⟩
theorem mworks_yes (w : World) (p pm : Nat) (hc : w.cell? ⟨p, 0, none⟩ = some (.pointer (some ⟨pm, 0, none⟩))) :
    Calls Tryz.prog 32 #[.pointer (some ⟨p, 0, none⟩)] w fun e w' => e = .returned (.bool true) ∧ w' = w := by
  go_enter Tryz.func32, Tryz.ntmps32
  go_wp2
  go_ret
  exact ⟨rfl, rfl⟩
theorem stands_yes (w : World) (p pm : Nat) (b : Bool) (hc : w.cell? ⟨p, 0, none⟩ = some (.pointer (some ⟨pm, 0, none⟩))) (hh : w.cell? ⟨p, 20, none⟩ = some (.bool b)) :
    Calls Tryz.prog 42 #[.pointer (some ⟨p, 0, none⟩)] w fun e w' => e = .returned (.bool b) ∧ w' = w := by
  have H : Hid (Calls Tryz.prog 32 #[.pointer (some ⟨p, 0, none⟩)] w fun e w' => e = .returned (.bool true) ∧ w' = w) := mworks_yes w p pm hc
  clear hc
  go_enter Tryz.func42, Tryz.ntmps42
  go_wp2_with (go_at_call 32; refine H.out.mono ?_; rintro e w1 ⟨rfl, rfl⟩)
  go_ret
  exact ⟨rfl, rfl⟩
theorem led_ram {w : World} {pm R : Nat} {ix : List Nat} {B : List Int} (M : Mem w (mpt pm) R ix B) {s : Sta} (ok : s.Ok) (a kind : Int) (ha : 0 ≤ a ∧ a < 4294967296) :
    Calls Tryz.prog 121 #[mpt pm, .int .u32 (s.c 0), .int .i64 16, .int .u32 s.ps, .int .u32 a, .int .i64 kind] w fun e w' => e = .returned (.tuple (toR (ledF B ix s a kind))) ∧ Kep w w' := by
  have hc := ok.c 0
  have hp := ok.ps
  have h := to_ram M.ram M.max M.row M.fits M.byts (s.c 0).toNat 16 s.ps.toNat a.toNat kind (by omega) (by omega) (by omega)
  rw [Int.toNat_of_nonneg hc.1, Int.toNat_of_nonneg hp.1, Int.toNat_of_nonneg ha.1] at h
  exact h
set_option maxHeartbeats 4000000 in
set_option maxRecDepth 100000 in
theorem lead_any {w : World} {p pm R : Nat} {ix : List Nat} {B : List Int} {vd : Value} {s : Sta} {n : Int} {vn : Value} (bx : Bx w p (mpt pm) vd s n vn) (M : Mem w (mpt pm) R ix B) (ok : s.Ok) (a kind : Int) (ha : 0 ≤ a ∧ a < 4294967296) :
    Calls Tryz.prog 94 #[.pointer (some ⟨p, 0, none⟩), .int .u32 a, .int .i64 kind] w fun e w' => e = .returned (.tuple (toR (ledF B ix s a kind))) ∧ Kep w w' := by
  obtain ⟨r0, r1, hr⟩ : ∃ r0 r1, Hid (toR (ledF B ix s a kind) = #[r0, r1]) := by
    unfold toR; split <;> exact ⟨_, _, rfl⟩
  have HT : Hid (∀ w', Kep w w' → Calls Tryz.prog 121 #[.pointer (some ⟨pm, 0, none⟩), .int .u32 (s.c 0), .int .i64 16, .int .u32 s.ps, .int .u32 a, .int .i64 kind] w' fun e w'' => e = .returned (.tuple #[r0, r1]) ∧ Kep w' w'') := fun w' k => by
    have := led_ram (M.kep k) ok a kind ha
    rw [hr.out] at this; exact this
  rw [hr.out]
  have c0 := KW.cell (w := w) bx.cm
  have c1 := KW.cell (w := w) bx.c0
  have c2 := KW.cell (w := w) bx.ps
  generalize s.c 0 = sc at HT c1
  generalize s.ps = sp at HT c2
  clear hr bx M ok ha
  go_enter Tryz.func94, Tryz.ntmps94
  go_wp2_with fail
  have hne : Nonempty (KW w) := ⟨⟨_, Kep.refl _⟩⟩
  refine region_kw (by kernel_rfl) (by kernel_rfl) ?_
  repeat (go_big_quiet_step ((go_at_call 121; refine (HT.out _ (KW.ok _)).mono ?_; rintro e w8 ⟨rfl, k8⟩; exact ⟨rfl, ⟨_, kep_trans (KW.ok _) k8⟩, rfl⟩)))
  refine wpQuiet_nil ?_
  rintro _ ⟨i, rfl⟩
  have G3 : Hid (Kep w i.val) := i.ok
  go_wp2_with fail
  go_ret2
  exact ⟨rfl, G3.out⟩
set_option maxHeartbeats 1000000 in
theorem handOut_any {w : World} {p : Nat} {vm vd : Value} {s : Sta} {n : Int} {vn : Value} (bx : Bx w p vm vd s n vn) :
    Calls Tryz.prog 77 #[.pointer (some ⟨p, 0, none⟩)] w fun e w' => ∃ g h : Nat, e = .returned (.func (.func 93) #[] #[.pointer (some ⟨g, 0, none⟩), .pointer (some ⟨h, 0, none⟩)]) ∧ w'.heap[g]? = some (.cells #[.int .u32 s.pc] 23 (0, 0)) ∧ w'.heap[h]? = some (.cells #[.pointer (some ⟨p, 0, none⟩)] 27 (0, 0)) ∧ Kep w w' ∧ w.heap.size ≤ g ∧ w.heap.size ≤ h ∧ g ≠ h := by
  have c := bx.pc
  have lp := bx.lt
  clear bx
  generalize s.pc = pc at c
  have hmf : ∀ (fn : Fn) (first cap : Array Value) (w : World), (Instr.makeFunc fn first cap).run Tryz.prog w = .ok (.func fn first cap) w := fun _ _ _ _ => rfl
  go_enter Tryz.func77, Tryz.ntmps77
  go_wp2
  go_ret
  exact ⟨w.heap.size + 1, w.heap.size, rfl, hat _ _ _ (by simp), (hsk _ _ _ (by simp)).trans (hat _ _ _ rfl), ((Kep.refl _).alloc _).alloc _, by omega, by omega, by omega⟩
theorem lookF_lt {M : Nat → Option Nat} {s root : Nat} {dirs : Int} {va : Nat} {y : Wy} (h : lookF M s root dirs va = some y) : y.at_ < s := by
  unfold lookF at h
  split at h
  · unfold look1 at h
    split at h
    · cases h
    · split at h
      · cases h
      · unfold look2 at h
        split at h
        · cases h
        · split at h
          · cases h
          · unfold look3 at h
            split at h
            · rename_i hlt
              cases h
              exact hlt
            · cases h
  · cases h
theorem toF_lt {M : Nat → Option Nat} {s root : Nat} {dirs : Int} {ps va : Nat} {kind : Int} {q : Nat} (h : toF M s root dirs ps va kind = some q) : q < s := by
  unfold toF at h
  split at h
  · unfold toW at h
    split at h
    · cases h
    · rename_i y hy
      split at h
      · cases h; exact lookF_lt hy
      · cases h
  · split at h
    · rename_i hlt
      cases h; exact hlt.1
    · cases h
theorem ledF_lt {B : List Int} {ix : List Nat} {s : Sta} {a kind : Int} {q : Nat} (h : ledF B ix s a kind = some q) : q < 64 * ix.length := toF_lt h
theorem rdB_in {B : List Int} {ix : List Nat} {q : Nat} (h : q < 64 * ix.length) : rdB B ix q = B.getD (pos ix q) 0 := by unfold rdB; rw [if_pos h]
theorem rdB_range {B : List Int} (hb : Byts B) (ix : List Nat) (q : Nat) : 0 ≤ rdB B ix q ∧ rdB B ix q < 256 := by
  unfold rdB; split
  · exact hb.at _
  · decide
def hndR (B : List Int) (ix : List Nat) (s : Sta) (a : Int) : Int × Int × Int := match ledF B ix s a 1 with
  | none => (0, 5, a)
  | some q => (rdB B ix q, 0, 0)
theorem resultsT1 {P : Program} {fn : Func} {p u : Tmp} {ty : TypeId} (h : fn.results = #[.tmp u, .cell p ty]) (tmps : Array Value) (w : World) (g : Nat) (t : TypeId) (cs : Array Value) (fr : Nat × Nat) (d : TypeDesc)
    (hp : tmps.getD p undef = .pointer (some ⟨g, 0, none⟩)) (hg : w.heap[g]? = some (.cells cs t fr))
    (hu : P.underlying ty = some d) (hd : (match d with | .struct _ | .array _ _ => true | _ => false) = true) (hi : (P.info? ty).map (·.size) = some cs.size) :
    (results fn tmps).run P w = .ok (.tuple #[tmps.getD u undef, .agg cs]) w := by
  have hp' : tmps[p]?.getD undef = .pointer (some ⟨g, 0, none⟩) := by simpa using hp
  simp [results, h, hp', asAddr, run_loadVar_row w g t ty cs fr d hg hu hd hi]
set_option maxHeartbeats 4000000 in
set_option maxRecDepth 100000 in
theorem hand_any {w : World} {p pm R : Nat} {ix : List Nat} {B : List Int} {vd : Value} {s : Sta} {n : Int} {vn : Value} (bx : Bx w p (mpt pm) vd s n vn) (M : Mem w (mpt pm) R ix B) (ok : s.Ok) (g h : Nat) (a : Int) (ha : 0 ≤ a ∧ a < 4294967296)
    (hg : w.heap[g]? = some (.cells #[.int .u32 a] 23 (0, 0))) (hh : w.heap[h]? = some (.cells #[.pointer (some ⟨p, 0, none⟩)] 27 (0, 0))) (hgR : g ≠ R) (hgM : Off w (mpt pm) [g]) :
    Calls Tryz.prog 93 #[.pointer (some ⟨g, 0, none⟩), .pointer (some ⟨h, 0, none⟩)] w fun e w' => e = .returned (.tuple #[.int .u8 (hndR B ix s a).1, .agg (fltV (hndR B ix s a).2)]) ∧ w'.heap[g]? = some (.cells #[.int .u32 ((a + 1) % 4294967296)] 23 (0, 0)) ∧ Put [g] w w' := by
  have c0 : w.cell? ⟨g, 0, none⟩ = some (.int .u32 a) := cell_of_block hg
  have f0 : w.frozen? ⟨g, 0, none⟩ = false := row_frozen hg 0
  have lg := block_lt hg
  have lh := block_lt hh
  have lp := bx.lt
  have gh : h ≠ g := by intro e; subst e; rw [hg] at hh; cases hh
  have gp : p ≠ g := by
    intro e; subst e
    have e : some (Obj.cells (mchV (mpt pm) vd s n vn) 72 (0, 0)) = some (.cells #[.int .u32 a] 23 (0, 0)) := bx.symm.trans hg
    have := congrArg (fun o : Option Obj => match o with | some (.cells c _ _) => c.size | _ => 0) e
    exact absurd this (by show ¬ (23 = 1); decide)
  obtain ⟨V, hV⟩ : ∃ V, Hid ((w.setCell ⟨g, 0, none⟩ (.int .u32 ((a + 1) % 4294967296))).alloc (.cells #[.int .i64 0, .int .u32 0] 100) = V) := ⟨_, rfl⟩
  have PV : Hid (Put [g] w V) := by rw [Hid, ← hV.out]; exact ((Put.refl w).setCell (by simp) _).alloc _
  have GV : Hid (V.heap[g]? = some (.cells #[.int .u32 ((a + 1) % 4294967296)] 23 (0, 0))) := by rw [Hid, ← hV.out]; exact ((Kep.refl _).alloc _).block (heap_setCell_row hg _)
  have ZV : Hid (V.heap[w.heap.size]? = some (.cells #[.int .i64 0, .int .u32 0] 100 (0, 0))) := by rw [Hid, ← hV.out]; exact hat _ _ _ (by simp)
  have HV : V.cell? ⟨h, 0, none⟩ = some (.pointer (some ⟨p, 0, none⟩)) := (cell_of_block (PV.out.keeps hh (by simpa using gh)))
  have bV : Hid (Bx V p (mpt pm) vd s n vn) := bx.put PV.out (by simpa using gp)
  have MV : Hid (Mem V (mpt pm) R ix B) := M.put PV.out hgM (by simpa using Ne.symm hgR)
  have HL : Hid (Calls Tryz.prog 94 #[.pointer (some ⟨p, 0, none⟩), .int .u32 a, .int .i64 1] V fun e w' => e = .returned (.tuple (toR (ledF B ix s a 1))) ∧ Kep V w') := lead_any bV.out MV.out ok a 1 ha
  have lV := block_lt ZV.out
  have lhV := block_lt (PV.out.keeps hh (by simpa using gh))
  clear bx M hg hh hgM hgR
  unfold hndR
  cases hq : ledF B ix s a 1 with
  | none =>
    rw [hq] at HL
    have HL' : Hid (Calls Tryz.prog 94 #[.pointer (some ⟨p, 0, none⟩), .int .u32 a, .int .i64 1] V fun e w' => e = .returned (.tuple #[.int .u32 0, .bool false]) ∧ Kep V w') := HL
    clear HL hq ok
    go_enter Tryz.func93, Tryz.ntmps93
    go_upto_region 3 with fail
    rw [hV.out]
    go_wp2_with fail
    refine HL'.out.mono ?_
    rintro e w1 ⟨rfl, k1⟩
    have Z1 : Hid (w1.heap[w.heap.size]? = some (.cells #[.int .i64 0, .int .u32 0] 100 (0, 0))) := k1.block ZV.out
    have G1 : Hid (w1.heap[g]? = some (.cells #[.int .u32 ((a + 1) % 4294967296)] 23 (0, 0))) := k1.block GV.out
    have P1 : Hid (Put [g] w w1) := PV.out.trans (Put.of_kep k1)
    have N1 : Hid (w.heap.size ∉ [g]) := by show w.heap.size ∉ [g]; simp; omega
    have z0 : w1.cell? ⟨w.heap.size, 0, none⟩ = some (.int .i64 0) := cell_of_block Z1.out
    have z1 : w1.cell? ⟨w.heap.size, 1, none⟩ = some (.int .u32 0) := cell_of_block Z1.out
    have zf := fun j => row_frozen Z1.out j
    clear k1 c0 f0 HV lV lhV
    go_wp2_with fail
    refine bodyPost_ret (v := .tuple #[.int .u8 0, .agg #[.int .i64 5, .int .u32 a]]) (resultsT1 (p := 3) (u := 2) (ty := 100) rfl _ _ w.heap.size 100 #[.int .i64 5, .int .u32 a] (0, 0) _ rfl ((heap_setCell_row (heap_setCell_row Z1.out _) _).trans rfl) Tryz.underlying100 rfl size_flt) rfl ⟨rfl, ?_, ?_⟩
    · exact (heap_setCell_other _ _ _ _ (by simp; omega)).trans ((heap_setCell_other _ _ _ _ (by simp; omega)).trans G1.out)
    · exact (P1.out.setCellNew (by simp) _).setCellNew (by simp) _
  | some q =>
    rw [hq] at HL
    have hql := ledF_lt hq
    have hmx := MV.out.max
    have HL' : Hid (Calls Tryz.prog 94 #[.pointer (some ⟨p, 0, none⟩), .int .u32 a, .int .i64 1] V fun e w' => e = .returned (.tuple #[.int .u32 q, .bool true]) ∧ Kep V w') := HL
    have HB : Hid (∀ w', Kep V w' → Calls Tryz.prog 95 #[.pointer (some ⟨pm, 0, none⟩), .int .u32 q] w' fun e w'' => e = .returned (.tuple #[.int .u8 (rdB B ix q), .bool true]) ∧ w'' = w') := fun w' k => by
      have M' := MV.out.kep k
      have := byte_any w' (mpt pm) R ix B M'.ram M'.max M'.row M'.fits q (by omega)
      rw [if_pos hql, ← rdB_in hql] at this
      exact this
    dsimp only
    generalize rdB B ix q = rb at HB ⊢
    have hb' : Hid (∀ w', Kep V w' → w'.cell? ⟨p, 0, none⟩ = some (.pointer (some ⟨pm, 0, none⟩)) ∧ w'.cell? ⟨h, 0, none⟩ = some (.pointer (some ⟨p, 0, none⟩))) := fun w' k => ⟨(bV.out.kep k).cm, (k.cell lhV).trans HV⟩
    clear HL hq ok hql hmx
    go_enter Tryz.func93, Tryz.ntmps93
    go_upto_region 3 with fail
    rw [hV.out]
    go_wp2_with fail
    refine HL'.out.mono ?_
    rintro e w1 ⟨rfl, k1⟩
    have Z1 : Hid (w1.heap[w.heap.size]? = some (.cells #[.int .i64 0, .int .u32 0] 100 (0, 0))) := k1.block ZV.out
    have G1 : Hid (w1.heap[g]? = some (.cells #[.int .u32 ((a + 1) % 4294967296)] 23 (0, 0))) := k1.block GV.out
    have P1 : Hid (Put [g] w w1) := PV.out.trans (Put.of_kep k1)
    have N1 : Hid (w.heap.size ∉ [g]) := by show w.heap.size ∉ [g]; simp; omega
    have z0 : w1.cell? ⟨w.heap.size, 0, none⟩ = some (.int .i64 0) := cell_of_block Z1.out
    have z1 : w1.cell? ⟨w.heap.size, 1, none⟩ = some (.int .u32 0) := cell_of_block Z1.out
    have zf := fun j => row_frozen Z1.out j
    obtain ⟨cp, ch⟩ := hb'.out w1 k1
    have K1 : Hid (Kep V w1) := k1
    clear k1 c0 f0 HV lV lhV
    go_wp2_with (go_at_call 95; refine (HB.out _ K1.out).mono ?_; rintro e w2 ⟨rfl, rfl⟩)
    refine bodyPost_ret (v := .tuple #[.int .u8 rb, .agg #[.int .i64 0, .int .u32 0]]) (resultsT1 (p := 3) (u := 2) (ty := 100) rfl _ _ w.heap.size 100 #[.int .i64 0, .int .u32 0] (0, 0) _ rfl ((heap_setCell_row (heap_setCell_row Z1.out _) _).trans rfl) Tryz.underlying100 rfl size_flt) rfl ⟨rfl, ?_, ?_⟩
    · exact (heap_setCell_other _ _ _ _ (by simp; omega)).trans ((heap_setCell_other _ _ _ _ (by simp; omega)).trans G1.out)
    · exact (P1.out.setCellNew (by simp) _).setCellNew (by simp) _
end Go.Proofs.YtnignfloedcmlaaGreatDoor
