/- Part of a proof. -/
import Derived.Stop.RegionWithIn
import Derived.Test.YtamffningddgbaaGreatDoorJ12
namespace Go.Proofs.YtamffningddgbaaGreatDoor
open Go.RowKit
set_option linter.unusedVariables false
set_option linter.unusedSimpArgs false
def pgB (s : Sta) : Bool := s.ps.toNat / 4 % 2 == 1
def wy0 : Wy := ⟨0, 0, 0, 0, 0, 0⟩
def wyF (B : List Int) (ix : List Nat) (s : Sta) (a : Int) : Option Wy := (ledF B ix s a 1).map fun q => if pgB s = true then (lookF (wdF B ix) (64 * ix.length) (s.c 0).toNat 16 a.toNat).getD wy0 else ⟨0, q, 0, 0, 0, q / 64⟩
abbrev Sr := Int × Wy
def srV (x : Sr) : List Value := [.int .u32 x.1, .int .u32 x.2.bits, .int .u32 x.2.at_, .int .u32 x.2.entry, .int .i64 x.2.dir, .int .i64 x.2.tab, .int .i64 x.2.page]
def srs (L : List Sr) : List Value := L.flatMap srV
def srAt (B : List Int) (ix : List Nat) (s : Sta) (k : Nat) : Sr := (plc s k, (wyF B ix s (plc s k)).getD wy0)
def srN (B : List Int) (ix : List Nat) (s : Sta) (n : Nat) : List Sr := (List.range n).map (srAt B ix s)
def srF (B : List Int) (ix : List Nat) (s : Sta) : List Sr := srN B ix s (fetN B ix s)
def pgL (L : List Sr) : List Int := risL (L.map fun x => x.1 / 64)
def fmL (L : List Sr) : List Int := risL (L.map fun x => (x.2.page : Int))
def tbL (L : List Sr) : List Int := risL (L.flatMap fun x => [(x.2.dir : Int), (x.2.tab : Int)])
def endI (op : Int) : Int := if gE (tabF op) = false then 1 else if op = 64 ∨ op = 72 then 2 else if 65 ≤ op ∧ op ≤ 71 then 3 else 4
structure SB where
  I : List In4
  A : List Int
  R : List Sr
  n : Int
  e : Int
  t : Int
def insF4 (B : List Int) (ix : List Nat) (s : Sta) : In4 := (fetO B ix s, fetA B ix s, fetB B ix s, fetM B ix s)
def SB.stop (B : List Int) (ix : List Nat) (s : Sta) (x : SB) : Bool := (fetF B ix (s.go x.n)).1 != 0 || decide (2 < (pgL (x.R ++ srF B ix (s.go x.n))).length)
def SB.one (B : List Int) (ix : List Nat) (s : Sta) (x : SB) : SB :=
  { I := x.I ++ [insF4 B ix (s.go x.n)], A := x.A ++ [x.n], R := x.R ++ srF B ix (s.go x.n), n := (x.n + fetN B ix (s.go x.n)) % 4294967296, e := endI (fetO B ix (s.go x.n)),
    t := if endI (fetO B ix (s.go x.n)) = 2 ∨ endI (fetO B ix (s.go x.n)) = 3 then (x.n + fetN B ix (s.go x.n) + fetM B ix (s.go x.n)) % 4294967296 else 0 }
def SB.run (B : List Int) (ix : List Nat) (s : Sta) : Nat → SB → SB
  | 0, x => x
  | k + 1, x => if x.stop B ix s = true then x else if (x.one B ix s).e = 1 then SB.run B ix s k (x.one B ix s) else x.one B ix s
def sb0 (s : Sta) : SB := ⟨[], [], [], s.pc, 0, 0⟩
def mstN (m : Int) : Nat := (min (max m 1) 32).toNat
def scnB (B : List Int) (ix : List Nat) (s : Sta) (m : Int) : SB := SB.run B ix s (mstN m) (sb0 s)
def scnT (s : Sta) (x : SB) : List Int := if pgB s = true then tbL x.R else []
theorem srs_len : ∀ L : List Sr, (srs L).length = L.length * 7
  | [] => rfl
  | x :: L => by
    have := srs_len L
    unfold srs at this ⊢
    rw [List.flatMap_cons, List.length_append, this, List.length_cons]
    show 7 + _ = _
    omega
theorem srs_app (L M : List Sr) : srs (L ++ M) = srs L ++ srs M := by simp [srs]
theorem srs_one (L : List Sr) : ∀ u ∈ srs L, u.oneCell' = true := by
  intro u hu
  obtain ⟨e, _, he⟩ := List.mem_flatMap.1 hu
  simp only [srV, List.mem_cons, List.not_mem_nil, or_false] at he
  rcases he with rfl | rfl | rfl | rfl | rfl | rfl | rfl <;> rfl
theorem srs_at : ∀ (L : List Sr) (k : Nat) (e : Sr), L[k]? = some e → ∀ j, j < 7 → (srs L)[k * 7 + j]? = (srV e)[j]?
  | [], k, e, h, j, hj => by simp at h
  | x :: L, 0, e, h, j, hj => by
    simp at h; subst h
    have hc : srs (x :: L) = srV x ++ srs L := by simp [srs]
    rw [hc, List.getElem?_append_left (by simp [srV]; omega)]
    simp
  | x :: L, k + 1, e, h, j, hj => by
    have hc : srs (x :: L) = srV x ++ srs L := by simp [srs]
    rw [hc, List.getElem?_append_right (by simp [srV]; omega), ← srs_at L k e (by simpa using h) j hj]
    congr 1; simp [srV]; omega
theorem srN_snoc (B : List Int) (ix : List Nat) (s : Sta) (n : Nat) : srN B ix s (n + 1) = srN B ix s n ++ [srAt B ix s n] := by
  unfold srN; rw [List.range_succ, List.map_append]; rfl
theorem srN_len (B : List Int) (ix : List Nat) (s : Sta) (n : Nat) : (srN B ix s n).length = n := by simp [srN]
theorem wyF_none {B : List Int} {ix : List Nat} {s : Sta} {a : Int} (h : ledF B ix s a 1 = none) : wyF B ix s a = none := by unfold wyF; rw [h]; rfl
theorem wyF_flat {B : List Int} {ix : List Nat} {s : Sta} {a : Int} {q : Nat} (h : ledF B ix s a 1 = some q) (hp : pgB s = false) : wyF B ix s a = some ⟨0, q, 0, 0, 0, q / 64⟩ := by unfold wyF; rw [h, hp]; rfl
theorem ledF_page {B : List Int} {ix : List Nat} {s : Sta} {a : Int} {q : Nat} (h : ledF B ix s a 1 = some q) (hp : pgB s = true) : ∃ y, lookF (wdF B ix) (64 * ix.length) (s.c 0).toNat 16 a.toNat = some y ∧ y.at_ = q := by
  unfold ledF toF at h
  have hp' : s.ps.toNat / 4 % 2 = 1 := by unfold pgB at hp; simpa using hp
  rw [if_pos hp'] at h
  unfold toW at h
  split at h
  · cases h
  · rename_i y hy
    split at h
    · cases h; exact ⟨y, hy, rfl⟩
    · cases h
theorem wyF_page {B : List Int} {ix : List Nat} {s : Sta} {a : Int} {q : Nat} (h : ledF B ix s a 1 = some q) (hp : pgB s = true) : wyF B ix s a = lookF (wdF B ix) (64 * ix.length) (s.c 0).toNat 16 a.toNat := by
  obtain ⟨y, hy, _⟩ := ledF_page h hp
  unfold wyF; rw [h, hp, hy]; rfl
theorem wyF_at {B : List Int} {ix : List Nat} {s : Sta} {a : Int} {q : Nat} (h : ledF B ix s a 1 = some q) : ∃ y, wyF B ix s a = some y ∧ y.at_ = q := by
  cases hp : pgB s with
  | true => obtain ⟨y, hy, e⟩ := ledF_page h hp; exact ⟨y, (wyF_page h hp).trans hy, e⟩
  | false => exact ⟨_, wyF_flat h hp, rfl⟩
theorem size_src : (Tryz.prog.info? 74).map (·.size) = some 7 := by kernel_rfl
theorem paged_any (w : World) {s : Sta} (ok : s.Ok) :
    Calls Tryz.prog 27 #[.agg s.v] w fun e w' => e = .returned (.bool (pgB s)) ∧ Kep w w' := by
  have a4 : (bits .and .u32 s.ps 4 != 0) = pgB s := by
    have hp := ok.ps
    obtain ⟨n, hn⟩ : ∃ n : Nat, s.ps = n := ⟨s.ps.toNat, by omega⟩
    unfold pgB
    rw [hn, and4 n (by omega), Bool.eq_iff_iff]
    simp; omega
  have c9 : (w.alloc (.cells s.v 28)).cell? ⟨w.heap.size, 9, none⟩ = some (.int .u32 s.ps) := At.ps (hat _ _ _ rfl)
  have K := hidd ((Kep.refl w).alloc (.cells s.v 28))
  generalize pgB s = b at *
  go_enter Tryz.func27, Tryz.ntmps27
  go_upto_region 1 with fail
  generalize w.alloc (.cells s.v 28) = W at *
  go_wp2
  go_ret
  exact ⟨rfl, K.out⟩
set_option maxHeartbeats 4000000 in
set_option maxRecDepth 100000 in
theorem blead_any {w : World} {pm R : Nat} {ix : List Nat} {B : List Int} (M : Mem w (mpt pm) R ix B) {s : Sta} (ok : s.Ok) (a : Int) (ha : 0 ≤ a ∧ a < 4294967296) :
    Calls Tryz.prog 48 #[.pointer (some ⟨pm, 0, none⟩), .agg s.v, .int .u32 a] w fun e w' => e = .returned (.tuple (wyR (wyF B ix s a))) ∧ Kep w w' := by
  have HT : Hid (∀ w', Kep w w' → Calls Tryz.prog 71 #[.pointer (some ⟨pm, 0, none⟩), .int .u32 (s.c 0), .int .i64 16, .int .u32 s.ps, .int .u32 a, .int .i64 1] w' fun e w'' => e = .returned (.tuple (toR (ledF B ix s a 1))) ∧ Kep w' w'') := fun w' k => led_ram (M.kep k) ok a 1 ha
  have HP : Hid (∀ w', Calls Tryz.prog 27 #[.agg s.v] w' fun e w'' => e = .returned (.bool (pgB s)) ∧ Kep w' w'') := fun w' => paged_any w' ok
  have HL : Hid (∀ w', Kep w w' → Calls Tryz.prog 72 #[.pointer (some ⟨pm, 0, none⟩), .int .u32 (s.c 0), .int .i64 16, .int .u32 a] w' fun e w'' => e = .returned (.tuple (wyR (lookF (wdF B ix) (64 * ix.length) (s.c 0).toNat 16 a.toNat))) ∧ Kep w' w'') := fun w' k => by
    have M' := M.kep k
    have hc := ok.c 0
    have h := look_ram M'.ram M'.max M'.row M'.fits M'.byts (s.c 0).toNat 16 a.toNat (by omega) (by omega)
    rw [Int.toNat_of_nonneg hc.1, Int.toNat_of_nonneg ha.1] at h
    exact h
  have hlt : Hid (∀ q, ledF B ix s a 1 = some q → (q : Int) < 4294967296) := fun q h => by
    have := ledF_lt h; have := M.max; show (q : Int) < _; omega
  obtain ⟨W, hW⟩ : ∃ W, Hid ((w.alloc (.cells s.v 28)).alloc (.cells (wayV 0 0 0 0 0 0) 72) = W) := ⟨_, rfl⟩
  have KW : Hid (Kep w W) := by rw [Hid, ← hW.out]; exact ((Kep.refl w).alloc _).alloc _
  have SW : Hid (At W w.heap.size s) := by rw [Hid, ← hW.out]; exact ((Kep.refl _).alloc _).block (hat _ _ _ rfl)
  have ZW : Hid (W.heap[w.heap.size + 1]? = some (.cells (wayV 0 0 0 0 0 0) 72 (0, 0))) := by rw [Hid, ← hW.out]; exact blkA
  have c9 : W.cell? ⟨w.heap.size, 9, none⟩ = some (.int .u32 s.ps) := SW.out.ps
  have c10 : W.cell? ⟨w.heap.size, 10, none⟩ = some (.int .u32 (s.c 0)) := cell_of_block SW.out
  obtain ⟨g, hg⟩ : ∃ g, Hid (g = w.heap.size + 1) := ⟨_, rfl⟩
  rw [← hg.out] at ZW
  have gl : Hid (w.heap.size ≤ g) := by have := hg.out; show _ ≤ g; omega
  clear ok M
  cases hq : ledF B ix s a 1 with
  | none =>
    rw [wyF_none hq]
    rw [hq] at HT
    have HT' : Hid (∀ w', Kep w w' → Calls Tryz.prog 71 #[.pointer (some ⟨pm, 0, none⟩), .int .u32 (s.c 0), .int .i64 16, .int .u32 s.ps, .int .u32 a, .int .i64 1] w' fun e w'' => e = .returned (.tuple #[.int .u32 0, .bool false]) ∧ Kep w' w'') := HT
    clear HT hq HL hlt
    go_enter Tryz.func48, Tryz.ntmps48
    go_upto_region 1 with fail
    rw [hW.out, ← hg.out]
    go_wp2_with fail
    refine (HT'.out W KW.out).mono ?_
    rintro e w1 ⟨rfl, k1⟩
    have K1 := hidd (kep_trans KW.out k1)
    have Z1 := hidd (k1.block ZW.out)
    obtain ⟨d0, d1, d2, d3, d4, d5, fz⟩ := way_cells Z1.out
    clear k1 HT' c9 c10
    go_wp2_with fail
    refine bodyPost_ret (resultsC1 rfl _ _ g 72 (wayV 0 0 0 0 0 0) (0, 0) _ rfl ?_ Tryz.underlying72 rfl size_way) rfl ⟨rfl, ?_⟩
    · exact (heap_setCell_row (heap_setCell_row (heap_setCell_row (heap_setCell_row (heap_setCell_row (heap_setCell_row Z1.out _) _) _) _) _) _).trans rfl
    · exact (((((K1.out.setCell gl.out _).setCell gl.out _).setCell gl.out _).setCell gl.out _).setCell gl.out _).setCell gl.out _
  | some q =>
    rw [hq] at HT
    have HT' : Hid (∀ w', Kep w w' → Calls Tryz.prog 71 #[.pointer (some ⟨pm, 0, none⟩), .int .u32 (s.c 0), .int .i64 16, .int .u32 s.ps, .int .u32 a, .int .i64 1] w' fun e w'' => e = .returned (.tuple #[.int .u32 q, .bool true]) ∧ Kep w' w'') := HT
    have hq4 := hlt.out q hq
    cases hp : pgB s with
    | true =>
      rw [wyF_page hq hp]
      rw [hp] at HP
      obtain ⟨y, hy, hyq⟩ := ledF_page hq hp
      clear hyq
      rw [hy] at HL ⊢
      obtain ⟨yb, ya, ye, yd, yt, yp⟩ := y
      have HL' : Hid (∀ w', Kep w w' → Calls Tryz.prog 72 #[.pointer (some ⟨pm, 0, none⟩), .int .u32 (s.c 0), .int .i64 16, .int .u32 a] w' fun e w'' => e = .returned (.tuple #[.agg (wayV yb ya ye yd yt yp), .bool true]) ∧ Kep w' w'') := HL
      clear HT hq HL hlt hp hy
      go_enter Tryz.func48, Tryz.ntmps48
      go_upto_region 1 with fail
      rw [hW.out, ← hg.out]
      go_wp2_with fail
      refine (HT'.out W KW.out).mono ?_
      rintro e w1 ⟨rfl, k1⟩
      have K1 := hidd (kep_trans KW.out k1)
      have Z1 := hidd (k1.block ZW.out)
      have S1 : Hid (w1.heap[w.heap.size]? = some (.cells s.v 28 (0, 0))) := k1.block SW.out
      clear k1 HT' c9 c10
      go_upto_region 5 with fail
      refine wp_region_lit ?_
      refine wpList_load_row (by rfl) 28 _ (by rfl) w.heap.size (by rfl) 28 s.v (0, 0) _ S1.out Tryz.underlying28 rfl (by exact size_sta) ?_
      go_wp2_with fail
      refine (HP.out w1).mono ?_
      rintro e w2 ⟨rfl, k2⟩
      have K2 := hidd (kep_trans K1.out k2)
      have Z2 := hidd (k2.block Z1.out)
      clear k2 HP
      go_wp2_with fail
      refine (HL'.out w2 K2.out).mono ?_
      rintro e w3 ⟨rfl, k3⟩
      have K3 := hidd (kep_trans K2.out k3)
      have Z3 := hidd (k3.block Z2.out)
      obtain ⟨d0, d1, d2, d3, d4, d5, fz⟩ := way_cells Z3.out
      clear k3 HL'
      go_wp2_with fail
      refine bodyPost_ret (resultsC1 rfl _ _ g 72 (wayV yb ya ye yd yt yp) (0, 0) _ rfl ?_ Tryz.underlying72 rfl size_way) rfl ⟨rfl, ?_⟩
      · exact (heap_setCell_row (heap_setCell_row (heap_setCell_row (heap_setCell_row (heap_setCell_row (heap_setCell_row Z3.out _) _) _) _) _) _).trans rfl
      · exact (((((K3.out.setCell gl.out _).setCell gl.out _).setCell gl.out _).setCell gl.out _).setCell gl.out _).setCell gl.out _
    | false =>
      rw [wyF_flat hq hp]
      rw [hp] at HP
      have q0 : (0 : Int) ≤ q := by omega
      clear HT hq HL hlt hp
      go_enter Tryz.func48, Tryz.ntmps48
      go_upto_region 1 with fail
      rw [hW.out, ← hg.out]
      go_wp2_with fail
      refine (HT'.out W KW.out).mono ?_
      rintro e w1 ⟨rfl, k1⟩
      have K1 := hidd (kep_trans KW.out k1)
      have Z1 := hidd (k1.block ZW.out)
      have S1 : Hid (w1.heap[w.heap.size]? = some (.cells s.v 28 (0, 0))) := k1.block SW.out
      clear k1 HT' c9 c10
      go_upto_region 5 with fail
      refine wp_region_lit ?_
      refine wpList_load_row (by rfl) 28 _ (by rfl) w.heap.size (by rfl) 28 s.v (0, 0) _ S1.out Tryz.underlying28 rfl (by exact size_sta) ?_
      go_wp2_with fail
      refine (HP.out w1).mono ?_
      rintro e w2 ⟨rfl, k2⟩
      have K2 := hidd (kep_trans K1.out k2)
      have Z2 := hidd (k2.block Z1.out)
      obtain ⟨d0, d1, d2, d3, d4, d5, fz⟩ := way_cells Z2.out
      clear k2 HP
      go_wp2_with fail
      refine bodyPost_ret (resultsC1 rfl _ _ g 72 (wayV 0 q 0 0 0 ((q / 64 : Nat) : Int)) (0, 0) _ rfl ?_ Tryz.underlying72 rfl size_way) rfl ⟨rfl, ?_⟩
      · exact (heap_setCell_row (heap_setCell_row (heap_setCell_row (heap_setCell_row (heap_setCell_row (heap_setCell_row Z2.out _) _) _) _) _) _).trans rfl
      · exact (((((K2.out.setCell gl.out _).setCell gl.out _).setCell gl.out _).setCell gl.out _).setCell gl.out _).setCell gl.out _
set_option maxHeartbeats 1000000 in
theorem bhandOut_any (w : World) (p : Option Addr) (s : Sta) (a : Int) :
    Calls Tryz.prog 21 #[.pointer p, .agg s.v, .int .u32 a] w fun e w' => e = .returned (.func (.func 47) #[] #[.pointer (some ⟨w.heap.size + 2, 0, none⟩), .pointer (some ⟨w.heap.size, 0, none⟩), .pointer (some ⟨w.heap.size + 1, 0, none⟩)]) ∧
      w'.heap[w.heap.size + 2]? = some (.cells #[.int .u32 a] 25 (0, 0)) ∧ w'.heap[w.heap.size]? = some (.cells #[.pointer p] 32 (0, 0)) ∧ At w' (w.heap.size + 1) s ∧ Kep w w' := by
  have hmf : ∀ (fn : Fn) (first cap : Array Value) (w : World), (Instr.makeFunc fn first cap).run Tryz.prog w = .ok (.func fn first cap) w := fun _ _ _ _ => rfl
  obtain ⟨sv, hs⟩ : ∃ sv, Hid (s.v = sv) := ⟨_, rfl⟩
  unfold At
  rw [hs.out]
  go_enter Tryz.func21, Tryz.ntmps21
  go_wp2
  go_ret
  exact ⟨rfl, blkA, blkA, blkA, ((((Kep.refl _).alloc _).alloc _).alloc _)⟩
theorem resultsTCT {P : Program} {fn : Func} {p u v : Tmp} {ty : TypeId} (h : fn.results = #[.tmp u, .cell p ty, .tmp v]) (tmps : Array Value) (w : World) (g : Nat) (t : TypeId) (cs : Array Value) (fr : Nat × Nat) (d : TypeDesc)
    (hp : tmps.getD p undef = .pointer (some ⟨g, 0, none⟩)) (hg : w.heap[g]? = some (.cells cs t fr))
    (hu : P.underlying ty = some d) (hd : (match d with | .struct _ | .array _ _ => true | _ => false) = true) (hi : (P.info? ty).map (·.size) = some cs.size) :
    (results fn tmps).run P w = .ok (.tuple #[tmps.getD u undef, .agg cs, tmps.getD v undef]) w := by
  have hp' : tmps[p]?.getD undef = .pointer (some ⟨g, 0, none⟩) := by simpa using hp
  simp [results, h, hp', asAddr, run_loadVar_row w g t ty cs fr d hg hu hd hi]
abbrev srcA (a : Int) (b t e d n p : Int) : Array Value := #[.int .u32 a, .int .u32 b, .int .u32 t, .int .u32 e, .int .i64 d, .int .i64 n, .int .i64 p]
theorem src_cells {w : World} {g : Nat} {a b t e d n p : Int} (h : w.heap[g]? = some (.cells (srcA a b t e d n p) 74 (0, 0))) :
    w.cell? ⟨g, 0, none⟩ = some (.int .u32 a) ∧ w.cell? ⟨g, 1, none⟩ = some (.int .u32 b) ∧ w.cell? ⟨g, 2, none⟩ = some (.int .u32 t) ∧ w.cell? ⟨g, 3, none⟩ = some (.int .u32 e) ∧ w.cell? ⟨g, 4, none⟩ = some (.int .i64 d) ∧ w.cell? ⟨g, 5, none⟩ = some (.int .i64 n) ∧ w.cell? ⟨g, 6, none⟩ = some (.int .i64 p) ∧ ∀ k, w.frozen? ⟨g, k, none⟩ = false :=
  ⟨cell_of_block h, cell_of_block h, cell_of_block h, cell_of_block h, cell_of_block h, cell_of_block h, cell_of_block h, fun k => by simp [World.frozen?, h]⟩
def bhV (B : List Int) (ix : List Nat) (s : Sta) (a : Int) : Array Value := match wyF B ix s a with
  | none => #[.int .u8 0, .agg (srcA a 0 0 0 0 0 0), .bool false]
  | some y => #[.int .u8 (rdB B ix y.at_), .agg (srcA a y.bits y.at_ y.entry y.dir y.tab y.page), .bool true]
theorem wyF_lt {B : List Int} {ix : List Nat} {s : Sta} {a : Int} {y : Wy} (h : wyF B ix s a = some y) : y.at_ < 64 * ix.length := by
  cases hq : ledF B ix s a 1 with
  | none => rw [wyF_none hq] at h; cases h
  | some q =>
    obtain ⟨z, hz, e⟩ := wyF_at hq
    rw [h] at hz; cases hz
    rw [e]; exact ledF_lt hq
set_option maxHeartbeats 4000000 in
set_option maxRecDepth 100000 in
theorem bhand_any {w : World} {pm R : Nat} {ix : List Nat} {B : List Int} (M : Mem w (mpt pm) R ix B) {s : Sta} (ok : s.Ok) (g r st : Nat) (a : Int) (ha : 0 ≤ a ∧ a < 4294967296)
    (hg : w.heap[g]? = some (.cells #[.int .u32 a] 25 (0, 0))) (hr : w.heap[r]? = some (.cells #[.pointer (some ⟨pm, 0, none⟩)] 32 (0, 0))) (hs : At w st s) (hgR : g ≠ R) (hgM : Off w (mpt pm) [g]) :
    Calls Tryz.prog 47 #[.pointer (some ⟨g, 0, none⟩), .pointer (some ⟨r, 0, none⟩), .pointer (some ⟨st, 0, none⟩)] w fun e w' => e = .returned (.tuple (bhV B ix s a)) ∧ w'.heap[g]? = some (.cells #[.int .u32 ((a + 1) % 4294967296)] 25 (0, 0)) ∧ Put [g] w w' := by
  have c0 : w.cell? ⟨g, 0, none⟩ = some (.int .u32 a) := cell_of_block hg
  have f0 : w.frozen? ⟨g, 0, none⟩ = false := row_frozen hg 0
  have lg := block_lt hg
  have rg : r ≠ g := by intro e; subst e; rw [hg] at hr; cases hr
  have sg : st ≠ g := by
    intro e; subst e
    have e : some (Obj.cells s.v 28 (0, 0)) = some (.cells #[.int .u32 a] 25 (0, 0)) := hs.symm.trans hg
    have := congrArg (fun o : Option Obj => match o with | some (.cells c _ _) => c.size | _ => 0) e
    exact absurd this (by show ¬ (19 = 1); decide)
  obtain ⟨V, hV⟩ : ∃ V, Hid ((w.setCell ⟨g, 0, none⟩ (.int .u32 ((a + 1) % 4294967296))).alloc (.cells (srcA 0 0 0 0 0 0 0) 74) = V) := ⟨_, rfl⟩
  have PV : Hid (Put [g] w V) := by rw [Hid, ← hV.out]; exact ((Put.refl w).setCell (by simp) _).alloc _
  have GV : Hid (V.heap[g]? = some (.cells #[.int .u32 ((a + 1) % 4294967296)] 25 (0, 0))) := by rw [Hid, ← hV.out]; exact ((Kep.refl _).alloc _).block (heap_setCell_row hg _)
  have ZV : Hid (V.heap[w.heap.size]? = some (.cells (srcA 0 0 0 0 0 0 0) 74 (0, 0))) := by rw [Hid, ← hV.out]; exact hat _ _ _ (by simp)
  have cr : V.cell? ⟨r, 0, none⟩ = some (.pointer (some ⟨pm, 0, none⟩)) := cell_of_block (PV.out.keeps hr (by simpa using rg))
  have CR : Hid (∀ w', Kep V w' → w'.cell? ⟨r, 0, none⟩ = some (.pointer (some ⟨pm, 0, none⟩))) := fun w' k => (k.cell (block_lt (PV.out.keeps hr (by simpa using rg)))).trans cr
  have SV : Hid (V.heap[st]? = some (.cells s.v 28 (0, 0))) := PV.out.keeps hs (by simpa using sg)
  have MV : Hid (Mem V (mpt pm) R ix B) := M.put PV.out hgM (by simpa using Ne.symm hgR)
  have HL : Hid (Calls Tryz.prog 48 #[.pointer (some ⟨pm, 0, none⟩), .agg s.v, .int .u32 a] V fun e w' => e = .returned (.tuple (wyR (wyF B ix s a))) ∧ Kep V w') := blead_any MV.out ok a ha
  have lw : Hid (w.heap.size < V.heap.size) := block_lt ZV.out
  have lg' : Hid (g < w.heap.size) := lg
  clear M hr hs hgM hgR hg
  unfold bhV
  cases hq : wyF B ix s a with
  | none =>
    rw [hq] at HL
    have HL' : Hid (Calls Tryz.prog 48 #[.pointer (some ⟨pm, 0, none⟩), .agg s.v, .int .u32 a] V fun e w' => e = .returned (.tuple #[.agg (wayV 0 0 0 0 0 0), .bool false]) ∧ Kep V w') := HL
    clear HL hq ok CR
    go_enter Tryz.func47, Tryz.ntmps47
    go_upto_region 3 with fail
    rw [hV.out]
    obtain ⟨i4, q4⟩ : ∃ i4, Hid (i4 = w.heap.size) := ⟨_, rfl⟩
    rw [← q4.out] at ZV lw lg' ⊢
    refine wp_region_lit ?_
    go_wp2_with (refine wpList_load_row (by rfl) 28 _ (by rfl) st (by rfl) 28 s.v (0, 0) _ SV.out Tryz.underlying28 rfl (by exact size_sta) ?_)
    refine HL'.out.mono ?_
    rintro e w1 ⟨rfl, k1⟩
    have Z1 := hidd (k1.block ZV.out)
    have G1 := hidd (k1.block GV.out)
    have P1 := hidd (PV.out.trans (Put.of_kep k1))
    have l1 : Hid (i4 < w1.heap.size) := k1.lt lw.out
    clear k1 c0 f0 cr HL'
    go_upto_region 5 with fail
    obtain ⟨V2, hV2⟩ : ∃ V2, Hid (w1.alloc (.cells (wayV 0 0 0 0 0 0) 72) = V2) := ⟨_, rfl⟩
    rw [hV2.out]
    have Z2 : Hid (V2.heap[i4]? = some (.cells (srcA 0 0 0 0 0 0 0) 74 (0, 0))) := by rw [Hid, ← hV2.out]; exact ((Kep.refl _).alloc _).block Z1.out
    have G2 : Hid (V2.heap[g]? = some (.cells #[.int .u32 ((a + 1) % 4294967296)] 25 (0, 0))) := by rw [Hid, ← hV2.out]; exact ((Kep.refl _).alloc _).block G1.out
    have P2 : Hid (Put [g] w V2) := by rw [Hid, ← hV2.out]; exact P1.out.alloc _
    obtain ⟨e0, e1, e2, e3, e4, e5, e6, fz⟩ := src_cells Z2.out
    go_wp2_with fail
    have N1 : i4 ≠ g := by have := lg'.out; omega
    refine bodyPost_ret (v := .tuple #[.int .u8 0, .agg (srcA a 0 0 0 0 0 0), .bool false]) (resultsTCT (u := 3) (p := 4) (v := 5) (ty := 74) rfl _ _ i4 74 (srcA a 0 0 0 0 0 0) (0, 0) _ rfl ?_ Tryz.underlying74 rfl size_src) rfl ⟨rfl, ?_, ?_⟩
    · exact (heap_setCell_row (heap_setCell_row (heap_setCell_row (heap_setCell_row (heap_setCell_row (heap_setCell_row (heap_setCell_row Z2.out _) _) _) _) _) _) _).trans rfl
    · iterate 7 (refine (heap_setCell_other _ _ _ _ (by simp; omega)).trans ?_)
      exact G2.out
    · have h4 : w.heap.size ≤ i4 := by have := q4.out; omega
      iterate 7 (refine Put.setCellNew ?_ h4 _)
      exact P2.out
  | some y =>
    obtain ⟨yb, ya, ye, yd, yt, yp⟩ := y
    have hat_ : ya < 64 * ix.length := wyF_lt hq
    have hmx := MV.out.max
    rw [hq] at HL
    have HL' : Hid (Calls Tryz.prog 48 #[.pointer (some ⟨pm, 0, none⟩), .agg s.v, .int .u32 a] V fun e w' => e = .returned (.tuple #[.agg (wayV yb ya ye yd yt yp), .bool true]) ∧ Kep V w') := HL
    have HB : Hid (∀ w', Kep V w' → Calls Tryz.prog 49 #[.pointer (some ⟨pm, 0, none⟩), .int .u32 ya] w' fun e w'' => e = .returned (.tuple #[.int .u8 (rdB B ix ya), .bool true]) ∧ w'' = w') := fun w' k => by
      have M' := MV.out.kep k
      have := byte_any w' (mpt pm) R ix B M'.ram M'.max M'.row M'.fits ya (by omega)
      rw [if_pos hat_, ← rdB_in hat_] at this
      exact this
    dsimp only
    generalize rdB B ix ya = rb at HB ⊢
    clear HL hq ok hat_ hmx
    go_enter Tryz.func47, Tryz.ntmps47
    go_upto_region 3 with fail
    rw [hV.out]
    obtain ⟨i4, q4⟩ : ∃ i4, Hid (i4 = w.heap.size) := ⟨_, rfl⟩
    rw [← q4.out] at ZV lw lg' ⊢
    refine wp_region_lit ?_
    go_wp2_with (refine wpList_load_row (by rfl) 28 _ (by rfl) st (by rfl) 28 s.v (0, 0) _ SV.out Tryz.underlying28 rfl (by exact size_sta) ?_)
    refine HL'.out.mono ?_
    rintro e w1 ⟨rfl, k1⟩
    have K1 := hidd k1
    have Z1 := hidd (k1.block ZV.out)
    have G1 := hidd (k1.block GV.out)
    have P1 := hidd (PV.out.trans (Put.of_kep k1))
    have l1 : Hid (i4 < w1.heap.size) := k1.lt lw.out
    clear k1 c0 f0 cr HL'
    go_upto_region 6 with fail
    obtain ⟨V2, hV2⟩ : ∃ V2, Hid (w1.alloc (.cells (wayV yb ya ye yd yt yp) 72) = V2) := ⟨_, rfl⟩
    rw [hV2.out]
    obtain ⟨i7, q7⟩ : ∃ i7, Hid (i7 = w1.heap.size) := ⟨_, rfl⟩
    rw [← q7.out]
    have k2 : Kep w1 V2 := by rw [← hV2.out]; exact (Kep.refl _).alloc _
    have Z2 := hidd (k2.block Z1.out)
    have G2 := hidd (k2.block G1.out)
    have P2 := hidd (P1.out.trans (Put.of_kep k2))
    have W2 : Hid (V2.heap[i7]? = some (.cells (wayV yb ya ye yd yt yp) 72 (0, 0))) := by rw [Hid, ← hV2.out, q7.out]; exact hat _ _ _ rfl
    have K2 := hidd (kep_trans K1.out k2)
    have cr2 := CR.out V2 K2.out
    have hB2 := hidd (HB.out V2 K2.out)
    have n7 : i7 ≠ i4 := by have := q7.out; have := l1.out; omega
    obtain ⟨d0, d1, d2, d3, d4, d5, fy⟩ := way_cells W2.out
    obtain ⟨e0, e1, e2, e3, e4, e5, e6, fz⟩ := src_cells Z2.out
    clear k2 K1 K2 CR HB
    go_wp2_with (go_at_call 49; refine hB2.out.mono ?_; rintro e w3 ⟨rfl, rfl⟩)
    go_region
    go_wp2_with fail
    have N1 : i4 ≠ g := by have := lg'.out; omega
    refine bodyPost_ret (v := .tuple #[.int .u8 rb, .agg (srcA a yb ya ye yd yt yp), .bool true]) (resultsTCT (u := 3) (p := 4) (v := 5) (ty := 74) rfl _ _ i4 74 (srcA a yb ya ye yd yt yp) (0, 0) _ rfl ?_ Tryz.underlying74 rfl size_src) rfl ⟨rfl, ?_, ?_⟩
    · exact (drew_heap _ _).trans ((heap_setCell_row (heap_setCell_row (heap_setCell_row (heap_setCell_row (heap_setCell_row (heap_setCell_row (heap_setCell_row Z2.out _) _) _) _) _) _) _).trans rfl)
    · refine (drew_heap _ _).trans ?_
      iterate 7 (refine (heap_setCell_other _ _ _ _ (by simp; omega)).trans ?_)
      exact G2.out
    · have h4 : w.heap.size ≤ i4 := by have := q4.out; omega
      refine Put.drew ?_
      iterate 7 (refine Put.setCellNew ?_ h4 _)
      exact P2.out
theorem bh_none {B : List Int} {ix : List Nat} {s : Sta} {k : Nat} (h : bytF B ix s k = none) : bhV B ix s (plc s k) = #[.int .u8 0, .agg (srcA (plc s k) 0 0 0 0 0 0), .bool false] := by
  unfold bytF at h; rw [Option.map_eq_none_iff] at h
  unfold bhV; rw [wyF_none h]
theorem bh_some {B : List Int} {ix : List Nat} {s : Sta} {k : Nat} {b : Int} (h : bytF B ix s k = some b) : ∃ y : Wy, srAt B ix s k = (plc s k, y) ∧ bhV B ix s (plc s k) = #[.int .u8 b, .agg (srcA (plc s k) y.bits y.at_ y.entry y.dir y.tab y.page), .bool true] := by
  unfold bytF at h
  obtain ⟨q, h1, h2⟩ := Option.map_eq_some_iff.1 h
  obtain ⟨y, hy, e⟩ := wyF_at h1
  refine ⟨y, ?_, ?_⟩
  · unfold srAt; rw [hy]; rfl
  · unfold bhV; rw [hy]; dsimp only; rw [e, h2]
def dE (B : List Int) (ix : List Nat) (s : Sta) (k : Nat) : Int := if k = 0 then 20 else errD (fetR B ix s) (zsF B ix s k) k
def dI (B : List Int) (ix : List Nat) (s : Sta) (k : Nat) : Array Value := if k = 0 then zeroI else insD (fetR B ix s) (zsF B ix s k) k
def dN (B : List Int) (ix : List Nat) (s : Sta) (k : Nat) : Int := if k = 0 then 0 else numD (fetR B ix s) (zsF B ix s k) k
theorem fetR_lt (B : List Int) (ix : List Nat) (s : Sta) : fetR B ix s < 10 := rowOf_lt _ _
theorem fetN_sz (B : List Int) (ix : List Nat) (s : Sta) : (fetN B ix s : Int) = sz (fetR B ix s) ∧ fetN B ix s ≤ 6 ∧ (fetN B ix s = 0 ↔ fetR B ix s = 0) := by
  obtain ⟨h0, h1, h2⟩ := sz_six (fetR_lt B ix s)
  unfold fetN
  refine ⟨by omega, by omega, ?_⟩
  rw [← h2]; omega
theorem bdec_any {B : List Int} {ix : List Nat} {s : Sta} (hb : Byts B) (k : Nat) (hk : ∀ j, j < k → (bytF B ix s j).isSome = true) {w : World} {x : Option Addr} {cs : Nat} {G : List Nat} (h : Sli w 5 1 (.slice x k cs) k (byt (zsF B ix s k)) G) (hT : Tabs w) :
    Calls Tryz.prog 46 #[.slice x k cs, .bool false] w fun e w' => e = .returned (.tuple #[.agg (dI B ix s k), .int .i64 (dN B ix s k), .int .i64 (dE B ix s k)]) ∧ Kep w w' := by
  cases k with
  | zero => exact dec_empty x cs false w
  | succ k =>
    obtain ⟨x1, c1, hv1, hlies, hle1, hmx1, _⟩ := h.lies
    cases hv1
    obtain ⟨bb, off, rfl, hbb, hcell⟩ : ∃ bb off : Nat, x = some ⟨bb, off, none⟩ ∧ bb < w.heap.size ∧ ∀ i v, (byt (zsF B ix s (k + 1)))[i]? = some v → w.cell? ⟨bb, off + i, none⟩ = some v := by
      rcases hlies with h0 | h1
      · have := congrArg List.length h0; rw [byt_len, zsF_len] at this; simp at this
      · exact h1
    have BY : Bytes w bb off (k + 1) cs (zsF B ix s (k + 1)) := ⟨by omega, hmx1, fun i hi => by
      refine hcell i _ ?_
      rw [byt_at, zat, List.getD_eq_getElem?_getD]
      have : i < (zsF B ix s (k + 1)).length := by rw [zsF_len]; exact hi
      rw [List.getElem?_eq_getElem this]; rfl, zsF_range hb ix s (k + 1), hbb⟩
    have h0 := hk 0 (by omega)
    obtain ⟨op, hop⟩ := Option.isSome_iff_exists.1 h0
    have hz0 : zat (zsF B ix s (k + 1)) 0 = op := zsF_head (by omega) hop
    exact decode_any bb off (k + 1) cs (zsF B ix s (k + 1)) false (fetR B ix s) (by rw [hz0]; unfold fetR; rw [hop]; rfl) w (by omega) BY hT
theorem de_cases {B : List Int} {ix : List Nat} {s : Sta} (hb : Byts B) {k : Nat} (hk : ∀ j, j < k → (bytF B ix s j).isSome = true) (hn : fetR B ix s ≠ 0 → k ≤ fetN B ix s) :
    (dE B ix s k = 20 ∧ (k = 0 ∨ k < fetN B ix s) ∧ dI B ix s k = zeroI) ∨ (dE B ix s k = 21 ∧ fetF B ix s = (1, s.pc) ∧ dI B ix s k = zeroI) ∨
    (dE B ix s k = 0 ∧ fetF B ix s = (0, 0) ∧ dI B ix s k = insA (fetO B ix s) (fetA B ix s) (fetB B ix s) (fetM B ix s) ∧ k = fetN B ix s) := by
  obtain ⟨e1, e2, e3⟩ := fetN_sz B ix s
  cases k with
  | zero => exact .inl ⟨rfl, .inl rfl, rfl⟩
  | succ k =>
    obtain ⟨op, hop⟩ := Option.isSome_iff_exists.1 (hk 0 (by omega))
    have dE' : dE B ix s (k + 1) = errD (fetR B ix s) (zsF B ix s (k + 1)) ((k + 1 : Nat)) := rfl
    have dI' : dI B ix s (k + 1) = insD (fetR B ix s) (zsF B ix s (k + 1)) (k + 1) := rfl
    rw [dE', dI']
    by_cases h0 : fetR B ix s = 0
    · refine .inr (.inl ⟨by unfold errD; rw [if_pos h0], fet_row hop h0, ?_⟩)
      unfold insD okD; rw [h0]; rfl
    have hle := hn h0
    by_cases hlt : k + 1 < fetN B ix s
    · refine .inl ⟨?_, .inr hlt, ?_⟩
      · unfold errD; rw [if_neg h0, if_pos (by omega)]
      · unfold insD okD
        rw [show decide (sz (fetR B ix s) ≤ ((k + 1 : Nat) : Int)) = false from decide_eq_false (by omega)]
        simp
    have hkn : k + 1 = fetN B ix s := by omega
    have hd := fet_dec hop h0 (bad_none (n := fetN B ix s) (by rw [← hkn]; exact hk))
    have hz : fetZ B ix s = zsF B ix s (k + 1) := by unfold fetZ; rw [hkn]
    rw [hz, ← hkn] at hd
    cases hok : okD (fetR B ix s) (zsF B ix s (k + 1)) (k + 1) with
    | true =>
      rw [hok] at hd
      have rA := aOf_range (r := fetR B ix s) (zsF_range hb ix s (k + 1))
      refine .inr (.inr ⟨?_, hd, ?_, hkn⟩)
      · unfold errD; rw [if_neg h0, if_neg (by omega), hok]; rfl
      · unfold insD fetO fetA fetB fetM
        rw [hok, if_pos rfl, hz, Int.toNat_of_nonneg rA.1, Int.toNat_of_nonneg rA.2]
    | false =>
      rw [hok] at hd
      refine .inr (.inl ⟨?_, hd, ?_⟩)
      · unfold errD; rw [if_neg h0, if_neg (by omega), hok]; rfl
      · unfold insD; rw [hok]; rfl
theorem fet_at {B : List Int} {ix : List Nat} {s : Sta} (ok : s.Ok) {k : Nat} (hk : ∀ j, j < k → (bytF B ix s j).isSome = true) (hn : k = 0 ∨ k < fetN B ix s) (h : bytF B ix s k = none) : fetF B ix s = (5, plc s k) := by
  obtain ⟨e1, e2, e3⟩ := fetN_sz B ix s
  rcases Nat.eq_zero_or_pos k with rfl | hp
  · rw [fet_none h, plc_zero ok]
  · obtain ⟨op, hop⟩ := Option.isSome_iff_exists.1 (hk 0 hp)
    have hlt : k < fetN B ix s := by omega
    exact fet_bad hop (by omega) (bad_some hlt h hk)
theorem info_src : (Tryz.prog.info? 74).map (fun i => (i.zero, i.size, i.bytes)) = some (some (.agg (srcA 0 0 0 0 0 0 0)), 7, 48) := by kernel_rfl
theorem fet_all {B : List Int} {ix : List Nat} {s : Sta} (h : (fetF B ix s).1 = 0) : fetF B ix s = (0, 0) ∧ 1 ≤ fetN B ix s ∧ fetN B ix s ≤ 6 ∧ ∀ k, k < fetN B ix s → (bytF B ix s k).isSome = true := by
  obtain ⟨e1, e2, e3⟩ := fetN_sz B ix s
  cases h0 : bytF B ix s 0 with
  | none => rw [fet_none h0] at h; simp at h
  | some op =>
    by_cases hr : fetR B ix s = 0
    · rw [fet_row h0 hr] at h; simp at h
    cases hb : badF B ix s (fetN B ix s) with
    | some k => rw [fet_bad h0 hr hb] at h; simp at h
    | none =>
      have hd := fet_dec h0 hr hb
      refine ⟨?_, by omega, e2, fun k hk => ?_⟩
      · cases ho : okD (fetR B ix s) (fetZ B ix s) (fetN B ix s) with
        | true => rw [ho] at hd; exact hd
        | false => rw [ho] at hd; rw [hd] at h; simp at h
      · unfold badF at hb
        rw [List.find?_eq_none] at hb
        have := hb k (List.mem_range.2 hk)
        cases hq : bytF B ix s k with
        | none => rw [hq] at this; simp at this
        | some b => rfl
theorem fetO_range {B : List Int} (hb : Byts B) (ix : List Nat) (s : Sta) : 0 ≤ fetO B ix s ∧ fetO B ix s < 256 := by
  unfold fetO fetZ
  exact zat_range (zsF_range hb ix s _) 0
theorem led_small {B : List Int} {ix : List Nat} {s : Sta} {a : Int} {q : Nat} (hx : (ix.length : Int) ≤ 512) (h : ledF B ix s a 1 = some q) (ha : 0 ≤ a) : a < 32768 := by
  unfold ledF toF at h
  split at h
  · unfold toW at h
    split at h
    · cases h
    · rename_i y hy
      unfold lookF at hy
      split at hy
      · rename_i hd; omega
      · cases hy
  · split at h
    · rename_i hd; omega
    · cases h
theorem byt_small {B : List Int} {ix : List Nat} {s : Sta} {k : Nat} (hx : (ix.length : Int) ≤ 512) (h : (bytF B ix s k).isSome = true) : plc s k < 32768 := by
  unfold bytF at h
  rw [Option.isSome_map] at h
  obtain ⟨q, hq⟩ := Option.isSome_iff_exists.1 h
  exact led_small hx hq (plc_range s k).1
structure Foll (s : Sta) (x : SB) : Prop where
  at_ : ∀ j (h : j < x.R.length), (x.R[j]).1 = s.pc + j ∧ s.pc + j < 32768
  n : x.n = s.pc + x.R.length
theorem foll_zero {s : Sta} (ok : s.Ok) : Foll s (sb0 s) := ⟨fun j h => absurd h (Nat.not_lt_zero j), by simp [sb0]⟩
theorem srF_follow {B : List Int} {ix : List Nat} {s : Sta} {n : Int} (hx : (ix.length : Int) ≤ 512) (hn : 0 ≤ n ∧ n < 4294967296) (h : (fetF B ix (s.go n)).1 = 0) (k : Nat) (hk : k < fetN B ix (s.go n)) : plc (s.go n) k = n + k ∧ n + k < 32768 := by
  obtain ⟨_, h1, h6, hall⟩ := fet_all h
  have h0 := byt_small hx (hall 0 (by omega))
  have hk' := byt_small hx (hall k hk)
  have e : ∀ j : Nat, plc (s.go n) j = (n + j) % 4294967296 := fun j => rfl
  rw [e] at h0 hk' ⊢
  omega
theorem Foll.more {B : List Int} {ix : List Nat} {s : Sta} {x : SB} (hx : (ix.length : Int) ≤ 512) (F : Foll s x) (ok : s.Ok) (hn : x.n < 4294967296) (h : (fetF B ix (s.go x.n)).1 = 0) :
    (∀ j (h : j < (x.R ++ srF B ix (s.go x.n)).length), ((x.R ++ srF B ix (s.go x.n))[j]).1 = s.pc + j ∧ s.pc + j < 32768) ∧ (x.n + fetN B ix (s.go x.n)) % 4294967296 = s.pc + (x.R ++ srF B ix (s.go x.n)).length := by
  have hp := ok.pc
  have en := F.n
  have hn0 : 0 ≤ x.n := by omega
  have hl : (srF B ix (s.go x.n)).length = fetN B ix (s.go x.n) := srN_len _ _ _ _
  obtain ⟨_, h1, h6, _⟩ := fet_all h
  refine ⟨fun j hj => ?_, ?_⟩
  · by_cases hlt : j < x.R.length
    · rw [List.getElem_append_left hlt]; exact F.at_ j hlt
    · rw [List.length_append, hl] at hj
      rw [List.getElem_append_right (by omega)]
      have := srF_follow (B := B) (ix := ix) (s := s) hx ⟨hn0, hn⟩ h (j - x.R.length) (by omega)
      have e : (srF B ix (s.go x.n))[j - x.R.length]'(by rw [hl]; omega) = srAt B ix (s.go x.n) (j - x.R.length) := by simp [srF, srN]
      rw [e]
      have e2 : (srAt B ix (s.go x.n) (j - x.R.length)).1 = plc (s.go x.n) (j - x.R.length) := rfl
      rw [e2, this.1]
      omega
  · rw [List.length_append, hl]
    have := srF_follow (B := B) (ix := ix) (s := s) hx ⟨hn0, hn⟩ h (fetN B ix (s.go x.n) - 1) (by omega)
    omega
theorem follow_rise {p : Int} {L : List Sr} (hp : 0 ≤ p) (h : ∀ j (h : j < L.length), (L[j]).1 = p + j ∧ p + j < 32768) : (L.map fun x : Sr => x.1 / 64).Pairwise (· ≤ ·) ∧ ∀ x ∈ L, 0 ≤ x.1 ∧ x.1 < 4294967296 := by
  refine ⟨?_, fun x hx => ?_⟩
  · rw [List.pairwise_iff_getElem]
    intro i j hi hj hlt
    simp only [List.length_map] at hi hj
    simp only [List.getElem_map]
    rw [(h i hi).1, (h j hj).1]
    omega
  · obtain ⟨j, hj, rfl⟩ := List.mem_iff_getElem.1 hx
    have := h j hj; omega
theorem rise_two {a b : Int} : ∀ l : List Int, l.Pairwise (· < ·) → (∀ z ∈ l, z = a ∨ z = b) → l.length ≤ 2
  | [], _, _ => by simp
  | [x], _, _ => by simp
  | [x, y], _, _ => by simp
  | x :: y :: z :: r, h, hm => by
    simp only [List.pairwise_cons, List.mem_cons] at h
    have h1 := h.1 y (.inl rfl)
    have h2 := h.1 z (.inr (.inl rfl))
    have h3 := h.2.1 z (.inl rfl)
    have := hm x (by simp); have := hm y (by simp); have := hm z (by simp)
    omega
theorem first_two {B : List Int} {ix : List Nat} {s : Sta} (hx : (ix.length : Int) ≤ 512) (ok : s.Ok) (h : (fetF B ix (s.go s.pc)).1 = 0) : (pgL (srF B ix (s.go s.pc))).length ≤ 2 := by
  obtain ⟨_, h1, h6, _⟩ := fet_all h
  refine rise_two (a := s.pc / 64) (b := s.pc / 64 + 1) _ (risL_rise _) fun z hz => ?_
  unfold pgL at hz
  rw [risL_mem] at hz
  obtain ⟨y, hy, rfl⟩ := List.mem_map.1 hz
  obtain ⟨k, hk, rfl⟩ := List.mem_map.1 hy
  have hk' := List.mem_range.1 hk
  have e := srF_follow (B := B) (ix := ix) (s := s) hx ok.pc h k hk'
  have e2 : (srAt B ix (s.go s.pc) k).1 = plc (s.go s.pc) k := rfl
  rw [e2, e.1]
  omega
theorem go_self (s : Sta) : s.go s.pc = s := rfl
structure Cnt (k : Nat) (x : SB) : Prop where
  i : x.I.length = k
  a : x.A.length = k
  r : x.R.length ≤ 6 * k
  r1 : 1 ≤ k → 1 ≤ x.R.length
theorem cnt_zero (s : Sta) : Cnt 0 (sb0 s) := ⟨rfl, rfl, by simp [sb0], by simp⟩
theorem Cnt.one {B : List Int} {ix : List Nat} {s : Sta} {k : Nat} {x : SB} (C : Cnt k x) (h : (fetF B ix (s.go x.n)).1 = 0) : Cnt (k + 1) (x.one B ix s) := by
  obtain ⟨_, h1, h6, _⟩ := fet_all h
  have hl : (srF B ix (s.go x.n)).length = fetN B ix (s.go x.n) := srN_len _ _ _ _
  have := C.i; have := C.a; have := C.r
  refine ⟨by simp [SB.one]; omega, by simp [SB.one]; omega, ?_, fun _ => ?_⟩
  · simp only [SB.one, List.length_append, hl]; omega
  · simp only [SB.one, List.length_append, hl]; omega
theorem stop_fault {B : List Int} {ix : List Nat} {s : Sta} {x : SB} (h : (fetF B ix (s.go x.n)).1 ≠ 0) : x.stop B ix s = true := by unfold SB.stop; simp [h]
theorem stop_pages {B : List Int} {ix : List Nat} {s : Sta} {x : SB} (h : 2 < (pgL (x.R ++ srF B ix (s.go x.n))).length) : x.stop B ix s = true := by unfold SB.stop; simp [h]
theorem stop_not {B : List Int} {ix : List Nat} {s : Sta} {x : SB} (h : (fetF B ix (s.go x.n)).1 = 0) (h2 : ¬ 2 < (pgL (x.R ++ srF B ix (s.go x.n))).length) : x.stop B ix s = false := by unfold SB.stop; simp [h]; omega
theorem run_stop {B : List Int} {ix : List Nat} {s : Sta} {x : SB} (k : Nat) (h : x.stop B ix s = true) : SB.run B ix s k x = x := by
  cases k with
  | zero => rfl
  | succ k => unfold SB.run; rw [if_pos h]
theorem run_on {B : List Int} {ix : List Nat} {s : Sta} {x : SB} (k : Nat) (h : x.stop B ix s = false) : SB.run B ix s (k + 1) x = if (x.one B ix s).e = 1 then SB.run B ix s k (x.one B ix s) else x.one B ix s := by
  conv => lhs; unfold SB.run
  rw [h]; rfl
end Go.Proofs.YtamffningddgbaaGreatDoor
