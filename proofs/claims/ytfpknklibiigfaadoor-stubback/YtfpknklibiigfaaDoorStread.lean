/- What stub.Read answers. -/
import Derived.Test.YtfpknklibiigfaaDoorStmk
import Derived.Test.YtfpknklibiigfaaDoorDecode
import Derived.Test.YtfpknklibiigfaaDoorMcutb
import Derived.Test.YtfpknklibiigfaaDoorPutl
namespace Go.Proofs.YtfpknklibiigfaaDoor
open Go.RowKit
set_option linter.unusedVariables false
set_option linter.unusedSimpArgs false

/-- A slice of bytes: none, or these. -/
def RB (w : World) (x : Option Addr) (len cap : Nat) (zs : List Int) : Prop := len = 0 ∨ ∃ b off, x = some ⟨b, off, none⟩ ∧ 0 < len ∧ Bytes w b off len cap zs
theorem RB.kep {w w' : World} {x : Option Addr} {len cap : Nat} {zs : List Int} (h : RB w x len cap zs) (k : Kep w w') : RB w' x len cap zs := by
  rcases h with h | ⟨b, off, e, h, hB⟩
  · exact .inl h
  · exact .inr ⟨b, off, e, h, hB.kep k⟩
theorem zat_drop (zs : List Int) (k i : Nat) : zat (zs.drop k) i = zat zs (k + i) := by
  unfold zat; simp [List.getD, List.getElem?_drop]
/-- Where a slice begins that is cut at its front. -/
def ctX (k cap : Nat) (x : Option Addr) : Option Addr := if cap = k then x else x.map (·.add k)
theorem RB.cut {w : World} {x : Option Addr} {len cap : Nat} {zs : List Int} (k : Nat) (h : RB w x len cap zs) (hk : k ≤ len) : RB w (ctX k cap x) (len - k) (cap - k) (zs.drop k) := by
  rcases h with h | ⟨b, off, rfl, h, hB⟩
  · exact .inl (by omega)
  · rcases Nat.eq_or_lt_of_le hk with e | e
    · exact .inl (by omega)
    · have := hB.le
      refine .inr ⟨b, off + k, ?_, by omega, ?_⟩
      · unfold ctX; rw [if_neg (by omega)]; simp [Addr.add]
      · refine ⟨by omega, by have := hB.max; omega, fun i hi => ?_, fun n hn => hB.fit n (List.mem_of_mem_drop hn), hB.lt⟩
        rw [zat_drop, Nat.add_assoc]
        exact hB.cell (k + i) (by omega)
theorem RB.max {w : World} {x : Option Addr} {len cap : Nat} {zs : List Int} (h : RB w x len cap zs) : (len : Int) ≤ 9223372036854775807 := by
  rcases h with h | ⟨b, off, rfl, h, hB⟩
  · omega
  · have h1 := hB.le; have h2 := hB.max; unfold maxLen at h2; omega

/-- The row, the length and the number of an instruction of a stub. -/
def stK (op : Int) : Nat := if op = 112 then 2 else 3
def stI (op : Int) (zs : List Int) : Int := if op = 112 then zat zs 1 else zat zs 1 + 256 * zat zs 2
theorem st_dec (op : Int) (ho : op = 112 ∨ op = 113) (zs : List Int) (hz : ∀ n ∈ zs, 0 ≤ n ∧ n < 256) (len : Nat) (h : zat zs 0 = op) (hl : stK op ≤ len) :
    insD (rowOf (zat zs 0) true) zs len = insA op 0 0 (stI op zs) ∧ numD (rowOf (zat zs 0) true) zs len = stK op ∧ errD (rowOf (zat zs 0) true) zs len = 0 := by
  have z1 := zat_range hz 1
  have z2 := zat_range hz 2
  rcases ho with rfl | rfl
  · have hl' : 2 ≤ len := hl
    rw [h, show rowOf 112 true = 4 from rfl]
    have hok : okD 4 zs len = true := by
      show (true && (decide ((2 : Int) ≤ len) && (decide ((0 : Int) ≤ 0) && decide ((0 : Int) ≤ 0)))) = true
      simp; omega
    obtain ⟨y1, y2, y3, _⟩ := dec_yes hok
    refine ⟨?_, y2, y3⟩
    rw [y1, h]
    have e : immOf 4 zs = zat zs 1 := by
      have e1 : rawOf 4 zs = zat zs 1 := by show (0 : Int) + zat zs 1 * 2 ^ (8 * 0) = _; omega
      unfold immOf; rw [e1, show hi 4 = 255 from rfl, if_neg (by omega)]
    rw [e]; rfl
  · have hl' : 3 ≤ len := hl
    rw [h, show rowOf 113 true = 8 from rfl]
    have hok : okD 8 zs len = true := by
      show (true && (decide ((3 : Int) ≤ len) && (decide ((0 : Int) ≤ 0) && decide ((0 : Int) ≤ 0)))) = true
      simp; omega
    obtain ⟨y1, y2, y3, _⟩ := dec_yes hok
    refine ⟨?_, y2, y3⟩
    rw [y1, h]
    have e : immOf 8 zs = zat zs 1 + 256 * zat zs 2 := by
      have e1 : rawOf 8 zs = zat zs 1 + 256 * zat zs 2 := by show (0 : Int) + zat zs 1 * 2 ^ (8 * 0) + zat zs 2 * 2 ^ (8 * 1) = _; omega
      unfold immOf; rw [e1, show hi 8 = 65535 from rfl, if_neg (by omega)]
    rw [e]; rfl
theorem st_dec_no (op : Int) (ho : op = 112 ∨ op = 113) (zs : List Int) (len : Nat) (h : ¬ (zat zs 0 = op ∧ stK op ≤ len)) :
    (insD (rowOf (zat zs 0) true) zs len = zeroI ∧ numD (rowOf (zat zs 0) true) zs len = 0 ∧ (errD (rowOf (zat zs 0) true) zs len = 20 ∨ errD (rowOf (zat zs 0) true) zs len = 21)) ∨
    (∃ a b c, insD (rowOf (zat zs 0) true) zs len = insA (zat zs 0) a b c ∧ errD (rowOf (zat zs 0) true) zs len = 0 ∧ zat zs 0 ≠ op) := by
  cases hok : okD (rowOf (zat zs 0) true) zs len
  · exact .inl (dec_no hok)
  · obtain ⟨y1, y2, y3, _, y4, _⟩ := dec_yes hok
    refine .inr ⟨_, _, _, y1, y3, fun e => h ⟨e, ?_⟩⟩
    rw [e] at y4
    rcases ho with rfl | rfl
    · have : (2 : Int) ≤ len := y4
      show 2 ≤ len
      omega
    · have : (3 : Int) ≤ len := y4
      show 3 ≤ len
      omega

set_option maxHeartbeats 1000000 in
theorem stnum_no (op : Int) (ho : op = 112 ∨ op = 113) (p : Nat) (x : Option Addr) (len cap : Nat) (zs : List Int) (w : World) (h : ¬ (zat zs 0 = op ∧ stK op ≤ len)) (hB : RB w x len cap zs) (hp : w.cell? ⟨p, 0, none⟩ = some (.slice x len cap)) (hT : Tabs w) :
    Calls Tryd.prog 29 #[.pointer (some ⟨p, 0, none⟩), .int .u8 op] w fun e w' => e = .returned (.tuple #[.int .i64 0, .bool false]) ∧ Kep w w' := by
  have hD : (∃ n er, (er = 20 ∨ er = 21) ∧ Calls Tryd.prog 15 #[.slice x len cap, .bool true] w fun e w' => e = .returned (.tuple #[.agg zeroI, .int .i64 n, .int .i64 er]) ∧ Kep w w') ∨
      (∃ a b c n, zat zs 0 ≠ op ∧ Calls Tryd.prog 15 #[.slice x len cap, .bool true] w fun e w' => e = .returned (.tuple #[.agg (insA (zat zs 0) a b c), .int .i64 n, .int .i64 0]) ∧ Kep w w') := by
    rcases hB with rfl | ⟨b, off, rfl, h0, hB⟩
    · exact .inl ⟨0, 20, .inl rfl, dec_empty x cap true w⟩
    · have hd := decode_any b off len cap zs true _ rfl w h0 hB hT
      rcases st_dec_no op ho zs len h with ⟨y1, y2, y3⟩ | ⟨a, b', c, y1, y3, y4⟩
      · rw [y1] at hd
        exact .inl ⟨_, _, y3, hd⟩
      · rw [y1, y3] at hd
        exact .inr ⟨a, b', c, _, y4, hd⟩
  clear hB h
  rcases hD with ⟨n, er, he, hD⟩ | ⟨a, b, c, n, hne, hD⟩
  · have hD' : Hid _ := hD
    have hz : (er != 0) = true := by rcases he with rfl | rfl <;> rfl
    clear hD he
    go_enter Tryd.func29, Tryd.ntmps29
    go_wp2_with fail
    refine Calls.mono hD'.out ?_
    rintro e w1 ⟨rfl, g1⟩
    go_wp2_with fail
    go_ret2
    exact ⟨rfl, g1.alloc _⟩
  · have hD' : Hid _ := hD
    obtain ⟨z, hz⟩ : ∃ z, zat zs 0 = z := ⟨_, rfl⟩
    rw [hz] at hne hD'
    have hzo : (z != op) = true := by simpa using hne
    clear hD hne hz
    go_enter Tryd.func29, Tryd.ntmps29
    go_wp2_with fail
    refine Calls.mono hD'.out ?_
    rintro e w1 ⟨rfl, g1⟩
    go_wp2_with fail
    go_ret2
    exact ⟨rfl, g1.alloc _⟩

set_option maxHeartbeats 1000000 in
theorem stnum_yes (op : Int) (ho : op = 112 ∨ op = 113) (p : Nat) (x : Option Addr) (len cap : Nat) (zs : List Int) (T : TypeId) (w : World) (h : zat zs 0 = op) (hl : stK op ≤ len) (hB : RB w x len cap zs) (hp : w.heap[p]? = some (.cells #[.slice x len cap] T (0, 0))) (hT : Tabs w) :
    Calls Tryd.prog 29 #[.pointer (some ⟨p, 0, none⟩), .int .u8 op] w fun e w' => e = .returned (.tuple #[.int .i64 (stI op zs), .bool true]) ∧ w'.heap[p]? = some (.cells #[.slice (ctX (stK op) cap x) (len - stK op) (cap - stK op)] T (0, 0)) ∧ Put [p] w w' := by
  have hk0 : 0 < stK op := by unfold stK; split <;> omega
  have hlc : len ≤ cap := by
    rcases hB with h0 | ⟨b, off, _, _, hB⟩
    · omega
    · exact hB.le
  obtain ⟨hD, hr⟩ : (Calls Tryd.prog 15 #[.slice x len cap, .bool true] w fun e w' => e = .returned (.tuple #[.agg (insA op 0 0 (stI op zs)), .int .i64 (stK op), .int .i64 0]) ∧ Kep w w') ∧ 0 ≤ stI op zs ∧ stI op zs ≤ 65535 := by
    rcases hB with rfl | ⟨b, off, rfl, h0, hB⟩
    · omega
    · have hd := decode_any b off len cap zs true _ rfl w h0 hB hT
      obtain ⟨y1, y2, y3⟩ := st_dec op ho zs hB.fit len h hl
      rw [y1, y2, y3] at hd
      have z1 := zat_range hB.fit 1
      have z2 := zat_range hB.fit 2
      exact ⟨hd, by unfold stI; split <;> omega⟩
  have hcut : Hid (∀ w, Sem.run Tryd.prog (Instr.slice 22 (.slice x len cap) (some (.int .i64 (stK op))) none none) w = .ok (.slice (ctX (stK op) cap x) (len - stK op) (cap - stK op)) w) := fun w => cut_bytes x len cap (stK op) hl hlc w
  generalize stI op zs = n at hD hr ⊢
  generalize stK op = k at hD hk0 hl hcut ⊢
  have hcut' := hcut.out
  generalize (ctX k cap x) = X at hcut hcut' ⊢
  have hD' : Hid _ := hD
  have hpw := block_lt hp
  have c0 : w.cell? ⟨p, 0, none⟩ = some (.slice x len cap) := cell_of_block hp
  have hp' : Hid (w.heap[p]? = some (.cells #[.slice x len cap] T (0, 0))) := hp
  clear hB hD h hcut hT hlc hl hp
  go_enter Tryd.func29, Tryd.ntmps29
  go_wp2_with fail
  refine Calls.mono hD'.out ?_
  rintro e w1 ⟨rfl, g1⟩
  have c1 := (g1.cell (o := 0) hpw).trans c0
  have hp1 : Hid (w1.heap[p]? = some (.cells #[.slice x len cap] T (0, 0))) := g1.block hp'.out
  have hpw1 := g1.lt hpw
  have hfz : w1.frozen? ⟨p, 0, none⟩ = false := by simp [World.frozen?, hp1.out]
  have g1' : Hid (Kep w w1) := g1
  clear g1 hp' c0 hpw
  go_wp2_with fail
  go_ret2
  refine ⟨rfl, ?_, ?_⟩
  · exact (hsk _ _ _ (by simpa using hpw1)).trans (heap_setCell_row hp1.out _)
  · exact ((Put.of_kep g1'.out).setCell (by simp) _).alloc _

def rdOk (len : Nat) (zs : List Int) : Bool := len == 5 && (zat zs 0 == 112 && zat zs 2 == 113)
def rdV (len : Nat) (zs : List Int) : Array Value := if rdOk len zs then #[.int .i64 (zat zs 1), .int .i64 (zat zs 3 + 256 * zat zs 4), .bool true] else #[.int .i64 0, .int .i64 0, .bool false]

theorem sttally_no (p : Nat) (x : Option Addr) (len cap : Nat) (zs : List Int) (w : World) (h : ¬ (zat zs 0 = 112 ∧ 2 ≤ len)) (hB : RB w x len cap zs) (hp : w.cell? ⟨p, 0, none⟩ = some (.slice x len cap)) (hT : Tabs w) :
    Calls Tryd.prog 21 #[.pointer (some ⟨p, 0, none⟩)] w fun e w' => e = .returned (.tuple #[.int .i64 0, .bool false]) ∧ Kep w w' := by
  have hN : Hid _ := stnum_no 112 (.inl rfl) p x len cap zs w h hB hp hT
  clear hB hp hT h
  go_enter Tryd.func21, Tryd.ntmps21
  go_wp2_with fail
  refine Calls.mono hN.out ?_
  rintro e w1 ⟨rfl, g1⟩
  go_wp2_with fail
  go_ret2
  exact ⟨rfl, g1⟩
theorem stleave_no (p : Nat) (x : Option Addr) (len cap : Nat) (zs : List Int) (w : World) (h : ¬ (zat zs 0 = 113 ∧ 3 ≤ len)) (hB : RB w x len cap zs) (hp : w.cell? ⟨p, 0, none⟩ = some (.slice x len cap)) (hT : Tabs w) :
    Calls Tryd.prog 22 #[.pointer (some ⟨p, 0, none⟩)] w fun e w' => e = .returned (.tuple #[.int .i64 0, .bool false]) ∧ Kep w w' := by
  have hN : Hid _ := stnum_no 113 (.inr rfl) p x len cap zs w h hB hp hT
  clear hB hp hT h
  go_enter Tryd.func22, Tryd.ntmps22
  go_wp2_with fail
  refine Calls.mono hN.out ?_
  rintro e w1 ⟨rfl, g1⟩
  go_wp2_with fail
  go_ret2
  exact ⟨rfl, g1⟩
theorem sttally_yes (p : Nat) (x : Option Addr) (len cap : Nat) (zs : List Int) (T : TypeId) (w : World) (h : zat zs 0 = 112) (hl : 2 ≤ len) (hB : RB w x len cap zs) (hp : w.heap[p]? = some (.cells #[.slice x len cap] T (0, 0))) (hT : Tabs w) :
    Calls Tryd.prog 21 #[.pointer (some ⟨p, 0, none⟩)] w fun e w' => e = .returned (.tuple #[.int .i64 (zat zs 1), .bool true]) ∧ w'.heap[p]? = some (.cells #[.slice (ctX 2 cap x) (len - 2) (cap - 2)] T (0, 0)) ∧ Put [p] w w' := by
  have hN : Hid _ := stnum_yes 112 (.inl rfl) p x len cap zs T w h hl hB hp hT
  rw [show stI 112 zs = zat zs 1 from rfl, show stK 112 = 2 from rfl] at hN
  clear hB hp hT h
  go_enter Tryd.func21, Tryd.ntmps21
  go_wp2_with fail
  refine Calls.mono hN.out ?_
  rintro e w1 ⟨rfl, g1⟩
  go_wp2_with fail
  go_ret2
  exact ⟨rfl, g1⟩
theorem stleave_yes (p : Nat) (x : Option Addr) (len cap : Nat) (zs : List Int) (T : TypeId) (w : World) (h : zat zs 0 = 113) (hl : 3 ≤ len) (hB : RB w x len cap zs) (hp : w.heap[p]? = some (.cells #[.slice x len cap] T (0, 0))) (hT : Tabs w) :
    Calls Tryd.prog 22 #[.pointer (some ⟨p, 0, none⟩)] w fun e w' => e = .returned (.tuple #[.int .i64 (zat zs 1 + 256 * zat zs 2), .bool true]) ∧ w'.heap[p]? = some (.cells #[.slice (ctX 3 cap x) (len - 3) (cap - 3)] T (0, 0)) ∧ Put [p] w w' := by
  have hN : Hid _ := stnum_yes 113 (.inr rfl) p x len cap zs T w h hl hB hp hT
  rw [show stI 113 zs = zat zs 1 + 256 * zat zs 2 from rfl, show stK 113 = 3 from rfl] at hN
  clear hB hp hT h
  go_enter Tryd.func22, Tryd.ntmps22
  go_wp2_with fail
  refine Calls.mono hN.out ?_
  rintro e w1 ⟨rfl, g1⟩
  go_wp2_with fail
  go_ret2
  exact ⟨rfl, g1⟩

set_option maxHeartbeats 1000000 in
theorem stread_a (x : Option Addr) (len cap : Nat) (zs : List Int) (w : World) (h : ¬ (zat zs 0 = 112 ∧ 2 ≤ len)) (hB : RB w x len cap zs) (hT : Tabs w) :
    Calls Tryd.prog 13 #[.slice x len cap] w fun e w' => e = .returned (.tuple #[.int .i64 0, .int .i64 0, .bool false]) ∧ Kep w w' := by
  have hN : Hid (∀ w1, Kep w w1 → ∀ (p : Nat), w1.cell? ⟨p, 0, none⟩ = some (.slice x len cap) → _) := fun w1 k p hp => sttally_no p x len cap zs w1 h (hB.kep k) hp (hT.grown k)
  clear hB hT h
  go_enter Tryd.func13, Tryd.ntmps13
  go_wp2_with fail
  go_in
  go_wp2_with fail
  refine Calls.mono (hN.out _ ((Kep.refl _).alloc _) _ (by simp)) ?_
  rintro e w1 ⟨rfl, g1⟩
  go_wp2_with fail
  go_ret3
  exact ⟨rfl, kep_trans ((Kep.refl _).alloc _) g1⟩

set_option maxHeartbeats 1000000 in
theorem stread_b (x : Option Addr) (len cap : Nat) (zs : List Int) (w : World) (h : zat zs 0 = 112) (hl : 2 ≤ len) (h2 : ¬ (zat zs 2 = 113 ∧ 3 ≤ len - 2)) (hB : RB w x len cap zs) (hT : Tabs w) :
    Calls Tryd.prog 13 #[.slice x len cap] w fun e w' => e = .returned (.tuple #[.int .i64 0, .int .i64 0, .bool false]) ∧ Kep w w' := by
  have hN : Hid (∀ w1, Kep w w1 → ∀ (p : Nat) (T : TypeId), w1.heap[p]? = some (Obj.cells #[.slice x len cap] T (0, 0)) → _) := fun w1 k p T hp => sttally_yes p x len cap zs T w1 h hl (hB.kep k) hp (hT.grown k)
  have hM : Hid (∀ w1, Kep w w1 → ∀ (p : Nat), w1.cell? ⟨p, 0, none⟩ = some (.slice (ctX 2 cap x) (len - 2) (cap - 2)) → _) := fun w1 k p hp => stleave_no p (ctX 2 cap x) (len - 2) (cap - 2) (zs.drop 2) w1 (by rw [zat_drop]; exact h2) ((hB.kep k).cut 2 hl) hp (hT.grown k)
  clear hB hT h hl h2
  go_enter Tryd.func13, Tryd.ntmps13
  go_wp2_with fail
  go_in
  go_wp2_with fail
  refine Calls.mono (hN.out _ ((Kep.refl _).alloc _) w.heap.size 52 (heap_alloc_new w _)) ?_
  rintro e w1 ⟨rfl, hp1, g1⟩
  have G1 : Hid (Kep w w1) := ((Kep.refl w).alloc _).put g1 (by simp)
  have c1 := cell_of_block (i := 0) hp1
  clear g1 hp1
  go_wp2_with fail
  refine Calls.mono (hM.out _ G1.out _ c1) ?_
  rintro e w2 ⟨rfl, g2⟩
  have G2 : Hid (Kep w w2) := kep_trans G1.out g2
  clear g2
  go_wp2_with fail
  go_ret3
  exact ⟨rfl, G2⟩

set_option maxHeartbeats 1000000 in
theorem stread_c (x : Option Addr) (len cap : Nat) (zs : List Int) (w : World) (h : zat zs 0 = 112) (h2 : zat zs 2 = 113) (hl : 5 ≤ len) (hB : RB w x len cap zs) (hT : Tabs w) :
    Calls Tryd.prog 13 #[.slice x len cap] w fun e w' => e = .returned (.tuple (rdV len zs)) ∧ Kep w w' := by
  have hN : Hid (∀ w1, Kep w w1 → ∀ (p : Nat) (T : TypeId), w1.heap[p]? = some (Obj.cells #[.slice x len cap] T (0, 0)) → _) := fun w1 k p T hp => sttally_yes p x len cap zs T w1 h (by omega) (hB.kep k) hp (hT.grown k)
  have hM : Hid (∀ w1, Kep w w1 → ∀ (p : Nat) (T : TypeId), w1.heap[p]? = some (Obj.cells #[.slice (ctX 2 cap x) (len - 2) (cap - 2)] T (0, 0)) → _) := fun w1 k p T hp => stleave_yes p (ctX 2 cap x) (len - 2) (cap - 2) (zs.drop 2) T w1 (by rw [zat_drop]; exact h2) (by omega) ((hB.kep k).cut 2 (by omega)) hp (hT.grown k)
  rw [show zat (zs.drop 2) 1 = zat zs 3 from zat_drop _ _ _, show zat (zs.drop 2) 2 = zat zs 4 from zat_drop _ _ _] at hM
  have hmax := hB.max
  obtain ⟨m, hm⟩ : ∃ m : Nat, len - 2 - 3 = m := ⟨_, rfl⟩
  have hok : rdOk len zs = (len == 5) := by unfold rdOk; rw [h, h2]; simp
  have hm5 : (len == 5) = (m == 0) := by rw [Bool.eq_iff_iff]; simp; omega
  have hmm : (m : Int) ≤ 9223372036854775807 := by omega
  unfold rdV
  rw [hok, hm5]
  rw [hm] at hM
  clear hB hT h hl h2 hok hm5 hm hmax
  go_enter Tryd.func13, Tryd.ntmps13
  go_wp2_with fail
  go_in
  go_wp2_with fail
  refine Calls.mono (hN.out _ ((Kep.refl _).alloc _) w.heap.size 52 (heap_alloc_new w _)) ?_
  rintro e w1 ⟨rfl, hp1, g1⟩
  have G1 : Hid (Kep w w1) := ((Kep.refl w).alloc _).put g1 (by simp)
  have hp1' : Hid _ := hp1
  clear g1 hp1
  go_wp2_with fail
  refine Calls.mono (hM.out _ G1.out w.heap.size 52 hp1'.out) ?_
  rintro e w2 ⟨rfl, hp2, g2⟩
  have G2 : Hid (Kep w w2) := G1.out.put g2 (by simp)
  have c2 := cell_of_block (i := 0) hp2
  clear g2 hp2 hp1'
  rcases Nat.eq_zero_or_pos m with rfl | hm0
  · go_wp2_with fail
    go_ret3
    exact ⟨rfl, G2⟩
  · have hm1 : (0 : Int) < m := by omega
    have hm2 : (m == 0) = false := by simp; omega
    go_wp2_with fail
    go_ret3
    exact ⟨rfl, G2⟩

theorem stread_any (x : Option Addr) (len cap : Nat) (zs : List Int) (w : World) (hB : RB w x len cap zs) (hT : Tabs w) :
    Calls Tryd.prog 13 #[.slice x len cap] w fun e w' => e = .returned (.tuple (rdV len zs)) ∧ Kep w w' := by
  by_cases h : zat zs 0 = 112 ∧ 2 ≤ len
  · by_cases h2 : zat zs 2 = 113 ∧ 3 ≤ len - 2
    · exact stread_c x len cap zs w h.1 h2.1 (by omega) hB hT
    · have e : rdV len zs = #[.int .i64 0, .int .i64 0, .bool false] := by
        unfold rdV
        rw [if_neg]
        intro q
        simp [rdOk] at q
        exact h2 ⟨q.2.2, by omega⟩
      rw [e]
      exact stread_b x len cap zs w h.1 h.2 h2 hB hT
  · have e : rdV len zs = #[.int .i64 0, .int .i64 0, .bool false] := by
      unfold rdV
      rw [if_neg]
      intro q
      simp [rdOk] at q
      exact h ⟨q.2.1, by omega⟩
    rw [e]
    exact stread_a x len cap zs w h hB hT
end Go.Proofs.YtfpknklibiigfaaDoor
