/- What a table answers, the first time and later. -/
import Derived.Test.YtpalbpjmjbcelaaDoorKby
import Derived.Test.YtpalbpjmjbcelaaDoorKonce
namespace Go.Proofs.YtpalbpjmjbcelaaDoor
open Go.RowKit
set_option linter.unusedVariables false

def gC : Option Rw → Int | none => 0 | some r => r.cls
def gRa : Option Rw → Bool | none => false | some r => pA r.rd
def gRb : Option Rw → Bool | none => false | some r => pB r.rd
def gRi : Option Rw → Int | none => 0 | some r => pI r.rd
def gWa : Option Rw → Bool | none => false | some r => pA r.wr
def gWb : Option Rw → Bool | none => false | some r => pB r.wr
def gWi : Option Rw → Int | none => 0 | some r => pI r.wr
def gT : Option Rw → Bool | none => false | some r => mk 116 r.m
def gF : Option Rw → Bool | none => false | some r => mk 102 r.m
def gS : Option Rw → Bool | none => false | some r => mk 115 r.m
abbrev gA (o : Option Rw) : Array Value := #[.int .i64 (gC o), .bool (gRa o), .bool (gRb o), .int .u8 (gRi o), .bool (gWa o), .bool (gWb o), .int .u8 (gWi o), .bool (gT o), .bool (gF o), .bool (gS o)]
theorem gV_eq (o : Option Rw) : gV o = gA o := by cases o <;> rfl
theorem gA_one (o : Option Rw) : (gA o).all (·.oneCell') = true := by simp [gA, Value.oneCell']

abbrev askV (o kb : Nat) : Value := .func (.func 32) #[] #[.pointer (some ⟨o, 0, none⟩), .pointer (some ⟨kb, 0, none⟩)]
def Undone (w : World) (o kb : Nat) : Prop := w.heap[o]? = some (onceO 0) ∧ w.heap[kb]? = some (.cells #[.map none] 94 (0, 0))
def Done (w : World) (o kb : Nat) : Prop := w.heap[o]? = some (onceO 1) ∧ ∃ b n, w.heap[kb]? = some (.cells #[.map (some b)] 94 (0, 0)) ∧ MapF w b n tabF
/-- The variables of a table's closure: asked already, or not yet. -/
def Asked (w : World) (o kb : Nat) : Prop := o ≠ kb ∧ (Undone w o kb ∨ Done w o kb)
theorem Undone.kep {w w' : World} {o kb : Nat} (h : Undone w o kb) (k : Kep w w') : Undone w' o kb := ⟨k.block h.1, k.block h.2⟩
theorem Done.kep {w w' : World} {o kb : Nat} (h : Done w o kb) (k : Kep w w') : Done w' o kb := by
  obtain ⟨h1, b, n, h2, h3⟩ := h
  exact ⟨k.block h1, b, n, k.block h2, h3.kept k⟩
theorem Asked.kep {w w' : World} {o kb : Nat} (h : Asked w o kb) (k : Kep w w') : Asked w' o kb := ⟨h.1, h.2.elim (fun x => .inl (x.kep k)) (fun x => .inr (x.kep k))⟩

theorem clo_any (kb : Nat) (w : World) (hk : w.heap[kb]? = some (.cells #[.map none] 94 (0, 0))) :
    Calls Tryd.prog 34 #[.pointer (some ⟨kb, 0, none⟩)] w fun e w' => e = .returned (.tuple #[]) ∧ ∃ w1 n, MapF w1 w.heap.size n tabF ∧ Kep w w1 ∧ w' = w1.setCell ⟨kb, 0, none⟩ (.map (some w.heap.size)) := by
  have hk' : Hid (w.heap[kb]? = some (.cells #[.map none] 94 (0, 0))) := hk
  clear hk
  go_enter Tryd.func34, Tryd.ntmps34
  go_wp2_with fail
  refine (by_any _).mono ?_
  rintro e w1 ⟨rfl, ⟨n, hM⟩, hK⟩
  have c0 : w1.cell? ⟨kb, 0, none⟩ = some (.map none) := cell_of_block (hK.block hk'.out)
  have f0 : w1.frozen? ⟨kb, 0, none⟩ = false := frozen_of_row _ _ _ _ _ (hK.block hk'.out)
  have hM' : Hid (MapF w1 w.heap.size n tabF) := hM
  have hK' : Hid (Kep w w1) := hK
  clear hM hK
  go_wp2_with fail
  go_end0
  exact ⟨rfl, w1, n, hM'.out, hK'.out, rfl⟩

theorem map_ne {w : World} {b n c : Nat} {f : Int → Option Rw} {cs : Array Value} {t : TypeId} {fr : Nat × Nat} (h : MapF w b n f) (hc : w.heap[c]? = some (.cells cs t fr)) : b ≠ c := by
  rintro rfl
  obtain ⟨D, ⟨es, cl, hb, _⟩, _⟩ := h
  rw [hb] at hc
  cases hc

set_option maxRecDepth 100000 in
theorem slow_any (o kb : Nat) (w : World) (hne : o ≠ kb) (h : Undone w o kb) :
    Calls Tryd.prog 50 #[.pointer (some ⟨o, 0, none⟩), .func (.func 34) #[] #[.pointer (some ⟨kb, 0, none⟩)]] w fun e w' => e = .returned (.tuple #[]) ∧ Done w' o kb ∧ Stp o kb w w' := by
  have hob := block_ge h.1
  have hkb := block_ge h.2
  have e0 : (w.setCell ⟨o, 1, none⟩ (.int .i32 1)).heap[o]? = some (.cells #[.int .u32 0, .int .i32 1, .int .u32 0] 93 (0, 0)) := heap_setCell_same w o 1 _ _ (.int .i32 1) h.1
  have e1 : (w.setCell ⟨o, 1, none⟩ (.int .i32 1)).heap[kb]? = some (.cells #[.map none] 94 (0, 0)) := (heap_setCell_other _ _ _ _ (Ne.symm hne)).trans h.2
  refine (on_slow o (.pointer (some ⟨kb, 0, none⟩)) (fun a b => ∃ w1 n, MapF w1 a.heap.size n tabF ∧ Kep a w1 ∧ b = w1.setCell ⟨kb, 0, none⟩ (.map (some a.heap.size))) w h.1
    ((clo_any kb _ e1).mono ?_)).mono ?_
  · rintro e w' ⟨he, w1, n, hM, hK, rfl⟩
    exact ⟨he, (heap_setCell_other _ _ _ _ hne).trans (hK.block e0), w1, n, hM, hK, rfl⟩
  · rintro e w' ⟨he, w2, ⟨w1, n, hM, hK, rfl⟩, ho, rfl⟩
    have hk1 : w1.heap[kb]? = some (.cells #[.map none] 94 (0, 0)) := hK.block e1
    have hb1 := map_ne hM hk1
    have hb2 := map_ne hM (hK.block e0)
    have hs : (w.setCell ⟨o, 1, none⟩ (.int .i32 1)).heap.size = w.heap.size := by simp
    have q1 := heap_setCell_same _ o 0 _ _ (.int .u32 1) (show ((w1.setCell ⟨kb, 0, none⟩ (.map (some (w.setCell ⟨o, 1, none⟩ (.int .i32 1)).heap.size))).drew).heap[o]? = _ from ho)
    have q2 := heap_setCell_same _ o 1 _ _ (.int .i32 0) q1
    refine ⟨he, ⟨q2, w.heap.size, n, ?_, ?_⟩, ?_⟩
    · rw [heap_setCell_other _ _ _ _ (Ne.symm hne), heap_setCell_other _ _ _ _ (Ne.symm hne), heap_drew, hs]
      exact heap_setCell_same w1 kb 0 _ _ _ hk1
    · rw [hs] at hM hb1 hb2 ⊢
      refine hM.block ?_
      rw [heap_setCell_other _ _ _ _ hb2, heap_setCell_other _ _ _ _ hb2, heap_drew, heap_setCell_other _ _ _ _ hb1]
    · refine Stp.setCell (p := ⟨o, 1, none⟩) ?_ (.inl rfl) _
      refine Stp.setCell (p := ⟨o, 0, none⟩) ?_ (.inl rfl) _
      refine Stp.drew ?_
      refine Stp.setCell (p := ⟨kb, 0, none⟩) ?_ (.inr rfl) _
      exact Stp.trans (Stp.setCell (p := ⟨o, 1, none⟩) (Stp.refl w) (.inl rfl) _) (Stp.of_kep hK)

set_option maxRecDepth 100000 in
theorem kdo_any (o kb : Nat) (w : World) (h : Asked w o kb) :
    Calls Tryd.prog 33 #[.pointer (some ⟨o, 0, none⟩), .func (.func 34) #[] #[.pointer (some ⟨kb, 0, none⟩)]] w fun e w' => e = .returned (.tuple #[]) ∧ Done w' o kb ∧ Stp o kb w w' := by
  have hnot : ∀ (x : Bool) (w : World), (Op.unary .not (.bool x)).run Tryd.prog w = .ok (.bool (!x)) w := fun _ _ => rfl
  obtain ⟨hne, hu | hd⟩ := h
  · have hS : Hid (Calls Tryd.prog 50 #[.pointer (some ⟨o, 0, none⟩), .func (.func 34) #[] #[.pointer (some ⟨kb, 0, none⟩)]] w fun e w' => e = .returned (.tuple #[]) ∧ Done w' o kb ∧ Stp o kb w w') := slow_any o kb w hne hu
    have hL : Hid (w.cell? ⟨o, 0, none⟩ = some (.int .u32 0)) := cell_of_block hu.1
    clear hu
    go_enter Tryd.func33, Tryd.ntmps33
    go_wp2_with fail
    refine (on_load ⟨o, 0, none⟩ 0 _ hL.out).mono ?_
    rintro e w' ⟨rfl, rfl⟩
    go_wp2_with fail
    refine hS.out.mono ?_
    rintro e w' ⟨rfl, hD, hs⟩
    have hD' : Hid (_ ∧ _) := ⟨hD, hs⟩
    clear hD hs
    go_wp2_with fail
    go_end0
    exact ⟨rfl, hD'.out⟩
  · have hL : Hid (w.cell? ⟨o, 0, none⟩ = some (.int .u32 1)) := cell_of_block hd.1
    have hd' : Hid (Done w o kb) := hd
    clear hd
    go_enter Tryd.func33, Tryd.ntmps33
    go_wp2_with fail
    refine (on_load ⟨o, 0, none⟩ 1 _ hL.out).mono ?_
    rintro e w' ⟨rfl, rfl⟩
    go_wp2_with fail
    go_end0
    exact ⟨rfl, hd'.out, Stp.refl _⟩

theorem sizeGA (o : Option Rw) : (Tryd.prog.info? 98).map (·.size) = some (gA o).size := sizeFact

set_option maxRecDepth 100000 in
set_option maxHeartbeats 2000000 in
/-- The closure of a table: what is known of an operation. -/
theorem kask_any (op : Int) (h0 : 0 ≤ op) (h1 : op < 256) (o kb : Nat) (w : World) (h : Asked w o kb) :
    Calls Tryd.prog 32 #[.int .u8 op, .pointer (some ⟨o, 0, none⟩), .pointer (some ⟨kb, 0, none⟩)] w fun e w' => e = .returned (.agg (gA (tabF op))) ∧ Asked w' o kb ∧ Stp o kb w w' := by
  have hmf : ∀ (fn : Fn) (first cap : Array Value) (w : World), (Instr.makeFunc fn first cap).run Tryd.prog w = .ok (.func fn first cap) w := fun _ _ _ _ => rfl
  have hA : Hid (∀ x, Asked (w.alloc x) o kb) := fun x => h.kep ((Kep.refl _).alloc _)
  have hne := h.1
  have ho : o < w.heap.size := h.2.elim (fun x => block_ge x.1) (fun x => block_ge x.1)
  have hk : kb < w.heap.size := h.2.elim (fun x => block_ge x.2) (fun x => let ⟨_, _, _, q, _⟩ := x; block_ge q)
  clear h
  go_enter Tryd.func32, Tryd.ntmps32
  go_wp2_with fail
  refine (kdo_any o kb _ (hA.out _)).mono ?_
  rintro e w1 ⟨rfl, hD, hS⟩
  obtain ⟨d1, b, n, d2, d3⟩ := hD
  have c0 : w1.cell? ⟨kb, 0, none⟩ = some (.map (some b)) := cell_of_block d2
  have hl := d3.look op h0 h1
  rw [gV_eq] at hl
  have hz : w1.heap[w.heap.size]? = some (.cells zeroF 98 (0, 0)) := (hS.block w.heap.size (by simp) (by omega) (by omega)).trans (heap_alloc_new _ _)
  have hz' : Hid (w1.heap[w.heap.size]? = some (.cells zeroF 98 (0, 0))) := hz
  have hD' : Hid (Done w1 o kb) := ⟨d1, b, n, d2, d3⟩
  have hS' : Hid (Stp o kb w w1) := Stp.trans (Stp.of_kep ((Kep.refl _).alloc _)) hS
  have d3' : Hid (b ≠ w.heap.size) := map_ne d3 hz
  clear d1 d2 d3 hS hz
  go_wp2_with (refine wpList_store_row rfl 98 _ _ rfl w.heap.size (gA (tabF op)) rfl rfl 98 zeroF hz'.out (sizeGA _) rfl (gA_one _) ?_)
  try simp only [Exit.inBlock, Exit.then]
  refine bodyPost_ret (results_cell_row rfl _ _ w.heap.size 98 (gA (tabF op)) (0, 0) _ rfl (setRow_heap _ _ _ _ _ _ hz'.out) Tryd.underlying98 rfl (sizeGA _)) rfl ⟨rfl, ?_, ?_⟩
  · obtain ⟨d1, b, n, d2, d3⟩ := hD'.out
    have e : ∀ c, c ≠ w.heap.size → (w1.setRow w.heap.size (gA (tabF op))).heap[c]? = w1.heap[c]? := fun c hc => setRow_other w1 _ c _ hc
    refine ⟨hne, .inr ⟨(e _ (by omega)).trans d1, b, n, (e _ (by omega)).trans d2, d3.block (e _ ?_)⟩⟩
    exact map_ne d3 hz'.out
  · have s := hS'.out
    refine ⟨s.os, s.tape, s.output, by simpa using s.size, fun c hc h1 h2 => (setRow_other w1 _ c _ (by omega)).trans (s.block c hc h1 h2)⟩
end Go.Proofs.YtpalbpjmjbcelaaDoor
