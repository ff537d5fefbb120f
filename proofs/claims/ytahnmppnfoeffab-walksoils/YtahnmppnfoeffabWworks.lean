/- Two ways are compared field by field; a plain walk goes well. -/
import Derived.Test.YtahnmppnfoeffabWto
import Derived.Test.YtahnmppnfoeffabWmade
import Derived.DeepKeys
namespace Go.Proofs.Ytahnmppnfoeffab
open Go.RowKit
set_option linter.unusedVariables false

structure WayOk (b a e d t p : Int) : Prop where
  b : (Lit.int .u32 b).wf = true
  a : (Lit.int .u32 a).wf = true
  e : (Lit.int .u32 e).wf = true
  d : (Lit.int .i64 d).wf = true
  t : (Lit.int .i64 t).wf = true
  p : (Lit.int .i64 p).wf = true
theorem way_key (b a e d t p : Int) (h : WayOk b a e d t p) :
    Try.prog.keyLits 2 35 (Value.agg (wayV b a e d t p)).cells.toList = some [.int .u32 b, .int .u32 a, .int .u32 e, .int .i64 d, .int .i64 t, .int .i64 p] := by
  have cI : Try.prog.cellsOf 35 = 6 := by kernel_rfl
  have c3 : Try.prog.cellsOf 3 = 1 := by kernel_rfl
  have c21 : Try.prog.cellsOf 22 = 1 := by kernel_rfl
  simp [Program.keyLits, Try.underlying35, Try.underlying3, Try.underlying22, Value.cells, cI, c3, c21, h.b, h.a, h.e, h.d, h.t, h.p]
theorem way_same (b a e d t p : Int) (h : WayOk b a e d t p) (w : World) :
    Sem.run Try.prog (Op.equalIn 10000 35 (.agg (wayV b a e d t p)) (.agg (wayV b a e d t p))) w = .ok true w := by
  obtain ⟨r, hr, hiff⟩ := run_equalIn_deep (P := Try.prog) 9998 2 35 (by kernel_rfl) w 2 2 (.agg (wayV b a e d t p)) (.agg (wayV b a e d t p)) _ _ (by kernel_rfl) (by kernel_rfl) (way_key b a e d t p h) (way_key b a e d t p h)
  rw [hr, hiff.2 rfl]
theorem wf_u32 {a : Nat} (h : a < 4294967296) : (Lit.int .u32 (a : Int)).wf = true := by
  simp [Lit.wf, IntKind.min, IntKind.max, IntKind.signed, IntKind.bits]; omega
theorem wf_i64 {a : Nat} (h : a < 4294967296) : (Lit.int .i64 (a : Int)).wf = true := by
  simp [Lit.wf, IntKind.min, IntKind.max, IntKind.signed, IntKind.bits]; omega

abbrev wE : List Ent := [⟨0, 0, 1, 7⟩, ⟨1, 1, 2, 5⟩]
theorem works_look : lookF (wdF (mkB 4 (wE.take 64) (List.replicate (64 * 4) 0)) (List.range 4)) (64 * (List.range 4).length) 0 16 65 = some ⟨5, 129, 68, 0, 1, 2⟩ := by kernel_rfl

set_option maxHeartbeats 4000000 in
set_option maxRecDepth 100000 in
theorem works6_any (w : World) : Calls Try.prog 6 #[] w fun e w' => e = .returned (.bool true) ∧ Kep w w' := by
  have hM : Hid (∀ w b, EntRow w (some ⟨b, 0, none⟩) 2 2 wE → Calls Try.prog 7 #[.int .u8 0, .slice (some ⟨b, 0, none⟩) 2 2] w fun e w' => ∃ (p R Rb : Nat), e = .returned (.tuple #[.pointer (some ⟨p, 0, none⟩), .agg #[.slice (some ⟨Rb, 0, none⟩) 256 256], .bool true]) ∧
      (∀ w'', Kep w' w'' → Calls Try.prog 8 #[.pointer (some ⟨p, 0, none⟩), .int .u32 0, .int .i64 16, .int .u32 65] w'' fun e w3 => e = .returned (.tuple #[.agg (wayV 5 129 68 0 1 2), .bool true]) ∧ Kep w'' w3) ∧ Kep w w') := by
    intro w b hE
    refine (made6_any w 0 (by decide) (by decide) _ 2 2 _ hE).mono ?_
    rintro e w' ⟨n, p, R, Rb, hn, rfl, T, K, _, _⟩
    obtain rfl : n = 4 := by omega
    refine ⟨p, R, Rb, rfl, fun w'' k => ?_, K⟩
    have T2 := T.kep k
    have := look_ram T2.ram (by decide) T2.row (fits_range T2.len) T2.byts 0 16 65 (by decide) (by decide)
    rw [works_look] at this
    exact this
  have hsm := way_same 5 129 68 0 1 2 ⟨by decide, by decide, by decide, by decide, by decide, by decide⟩
  go_enter Try.func6, Try.ntmps6
  go_wp2_with fail
  refine (hM.out _ _ ?_).mono ?_
  · refine ⟨rfl, ?_, .inr ⟨w.heap.size, 0, rfl, by decide, by decide, by simp, ?_⟩⟩
    · intro e he
      rcases List.mem_cons.1 he with rfl | he
      · exact ⟨by decide, by decide, by decide, by decide, by decide, by decide, by decide, by decide⟩
      · rcases List.mem_cons.1 he with rfl | he
        · exact ⟨by decide, by decide, by decide, by decide, by decide, by decide, by decide, by decide⟩
        · cases he
    · intro i e he j hj
      rw [cell_of_block (hat _ _ _ rfl)]
      match i, he with
      | 0, he =>
        obtain rfl := Option.some.inj he
        match j, hj with
        | 0, _ => rfl
        | 1, _ => rfl
        | 2, _ => rfl
        | 3, _ => rfl
      | 1, he =>
        obtain rfl := Option.some.inj he
        match j, hj with
        | 0, _ => rfl
        | 1, _ => rfl
        | 2, _ => rfl
        | 3, _ => rfl
      | i + 2, he => cases he
  rintro e w1 ⟨p, R, Rb, rfl, HL, k1⟩
  have HL' : Hid (∀ w'', Kep w1 w'' → Calls Try.prog 8 #[.pointer (some ⟨p, 0, none⟩), .int .u32 0, .int .i64 16, .int .u32 65] w'' fun e w3 => e = .returned (.tuple #[.agg (wayV 5 129 68 0 1 2), .bool true]) ∧ Kep w'' w3) := HL
  have K1 : Hid (Kep w w1) := kep_trans ((Kep.refl _).alloc _) k1
  clear HL k1 hM
  go_wp2_with fail
  refine (HL'.out _ ((Kep.refl _).alloc _)).mono ?_
  rintro e w2 ⟨rfl, k2⟩
  have K2 : Hid (Kep w w2) := kep_trans (K1.out.alloc _) k2
  clear k2 HL' K1
  go_wp2_with fail
  go_ret
  exact ⟨rfl, K2.out.alloc _⟩
end Go.Proofs.Ytahnmppnfoeffab
