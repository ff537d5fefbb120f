/- Sixty-four bytes as a block. -/
import Derived.Test.YtpieeefeicdfgabVst
import Derived.Test.YtpieeefeicdfgabMfill
namespace Go.Proofs.Ytpieeefeicdfgab
open Go.RowKit
set_option linter.unusedVariables false

theorem zb64_size : zb64.size = 64 := rfl
theorem zero_blk (w : World) : Sem.run Try.prog (zeroValue 106) w = .ok (.agg zb64) w := by kernel_rfl
theorem size_blk : (Try.prog.info? 106).map (·.size) = some 64 := by kernel_rfl
theorem zb64_list : zb64.toList = byt (List.replicate 64 0) := rfl
theorem splice_all (B zs : List Value) (h : zs.length = B.length) : splice B 0 zs = zs := by
  unfold splice
  rw [List.take_zero, List.nil_append, Nat.zero_add, h, List.drop_length, List.append_nil]

set_option maxHeartbeats 2000000 in
set_option maxRecDepth 100000 in
theorem blockOf_any (w : World) (x : Addr) (cap : Nat) (zs : List Int) (hl : zs.length = 64) (h : ∀ j v, (byt zs)[j]? = some v → w.cell? (x.add j) = some v) (hx : x.block < w.heap.size) :
    Calls Try.prog 58 #[.slice (some x) 64 cap] w fun e w' => e = .returned (.agg (byt zs).toArray) ∧ Kep w w' := by
  have z0 := zero_blk
  have b2 : Hid (((w.alloc (.cells zb64 106)).alloc (.cells zb64 106)).heap[w.heap.size + 1]? = some (.cells zb64.toList.toArray 106 (0, 0))) := hat _ _ _ (by simp)
  have b1 : Hid (((w.alloc (.cells zb64 106)).alloc (.cells zb64 106)).heap[w.heap.size]? = some (.cells zb64 106 (0, 0))) := (hsk _ _ _ (by simp)).trans (hat _ _ _ rfl)
  have src : Hid (∀ j v, (byt zs)[j]? = some v → ((w.alloc (.cells zb64 106)).alloc (.cells zb64 106)).cell? (x.add j) = some v) := fun j v hj => by
    have e : (x.add j).block = x.block := by unfold Addr.add; split <;> rfl
    rw [World.cell?_of_block (w := w) (a := x.add j) (by rw [e, hsk _ _ _ (by simp; omega), hsk _ _ _ hx])]
    exact h j v hj
  have hl' : Hid ((byt zs).length = 64) := by rw [Hid, byt_len]; exact hl
  have k2 : Hid (Kep w ((w.alloc (.cells zb64 106)).alloc (.cells zb64 106))) := ((Kep.refl _).alloc _).alloc _
  have one : Hid (∀ v ∈ byt zs, v.oneCell' = true) := byt_one zs
  clear h hl hx
  generalize byt zs = X at src hl' one
  go_enter Try.func58, Try.ntmps58
  go_wp2_with (first
    | (refine copy_into rfl (.tmp 4) (.tmp 5) 37 37 rfl 5 Try.underlying37 (by kernel_rfl) (w.heap.size + 1) 0 64 64 x 64 cap rfl rfl _ 106 b2.out X (by have := hl'.out; simpa using this) src.out (by have := hl'.out; rw [this]; decide) one.out ?_; intro w3 H3 P3)
    | (refine wpList_load_row (by rfl) 106 (.tmp 3) (by rfl) (w.heap.size + 1) (by rfl) 106 X.toArray (0, 0) _ (by rw [H3.out, splice_all _ _ (by rw [hl'.out]; rfl)]) Try.underlying106 rfl (by rw [size_blk]; simp [hl'.out]) ?_)
    | (refine wpList_store_row (by rfl) 106 (.tmp 2) (.tmp 7) (by rfl) (w.heap.size) X.toArray (by rfl) (by rfl) 106 zb64 (P3.out.keeps b1.out (by simp)) (by rw [size_blk]; simp [hl'.out]) (by simp [hl'.out]; rfl) (by have := one.out; simpa using this) ?_))
  have b3 := P3.out.keeps b1.out (by simp)
  refine bodyPost_ret (results1 rfl _ _ w.heap.size 106 X.toArray (0, 0) _ rfl (setRow_heap _ _ _ _ _ _ b3) Try.underlying106 rfl (by rw [size_blk]; simp [hl'.out])) rfl ⟨rfl, ?_⟩
  exact (k2.out.put P3.out (by simp)).setRow _ _ (Nat.le_refl _)
end Go.Proofs.Ytpieeefeicdfgab
