/- What the document's own table of kinds answers, for some of the operations. -/
import Derived.Test.YtpalbpjmjbcelaaDoorKrefe
import Derived.Test.YtpalbpjmjbcelaaDoorKrefb
import Derived.Test.YtpalbpjmjbcelaaDoorKrefc
import Derived.Test.YtpalbpjmjbcelaaDoorKrefd
import Derived.Deep.CutRange
namespace Go.Proofs.YtpalbpjmjbcelaaDoor
open Go.RowKit
set_option linter.unusedVariables false

theorem row_any (op : Int) (w : World) : Calls Tryd.prog 41 #[.int .u8 op] w fun e w' => e = .returned (.agg (rfA (rfRow op) false)) ∧ Kep w w' := by
  by_cases h1 : op = 0 ∨ op = 16 ∨ op = 25 ∨ op = 30 ∨ op = 26 ∨ op = 31 ∨ op = 32 ∨ op = 33
  · exact row_b op w h1
  by_cases h2 : op = 48 ∨ op = 50 ∨ op = 52 ∨ op = 54 ∨ op = 55 ∨ op = 56 ∨ op = 57 ∨ op = 58 ∨ op = 49
  · exact row_c op w h2
  by_cases h3 : op = 51 ∨ op = 53 ∨ op = 72 ∨ op = 73 ∨ op = 74 ∨ op = 80
  · exact row_d op w h3
  by_cases h4 : 17 ≤ op ∧ op ≤ 29
  · exact row_17 op w (by omega)
  by_cases h5 : 64 ≤ op ∧ op ≤ 71
  · exact row_64 op w h5
  by_cases h6 : op < 17
  · exact row_lo op w (by omega) h6
  by_cases h7 : op < 64
  · exact row_mi op w (by omega) (by omega)
  · exact row_hi op w (by omega) (by omega)

def rfE (x : Rf) : Bool := x.c == 3 || (x.c == 4 || x.c == 5)
theorem byteR {p : Int → Bool} (h : (List.range 256).all (fun n => p n) = true) (op : Int) (h0 : 0 ≤ op) (h1 : op < 256) : p op = true := by
  obtain ⟨n, rfl⟩ := Int.eq_ofNat_of_zero_le h0
  exact List.all_eq_true.1 h n (by simp; omega)
theorem rf_six (op : Int) (h0 : 0 ≤ op) (h1 : op < 256) : (rfRow op).c = 3 ∨ (rfRow op).c = 4 ∨ (rfRow op).c = 5 ∨ (rfRow op).c = 0 ∨ (rfRow op).c = 1 ∨ (rfRow op).c = 2 := by
  have := byteR (p := fun op => decide ((rfRow op).c = 3 ∨ (rfRow op).c = 4 ∨ (rfRow op).c = 5 ∨ (rfRow op).c = 0 ∨ (rfRow op).c = 1 ∨ (rfRow op).c = 2)) (by decide +kernel) op h0 h1
  simpa using this

set_option maxHeartbeats 4000000 in
theorem of_of (op : Int) (w : World) (X : Rf) (hX : rfRow op = X) (E : Bool) (hE : X.c = 3 ∧ E = true ∨ X.c = 4 ∧ E = true ∨ X.c = 5 ∧ E = true ∨ X.c = 0 ∧ E = false ∨ X.c = 1 ∧ E = false ∨ X.c = 2 ∧ E = false) :
    Calls Tryd.prog 20 #[.int .u8 op] w fun e w' => e = .returned (.agg (rfA X E)) ∧ Kep w w' := by
  have hc : Hid (∀ w, Calls Tryd.prog 41 #[.int .u8 op] w fun e w' => e = .returned (.agg (rfA X false)) ∧ Kep w w') := fun w => hX ▸ row_any op w
  clear hX
  obtain ⟨c, ra, rb, wa, lk, sd, st, t, f, s⟩ := X
  simp only at hE
  unfold rfA at hc ⊢
  simp only at hc ⊢
  rcases hE with ⟨rfl, rfl⟩ | ⟨rfl, rfl⟩ | ⟨rfl, rfl⟩ | ⟨rfl, rfl⟩ | ⟨rfl, rfl⟩ | ⟨rfl, rfl⟩
  · go_enter Tryd.func20, Tryd.ntmps20
    go_wp2_with fail
    refine (hc.out _).mono ?_
    rintro e w1 ⟨rfl, g1⟩
    have b0 : Hid (w1.heap[w.heap.size]? = some (.cells rfZ 53 (0, 0))) := g1.block (heap_alloc_new _ _)
    have K1 : Hid (Kep w w1) := kep_trans ((Kep.refl _).alloc _) g1
    have z1 : w.heap.size < w1.heap.size := g1.lt (by simp)
    clear g1
    have b1 : Hid (∀ o, (w1.alloc o).heap[w.heap.size]? = some (.cells rfZ 53 (0, 0))) := fun o => (hp_skip _ _ _ z1).trans b0.out
    go_upto_region 3 with fail
    refine wp_region_lit ?_
    refine wpList_load_row (by rfl) 53 _ (by rfl) w1.heap.size (by rfl) 53 #[.int .i64 3, .bool ra, .bool rb, .bool wa, .bool lk, .bool sd, .bool st, .bool t, .bool f, .bool s, .bool true] (0, 0) _ (heap_alloc_new _ _) Tryd.underlying53 rfl sizeRf ?_
    refine wpList_store_row (by rfl) 53 _ _ (by rfl) w.heap.size #[.int .i64 3, .bool ra, .bool rb, .bool wa, .bool lk, .bool sd, .bool st, .bool t, .bool f, .bool s, .bool true] (by rfl) (by rfl) 53 rfZ (b1.out _) sizeRf rfl (by simp [Value.oneCell']) ?_
    go_wp2_with fail
    try simp only [Exit.inBlock, Exit.then]
    refine bodyPost_ret (results_cell_row rfl _ _ w.heap.size 53 #[.int .i64 3, .bool ra, .bool rb, .bool wa, .bool lk, .bool sd, .bool st, .bool t, .bool f, .bool s, .bool true] (0, 0) _ rfl (setRow_heap _ _ _ _ _ _ (b1.out _)) Tryd.underlying53 rfl sizeRf) rfl ⟨rfl, ?_⟩
    exact (K1.out.alloc _).setRow _ _ (Nat.le_refl _)
  · go_enter Tryd.func20, Tryd.ntmps20
    go_wp2_with fail
    refine (hc.out _).mono ?_
    rintro e w1 ⟨rfl, g1⟩
    have b0 : Hid (w1.heap[w.heap.size]? = some (.cells rfZ 53 (0, 0))) := g1.block (heap_alloc_new _ _)
    have K1 : Hid (Kep w w1) := kep_trans ((Kep.refl _).alloc _) g1
    have z1 : w.heap.size < w1.heap.size := g1.lt (by simp)
    clear g1
    have b1 : Hid (∀ o, (w1.alloc o).heap[w.heap.size]? = some (.cells rfZ 53 (0, 0))) := fun o => (hp_skip _ _ _ z1).trans b0.out
    go_upto_region 3 with fail
    refine wp_region_lit ?_
    refine wpList_load_row (by rfl) 53 _ (by rfl) w1.heap.size (by rfl) 53 #[.int .i64 4, .bool ra, .bool rb, .bool wa, .bool lk, .bool sd, .bool st, .bool t, .bool f, .bool s, .bool true] (0, 0) _ (heap_alloc_new _ _) Tryd.underlying53 rfl sizeRf ?_
    refine wpList_store_row (by rfl) 53 _ _ (by rfl) w.heap.size #[.int .i64 4, .bool ra, .bool rb, .bool wa, .bool lk, .bool sd, .bool st, .bool t, .bool f, .bool s, .bool true] (by rfl) (by rfl) 53 rfZ (b1.out _) sizeRf rfl (by simp [Value.oneCell']) ?_
    go_wp2_with fail
    try simp only [Exit.inBlock, Exit.then]
    refine bodyPost_ret (results_cell_row rfl _ _ w.heap.size 53 #[.int .i64 4, .bool ra, .bool rb, .bool wa, .bool lk, .bool sd, .bool st, .bool t, .bool f, .bool s, .bool true] (0, 0) _ rfl (setRow_heap _ _ _ _ _ _ (b1.out _)) Tryd.underlying53 rfl sizeRf) rfl ⟨rfl, ?_⟩
    exact (K1.out.alloc _).setRow _ _ (Nat.le_refl _)
  · go_enter Tryd.func20, Tryd.ntmps20
    go_wp2_with fail
    refine (hc.out _).mono ?_
    rintro e w1 ⟨rfl, g1⟩
    have b0 : Hid (w1.heap[w.heap.size]? = some (.cells rfZ 53 (0, 0))) := g1.block (heap_alloc_new _ _)
    have K1 : Hid (Kep w w1) := kep_trans ((Kep.refl _).alloc _) g1
    have z1 : w.heap.size < w1.heap.size := g1.lt (by simp)
    clear g1
    have b1 : Hid (∀ o, (w1.alloc o).heap[w.heap.size]? = some (.cells rfZ 53 (0, 0))) := fun o => (hp_skip _ _ _ z1).trans b0.out
    go_upto_region 3 with fail
    refine wp_region_lit ?_
    refine wpList_load_row (by rfl) 53 _ (by rfl) w1.heap.size (by rfl) 53 #[.int .i64 5, .bool ra, .bool rb, .bool wa, .bool lk, .bool sd, .bool st, .bool t, .bool f, .bool s, .bool true] (0, 0) _ (heap_alloc_new _ _) Tryd.underlying53 rfl sizeRf ?_
    refine wpList_store_row (by rfl) 53 _ _ (by rfl) w.heap.size #[.int .i64 5, .bool ra, .bool rb, .bool wa, .bool lk, .bool sd, .bool st, .bool t, .bool f, .bool s, .bool true] (by rfl) (by rfl) 53 rfZ (b1.out _) sizeRf rfl (by simp [Value.oneCell']) ?_
    go_wp2_with fail
    try simp only [Exit.inBlock, Exit.then]
    refine bodyPost_ret (results_cell_row rfl _ _ w.heap.size 53 #[.int .i64 5, .bool ra, .bool rb, .bool wa, .bool lk, .bool sd, .bool st, .bool t, .bool f, .bool s, .bool true] (0, 0) _ rfl (setRow_heap _ _ _ _ _ _ (b1.out _)) Tryd.underlying53 rfl sizeRf) rfl ⟨rfl, ?_⟩
    exact (K1.out.alloc _).setRow _ _ (Nat.le_refl _)
  · go_enter Tryd.func20, Tryd.ntmps20
    go_wp2_with fail
    refine (hc.out _).mono ?_
    rintro e w1 ⟨rfl, g1⟩
    have b0 : Hid (w1.heap[w.heap.size]? = some (.cells rfZ 53 (0, 0))) := g1.block (heap_alloc_new _ _)
    have K1 : Hid (Kep w w1) := kep_trans ((Kep.refl _).alloc _) g1
    have z1 : w.heap.size < w1.heap.size := g1.lt (by simp)
    clear g1
    have b1 : Hid (∀ o, (w1.alloc o).heap[w.heap.size]? = some (.cells rfZ 53 (0, 0))) := fun o => (hp_skip _ _ _ z1).trans b0.out
    go_upto_region 3 with fail
    refine wp_region_lit ?_
    refine wpList_load_row (by rfl) 53 _ (by rfl) w1.heap.size (by rfl) 53 #[.int .i64 0, .bool ra, .bool rb, .bool wa, .bool lk, .bool sd, .bool st, .bool t, .bool f, .bool s, .bool false] (0, 0) _ (heap_alloc_new _ _) Tryd.underlying53 rfl sizeRf ?_
    refine wpList_store_row (by rfl) 53 _ _ (by rfl) w.heap.size #[.int .i64 0, .bool ra, .bool rb, .bool wa, .bool lk, .bool sd, .bool st, .bool t, .bool f, .bool s, .bool false] (by rfl) (by rfl) 53 rfZ (b1.out _) sizeRf rfl (by simp [Value.oneCell']) ?_
    go_wp2_with fail
    try simp only [Exit.inBlock, Exit.then]
    refine bodyPost_ret (results_cell_row rfl _ _ w.heap.size 53 #[.int .i64 0, .bool ra, .bool rb, .bool wa, .bool lk, .bool sd, .bool st, .bool t, .bool f, .bool s, .bool false] (0, 0) _ rfl (setRow_heap _ _ _ _ _ _ (b1.out _)) Tryd.underlying53 rfl sizeRf) rfl ⟨rfl, ?_⟩
    exact (K1.out.alloc _).setRow _ _ (Nat.le_refl _)
  · go_enter Tryd.func20, Tryd.ntmps20
    go_wp2_with fail
    refine (hc.out _).mono ?_
    rintro e w1 ⟨rfl, g1⟩
    have b0 : Hid (w1.heap[w.heap.size]? = some (.cells rfZ 53 (0, 0))) := g1.block (heap_alloc_new _ _)
    have K1 : Hid (Kep w w1) := kep_trans ((Kep.refl _).alloc _) g1
    have z1 : w.heap.size < w1.heap.size := g1.lt (by simp)
    clear g1
    have b1 : Hid (∀ o, (w1.alloc o).heap[w.heap.size]? = some (.cells rfZ 53 (0, 0))) := fun o => (hp_skip _ _ _ z1).trans b0.out
    go_upto_region 3 with fail
    refine wp_region_lit ?_
    refine wpList_load_row (by rfl) 53 _ (by rfl) w1.heap.size (by rfl) 53 #[.int .i64 1, .bool ra, .bool rb, .bool wa, .bool lk, .bool sd, .bool st, .bool t, .bool f, .bool s, .bool false] (0, 0) _ (heap_alloc_new _ _) Tryd.underlying53 rfl sizeRf ?_
    refine wpList_store_row (by rfl) 53 _ _ (by rfl) w.heap.size #[.int .i64 1, .bool ra, .bool rb, .bool wa, .bool lk, .bool sd, .bool st, .bool t, .bool f, .bool s, .bool false] (by rfl) (by rfl) 53 rfZ (b1.out _) sizeRf rfl (by simp [Value.oneCell']) ?_
    go_wp2_with fail
    try simp only [Exit.inBlock, Exit.then]
    refine bodyPost_ret (results_cell_row rfl _ _ w.heap.size 53 #[.int .i64 1, .bool ra, .bool rb, .bool wa, .bool lk, .bool sd, .bool st, .bool t, .bool f, .bool s, .bool false] (0, 0) _ rfl (setRow_heap _ _ _ _ _ _ (b1.out _)) Tryd.underlying53 rfl sizeRf) rfl ⟨rfl, ?_⟩
    exact (K1.out.alloc _).setRow _ _ (Nat.le_refl _)
  · go_enter Tryd.func20, Tryd.ntmps20
    go_wp2_with fail
    refine (hc.out _).mono ?_
    rintro e w1 ⟨rfl, g1⟩
    have b0 : Hid (w1.heap[w.heap.size]? = some (.cells rfZ 53 (0, 0))) := g1.block (heap_alloc_new _ _)
    have K1 : Hid (Kep w w1) := kep_trans ((Kep.refl _).alloc _) g1
    have z1 : w.heap.size < w1.heap.size := g1.lt (by simp)
    clear g1
    have b1 : Hid (∀ o, (w1.alloc o).heap[w.heap.size]? = some (.cells rfZ 53 (0, 0))) := fun o => (hp_skip _ _ _ z1).trans b0.out
    go_upto_region 3 with fail
    refine wp_region_lit ?_
    refine wpList_load_row (by rfl) 53 _ (by rfl) w1.heap.size (by rfl) 53 #[.int .i64 2, .bool ra, .bool rb, .bool wa, .bool lk, .bool sd, .bool st, .bool t, .bool f, .bool s, .bool false] (0, 0) _ (heap_alloc_new _ _) Tryd.underlying53 rfl sizeRf ?_
    refine wpList_store_row (by rfl) 53 _ _ (by rfl) w.heap.size #[.int .i64 2, .bool ra, .bool rb, .bool wa, .bool lk, .bool sd, .bool st, .bool t, .bool f, .bool s, .bool false] (by rfl) (by rfl) 53 rfZ (b1.out _) sizeRf rfl (by simp [Value.oneCell']) ?_
    go_wp2_with fail
    try simp only [Exit.inBlock, Exit.then]
    refine bodyPost_ret (results_cell_row rfl _ _ w.heap.size 53 #[.int .i64 2, .bool ra, .bool rb, .bool wa, .bool lk, .bool sd, .bool st, .bool t, .bool f, .bool s, .bool false] (0, 0) _ rfl (setRow_heap _ _ _ _ _ _ (b1.out _)) Tryd.underlying53 rfl sizeRf) rfl ⟨rfl, ?_⟩
    exact (K1.out.alloc _).setRow _ _ (Nat.le_refl _)
theorem refOf3_any (op : Int) (h0 : 0 ≤ op) (h1 : op < 256) (w : World) :
    Calls Tryd.prog 20 #[.int .u8 op] w fun e w' => e = .returned (.agg (rfA (rfRow op) (rfE (rfRow op)))) ∧ Kep w w' := by
  refine of_of op w _ rfl _ ?_
  rcases rf_six op h0 h1 with q | q | q | q | q | q <;> rw [q] <;> simp [rfE, q]
end Go.Proofs.YtpalbpjmjbcelaaDoor
