/- Part of a proof. -/
import Derived.OpenShut
import Derived.Test.YtnignfloedcmlaaGreatDoorJ41
namespace Go.Proofs.YtnignfloedcmlaaGreatDoor
open Go.RowKit
set_option linter.unusedVariables false
set_option linter.unusedSimpArgs false
theorem backI_range {pc k : Int} (h : 0 ≤ pc ∧ pc < 4294967296) : 0 ≤ backI pc k ∧ backI pc k < 4294967296 := by unfold backI; split <;> omega
set_option maxHeartbeats 16000000 in
set_option maxRecDepth 100000 in
theorem mdeliver_any {w : World} {p pm R : Nat} {ix : List Nat} {x : MS} {q : Nat} {vn : Value} {Fd Fn : List Nat} (H : MAt w p pm R ix x q vn Fd Fn) (ok : x.Ok) (rm : Room 1 x) (hT : Tabs w) (k a : Int) (ha : 0 ≤ a ∧ a < 4294967296) :
    Calls Tryz.prog 70 #[.pointer (some ⟨p, 0, none⟩), .agg #[.int .i64 k, .int .u32 a]] w fun e w' => e = .returned (.tuple #[]) ∧ ∃ vn' Fn', MAt w' p pm R ix (dlvX x k a (backI x.s.pc k)) q vn' Fd Fn' ∧ Put (p :: Fn) w w' ∧ ∀ g ∈ Fn', g ∈ Fn ∨ w.heap.size ≤ g := by
  have hr := backI_range (k := k) ok.s.pc
  have h1 := rm.N
  have h2 := rm.n
  have h3 := ok.n
  have HK : Hid (∀ w', Kep w w' → Calls Tryz.prog 88 #[.agg x.s.v, .agg #[.int .i64 k, .int .u32 a]] w' fun e w'' => e = .returned (.int .u32 (backI x.s.pc k)) ∧ Kep w' w'') := fun w' kk => back_any x.s k a w' ok.s (hT.grown kk)
  have HE : Hid (∀ w', MAt w' p pm R ix x q vn Fd Fn → Calls Tryz.prog 55 #[.pointer (some ⟨p, 0, none⟩), .agg #[.int .i64 k, .int .u32 a], .int .u32 (backI x.s.pc k)] w' fun e w'' => e = .returned (.tuple #[]) ∧ ∃ vn' Fn', MAt w'' p pm R ix (dlvX x k a (backI x.s.pc k)) q vn' Fd Fn' ∧ Put (p :: Fn) w' w'' ∧ ∀ g ∈ Fn', g ∈ Fn ∨ w'.heap.size ≤ g) := fun w' h => menter_any h ok.B ok.s (by omega) (by omega) k a _ ha hr
  have WK : Hid (∀ w', MAt w' p pm R ix x q vn Fd Fn → Calls Tryz.prog 32 #[.pointer (some ⟨p, 0, none⟩)] w' fun e w'' => e = .returned (.bool true) ∧ w'' = w') := fun w' h => mworks_yes w' p pm h.box.cm
  obtain ⟨W, hW⟩ : ∃ W, Hid (w.alloc (.cells #[.int .i64 k, .int .u32 a] 100) = W) := ⟨_, rfl⟩
  have KW : Hid (Kep w W) := by rw [Hid, ← hW.out]; exact (Kep.refl w).alloc _
  have FW0 : Hid (W.heap[w.heap.size]? = some (.cells #[.int .i64 k, .int .u32 a] 100 (0, 0))) := by rw [Hid, ← hW.out]; exact hat _ _ _ rfl
  have HW : Hid (MAt W p pm R ix x q vn Fd Fn) := H.kep KW.out
  have nfb0 : Hid (w.heap.size ∉ p :: Fn) := fun h => by
    rcases List.mem_cons.1 h with h | h
    · have := H.box.lt; omega
    · have := H.nts.lt _ h; omega
  generalize dlvX x k a (backI x.s.pc k) = Y at HE ⊢
  generalize backI x.s.pc k = bk at HK HE
  clear H ok rm hT hr h1 h2 h3 ha
  go_enter Tryz.func70, Tryz.ntmps70
  go_upto_region 1 with fail
  rw [hW.out]
  obtain ⟨fb, qf⟩ : ∃ fb, Hid (fb = w.heap.size) := ⟨_, rfl⟩
  rw [← qf.out]
  have FW : Hid (W.heap[fb]? = some (.cells #[.int .i64 k, .int .u32 a] 100 (0, 0))) := by rw [qf.out]; exact FW0.out
  have nfb : Hid (fb ∉ p :: Fn) := by rw [qf.out]; exact nfb0.out
  clear hW FW0 nfb0
  go_upto_region 2 with (go_at_call 32; refine (WK.out _ HW.out).mono ?_; rintro e W ⟨rfl, rfl⟩)
  refine wp_region_held_drew (S := fun w' => w'.heap[fb]? = some (.cells #[.int .i64 k, .int .u32 a] 100 (0, 0))) (by kernel_rfl) FW.out (fun hH => ?_)
  have HV := hidd (HW.out.kep ((Kep.refl W).drew))
  have KV := hidd (KW.out.drew)
  generalize W.drew = V at hH HV KV ⊢
  refine wpAnyH_take (i := 0) (v := .pointer (some ⟨p, 0, none⟩)) rfl (by kernel_rfl) (by kernel_rfl) (by kernel_rfl) (fun _ _ _ h => h) (.inl ⟨by rfl, by intro w hS; go_simp⟩) hH ?_
  (try simp only [jA, jB, jC, Act.put, jD, jE, jF])
  refine wpAnyH_take (i := 1) (v := .agg #[.int .i64 k, .int .u32 a]) rfl (by kernel_rfl) (by kernel_rfl) (by kernel_rfl) (fun _ _ _ h => h) (yields_row rfl 100 _ rfl fb rfl 100 #[.int .i64 k, .int .u32 a] (0, 0) _ (fun w hS => hS) Tryz.underlying100 rfl size_flt) hH ?_
  (try simp only [jA, jB, jC, Act.put, jD, jE, jF])
  refine wpAnyH_take (i := 2) (v := .pointer (some ⟨p, 0, none⟩)) rfl (by kernel_rfl) (by kernel_rfl) (by kernel_rfl) (fun _ _ _ h => h) (.inl ⟨by rfl, by intro w hS; go_simp⟩) hH ?_
  (try simp only [jA, jB, jC, Act.put, jD, jE, jF])
  refine wpAnyH_take (i := 3) (v := .pointer (some ⟨p, 0, none⟩)) rfl (by kernel_rfl) (by kernel_rfl) (by kernel_rfl) (fun _ _ _ h => h) (.inl ⟨by rfl, by intro w hS; go_simp⟩) hH ?_
  (try simp only [jA, jB, jC, Act.put, jD, jE, jF])
  refine wpAnyH_take (i := 4) (v := .pointer (some ⟨p, 2, none⟩)) rfl (by kernel_rfl) (by kernel_rfl) (by kernel_rfl) (fun _ _ _ h => h) (.inl ⟨by rfl, by intro w hS; go_simp⟩) hH ?_
  (try simp only [jA, jB, jC, Act.put, jD, jE, jF])
  refine wpAnyH_take (i := 6) (v := .agg #[.int .i64 k, .int .u32 a]) rfl (by kernel_rfl) (by kernel_rfl) (by kernel_rfl) (fun _ _ _ h => h) (yields_row rfl 100 _ rfl fb rfl 100 #[.int .i64 k, .int .u32 a] (0, 0) _ (fun w hS => hS) Tryz.underlying100 rfl size_flt) hH ?_
  (try simp only [jA, jB, jC, Act.put, jD, jE, jF])
  refine wpAnyH_ready (rs := [5]) (by kernel_rfl) (by simp) ?_
  refine AllReadyH.cons rfl (fun K hK => ?_) AllReadyH.nil
  rw [if_pos (by rfl)]
  refine wp_load_mid 26 _ (by rfl) p 2 (by rfl) x.s.v.toList _ HV.out.box.st Tryz.underlying26 rfl size_sta ?_
  refine hK.out _ _ hH (fun hH => ?_)
  clear hK K
  (try simp only [jA, jB, jC, Act.put, jD, jE, jF])
  refine wpAnyH_ready (rs := [7]) (by kernel_rfl) (by simp) ?_
  refine AllReadyH.cons rfl (fun K hK => ?_) AllReadyH.nil
  rw [if_pos (by rfl)]
  go_simp
  refine (HK.out V KV.out).mono ?_
  rintro e w1 ⟨rfl, k1⟩
  refine hK.out _ _ (k1.block hH) (fun hH => ?_)
  clear hK K
  (try simp only [jA, jB, jC, Act.put, jD, jE, jF])
  have H1 := hidd (HV.out.kep k1)
  have K1 := hidd (kep_trans KV.out k1)
  clear k1
  refine wpAnyH_ready (rs := [8]) (by kernel_rfl) (by simp) ?_
  refine AllReadyH.cons rfl (fun K hK => ?_) AllReadyH.nil
  rw [if_pos (by rfl)]
  go_simp
  refine (HE.out w1 H1.out).mono ?_
  rintro e w2 ⟨rfl, vn', Fn', m2, p2, f2⟩
  refine hK.out _ _ (p2.keeps hH nfb.out) (fun hH => ?_)
  clear hK K
  (try simp only [jA, jB, jC, Act.put, jD, jE, jF])
  have M2 := hidd m2
  have P2 := hidd p2
  have F2 := hidd f2
  clear m2 p2 f2 hH
  refine wpAnyH_done (by kernel_rfl) ?_ _
  go_wp2_with fail
  go_end0
  refine ⟨rfl, vn', Fn', M2.out, (Put.of_kep K1.out).trans P2.out, fun g hg => (F2.out g hg).imp id (fun h => by have := K1.out.size; omega)⟩
theorem suc_one (t : Sta) (q : Int × Int × Int × Int) (at_ : Int) (rd wr : Bool) (port value : Int) : (sucV t q at_ rd wr port value).all (·.oneCell') = true := by simp [sucV, Value.oneCell']
theorem is_fail (k a : Int) (w : World) : (Instr.typeAssert (.iface 131 (.agg #[.int .i64 k, .int .u32 a])) 115 131 true).run Tryz.prog w = .ok (.tuple #[.agg #[.int .i64 k, .int .u32 a], .bool true]) w := by kernel_rfl
theorem isnt_fail (X : Array Value) (w : World) : (Instr.typeAssert (.iface 140 (.agg X)) 115 131 true).run Tryz.prog w = .ok (.tuple #[.agg #[.int .i64 0, .int .u32 0], .bool false]) w := by kernel_rfl
theorem is_suc (X : Array Value) (w : World) : (Instr.typeAssert (.iface 140 (.agg X)) 115 140 true).run Tryz.prog w = .ok (.tuple #[.agg X, .bool true]) w := by kernel_rfl
theorem meth_fail (k a : Int) (w : World) : (method 269 131 (.agg #[.int .i64 k, .int .u32 a]) "mummer/machine.fault").run Tryz.prog w = .ok (198, .agg #[.int .i64 k, .int .u32 a]) w := by kernel_rfl
theorem meth_suc (X : Array Value) (w : World) : (method 269 140 (.agg X) "mummer/machine.fault").run Tryz.prog w = .ok (199, .agg X) w := by kernel_rfl
set_option maxHeartbeats 1000000 in
theorem fault_fail (k a : Int) (w : World) : Calls Tryz.prog 198 #[.agg #[.int .i64 k, .int .u32 a]] w fun e w' => e = .returned (.agg #[.int .i64 k, .int .u32 a]) ∧ Kep w w' := by
  go_enter Tryz.func198, Tryz.ntmps198
  go_wp2_with fail
  refine bodyPost_ret (results1 (p := 2) (ty := 100) rfl _ _ (w.heap.size + 1) 100 #[.int .i64 k, .int .u32 a] (0, 0) _ rfl blkA Tryz.underlying100 rfl size_flt) rfl ⟨rfl, kepA⟩
set_option maxHeartbeats 1000000 in
theorem fault_suc (X : Array Value) (w : World) : Calls Tryz.prog 199 #[.agg X] w fun e w' => e = .returned (.agg #[.int .i64 0, .int .u32 0]) ∧ Kep w w' := by
  go_enter Tryz.func199, Tryz.ntmps199
  go_wp2_with fail
  refine bodyPost_ret (results1 (p := 2) (ty := 100) rfl _ _ (w.heap.size + 1) 100 #[.int .i64 0, .int .u32 0] (0, 0) _ rfl blkA Tryz.underlying100 rfl size_flt) rfl ⟨rfl, kepA⟩
def Fin.Ok (ix : List Nat) : Fin → Prop
  | .fail k a => 0 ≤ a ∧ a < 4294967296
  | .ok t q at_ rd wr port value => (0 ≤ q.2.1 ∧ q.2.1 < 4294967296) ∧ (∃ m : Nat, m ≤ 4 ∧ q.2.2.1 = m) ∧ (0 ≤ q.2.2.2 ∧ q.2.2.2 < 4294967296) ∧ at_ ≤ 64 * ix.length ∧ (0 ≤ value ∧ value < 4294967296) ∧ t.Ok
theorem Goes.of_at {w w' : World} {p pm R : Nat} {ix : List Nat} {y : MS} {q : Nat} {vn : Value} {Fd Fn Fd0 Fn0 : List Nat} (h : MAt w' p pm R ix y q vn Fd Fn) (k : Put (R :: (p :: (Fd0 ++ Fn0))) w w') (hd : ∀ g ∈ Fd, g ∈ Fd0 ∨ w.heap.size ≤ g) (hn : ∀ g ∈ Fn, g ∈ Fn0 ∨ w.heap.size ≤ g) : Goes w p pm R ix (p :: (Fd0 ++ Fn0)) y w' := by
  refine ⟨p :: (Fd ++ Fn), ⟨q, vn, Fd, Fn, h, rfl⟩, k, fun g hg => ?_⟩
  simp only [List.mem_cons, List.mem_append] at hg ⊢
  rcases hg with h1 | h1 | h1
  · exact .inl (.inl h1)
  · exact (hd g h1).imp (fun h => .inr (.inl h)) id
  · exact (hn g h1).imp (fun h => .inr (.inr h)) id
set_option maxHeartbeats 16000000 in
set_option maxRecDepth 100000 in
theorem settle_end {w : World} {p pm R : Nat} {ix : List Nat} {x : MS} {G : List Nat} (H : Mach w p pm R ix x G) (ok : x.Ok) (rm : Room 1 x) (hT : Tabs w) (f : Fin) (hf : f.Ok ix) :
    Calls Tryz.prog 57 #[.pointer (some ⟨p, 0, none⟩), endV f] w fun e w' => e = .returned (.tuple #[]) ∧ Goes w p pm R ix G (endX x ix f) w' := by
  obtain ⟨q, vn, Fd, Fn, H, rfl⟩ := H
  cases f with
  | fail k a =>
    have HD : Hid (∀ w', Kep w w' → Calls Tryz.prog 70 #[.pointer (some ⟨p, 0, none⟩), .agg #[.int .i64 k, .int .u32 a]] w' fun e w'' => e = .returned (.tuple #[]) ∧ ∃ vn' Fn', MAt w'' p pm R ix (dlvX x k a (backI x.s.pc k)) q vn' Fd Fn' ∧ Put (p :: Fn) w' w'' ∧ ∀ g ∈ Fn', g ∈ Fn ∨ w'.heap.size ≤ g) := fun w' kk => mdeliver_any (H.kep kk) ok rm (hT.grown kk) k a hf
    show Calls _ _ #[.pointer (some ⟨p, 0, none⟩), .iface 131 (.agg #[.int .i64 k, .int .u32 a])] w fun e w' => e = .returned (.tuple #[]) ∧ Goes w p pm R ix (p :: (Fd ++ Fn)) (dlvX x k a (backI x.s.pc k)) w'
    generalize dlvX x k a (backI x.s.pc k) = Y at HD ⊢
    have ta := is_fail k a
    clear H ok rm hT hf
    go_enter Tryz.func57, Tryz.ntmps57
    go_wp2_with fail
    refine (HD.out _ kepA).mono ?_
    rintro e w2 ⟨rfl, vn', Fn', m2, p2, f2⟩
    have M2 := hidd m2
    have Z := hidd (Goes.of_at (Fd0 := Fd) (Fn0 := Fn) m2 (((Put.of_kep ((Kep.refl w).alloc _)).trans (p2.mono (m := R :: (p :: (Fd ++ Fn))) (fun g hg => by rcases List.mem_cons.1 hg with h | h; simp [h]; simp [h])))) (fun g hg => .inl hg) (fun g hg => (f2 g hg).imp id (fun h => by simp at h; omega)))
    clear m2 p2 f2
    go_wp2_with fail
    go_end0
    exact ⟨rfl, Z.out⟩
  | ok t qq at_ rd wr port value =>
    obtain ⟨kd, ad, zz, vl⟩ := qq
    obtain ⟨ha, ⟨m, hm, hz⟩, hv, hat_, hx, hto⟩ := hf
    obtain rfl : zz = (m : Int) := hz
    have HD : Hid (∀ w', Kep w w' → Calls Tryz.prog 71 #[.pointer (some ⟨p, 0, none⟩), .agg (sucV t (kd, ad, (m : Int), vl) at_ rd wr port value)] w' fun e w'' => e = .returned (.tuple #[]) ∧ ∃ Fd', MAt w'' p pm R ix (endX x ix (.ok t (kd, ad, (m : Int), vl) at_ rd wr port value)) q vn Fd' Fn ∧ Put (R :: (p :: (Fd ++ Fn))) w' w'' ∧ ∀ g ∈ Fd', g ∈ Fd ∨ w'.heap.size ≤ g) := fun w' kk => finish_suc (H.kep kk) ok rm t kd ad vl m at_ rd wr port value ha hm hv hat_ hx
    generalize endX x ix (.ok t (kd, ad, (m : Int), vl) at_ rd wr port value) = Y at HD ⊢
    show Calls _ _ #[.pointer (some ⟨p, 0, none⟩), .iface 140 (.agg (sucV t (kd, ad, (m : Int), vl) at_ rd wr port value))] w _
    have ta := isnt_fail (sucV t (kd, ad, (m : Int), vl) at_ rd wr port value)
    have tb := is_suc (sucV t (kd, ad, (m : Int), vl) at_ rd wr port value)
    clear H ok rm hT ha hm hv hat_ hx hto
    go_enter Tryz.func57, Tryz.ntmps57
    go_upto_region 6 with (refine wpList_store_row (by rfl) 140 _ _ (by rfl) _ _ (by rfl) (by rfl) 140 #[.int .u32 0, .int .u32 0, .int .u32 0, .int .u32 0, .int .u32 0, .int .u32 0, .int .u32 0, .int .u32 0, .int .u32 0, .int .u32 0, .int .u32 0, .int .u32 0, .int .u32 0, .int .u32 0, .int .u32 0, .int .u32 0, .int .u32 0, .int .u32 0, .bool false, .int .i64 0, .int .u32 0, .int .i64 0, .int .u32 0, .int .u32 0, .bool false, .bool false, .int .i64 0, .int .u32 0] blkA (by exact size_suc) (by rfl) (suc_one _ _ _ _ _ _ _) ?_)
    generalize hV : World.setRow (World.alloc w _) _ _ = V
    have BV : Hid (V.heap[w.heap.size]? = some (.cells (sucV t (kd, ad, (m : Int), vl) at_ rd wr port value) 140 (0, 0))) := by rw [← hV]; unfold Hid; exact blkA
    have KV : Hid (Kep w V) := by rw [← hV]; show Kep _ _; exact kepA
    clear hV
    go_wp2_with (first
      | (refine wpList_load_row (by rfl) 140 _ (by rfl) w.heap.size (by rfl) 140 _ (0, 0) _ BV.out Tryz.underlying140 rfl (by exact size_suc) ?_)
      | (go_at_call 71; refine (HD.out V KV.out).mono ?_; rintro e w2 ⟨rfl, Fd', m2, p2, f2⟩; have Z := hidd (Goes.of_at (Fd0 := Fd) (Fn0 := Fn) m2 ((Put.of_kep KV.out).trans p2) (fun g hg => (f2 g hg).imp id (fun h => by have := KV.out.size; omega)) (fun g hg => .inl hg)); clear m2 p2 f2))
    go_end0
    exact ⟨rfl, Z.out⟩
theorem u32_wf {x : Int} (h : (Lit.int .u32 x).wf = true) : 0 ≤ x ∧ x < 4294967296 := u32_of h
theorem ite_in {p : Prop} [Decidable p] {x y : Int × Int} (hx : 0 ≤ x.1 ∧ x.1 < 4294967296) (hy : 0 ≤ y.1 ∧ y.1 < 4294967296) : 0 ≤ (if p then x else y).1 ∧ (if p then x else y).1 < 4294967296 := by
  split
  · exact hx
  · exact hy
theorem alu_in (op x y : Int) (hx : 0 ≤ x ∧ x < 4294967296) (hy : 0 ≤ y ∧ y < 4294967296) : 0 ≤ (alu op x y).1 ∧ (alu op x y).1 < 4294967296 := by
  have hb := fun o => u32_wf (wf_bits o .u32 x y)
  have hxn : x.toNat < 4294967296 := by omega
  have hk : (y % 32).toNat ≤ 32 := by omega
  have h1 := shlI_range x.toNat (y % 32).toNat
  have h2 := shrI_range x.toNat (y % 32).toNat hxn
  have h3 := rorI_range x.toNat (y % 32).toNat hxn hk
  have h4 := sarI_range x.toNat (y % 32).toNat hxn
  have hm0 : 0 ≤ x * y := Int.mul_nonneg hx.1 hy.1
  have hm1 : x * y < 4294967296 * 4294967296 := by
    have h5 : x * y ≤ 4294967295 * y := Int.mul_le_mul_of_nonneg_right (by omega) hy.1
    omega
  have hd0 : 0 ≤ x / y := Int.ediv_nonneg hx.1 hy.1
  have hd1 : x / y ≤ x := Int.ediv_le_self _ hx.1
  have hr0 : 0 ≤ x % y ∧ x % y < 4294967296 := by
    by_cases h0 : y = 0
    · subst h0; rw [Int.emod_zero]; exact hx
    · exact ⟨Int.emod_nonneg _ h0, by have := Int.emod_lt_of_pos x (show 0 < y by omega); omega⟩
  unfold alu
  repeat' (refine ite_in ?_ ?_)
  all_goals (try dsimp only)
  all_goals first | exact hy | exact hb _ | exact h1 | exact h2 | exact h3 | exact h4 | exact hr0 | omega
theorem secN_range {s : Sta} (ok : s.Ok) (op : Int) (b : Nat) (imm : Int) : 0 ≤ secN s op b imm ∧ secN s op b imm < 4294967296 := by
  unfold secN; split
  · omega
  · exact ok.r b
theorem regIf_ok {s : Sta} (ok : s.Ok) (k : Bool) (a : Nat) (x : Int) (h : 0 ≤ x ∧ x < 4294967296) : (s.regIf k a x).Ok := by
  cases k
  · exact ok
  · exact ok.reg a x h.1 h.2
theorem markIf_ok {s : Sta} (ok : s.Ok) (k : Bool) (x : Int) (h : 0 ≤ x ∧ x < 4294967296) : (s.markIf k x).Ok := by
  cases k
  · exact ok
  · exact ok.mark x h.1 h.2
theorem takenV_range (op : Int) {v : Int} (h : 0 ≤ v ∧ v < 4294967296) : 0 ≤ takenV op v ∧ takenV op v < 4294967296 := by
  unfold takenV sext
  repeat' split
  all_goals omega
theorem work_ok {s : Sta} (ok : s.Ok) (op : Int) (a b : Nat) (imm v : Int) (hv : 0 ≤ v ∧ v < 4294967296) : (workS s op a b imm v).Ok := by
  have hp := ok.pc
  unfold workS
  split
  · unfold reckS
    exact markIf_ok (regIf_ok ok _ _ _ (alu_in _ _ _ (ok.r a) (secN_range ok op b imm))) _ _ (flg_range _ _ _ _ ok.ps.1 ok.ps.2)
  split
  · unfold movS
    refine regIf_ok ?_ _ _ _ (takenV_range op hv)
    unfold stackS
    split
    · exact ok.reg _ _ (by omega) (by omega)
    · split
      · exact ok.reg _ _ (by omega) (by omega)
      · exact ok
  split
  · unfold jmpS
    split
    · have hj : 0 ≤ jto s op a imm ∧ jto s op a imm < 4294967296 := by
        unfold jto; split
        · exact ok.r a
        · omega
      unfold linkS
      split
      · exact (ok.go _ hj.1 hj.2).reg _ _ hp.1 hp.2
      · exact ok.go _ hj.1 hj.2
    · exact ok
  · exact ok
theorem do_ok {s : Sta} (ok : s.Ok) (op : Int) (a b : Nat) (imm v : Int) (hv : 0 ≤ v ∧ v < 4294967296) : (doS s op a b imm v).Ok := by
  unfold doS; split
  · exact work_ok (next_ok ok op) op a b imm v hv
  · exact ok
theorem msdo_cases (s : Sta) (op : Int) (a b : Nat) (imm n : Int) :
    (isS op a b imm = false ∧ sdoS s op a b imm n = s ∧ sdoE s op a b imm = e0 1) ∨
    (isS op a b imm = true ∧ usr s = true ∧ forb op = true ∧ sdoS s op a b imm n = s ∧ sdoE s op a b imm = e0 2) ∨
    (isS op a b imm = true ∧ (usr s = true → forb op = false) ∧ sdoS s op a b imm n = senS (nextS s op) op a b n ∧ sdoE s op a b imm = senE (nextS s op) op a b) := by
  unfold sdoS sdoE
  cases hi : isS op a b imm with
  | false => exact .inl ⟨rfl, rfl, rfl⟩
  | true =>
    cases hu : usr s with
    | false => exact .inr (.inr ⟨rfl, by simp, by simp, by simp⟩)
    | true =>
      cases hf : forb op with
      | true => exact .inr (.inl ⟨rfl, rfl, rfl, by simp, by simp⟩)
      | false => exact .inr (.inr ⟨rfl, by simp, by simp, by simp⟩)
theorem msdo_ok {s : Sta} (ok : s.Ok) (op : Int) (a b : Nat) (imm n : Int) (hn : 0 ≤ n ∧ n < 4294967296) : (sdoS s op a b imm n).Ok := by
  have okn := next9_ok ok op
  have hm := fun x (h : 0 ≤ x ∧ x < 4294967296) => msk_range x h
  have hf : ∀ x k : Int, 0 ≤ x ∧ x < 4294967296 → 0 ≤ flgI x (k / 16 % 16 * 16) ∧ flgI x (k / 16 % 16 * 16) < 4294967296 := by intro x k h; unfold flgI; omega
  rcases msdo_cases s op a b imm n with ⟨_, e1, e2⟩ | ⟨_, _, _, e1, e2⟩ | ⟨_, _, e1, e2⟩
  · rw [e1]; exact ok
  · rw [e1]; exact ok
  · rw [e1]
    unfold senS
    repeat' split
    all_goals first
      | exact okn
      | exact ⟨okn.r, okn.pc, okn.ps, okn.c⟩
      | exact (okn.go _ (okn.c 2).1 (okn.c 2).2).mark _ (hm _ (okn.c 3)).1 (hm _ (okn.c 3)).2
      | exact okn.reg _ _ okn.ps.1 okn.ps.2
      | exact okn.mark _ (hf _ _ okn.ps).1 (hf _ _ okn.ps).2
      | exact okn.mark _ (hm _ (okn.r a)).1 (hm _ (okn.r a)).2
      | exact okn.reg _ _ (by decide) (by decide)
      | exact okn.reg _ _ (okn.c b).1 (okn.c b).2
      | exact okn.ctl _ _ (okn.r a).1 (okn.r a).2
      | exact okn.reg _ _ hn.1 hn.2
theorem sdoE_x {s : Sta} (ok : s.Ok) (op : Int) (a b : Nat) (imm : Int) : 0 ≤ (sdoE s op a b imm).x ∧ (sdoE s op a b imm).x < 4294967296 := by
  unfold sdoE
  split
  · decide
  split
  · decide
  · unfold senE
    repeat' split
    all_goals first | (show 0 ≤ (0 : Int) ∧ (0 : Int) < 4294967296; decide) | exact ok.r a
theorem inI_range {d : DS} (h : d.Ok) (port : Int) : 0 ≤ inI d port ∧ inI d port < 4294967296 := by
  have h1 := h.q
  have h2 := h.n
  have h3 := h.a
  have h4 := h.m
  have h5 := h.b
  have h6 := h.d
  have h7 : 0 ≤ d.s ∧ d.s ≤ 2 := by rcases h.cmd with ⟨e, _⟩ | ⟨e | e, _⟩ <;> omega
  have h8 : 0 ≤ firstI d.Q ∧ firstI d.Q < 4294967296 := by
    unfold firstI; split
    · decide
    · rename_i x r e
      have := h.qb x (by rw [e]; simp)
      omega
  unfold inI
  repeat' split
  all_goals first | exact h8 | omega
theorem wantF_in {s : Sta} (ok : s.Ok) (op : Int) (a b : Nat) (imm : Int) : 0 ≤ (wantF s op a b imm).2 ∧ (wantF s op a b imm).2 < 4294967296 := by
  unfold wantF; split
  · exact adr_range ok op b imm
  · decide
theorem doF_in {s : Sta} (ok : s.Ok) (op : Int) (a b : Nat) (imm : Int) : 0 ≤ (doF s op a b imm).2 ∧ (doF s op a b imm).2 < 4294967296 := by
  unfold doF; split
  · unfold workF
    split
    · split <;> decide
    split
    · exact wantF_in (next_ok ok op) op a b imm
    split
    · dsimp only; omega
    · decide
  · exact ok.pc
theorem fetF_in {s : Sta} (ok : s.Ok) (B : List Int) (ix : List Nat) : 0 ≤ (fetF B ix s).2 ∧ (fetF B ix s).2 < 4294967296 := by
  unfold fetF
  split
  · exact ok.pc
  split
  · exact ok.pc
  split
  · exact plc_range s _
  split
  · decide
  · exact ok.pc
theorem try_ok {d : DS} {B : List Int} {s : Sta} (ok : s.Ok) (dk : d.Ok) (hb : Byts B) (ix : List Nat) : (tryF d B ix s).Ok ix := by
  unfold tryF
  split
  · exact fetF_in ok B ix
  · generalize fetO B ix s = op
    generalize fetA B ix s = a
    generalize fetB B ix s = b
    generalize fetM B ix s = imm
    unfold insF
    split
    · exact ⟨by decide, ⟨0, by omega, rfl⟩, by decide, Nat.zero_le _, sdoE_x ok op a b imm, msdo_ok ok op a b imm _ (inI_range dk _)⟩
    split
    · unfold plnF
      obtain ⟨h1, ⟨m, hm, h2⟩, h3, _⟩ := wantA_range ok op a b imm
      split
      · exact wantF_in ok op a b imm
      split
      · exact h1
      · rename_i at_ hr
        split
        · exact doF_in ok op a b imm
        · refine ⟨h1, ⟨m, hm, h2⟩, h3, rch_le hr, by decide, do_ok ok op a b imm _ ?_⟩
          have hv := rdV_range hb ix at_ (wantA s op a b imm).2.2.1.toNat
          have e : (wantA s op a b imm).2.2.1.toNat = m := by rw [h2]; omega
          rw [e] at hv ⊢
          have hp : (2 : Int) ^ (8 * m) ≤ 4294967296 := by rcases (by omega : m = 0 ∨ m = 1 ∨ m = 2 ∨ m = 3 ∨ m = 4) with rfl | rfl | rfl | rfl | rfl <;> decide
          exact ⟨hv.1, by omega⟩
    · show 0 ≤ (0 : Int) ∧ (0 : Int) < 4294967296
      decide
end Go.Proofs.YtnignfloedcmlaaGreatDoor
