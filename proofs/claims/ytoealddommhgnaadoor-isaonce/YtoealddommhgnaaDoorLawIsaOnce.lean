/- For every row of bytes, read as a guest's or as a host's, the law IsaOnce returns true: what was decoded is encoded to just the bytes that it was read from; the code's two tables hold what its text lays. -/
import Derived.Test.YtoealddommhgnaaDoorRows
import Derived.Test.YtoealddommhgnaaDoorTie
import Derived.Test.YtoealddommhgnaaDoorCards
import Derived.Test.YtoealddommhgnaaDoorTab
import Derived.Test.YtoealddommhgnaaDoorWord
import Derived.Test.YtoealddommhgnaaDoorWorks
import Derived.Test.YtoealddommhgnaaDoorStrb
import Derived.WalkKit
import Derived.ProofKit
import Derived.OpenShut
import Derived.ShutString
import Derived.ChangeOld
import Derived.Below
import Derived.Lib.SmallJoins
import Derived.Lay
import Derived.SevenTiedAt
import Derived.Stop.Joined
namespace Go.Proofs.YtoealddommhgnaaDoor.isaOnce
open Go.ChangeShapes Go.WideShapes Go.ChangeAt Go.RowKit
set_option linter.unusedVariables false

theorem own : ownKnob Tryd.prog.godebug = none := by kernel_rfl
theorem laidOut : laidOutB Tryd.prog = true := by kernel_rfl

abbrev laidL : List (String × DataW Unit) := [("mummer/isa.forms", Rows.laid_mummer_isa_forms), ("mummer/isa.spans", Rows.laid_mummer_isa_spans)]

/-- A world that has at most new blocks beside another one. -/
structure KW (w : World) where
  val : World
  ok : Kep w val
theorem region_kw {P : Program} {id : Nat} {Q : Exit → Act → World → Prop} {a : Act} {w : World} {l : List Oper} (hm : P.follows .mixedOrders = true) (hB : Region.lexB .any l.toArray = true)
    (h : wpQuiet P l.toArray (fun w' => ∃ i : KW w, w' = i.val) (fun a' => ∀ w', (∃ i : KW w, w' = i.val) → Q .normal a' w') l a) : (Code.region id l.toArray true).wp P Q a w :=
  wp_region_quiet (C := fun w' => ∃ i : KW w, w' = i.val) hm hB ⟨⟨_, (Kep.refl w).drew⟩, rfl⟩ (by simpa using h)

set_option maxHeartbeats 2000000 in
theorem no_walk (x : Option Addr) (len cap : Nat) (host : Bool) (w : World) (hT : Tabs w) (E : Int) (hE : E = 20 ∨ E = 21)
    (hd : Calls Tryd.prog 16 #[.slice x len cap, .bool host] w fun e w' => e = .returned (.tuple #[.agg zeroI, .int .i64 0, .int .i64 E]) ∧ Kep w w') :
    Calls Tryd.prog 8 #[.slice x len cap, .bool host] w fun e w' => e = .returned (.bool true) ∧ Kep w w' := by
  have hsame := ins_same 0 0 0 0 (by decide) (by decide) (by decide) (by decide)
  have hD : Hid _ := hd
  have hT' : Hid (Tabs w) := hT
  clear hd hT
  rcases hE with rfl | rfl
  all_goals
    go_enter Tryd.func8, Tryd.ntmps8
    go_wp2_with fail
    refine Calls.mono hD.out ?_
    rintro e w1 ⟨rfl, g1⟩
    have G1 : Hid (∀ o, Kep w (w1.alloc o)) := fun o => g1.alloc o
    clear g1 hD
    go_wp2_with fail
    refine (works_any _ (hT'.grown (G1.out _))).mono ?_
    rintro e w2 ⟨rfl, g2⟩
    go_wp2_with fail
    go_ret
    exact ⟨rfl, kep_trans (G1.out _) g2⟩

set_option maxHeartbeats 8000000 in
theorem yes_walk (b off len cap : Nat) (zs : List Int) (host : Bool) (w : World) (h0 : 0 < len) (hB : Bytes w b off len cap zs) (hT : Tabs w) (hok : okD (rowOf (zat zs 0) host) zs len = true) :
    Calls Tryd.prog 8 #[.slice (some ⟨b, off, none⟩) len cap, .bool host] w fun e w' => e = .returned (.bool true) ∧ Kep w w' := by
  have hr := rowOf_lt (zat zs 0) host
  obtain ⟨y1, y2, y3, y4, y5, y6, y7⟩ := dec_yes hok
  obtain ⟨p1, p2, _, _⟩ := f12 _ hr
  have hz := zat_range hB.fit 0
  have hab := ab_range hB.fit (rowOf (zat zs 0) host)
  have him := immOf_range hB.fit _ hr
  obtain ⟨_, _, _, _, hq5, hq6⟩ := raw_hi _ hr
  have hmay := may_dec hB.fit hr hok
  have hD := decode_any b off len cap zs host _ rfl w h0 hB hT
  rw [y1, y2, y3] at hD
  have hlen := enc_len (rowOf (zat zs 0) host) (zat zs 0) (aOf (rowOf (zat zs 0) host) zs) (bOf (rowOf (zat zs 0) host) zs) (immOf (rowOf (zat zs 0) host) zs) hr y4
  have hwb := firstZ_eq (write_back _ hr zs hB.fit)
  have hE : Hid (∀ w, Tabs w → _) := fun w hT => encode_ok (rowOf (zat zs 0) host) hr y4 (zat zs 0) (aOf (rowOf (zat zs 0) host) zs) (bOf (rowOf (zat zs 0) host) zs) (immOf (rowOf (zat zs 0) host) zs) host rfl hmay w hz.1 hz.2 (by omega) (by omega) hab.1 (by omega) hab.2.2.1 (by omega) hT
  have hs1 : 1 ≤ sz (rowOf (zat zs 0) host) ∧ sz (rowOf (zat zs 0) host) ≤ 6 := by rcases sz_cases _ hr y4 with h | h | h | h <;> omega
  generalize encL (rowOf (zat zs 0) host) (zat zs 0) (aOf (rowOf (zat zs 0) host) zs) (bOf (rowOf (zat zs 0) host) zs) (immOf (rowOf (zat zs 0) host) zs) = L at hlen hwb hE
  obtain ⟨n, hn⟩ : ∃ n, L.length = n := ⟨_, rfl⟩
  rw [hn] at hlen hwb hE
  rw [← hlen] at hD hs1 y5
  have hn1 : (1 : Int) ≤ n := hs1.1
  have hnl : (n : Int) ≤ len := y5
  have hle := hB.le
  have hnc : (n : Int) ≤ cap := by omega
  have hlm : (len : Int) ≤ 9223372036854775807 := by have h2 := hB.max; unfold maxLen at h2; omega
  have hcm : (cap : Int) ≤ 9223372036854775807 := by have h2 := hB.max; unfold maxLen at h2; omega
  have hbw := hB.lt
  have hBn : Hid (Bytes w b off n cap zs) := ⟨by omega, hB.max, fun i hi => hB.cell i (by omega), hB.fit, hB.lt⟩
  have hwb' : Hid (firstZ zs n = L) := hwb
  have hD' : Hid _ := hD
  have hT' : Hid (Tabs w) := hT
  generalize aOf (rowOf (zat zs 0) host) zs = A at hD' hE
  generalize bOf (rowOf (zat zs 0) host) zs = B at hD' hE
  generalize immOf (rowOf (zat zs 0) host) zs = I at hD' hE
  clear hD hB hT hok y1 y2 y3 y4 y5 y6 y7 p1 p2 hz hab him hq5 hq6 hmay hlen hwb hs1 hr h0 hn hle
  go_enter Tryd.func8, Tryd.ntmps8
  go_wp2_with fail
  refine Calls.mono hD'.out ?_
  rintro e w1 ⟨rfl, g1⟩
  have G1 : Hid (∀ o, Kep w (w1.alloc o)) := fun o => g1.alloc o
  clear g1 hD'
  go_wp2_with fail
  refine Calls.mono (hE.out _ (hT'.grown (G1.out _))) ?_
  rintro e w2 ⟨C, rfl, hown, g2⟩
  have G2 : Hid (Kep w w2) := kep_trans (G1.out _) g2
  have s1 : ∀ i : KW w2, Sem.run Tryd.prog (convert 31 9 (.slice (some ⟨C, 0, none⟩) n n)) i.val = .ok (.string (strOf L)) i.val := by
    intro i
    obtain ⟨h1, h2⟩ := hown
    refine owned_string (w := i.val) (base := 0) ⟨h1, ?_⟩
    rcases h2 with h2 | ⟨g, cp, cur, e1, e2, e3, e4⟩
    · exact .inl h2
    · exact .inr ⟨g, cp, cur, e1, Nat.zero_le _, i.ok.block e3, e4⟩
  have s2 : ∀ i : KW w2, Sem.run Tryd.prog (convert 31 9 (.slice (some ⟨b, off, none⟩) n cap)) i.val = .ok (.string (strOf L)) i.val := by
    intro i
    have := bytes_string (hBn.out.kep (kep_trans G2 i.ok))
    rw [hwb'.out] at this
    exact this
  clear hown g2 hE hBn hwb' hbw G1
  have g1e : decide ((n : Int) ≥ 1) = true := by simpa using hn1
  have g2e : decide ((n : Int) ≤ len) = true := by simpa using hnl
  go_wp2_with fail
  have hne : Nonempty (KW w2) := ⟨⟨w2, Kep.refl _⟩⟩
  refine region_kw (by kernel_rfl) (by kernel_rfl) ?_
  repeat (go_big_quiet_step ((go_at_call 11; refine (works_any _ (hT'.grown (kep_trans G2 (KW.ok _)))).mono ?_; rintro e w6 ⟨rfl, g6⟩; exact ⟨rfl, ⟨_, kep_trans (KW.ok _) g6⟩, rfl⟩)))
  refine wpQuiet_nil ?_
  rintro _ ⟨i, rfl⟩
  have G3 : Hid (Kep w i.val) := kep_trans G2 i.ok
  go_wp2_with fail
  go_ret
  exact ⟨rfl, G3⟩

theorem walk (x0 : Option Addr) (len0 cap0 : Nat) (z0 : List Int) (a1 : Bool) (w : World) (w0 : IsRow .u8 w x0 len0 cap0 z0) (hT : Tabs w) :
    Calls Tryd.prog 8 #[.slice x0 len0 cap0, .bool a1] w fun e w' => e = .returned (.bool true) ∧ Kep w w' := by
  rcases row_cases w0 with h | ⟨b, off, hx, hlen, hB⟩
  · subst h
    exact no_walk x0 0 cap0 a1 w hT 20 (.inl rfl) (dec_empty x0 cap0 a1 w)
  · subst hx
    cases hok : okD (rowOf (zat z0 0) a1) z0 len0
    · obtain ⟨e1, e2, e3⟩ := dec_no hok
      have hD := decode_any b off len0 cap0 z0 a1 _ rfl w hlen hB hT
      rw [e1, e2] at hD
      exact no_walk _ len0 cap0 a1 w hT _ e3 hD
    · exact yes_walk b off len0 cap0 z0 a1 w hlen hB hT hok

set_option maxRecDepth 100000 in
theorem lifted (os : Os) (started : os.Started) (H : Type) (enc : TypeId × Value → H) :
    ReturnsInHanded {} Tryd.checked os 8 .any (fun w args => (Rows.isaOnceSpec.pre enc Tryd.prog Tryd.f8 Rows.isaOnceRow.domain false w args ∧ laidMetH Tryd.prog laidL w) ∧ sizedMet enc Tryd.prog Tryd.f8 (OpenSpec.ofChange Rows.isaOnceSpec) false w args)
      (Rows.isaOnceSpec.post enc Tryd.prog Tryd.f8 false true false false) := by
  refine returnsInHanded_of_change_and (C := Tryd.checked) (X := fun w _ => laidMetH Tryd.prog laidL w) (fun _ _ _ hh h => h.of_heap hh) own started (by kernel_rfl) Tryd.func8
    (ChangeSpec.witness_shaped (enc := enc) (C := Tryd.checked) (os := os) (X := fun w _ => laidMetH Tryd.prog laidL w) false (World.laidAll Tryd.prog os laidL) #[.slice none 0 0, .bool false] 8 (World.laidAll_os _ _ _)
      (World.shaped_of_ZipB (by kernel_rfl) (by kernel_rfl)) (by kernel_rfl) (by kernel_rfl) (by kernel_rfl)
      (by rw [MakeChecks.laidMetH_plain _ _ _ (by kernel_rfl)]; exact laidMet_laidAll _ (by kernel_rfl) (by kernel_rfl))) ?_
  intro W base args ds gs before hval0 hW hcnd _ hL _
  have hval : ∀ (j : Nat) t v, Tryd.f8.params[j]? = some t → args[j]? = some v → Value.okWide Tryd.prog W .any base t v := hval0
  have hW' := hW
  obtain ⟨p, q, hA0, hV, rfl, hfz, hnd⟩ := hW
  have hA : DataW.TrodAll enc Tryd.prog W 0 (fun _ => true) true Tryd.f8.params.toList args.toList ds p := hA0
  rw [Tryd.params8] at hA hval
  obtain ⟨v0, vs0, d0, ds0, p0, q0, hargs, rfl, rfl, h0, r0⟩ := trodAll_cons hA
  obtain ⟨v1, vs1, d1, ds1, p1, q1, rfl, rfl, rfl, h1, r1⟩ := trodAll_cons r0
  obtain ⟨rfl, rfl, rfl⟩ := trodAll_nil r1
  obtain rfl : args = #[v0, v1] := by cases args; simp_all
  obtain ⟨rfl, rfl⟩ := trodVars_none hV
  have k0 := h0
  have lt0 : ∀ x ∈ p0, x.block < W.heap.size := by obtain ⟨m, hm⟩ := k0; exact DataW.trod_lt m _ _ _ hm
  obtain ⟨x0, len0, cap0, rfl⟩ := okWide_slice Tryd.underlying31 (hval 0 31 v0 rfl rfl)
  obtain ⟨z0, w0⟩ : ∃ zs, IsRow .u8 W x0 len0 cap0 zs := by
    obtain ⟨fuel, hf⟩ := h0
    rcases open_ints Tryd.underlying31 Tryd.underlying5 (by kernel_rfl) hf with ⟨hcs, _⟩ | ⟨x, l, c, zs, hcs, _, hl, hm, hz, _, hcell, hwz⟩
    · simp [Value.cells] at hcs
      obtain ⟨rfl, rfl, rfl⟩ := hcs
      exact ⟨[], .inl ⟨rfl, rfl, rfl, rfl⟩⟩
    · simp [Value.cells] at hcs
      obtain ⟨rfl, rfl, rfl⟩ := hcs
      exact ⟨zs, .inr ⟨_, rfl, hl, hm, by simpa using hz, hcell, hwz⟩⟩
  have k1 := h1
  have lt1 : ∀ x ∈ p1, x.block < W.heap.size := by obtain ⟨m, hm⟩ := k1; exact DataW.trod_lt m _ _ _ hm
  obtain ⟨a1, rfl, rfl, rfl⟩ := open_bool Tryd.underlying4 (hval 1 4 v1 rfl rfl) h1
  clear hA0 hval0
  refine (walk x0 len0 cap0 z0 a1 W w0 (tabs_of_laid hL)).mono fun e W' ⟨he, bel0⟩ => ?_
  have bel : Below W.heap.size W W' := bel0
  subst he
  exact ⟨_, rfl, _, _, _, [], _, [], hW', trodAll_mk1 (shut_bool Tryd.underlying4 _), (trodAll_cons_mk (Below.trod laidOut (by kernel_rfl) (of_decide_eq_true (by kernel_rfl)) k0 bel lt0) (trodAll_cons_mk (Below.trod laidOut (by kernel_rfl) (of_decide_eq_true (by kernel_rfl)) k1 bel lt1) trodAll_mk0)), rfl, bel.frame _, fun h => by cases h⟩

theorem over : Rows.isaOnceRow.holds Tryd.pinned (OpenSpec.ofChange Rows.isaOnceSpec) :=
  OpenClaim.holds_of_wide 8 Tryd.f8 rfl rfl rfl rfl rfl rfl rfl ⟨rfl, rfl, rfl, rfl, rfl⟩ rfl rfl rfl rfl rfl (by kernel_rfl) Tryd.func8 (by kernel_rfl)
    (of_decide_eq_true (by kernel_rfl)) (by unfold Func.isWrapper; first | (rw [if_pos (by decide +kernel)]; kernel_rfl) | (rw [if_neg (by decide +kernel)]; exact ⟨rfl, rfl⟩))
    (fun os started H enc _ => lifted os started H enc)
end Go.Proofs.YtoealddommhgnaaDoor.isaOnce
namespace Go.Proofs.YtoealddommhgnaaDoor

theorem isaOnce_holds : Rows.IsaOnceCardSaid :=
  Claim7.holds_tied_plain_at .later [] [.data, .data] true (true, "4a4c378768b5a2fc616b7a386bed56ba70b6b05b59bcd584326e4ab8cf124c1f") false isaOnce.over (fun _ h => by cases h) (by kernel_rfl) (fun _ h => by cases h) isaOnce_row_tie rfl ⟨rfl, rfl⟩ (by kernel_rfl) rfl
    (fun f fn hf hfn => by
      obtain rfl : f = 8 := Option.some.inj ((show Tryd.prog.funcNamed "mummer/mummerlaw02.IsaOnce" = some 8 by kernel_rfl).symm.trans hf) |>.symm
      obtain rfl : fn = Tryd.f8 := (Option.some.inj (Tryd.func8.symm.trans hfn)).symm
      exact ⟨by kernel_rfl, fun j t ht => by
        rw [Tryd.params8] at ht
        have hm : t ∈ [31, 4] := by simpa using Array.mem_of_getElem? ht
        have hall : ([31, 4].all fun u => !Tryd.prog.wantsStandIn u) = true := by kernel_rfl
        exact (show Tryd.prog.wantsStandIn t = false by simpa using List.all_eq_true.1 hall t hm)⟩)
    (by kernel_rfl)
#print axioms isaOnce_holds
end Go.Proofs.YtoealddommhgnaaDoor
