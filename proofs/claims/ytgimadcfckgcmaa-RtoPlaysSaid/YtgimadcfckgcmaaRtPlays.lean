/-
  RtoPlays: whatever is measured, and however often it is waited longer, the wait is the document's. Conditions: none beyond the kinds of the arguments.
-/
import Derived.Test.YtgimadcfckgcmaaRtF
import Derived.ProofKit
import Derived.OpenShut
import Derived.ShutString
import Derived.ChangeOld
import Derived.Below
namespace Go.Proofs.Ytgimadcfckgcmaa.rtp
open Go.ChangeShapes Go.WideShapes Go.ChangeAt Go.RowKit
open Go.ChangeMaps (open_string shut_string)
set_option linter.unusedVariables false

theorem own : ownKnob Try.prog.godebug = none := by kernel_rfl
theorem laidOut : laidOutB Try.prog = true := by kernel_rfl
set_option maxRecDepth 100000 in
set_option maxHeartbeats 8000000 in
theorem walk_out (f l m : Int) (p : Option Addr) (len cap : Nat) (w : World) (h : 400 < len) :
    Calls Try.prog 4 #[.int .i64 f, .int .i64 l, .int .i64 m, .slice p len cap] w fun e w' => e = .returned (.bool true) ∧ Below w.heap.size w w' := by
  have d0 : decide (400 < (len : Int)) = true := decide_eq_true (by omega)
  clear h
  go_enter Try.func4, Try.ntmps4
  go_wp2_with fail
  refine (awakeK _).mono ?_
  rintro e w2 ⟨rfl, bl⟩
  have BL0 := Lib.hid bl
  clear bl
  go_wp2_with fail
  go_ret
  exact ⟨rfl, BL0.out⟩
set_option maxRecDepth 100000 in
set_option maxHeartbeats 8000000 in
theorem walk_bad (f l m : Int) (p : Option Addr) (len cap : Nat) (w : World) (h0 : len ≤ 400) (h : l < 1 ∨ f < l ∨ m < f ∨ 1048576 < m) :
    Calls Try.prog 4 #[.int .i64 f, .int .i64 l, .int .i64 m, .slice p len cap] w fun e w' => e = .returned (.bool true) ∧ Below w.heap.size w w' := by
  have d0 : decide (400 < (len : Int)) = false := decide_eq_false (by omega)
  have HH := Lib.hid h
  clear h h0
  go_enter Try.func4, Try.ntmps4
  go_wp2_with fail
  refine (awakeK _).mono ?_
  rintro e w2 ⟨rfl, bl⟩
  have BL0 := Lib.hid bl
  clear bl
  go_wp2_with fail
  refine (cknew_bad _ f l m HH.out).mono ?_
  rintro e w3 ⟨rfl, rfl⟩
  go_wp2_with fail
  refine (rNew_bad _ f l m HH.out).mono ?_
  rintro e w4 ⟨rfl, k1⟩
  have B4 := Lib.hid (BL0.out.trans (k1.mono BL0.out.size))
  have B5 := Lib.hid (B4.out.alloc B4.out.size (.cells #[.int .i64 0, .int .i64 0, .int .i64 0, .int .i64 0, .bool false, .int .i64 0] 33))
  clear k1 B4
  go_upto_region 7 with fail
  generalize w4.alloc _ = W1 at B5 ⊢
  have N0 : Hid (CkNone W1 none) := Lib.hid (.inl rfl)
  go_wp2_with fail
  refine (ckmeas_no _ _ N0.out 1).mono ?_
  rintro e w3 ⟨rfl, rfl⟩
  go_wp2_with fail
  refine (ckback_no _ _ N0.out).mono ?_
  rintro e w3 ⟨rfl, rfl⟩
  go_wp2_with fail
  refine (ckwait_no _ _ N0.out).mono ?_
  rintro e w3 ⟨rfl, rfl⟩
  go_wp2_with fail
  go_ret
  exact ⟨rfl, B5.out⟩
set_option maxRecDepth 100000 in
set_option maxHeartbeats 8000000 in
theorem walk_main (f l m : Int) (p : Option Addr) (len cap : Nat) (ls : List Int) (w : World) (hl : IsI64 w p len ls) (h0 : len ≤ 400) (h1 : ¬ l < 1) (h2 : ¬ f < l) (h3 : ¬ m < f) (h4 : ¬ 1048576 < m) :
    Calls Try.prog 4 #[.int .i64 f, .int .i64 l, .int .i64 m, .slice p len cap] w fun e w' => e = .returned (.bool true) ∧ Below w.heap.size w w' := by
  have HT := Lib.hid hl
  have d0 : decide (400 < (len : Int)) = false := decide_eq_false (by omega)
  have HL0 := Lib.hid h0
  have HNN : Hid (¬ l < 1 ∧ ¬ f < l ∧ ¬ m < f ∧ ¬ 1048576 < m) := Lib.hid ⟨h1, h2, h3, h4⟩
  clear hl h0 h1 h2 h3 h4
  go_enter Try.func4, Try.ntmps4
  go_wp2_with fail
  refine (awakeK _).mono ?_
  rintro e w2 ⟨rfl, bl⟩
  have BL0 := Lib.hid bl
  clear bl
  go_wp2_with fail
  refine (kNew w2 f l m (by have := HNN.out; omega) (by have := HNN.out; omega) (by have := HNN.out; omega) (by have := HNN.out; omega)).mono ?_
  rintro e w3 ⟨g, rfl, h⟩
  have H0 := Lib.hid h
  clear h
  go_wp2_with fail
  refine (rNew_ok w3 f l m (by have := HNN.out; omega) (by have := HNN.out; omega) (by have := HNN.out; omega) (by have := HNN.out; omega)).mono ?_
  rintro e w4 ⟨rfl, k1⟩
  have H1 := Lib.hid (H0.out.grow k1)
  have hP : CkD w2 (w4.alloc (.cells #[.int .i64 l, .int .i64 m, .int .i64 0, .int .i64 0, .bool false, .int .i64 f] 33)) g w4.heap.size ⟨l, m, f, false, 0, 0⟩ ⟨l, m, f, false, 0, 0⟩ := by
    have h5 := H1.out.grow ((Below.refl w4.heap.size w4).alloc (Nat.le_refl _) (.cells #[.int .i64 l, .int .i64 m, .int .i64 0, .int .i64 0, .bool false, .int .i64 f] 33))
    refine ⟨⟨h5.at_, h5.ok, h5.bl, h5.g0, fun y hy => ?_⟩, H1.out.bl.size⟩
    rw [List.mem_singleton.1 hy]
    exact ⟨heap_alloc_new w4 _, fun e => Nat.lt_irrefl _ (e ▸ H1.out.lt)⟩
  have HP := Lib.hid hP
  clear hP k1 H0 H1
  go_upto_region 7 with fail
  generalize w4.alloc _ = w5 at HP ⊢
  generalize w4.heap.size = x at HP ⊢
  go_upto_region 14 with fail
  clear d0
  go_loopw [13] (fun i wr => ∃ (k : Nat) (c : CkV), k ≤ len ∧ i = .int .i64 k ∧ Hid (CkD w2 wr g x c c)) (fun i _ => len - (intOf i).toNat)
  case atStart => exact ⟨0, _, Nat.zero_le _, rfl, HP⟩
  case round =>
    clear HP
    obtain ⟨k, c, hk, rfl, HP⟩ := hrel
    by_cases hlt : k < len
    · have BW : Hid (Below w.heap.size w wr) := Lib.hid (BL0.out.trans (HP.out.ck.bl.mono BL0.out.size))
      obtain ⟨b, oo, hp, hc, hz⟩ := HT.out.at_ k (by rw [HT.out.1]; exact hlt)
      obtain ⟨z, hzz⟩ : ∃ z, z = ls[k]'(by rw [HT.out.1]; exact hlt) := ⟨_, rfl⟩
      rw [← hzz] at hc hz
      clear hzz
      have hzr := sq_i64 hz
      clear hz
      subst hp
      have c0 : wr.cell? ⟨b, oo + k, none⟩ = some (.int .i64 z) := by rw [World.cell?_of_block (a := ⟨b, oo + k, none⟩) (BW.out.block b (World.block_lt_of_cell? w _ hc))]; exact hc
      obtain ⟨y, mm, a1, a2, a3, a4⟩ := half_in z hzr
      clear hc hzr
      have q1 : (0 : Int) ≤ (k : Int) := by omega
      have q2 : (k : Int) < (len : Int) := by omega
      have q3 : decide ((k : Int) < (len : Int)) = true := decide_eq_true q2
      have hl4 := HL0.out
      have q4 : IntKind.i64.wrap ((k : Int) + 1) = (k : Int) + 1 := IntWalk.i64_in _ (by omega)
      clear hl4
      have CC : Hid (∀ w' : World, Below w.heap.size w w' → w'.cell? ⟨b, oo + k, none⟩ = some (.int .i64 z)) := Lib.hid (fun w' bw => by
        obtain ⟨b', oo', hp', hc', -⟩ := HT.out.at_ k (by rw [HT.out.1]; exact hlt)
        injection hp' with hp'
        injection hp' with hb' ho'
        subst hb' ho'
        have e9 := BW.out.block b (World.block_lt_of_cell? w _ hc')
        have e8 := bw.block b (World.block_lt_of_cell? w _ hc')
        rw [World.cell?_of_block (a := ⟨b, oo + k, none⟩) (e8.trans e9.symm)]
        exact c0)
      by_cases hm0 : mm = 0
      · have e0 : (mm == 0) = true := by rw [hm0]; rfl
        obtain ⟨c1, hc1⟩ : ∃ c1, measV c y = c1 := ⟨_, rfl⟩
        have HC1 := Lib.hid hc1
        have HOK := Lib.hid HP.out.ck.ok
        clear hm0 hc1
        go_wp2_with fail
        refine (dMeas HP.out y c1 HC1.out).mono ?_
        rintro e w5 ⟨rfl, r1⟩
        have P1 := Lib.hid r1
        clear r1 c0
        go_upto_region 18 with fail
        refine region_tailT 6 (by kernel_rfl) (by kernel_rfl) (fun V d => ?_)
        have P2 := Lib.hid (P1.out.grow d)
        have c0 := CC.out V (BL0.out.trans (P2.out.ck.bl.mono BL0.out.size))
        obtain ⟨x0, x1, x2, x3, x4, x5, -⟩ := dk_cells P2.out.bx
        have RG := Lib.hid (dk_range P2.out.bx)
        clear d
        simp only [List.take_succ_cons, List.take_zero, List.drop_succ_cons, List.drop_zero]
        repeat still_step
        refine wpStill_nil ?_
        clear x0 x1 x2 x3 x4 x5 c0 RG P1
        go_wp2_with (first | (go_at_call 13; refine (rMeasD c HOK.out y c1 HC1.out V).mono ?_; rintro e w6 ⟨rfl, k1⟩; have P3 := Lib.hid (P2.out.grow k1); have ST := Lib.hid (st_dk (l' := c1.l) (m' := c1.m) (a' := c1.a) (d' := c1.d) (b' := c1.b) (t' := c1.t) P3.out.bx); clear k1) | (refine wpList_storeT 33 _ _ rfl rfl _ x rfl rfl ST.out ?_; have P4 := Lib.hid (P3.out.put c1); generalize w6.setRow x _ = w7 at P4 ⊢; clear ST P3 P2))
        obtain ⟨tt, htt⟩ : ∃ tt, tt = c1.t := ⟨_, rfl⟩
        have x5 : w7.cell? ⟨x, 5, none⟩ = some (.int .i64 tt) := by rw [htt]; exact (dk_cells P4.out.bx).2.2.2.2.2.1
        have KW : Hid (∀ n, Calls Try.prog 8 #[.pointer (some ⟨g, 0, none⟩)] (w7.drewN n) fun e w' => e = .returned (.int .i64 tt) ∧ w' = w7.drewN n) := Lib.hid (fun n => (kWait (P4.out.ck.grow (below_drewN (Below.refl _ _) n)) tt htt.symm).mono fun _ _ h => ⟨h.1, h.2.symm⟩)
        clear htt
        go_quiet (first | (go_at_call 8; exact Calls.quiet_of_same (KW.out _)))
        go_wp2_with fail
        go_roundw
        case rel => exact ⟨k + 1, c1, by omega, by go_num, Lib.hid (P4.out.grow (below_drewN (Below.refl _ _) _))⟩
        case measure => simp [intOf]; omega
      · have e0 : (mm == 0) = false := beq_eq_false_iff_ne.2 hm0
        obtain ⟨c1, hc1⟩ : ∃ c1, backV c = c1 := ⟨_, rfl⟩
        have HC1 := Lib.hid hc1
        have HOK := Lib.hid HP.out.ck.ok
        clear hm0 hc1
        go_wp2_with fail
        refine (dBack HP.out c1 HC1.out).mono ?_
        rintro e w5 ⟨rfl, r1⟩
        have P2 := Lib.hid r1
        clear r1 c0
        have RG := Lib.hid (dk_range P2.out.bx)
        go_upto_region 20 with fail
        go_wp2_with (first | (refine wpList_load_mid rfl 33 _ rfl x 0 rfl _ _ RG.out Try.underlying33 rfl (by kernel_rfl) ?_) | (go_at_call 14; refine (rBackD c HOK.out c1 HC1.out w5).mono ?_; rintro e w6 ⟨rfl, k1⟩; have P3 := Lib.hid (P2.out.grow k1); have ST := Lib.hid (st_dk (l' := c1.l) (m' := c1.m) (a' := c1.a) (d' := c1.d) (b' := c1.b) (t' := c1.t) P3.out.bx); clear k1) | (refine wpList_storeT 33 _ _ rfl rfl _ x rfl rfl ST.out ?_; have P4 := Lib.hid (P3.out.put c1); generalize w6.setRow x _ = w7 at P4 ⊢; clear ST P3 P2 RG))
        obtain ⟨tt, htt⟩ : ∃ tt, tt = c1.t := ⟨_, rfl⟩
        have x5 : w7.cell? ⟨x, 5, none⟩ = some (.int .i64 tt) := by rw [htt]; exact (dk_cells P4.out.bx).2.2.2.2.2.1
        have KW : Hid (∀ n, Calls Try.prog 8 #[.pointer (some ⟨g, 0, none⟩)] (w7.drewN n) fun e w' => e = .returned (.int .i64 tt) ∧ w' = w7.drewN n) := Lib.hid (fun n => (kWait (P4.out.ck.grow (below_drewN (Below.refl _ _) n)) tt htt.symm).mono fun _ _ h => ⟨h.1, h.2.symm⟩)
        clear htt
        go_quiet (first | (go_at_call 8; exact Calls.quiet_of_same (KW.out _)))
        go_wp2_with fail
        go_roundw
        case rel => exact ⟨k + 1, c1, by omega, by go_num, Lib.hid (P4.out.grow (below_drewN (Below.refl _ _) _))⟩
        case measure => simp [intOf]; omega
    · obtain rfl : k = len := by omega
      have q3 : decide ((k : Int) < (k : Int)) = false := by simp
      go_wp2_with fail
      go_ret
      exact ⟨rfl, BL0.out.trans (HP.out.ck.bl.mono BL0.out.size)⟩
theorem walk (a0 a1 a2 : Int) (p : Option Addr) (len cap : Nat) (l : List Int) (w : World) (w0 : (Lit.int .i64 a0).wf = true) (w1 : (Lit.int .i64 a1).wf = true) (w2 : (Lit.int .i64 a2).wf = true) (w3 : IsI64 w p len l) :
    Calls Try.prog 4 #[.int .i64 a0, .int .i64 a1, .int .i64 a2, .slice p len cap] w fun e w' => e = .returned (.bool true) ∧ Below w.heap.size w w' := by
  by_cases h0 : 400 < len
  · exact walk_out a0 a1 a2 p len cap w h0
  by_cases h : a1 < 1 ∨ a0 < a1 ∨ a2 < a0 ∨ 1048576 < a2
  · exact walk_bad a0 a1 a2 p len cap w (by omega) h
  · exact walk_main a0 a1 a2 p len cap l w w3 (by omega) (by omega) (by omega) (by omega) (by omega)
set_option maxRecDepth 100000 in
theorem lifted (os : Os) (started : os.Started) (H : Type) (enc : TypeId × Value → H) :
    ReturnsInHanded {} Try.checked os 4 .any (Rows.rtoPlaysSpec.pre6 enc Try.prog Try.f4 Rows.rtoPlaysRow.domain false) (Rows.rtoPlaysSpec.post enc Try.prog Try.f4 false true false false) := by
  refine returnsInHanded_of_change (C := Try.checked) own started (by kernel_rfl) Try.func4
    (ChangeSpec.witness6 (enc := enc) (C := Try.checked) false ⟨#[], #[.int .i64 0, .int .i64 0, .int .i64 0, .slice none 0 0], []⟩ 8 (by kernel_rfl) (by kernel_rfl) (by kernel_rfl) (by kernel_rfl)) ?_
  intro W base args ds gs before hval0 hW hcnd _
  have hval : ∀ (j : Nat) t v, Try.f4.params[j]? = some t → args[j]? = some v → Value.okWide Try.prog W .any base t v := hval0
  have hW' := hW
  obtain ⟨p, q, hA0, hV, rfl, hfz, hnd⟩ := hW
  have hA : DataW.TrodAll enc Try.prog W 0 (fun _ => true) true Try.f4.params.toList args.toList ds p := hA0
  rw [Try.params4] at hA hval
  obtain ⟨v0, vs0, d0, ds0, p0, q0, hargs, rfl, rfl, h0, r0⟩ := trodAll_cons hA
  obtain ⟨v1, vs1, d1, ds1, p1, q1, rfl, rfl, rfl, h1, r1⟩ := trodAll_cons r0
  obtain ⟨v2, vs2, d2, ds2, p2, q2, rfl, rfl, rfl, h2, r2⟩ := trodAll_cons r1
  obtain ⟨v3, vs3, d3, ds3, p3, q3, rfl, rfl, rfl, h3, r3⟩ := trodAll_cons r2
  obtain ⟨rfl, rfl, rfl⟩ := trodAll_nil r3
  obtain rfl : args = #[v0, v1, v2, v3] := by cases args; simp_all
  obtain ⟨rfl, rfl⟩ := trodVars_none hV
  obtain ⟨a0, rfl, rfl, rfl, w0⟩ := open_int Try.underlying3 (hval 0 3 v0 rfl rfl) h0
  obtain ⟨a1, rfl, rfl, rfl, w1⟩ := open_int Try.underlying3 (hval 1 3 v1 rfl rfl) h1
  obtain ⟨a2, rfl, rfl, rfl, w2⟩ := open_int Try.underlying3 (hval 2 3 v2 rfl rfl) h2
  obtain ⟨a3, len3, cap3, rfl⟩ := okWide_slice Try.underlying31 (hval 3 31 v3 rfl rfl)
  have k3 := h3
  have lt3 : ∀ x ∈ p3, x.block < W.heap.size := by obtain ⟨m, hm⟩ := k3; exact DataW.trod_lt m _ _ _ hm
  obtain ⟨l3, w3⟩ : ∃ l, IsI64 W a3 len3 l := by obtain ⟨fuel, hf⟩ := h3; exact open_i14 hf
  clear hA0 hval0
  refine (walk a0 a1 a2 a3 len3 cap3 l3 W w0 w1 w2 w3).mono fun e W' ⟨he, bel⟩ => ?_
  subst he
  exact ⟨_, rfl, _, _, _, [], _, [], hW', trodAll_mk1 (shut_bool Try.underlying4 _), (trodAll_cons_mk (shut_int Try.underlying3 w0) (trodAll_cons_mk (shut_int Try.underlying3 w1) (trodAll_cons_mk (shut_int Try.underlying3 w2) (trodAll_cons_mk (Below.trod laidOut (by kernel_rfl) (of_decide_eq_true (by kernel_rfl)) k3 bel lt3) trodAll_mk0)))), rfl, bel.frame _, fun h => by cases h⟩

/-- THE STATEMENT. -/
theorem proved : Rows.RtoPlaysSaid :=
  OpenClaim.holds_of_wide 4 Try.f4 rfl rfl rfl rfl rfl rfl rfl ⟨rfl, rfl, rfl, rfl, rfl⟩ rfl rfl rfl rfl rfl (by kernel_rfl) Try.func4 (by kernel_rfl)
    (of_decide_eq_true (by kernel_rfl)) (by unfold Func.isWrapper; first | (rw [if_pos (by decide +kernel)]; kernel_rfl) | (rw [if_neg (by decide +kernel)]; exact ⟨rfl, rfl⟩))
    (fun os started H enc _ => lifted os started H enc)
#print axioms proved

end Go.Proofs.Ytgimadcfckgcmaa.rtp
