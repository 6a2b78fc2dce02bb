/-
  RtoBounds: the wait is never below the least, nor above the most; waiting longer never shortens it; what was measured alone says what the wait is behind a measure. Conditions: none beyond the kinds of the arguments.
-/
import Derived.Test.YtgimadcfckgcmaaRtE
import Derived.ProofKit
import Derived.OpenShut
import Derived.ShutString
import Derived.ChangeOld
import Derived.Below
namespace Go.Proofs.Ytgimadcfckgcmaa.rtb
open Go.ChangeShapes Go.WideShapes Go.ChangeAt Go.RowKit
open Go.ChangeMaps (open_string shut_string)
set_option linter.unusedVariables false

theorem own : ownKnob Try.prog.godebug = none := by kernel_rfl
theorem laidOut : laidOutB Try.prog = true := by kernel_rfl
set_option maxRecDepth 100000 in
set_option maxHeartbeats 8000000 in
theorem walk_out (f l m : Int) (p : Option Addr) (len cap : Nat) (w : World) (h : 400 < len ∨ l < 1 ∨ f < l ∨ m < f ∨ 1048576 < m) :
    Calls Try.prog 5 #[.int .i64 f, .int .i64 l, .int .i64 m, .slice p len cap] w fun e w' => e = .returned (.bool true) ∧ Below w.heap.size w w' := by
  by_cases q0 : 400 < (len : Int)
  · clear h
    have dq0 : decide (400 < (len : Int)) = true := decide_eq_true q0
    go_enter Try.func5, Try.ntmps5
    go_wp2_with fail
    refine (awakeK _).mono ?_
    rintro e w2 ⟨rfl, bl⟩
    have BL0 := Lib.hid bl
    clear bl
    go_wp2_with fail
    go_ret
    exact ⟨rfl, BL0.out⟩
  · skip
    by_cases q1 : l < 1
    · clear h
      have dq0 : decide (400 < (len : Int)) = false := decide_eq_false q0
      have dq1 : decide (l < 1) = true := decide_eq_true q1
      go_enter Try.func5, Try.ntmps5
      go_wp2_with fail
      refine (awakeK _).mono ?_
      rintro e w2 ⟨rfl, bl⟩
      have BL0 := Lib.hid bl
      clear bl
      go_wp2_with fail
      go_ret
      exact ⟨rfl, BL0.out⟩
    · skip
      by_cases q2 : f < l
      · clear h
        have dq0 : decide (400 < (len : Int)) = false := decide_eq_false q0
        have dq1 : decide (l < 1) = false := decide_eq_false q1
        have dq2 : decide (f < l) = true := decide_eq_true q2
        go_enter Try.func5, Try.ntmps5
        go_wp2_with fail
        refine (awakeK _).mono ?_
        rintro e w2 ⟨rfl, bl⟩
        have BL0 := Lib.hid bl
        clear bl
        go_wp2_with fail
        go_ret
        exact ⟨rfl, BL0.out⟩
      · skip
        by_cases q3 : m < f
        · clear h
          have dq0 : decide (400 < (len : Int)) = false := decide_eq_false q0
          have dq1 : decide (l < 1) = false := decide_eq_false q1
          have dq2 : decide (f < l) = false := decide_eq_false q2
          have dq3 : decide (m < f) = true := decide_eq_true q3
          go_enter Try.func5, Try.ntmps5
          go_wp2_with fail
          refine (awakeK _).mono ?_
          rintro e w2 ⟨rfl, bl⟩
          have BL0 := Lib.hid bl
          clear bl
          go_wp2_with fail
          go_ret
          exact ⟨rfl, BL0.out⟩
        · skip
          by_cases q4 : 1048576 < m
          · clear h
            have dq0 : decide (400 < (len : Int)) = false := decide_eq_false q0
            have dq1 : decide (l < 1) = false := decide_eq_false q1
            have dq2 : decide (f < l) = false := decide_eq_false q2
            have dq3 : decide (m < f) = false := decide_eq_false q3
            have dq4 : decide (1048576 < m) = true := decide_eq_true q4
            go_enter Try.func5, Try.ntmps5
            go_wp2_with fail
            refine (awakeK _).mono ?_
            rintro e w2 ⟨rfl, bl⟩
            have BL0 := Lib.hid bl
            clear bl
            go_wp2_with fail
            go_ret
            exact ⟨rfl, BL0.out⟩
          · skip
            omega
set_option maxRecDepth 100000 in
set_option maxHeartbeats 8000000 in
theorem walk_main (f l m : Int) (p : Option Addr) (len cap : Nat) (ls : List Int) (w : World) (hl : IsI64 w p len ls) (h0 : len ≤ 400) (h1 : ¬ l < 1) (h2 : ¬ f < l) (h3 : ¬ m < f) (h4 : ¬ 1048576 < m) :
    Calls Try.prog 5 #[.int .i64 f, .int .i64 l, .int .i64 m, .slice p len cap] w fun e w' => e = .returned (.bool true) ∧ Below w.heap.size w w' := by
  have HT := Lib.hid hl
  have d0 : decide (400 < (len : Int)) = false := decide_eq_false (by omega)
  have d1 : decide (l < 1) = false := decide_eq_false h1
  have d2 : decide (f < l) = false := decide_eq_false h2
  have d3 : decide (m < f) = false := decide_eq_false h3
  have d4 : decide (1048576 < m) = false := decide_eq_false h4
  have HL0 := Lib.hid h0
  have HNN : Hid (¬ l < 1 ∧ ¬ f < l ∧ ¬ m < f ∧ ¬ 1048576 < m) := Lib.hid ⟨h1, h2, h3, h4⟩
  clear hl h0 h1 h2 h3 h4
  go_enter Try.func5, Try.ntmps5
  go_wp2_with fail
  refine (awakeK _).mono ?_
  rintro e w2 ⟨rfl, bl⟩
  have BL0 := Lib.hid bl
  clear bl
  go_wp2_with fail
  refine (kNew w2 f l m (by have := HNN.out; omega) (by have := HNN.out; omega) (by have := HNN.out; omega) (by have := HNN.out; omega)).mono ?_
  rintro e w3 ⟨g, rfl, h⟩
  have H0 := Lib.hid h
  clear h
  go_wp2_with fail
  refine (cknew_ok w3 f l m (by have := HNN.out; omega) (by have := HNN.out; omega) (by have := HNN.out; omega) (by have := HNN.out; omega)).mono ?_
  rintro e w4 ⟨rfl, x1, x2⟩
  have P0 : Hid (CkP w2 w4 g w3.heap.size ⟨l, m, f, false, 0, 0⟩ ⟨l, m, f, false, 0, 0⟩) := Lib.hid ⟨H0.out.grow x2, ⟨x1, H0.out.ok, H0.out.bl.trans (x2.mono H0.out.bl.size), H0.out.bl.size, fun x hx => by cases hx⟩, Nat.ne_of_lt H0.out.lt⟩
  generalize w3.heap.size = g2 at P0 ⊢
  clear x1 x2 H0
  go_upto_region 7 with fail
  go_wp2_with (go_at_call 8; refine (kWait P0.out.a f rfl).mono ?_; rintro e w5 ⟨rfl, rfl⟩)
  clear d0 d1 d2 d3 d4
  go_loopw [13] (fun i wr => ∃ (k : Nat) (c : CkV) (t2 : Int), k ≤ len ∧ i = .int .i64 k ∧ Hid (c.l = l ∧ c.m = m) ∧ Hid (CkP w2 wr g g2 c ⟨c.l, c.m, t2, c.b, c.a, c.d⟩)) (fun i _ => len - (intOf i).toNat)
  case atStart => exact ⟨0, _, _, Nat.zero_le _, rfl, Lib.hid ⟨rfl, rfl⟩, P0⟩
  case round =>
    clear P0
    obtain ⟨k, c, t2, hk, rfl, HC, HP⟩ := hrel
    by_cases hlt : k < len
    · have BW : Hid (Below w.heap.size w wr) := Lib.hid (BL0.out.trans (HP.out.a.bl.mono BL0.out.size))
      obtain ⟨b, oo, hp, hc, hz⟩ := HT.out.at_ k (by rw [HT.out.1]; exact hlt)
      obtain ⟨z, hzz⟩ : ∃ z, z = ls[k]'(by rw [HT.out.1]; exact hlt) := ⟨_, rfl⟩
      rw [← hzz] at hc hz
      clear hzz
      have hzr := sq_i64 hz
      clear hz
      subst hp
      have c0 : wr.cell? ⟨b, oo + k, none⟩ = some (.int .i64 z) := by rw [World.cell?_of_block (a := ⟨b, oo + k, none⟩) (BW.out.block b (World.block_lt_of_cell? w _ hc))]; exact hc
      obtain ⟨y, mm, a1, a2, a3, a4⟩ := half_in z hzr
      clear hc hzr
      have q1 : (0 : Int) ≤ (k : Int) := by omega
      have q2 : (k : Int) < (len : Int) := by omega
      have q3 : decide ((k : Int) < (len : Int)) = true := decide_eq_true q2
      have hl4 := HL0.out
      have q4 : IntKind.i64.wrap ((k : Int) + 1) = (k : Int) + 1 := IntWalk.i64_in _ (by omega)
      clear hl4
      by_cases hm0 : mm = 0
      · have e0 : (mm == 0) = true := by rw [hm0]; rfl
        obtain ⟨c1, hc1⟩ : ∃ c1, c1 = measV c y := ⟨_, rfl⟩
        have HC1 : Hid (c1.l = l ∧ c1.m = m) := Lib.hid (by rw [hc1]; exact HC.out)
        clear hm0
        go_wp2_with (go_at_call 8; refine (kWait HP.out.a c.t rfl).mono ?_; rintro e w5 ⟨rfl, rfl⟩)
        refine (pMeas1 HP.out y).mono ?_
        rintro e w5 ⟨rfl, r1⟩
        rw [← hc1] at r1
        have P1 := Lib.hid r1
        have BW2 : Hid (Below w.heap.size w w5) := Lib.hid (BL0.out.trans (P1.out.a.bl.mono BL0.out.size))
        have c9 : w5.cell? ⟨b, oo + k, none⟩ = some (.int .i64 z) := by
          obtain ⟨b', oo', hp', hc', -⟩ := HT.out.at_ k (by rw [HT.out.1]; exact hlt)
          injection hp' with hp'
          injection hp' with hb' ho'
          subst hb' ho'
          have e9 := BW.out.block b (World.block_lt_of_cell? w _ hc')
          have e8 := BW2.out.block b (World.block_lt_of_cell? w _ hc')
          rw [World.cell?_of_block (a := ⟨b, oo + k, none⟩) (e8.trans e9.symm)]
          exact c0
        clear r1 c0
        go_wp2_with fail
        refine (pMeas2 P1.out y).mono ?_
        rintro e w6 ⟨rfl, r2⟩
        have P2 : Hid (CkP w2 w6 g g2 c1 c1) := Lib.hid (by have r3 := r2; rw [show measV ⟨c.l, c.m, t2, c.b, c.a, c.d⟩ y = c1 from hc1.symm] at r3; exact r3)
        clear r2 hc1 P1 BW2 c9
        go_wp2_with fail
        refine (kWait P2.out.a c1.t rfl).mono ?_
        rintro e w7 ⟨rfl, rfl⟩
        go_wp2_with fail
        refine (kWait P2.out.b c1.t rfl).mono ?_
        rintro e w7 ⟨rfl, rfl⟩
        obtain ⟨tt, htt⟩ : ∃ tt, tt = c1.t := ⟨_, rfl⟩
        have HTT := Lib.hid htt
        have o1 : decide (tt < l) = false := decide_eq_false (by have := P2.out.a.ok.lt; have := HC1.out.1; omega)
        have o2 : decide (m < tt) = false := decide_eq_false (by have := P2.out.a.ok.tm; have := HC1.out.2; omega)
        clear htt
        go_wp2_with fail
        refine (kWait P2.out.a tt HTT.out.symm).mono ?_
        rintro e w7 ⟨rfl, rfl⟩
        go_wp2_with fail
        refine (kWait P2.out.a tt HTT.out.symm).mono ?_
        rintro e w7 ⟨rfl, rfl⟩
        go_wp2_with fail
        go_roundw
        case rel => exact ⟨k + 1, c1, c1.t, by omega, by go_num, HC1, P2⟩
        case measure => simp [intOf]; omega
      · have e0 : (mm == 0) = false := beq_eq_false_iff_ne.2 hm0
        obtain ⟨t1, ht1⟩ : ∃ t1, t1 = c.t := ⟨_, rfl⟩
        obtain ⟨ts, hts⟩ : ∃ ts, min (2 * t1) m = ts := ⟨_, rfl⟩
        obtain ⟨c1, hc1⟩ : ∃ c1, c1 = backV c := ⟨_, rfl⟩
        have HC1 : Hid (c1.l = l ∧ c1.m = m) := Lib.hid (by rw [hc1]; exact HC.out)
        have ht2 : c1.t = ts := by rw [hc1]; show min (2 * c.t) c.m = ts; rw [← ht1, HC.out.2]; exact hts
        have hok := HP.out.a.ok
        have hlt1 := hok.lt
        have htm := hok.tm
        have hm2 := hok.m2
        have hl1 := hok.l1
        have hcm := HC.out.2
        have n1 : decide (ts < t1) = false := decide_eq_false (by omega)
        have n2 : IntKind.i64.wrap (2 * t1) = 2 * t1 := IntWalk.i64_in _ (by omega)
        have HT1 := Lib.hid ht1
        have HT2 := Lib.hid ht2
        clear hm0 hok hlt1 htm hm2 hl1 hcm ht1 ht2
        go_wp2_with (go_at_call 8; refine (kWait HP.out.a t1 HT1.out.symm).mono ?_; rintro e w5 ⟨rfl, rfl⟩)
        refine (pBack1 HP.out).mono ?_
        rintro e w6 ⟨rfl, r2⟩
        rw [← hc1] at r2
        have P2 := Lib.hid r2
        clear r2
        go_wp2_with fail
        refine (kWait P2.out.a ts HT2.out).mono ?_
        rintro e w7 ⟨rfl, rfl⟩
        go_wp2_with fail
        refine (kWait P2.out.a ts HT2.out).mono ?_
        rintro e w7 ⟨rfl, rfl⟩
        obtain ⟨tt, htt⟩ : ∃ tt, tt = c1.t := ⟨_, rfl⟩
        have HTT := Lib.hid htt
        have o1 : decide (tt < l) = false := decide_eq_false (by have := P2.out.a.ok.lt; have := HC1.out.1; omega)
        have o2 : decide (m < tt) = false := decide_eq_false (by have := P2.out.a.ok.tm; have := HC1.out.2; omega)
        clear htt
        go_wp2_with fail
        refine (kWait P2.out.a tt HTT.out.symm).mono ?_
        rintro e w7 ⟨rfl, rfl⟩
        go_wp2_with fail
        refine (kWait P2.out.a tt HTT.out.symm).mono ?_
        rintro e w7 ⟨rfl, rfl⟩
        go_wp2_with fail
        go_roundw
        case rel => exact ⟨k + 1, c1, t2, by omega, by go_num, HC1, Lib.hid (by have r3 := P2.out; subst hc1; exact r3)⟩
        case measure => simp [intOf]; omega
    · obtain rfl : k = len := by omega
      have q3 : decide ((k : Int) < (k : Int)) = false := by simp
      go_wp2_with fail
      go_ret
      exact ⟨rfl, BL0.out.trans (HP.out.a.bl.mono BL0.out.size)⟩
theorem walk (a0 a1 a2 : Int) (p : Option Addr) (len cap : Nat) (l : List Int) (w : World) (w0 : (Lit.int .i64 a0).wf = true) (w1 : (Lit.int .i64 a1).wf = true) (w2 : (Lit.int .i64 a2).wf = true) (w3 : IsI64 w p len l) :
    Calls Try.prog 5 #[.int .i64 a0, .int .i64 a1, .int .i64 a2, .slice p len cap] w fun e w' => e = .returned (.bool true) ∧ Below w.heap.size w w' := by
  by_cases h : 400 < len ∨ a1 < 1 ∨ a0 < a1 ∨ a2 < a0 ∨ 1048576 < a2
  · exact walk_out a0 a1 a2 p len cap w h
  · exact walk_main a0 a1 a2 p len cap l w w3 (by omega) (by omega) (by omega) (by omega) (by omega)
set_option maxRecDepth 100000 in
theorem lifted (os : Os) (started : os.Started) (H : Type) (enc : TypeId × Value → H) :
    ReturnsInHanded {} Try.checked os 5 .any (Rows.rtoBoundsSpec.pre6 enc Try.prog Try.f5 Rows.rtoBoundsRow.domain false) (Rows.rtoBoundsSpec.post enc Try.prog Try.f5 false true false false) := by
  refine returnsInHanded_of_change (C := Try.checked) own started (by kernel_rfl) Try.func5
    (ChangeSpec.witness6 (enc := enc) (C := Try.checked) false ⟨#[], #[.int .i64 0, .int .i64 0, .int .i64 0, .slice none 0 0], []⟩ 8 (by kernel_rfl) (by kernel_rfl) (by kernel_rfl) (by kernel_rfl)) ?_
  intro W base args ds gs before hval0 hW hcnd _
  have hval : ∀ (j : Nat) t v, Try.f5.params[j]? = some t → args[j]? = some v → Value.okWide Try.prog W .any base t v := hval0
  have hW' := hW
  obtain ⟨p, q, hA0, hV, rfl, hfz, hnd⟩ := hW
  have hA : DataW.TrodAll enc Try.prog W 0 (fun _ => true) true Try.f5.params.toList args.toList ds p := hA0
  rw [Try.params5] at hA hval
  obtain ⟨v0, vs0, d0, ds0, p0, q0, hargs, rfl, rfl, h0, r0⟩ := trodAll_cons hA
  obtain ⟨v1, vs1, d1, ds1, p1, q1, rfl, rfl, rfl, h1, r1⟩ := trodAll_cons r0
  obtain ⟨v2, vs2, d2, ds2, p2, q2, rfl, rfl, rfl, h2, r2⟩ := trodAll_cons r1
  obtain ⟨v3, vs3, d3, ds3, p3, q3, rfl, rfl, rfl, h3, r3⟩ := trodAll_cons r2
  obtain ⟨rfl, rfl, rfl⟩ := trodAll_nil r3
  obtain rfl : args = #[v0, v1, v2, v3] := by cases args; simp_all
  obtain ⟨rfl, rfl⟩ := trodVars_none hV
  obtain ⟨a0, rfl, rfl, rfl, w0⟩ := open_int Try.underlying3 (hval 0 3 v0 rfl rfl) h0
  obtain ⟨a1, rfl, rfl, rfl, w1⟩ := open_int Try.underlying3 (hval 1 3 v1 rfl rfl) h1
  obtain ⟨a2, rfl, rfl, rfl, w2⟩ := open_int Try.underlying3 (hval 2 3 v2 rfl rfl) h2
  obtain ⟨a3, len3, cap3, rfl⟩ := okWide_slice Try.underlying31 (hval 3 31 v3 rfl rfl)
  have k3 := h3
  have lt3 : ∀ x ∈ p3, x.block < W.heap.size := by obtain ⟨m, hm⟩ := k3; exact DataW.trod_lt m _ _ _ hm
  obtain ⟨l3, w3⟩ : ∃ l, IsI64 W a3 len3 l := by obtain ⟨fuel, hf⟩ := h3; exact open_i14 hf
  clear hA0 hval0
  refine (walk a0 a1 a2 a3 len3 cap3 l3 W w0 w1 w2 w3).mono fun e W' ⟨he, bel⟩ => ?_
  subst he
  exact ⟨_, rfl, _, _, _, [], _, [], hW', trodAll_mk1 (shut_bool Try.underlying4 _), (trodAll_cons_mk (shut_int Try.underlying3 w0) (trodAll_cons_mk (shut_int Try.underlying3 w1) (trodAll_cons_mk (shut_int Try.underlying3 w2) (trodAll_cons_mk (Below.trod laidOut (by kernel_rfl) (of_decide_eq_true (by kernel_rfl)) k3 bel lt3) trodAll_mk0)))), rfl, bel.frame _, fun h => by cases h⟩

/-- THE STATEMENT. -/
theorem proved : Rows.RtoBoundsSaid :=
  OpenClaim.holds_of_wide 5 Try.f5 rfl rfl rfl rfl rfl rfl rfl ⟨rfl, rfl, rfl, rfl, rfl⟩ rfl rfl rfl rfl rfl (by kernel_rfl) Try.func5 (by kernel_rfl)
    (of_decide_eq_true (by kernel_rfl)) (by unfold Func.isWrapper; first | (rw [if_pos (by decide +kernel)]; kernel_rfl) | (rw [if_neg (by decide +kernel)]; exact ⟨rfl, rfl⟩))
    (fun os started H enc _ => lifted os started H enc)
#print axioms proved

end Go.Proofs.Ytgimadcfckgcmaa.rtb
