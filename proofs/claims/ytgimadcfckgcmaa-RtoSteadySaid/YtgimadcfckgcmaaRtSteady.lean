/-
  RtoSteady: measuring the same again and again brings the wait to that, or 4 more at most, whatever was measured ahead. Conditions: none beyond the kinds of the arguments.
-/
import Derived.Test.YtgimadcfckgcmaaRtE
import Derived.ProofKit
import Derived.OpenShut
import Derived.ShutString
import Derived.ChangeOld
import Derived.Below
namespace Go.Proofs.Ytgimadcfckgcmaa.rts
open Go.ChangeShapes Go.WideShapes Go.ChangeAt Go.RowKit
open Go.ChangeMaps (open_string shut_string)
set_option linter.unusedVariables false

theorem own : ownKnob Try.prog.godebug = none := by kernel_rfl
theorem laidOut : laidOutB Try.prog = true := by kernel_rfl
set_option maxRecDepth 100000 in
set_option maxHeartbeats 8000000 in
theorem walk_out (p : Option Addr) (len cap : Nat) (r : Int) (w : World) (h : 100 < len) :
    Calls Try.prog 6 #[.slice p len cap, .int .u16 r] w fun e w' => e = .returned (.bool true) ∧ Below w.heap.size w w' := by
  have d0 : decide (100 < (len : Int)) = true := decide_eq_true (by omega)
  clear h
  go_enter Try.func6, Try.ntmps6
  go_wp2_with fail
  refine (awakeK _).mono ?_
  rintro e w2 ⟨rfl, bl⟩
  have BL0 := Lib.hid bl
  clear bl
  go_wp2_with fail
  go_ret
  exact ⟨rfl, BL0.out⟩
set_option maxRecDepth 100000 in
set_option maxHeartbeats 8000000 in
theorem walk_main (p : Option Addr) (len cap : Nat) (r n : Int) (ls : List Int) (hq : Int.tmod r 5001 = n) (hn : 0 ≤ n ∧ n ≤ 5000) (w : World) (hl : IsU16 w p len ls) (h0 : len ≤ 100) :
    Calls Try.prog 6 #[.slice p len cap, .int .u16 r] w fun e w' => e = .returned (.bool true) ∧ Below w.heap.size w w' := by
  have HT := Lib.hid hl
  have d0 : decide (100 < (len : Int)) = false := decide_eq_false (by omega)
  have HL0 := Lib.hid h0
  clear hl h0
  go_enter Try.func6, Try.ntmps6
  go_wp2_with fail
  refine (awakeK _).mono ?_
  rintro e w2 ⟨rfl, bl⟩
  have BL0 := Lib.hid bl
  clear bl
  go_wp2_with fail
  refine (kNew w2 1 1 1048576 (by decide) (by decide) (by decide) (by decide)).mono ?_
  rintro e w3 ⟨g, rfl, h⟩
  have H0 := Lib.hid h
  clear h
  go_upto_region 9 with fail
  clear d0
  go_loopw [7] (fun i wr => ∃ (k : Nat) (c : CkV), k ≤ len ∧ i = .int .i64 k ∧ Hid (c.l = 1 ∧ c.m = 1048576) ∧ Hid (CkS w2 wr [] g c)) (fun i _ => len - (intOf i).toNat)
  case atStart => exact ⟨0, _, Nat.zero_le _, rfl, Lib.hid ⟨rfl, rfl⟩, H0⟩
  case round =>
    clear H0
    obtain ⟨k, c, hk, rfl, HC, HP⟩ := hrel
    by_cases hlt : k < len
    · have BW : Hid (Below w.heap.size w wr) := Lib.hid (BL0.out.trans (HP.out.bl.mono BL0.out.size))
      obtain ⟨b, oo, hp, hc, hz⟩ := HT.out.at_ k (by rw [HT.out.1]; exact hlt)
      obtain ⟨z, hzz⟩ : ∃ z, z = ls[k]'(by rw [HT.out.1]; exact hlt) := ⟨_, rfl⟩
      rw [← hzz] at hc hz
      clear hzz
      have hzr := sq_u16 hz
      have a1 : IntKind.i64.wrap z = z := IntWalk.i64_in _ (by omega)
      clear hz hzr
      subst hp
      have c0 : wr.cell? ⟨b, oo + k, none⟩ = some (.int .u16 z) := by rw [World.cell?_of_block (a := ⟨b, oo + k, none⟩) (BW.out.block b (World.block_lt_of_cell? w _ hc))]; exact hc
      clear hc
      have q1 : (0 : Int) ≤ (k : Int) := by omega
      have q2 : (k : Int) < (len : Int) := by omega
      have q3 : decide ((k : Int) < (len : Int)) = true := decide_eq_true q2
      have hl4 := HL0.out
      have q4 : IntKind.i64.wrap ((k : Int) + 1) = (k : Int) + 1 := IntWalk.i64_in _ (by omega)
      clear hl4
      go_wp2_with fail
      refine (kMeas HP.out z _ rfl).mono ?_
      rintro e w5 ⟨rfl, r1⟩
      have P1 := Lib.hid r1
      clear r1 c0
      go_wp2_with fail
      go_roundw
      case rel => exact ⟨k + 1, measV c z, by omega, by go_num, HC, P1⟩
      case measure => simp [intOf]; omega
    · obtain rfl : k = len := by omega
      have q3 : decide ((k : Int) < (k : Int)) = false := by simp
      have e1 : IntKind.u16.wrap n = n := by rw [IntKind.wrap_u16]; omega
      have e2 : IntKind.i64.wrap n = n := IntWalk.i64_in _ (by omega)
      have HNN := Lib.hid hn
      clear hn
      go_upto_region 14 with fail
      clear q3 hq e1 e2
      go_loopw [9] (fun i wt => ∃ (j : Nat) (c : CkV), j ≤ 400 ∧ i = .int .i64 j ∧ Hid (c.l = 1 ∧ c.m = 1048576) ∧ Hid (CkS w2 wt [] g c) ∧ Hid (StV n j c)) (fun i _ => 400 - (intOf i).toNat)
      case atStart => exact ⟨0, c, by omega, rfl, HC, HP, Lib.hid (StV.zero n c)⟩
      case round =>
        clear HP HC
        rename World => wt
        obtain ⟨j, c2, hj, rfl, HC, HP, HS⟩ := hrel
        by_cases hlt : j < 400
        · have q3 : decide ((j : Int) < (400 : Int)) = true := decide_eq_true (by omega)
          have q4 : IntKind.i64.wrap ((j : Int) + 1) = (j : Int) + 1 := IntWalk.i64_in _ (by omega)
          go_wp2_with fail
          refine (kMeas HP.out n _ rfl).mono ?_
          rintro e w5 ⟨rfl, r1⟩
          have P1 := Lib.hid r1
          have S1 := Lib.hid (HS.out.step HP.out.ok HNN.out)
          clear r1
          go_wp2_with fail
          go_roundw
          case rel => exact ⟨j + 1, measV c2 n, by omega, by go_num, HC, P1, S1⟩
          case measure => simp [intOf]; omega
        · obtain rfl : j = 400 := by omega
          have q3 : decide (((400 : Nat) : Int) < (400 : Int)) = false := by decide
          obtain ⟨l1, l2⟩ := HS.out.last HP.out.ok HNN.out HC.out.1 HC.out.2
          obtain ⟨tt, htt⟩ : ∃ tt, tt = c2.t := ⟨_, rfl⟩
          have HTT := Lib.hid htt
          rw [← htt] at l1 l2
          obtain ⟨mx, hmx⟩ : ∃ mx, max n 1 = mx := ⟨_, rfl⟩
          rw [hmx] at l1
          obtain ⟨n4, hn4⟩ : ∃ n4, n4 = n + 4 := ⟨_, rfl⟩
          rw [← hn4] at l2
          have o0 : IntKind.i64.wrap (n + 4) = n4 := by rw [hn4]; exact IntWalk.i64_in _ (by have := HNN.out; omega)
          have o1 : decide (mx ≤ tt) = true := decide_eq_true l1
          have o2 : decide (tt ≤ n4) = true := decide_eq_true l2
          clear htt hn4
          go_wp2_with (go_at_call 8; refine (kWait HP.out tt HTT.out.symm).mono ?_; rintro e w7 ⟨rfl, rfl⟩)
          go_ret
          exact ⟨rfl, BL0.out.trans (HP.out.bl.mono BL0.out.size)⟩
theorem walk (p : Option Addr) (len cap : Nat) (l : List Int) (a1 : Int) (w : World) (w0 : IsU16 w p len l) (w1 : (Lit.int .u16 a1).wf = true) :
    Calls Try.prog 6 #[.slice p len cap, .int .u16 a1] w fun e w' => e = .returned (.bool true) ∧ Below w.heap.size w w' := by
  have b1 := sq_u16 w1
  by_cases h : 100 < len
  · exact walk_out p len cap a1 w h
  · exact walk_main p len cap a1 (a1 % 5001) l (Int.tmod_eq_emod_of_nonneg b1.1) (by omega) w w0 (by omega)
set_option maxRecDepth 100000 in
theorem lifted (os : Os) (started : os.Started) (H : Type) (enc : TypeId × Value → H) :
    ReturnsInHanded {} Try.checked os 6 .any (Rows.rtoSteadySpec.pre6 enc Try.prog Try.f6 Rows.rtoSteadyRow.domain false) (Rows.rtoSteadySpec.post enc Try.prog Try.f6 false true false false) := by
  refine returnsInHanded_of_change (C := Try.checked) own started (by kernel_rfl) Try.func6
    (ChangeSpec.witness6 (enc := enc) (C := Try.checked) false ⟨#[], #[.slice none 0 0, .int .u16 0], []⟩ 8 (by kernel_rfl) (by kernel_rfl) (by kernel_rfl) (by kernel_rfl)) ?_
  intro W base args ds gs before hval0 hW hcnd _
  have hval : ∀ (j : Nat) t v, Try.f6.params[j]? = some t → args[j]? = some v → Value.okWide Try.prog W .any base t v := hval0
  have hW' := hW
  obtain ⟨p, q, hA0, hV, rfl, hfz, hnd⟩ := hW
  have hA : DataW.TrodAll enc Try.prog W 0 (fun _ => true) true Try.f6.params.toList args.toList ds p := hA0
  rw [Try.params6] at hA hval
  obtain ⟨v0, vs0, d0, ds0, p0, q0, hargs, rfl, rfl, h0, r0⟩ := trodAll_cons hA
  obtain ⟨v1, vs1, d1, ds1, p1, q1, rfl, rfl, rfl, h1, r1⟩ := trodAll_cons r0
  obtain ⟨rfl, rfl, rfl⟩ := trodAll_nil r1
  obtain rfl : args = #[v0, v1] := by cases args; simp_all
  obtain ⟨rfl, rfl⟩ := trodVars_none hV
  obtain ⟨a0, len0, cap0, rfl⟩ := okWide_slice Try.underlying39 (hval 0 39 v0 rfl rfl)
  have k0 := h0
  have lt0 : ∀ x ∈ p0, x.block < W.heap.size := by obtain ⟨m, hm⟩ := k0; exact DataW.trod_lt m _ _ _ hm
  obtain ⟨l0, w0⟩ : ∃ l, IsU16 W a0 len0 l := by obtain ⟨fuel, hf⟩ := h0; exact open_u14 hf
  obtain ⟨a1, rfl, rfl, rfl, w1⟩ := open_int Try.underlying40 (hval 1 40 v1 rfl rfl) h1
  clear hA0 hval0
  refine (walk a0 len0 cap0 l0 a1 W w0 w1).mono fun e W' ⟨he, bel⟩ => ?_
  subst he
  exact ⟨_, rfl, _, _, _, [], _, [], hW', trodAll_mk1 (shut_bool Try.underlying4 _), (trodAll_cons_mk (Below.trod laidOut (by kernel_rfl) (of_decide_eq_true (by kernel_rfl)) k0 bel lt0) (trodAll_cons_mk (shut_int Try.underlying40 w1) trodAll_mk0)), rfl, bel.frame _, fun h => by cases h⟩

/-- THE STATEMENT. -/
theorem proved : Rows.RtoSteadySaid :=
  OpenClaim.holds_of_wide 6 Try.f6 rfl rfl rfl rfl rfl rfl rfl ⟨rfl, rfl, rfl, rfl, rfl⟩ rfl rfl rfl rfl rfl (by kernel_rfl) Try.func6 (by kernel_rfl)
    (of_decide_eq_true (by kernel_rfl)) (by unfold Func.isWrapper; first | (rw [if_pos (by decide +kernel)]; kernel_rfl) | (rw [if_neg (by decide +kernel)]; exact ⟨rfl, rfl⟩))
    (fun os started H enc _ => lifted os started H enc)
#print axioms proved

end Go.Proofs.Ytgimadcfckgcmaa.rts
