/-
  IcmpQuotes: what says that nobody is there quotes a beginning of the packet, never more than 68 bytes, and may go. Conditions: more than 2000 bytes are not asked about, as the statement says.
-/
import Derived.Test.YtapfkhhabamndaaIcE
import Derived.BigQuiet
import Derived.ProofKit
import Derived.OpenShut
import Derived.ShutString
import Derived.ChangeOld
import Derived.Below
namespace Go.Proofs.Ytapfkhhabamndaa.icq
open Go.ChangeShapes Go.WideShapes Go.ChangeAt Go.RowKit
open Go.ChangeMaps (open_string shut_string)
set_option linter.unusedVariables false

set_option maxRecDepth 100000 in
set_option maxHeartbeats 4000000 in
theorem walk_long (c : Int) (s : ByteArray) (hb : s.size ≤ 9223372036854775807) (h : 2000 < s.size) (w : World) :
    Calls Try.prog 9 #[.int .i64 c, .string s] w fun e w' => e = .returned (.bool true) ∧ Below w.heap.size w w' := by
  go_enter Try.func9, Try.ntmps9
  go_wp2_with fail
  refine (awakeI _).mono ?_
  rintro e w1 ⟨rfl, b1⟩
  have B1 := Lib.hid b1
  clear b1
  go_wp2_with fail
  go_ret
  exact ⟨rfl, B1.out⟩
set_option maxRecDepth 100000 in
set_option maxHeartbeats 4000000 in
theorem walk_main (c : Int) (s : ByteArray) (hs : s.size ≤ 2000) (w : World) :
    Calls Try.prog 9 #[.int .i64 c, .string s] w fun e w' => e = .returned (.bool true) ∧ Below w.heap.size w w' := by
  have k1 := Lib.hid (fun w => unreach_any w c s (by omega))
  have k2 := Lib.hid (fun w => icBytes_any w (quC c s) (quC_ok c s) (by rw [quC_size]; have := quN_le s; omega))
  rw [quC_zero] at k2
  obtain ⟨a1, a2, a3⟩ := quN_le s
  have hz := quC_size c s
  obtain ⟨N, hN⟩ : ∃ N, N = quN s := ⟨_, rfl⟩
  have hd : (quC c s).da = s.extract 0 (quN s) := rfl
  have hk : (quC c s).kd = 3 := rfl
  have hr : (quC c s).re = 0 := rfl
  rw [← hN] at hz a1 a2 a3 hd
  clear hN
  generalize icS (quC c s) = S at k2
  generalize quC c s = Q at k1 k2 hz hd hk hr
  have e1 : (Q.da.toList == (s.extract 0 N).toList) = true := by rw [hd]; simp
  have e2 : (Q.kd == 3) = true := by simp [hk]
  have e3 : (Q.re == 0) = true := by simp [hr]
  have e4 : decide ((N : Int) ≤ 68) = true := decide_eq_true (by omega)
  have e5 : decide ((N : Int) ≤ (s.size : Int)) = true := decide_eq_true (by omega)
  have e6 : ¬ (s.size : Int) < (N : Int) := by omega
  clear hd hk hr
  by_cases h8 : 8 ≤ N
  · have e7 : decide ((8 : Int) ≤ (N : Int)) = true := decide_eq_true (by omega)
    clear a3
    go_enter Try.func9, Try.ntmps9
    go_wp2_with fail
    refine (awakeI _).mono ?_
    rintro e w1 ⟨rfl, b1⟩
    have B1 := Lib.hid b1
    clear b1
    go_wp2_with fail
    refine (k1.out _).mono ?_
    rintro e w2 ⟨rfl, b2⟩
    have B2 := bstep B1 b2
    clear b2
    have hst := ic_store w2 Q
    go_upto_region 6 with (refine wpList_storeW 49 (.tmp 5) (.tmp 16) rfl rfl (.agg (icC Q)) w2.heap.size rfl rfl hst ?_)
    try simp only [Act.put]
    have Pp : Hid (IcAt (w2.alloc (.cells (icC Q) 49)) w2.heap.size Q) := Lib.hid (ic_new _ _ _ rfl)
    have B2s := bstep B2 ((Below.refl w2.heap.size w2).alloc (Nat.le_refl _) (.cells (icC Q) 49))
    clear hst
    obtain ⟨p, hnp⟩ : ∃ n, n = w2.heap.size := ⟨_, rfl⟩
    generalize w2.alloc _ = W2s at Pp B2s ⊢
    rw [← hnp] at Pp ⊢
    clear hnp
    have hp := Pp.out
    go_wp2_with (first | (refine ic_ld (by rfl) (.tmp 5) rfl p rfl _ hp ?_))
    refine (k2.out _).mono ?_
    rintro e w3 ⟨rfl, b3⟩
    have B3 := bstep B2s b3
    have Q3 := Lib.hid (Pp.out.grow b3)
    clear b3 Pp
    clear hp
    obtain ⟨c0, c1, c2, c3⟩ := Q3.out.all
    go_upto_region 8 with fail
    try rw [hz]
    clear k1 k2
    go_quiet (fail)
    all_goals
      go_wp2_with fail
      go_ret
      exact ⟨rfl, below_drewN B3.out _⟩
  · have e7 : decide ((8 : Int) ≤ (N : Int)) = false := decide_eq_false (by omega)
    have e8 : ((N : Int) == (s.size : Int)) = true := by simp; omega
    clear a3
    go_enter Try.func9, Try.ntmps9
    go_wp2_with fail
    refine (awakeI _).mono ?_
    rintro e w1 ⟨rfl, b1⟩
    have B1 := Lib.hid b1
    clear b1
    go_wp2_with fail
    refine (k1.out _).mono ?_
    rintro e w2 ⟨rfl, b2⟩
    have B2 := bstep B1 b2
    clear b2
    have hst := ic_store w2 Q
    go_upto_region 6 with (refine wpList_storeW 49 (.tmp 5) (.tmp 16) rfl rfl (.agg (icC Q)) w2.heap.size rfl rfl hst ?_)
    try simp only [Act.put]
    have Pp : Hid (IcAt (w2.alloc (.cells (icC Q) 49)) w2.heap.size Q) := Lib.hid (ic_new _ _ _ rfl)
    have B2s := bstep B2 ((Below.refl w2.heap.size w2).alloc (Nat.le_refl _) (.cells (icC Q) 49))
    clear hst
    obtain ⟨p, hnp⟩ : ∃ n, n = w2.heap.size := ⟨_, rfl⟩
    generalize w2.alloc _ = W2s at Pp B2s ⊢
    rw [← hnp] at Pp ⊢
    clear hnp
    have hp := Pp.out
    go_wp2_with (first | (refine ic_ld (by rfl) (.tmp 5) rfl p rfl _ hp ?_))
    refine (k2.out _).mono ?_
    rintro e w3 ⟨rfl, b3⟩
    have B3 := bstep B2s b3
    have Q3 := Lib.hid (Pp.out.grow b3)
    clear b3 Pp
    clear hp
    obtain ⟨c0, c1, c2, c3⟩ := Q3.out.all
    go_upto_region 8 with fail
    try rw [hz]
    clear k1 k2
    go_quiet (fail)
    all_goals
      go_wp2_with fail
      go_ret
      exact ⟨rfl, below_drewN B3.out _⟩
theorem walk (c : Int) (s : ByteArray) (w0 : (Lit.int .i64 c).wf = true) (w1 : s.size ≤ maxLen) (w : World) :
    Calls Try.prog 9 #[.int .i64 c, .string s] w fun e w' => e = .returned (.bool true) ∧ Below w.heap.size w w' := by
  have m1 : s.size ≤ 9223372036854775807 := by unfold maxLen at w1; omega
  by_cases h2 : 2000 < s.size
  · exact walk_long c s m1 h2 w
  exact walk_main c s (by omega) w

set_option maxRecDepth 100000 in
theorem lifted (os : Os) (started : os.Started) (H : Type) (enc : TypeId × Value → H) :
    ReturnsInHanded {} Try.checked os 9 .any (Rows.icmpQuotesSpec.pre6 enc Try.prog Try.f9 Rows.icmpQuotesRow.domain false) (Rows.icmpQuotesSpec.post enc Try.prog Try.f9 false true false false) := by
  refine returnsInHanded_of_change (C := Try.checked) own started (by kernel_rfl) Try.func9
    (ChangeSpec.witness6 (enc := enc) (C := Try.checked) false ⟨#[], #[.int .i64 0, .string ByteArray.empty], []⟩ 8 (by kernel_rfl) (by kernel_rfl) (by kernel_rfl) (by kernel_rfl)) ?_
  intro W base args ds gs before hval0 hW hcnd _
  have hval : ∀ (j : Nat) t v, Try.f9.params[j]? = some t → args[j]? = some v → Value.okWide Try.prog W .any base t v := hval0
  have hW' := hW
  obtain ⟨p, q, hA0, hV, rfl, hfz, hnd⟩ := hW
  have hA : DataW.TrodAll enc Try.prog W 0 (fun _ => true) true Try.f9.params.toList args.toList ds p := hA0
  rw [Try.params9] at hA hval
  obtain ⟨v0, vs0, d0, ds0, p0, q0, hargs, rfl, rfl, h0, r0⟩ := trodAll_cons hA
  obtain ⟨v1, vs1, d1, ds1, p1, q1, rfl, rfl, rfl, h1, r1⟩ := trodAll_cons r0
  obtain ⟨rfl, rfl, rfl⟩ := trodAll_nil r1
  obtain rfl : args = #[v0, v1] := by cases args; simp_all
  obtain ⟨rfl, rfl⟩ := trodVars_none hV
  obtain ⟨a0, rfl, rfl, rfl, w0⟩ := open_int Try.underlying3 (hval 0 3 v0 rfl rfl) h0
  obtain ⟨a1, rfl, rfl, rfl, w1⟩ := open_string Try.underlying9 (hval 1 9 v1 rfl rfl) h1
  clear hA0 hval0
  refine (walk a0 a1 w0 w1 W).mono fun e W' ⟨he, bel⟩ => ?_
  subst he
  exact ⟨_, rfl, _, _, _, [], _, [], hW', trodAll_mk1 (shut_bool Try.underlying4 _), (trodAll_cons_mk (shut_int Try.underlying3 w0) (trodAll_cons_mk (shut_string Try.underlying9 w1) trodAll_mk0)), rfl, bel.frame _, fun h => by cases h⟩

/-- THE STATEMENT. -/
theorem proved : Rows.IcmpQuotesSaid :=
  OpenClaim.holds_of_wide 9 Try.f9 rfl rfl rfl rfl rfl rfl rfl ⟨rfl, rfl, rfl, rfl, rfl⟩ rfl rfl rfl rfl rfl (by kernel_rfl) Try.func9 (by kernel_rfl)
    (of_decide_eq_true (by kernel_rfl)) (by unfold Func.isWrapper; first | (rw [if_pos (by decide +kernel)]; kernel_rfl) | (rw [if_neg (by decide +kernel)]; exact ⟨rfl, rfl⟩))
    (fun os started H enc _ => lifted os started H enc)
#print axioms proved

end Go.Proofs.Ytapfkhhabamndaa.icq
