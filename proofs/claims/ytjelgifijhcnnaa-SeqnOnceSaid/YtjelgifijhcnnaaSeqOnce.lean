/-
  SeqnOnce: of two unlike numbers one is ahead of the other one, and not the other way about, unless they lie just half the round apart; there and back it is once round. Conditions: none beyond the kinds of the arguments.
-/
import Derived.Test.YtjelgifijhcnnaaSqB
import Derived.ProofKit
import Derived.OpenShut
import Derived.ShutString
import Derived.ChangeOld
import Derived.Below
namespace Go.Proofs.Ytjelgifijhcnnaa.sqo
open Go.ChangeShapes Go.WideShapes Go.ChangeAt Go.RowKit
open Go.ChangeMaps (open_string shut_string)
set_option linter.unusedVariables false

theorem own : ownKnob Try.prog.godebug = none := by kernel_rfl
set_option maxRecDepth 100000 in
set_option maxHeartbeats 4000000 in
theorem walk (a0 a1 : Int) (w0 : (Lit.int .u32 a0).wf = true) (w1 : (Lit.int .u32 a1).wf = true) (w : World) :
    Calls Try.prog 8 #[.int .u32 a0, .int .u32 a1] w fun e w' => e = .returned (.bool true) ∧ Below w.heap.size w w' := by
  have b0 := sq_u32 w0
  have b1 := sq_u32 w1
  have k1 := Lib.hid (ah_any w a0 a1)
  have k2 := Lib.hid (ah_any w a1 a0)
  have k3 := Lib.hid (less_any w a0 a1)
  have k4 := Lib.hid (less_any w a1 a0)
  obtain ⟨d, hd⟩ : ∃ d, ahN a0 a1 = d := ⟨_, rfl⟩
  obtain ⟨f, hf⟩ : ∃ f, ahN a1 a0 = f := ⟨_, rfl⟩
  have hp : lessN a0 a1 = (decide (0 < d) && decide (d < 2147483648)) := by rw [lessN, hd]
  have hq : lessN a1 a0 = (decide (0 < f) && decide (f < 2147483648)) := by rw [lessN, hf]
  rw [hd] at k1
  rw [hf] at k2
  rw [hp] at k3
  rw [hq] at k4
  have f1 : d = (a1 - a0) % 4294967296 := by rw [← hd, ahN]
  have f2 : f = (a0 - a1) % 4294967296 := by rw [← hf, ahN]
  clear hd hf hp hq w0 w1
  by_cases hab : a0 = a1
  · subst hab
    obtain rfl : d = 0 := by omega
    obtain rfl : f = 0 := by omega
    rw [show (decide ((0 : Int) < 0) && decide ((0 : Int) < 2147483648)) = false from by decide] at k3 k4
    have e0 : (a0 == a0) = true := by simp
    clear f1 f2
    go_enter Try.func8, Try.ntmps8
    go_wp2_with fail
    refine (awakeQ _).mono ?_
    rintro e w1 ⟨rfl, rfl⟩
    go_wp2_with fail
    refine (k1.out).mono ?_
    rintro e w1 ⟨rfl, rfl⟩
    go_wp2_with fail
    refine (k2.out).mono ?_
    rintro e w1 ⟨rfl, rfl⟩
    go_wp2_with fail
    refine (k3.out).mono ?_
    rintro e w1 ⟨rfl, rfl⟩
    go_wp2_with fail
    go_ret
    exact ⟨rfl, Below.refl _ _⟩
  have e0 : (a0 == a1) = false := beq_eq_false_iff_ne.2 hab
  have s1 : d + f = 4294967296 := by omega
  have s2 : IntKind.i64.wrap 4294967296 = 4294967296 := by rw [IntKind.wrap_i64]; decide
  have s3 : IntKind.u32.wrap d = d := by rw [IntKind.wrap_u32]; omega
  have s4 : IntKind.u32.wrap (a0 + d) = a1 := by rw [IntKind.wrap_u32]; omega
  have s5 : (a1 == a1) = true := by simp
  have s6 : (a1 != a1) = false := by simp
  have hd0 : 0 < d := by omega
  have hf0 : 0 < f := by omega
  rw [decide_eq_true hd0, Bool.true_and] at k3
  rw [decide_eq_true hf0, Bool.true_and] at k4
  by_cases hh : d = 2147483648
  · have hh2 : f = 2147483648 := by omega
    subst hh hh2
    rw [show decide ((2147483648 : Int) < 2147483648) = false from by decide] at k3 k4
    clear f1 f2
    go_enter Try.func8, Try.ntmps8
    go_wp2_with fail
    refine (awakeQ _).mono ?_
    rintro e w1 ⟨rfl, rfl⟩
    go_wp2_with fail
    refine (k1.out).mono ?_
    rintro e w1 ⟨rfl, rfl⟩
    go_wp2_with fail
    refine (k2.out).mono ?_
    rintro e w1 ⟨rfl, rfl⟩
    go_wp2_with fail
    refine (k3.out).mono ?_
    rintro e w1 ⟨rfl, rfl⟩
    go_wp2_with fail
    refine (k4.out).mono ?_
    rintro e w1 ⟨rfl, rfl⟩
    go_wp2_with fail
    go_ret
    exact ⟨rfl, Below.refl _ _⟩
  have s7 : (d == 2147483648) = false := beq_eq_false_iff_ne.2 hh
  by_cases hl : d < 2147483648
  · rw [decide_eq_true hl] at k3
    rw [decide_eq_false (show ¬ f < 2147483648 by omega)] at k4
    have s8 : decide (d < f) = true := decide_eq_true (by omega)
    clear f1 f2
    go_enter Try.func8, Try.ntmps8
    go_wp2_with fail
    refine (awakeQ _).mono ?_
    rintro e w1 ⟨rfl, rfl⟩
    go_wp2_with fail
    refine (k1.out).mono ?_
    rintro e w1 ⟨rfl, rfl⟩
    go_wp2_with fail
    refine (k2.out).mono ?_
    rintro e w1 ⟨rfl, rfl⟩
    go_wp2_with fail
    refine (k3.out).mono ?_
    rintro e w1 ⟨rfl, rfl⟩
    go_wp2_with fail
    refine (k4.out).mono ?_
    rintro e w1 ⟨rfl, rfl⟩
    go_wp2_with fail
    refine (k3.out).mono ?_
    rintro e w1 ⟨rfl, rfl⟩
    go_wp2_with fail
    go_ret
    exact ⟨rfl, Below.refl _ _⟩
  · rw [decide_eq_false hl] at k3
    rw [decide_eq_true (show f < 2147483648 by omega)] at k4
    have s8 : decide (d < f) = false := decide_eq_false (by omega)
    clear f1 f2
    go_enter Try.func8, Try.ntmps8
    go_wp2_with fail
    refine (awakeQ _).mono ?_
    rintro e w1 ⟨rfl, rfl⟩
    go_wp2_with fail
    refine (k1.out).mono ?_
    rintro e w1 ⟨rfl, rfl⟩
    go_wp2_with fail
    refine (k2.out).mono ?_
    rintro e w1 ⟨rfl, rfl⟩
    go_wp2_with fail
    refine (k3.out).mono ?_
    rintro e w1 ⟨rfl, rfl⟩
    go_wp2_with fail
    refine (k4.out).mono ?_
    rintro e w1 ⟨rfl, rfl⟩
    go_wp2_with fail
    refine (k3.out).mono ?_
    rintro e w1 ⟨rfl, rfl⟩
    go_wp2_with fail
    go_ret
    exact ⟨rfl, Below.refl _ _⟩
set_option maxRecDepth 100000 in
theorem lifted (os : Os) (started : os.Started) (H : Type) (enc : TypeId × Value → H) :
    ReturnsInHanded {} Try.checked os 8 .any (Rows.seqnOnceSpec.pre6 enc Try.prog Try.f8 Rows.seqnOnceRow.domain false) (Rows.seqnOnceSpec.post enc Try.prog Try.f8 false true false false) := by
  refine returnsInHanded_of_change (C := Try.checked) own started (by kernel_rfl) Try.func8
    (ChangeSpec.witness6 (enc := enc) (C := Try.checked) false ⟨#[], #[.int .u32 0, .int .u32 0], []⟩ 8 (by kernel_rfl) (by kernel_rfl) (by kernel_rfl) (by kernel_rfl)) ?_
  intro W base args ds gs before hval0 hW hcnd _
  have hval : ∀ (j : Nat) t v, Try.f8.params[j]? = some t → args[j]? = some v → Value.okWide Try.prog W .any base t v := hval0
  have hW' := hW
  obtain ⟨p, q, hA0, hV, rfl, hfz, hnd⟩ := hW
  have hA : DataW.TrodAll enc Try.prog W 0 (fun _ => true) true Try.f8.params.toList args.toList ds p := hA0
  rw [Try.params8] at hA hval
  obtain ⟨v0, vs0, d0, ds0, p0, q0, hargs, rfl, rfl, h0, r0⟩ := trodAll_cons hA
  obtain ⟨v1, vs1, d1, ds1, p1, q1, rfl, rfl, rfl, h1, r1⟩ := trodAll_cons r0
  obtain ⟨rfl, rfl, rfl⟩ := trodAll_nil r1
  obtain rfl : args = #[v0, v1] := by cases args; simp_all
  obtain ⟨rfl, rfl⟩ := trodVars_none hV
  obtain ⟨a0, rfl, rfl, rfl, w0⟩ := open_int Try.underlying48 (hval 0 48 v0 rfl rfl) h0
  obtain ⟨a1, rfl, rfl, rfl, w1⟩ := open_int Try.underlying48 (hval 1 48 v1 rfl rfl) h1
  clear hA0 hval0
  refine (walk a0 a1 w0 w1 W).mono fun e W' ⟨he, bel⟩ => ?_
  subst he
  exact ⟨_, rfl, _, _, _, [], _, [], hW', trodAll_mk1 (shut_bool Try.underlying4 _), (trodAll_cons_mk (shut_int Try.underlying48 w0) (trodAll_cons_mk (shut_int Try.underlying48 w1) trodAll_mk0)), rfl, bel.frame _, fun h => by cases h⟩

/-- THE STATEMENT. -/
theorem proved : Rows.SeqnOnceSaid :=
  OpenClaim.holds_of_wide 8 Try.f8 rfl rfl rfl rfl rfl rfl rfl ⟨rfl, rfl, rfl, rfl, rfl⟩ rfl rfl rfl rfl rfl (by kernel_rfl) Try.func8 (by kernel_rfl)
    (of_decide_eq_true (by kernel_rfl)) (by unfold Func.isWrapper; first | (rw [if_pos (by decide +kernel)]; kernel_rfl) | (rw [if_neg (by decide +kernel)]; exact ⟨rfl, rfl⟩))
    (fun os started H enc _ => lifted os started H enc)
#print axioms proved

end Go.Proofs.Ytjelgifijhcnnaa.sqo
