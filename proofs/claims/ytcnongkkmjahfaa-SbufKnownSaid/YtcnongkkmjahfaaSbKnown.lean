/-
  SbufKnown: the chapter's examples hold. A closed statement: no conditions.
-/
import Derived.Test.YtcnongkkmjahfaaSbD
import Derived.ProofKit
import Derived.OpenShut
import Derived.ShutString
import Derived.ChangeOld
import Derived.Below
namespace Go.Proofs.Ytcnongkkmjahfaa.sbk
open Go.ChangeShapes Go.WideShapes Go.ChangeAt Go.RowKit
open Go.ChangeMaps (open_string shut_string)
set_option linter.unusedVariables false

theorem own : ownKnob Try.prog.godebug = none := by kernel_rfl
set_option maxRecDepth 100000 in
set_option maxHeartbeats 8000000 in
theorem walk (w : World) :
    Calls Try.prog 3 #[] w fun e w' => e = .returned (.bool true) ∧ Below w.heap.size w w' := by
  go_enter Try.func3, Try.ntmps3
  go_wp2_with fail
  refine (tNew _ 4294967294 5 (by omega) (by omega) (by omega) (by omega)).mono ?_
  rintro e w1 ⟨g, b, rfl, h⟩
  have H0 := Lib.hid h
  clear h
  go_wp2_with fail
  refine (tWrite H0.out _ 5 (by decide) [97, 98, 99, 100, 101] (by decide) [97, 98, 99, 100, 101] (by decide)).mono ?_
  rintro e w2 ⟨rfl, h⟩
  have H1 := Lib.hid h
  clear h H0
  go_wp2_with fail
  refine (tGet H1.out 2 9 (by omega) ⟨#[101]⟩ (by decide)).mono ?_
  rintro e w2 ⟨rfl, h⟩
  have H2 := Lib.hid h
  clear h H1
  go_wp2_with fail
  refine (tGet H2.out 3 1 (by omega) ⟨#[]⟩ (by decide)).mono ?_
  rintro e w2 ⟨rfl, h⟩
  have H3 := Lib.hid h
  clear h H2
  go_wp2_with fail
  refine (tAck H3.out 1 (by omega) 3 (by decide) 1 (by decide) [100, 101] (by decide)).mono ?_
  rintro e w2 ⟨rfl, h⟩
  have H4 := Lib.hid h
  clear h H3
  go_wp2_with fail
  refine (tGet H4.out 0 1 (by omega) ⟨#[]⟩ (by unfold getS; rw [List.drop_eq_nil_of_le (by decide)]; rfl)).mono ?_
  rintro e w2 ⟨rfl, h⟩
  have H5 := Lib.hid h
  clear h H4
  go_wp2_with fail
  refine (tAck H5.out 1 (by omega) 0 (by decide) 1 (by decide) [100, 101] (by decide)).mono ?_
  rintro e w2 ⟨rfl, h⟩
  have H6 := Lib.hid h
  clear h H5
  go_wp2_with fail
  refine (tAck H6.out 4 (by omega) 0 (by decide) 1 (by decide) [100, 101] (by decide)).mono ?_
  rintro e w2 ⟨rfl, h⟩
  have H7 := Lib.hid h
  clear h H6
  go_wp2_with fail
  refine (tWrite H7.out _ 3 (by decide) [104, 105, 106] (by decide) [100, 101, 104, 105, 106] (by decide)).mono ?_
  rintro e w2 ⟨rfl, h⟩
  have H8 := Lib.hid h
  clear h H7
  go_wp2_with fail
  refine (snew_bad _ 0 0 (by omega)).mono ?_
  rintro e w2 ⟨rfl, rfl⟩
  go_wp2_with fail
  refine (snew_bad _ 0 2049 (by omega)).mono ?_
  rintro e w2 ⟨rfl, rfl⟩
  go_wp2_with fail
  refine (awakeB _).mono ?_
  rintro e w2 ⟨rfl, bl⟩
  have HA := Lib.hid (H8.out.grow bl)
  clear bl H8
  have H9 := HA
  clear HA
  go_wp2_with fail
  refine (tGet H9.out 1 9 (by omega) ⟨#[100, 101, 104, 105, 106]⟩ (by decide)).mono ?_
  rintro e w2 ⟨rfl, h⟩
  have H10 := Lib.hid h
  clear h H9
  go_wp2_with fail
  refine (tLen H10.out 5 (by decide)).mono ?_
  rintro e w2 ⟨rfl, rfl⟩
  go_wp2_with fail
  refine (tRoom H10.out 0 (by decide)).mono ?_
  rintro e w2 ⟨rfl, h⟩
  have H11 := Lib.hid h
  clear h H10
  go_wp2_with fail
  go_ret
  exact ⟨rfl, H11.out.bl⟩
set_option maxRecDepth 100000 in
theorem lifted (os : Os) (started : os.Started) (H : Type) (enc : TypeId × Value → H) :
    ReturnsInHanded {} Try.checked os 3 .any (Rows.sbufKnownSpec.pre6 enc Try.prog Try.f3 Rows.sbufKnownRow.domain false) (Rows.sbufKnownSpec.post enc Try.prog Try.f3 false true false false) := by
  refine returnsInHanded_of_change (C := Try.checked) own started (by kernel_rfl) Try.func3
    (ChangeSpec.witness6 (enc := enc) (C := Try.checked) false ⟨#[], #[], []⟩ 8 (by kernel_rfl) (by kernel_rfl) (by kernel_rfl) (by kernel_rfl)) ?_
  intro W base args ds gs before hval0 hW hcnd _
  have hval : ∀ (j : Nat) t v, Try.f3.params[j]? = some t → args[j]? = some v → Value.okWide Try.prog W .any base t v := hval0
  have hW' := hW
  obtain ⟨p, q, hA0, hV, rfl, hfz, hnd⟩ := hW
  have hA : DataW.TrodAll enc Try.prog W 0 (fun _ => true) true Try.f3.params.toList args.toList ds p := hA0
  rw [Try.params3] at hA hval
  obtain ⟨rfl, rfl, rfl⟩ := trodAll_none hA
  obtain ⟨rfl, rfl⟩ := trodVars_none hV
  clear hA0 hval0
  refine (walk W).mono fun e W' ⟨he, bel⟩ => ?_
  subst he
  exact ⟨_, rfl, _, _, _, [], _, [], hW', trodAll_mk1 (shut_bool Try.underlying4 _), trodAll_mk0, rfl, bel.frame _, fun h => by cases h⟩

/-- THE STATEMENT. -/
theorem proved : Rows.SbufKnownSaid :=
  OpenClaim.holds_of_wide 3 Try.f3 rfl rfl rfl rfl rfl rfl rfl ⟨rfl, rfl, rfl, rfl, rfl⟩ rfl rfl rfl rfl rfl (by kernel_rfl) Try.func3 (by kernel_rfl)
    (of_decide_eq_true (by kernel_rfl)) (by unfold Func.isWrapper; first | (rw [if_pos (by decide +kernel)]; kernel_rfl) | (rw [if_neg (by decide +kernel)]; exact ⟨rfl, rfl⟩))
    (fun os started H enc _ => lifted os started H enc)
#print axioms proved

end Go.Proofs.Ytcnongkkmjahfaa.sbk
