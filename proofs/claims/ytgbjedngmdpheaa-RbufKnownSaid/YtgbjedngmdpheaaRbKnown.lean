/-
  RbufKnown: the chapter's examples hold. A closed statement: no conditions.
-/
import Derived.Test.YtgbjedngmdpheaaRbG
import Derived.ProofKit
import Derived.OpenShut
import Derived.ShutString
import Derived.ChangeOld
import Derived.Below
namespace Go.Proofs.Ytgbjedngmdpheaa.rbk
open Go.ChangeShapes Go.WideShapes Go.ChangeAt Go.RowKit
open Go.ChangeMaps (open_string shut_string)
set_option linter.unusedVariables false

theorem own : ownKnob Try.prog.godebug = none := by kernel_rfl
set_option maxRecDepth 100000 in
set_option maxHeartbeats 8000000 in
theorem walk (w : World) :
    Calls Try.prog 3 #[] w fun e w' => e = .returned (.bool true) ∧ Below w.heap.size w w' := by
  go_enter Try.func3, Try.ntmps3
  go_wp2_with fail
  refine (sNew _ 10 8 (by omega) (by omega) (by omega) (by omega)).mono ?_
  rintro e w1 ⟨g, b, rfl, h⟩
  have H0 := Lib.hid h
  clear h
  go_wp2_with fail
  refine (sPut H0.out 12 (by omega) _ [99, 100] (by decide) [none, none, some 99, some 100, none, none, none, none] (by decide) 0 (by decide) 10 (by decide) [] (by decide) [none, none, some 99, some 100, none, none, none, none] (by decide)).mono ?_
  rintro e w2 ⟨rfl, h⟩
  have H1 := Lib.hid h
  clear h H0
  go_wp2_with fail
  refine (sReady H1.out 0 (by decide)).mono ?_
  rintro e w2 ⟨rfl, rfl⟩
  go_wp2_with fail
  refine (sHeld H1.out 2 (by decide)).mono ?_
  rintro e w2 ⟨rfl, h⟩
  have H2 := Lib.hid h
  clear h H1
  go_wp2_with fail
  refine (sPut H2.out 10 (by omega) _ [97, 98] (by decide) [some 97, some 98, some 99, some 100, none, none, none, none] (by decide) 4 (by decide) 14 (by decide) [97, 98, 99, 100] (by decide) [none, none, none, none] (by decide)).mono ?_
  rintro e w2 ⟨rfl, h⟩
  have H3 := Lib.hid h
  clear h H2
  go_wp2_with fail
  refine (sNext H3.out 14 rfl).mono ?_
  rintro e w2 ⟨rfl, rfl⟩
  go_wp2_with fail
  refine (sRead H3.out 3 3 (by decide) ⟨#[97, 98, 99]⟩ (by decide) [100] (by decide) [none, none, none, none, none, none, none] (by decide)).mono ?_
  rintro e w2 ⟨rfl, h⟩
  have H4 := Lib.hid h
  clear h H3
  go_wp2_with fail
  refine (sWindow H4.out 7 (by decide)).mono ?_
  rintro e w2 ⟨rfl, h⟩
  have H5 := Lib.hid h
  clear h H4
  go_wp2_with fail
  refine (sPut H5.out 14 (by omega) _ [101, 102, 103, 104, 105, 106, 107, 108] (by decide) [some 101, some 102, some 103, some 104, some 105, some 106, some 107] (by decide) 7 (by decide) 21 (by decide) [100, 101, 102, 103, 104, 105, 106, 107] (by decide) [] (by decide)).mono ?_
  rintro e w2 ⟨rfl, h⟩
  have H6 := Lib.hid h
  clear h H5
  go_wp2_with fail
  refine (sRead H6.out 99 8 (by decide) ⟨#[100, 101, 102, 103, 104, 105, 106, 107]⟩ (by decide) [] (by decide) [none, none, none, none, none, none, none, none] (by decide)).mono ?_
  rintro e w2 ⟨rfl, h⟩
  have H7 := Lib.hid h
  clear h H6
  go_wp2_with fail
  refine (sPut H7.out 9 (by omega) _ [120, 121, 122] (by decide) [none, none, none, none, none, none, none, none] (by decide) 0 (by decide) 21 (by decide) [] (by decide) [none, none, none, none, none, none, none, none] (by decide)).mono ?_
  rintro e w2 ⟨rfl, h⟩
  have H8 := Lib.hid h
  clear h H7
  go_wp2_with fail
  refine (bnew_bad _ 0 2049 (by omega)).mono ?_
  rintro e w2 ⟨rfl, rfl⟩
  go_wp2_with fail
  refine (bnew_bad _ 0 0 (by omega)).mono ?_
  rintro e w2 ⟨rfl, rfl⟩
  go_wp2_with fail
  refine (awakeR _).mono ?_
  rintro e w2 ⟨rfl, bl⟩
  have HA := Lib.hid (H8.out.grow bl)
  clear bl H8
  go_wp2_with fail
  refine (sWindow HA.out 8 (by decide)).mono ?_
  rintro e w2 ⟨rfl, h⟩
  have H9 := Lib.hid h
  clear h HA
  go_wp2_with fail
  refine (sNext H9.out 21 rfl).mono ?_
  rintro e w2 ⟨rfl, rfl⟩
  go_wp2_with fail
  refine (sRead H9.out 0 0 (by decide) ⟨#[]⟩ (by decide) [] (by decide) [none, none, none, none, none, none, none, none] (by decide)).mono ?_
  rintro e w2 ⟨rfl, h⟩
  have H10 := Lib.hid h
  clear h H9
  go_wp2_with fail
  go_ret
  exact ⟨rfl, H10.out.bl⟩
set_option maxRecDepth 100000 in
theorem lifted (os : Os) (started : os.Started) (H : Type) (enc : TypeId × Value → H) :
    ReturnsInHanded {} Try.checked os 3 .any (Rows.rbufKnownSpec.pre6 enc Try.prog Try.f3 Rows.rbufKnownRow.domain false) (Rows.rbufKnownSpec.post enc Try.prog Try.f3 false true false false) := by
  refine returnsInHanded_of_change (C := Try.checked) own started (by kernel_rfl) Try.func3
    (ChangeSpec.witness6 (enc := enc) (C := Try.checked) false ⟨#[], #[], []⟩ 8 (by kernel_rfl) (by kernel_rfl) (by kernel_rfl) (by kernel_rfl)) ?_
  intro W base args ds gs before hval0 hW hcnd _
  have hval : ∀ (j : Nat) t v, Try.f3.params[j]? = some t → args[j]? = some v → Value.okWide Try.prog W .any base t v := hval0
  have hW' := hW
  obtain ⟨p, q, hA0, hV, rfl, hfz, hnd⟩ := hW
  have hA : DataW.TrodAll enc Try.prog W 0 (fun _ => true) true Try.f3.params.toList args.toList ds p := hA0
  rw [Try.params3] at hA hval
  obtain ⟨rfl, rfl, rfl⟩ := trodAll_none hA
  obtain ⟨rfl, rfl⟩ := trodVars_none hV
  clear hA0 hval0
  refine (walk W).mono fun e W' ⟨he, bel⟩ => ?_
  subst he
  exact ⟨_, rfl, _, _, _, [], _, [], hW', trodAll_mk1 (shut_bool Try.underlying4 _), trodAll_mk0, rfl, bel.frame _, fun h => by cases h⟩

/-- THE STATEMENT. -/
theorem proved : Rows.RbufKnownSaid :=
  OpenClaim.holds_of_wide 3 Try.f3 rfl rfl rfl rfl rfl rfl rfl ⟨rfl, rfl, rfl, rfl, rfl⟩ rfl rfl rfl rfl rfl (by kernel_rfl) Try.func3 (by kernel_rfl)
    (of_decide_eq_true (by kernel_rfl)) (by unfold Func.isWrapper; first | (rw [if_pos (by decide +kernel)]; kernel_rfl) | (rw [if_neg (by decide +kernel)]; exact ⟨rfl, rfl⟩))
    (fun os started H enc _ => lifted os started H enc)
#print axioms proved

end Go.Proofs.Ytgbjedngmdpheaa.rbk
