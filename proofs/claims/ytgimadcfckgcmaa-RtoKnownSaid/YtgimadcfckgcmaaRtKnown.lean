/-
  RtoKnown: the chapter's examples hold. A closed statement: no conditions.
-/
import Derived.Test.YtgimadcfckgcmaaRtE
import Derived.ProofKit
import Derived.OpenShut
import Derived.ShutString
import Derived.ChangeOld
import Derived.Below
namespace Go.Proofs.Ytgimadcfckgcmaa.rtk
open Go.ChangeShapes Go.WideShapes Go.ChangeAt Go.RowKit
open Go.ChangeMaps (open_string shut_string)
set_option linter.unusedVariables false

theorem own : ownKnob Try.prog.godebug = none := by kernel_rfl
set_option maxRecDepth 100000 in
set_option maxHeartbeats 8000000 in
theorem walk (w : World) :
    Calls Try.prog 3 #[] w fun e w' => e = .returned (.bool true) ∧ Below w.heap.size w w' := by
  go_enter Try.func3, Try.ntmps3
  go_wp2_with fail
  refine (kNew _ 30 2 60 (by decide) (by decide) (by decide) (by decide)).mono ?_
  rintro e w1 ⟨g, rfl, h⟩
  have H0 := Lib.hid h
  clear h
  go_wp2_with fail
  refine (kWait H0.out 30 rfl).mono ?_
  rintro e w3 ⟨rfl, rfl⟩
  go_wp2_with fail
  refine (kMeas H0.out 10 ⟨2, 60, 30, true, 80, 20⟩ (by rfl)).mono ?_
  rintro e w2 ⟨rfl, h⟩
  have H1 := Lib.hid h
  clear h H0
  go_wp2_with fail
  refine (kWait H1.out 30 rfl).mono ?_
  rintro e w3 ⟨rfl, rfl⟩
  go_wp2_with fail
  refine (kMeas H1.out 10 ⟨2, 60, 25, true, 80, 15⟩ (by rfl)).mono ?_
  rintro e w2 ⟨rfl, h⟩
  have H2 := Lib.hid h
  clear h H1
  go_wp2_with fail
  refine (kWait H2.out 25 rfl).mono ?_
  rintro e w3 ⟨rfl, rfl⟩
  go_wp2_with fail
  refine (kBack H2.out ⟨2, 60, 50, true, 80, 15⟩ (by rfl)).mono ?_
  rintro e w2 ⟨rfl, h⟩
  have H3 := Lib.hid h
  clear h H2
  go_wp2_with fail
  refine (kWait H3.out 50 rfl).mono ?_
  rintro e w3 ⟨rfl, rfl⟩
  go_wp2_with fail
  refine (kMeas H3.out 2 ⟨2, 60, 29, true, 72, 20⟩ (by rfl)).mono ?_
  rintro e w2 ⟨rfl, h⟩
  have H4 := Lib.hid h
  clear h H3
  go_wp2_with fail
  refine (kWait H4.out 29 rfl).mono ?_
  rintro e w3 ⟨rfl, rfl⟩
  go_wp2_with fail
  refine (cknew_bad _ 0 0 5 (by omega)).mono ?_
  rintro e w3 ⟨rfl, rfl⟩
  go_wp2_with fail
  refine (cknew_bad _ 5 6 9 (by omega)).mono ?_
  rintro e w3 ⟨rfl, rfl⟩
  go_wp2_with fail
  refine (cknew_bad _ 5 5 4 (by omega)).mono ?_
  rintro e w3 ⟨rfl, rfl⟩
  go_wp2_with fail
  refine (cknew_bad _ 5 5 1048577 (by omega)).mono ?_
  rintro e w3 ⟨rfl, rfl⟩
  have B2 := Lib.hid (H4.out.bl.alloc H4.out.bl.size (.cells #[.int .i64 0, .int .i64 0, .int .i64 0, .bool false, .int .i64 0, .int .i64 0, .pointer none] 29))
  rename World => w9
  have HN := Lib.hid (heap_alloc_new w9 (.cells #[.int .i64 0, .int .i64 0, .int .i64 0, .bool false, .int .i64 0, .int .i64 0, .pointer none] 29))
  go_upto_region 16 with fail
  generalize w9.alloc _ = W1 at B2 HN ⊢
  generalize w9.heap.size = g9 at HN ⊢
  have N1 : Hid (CkNone W1 (some ⟨g9, 0, none⟩)) := Lib.hid (.inr ⟨g9, rfl, by rw [cell_of_block HN.out]; rfl⟩)
  go_wp2_with fail
  refine (ckmeas_no _ _ N1.out 5).mono ?_
  rintro e w3 ⟨rfl, rfl⟩
  go_wp2_with fail
  refine (ckback_no _ _ N1.out).mono ?_
  rintro e w3 ⟨rfl, rfl⟩
  go_wp2_with fail
  refine (awakeK _).mono ?_
  rintro e w4 ⟨rfl, bl⟩
  have N2 : Hid (CkNone w4 (some ⟨g9, 0, none⟩)) := Lib.hid (.inr ⟨g9, rfl, by rw [cell_of_block ((bl.block g9 (Array.getElem?_eq_some_iff.1 HN.out).1).trans HN.out)]; rfl⟩)
  have B3 := Lib.hid (B2.out.trans (bl.mono B2.out.size))
  clear bl N1 HN B2
  go_wp2_with fail
  refine (ckwait_no _ _ N2.out).mono ?_
  rintro e w5 ⟨rfl, rfl⟩
  go_wp2_with fail
  go_ret
  exact ⟨rfl, B3.out⟩
set_option maxRecDepth 100000 in
theorem lifted (os : Os) (started : os.Started) (H : Type) (enc : TypeId × Value → H) :
    ReturnsInHanded {} Try.checked os 3 .any (Rows.rtoKnownSpec.pre6 enc Try.prog Try.f3 Rows.rtoKnownRow.domain false) (Rows.rtoKnownSpec.post enc Try.prog Try.f3 false true false false) := by
  refine returnsInHanded_of_change (C := Try.checked) own started (by kernel_rfl) Try.func3
    (ChangeSpec.witness6 (enc := enc) (C := Try.checked) false ⟨#[], #[], []⟩ 8 (by kernel_rfl) (by kernel_rfl) (by kernel_rfl) (by kernel_rfl)) ?_
  intro W base args ds gs before hval0 hW hcnd _
  have hval : ∀ (j : Nat) t v, Try.f3.params[j]? = some t → args[j]? = some v → Value.okWide Try.prog W .any base t v := hval0
  have hW' := hW
  obtain ⟨p, q, hA0, hV, rfl, hfz, hnd⟩ := hW
  have hA : DataW.TrodAll enc Try.prog W 0 (fun _ => true) true Try.f3.params.toList args.toList ds p := hA0
  rw [Try.params3] at hA hval
  obtain ⟨rfl, rfl, rfl⟩ := trodAll_none hA
  obtain ⟨rfl, rfl⟩ := trodVars_none hV
  clear hA0 hval0
  refine (walk W).mono fun e W' ⟨he, bel⟩ => ?_
  subst he
  exact ⟨_, rfl, _, _, _, [], _, [], hW', trodAll_mk1 (shut_bool Try.underlying4 _), trodAll_mk0, rfl, bel.frame _, fun h => by cases h⟩

/-- THE STATEMENT. -/
theorem proved : Rows.RtoKnownSaid :=
  OpenClaim.holds_of_wide 3 Try.f3 rfl rfl rfl rfl rfl rfl rfl ⟨rfl, rfl, rfl, rfl, rfl⟩ rfl rfl rfl rfl rfl (by kernel_rfl) Try.func3 (by kernel_rfl)
    (of_decide_eq_true (by kernel_rfl)) (by unfold Func.isWrapper; first | (rw [if_pos (by decide +kernel)]; kernel_rfl) | (rw [if_neg (by decide +kernel)]; exact ⟨rfl, rfl⟩))
    (fun os started H enc _ => lifted os started H enc)
#print axioms proved

end Go.Proofs.Ytgimadcfckgcmaa.rtk
