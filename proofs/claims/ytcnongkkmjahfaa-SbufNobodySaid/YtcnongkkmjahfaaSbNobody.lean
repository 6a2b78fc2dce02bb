/-
  SbufNobody: what is none has no bytes. Conditions: none beyond the kinds of the arguments.
-/
import Derived.Test.YtcnongkkmjahfaaSbD
import Derived.ProofKit
import Derived.OpenShut
import Derived.ShutString
import Derived.ChangeOld
import Derived.Below
namespace Go.Proofs.Ytcnongkkmjahfaa.sbn
open Go.ChangeShapes Go.WideShapes Go.ChangeAt Go.RowKit
open Go.ChangeMaps (open_string shut_string)
set_option linter.unusedVariables false

theorem own : ownKnob Try.prog.godebug = none := by kernel_rfl
set_option maxRecDepth 100000 in
set_option maxHeartbeats 8000000 in
theorem walk_long (s : Int) (d : ByteArray) (n : Int) (h : 2000 < d.size) (w : World) :
    Calls Try.prog 5 #[.int .u32 s, .string d, .int .i64 n] w fun e w' => e = .returned (.bool true) ∧ Below w.heap.size w w' := by
  have q : decide (2000 < (d.size : Int)) = true := decide_eq_true (by omega)
  clear h
  go_enter Try.func5, Try.ntmps5
  go_wp2_with fail
  refine (awakeB _).mono ?_
  rintro e w2 ⟨rfl, bl⟩
  go_wp2_with fail
  go_ret
  exact ⟨rfl, bl⟩
set_option maxRecDepth 100000 in
set_option maxHeartbeats 8000000 in
theorem walk_short (s : Int) (d : ByteArray) (n : Int) (h : ¬ 2000 < d.size) (w : World) :
    Calls Try.prog 5 #[.int .u32 s, .string d, .int .i64 n] w fun e w' => e = .returned (.bool true) ∧ Below w.heap.size w w' := by
  have q : decide (2000 < (d.size : Int)) = false := decide_eq_false (by omega)
  clear h
  go_enter Try.func5, Try.ntmps5
  go_wp2_with fail
  refine (awakeB _).mono ?_
  rintro e w2 ⟨rfl, bl⟩
  have B2 := Lib.hid (bl.alloc bl.size (.cells #[.int .u32 0, .int .i64 0, .slice none 0 0, .pointer none] 46))
  have HN := Lib.hid (heap_alloc_new w2 (.cells #[.int .u32 0, .int .i64 0, .slice none 0 0, .pointer none] 46))
  clear bl
  go_upto_region 7 with fail
  generalize w2.alloc _ = W1 at B2 HN ⊢
  generalize w2.heap.size = g at HN ⊢
  have N1 : SbNone W1 (some ⟨g, 0, none⟩) := .inr ⟨g, rfl, by rw [cell_of_block HN.out]; rfl⟩
  have N0 : SbNone W1 none := .inl rfl
  have HN1 := Lib.hid N1
  have HN0 := Lib.hid N0
  clear N0 N1
  go_wp2_with fail
  refine (sawrite_no _ _ HN0.out d).mono ?_
  rintro e w3 ⟨rfl, rfl⟩
  go_wp2_with fail
  refine (sawrite_no _ _ HN1.out d).mono ?_
  rintro e w3 ⟨rfl, rfl⟩
  go_wp2_with fail
  refine (saack_no _ _ HN0.out s).mono ?_
  rintro e w3 ⟨rfl, rfl⟩
  go_wp2_with fail
  refine (saack_no _ _ HN1.out s).mono ?_
  rintro e w3 ⟨rfl, rfl⟩
  go_wp2_with fail
  refine (saget_no _ _ HN0.out s n).mono ?_
  rintro e w3 ⟨rfl, q3⟩
  have N0 : SbNone w3 none := .inl rfl
  have N1 : SbNone w3 (some ⟨g, 0, none⟩) := .inr ⟨g, rfl, by rw [cell_of_block ((q3.block g (Array.getElem?_eq_some_iff.1 HN.out).1).trans HN.out)]; rfl⟩
  have B3 := Lib.hid (B2.out.trans (q3.mono B2.out.size))
  have HM := Lib.hid ((q3.block g (Array.getElem?_eq_some_iff.1 HN.out).1).trans HN.out)
  clear HN0 HN1 B2 HN q3
  have HN0 := Lib.hid N0
  have HN1 := Lib.hid N1
  have B2 := B3
  have HN := HM
  clear N0 N1 B3 HM
  go_wp2_with fail
  refine (saget_no _ _ HN1.out s n).mono ?_
  rintro e w3 ⟨rfl, q3⟩
  have N0 : SbNone w3 none := .inl rfl
  have N1 : SbNone w3 (some ⟨g, 0, none⟩) := .inr ⟨g, rfl, by rw [cell_of_block ((q3.block g (Array.getElem?_eq_some_iff.1 HN.out).1).trans HN.out)]; rfl⟩
  have B3 := Lib.hid (B2.out.trans (q3.mono B2.out.size))
  have HM := Lib.hid ((q3.block g (Array.getElem?_eq_some_iff.1 HN.out).1).trans HN.out)
  clear HN0 HN1 B2 HN q3
  have HN0 := Lib.hid N0
  have HN1 := Lib.hid N1
  have B2 := B3
  have HN := HM
  clear N0 N1 B3 HM
  go_wp2_with fail
  refine (sauna_no _ _ HN0.out).mono ?_
  rintro e w3 ⟨rfl, rfl⟩
  go_wp2_with fail
  refine (saend_no _ _ HN0.out).mono ?_
  rintro e w3 ⟨rfl, rfl⟩
  go_wp2_with fail
  refine (salen_no _ _ HN0.out).mono ?_
  rintro e w3 ⟨rfl, rfl⟩
  go_wp2_with fail
  refine (saroom_no _ _ HN0.out).mono ?_
  rintro e w3 ⟨rfl, rfl⟩
  go_wp2_with fail
  refine (saroom_no _ _ HN1.out).mono ?_
  rintro e w3 ⟨rfl, rfl⟩
  go_wp2_with fail
  go_ret
  exact ⟨rfl, B2.out⟩
theorem walk (a0 : Int) (a1 : ByteArray) (a2 : Int) (w0 : (Lit.int .u32 a0).wf = true) (w1 : a1.size ≤ maxLen) (w2 : (Lit.int .i64 a2).wf = true) (w : World) :
    Calls Try.prog 5 #[.int .u32 a0, .string a1, .int .i64 a2] w fun e w' => e = .returned (.bool true) ∧ Below w.heap.size w w' := by
  by_cases h : 2000 < a1.size
  · exact walk_long a0 a1 a2 h w
  · exact walk_short a0 a1 a2 h w
set_option maxRecDepth 100000 in
theorem lifted (os : Os) (started : os.Started) (H : Type) (enc : TypeId × Value → H) :
    ReturnsInHanded {} Try.checked os 5 .any (Rows.sbufNobodySpec.pre6 enc Try.prog Try.f5 Rows.sbufNobodyRow.domain false) (Rows.sbufNobodySpec.post enc Try.prog Try.f5 false true false false) := by
  refine returnsInHanded_of_change (C := Try.checked) own started (by kernel_rfl) Try.func5
    (ChangeSpec.witness6 (enc := enc) (C := Try.checked) false ⟨#[], #[.int .u32 0, .string ByteArray.empty, .int .i64 0], []⟩ 8 (by kernel_rfl) (by kernel_rfl) (by kernel_rfl) (by kernel_rfl)) ?_
  intro W base args ds gs before hval0 hW hcnd _
  have hval : ∀ (j : Nat) t v, Try.f5.params[j]? = some t → args[j]? = some v → Value.okWide Try.prog W .any base t v := hval0
  have hW' := hW
  obtain ⟨p, q, hA0, hV, rfl, hfz, hnd⟩ := hW
  have hA : DataW.TrodAll enc Try.prog W 0 (fun _ => true) true Try.f5.params.toList args.toList ds p := hA0
  rw [Try.params5] at hA hval
  obtain ⟨v0, vs0, d0, ds0, p0, q0, hargs, rfl, rfl, h0, r0⟩ := trodAll_cons hA
  obtain ⟨v1, vs1, d1, ds1, p1, q1, rfl, rfl, rfl, h1, r1⟩ := trodAll_cons r0
  obtain ⟨v2, vs2, d2, ds2, p2, q2, rfl, rfl, rfl, h2, r2⟩ := trodAll_cons r1
  obtain ⟨rfl, rfl, rfl⟩ := trodAll_nil r2
  obtain rfl : args = #[v0, v1, v2] := by cases args; simp_all
  obtain ⟨rfl, rfl⟩ := trodVars_none hV
  obtain ⟨a0, rfl, rfl, rfl, w0⟩ := open_int Try.underlying26 (hval 0 26 v0 rfl rfl) h0
  obtain ⟨a1, rfl, rfl, rfl, w1⟩ := open_string Try.underlying9 (hval 1 9 v1 rfl rfl) h1
  obtain ⟨a2, rfl, rfl, rfl, w2⟩ := open_int Try.underlying3 (hval 2 3 v2 rfl rfl) h2
  clear hA0 hval0
  refine (walk a0 a1 a2 w0 w1 w2 W).mono fun e W' ⟨he, bel⟩ => ?_
  subst he
  exact ⟨_, rfl, _, _, _, [], _, [], hW', trodAll_mk1 (shut_bool Try.underlying4 _), (trodAll_cons_mk (shut_int Try.underlying26 w0) (trodAll_cons_mk (shut_string Try.underlying9 w1) (trodAll_cons_mk (shut_int Try.underlying3 w2) trodAll_mk0))), rfl, bel.frame _, fun h => by cases h⟩

/-- THE STATEMENT. -/
theorem proved : Rows.SbufNobodySaid :=
  OpenClaim.holds_of_wide 5 Try.f5 rfl rfl rfl rfl rfl rfl rfl ⟨rfl, rfl, rfl, rfl, rfl⟩ rfl rfl rfl rfl rfl (by kernel_rfl) Try.func5 (by kernel_rfl)
    (of_decide_eq_true (by kernel_rfl)) (by unfold Func.isWrapper; first | (rw [if_pos (by decide +kernel)]; kernel_rfl) | (rw [if_neg (by decide +kernel)]; exact ⟨rfl, rfl⟩))
    (fun os started H enc _ => lifted os started H enc)
#print axioms proved

end Go.Proofs.Ytcnongkkmjahfaa.sbn
