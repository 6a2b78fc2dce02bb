/-
  VnetNobody: what is none does nothing. Conditions: none beyond the kinds of the arguments.
-/
import Derived.Test.YtmlicejhkdkhnaaNvH
import Derived.ProofKit
import Derived.OpenShut
import Derived.ShutString
import Derived.ChangeOld
import Derived.Below
namespace Go.Proofs.Ytmlicejhkdkhnaa.nxn
open Go.ChangeShapes Go.WideShapes Go.ChangeAt Go.RowKit
open Go.ChangeMaps (open_string shut_string)
set_option linter.unusedVariables false

theorem own : ownKnob Try.prog.godebug = none := by kernel_rfl
set_option maxRecDepth 100000 in
set_option maxHeartbeats 8000000 in
theorem walk_long (S : ByteArray) (base : Int) (w : World) (h : 1000 < S.size) :
    Calls Try.prog 5 #[.string S, .int .i64 base] w fun e w' => e = .returned (.bool true) ∧ Below w.heap.size w w' := by
  have d0 : decide (1000 < (S.size : Int)) = true := decide_eq_true (by omega)
  clear h
  go_enter Try.func5, Try.ntmps5
  go_wp2_with fail
  refine (awake4 _).mono ?_
  rintro e w2 ⟨rfl, bl⟩
  have BL0 := Lib.hid bl
  clear bl
  go_wp2_with fail
  go_ret
  exact ⟨rfl, BL0.out⟩
set_option maxRecDepth 100000 in
set_option maxHeartbeats 8000000 in
theorem walk_short (S : ByteArray) (base : Int) (w : World) (h : ¬ 1000 < S.size) :
    Calls Try.prog 5 #[.string S, .int .i64 base] w fun e w' => e = .returned (.bool true) ∧ Below w.heap.size w w' := by
  have d0 : decide (1000 < (S.size : Int)) = false := decide_eq_false (by omega)
  clear h
  go_enter Try.func5, Try.ntmps5
  go_wp2_with fail
  refine (awake4 _).mono ?_
  rintro e w2 ⟨rfl, bl⟩
  have BL0 := Lib.hid bl
  clear bl
  have B2 := Lib.hid (BL0.out.alloc BL0.out.size (.cells #[.pointer none, .int .i64 0, .pointer none, .pointer none, .pointer none, .int .i64 0, .int .i64 0, .int .i64 0, .int .i64 0, .int .i64 0, .int .i64 0, .int .i64 0, .int .i64 0, .int .i64 0, .int .i64 0, .pointer none] 53))
  have HN := Lib.hid (heap_alloc_new w2 (.cells #[.pointer none, .int .i64 0, .pointer none, .pointer none, .pointer none, .int .i64 0, .int .i64 0, .int .i64 0, .int .i64 0, .int .i64 0, .int .i64 0, .int .i64 0, .int .i64 0, .int .i64 0, .int .i64 0, .pointer none] 53))
  go_upto_region 8 with fail
  clear BL0
  generalize w2.alloc _ = W1 at B2 HN ⊢
  generalize w2.heap.size = g at HN ⊢
  have X0 : Hid (IsNone W1 none) := Lib.hid (.inl rfl)
  go_wp2_with fail
  refine (new4_none W1 none X0.out base).mono ?_
  rintro e w3 ⟨rfl, k3⟩
  have B3 := Lib.hid (B2.out.trans ((Below.of_none k3).mono B2.out.size))
  have H3 := Lib.hid ((k3.block g (Array.getElem?_eq_some_iff.1 HN.out).1 (by simp)).trans HN.out)
  clear k3 B2 HN X0
  have X1 : Hid (IsNone w3 none) := Lib.hid (.inl rfl)
  go_wp2_with fail
  refine (open4_none w3 none X1.out base).mono ?_
  rintro e w4 ⟨rfl, k4⟩
  have B4 := Lib.hid (B3.out.trans ((Below.of_none k4).mono B3.out.size))
  have H4 := Lib.hid ((k4.block g (Array.getElem?_eq_some_iff.1 H3.out).1 (by simp)).trans H3.out)
  clear k4 B3 H3 X1
  have N0 : Hid (NoN w4 none) := Lib.hid (.inl rfl)
  have N1 : Hid (NoN w4 (some ⟨g, 0, none⟩)) := Lib.hid (.inr ⟨g, rfl, by rw [cell_of_block H4.out]; rfl⟩)
  have P0 : Hid (NoPt w4 none) := Lib.hid (.inl rfl)
  go_wp2_with fail
  refine (send_none4 _ _ N0.out S).mono ?_
  rintro e w5 ⟨rfl, rfl⟩
  go_wp2_with fail
  refine (send_none4 _ _ N1.out S).mono ?_
  rintro e w5 ⟨rfl, rfl⟩
  go_wp2_with fail
  refine (recv_none4 _ _ N0.out).mono ?_
  rintro e w5 ⟨rfl, rfl⟩
  go_wp2_with fail
  refine (recv_none4 _ _ N1.out).mono ?_
  rintro e w5 ⟨rfl, rfl⟩
  go_wp2_with fail
  refine (drops_none4 _ _ N0.out).mono ?_
  rintro e w5 ⟨rfl, rfl⟩
  go_wp2_with fail
  refine (resets_none4 _ _ N0.out).mono ?_
  rintro e w5 ⟨rfl, rfl⟩
  go_wp2_with fail
  refine (deliv_none4 _ _ P0.out S).mono ?_
  rintro e w5 ⟨rfl, rfl⟩
  have B5 := Lib.hid (B4.out.alloc B4.out.size (.cells #[.pointer none, .pointer none, .pointer none, .pointer none] 56))
  have H5 := Lib.hid (heap_alloc_new w4 (.cells #[.pointer none, .pointer none, .pointer none, .pointer none] 56))
  go_wp2_with fail
  generalize w4.alloc _ = W5 at B5 H5 ⊢
  generalize w4.heap.size = g5 at H5 ⊢
  have P1 : Hid (NoPt W5 (some ⟨g5, 0, none⟩)) := Lib.hid (.inr ⟨g5, rfl, by rw [cell_of_block H5.out]; rfl⟩)
  have P2 : Hid (NoPt W5 none) := Lib.hid (.inl rfl)
  refine (deliv_none4 _ _ P1.out S).mono ?_
  rintro e w5 ⟨rfl, rfl⟩
  go_wp2_with fail
  refine (sent_none4 _ _ P2.out).mono ?_
  rintro e w5 ⟨rfl, rfl⟩
  go_wp2_with fail
  go_ret
  exact ⟨rfl, B5.out⟩
theorem walk (S : ByteArray) (base : Int) (w0 : S.size ≤ maxLen) (w1 : (Lit.int .i64 base).wf = true) (w : World) :
    Calls Try.prog 5 #[.string S, .int .i64 base] w fun e w' => e = .returned (.bool true) ∧ Below w.heap.size w w' := by
  by_cases h : 1000 < S.size
  · exact walk_long S base w h
  · exact walk_short S base w h
set_option maxRecDepth 100000 in
theorem lifted (os : Os) (started : os.Started) (H : Type) (enc : TypeId × Value → H) :
    ReturnsInHanded {} Try.checked os 5 .any (Rows.vnetNobodySpec.pre6 enc Try.prog Try.f5 Rows.vnetNobodyRow.domain false) (Rows.vnetNobodySpec.post enc Try.prog Try.f5 false true false false) := by
  refine returnsInHanded_of_change (C := Try.checked) own started (by kernel_rfl) Try.func5
    (ChangeSpec.witness6 (enc := enc) (C := Try.checked) false ⟨#[], #[.string ByteArray.empty, .int .i64 0], []⟩ 8 (by kernel_rfl) (by kernel_rfl) (by kernel_rfl) (by kernel_rfl)) ?_
  intro W base args ds gs before hval0 hW hcnd _
  have hval : ∀ (j : Nat) t v, Try.f5.params[j]? = some t → args[j]? = some v → Value.okWide Try.prog W .any base t v := hval0
  have hW' := hW
  obtain ⟨p, q, hA0, hV, rfl, hfz, hnd⟩ := hW
  have hA : DataW.TrodAll enc Try.prog W 0 (fun _ => true) true Try.f5.params.toList args.toList ds p := hA0
  rw [Try.params5] at hA hval
  obtain ⟨v0, vs0, d0, ds0, p0, q0, hargs, rfl, rfl, h0, r0⟩ := trodAll_cons hA
  obtain ⟨v1, vs1, d1, ds1, p1, q1, rfl, rfl, rfl, h1, r1⟩ := trodAll_cons r0
  obtain ⟨rfl, rfl, rfl⟩ := trodAll_nil r1
  obtain rfl : args = #[v0, v1] := by cases args; simp_all
  obtain ⟨rfl, rfl⟩ := trodVars_none hV
  obtain ⟨a0, rfl, rfl, rfl, w0⟩ := open_string Try.underlying9 (hval 0 9 v0 rfl rfl) h0
  obtain ⟨a1, rfl, rfl, rfl, w1⟩ := open_int Try.underlying3 (hval 1 3 v1 rfl rfl) h1
  clear hA0 hval0
  refine (walk a0 a1 w0 w1 W).mono fun e W' ⟨he, bel⟩ => ?_
  subst he
  exact ⟨_, rfl, _, _, _, [], _, [], hW', trodAll_mk1 (shut_bool Try.underlying4 _), (trodAll_cons_mk (shut_string Try.underlying9 w0) (trodAll_cons_mk (shut_int Try.underlying3 w1) trodAll_mk0)), rfl, bel.frame _, fun h => by cases h⟩

/-- THE STATEMENT. -/
theorem proved : Rows.VnetNobodySaid :=
  OpenClaim.holds_of_wide 5 Try.f5 rfl rfl rfl rfl rfl rfl rfl ⟨rfl, rfl, rfl, rfl, rfl⟩ rfl rfl rfl rfl rfl (by kernel_rfl) Try.func5 (by kernel_rfl)
    (of_decide_eq_true (by kernel_rfl)) (by unfold Func.isWrapper; first | (rw [if_pos (by decide +kernel)]; kernel_rfl) | (rw [if_neg (by decide +kernel)]; exact ⟨rfl, rfl⟩))
    (fun os started H enc _ => lifted os started H enc)
#print axioms proved

end Go.Proofs.Ytmlicejhkdkhnaa.nxn
