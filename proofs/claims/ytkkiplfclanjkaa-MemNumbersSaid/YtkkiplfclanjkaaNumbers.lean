/-
  MemNumbers: a number's bytes, either way, and the number that bytes are, are the document's. No conditions: any number, length, place and text.
-/
import Derived.Test.YtkkiplfclanjkaaRef
import Derived.ProofKit
import Derived.OpenShut
import Derived.ShutString
import Derived.ChangeOld
import Derived.Below
namespace Go.Proofs.Ytkkiplfclanjkaa.numbers
open Go.ChangeShapes Go.WideShapes Go.ChangeAt Go.RowKit Go.Sort
open Go.ChangeMaps (open_string shut_string)
set_option linter.unusedVariables false

theorem own : ownKnob Try.prog.godebug = none := by kernel_rfl

set_option maxRecDepth 100000 in
set_option maxHeartbeats 1000000 in
theorem walk (a0 a1 : Int) (a2 : ByteArray) (a3 : Int) (w0 : (Lit.int .u64 a0).wf = true) (w1 : (Lit.int .i64 a1).wf = true) (w2 : a2.size ≤ maxLen) (w3 : (Lit.int .i64 a3).wf = true) (w : World) :
    Calls Try.prog 5 #[.int .u64 a0, .int .i64 a1, .string a2, .int .i64 a3] w fun e w' => e = .returned (.bool true) ∧ Below w.heap.size w w' := by
  have b0 := bounds_u64 w0
  obtain ⟨x1, x2⟩ := b0
  have X2 : Hid (a0 < 18446744073709551616) := Lib.hid (by omega)
  clear w0 w1 w3 x2
  have hz := w2
  clear w2
  unfold maxLen at hz
  by_cases hs : (1000 : Int) < a2.size
  · go_enter Try.func5, Try.ntmps5
    go_wp2_with (go_at_call 16; refine (awake_any _).mono ?_; rintro e w1 ⟨rfl, b1⟩)
    go_ret
    exact ⟨rfl, b1⟩
  · have hs' : decide ((1000 : Int) < a2.size) = false := decide_eq_false hs
    go_enter Try.func5, Try.ntmps5
    go_wp2_with fail
    refine (awake_any _).mono ?_
    rintro e w1 ⟨rfl, b1⟩
    go_wp2_with fail
    refine (ReadLittle_all w1 a2 a3 a1 hz).mono ?_
    rintro e w2 ⟨rfl, k2⟩
    have b2 := b1.grown k2 b1.size (fun j hj => by cases hj)
    obtain ⟨p, hp⟩ : ∃ p : Int, p = (num (cutS a2 a3 a1) : Int) := ⟨_, rfl⟩
    obtain ⟨ok, hok⟩ : ∃ ok, ok = okR a2.size a3 a1 := ⟨_, rfl⟩
    rw [← hp, ← hok]
    have HP := Lib.hid hp
    have HOK := Lib.hid hok
    clear hp hok
    go_wp2_with fail
    refine (ReadBig_all w2 a2 a3 a1 hz).mono ?_
    rintro e w3 ⟨rfl, k3⟩
    have b3 := b2.grown k3 b2.size (fun j hj => by cases hj)
    obtain ⟨q, hq⟩ : ∃ q : Int, q = (num (cutS a2 a3 a1).reverse : Int) := ⟨_, rfl⟩
    rw [← hq, ← HOK.out]
    have HQ := Lib.hid hq
    clear hq b1 b2 k2 k3
    go_wp2_with fail
    refine (refReadLittle_all w3 a2 a3 a1 hz).mono ?_
    rintro e w4 ⟨rfl, rfl⟩
    rw [← HP.out, ← HOK.out]
    go_wp2_with fail
    refine (refReadBig_all w3 a2 a3 a1 hz).mono ?_
    rintro e w4 ⟨rfl, rfl⟩
    rw [← HQ.out, ← HOK.out]
    obtain ⟨l, hl⟩ : ∃ l, l = leL a0 a1 := ⟨_, rfl⟩
    have HL := Lib.hid hl
    clear hl
    go_wp2_with fail
    refine (Little_all w3 a0 a1 x1).mono ?_
    rintro e w5 ⟨rfl, k5⟩
    have b5 := b3.grown k5 b3.size (fun j hj => by cases hj)
    rw [← HL.out]
    go_wp2_with fail
    refine (refLittle_all w5 a0 a1 x1 X2).mono ?_
    rintro e w6 ⟨rfl, k6⟩
    have b6 := b5.grown k6 b5.size (fun j hj => by cases hj)
    rw [← HL.out]
    clear b3 b5 k5 k6
    go_wp2_with fail
    refine (Big_all w6 a0 a1 x1).mono ?_
    rintro e w7 ⟨rfl, k7⟩
    have b7 := b6.grown k7 b6.size (fun j hj => by cases hj)
    rw [← HL.out]
    go_wp2_with fail
    refine (refBig_all w7 a0 a1 x1 X2).mono ?_
    rintro e w8 ⟨rfl, k8⟩
    have b8 := b7.grown k8 b7.size (fun j hj => by cases hj)
    rw [← HL.out]
    clear b6 b7 k7 k8
    go_wp2_with fail
    go_ret
    exact ⟨rfl, b8⟩

set_option maxRecDepth 100000 in
theorem lifted (os : Os) (started : os.Started) (H : Type) (enc : TypeId × Value → H) :
    ReturnsInHanded {} Try.checked os 5 .any (Rows.memNumbersSpec.pre6 enc Try.prog Try.f5 Rows.memNumbersRow.domain false) (Rows.memNumbersSpec.post enc Try.prog Try.f5 false true false false) := by
  refine returnsInHanded_of_change (C := Try.checked) own started (by kernel_rfl) Try.func5
    (ChangeSpec.witness6 (enc := enc) (C := Try.checked) false ⟨#[], #[.int .u64 0, .int .i64 0, .string ByteArray.empty, .int .i64 0], []⟩ 8 (by kernel_rfl) (by kernel_rfl) (by kernel_rfl) (by kernel_rfl)) ?_
  intro W base args ds gs before hval0 hW hcnd _
  have hval : ∀ (j : Nat) t v, Try.f5.params[j]? = some t → args[j]? = some v → Value.okWide Try.prog W .any base t v := hval0
  have hW' := hW
  obtain ⟨p, q, hA0, hV, rfl, hfz, hnd⟩ := hW
  have hA : DataW.TrodAll enc Try.prog W 0 (fun _ => true) true Try.f5.params.toList args.toList ds p := hA0
  rw [Try.params5] at hA hval
  obtain ⟨v0, vs0, d0, ds0, p0, q0, hargs, rfl, rfl, h0, r0⟩ := trodAll_cons hA
  obtain ⟨v1, vs1, d1, ds1, p1, q1, rfl, rfl, rfl, h1, r1⟩ := trodAll_cons r0
  obtain ⟨v2, vs2, d2, ds2, p2, q2, rfl, rfl, rfl, h2, r2⟩ := trodAll_cons r1
  obtain ⟨v3, vs3, d3, ds3, p3, q3, rfl, rfl, rfl, h3, r3⟩ := trodAll_cons r2
  obtain ⟨rfl, rfl, rfl⟩ := trodAll_nil r3
  obtain rfl : args = #[v0, v1, v2, v3] := by cases args; simp_all
  obtain ⟨rfl, rfl⟩ := trodVars_none hV
  obtain ⟨a0, rfl, rfl, rfl, w0⟩ := open_int Try.underlying27 (hval 0 27 v0 rfl rfl) h0
  obtain ⟨a1, rfl, rfl, rfl, w1⟩ := open_int Try.underlying3 (hval 1 3 v1 rfl rfl) h1
  obtain ⟨a2, rfl, rfl, rfl, w2⟩ := open_string Try.underlying9 (hval 2 9 v2 rfl rfl) h2
  obtain ⟨a3, rfl, rfl, rfl, w3⟩ := open_int Try.underlying3 (hval 3 3 v3 rfl rfl) h3
  clear hA0 hval0
  refine (walk a0 a1 a2 a3 w0 w1 w2 w3 W).mono fun e W' ⟨he, bel⟩ => ?_
  subst he
  exact ⟨_, rfl, _, _, _, [], _, [], hW', trodAll_mk1 (shut_bool Try.underlying4 _), (trodAll_cons_mk (shut_int Try.underlying27 w0) (trodAll_cons_mk (shut_int Try.underlying3 w1) (trodAll_cons_mk (shut_string Try.underlying9 w2) (trodAll_cons_mk (shut_int Try.underlying3 w3) trodAll_mk0)))), rfl, bel.frame _, fun h => by cases h⟩

/-- THE STATEMENT. -/
theorem proved : Rows.MemNumbersSaid :=
  OpenClaim.holds_of_wide 5 Try.f5 rfl rfl rfl rfl rfl rfl rfl ⟨rfl, rfl, rfl, rfl, rfl⟩ rfl rfl rfl rfl rfl (by kernel_rfl) Try.func5 (by kernel_rfl)
    (of_decide_eq_true (by kernel_rfl)) (by unfold Func.isWrapper; first | (rw [if_pos (by decide +kernel)]; kernel_rfl) | (rw [if_neg (by decide +kernel)]; exact ⟨rfl, rfl⟩))
    (fun os started H enc _ => lifted os started H enc)
#print axioms proved

end Go.Proofs.Ytkkiplfclanjkaa.numbers
