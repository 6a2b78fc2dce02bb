/-
  VirtqSizes: how many bytes a queue has, and what both sides know, is the document's. No conditions: any number, any features.
-/
import Derived.Test.YtgmgfhmdehkdaaaAwake
import Derived.ProofKit
import Derived.OpenShut
import Derived.ShutString
import Derived.ChangeOld
import Derived.Below
namespace Go.Proofs.Ytgmgfhmdehkdaaa.vsizes
open Go.ChangeShapes Go.WideShapes Go.ChangeAt Go.RowKit Go.Sort
open Go.ChangeMaps (open_string shut_string)
set_option linter.unusedVariables false

theorem own : ownKnob Try.prog.godebug = none := by kernel_rfl

/-- Bit 32 of a number, asked either way. -/
theorem bit32 (X : Nat) : (X &&& 4294967296 = 0) ↔ (X / 4294967296 % 2 = 0) := by
  have ht : X.testBit 32 = decide (X / 4294967296 % 2 = 1) := by rw [Nat.testBit_eq_decide_div_mod_eq]
  constructor
  · intro h
    have h1 : (X &&& 4294967296).testBit 32 = false := by rw [h]; rfl
    rw [Nat.testBit_and, show Nat.testBit 4294967296 32 = true from by decide +kernel, Bool.and_true, ht] at h1
    have := of_decide_eq_false h1
    omega
  · intro h
    apply Nat.eq_of_testBit_eq
    intro i
    have h2 : Nat.testBit 4294967296 i = decide (32 = i) := Nat.testBit_two_pow (n := 32) (m := i)
    rw [Nat.testBit_and, h2, Nat.zero_testBit]
    by_cases hi : 32 = i
    · subst hi; rw [ht, decide_eq_false (by omega)]; rfl
    · rw [decide_eq_false hi, Bool.and_false]

set_option maxRecDepth 100000 in
set_option maxHeartbeats 1000000 in
theorem features_no (a k : Int) (w : World) (hb : (bits .and .u64 a 4294967296 == 0) = true) :
    Calls Try.prog 28 #[.int .u64 a, .int .u64 k] w fun e w' => e = .returned (.tuple #[.int .u64 0, .int .i64 10]) ∧ w = w' := by
  go_enter Try.func28, Try.ntmps28
  go_wp2
  go_ret2
  exact ⟨rfl, rfl⟩

set_option maxRecDepth 100000 in
set_option maxHeartbeats 1000000 in
theorem features_yes (a k : Int) (w : World) (hb : (bits .and .u64 a 4294967296 == 0) = false) :
    Calls Try.prog 28 #[.int .u64 a, .int .u64 k] w fun e w' => e = .returned (.tuple #[.int .u64 (bits .or .u64 (bits .and .u64 a k) 4294967296), .int .i64 0]) ∧ w = w' := by
  go_enter Try.func28, Try.ntmps28
  go_wp2
  go_ret2
  exact ⟨rfl, rfl⟩

set_option maxRecDepth 100000 in
set_option maxHeartbeats 1000000 in
theorem walk (a0 a1 a2 : Int) (w0 : (Lit.int .i64 a0).wf = true) (w1 : (Lit.int .u64 a1).wf = true) (w2 : (Lit.int .u64 a2).wf = true) (w : World) :
    Calls Try.prog 5 #[.int .i64 a0, .int .u64 a1, .int .u64 a2] w fun e w' => e = .returned (.bool true) ∧ Below w.heap.size w w' := by
  have b1 := bounds_u64 w1
  have b0 := bounds_i64 w0
  obtain ⟨x1, x2⟩ := b1
  obtain ⟨X, rfl⟩ := Int.eq_ofNat_of_zero_le x1
  have hX : X < 18446744073709551616 := by omega
  have hand : bits .and .u64 (X : Int) 4294967296 = ((X &&& 4294967296 : Nat) : Int) := u64_and_nat X 4294967296 hX (by omega)
  have VC := Lib.hid (fun w => vbytes_any a0 w (by omega))
  have RC := Lib.hid (fun w => bytes_any a0 w)
  obtain ⟨B, hB⟩ : ∃ B, B = bytesOf a0 := ⟨_, rfl⟩
  rw [← hB] at VC RC
  have hsh : (X : Int) / 4294967296 = ((X / 4294967296 : Nat) : Int) := by omega
  clear w0 w1 w2 x2 hB x1
  by_cases hz : X / 4294967296 % 2 = 0
  · have h1 : (bits .and .u64 (X : Int) 4294967296 == 0) = true := by rw [hand, (bit32 X).2 hz]; rfl
    have FC := Lib.hid (features_no (X : Int) a2 · h1)
    have h2 : (bits .and .u64 ((X : Int) / 4294967296) 1 == 0) = true := by
      have := u64_and_nat (X / 4294967296) 1 (by omega) (by omega)
      rw [hsh, show (1 : Int) = ((1 : Nat) : Int) from rfl, this, Nat.and_one_is_mod, hz]
      rfl
    clear hand hsh hz h1 hX b0
    go_enter Try.func5, Try.ntmps5
    go_wp2_with fail
    refine (vawake_any _).mono ?_
    rintro e w1 ⟨rfl, bel⟩
    go_wp2_with fail
    refine (FC.out _).mono ?_
    rintro e w2 ⟨rfl, rfl⟩
    go_wp2_with fail
    refine (VC.out _).mono ?_
    rintro e w3 ⟨rfl, rfl⟩
    go_wp2_with fail
    refine (RC.out _).mono ?_
    rintro e w3 ⟨rfl, rfl⟩
    go_wp2_with fail
    go_ret
    exact ⟨rfl, bel⟩
  · have h1 : (bits .and .u64 (X : Int) 4294967296 == 0) = false := by
      rw [hand]
      exact beq_eq_false_iff_ne.2 (fun e => hz ((bit32 X).1 (by omega)))
    have FC := Lib.hid (features_yes (X : Int) a2 · h1)
    have h2 : (bits .and .u64 ((X : Int) / 4294967296) 1 == 0) = false := by
      have := u64_and_nat (X / 4294967296) 1 (by omega) (by omega)
      rw [hsh, show (1 : Int) = ((1 : Nat) : Int) from rfl, this, Nat.and_one_is_mod]
      exact beq_eq_false_iff_ne.2 (by omega)
    clear hand hsh hz h1 hX b0
    go_enter Try.func5, Try.ntmps5
    go_wp2_with fail
    refine (vawake_any _).mono ?_
    rintro e w1 ⟨rfl, bel⟩
    go_wp2_with fail
    refine (FC.out _).mono ?_
    rintro e w2 ⟨rfl, rfl⟩
    go_wp2_with fail
    refine (VC.out _).mono ?_
    rintro e w3 ⟨rfl, rfl⟩
    go_wp2_with fail
    refine (RC.out _).mono ?_
    rintro e w3 ⟨rfl, rfl⟩
    go_wp2_with fail
    go_ret
    exact ⟨rfl, bel⟩

set_option maxRecDepth 100000 in
theorem lifted (os : Os) (started : os.Started) (H : Type) (enc : TypeId × Value → H) :
    ReturnsInHanded {} Try.checked os 5 .any (Rows.virtqSizesSpec.pre6 enc Try.prog Try.f5 Rows.virtqSizesRow.domain false) (Rows.virtqSizesSpec.post enc Try.prog Try.f5 false true false false) := by
  refine returnsInHanded_of_change (C := Try.checked) own started (by kernel_rfl) Try.func5
    (ChangeSpec.witness6 (enc := enc) (C := Try.checked) false ⟨#[], #[.int .i64 0, .int .u64 0, .int .u64 0], []⟩ 8 (by kernel_rfl) (by kernel_rfl) (by kernel_rfl) (by kernel_rfl)) ?_
  intro W base args ds gs before hval0 hW hcnd _
  have hval : ∀ (j : Nat) t v, Try.f5.params[j]? = some t → args[j]? = some v → Value.okWide Try.prog W .any base t v := hval0
  have hW' := hW
  obtain ⟨p, q, hA0, hV, rfl, hfz, hnd⟩ := hW
  have hA : DataW.TrodAll enc Try.prog W 0 (fun _ => true) true Try.f5.params.toList args.toList ds p := hA0
  rw [Try.params5] at hA hval
  obtain ⟨v0, vs0, d0, ds0, p0, q0, hargs, rfl, rfl, h0, r0⟩ := trodAll_cons hA
  obtain ⟨v1, vs1, d1, ds1, p1, q1, rfl, rfl, rfl, h1, r1⟩ := trodAll_cons r0
  obtain ⟨v2, vs2, d2, ds2, p2, q2, rfl, rfl, rfl, h2, r2⟩ := trodAll_cons r1
  obtain ⟨rfl, rfl, rfl⟩ := trodAll_nil r2
  obtain rfl : args = #[v0, v1, v2] := by cases args; simp_all
  obtain ⟨rfl, rfl⟩ := trodVars_none hV
  obtain ⟨a0, rfl, rfl, rfl, w0⟩ := open_int Try.underlying3 (hval 0 3 v0 rfl rfl) h0
  obtain ⟨a1, rfl, rfl, rfl, w1⟩ := open_int Try.underlying60 (hval 1 60 v1 rfl rfl) h1
  obtain ⟨a2, rfl, rfl, rfl, w2⟩ := open_int Try.underlying60 (hval 2 60 v2 rfl rfl) h2
  clear hA0 hval0
  refine (walk a0 a1 a2 w0 w1 w2 W).mono fun e W' ⟨he, bel⟩ => ?_
  subst he
  exact ⟨_, rfl, _, _, _, [], _, [], hW', trodAll_mk1 (shut_bool Try.underlying4 _), (trodAll_cons_mk (shut_int Try.underlying3 w0) (trodAll_cons_mk (shut_int Try.underlying60 w1) (trodAll_cons_mk (shut_int Try.underlying60 w2) trodAll_mk0))), rfl, bel.frame _, fun h => by cases h⟩

/-- THE STATEMENT. -/
theorem proved : Rows.VirtqSizesSaid :=
  OpenClaim.holds_of_wide 5 Try.f5 rfl rfl rfl rfl rfl rfl rfl ⟨rfl, rfl, rfl, rfl, rfl⟩ rfl rfl rfl rfl rfl (by kernel_rfl) Try.func5 (by kernel_rfl)
    (of_decide_eq_true (by kernel_rfl)) (by unfold Func.isWrapper; first | (rw [if_pos (by decide +kernel)]; kernel_rfl) | (rw [if_neg (by decide +kernel)]; exact ⟨rfl, rfl⟩))
    (fun os started H enc _ => lifted os started H enc)
#print axioms proved

end Go.Proofs.Ytgmgfhmdehkdaaa.vsizes
