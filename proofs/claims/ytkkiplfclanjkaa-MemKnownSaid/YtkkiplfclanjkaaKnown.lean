/-
  MemKnown: the chapter's examples, and the ends of the numbers. A closed statement: no conditions.
-/
import Derived.Test.YtkkiplfclanjkaaNumber
import Derived.ProofKit
import Derived.OpenShut
import Derived.ShutString
import Derived.ChangeOld
import Derived.Below
namespace Go.Proofs.Ytkkiplfclanjkaa.known
open Go.ChangeShapes Go.WideShapes Go.ChangeAt Go.RowKit Go.Sort
open Go.ChangeMaps (open_string shut_string)
set_option linter.unusedVariables false

theorem own : ownKnob Try.prog.godebug = none := by kernel_rfl

def l1 : List UInt8 := [0, 0, 2, 1, 0, 0, 0, 0, 0, 0, 0, 0, 0, 0, 0, 0]
def l2 : List UInt8 := [0, 0, 2, 1, 0, 0, 0, 0, 0, 0, 0, 0, 0, 0, 97, 98]
theorem e1 : putL (List.replicate (16 : Int).toNat 0) 2 4 258 = l1 := by decide +kernel
theorem e2 : putE l1 13 4 = 13 := by decide +kernel
theorem e3 : putE l1 0 9 = 1 := by decide +kernel
theorem e4 : putE l1 (-1) 1 = 13 := by decide +kernel
theorem sab : (⟨#[97, 98]⟩ : ByteArray).size = 2 := rfl
theorem e5 : textE l1 14 ((2 : Nat) : Int) = 0 := by decide +kernel
theorem e6 : writeL l1 14 [97, 98] = l2 := by decide +kernel
theorem e7 : textE l2 15 ((2 : Nat) : Int) = 13 := by decide +kernel
theorem e8 : writeL l2 15 [97, 98] = l2 := by decide +kernel
theorem e9 : textS l2 14 2 = [97, 98] := by decide +kernel
theorem e10 : textE l2 14 2 = 0 := by decide +kernel
theorem e11 : textS l2 16 0 = [] := by decide +kernel
theorem e12 : textE l2 16 0 = 0 := by decide +kernel
theorem e13 : textE l2 9223372036854775807 1 = 13 := by decide +kernel
theorem e14 : putE l2 9223372036854775807 8 = 13 := by decide +kernel
theorem cab : cutS ⟨#[97, 98]⟩ 0 2 = [97, 98] := by decide +kernel
theorem e15 : (num ([97, 98] : List UInt8).reverse : Int) = 24930 := by decide +kernel
theorem e16 : okR (⟨#[97, 98]⟩ : ByteArray).size 0 2 = true := by decide +kernel
theorem e17 : okR (⟨#[97]⟩ : ByteArray).size 0 2 = false := by decide +kernel
theorem e18 : leL 258 2 = [2, 1] := by decide +kernel
theorem e19 : leL 258 1 = [2] := by decide +kernel
theorem e20 : leL 1 0 = [] := by decide +kernel
theorem e21 : leL 1 9 = [] := by decide +kernel

set_option maxRecDepth 100000 in
set_option maxHeartbeats 2000000 in
theorem walk (w : World) :
    Calls Try.prog 3 #[] w fun e w' => e = .returned (.bool true) ∧ Below w.heap.size w w' := by
  go_enter Try.func3, Try.ntmps3
  go_wp2_with fail
  refine (New_ok w 16 (by omega) (by omega)).mono ?_
  rintro e w1 ⟨rfl, m1, k1⟩
  have b1 := Below.of_none k1
  go_wp2_with fail
  refine (Put_all w1 _ _ _ m1 (by simp) 2 4 258 (by omega)).mono ?_
  rintro e w2 ⟨rfl, m2, k2⟩
  have b2 := b1.grown k2 b1.size (fun j hj => by injection hj with hj; omega)
  rw [e1] at m2
  go_wp2_with fail
  refine (Get_all w2 _ _ _ m2 (by decide) 13 4).mono ?_
  rintro e w3 ⟨rfl, rfl⟩
  rw [e2]
  go_wp2_with fail
  refine (Get_all w2 _ _ _ m2 (by decide) 0 9).mono ?_
  rintro e w3 ⟨rfl, rfl⟩
  rw [e3]
  go_wp2_with fail
  refine (Get_all w2 _ _ _ m2 (by decide) (-1) 1).mono ?_
  rintro e w3 ⟨rfl, rfl⟩
  rw [e4]
  go_wp2_with fail
  refine (Write_all w2 _ _ _ m2 (by decide) 14 ⟨#[97, 98]⟩ (by decide)).mono ?_
  rintro e w3 ⟨rfl, m3, k3⟩
  have b3 := b2.grown k3 b2.size (fun j hj => by injection hj with hj; omega)
  rw [show (#[97, 98] : Array UInt8).toList = [97, 98] from rfl, e6] at m3
  rw [sab, e5]
  go_wp2_with fail
  refine (Write_all w3 _ _ _ m3 (by decide) 15 ⟨#[97, 98]⟩ (by decide)).mono ?_
  rintro e w4 ⟨rfl, m4, k4⟩
  have b4 := b3.grown k4 b3.size (fun j hj => by injection hj with hj; omega)
  rw [show (#[97, 98] : Array UInt8).toList = [97, 98] from rfl, e8] at m4
  rw [sab, e7]
  clear b1 b2 b3 k1 k2 k3 k4 m1 m2 m3
  go_wp2_with fail
  refine (Text_all w4 _ _ _ m4 (by decide) 14 2 (by omega)).mono ?_
  rintro e w5 ⟨rfl, rfl⟩
  rw [e9, e10]
  go_wp2_with fail
  refine (Text_all w4 _ _ _ m4 (by decide) 16 0 (by omega)).mono ?_
  rintro e w5 ⟨rfl, rfl⟩
  rw [e11, e12]
  go_wp2_with fail
  refine (Text_all w4 _ _ _ m4 (by decide) 9223372036854775807 1 (by omega)).mono ?_
  rintro e w5 ⟨rfl, rfl⟩
  rw [e13]
  go_wp2_with fail
  refine (Get_all w4 _ _ _ m4 (by decide) 9223372036854775807 8).mono ?_
  rintro e w5 ⟨rfl, rfl⟩
  rw [e14]
  go_wp2_with fail
  refine (ReadBig_all w4 ⟨#[97, 98]⟩ 0 2 (by decide)).mono ?_
  rintro e w5 ⟨rfl, k5⟩
  have b5 := b4.grown k5 b4.size (fun j hj => by cases hj)
  rw [cab, e15, e16]
  go_wp2_with fail
  refine (ReadBig_all w5 ⟨#[97]⟩ 0 2 (by decide)).mono ?_
  rintro e w6 ⟨rfl, k6⟩
  have b6 := b5.grown k6 b5.size (fun j hj => by cases hj)
  rw [e17]
  clear b4 b5 k5 k6 m4
  go_wp2_with fail
  refine (awake_any w6).mono ?_
  rintro e w7 ⟨rfl, b⟩
  have b7 := b6.trans (b.mono b6.size)
  go_wp2_with fail
  refine (Little_all w7 258 2 (by omega)).mono ?_
  rintro e w8 ⟨rfl, k8⟩
  have b8 := b7.grown k8 b7.size (fun j hj => by cases hj)
  rw [e18]
  go_wp2_with fail
  refine (Big_all w8 258 2 (by omega)).mono ?_
  rintro e w9 ⟨rfl, k9⟩
  have b9 := b8.grown k9 b8.size (fun j hj => by cases hj)
  rw [e18, show ([2, 1] : List UInt8).reverse = [1, 2] from rfl]
  go_wp2_with fail
  refine (Big_all w9 258 1 (by omega)).mono ?_
  rintro e w10 ⟨rfl, k10⟩
  have b10 := b9.grown k10 b9.size (fun j hj => by cases hj)
  rw [e19, show ([2] : List UInt8).reverse = [2] from rfl]
  go_wp2_with fail
  refine (Big_all w10 1 0 (by omega)).mono ?_
  rintro e w11 ⟨rfl, k11⟩
  have b11 := b10.grown k11 b10.size (fun j hj => by cases hj)
  rw [e20, show ([] : List UInt8).reverse = [] from rfl]
  go_wp2_with fail
  refine (Little_all w11 1 9 (by omega)).mono ?_
  rintro e w12 ⟨rfl, k12⟩
  have b12 := b11.grown k12 b11.size (fun j hj => by cases hj)
  rw [e21]
  clear b6 b7 b8 b9 b10 b11 k8 k9 k10 k11 k12 b
  go_wp2_with fail
  go_ret
  exact ⟨rfl, b12⟩

set_option maxRecDepth 100000 in
theorem lifted (os : Os) (started : os.Started) (H : Type) (enc : TypeId × Value → H) :
    ReturnsInHanded {} Try.checked os 3 .any (Rows.memKnownSpec.pre6 enc Try.prog Try.f3 Rows.memKnownRow.domain false) (Rows.memKnownSpec.post enc Try.prog Try.f3 false true false false) := by
  refine returnsInHanded_of_change (C := Try.checked) own started (by kernel_rfl) Try.func3
    (ChangeSpec.witness6 (enc := enc) (C := Try.checked) false ⟨#[], #[], []⟩ 8 (by kernel_rfl) (by kernel_rfl) (by kernel_rfl) (by kernel_rfl)) ?_
  intro W base args ds gs before hval0 hW hcnd _
  have hval : ∀ (j : Nat) t v, Try.f3.params[j]? = some t → args[j]? = some v → Value.okWide Try.prog W .any base t v := hval0
  have hW' := hW
  obtain ⟨p, q, hA0, hV, rfl, hfz, hnd⟩ := hW
  have hA : DataW.TrodAll enc Try.prog W 0 (fun _ => true) true Try.f3.params.toList args.toList ds p := hA0
  rw [Try.params3] at hA hval
  obtain ⟨rfl, rfl, rfl⟩ := trodAll_none hA
  obtain ⟨rfl, rfl⟩ := trodVars_none hV
  clear hA0 hval0
  refine (walk W).mono fun e W' ⟨he, bel⟩ => ?_
  subst he
  exact ⟨_, rfl, _, _, _, [], _, [], hW', trodAll_mk1 (shut_bool Try.underlying4 _), trodAll_mk0, rfl, bel.frame _, fun h => by cases h⟩

/-- THE STATEMENT. -/
theorem proved : Rows.MemKnownSaid :=
  OpenClaim.holds_of_wide 3 Try.f3 rfl rfl rfl rfl rfl rfl rfl ⟨rfl, rfl, rfl, rfl, rfl⟩ rfl rfl rfl rfl rfl (by kernel_rfl) Try.func3 (by kernel_rfl)
    (of_decide_eq_true (by kernel_rfl)) (by unfold Func.isWrapper; first | (rw [if_pos (by decide +kernel)]; kernel_rfl) | (rw [if_neg (by decide +kernel)]; exact ⟨rfl, rfl⟩))
    (fun os started H enc _ => lifted os started H enc)
#print axioms proved

end Go.Proofs.Ytkkiplfclanjkaa.known
