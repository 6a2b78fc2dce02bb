/-
  EtherKnown: the chapter's examples hold. A closed statement: no conditions.
-/
import Derived.Test.YtbbmfgeagdblcaaEthI
import Derived.Test.YtbbmfgeagdblcaaShelfR
import Derived.ProofKit
import Derived.OpenShut
import Derived.ShutString
import Derived.ChangeOld
import Derived.Below
namespace Go.Proofs.Ytbbmfgeagdblcaa.etk
open Go.ChangeShapes Go.WideShapes Go.ChangeAt Go.RowKit
open Go.ChangeMaps (open_string shut_string)
set_option linter.unusedVariables false

theorem rep_any (c : Nat) (w : World) (hc : c ≤ 1000) :
    Calls Try.prog 23 #[.string ⟨#[120]⟩, .int .i64 (c : Int)] w fun e w' => ∃ X : ByteArray, e = .returned (.string X) ∧ X.size = c ∧ Below w.heap.size w w' := by
  refine (Try.strings_Repeat ⟨#[120]⟩ c w (by omega) (by show 1 * c ≤ _; omega)).mono ?_
  rintro e w' ⟨rfl, b⟩
  refine ⟨_, rfl, ?_, b⟩
  show (Lib.repeatL [120] c).toArray.size = c
  rw [List.size_toArray, Lib.repeatL_length]
  show c * 1 = c
  omega

theorem Bytes_at (w : World) (y : Int) (X : ByteArray) (E : Int) (h : Fr.ok ⟨⟨0, 0, 0, 0, 0, 0⟩, ⟨0, 0, 0, 0, 0, 0⟩, y, X⟩) (hE : frE ⟨⟨0, 0, 0, 0, 0, 0⟩, ⟨0, 0, 0, 0, 0, 0⟩, y, X⟩ = E) :
    Calls Try.prog 24 #[.agg #[.int .u8 0, .int .u8 0, .int .u8 0, .int .u8 0, .int .u8 0, .int .u8 0, .int .u8 0, .int .u8 0, .int .u8 0, .int .u8 0, .int .u8 0, .int .u8 0, .int .i64 y, .string X]] w fun e w' => e = .returned (.tuple #[.string (frS ⟨⟨0, 0, 0, 0, 0, 0⟩, ⟨0, 0, 0, 0, 0, 0⟩, y, X⟩), .int .i64 E]) ∧ Below w.heap.size w w' := by
  have := Bytes_any w ⟨⟨0, 0, 0, 0, 0, 0⟩, ⟨0, 0, 0, 0, 0, 0⟩, y, X⟩ h
  rw [hE] at this
  exact this
theorem Read_at (w : World) (s : ByteArray) (R : Fr) (hR : R = rdR s) (E : Int) (hE : rdE s = E) :
    Calls Try.prog 22 #[.string s] w fun e w' => e = .returned (.tuple #[.agg #[.int .u8 (R.to.a.toNat : Int), .int .u8 (R.to.b.toNat : Int), .int .u8 (R.to.c.toNat : Int), .int .u8 (R.to.d.toNat : Int), .int .u8 (R.to.e.toNat : Int), .int .u8 (R.to.f.toNat : Int), .int .u8 (R.fr.a.toNat : Int), .int .u8 (R.fr.b.toNat : Int), .int .u8 (R.fr.c.toNat : Int), .int .u8 (R.fr.d.toNat : Int), .int .u8 (R.fr.e.toNat : Int), .int .u8 (R.fr.f.toNat : Int), .int .i64 R.ty, .string R.da], .int .i64 E]) ∧ Below w.heap.size w w' := by
  have := Read_any w s R hR
  rw [hE] at this
  exact this
theorem For_ex1 (w : World) : Calls Try.prog 26 #[.agg #[.int .u8 1, .int .u8 2, .int .u8 3, .int .u8 4, .int .u8 5, .int .u8 6, .int .u8 10, .int .u8 11, .int .u8 12, .int .u8 13, .int .u8 14, .int .u8 15, .int .i64 2048, .string ⟨#[104, 105]⟩], .agg #[.int .u8 1, .int .u8 2, .int .u8 3, .int .u8 4, .int .u8 5, .int .u8 6]] w fun e w' => e = .returned (.bool true) ∧ Below w.heap.size w w' := by
  have := For_any w exF exF.to
  rw [show forB exF exF.to = true from by decide +kernel] at this
  exact this
theorem For_ex2 (w : World) : Calls Try.prog 26 #[.agg #[.int .u8 1, .int .u8 2, .int .u8 3, .int .u8 4, .int .u8 5, .int .u8 6, .int .u8 10, .int .u8 11, .int .u8 12, .int .u8 13, .int .u8 14, .int .u8 15, .int .i64 2048, .string ⟨#[104, 105]⟩], .agg #[.int .u8 10, .int .u8 11, .int .u8 12, .int .u8 13, .int .u8 14, .int .u8 15]] w fun e w' => e = .returned (.bool false) ∧ Below w.heap.size w w' := by
  have := For_any w exF exF.fr
  rw [show forB exF exF.fr = false from by decide +kernel] at this
  exact this
theorem data_ok (X : ByteArray) (c : Nat) (h : X.size = c) (hc : c ≤ 1000) : Fr.ok ⟨⟨0, 0, 0, 0, 0, 0⟩, ⟨0, 0, 0, 0, 0, 0⟩, 0, X⟩ := ⟨show (Lit.int .i64 0).wf = true by decide, by show X.size ≤ maxLen; unfold maxLen; omega⟩
theorem data_long (X : ByteArray) (h : X.size = 587) : frE ⟨⟨0, 0, 0, 0, 0, 0⟩, ⟨0, 0, 0, 0, 0, 0⟩, 0, X⟩ = 3 := by
  unfold frE
  rw [if_neg (by simp), if_pos (by show 586 < X.size; omega)]
theorem data_fits (X : ByteArray) (h : X.size = 586) : frE ⟨⟨0, 0, 0, 0, 0, 0⟩, ⟨0, 0, 0, 0, 0, 0⟩, 0, X⟩ = 0 := by
  unfold frE
  rw [if_neg (by simp), if_neg (by show ¬ 586 < X.size; omega)]
theorem read_14 (X : ByteArray) (h : X.size = 14) : (rdR X).da = ⟨#[]⟩ := by
  have he : rdE X = 0 := by rw [rdE, if_neg (by omega), if_neg (by omega)]
  rw [rdR, if_pos he]
  show X.extract 14 X.size = _
  apply ByteArray.ext
  apply Array.toList_inj.1
  rw [extract_list]
  have : X.data.toList.length = 14 := by rw [Array.length_toList]; exact h
  exact List.drop_of_length_le (by omega)

theorem field_to (w : World) : (Instr.field 51 (.agg #[.int .u8 1, .int .u8 2, .int .u8 3, .int .u8 4, .int .u8 5, .int .u8 6, .int .u8 10, .int .u8 11, .int .u8 12, .int .u8 13, .int .u8 14, .int .u8 15, .int .i64 2048, .string ⟨#[104, 105]⟩]) 0).run Try.prog w = .ok (.agg #[.int .u8 1, .int .u8 2, .int .u8 3, .int .u8 4, .int .u8 5, .int .u8 6]) w := by
  simp [Instr.field, asAgg, Go.part, run_underlying Try.underlying51, Try.isAgg49, Try.sizeOf49]
theorem field_fr (w : World) : (Instr.field 51 (.agg #[.int .u8 1, .int .u8 2, .int .u8 3, .int .u8 4, .int .u8 5, .int .u8 6, .int .u8 10, .int .u8 11, .int .u8 12, .int .u8 13, .int .u8 14, .int .u8 15, .int .i64 2048, .string ⟨#[104, 105]⟩]) 1).run Try.prog w = .ok (.agg #[.int .u8 10, .int .u8 11, .int .u8 12, .int .u8 13, .int .u8 14, .int .u8 15]) w := by
  simp [Instr.field, asAgg, Go.part, run_underlying Try.underlying51, Try.isAgg49, Try.sizeOf49]

set_option maxRecDepth 100000 in
set_option maxHeartbeats 8000000 in
theorem walk (w : World) :
    Calls Try.prog 4 #[] w fun e w' => e = .returned (.bool true) ∧ Below w.heap.size w w' := by
  have BL : Hid (Below w.heap.size w w) := Lib.hid (Below.refl _ _)
  go_enter Try.func4, Try.ntmps4
  go_wp2_with fail
  refine (rep_any 13 _ (by decide)).mono ?_
  rintro e w1 ⟨X1, rfl, z1, b1⟩
  have B1 := below_step BL b1
  have Z1 := Lib.hid z1
  clear b1 BL z1
  obtain ⟨R1, hR1⟩ : ∃ R, R = rdR X1 := ⟨_, rfl⟩
  have HR1 := Lib.hid hR1
  clear hR1
  go_wp2_with fail
  refine (Read_at _ X1 R1 HR1.out 7 (by have := Z1.out; rw [rdE, if_pos (by omega)])).mono ?_
  rintro e w2 ⟨rfl, b2⟩
  have B2 := below_step (below_step B1 b2) ((Below.refl _ _).alloc (Nat.le_refl _) (.cells #[.int .u8 (R1.to.a.toNat : Int), .int .u8 (R1.to.b.toNat : Int), .int .u8 (R1.to.c.toNat : Int), .int .u8 (R1.to.d.toNat : Int), .int .u8 (R1.to.e.toNat : Int), .int .u8 (R1.to.f.toNat : Int), .int .u8 (R1.fr.a.toNat : Int), .int .u8 (R1.fr.b.toNat : Int), .int .u8 (R1.fr.c.toNat : Int), .int .u8 (R1.fr.d.toNat : Int), .int .u8 (R1.fr.e.toNat : Int), .int .u8 (R1.fr.f.toNat : Int), .int .i64 R1.ty, .string R1.da] 51))
  clear b2 B1
  go_upto_region 2 with fail
  generalize w2.alloc _ = w3 at B2 ⊢
  go_wp2_with fail
  refine (rep_any 601 _ (by decide)).mono ?_
  rintro e w4 ⟨X2, rfl, z2, b4⟩
  have B4 := below_step B2 b4
  have Z2 := Lib.hid z2
  clear b4 B2 z2
  obtain ⟨R2, hR2⟩ : ∃ R, R = rdR X2 := ⟨_, rfl⟩
  have HR2 := Lib.hid hR2
  clear hR2
  go_wp2_with fail
  refine (Read_at _ X2 R2 HR2.out 3 (by have := Z2.out; rw [rdE, if_neg (by omega), if_pos (by omega)])).mono ?_
  rintro e w5 ⟨rfl, b5⟩
  have B5 := below_step (below_step B4 b5) ((Below.refl _ _).alloc (Nat.le_refl _) (.cells #[.int .u8 (R2.to.a.toNat : Int), .int .u8 (R2.to.b.toNat : Int), .int .u8 (R2.to.c.toNat : Int), .int .u8 (R2.to.d.toNat : Int), .int .u8 (R2.to.e.toNat : Int), .int .u8 (R2.to.f.toNat : Int), .int .u8 (R2.fr.a.toNat : Int), .int .u8 (R2.fr.b.toNat : Int), .int .u8 (R2.fr.c.toNat : Int), .int .u8 (R2.fr.d.toNat : Int), .int .u8 (R2.fr.e.toNat : Int), .int .u8 (R2.fr.f.toNat : Int), .int .i64 R2.ty, .string R2.da] 51))
  clear b5 B4
  go_upto_region 3 with fail
  generalize w5.alloc _ = w6 at B5 ⊢
  go_wp2_with fail
  refine (Bytes_at _ 65536 ⟨#[]⟩ 1 ⟨by decide, by decide⟩ (by decide +kernel)).mono ?_
  rintro e w7 ⟨rfl, b7⟩
  have B7 := below_step B5 b7
  clear b7 B5
  generalize frS _ = S1
  go_wp2_with fail
  refine (rep_any 587 _ (by decide)).mono ?_
  rintro e w8 ⟨X3, rfl, z3, b8⟩
  have B8 := below_step B7 b8
  have Z3 := Lib.hid z3
  clear b8 B7 z3
  go_wp2_with fail
  refine (Bytes_at _ 0 X3 3 (data_ok X3 587 Z3.out (by decide)) (data_long X3 Z3.out)).mono ?_
  rintro e w9 ⟨rfl, b9⟩
  have B9 := below_step B8 b9
  clear b9 B8
  generalize frS _ = S2
  go_wp2_with fail
  refine (rep_any 586 _ (by decide)).mono ?_
  rintro e w10 ⟨X4, rfl, z4, b10⟩
  have B10 := below_step B9 b10
  have Z4 := Lib.hid z4
  clear b10 B9 z4
  go_wp2_with fail
  refine (Bytes_at _ 0 X4 0 (data_ok X4 586 Z4.out (by decide)) (data_fits X4 Z4.out)).mono ?_
  rintro e w11 ⟨rfl, b11⟩
  have B11 := below_step B10 b11
  clear b11 B10
  generalize frS _ = S3
  go_wp2_with fail
  refine (rep_any 14 _ (by decide)).mono ?_
  rintro e w12 ⟨X5, rfl, z5, b12⟩
  have B12 := below_step B11 b12
  have Z5 := Lib.hid z5
  clear b12 B11 z5
  obtain ⟨R5, hR5⟩ : ∃ R, R = rdR X5 := ⟨_, rfl⟩
  have HR5 := Lib.hid hR5
  clear hR5
  go_wp2_with fail
  refine (Read_at _ X5 R5 HR5.out 0 (by have := Z5.out; rw [rdE, if_neg (by omega), if_neg (by omega)])).mono ?_
  rintro e w13 ⟨rfl, b13⟩
  have FX : Hid (FrAt (w13.alloc (.cells #[.int .u8 (R5.to.a.toNat : Int), .int .u8 (R5.to.b.toNat : Int), .int .u8 (R5.to.c.toNat : Int), .int .u8 (R5.to.d.toNat : Int), .int .u8 (R5.to.e.toNat : Int), .int .u8 (R5.to.f.toNat : Int), .int .u8 (R5.fr.a.toNat : Int), .int .u8 (R5.fr.b.toNat : Int), .int .u8 (R5.fr.c.toNat : Int), .int .u8 (R5.fr.d.toNat : Int), .int .u8 (R5.fr.e.toNat : Int), .int .u8 (R5.fr.f.toNat : Int), .int .i64 R5.ty, .string R5.da] 51)) w13.heap.size R5) := Lib.hid (heap_alloc_new w13 _)
  have B13 := below_step (below_step B12 b13) ((Below.refl _ _).alloc (Nat.le_refl _) (.cells #[.int .u8 (R5.to.a.toNat : Int), .int .u8 (R5.to.b.toNat : Int), .int .u8 (R5.to.c.toNat : Int), .int .u8 (R5.to.d.toNat : Int), .int .u8 (R5.to.e.toNat : Int), .int .u8 (R5.to.f.toNat : Int), .int .u8 (R5.fr.a.toNat : Int), .int .u8 (R5.fr.b.toNat : Int), .int .u8 (R5.fr.c.toNat : Int), .int .u8 (R5.fr.d.toNat : Int), .int .u8 (R5.fr.e.toNat : Int), .int .u8 (R5.fr.f.toNat : Int), .int .i64 R5.ty, .string R5.da] 51))
  clear b13 B12
  go_upto_region 7 with fail
  generalize hW : w13.alloc _ = w14 at FX B13 ⊢
  obtain ⟨n, hn⟩ : ∃ n, n = w13.heap.size := ⟨_, rfl⟩
  rw [← hn] at FX ⊢
  clear hW hn
  go_wp2_with fail
  refine (awakeE_any _).mono ?_
  rintro e w15 ⟨rfl, b15⟩
  have B15 := below_step B13 b15
  have c13 := (FX.out.grow b15).da
  rw [show R5.da = ⟨#[]⟩ from by rw [HR5.out]; exact read_14 X5 Z5.out] at c13
  clear b15 B13 FX
  have hf1 := fun w => field_to w
  have hf2 := fun w => field_fr w
  go_wp2_with fail
  refine (example_any _).mono ?_
  rintro e w16 ⟨rfl, b16⟩
  have B16 := below_step B15 b16
  clear b16 B15
  go_wp2_with fail
  refine (example_any _).mono ?_
  rintro e w17 ⟨rfl, b17⟩
  have B17 := below_step B16 b17
  clear b17 B16
  go_wp2_with fail
  refine (For_ex1 _).mono ?_
  rintro e w18 ⟨rfl, b18⟩
  have B18 := below_step B17 b18
  clear b18 B17
  go_wp2_with fail
  refine (example_any _).mono ?_
  rintro e w19 ⟨rfl, b19⟩
  have B19 := below_step B18 b19
  clear b19 B18
  go_wp2_with fail
  refine (example_any _).mono ?_
  rintro e w20 ⟨rfl, b20⟩
  have B20 := below_step B19 b20
  clear b20 B19
  go_wp2_with fail
  refine (For_ex2 _).mono ?_
  rintro e w21 ⟨rfl, b21⟩
  have B21 := below_step B20 b21
  clear b21 B20
  go_wp2_with fail
  go_ret
  exact ⟨rfl, B21.out⟩

set_option maxRecDepth 100000 in
theorem lifted (os : Os) (started : os.Started) (H : Type) (enc : TypeId × Value → H) :
    ReturnsInHanded {} Try.checked os 4 .any (Rows.etherKnownSpec.pre6 enc Try.prog Try.f4 Rows.etherKnownRow.domain false) (Rows.etherKnownSpec.post enc Try.prog Try.f4 false true false false) := by
  refine returnsInHanded_of_change (C := Try.checked) own started (by kernel_rfl) Try.func4
    (ChangeSpec.witness6 (enc := enc) (C := Try.checked) false ⟨#[], #[], []⟩ 8 (by kernel_rfl) (by kernel_rfl) (by kernel_rfl) (by kernel_rfl)) ?_
  intro W base args ds gs before hval0 hW hcnd _
  have hval : ∀ (j : Nat) t v, Try.f4.params[j]? = some t → args[j]? = some v → Value.okWide Try.prog W .any base t v := hval0
  have hW' := hW
  obtain ⟨p, q, hA0, hV, rfl, hfz, hnd⟩ := hW
  have hA : DataW.TrodAll enc Try.prog W 0 (fun _ => true) true Try.f4.params.toList args.toList ds p := hA0
  rw [Try.params4] at hA hval
  obtain ⟨rfl, rfl, rfl⟩ := trodAll_none hA
  obtain ⟨rfl, rfl⟩ := trodVars_none hV
  clear hA0 hval0
  refine (walk W).mono fun e W' ⟨he, bel⟩ => ?_
  subst he
  exact ⟨_, rfl, _, _, _, [], _, [], hW', trodAll_mk1 (shut_bool Try.underlying4 _), trodAll_mk0, rfl, bel.frame _, fun h => by cases h⟩

/-- THE STATEMENT. -/
theorem proved : Rows.EtherKnownSaid :=
  OpenClaim.holds_of_wide 4 Try.f4 rfl rfl rfl rfl rfl rfl rfl ⟨rfl, rfl, rfl, rfl, rfl⟩ rfl rfl rfl rfl rfl (by kernel_rfl) Try.func4 (by kernel_rfl)
    (of_decide_eq_true (by kernel_rfl)) (by unfold Func.isWrapper; first | (rw [if_pos (by decide +kernel)]; kernel_rfl) | (rw [if_neg (by decide +kernel)]; exact ⟨rfl, rfl⟩))
    (fun os started H enc _ => lifted os started H enc)
#print axioms proved

end Go.Proofs.Ytbbmfgeagdblcaa.etk
