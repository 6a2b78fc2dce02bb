/-
  SegKnown: the chapter's examples hold. A closed statement: no conditions.
-/
import Derived.Test.YtbjoibgkhooljaaSgI
import Derived.Test.YtbjoibgkhooljaaShelfR
import Derived.ProofKit
import Derived.OpenShut
import Derived.ShutString
import Derived.ChangeOld
import Derived.Below
namespace Go.Proofs.Ytbjoibgkhooljaa.sgk
open Go.ChangeShapes Go.WideShapes Go.ChangeAt Go.RowKit
open Go.ChangeMaps (open_string shut_string)
open Go.Sort (Holds)
set_option linter.unusedVariables false

theorem rep_any (c : Nat) (w : World) (hc : c ≤ 1000) :
    Calls Try.prog 19 #[.string ⟨#[120]⟩, .int .i64 (c : Int)] w fun e w' => ∃ X : ByteArray, e = .returned (.string X) ∧ X.size = c ∧ Below w.heap.size w w' := by
  refine (Try.strings_Repeat ⟨#[120]⟩ c w (by omega) (by show 1 * c ≤ _; omega)).mono ?_
  rintro e w' ⟨rfl, b⟩
  refine ⟨_, rfl, ?_, b⟩
  show (Lib.repeatL [120] c).toArray.size = c
  rw [List.size_toArray, Lib.repeatL_length]
  show c * 1 = c
  omega
theorem rd19 (w : World) (X : ByteArray) (h : X.size = 19) : Calls Try.prog 18 #[.string X, .agg (ipC ip1), .agg (ipC ip2)] w fun e w' => e = .returned (.tuple #[.agg (sgC sgZ), .int .i64 7]) ∧ Below w.heap.size w w' := by
  have e : srE ip1 ip2 X = 7 := by simp [srE, okS, h]
  have h2 := sgRead_any w X ip1 ip2 (by omega)
  rw [srP, e, if_neg (by decide)] at h2
  exact h2
def sgD (fl ms : Int) (X : ByteArray) : Sg := ⟨0, 0, 0, 0, fl, 0, ms, X⟩
theorem sgD_ok (fl ms : Int) (X : ByteArray) (h1 : 0 ≤ fl ∧ fl ≤ 1000) (h2 : 0 ≤ ms ∧ ms ≤ 1000) (h3 : X.size ≤ 1000) : (sgD fl ms X).ok :=
  ⟨by show (Lit.int .i64 0).wf = true; decide, by show (Lit.int .i64 0).wf = true; decide, by show (Lit.int .u32 0).wf = true; decide, by show (Lit.int .u32 0).wf = true; decide, Go.WalkArith.wf_i64 ⟨by show _ ≤ fl; omega, by show fl ≤ _; omega⟩, by show (Lit.int .i64 0).wf = true; decide, Go.WalkArith.wf_i64 ⟨by show _ ≤ ms; omega, by show ms ≤ _; omega⟩, by show X.size ≤ maxLen; unfold maxLen; omega⟩
theorem bs_any (w : World) (fl ms : Int) (X : ByteArray) (h1 : 0 ≤ fl ∧ fl ≤ 1000) (h2 : 0 ≤ ms ∧ ms ≤ 1000) (h3 : X.size ≤ 1000) (E : Int) (hE : sgE (sgD fl ms X) = E) : Calls Try.prog 22 #[.agg #[.int .i64 0, .int .i64 0, .int .u32 0, .int .u32 0, .int .i64 fl, .int .i64 0, .int .i64 ms, .string X], .agg (ipC ip1), .agg (ipC ip2)] w fun e w' => ∃ S, e = .returned (.tuple #[.string S, .int .i64 E]) ∧ Below w.heap.size w w' := by
  have h := sgBytes_any w (sgD fl ms X) ip1 ip2 (sgD_ok fl ms X h1 h2 h3) (by show X.size ≤ _; omega)
  rw [hE] at h
  refine h.mono ?_
  rintro e w' ⟨rfl, b⟩
  exact ⟨_, rfl, b⟩
theorem ex547 (X : ByteArray) (h : X.size = 547) : sgE (sgD 0 0 X) = 3 := by
  rw [sgE, if_neg (by show ¬ maySg (sgD 0 0 X) = false; simp [maySg, sgD]), if_pos (by show 546 < opN (sgD 0 0 X) + X.size; rw [show opN (sgD 0 0 X) = 0 from rfl]; omega)]
theorem ex546 (X : ByteArray) (h : X.size = 546) : sgE (sgD 0 0 X) = 0 := by
  rw [sgE, if_neg (by show ¬ maySg (sgD 0 0 X) = false; simp [maySg, sgD]), if_neg (by show ¬ 546 < opN (sgD 0 0 X) + X.size; rw [show opN (sgD 0 0 X) = 0 from rfl]; omega)]
theorem ex543 (X : ByteArray) (h : X.size = 543) : sgE (sgD 2 536 X) = 3 := by
  rw [sgE, if_neg (by show ¬ maySg (sgD 2 536 X) = false; simp [maySg, sgD]), if_pos (by show 546 < opN (sgD 2 536 X) + X.size; rw [show opN (sgD 2 536 X) = 4 from rfl]; omega)]
def exSyn : Sg := ⟨9, 10, 77, 0, 2, 65535, 536, ⟨#[]⟩⟩
theorem exSyn_ok : exSyn.ok := by
  refine ⟨?_, ?_, ?_, ?_, ?_, ?_, ?_, ?_⟩ <;> first | (show (Lit.int _ 9).wf = true; decide) | (show (Lit.int _ 10).wf = true; decide) | (show (Lit.int _ 77).wf = true; decide) | (show (Lit.int _ 0).wf = true; decide) | (show (Lit.int _ 2).wf = true; decide) | (show (Lit.int _ 65535).wf = true; decide) | (show (Lit.int _ 536).wf = true; decide) | (show 0 ≤ maxLen; unfold maxLen; omega)
theorem exSyn_e : sgE exSyn = 0 := by decide +kernel
theorem exSyn_z : (sgS ip1 ip2 exSyn).size = 24 := by rw [sgS_size exSyn_e]; rfl
theorem synB (w : World) (T : ByteArray) (hT : T = sgS ip1 ip2 exSyn) : Calls Try.prog 22 #[.agg (sgC exSyn), .agg (ipC ip1), .agg (ipC ip2)] w fun e w' => e = .returned (.tuple #[.string T, .int .i64 0]) ∧ Below w.heap.size w w' := by
  have h := sgBytes_any w exSyn ip1 ip2 exSyn_ok (by decide)
  rw [exSyn_e, ← hT] at h
  exact h
theorem synR (w : World) (T : ByteArray) (hT : T = sgS ip1 ip2 exSyn) : Calls Try.prog 18 #[.string T, .agg (ipC ip1), .agg (ipC ip2)] w fun e w' => e = .returned (.tuple #[.agg (sgC exSyn), .int .i64 0]) ∧ Below w.heap.size w w' := by
  have h := sgRead_any w T ip1 ip2 (by rw [hT, exSyn_z]; decide)
  rw [hT, (read_back10 ip1 ip2 exSyn exSyn_ok exSyn_e).1, read_back10P ip1 ip2 exSyn exSyn_ok exSyn_e, ← hT] at h
  exact h
theorem ln4 (w : World) : Calls Try.prog 24 #[.agg #[.int .i64 0, .int .i64 0, .int .u32 0, .int .u32 0, .int .i64 3, .int .i64 0, .int .i64 0, .string ⟨#[104, 105]⟩]] w fun e w' => e = .returned (.int .i64 4) ∧ Below w.heap.size w w' := by
  have h := Len10 w (sgD 3 0 ⟨#[104, 105]⟩) (by decide)
  rw [show sgN (sgD 3 0 ⟨#[104, 105]⟩) = 4 by decide] at h
  exact h
set_option maxRecDepth 100000 in
set_option maxHeartbeats 8000000 in
theorem walk (w : World) :
    Calls Try.prog 4 #[] w fun e w' => e = .returned (.bool true) ∧ Below w.heap.size w w' := by
  go_enter Try.func4, Try.ntmps4
  go_wp2_with fail
  refine (rep_any 19 _ (by decide)).mono ?_
  rintro e w1 ⟨X1, rfl, hX1, b1⟩
  have B1 := Lib.hid b1
  clear b1
  have HX1 := Lib.hid hX1
  clear hX1
  go_wp2_with fail
  refine (oneS _).mono ?_
  rintro e w2 ⟨rfl, b2⟩
  have B2 := bstep B1 b2
  clear b2
  go_wp2_with fail
  refine (twoS _).mono ?_
  rintro e w3 ⟨rfl, b3⟩
  have B3 := bstep B2 b3
  clear b3
  go_wp2_with fail
  refine (rd19 _ X1 HX1.out).mono ?_
  rintro e w4 ⟨rfl, b4⟩
  have B4 := bstep B3 b4
  clear b4
  have hst := sg_store w4 sgZ
  go_upto_region 2 with (refine wpList_storeW 47 (.tmp 1) (.tmp 23) rfl rfl (.agg (sgC sgZ)) w4.heap.size rfl rfl hst ?_)
  try simp only [Act.put]
  have BA := bstep B4 ((Below.refl w4.heap.size w4).alloc (Nat.le_refl _) (.cells (sgC sgZ) 47))
  clear hst
  generalize w4.alloc _ = WA at BA ⊢
  go_wp2_with fail
  refine (oneS _).mono ?_
  rintro e w5 ⟨rfl, b5⟩
  have B5 := bstep BA b5
  clear b5
  go_wp2_with fail
  refine (twoS _).mono ?_
  rintro e w6 ⟨rfl, b6⟩
  have B6 := bstep B5 b6
  clear b6
  go_wp2_with fail
  refine (bs_any _ 0 536 ⟨#[]⟩ ⟨by decide, by decide⟩ ⟨by decide, by decide⟩ (by decide) 1 (by decide +kernel)).mono ?_
  rintro e w7 ⟨Z7, rfl, b7⟩
  have B7 := bstep B6 b7
  clear b7
  go_wp2_with fail
  refine (oneS _).mono ?_
  rintro e w8 ⟨rfl, b8⟩
  have B8 := bstep B7 b8
  clear b8
  go_wp2_with fail
  refine (twoS _).mono ?_
  rintro e w9 ⟨rfl, b9⟩
  have B9 := bstep B8 b9
  clear b9
  go_wp2_with fail
  refine (bs_any _ 32 0 ⟨#[]⟩ ⟨by decide, by decide⟩ ⟨by decide, by decide⟩ (by decide) 1 (by decide +kernel)).mono ?_
  rintro e w10 ⟨Z10, rfl, b10⟩
  have B10 := bstep B9 b10
  clear b10
  go_wp2_with fail
  refine (rep_any 547 _ (by decide)).mono ?_
  rintro e w11 ⟨X547, rfl, hX547, b11⟩
  have B11 := bstep B10 b11
  clear b11
  have HX547 := Lib.hid hX547
  clear hX547
  go_wp2_with fail
  refine (oneS _).mono ?_
  rintro e w12 ⟨rfl, b12⟩
  have B12 := bstep B11 b12
  clear b12
  go_wp2_with fail
  refine (twoS _).mono ?_
  rintro e w13 ⟨rfl, b13⟩
  have B13 := bstep B12 b13
  clear b13
  go_wp2_with fail
  refine (bs_any _ 0 0 X547 ⟨by decide, by decide⟩ ⟨by decide, by decide⟩ (by rw [HX547.out]; decide) 3 (ex547 X547 HX547.out)).mono ?_
  rintro e w14 ⟨Z14, rfl, b14⟩
  have B14 := bstep B13 b14
  clear b14
  go_wp2_with fail
  refine (rep_any 546 _ (by decide)).mono ?_
  rintro e w15 ⟨X546, rfl, hX546, b15⟩
  have B15 := bstep B14 b15
  clear b15
  have HX546 := Lib.hid hX546
  clear hX546
  go_wp2_with fail
  refine (oneS _).mono ?_
  rintro e w16 ⟨rfl, b16⟩
  have B16 := bstep B15 b16
  clear b16
  go_wp2_with fail
  refine (twoS _).mono ?_
  rintro e w17 ⟨rfl, b17⟩
  have B17 := bstep B16 b17
  clear b17
  go_wp2_with fail
  refine (bs_any _ 0 0 X546 ⟨by decide, by decide⟩ ⟨by decide, by decide⟩ (by rw [HX546.out]; decide) 0 (ex546 X546 HX546.out)).mono ?_
  rintro e w18 ⟨Z18, rfl, b18⟩
  have B18 := bstep B17 b18
  clear b18
  go_wp2_with fail
  refine (rep_any 543 _ (by decide)).mono ?_
  rintro e w19 ⟨X543, rfl, hX543, b19⟩
  have B19 := bstep B18 b19
  clear b19
  have HX543 := Lib.hid hX543
  clear hX543
  go_wp2_with fail
  refine (oneS _).mono ?_
  rintro e w20 ⟨rfl, b20⟩
  have B20 := bstep B19 b20
  clear b20
  go_wp2_with fail
  refine (twoS _).mono ?_
  rintro e w21 ⟨rfl, b21⟩
  have B21 := bstep B20 b21
  clear b21
  go_wp2_with fail
  refine (bs_any _ 2 536 X543 ⟨by decide, by decide⟩ ⟨by decide, by decide⟩ (by rw [HX543.out]; decide) 3 (ex543 X543 HX543.out)).mono ?_
  rintro e w22 ⟨Z22, rfl, b22⟩
  have B22 := bstep B21 b22
  clear b22
  go_upto_region 8 with fail
  have PY : Hid (SgAt (w22.alloc (.cells #[.int .i64 9, .int .i64 10, .int .u32 77, .int .u32 0, .int .i64 2, .int .i64 65535, .int .i64 536, .string ⟨#[]⟩] 47)) w22.heap.size exSyn) := Lib.hid (sg_new _ _ exSyn rfl)
  have BY := bstep B22 ((Below.refl w22.heap.size w22).alloc (Nat.le_refl _) (.cells #[.int .i64 9, .int .i64 10, .int .u32 77, .int .u32 0, .int .i64 2, .int .i64 65535, .int .i64 536, .string ⟨#[]⟩] 47))
  obtain ⟨y, hy⟩ : ∃ n, n = w22.heap.size := ⟨_, rfl⟩
  generalize w22.alloc _ = WY at PY BY ⊢
  rw [← hy] at PY ⊢
  clear hy
  obtain ⟨T, hT⟩ : ∃ T, T = sgS ip1 ip2 exSyn := ⟨_, rfl⟩
  have hTz : T.size = 24 := by rw [hT]; exact exSyn_z
  have HT := Lib.hid hT
  have HTZ := Lib.hid hTz
  clear hT hTz
  refine wp_region_noPanic ?_
  refine region_heldE (S := fun w' => SgAt w' y exSyn) (by kernel_rfl) (fun V d => PY.out.kept (d.block _)) (fun V d hS => ?_)
  have BV := bstep BY d.below
  clear d BY
  refine wpAnyH_take (i := 0) (oi := ⟨some 65, Op.load 47 (Operand.tmp 13), _, _, _, none⟩) (v := (.agg (sgC exSyn))) rfl (by kernel_rfl) (by kernel_rfl) (by kernel_rfl) (fun _ _ _ h => h) (yields_sg (by kernel_rfl) (Operand.tmp 13) (by kernel_rfl) y (by kernel_rfl) exSyn (fun _ h => h)) hS ?_
  simp only [Act.put]
  refine wpAnyH_ready (rs := [1]) (by kernel_rfl) (by simp) ?_
  refine AllReadyH.cons rfl (fun K hK => ?_) AllReadyH.nil
  go_simp
  refine (oneS _).mono ?_
  rintro e v1 ⟨rfl, b1⟩
  have S1 : SgAt v1 y exSyn := hS.grow b1
  have BV1 := bstep BV b1
  clear b1 BV
  go_simp
  refine hK.out _ _ S1 (fun _ => ?_)
  clear hK K
  refine wpAnyH_ready (rs := [2]) (by kernel_rfl) (by simp) ?_
  refine AllReadyH.cons rfl (fun K hK => ?_) AllReadyH.nil
  go_simp
  refine (twoS _).mono ?_
  rintro e v2 ⟨rfl, b2⟩
  have S2 : SgAt v2 y exSyn := S1.grow b2
  have BV2 := bstep BV1 b2
  clear b2 BV1
  go_simp
  refine hK.out _ _ S2 (fun _ => ?_)
  clear hK K
  refine wpAnyH_ready (rs := [3]) (by kernel_rfl) (by simp) ?_
  refine AllReadyH.cons rfl (fun K hK => ?_) AllReadyH.nil
  go_simp
  refine (synB _ T HT.out).mono ?_
  rintro e v3 ⟨rfl, b3⟩
  have S3 : SgAt v3 y exSyn := S2.grow b3
  have BV3 := bstep BV2 b3
  clear b3 BV2
  go_simp
  refine hK.out _ _ S3 (fun _ => ?_)
  clear hK K
  refine wpAnyH_take (i := 4) (oi := ⟨some 64, Op.move (Operand.tmp 68), _, _, _, none⟩) (v := (.tuple #[.string T, .int .i64 0])) rfl (by kernel_rfl) (by kernel_rfl) (by kernel_rfl) (fun _ _ _ h => h) (Or.inl ⟨by rfl, fun w' h' => ?_⟩) S3 ?_
  · clear h'
    go_simp
  simp only [Act.put]
  refine wpAnyH_take (i := 5) (oi := ⟨some 69, Op.extract (Operand.tmp 64) 0, _, _, _, none⟩) (v := (.string T)) rfl (by kernel_rfl) (by kernel_rfl) (by kernel_rfl) (fun _ _ _ h => h) (Or.inl ⟨by rfl, fun w' h' => ?_⟩) S3 ?_
  · clear h'
    go_simp
  simp only [Act.put]
  refine wpAnyH_take (i := 6) (oi := ⟨some 70, Op.extract (Operand.tmp 64) 1, _, _, _, none⟩) (v := (.int .i64 0)) rfl (by kernel_rfl) (by kernel_rfl) (by kernel_rfl) (fun _ _ _ h => h) (Or.inl ⟨by rfl, fun w' h' => ?_⟩) S3 ?_
  · clear h'
    go_simp
  simp only [Act.put]
  refine wpAnyH_take (i := 7) (oi := ⟨some 14, Op.assign (Operand.tmp 69), _, _, _, none⟩) (v := (.string T)) rfl (by kernel_rfl) (by kernel_rfl) (by kernel_rfl) (fun _ _ _ h => h) (Or.inl ⟨by rfl, fun w' h' => ?_⟩) S3 ?_
  · clear h'
    go_simp
  simp only [Act.put]
  refine wpAnyH_take (i := 8) (oi := ⟨some 15, Op.assign (Operand.tmp 70), _, _, _, none⟩) (v := (.int .i64 0)) rfl (by kernel_rfl) (by kernel_rfl) (by kernel_rfl) (fun _ _ _ h => h) (Or.inl ⟨by rfl, fun w' h' => ?_⟩) S3 ?_
  · clear h'
    go_simp
  simp only [Act.put]
  refine wpAnyH_done (by kernel_rfl) (NoPanic.normal ?_) _
  simp only [List.setIfInBounds_toArray, List.set_cons_zero, List.set_cons_succ]
  have PY2 := Lib.hid S3
  clear S1 S2 S3 hS PY
  go_wp2_with fail
  refine (oneS _).mono ?_
  rintro e w123 ⟨rfl, b123⟩
  have B123 := bstep BV3 b123
  have PY123 := Lib.hid (PY2.out.grow b123)
  clear b123 PY2
  go_wp2_with fail
  refine (twoS _).mono ?_
  rintro e w124 ⟨rfl, b124⟩
  have B124 := bstep B123 b124
  have PY124 := Lib.hid (PY123.out.grow b124)
  clear b124 PY123
  go_wp2_with fail
  refine (synR _ T HT.out).mono ?_
  rintro e w125 ⟨rfl, b125⟩
  have B125 := bstep B124 b125
  have PY125 := Lib.hid (PY124.out.grow b125)
  clear b125 PY124
  have hst := sg_store w125 exSyn
  go_upto_region 10 with (refine wpList_storeW 47 (.tmp 16) (.tmp 76) rfl rfl (.agg (sgC exSyn)) w125.heap.size rfl rfl hst ?_)
  try simp only [Act.put]
  have PX : Hid (SgAt (w125.alloc (.cells (sgC exSyn) 47)) w125.heap.size exSyn) := Lib.hid (sg_new _ _ exSyn rfl)
  have BX := bstep B125 ((Below.refl w125.heap.size w125).alloc (Nat.le_refl _) (.cells (sgC exSyn) 47))
  have PZ := Lib.hid (PY125.out.grow ((Below.refl w125.heap.size w125).alloc (Nat.le_refl _) (.cells (sgC exSyn) 47)))
  obtain ⟨x, hx⟩ : ∃ n, n = w125.heap.size := ⟨_, rfl⟩
  clear hst PY125
  generalize w125.alloc _ = WX at PX BX PZ ⊢
  rw [← hx] at PX ⊢
  clear hx
  go_wp2_with fail
  refine (awakeS _).mono ?_
  rintro e u1 ⟨rfl, b⟩
  have BX1 := bstep BX b
  have PX1 := Lib.hid (PX.out.grow b)
  have PZ1 := Lib.hid (PZ.out.grow b)
  clear b PX PZ
  go_wp2_with fail
  refine (ln4 _).mono ?_
  rintro e u2 ⟨rfl, b⟩
  have BX2 := bstep BX1 b
  have PX2 := Lib.hid (PX1.out.grow b)
  have PZ2 := Lib.hid (PZ1.out.grow b)
  clear b PX1 PZ1
  have hp := PX2.out
  have ha := PZ2.out
  have hq := eqls exSyn exSyn exSyn_ok exSyn_ok true (decide_eq_true rfl)
  have hz : ((T.size : Int) == 24) = true := by rw [HTZ.out]; rfl
  go_wp2_with (first | (refine sg_ld (by rfl) _ rfl _ rfl _ (by first | exact hp | exact ha) ?_) | (refine sg_eq (by rfl) _ _ _ rfl exSyn exSyn rfl rfl true hq ?_))
  go_ret
  exact ⟨rfl, BX2.out⟩

set_option maxRecDepth 100000 in
theorem lifted (os : Os) (started : os.Started) (H : Type) (enc : TypeId × Value → H) :
    ReturnsInHanded {} Try.checked os 4 .any (Rows.segKnownSpec.pre6 enc Try.prog Try.f4 Rows.segKnownRow.domain false) (Rows.segKnownSpec.post enc Try.prog Try.f4 false true false false) := by
  refine returnsInHanded_of_change (C := Try.checked) own started (by kernel_rfl) Try.func4
    (ChangeSpec.witness6 (enc := enc) (C := Try.checked) false ⟨#[], #[], []⟩ 8 (by kernel_rfl) (by kernel_rfl) (by kernel_rfl) (by kernel_rfl)) ?_
  intro W base args ds gs before hval0 hW hcnd _
  have hval : ∀ (j : Nat) t v, Try.f4.params[j]? = some t → args[j]? = some v → Value.okWide Try.prog W .any base t v := hval0
  have hW' := hW
  obtain ⟨p, q, hA0, hV, rfl, hfz, hnd⟩ := hW
  have hA : DataW.TrodAll enc Try.prog W 0 (fun _ => true) true Try.f4.params.toList args.toList ds p := hA0
  rw [Try.params4] at hA hval
  obtain ⟨rfl, rfl, rfl⟩ := trodAll_none hA
  obtain ⟨rfl, rfl⟩ := trodVars_none hV
  clear hA0 hval0
  refine (walk W).mono fun e W' ⟨he, bel⟩ => ?_
  subst he
  exact ⟨_, rfl, _, _, _, [], _, [], hW', trodAll_mk1 (shut_bool Try.underlying4 _), trodAll_mk0, rfl, bel.frame _, fun h => by cases h⟩

/-- THE STATEMENT. -/
theorem proved : Rows.SegKnownSaid :=
  OpenClaim.holds_of_wide 4 Try.f4 rfl rfl rfl rfl rfl rfl rfl ⟨rfl, rfl, rfl, rfl, rfl⟩ rfl rfl rfl rfl rfl (by kernel_rfl) Try.func4 (by kernel_rfl)
    (of_decide_eq_true (by kernel_rfl)) (by unfold Func.isWrapper; first | (rw [if_pos (by decide +kernel)]; kernel_rfl) | (rw [if_neg (by decide +kernel)]; exact ⟨rfl, rfl⟩))
    (fun os started H enc _ => lifted os started H enc)
#print axioms proved

end Go.Proofs.Ytbjoibgkhooljaa.sgk
