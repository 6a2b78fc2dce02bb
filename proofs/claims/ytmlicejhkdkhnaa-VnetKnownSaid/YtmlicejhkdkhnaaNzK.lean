/-
  VnetKnown: the chapter's examples hold. A closed statement: no conditions.
-/
import Derived.Test.YtmlicejhkdkhnaaNvH
import Derived.ProofKit
import Derived.OpenShut
import Derived.ShutString
import Derived.ChangeOld
import Derived.Below
namespace Go.Proofs.Ytmlicejhkdkhnaa.nxk
open Go.ChangeShapes Go.WideShapes Go.ChangeAt Go.RowKit
open Go.ChangeMaps (open_string shut_string)
set_option linter.unusedVariables false

theorem own : ownKnob Try.prog.godebug = none := by kernel_rfl
theorem may_yes {l : List UInt8} (h : l.length = 20) : mayGo l = true := by unfold mayGo; rw [h]; decide
theorem may_rep {l : List UInt8} (h : l.length = 20) (n : Nat) : (List.replicate n l).filter mayGo = List.replicate n l := List.filter_eq_self.2 fun y hy => by
  rw [List.eq_of_mem_replicate hy]; exact may_yes h
theorem may_rep0 {l : List UInt8} (h : l.length = 20) (n : Nat) : ((List.replicate n l).filter fun s => !mayGo s).length = 0 := by
  rw [List.filter_eq_nil_iff.2]
  · rfl
  · intro y hy
    rw [List.eq_of_mem_replicate hy, may_yes h]; decide
theorem may_three {l : List UInt8} (h : l.length = 20) : [l, [97, 98], l].filter mayGo = [l, l] ∧ ([l, [97, 98], l].filter fun s => !mayGo s).length = 1 := by
  have e1 := may_yes h
  have e2 : mayGo [97, 98] = false := by decide
  constructor
  · rw [List.filter_cons_of_pos e1, List.filter_cons_of_neg (by rw [e2]; decide), List.filter_cons_of_pos e1]; rfl
  · rw [List.filter_cons_of_neg (by rw [e1]; decide), List.filter_cons_of_pos (by rw [e2]; decide), List.filter_cons_of_neg (by rw [e1]; decide)]; rfl
theorem tx_new1 (w : World) (f : ByteArray) : TxAt (w.alloc (.cells #[.string f] 9)) (.slice (some ⟨w.heap.size, 0, none⟩) 1 1) [f.data.toList] :=
  ⟨some ⟨w.heap.size, 0, none⟩, 1, rfl, fun i hi => ⟨w.heap.size, 0, rfl, by
    obtain rfl : i = 0 := by (have : i < 1 := hi); omega
    rw [cell_of_block (heap_alloc_new w _)]; rfl⟩⟩
theorem tx_new2 (w : World) (f : ByteArray) : TxAt (w.alloc (.cells #[.string f, .string f] 9)) (.slice (some ⟨w.heap.size, 0, none⟩) 2 2) [f.data.toList, f.data.toList] :=
  ⟨some ⟨w.heap.size, 0, none⟩, 2, rfl, fun i hi => ⟨w.heap.size, 0, rfl, by
    rcases (show i = 0 ∨ i = 1 by (have : i < 2 := hi); omega) with rfl | rfl <;> (rw [cell_of_block (heap_alloc_new w _)]; rfl)⟩⟩
set_option maxRecDepth 100000 in
set_option maxHeartbeats 8000000 in
theorem walk (w : World) :
    Calls Try.prog 3 #[] w fun e w' => e = .returned (.bool true) ∧ Below w.heap.size w w' := by
  go_enter Try.func3, Try.ntmps3
  go_wp2_with fail
  refine (New_ok w 16384 (by omega) (by omega)).mono ?_
  rintro e w1 ⟨rfl, m1, k1⟩
  have M1 := Lib.hid m1
  have K1 := Lib.hid k1
  clear m1 k1
  go_wp2_with fail
  refine (new4_ok w1 _ _ _ M1.out 0 (by rw [List.length_replicate]; decide) (by rw [List.length_replicate]; decide) (by decide) (by rw [List.length_replicate]; decide)).mono ?_
  rintro e w2 ⟨k, kg, kh, rfl, ns, ko, tu⟩
  have NS2 := Lib.hid ns
  have KO := Lib.hid ko
  have TU := Lib.hid tu
  have KG := Lib.hid kg
  have KH := Lib.hid kh
  clear ns ko tu kg kh
  go_wp2_with fail
  have MM := Lib.hid NS2.out.mem
  rw [KG.out, KH.out] at MM
  have HL2 : Hid ((newV (List.replicate (16384 : Int).toNat 0) 0).lm.length = 16384) := Lib.hid (by rw [newV_len, List.length_replicate]; rfl)
  refine (open4_ok w2 _ _ _ MM.out 0 (by rw [HL2.out]; decide) (by rw [HL2.out]; decide) (by decide) (by rw [HL2.out]; decide)).mono ?_
  rintro e w3 ⟨d, dg, dh, rfl, ds, do_, k3⟩
  have B0 := Lib.hid (bi_made (w0 := w) K1.out (by omega) (by omega) (by decide) (by decide) KG.out KH.out NS2.out KO.out TU.out dg dh ds do_ k3)
  clear dg dh ds do_ k3 NS2 KO TU KG KH MM HL2 M1 K1
  generalize hkn : k.n = n at B0 ⊢
  generalize hdp : d.p = p at B0 ⊢
  generalize hgg : w.heap.size + 1 = gm at B0 ⊢
  have GM : Hid (w.heap.size ≤ gm) := Lib.hid (by omega)
  clear hkn hdp hgg
  have B := B0
  clear B0
  go_wp2_with fail
  refine (text_any w3 20 (by decide) 3 3 rfl).mono ?_
  rintro e w4 ⟨rfl, k4⟩
  have B1 := Lib.hid (B.out.grown k4)
  clear k4 B
  have B := B1
  clear B1
  have hfs : (txt 20 3).data.toList.length = 20 := by rw [Array.length_toList]; exact txt_size 20 3
  have hfz := txt_size 20 3
  generalize txt 20 3 = f at hfs hfz ⊢
  obtain ⟨FL, hFL⟩ : ∃ FL, FL = f.data.toList := ⟨_, rfl⟩
  rw [← hFL] at hfs
  have HFL := Lib.hid hFL
  have HFS := Lib.hid hfs
  have HFZ := Lib.hid hfz
  clear hfs hfz hFL
  go_wp2_with fail
  refine (iSend B.out f 0 (by rw [HFZ.out]; decide)).mono ?_
  rintro e w5 ⟨rfl, b, -⟩
  rw [if_pos rfl, ← HFL.out] at b
  have B2 := Lib.hid b
  clear b B
  go_wp2_with fail
  refine (iSent B2.out).mono ?_
  rintro e w6 ⟨y, rfl, r, -, b, -⟩
  have B3 := Lib.hid b
  have R3 : Hid (SRow w6 y [FL]) := Lib.hid r
  clear b r B2
  go_wp2_with fail
  refine (text_any w6 13 (by decide) 1 1 rfl).mono ?_
  rintro e w7 ⟨rfl, k4⟩
  have B4 := Lib.hid (B3.out.grown k4)
  have R4 : Hid (SRow w7 y [FL]) := Lib.hid (R3.out.grown k4)
  clear k4 B3 R3
  go_wp2_with fail
  refine (iSend B4.out (txt 13 1) 7 (by rw [txt_size]; decide)).mono ?_
  rintro e w8 ⟨rfl, b, tt⟩
  rw [if_neg (by decide)] at b
  have B5 := Lib.hid b
  have R5 := Lib.hid (R4.out.far tt)
  clear b tt B4 R4
  go_wp2_with fail
  refine (text_any w8 601 (by decide) 1 1 rfl).mono ?_
  rintro e w9 ⟨rfl, k4⟩
  have B6 := Lib.hid (B5.out.grown k4)
  have R6 : Hid (SRow w9 y [FL]) := Lib.hid (R5.out.grown k4)
  clear k4 B5 R5
  go_wp2_with fail
  refine (iSend B6.out (txt 601 1) 3 (by rw [txt_size]; decide)).mono ?_
  rintro e w10 ⟨rfl, b, tt⟩
  rw [if_neg (by decide)] at b
  have B7 := Lib.hid b
  have R7 := Lib.hid (R6.out.far tt)
  clear b tt B6 R6
  go_wp2_with fail
  refine (iDeliv B7.out f (by rw [HFZ.out]; decide) 0 (by rw [HFZ.out]; decide)).mono ?_
  rintro e w11 ⟨rfl, b, tt⟩
  rw [if_pos rfl, ← HFL.out] at b
  have B8 : Hid (BI w w11 n p gm 16384 0 [] [FL] 0) := Lib.hid b
  have R8 := Lib.hid (R7.out.far tt)
  clear b tt B7 R7
  go_wp2_with fail
  refine (iDeliv B8.out ⟨#[97, 98]⟩ (by decide) 0 (by rfl)).mono ?_
  rintro e w12 ⟨rfl, b, tt⟩
  rw [if_pos rfl] at b
  have B9 : Hid (BI w w12 n p gm 16384 0 [] [FL, [97, 98]] 0) := Lib.hid b
  have R9 := Lib.hid (R8.out.far tt)
  clear b tt B8 R8
  go_wp2_with fail
  refine (iDeliv B9.out f (by rw [HFZ.out]; decide) 0 (by rw [HFZ.out]; rfl)).mono ?_
  rintro e w13 ⟨rfl, b, tt⟩
  rw [if_pos rfl, ← HFL.out] at b
  have B10 : Hid (BI w w13 n p gm 16384 0 [] [FL, [97, 98], FL] 0) := Lib.hid b
  have R10 := Lib.hid (R9.out.far tt)
  clear b tt B9 R9
  go_wp2_with fail
  refine (iRecv B10.out (by decide) 1 (by rw [(may_three HFS.out).2]; decide)).mono ?_
  rintro e w14 ⟨z, rfl, r, -, b, tt⟩
  rw [(may_three HFS.out).1] at r
  have B11 := Lib.hid b
  have R11 := Lib.hid (R10.out.far tt)
  have Z11 := Lib.hid r
  clear b r tt B10 R10
  have KF : Hid (∀ w' : World, TxAt (w'.alloc (.cells #[.string f] 9)) (.slice (some ⟨w'.heap.size, 0, none⟩) 1 1) [FL]) := Lib.hid (fun w' => by rw [HFL.out]; exact tx_new1 w' f)
  have KF2 : Hid (∀ w' : World, TxAt (w'.alloc (.cells #[.string f, .string f] 9)) (.slice (some ⟨w'.heap.size, 0, none⟩) 2 2) [FL, FL]) := Lib.hid (fun w' => by rw [HFL.out]; exact tx_new2 w' f)
  go_wp2_with fail
  refine (same_true _ _ _ [FL] (R11.out.tx.below ((Below.refl _ _).alloc (Nat.le_refl _) _)) (KF.out w14) (by show 1 ≤ 1000; decide)).mono ?_
  rintro e w15 ⟨rfl, k5⟩
  have k6 := (World.grownBy_alloc w14 (.cells #[.string f] 9) none).trans k5
  have B12 := Lib.hid (B11.out.grown k6)
  have Z12 : Hid (SRow w15 z [FL, FL]) := Lib.hid (Z11.out.grown k6)
  clear k5 k6 B11 Z11 R11
  go_wp2_with fail
  refine (same_true _ _ _ [FL, FL] (Z12.out.tx.below ((Below.refl _ _).alloc (Nat.le_refl _) _)) (KF2.out w15) (by show 2 ≤ 1000; decide)).mono ?_
  rintro e w16 ⟨rfl, k5⟩
  have k6 := (World.grownBy_alloc w15 (.cells #[.string f, .string f] 9) none).trans k5
  have B13 := Lib.hid (B12.out.grown k6)
  clear k5 k6 B12 Z12
  go_wp2_with fail
  refine (iDrops B13.out).mono ?_
  rintro e w17 ⟨rfl, rfl⟩
  go_upto_region 16 with fail
  go_loopw [14] (fun i wr => ∃ j : Nat, j ≤ 8 ∧ i = .int .i64 j ∧ Hid (BI w wr n p gm 16384 0 [] (List.replicate j FL) 1)) (fun i _ => 8 - (intOf i).toNat)
  case atStart => exact ⟨0, by omega, rfl, B13⟩
  case round =>
    clear B13
    obtain ⟨j, hj, rfl, B⟩ := hrel
    by_cases hlt : j < 8
    · have q3 : decide ((j : Int) < (8 : Int)) = true := decide_eq_true (by omega)
      have q4 : IntKind.i64.wrap ((j : Int) + 1) = (j : Int) + 1 := IntWalk.i64_in _ (by omega)
      have HJ := Lib.hid hlt
      clear hlt
      go_wp2_with fail
      refine (iDeliv B.out f (by rw [HFZ.out]; decide) 0 (by rw [HFZ.out, List.length_replicate]; unfold delivE; rw [if_neg (by decide), if_neg (by have := HJ.out; omega)])).mono ?_
      rintro e wn ⟨rfl, b, tt⟩
      rw [if_pos rfl, ← HFL.out] at b
      have BN : Hid (BI w wn n p gm 16384 0 [] (List.replicate (j + 1) FL) 1) := Lib.hid (by rw [List.replicate_succ']; exact b)
      clear b tt
      go_wp2_with fail
      go_roundw
      case rel => exact ⟨j + 1, by have := HJ.out; omega, by go_num, BN⟩
      case measure => simp [intOf]; have := HJ.out; omega
    · obtain rfl : j = 8 := by omega
      have q3 : decide (((8 : Nat) : Int) < (8 : Int)) = false := by decide
      clear hlt
      go_wp2_with fail
      refine (iDeliv B.out f (by rw [HFZ.out]; decide) 6 (by rw [HFZ.out]; rfl)).mono ?_
      rintro e w18 ⟨rfl, b, tt⟩
      rw [if_neg (by decide)] at b
      have B14 := Lib.hid b
      clear b tt B
      go_wp2_with fail
      refine (iRecv B14.out (by decide) 1 (by rw [may_rep0 HFS.out]; decide)).mono ?_
      rintro e w19 ⟨z, rfl, r, -, b, tt⟩
      rw [may_rep HFS.out] at r
      have B15 := Lib.hid b
      obtain ⟨pz, cz, hz⟩ := RowA.shape r.row
      rw [List.length_replicate] at hz
      subst hz
      clear b r tt B14
      go_wp2_with fail
      refine (iDeliv B15.out f (by rw [HFZ.out]; decide) 0 (by rw [HFZ.out]; rfl)).mono ?_
      rintro e w20 ⟨rfl, b, tt⟩
      have B16 := Lib.hid b
      clear b tt B15
      obtain ⟨hm, lm, m1, l1, h0⟩ := B16.out.mem
      have BW := Lib.hid B16.out.bl
      have M1 := Lib.hid m1
      have L1 := Lib.hid l1
      have H0 := Lib.hid h0
      clear m1 l1 h0 B16
      go_wp2_with fail
      refine (new4_err w20 gm hm lm M1.out 6081 (by rw [L1.out]; decide) (by rw [L1.out]; decide) (by decide) 1 (by rw [L1.out]; decide) (by decide)).mono ?_
      rintro e w21 ⟨rfl, k5⟩
      have M2 := Lib.hid (M1.out.same k5)
      have BW2 := Lib.hid (BW.out.trans ((Below.of_none k5).mono BW.out.size))
      clear k5 M1 BW
      go_wp2_with fail
      refine (new4_err w21 gm hm lm M2.out 6096 (by rw [L1.out]; decide) (by rw [L1.out]; decide) (by decide) 13 (by rw [L1.out]; decide) (by decide)).mono ?_
      rintro e w22 ⟨rfl, k5⟩
      have M3 := Lib.hid (M2.out.same k5)
      have BW3 := Lib.hid (BW2.out.trans ((Below.of_none k5).mono BW2.out.size))
      clear k5 M2 BW2
      go_wp2_with fail
      refine (new4_ok w22 gm hm lm M3.out 6080 (by rw [L1.out]; decide) (by rw [L1.out]; decide) (by decide) (by rw [L1.out]; decide)).mono ?_
      rintro e w23 ⟨kk, -, -, rfl, -, -, tu⟩
      have BW4 := Lib.hid (BW3.out.trans (tu.below BW3.out.size (fun j e => by rw [e]; exact H0.out)))
      clear tu M3 BW3
      go_wp2_with fail
      refine (awake4 w23).mono ?_
      rintro e w24 ⟨rfl, bl⟩
      have BW5 := Lib.hid (BW4.out.trans (bl.mono BW4.out.size))
      clear bl BW4
      go_wp2_with fail
      go_ret
      exact ⟨rfl, BW5.out⟩
set_option maxRecDepth 100000 in
theorem lifted (os : Os) (started : os.Started) (H : Type) (enc : TypeId × Value → H) :
    ReturnsInHanded {} Try.checked os 3 .any (Rows.vnetKnownSpec.pre6 enc Try.prog Try.f3 Rows.vnetKnownRow.domain false) (Rows.vnetKnownSpec.post enc Try.prog Try.f3 false true false false) := by
  refine returnsInHanded_of_change (C := Try.checked) own started (by kernel_rfl) Try.func3
    (ChangeSpec.witness6 (enc := enc) (C := Try.checked) false ⟨#[], #[], []⟩ 8 (by kernel_rfl) (by kernel_rfl) (by kernel_rfl) (by kernel_rfl)) ?_
  intro W base args ds gs before hval0 hW hcnd _
  have hval : ∀ (j : Nat) t v, Try.f3.params[j]? = some t → args[j]? = some v → Value.okWide Try.prog W .any base t v := hval0
  have hW' := hW
  obtain ⟨p, q, hA0, hV, rfl, hfz, hnd⟩ := hW
  have hA : DataW.TrodAll enc Try.prog W 0 (fun _ => true) true Try.f3.params.toList args.toList ds p := hA0
  rw [Try.params3] at hA hval
  obtain ⟨rfl, rfl, rfl⟩ := trodAll_none hA
  obtain ⟨rfl, rfl⟩ := trodVars_none hV
  clear hA0 hval0
  refine (walk W).mono fun e W' ⟨he, bel⟩ => ?_
  subst he
  exact ⟨_, rfl, _, _, _, [], _, [], hW', trodAll_mk1 (shut_bool Try.underlying4 _), trodAll_mk0, rfl, bel.frame _, fun h => by cases h⟩

/-- THE STATEMENT. -/
theorem proved : Rows.VnetKnownSaid :=
  OpenClaim.holds_of_wide 3 Try.f3 rfl rfl rfl rfl rfl rfl rfl ⟨rfl, rfl, rfl, rfl, rfl⟩ rfl rfl rfl rfl rfl (by kernel_rfl) Try.func3 (by kernel_rfl)
    (of_decide_eq_true (by kernel_rfl)) (by unfold Func.isWrapper; first | (rw [if_pos (by decide +kernel)]; kernel_rfl) | (rw [if_neg (by decide +kernel)]; exact ⟨rfl, rfl⟩))
    (fun os started H enc _ => lifted os started H enc)
#print axioms proved

end Go.Proofs.Ytmlicejhkdkhnaa.nxk
