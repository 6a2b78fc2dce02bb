/-
  WheelKnown: the chapter's examples; a wheel of 256 timers has no room for one more, and tells all of them. No conditions (a closed statement).
-/
import Derived.Test.YtpbhflnhblblfaaWhK
import Derived.ProofKit
import Derived.OpenShut
import Derived.ShutString
import Derived.ChangeOld
import Derived.Below
namespace Go.Proofs.Ytpbhflnhblblfaa.kno
open Go.ChangeShapes Go.WideShapes Go.ChangeAt Go.RowKit
open Go.ChangeMaps (open_string shut_string)
set_option linter.unusedVariables false

theorem own : ownKnob Try.prog.godebug = none := by kernel_rfl

/-- The timers of the second wheel, behind k rounds. -/
def many (k : Nat) : List (Tm Int) := (List.range k).map fun i : Nat => ⟨(i : Int) + 1, i, i⟩
theorem many_len (k : Nat) : (many k).length = k := by simp [many]
theorem many_succ (k : Nat) : many (k + 1) = many k ++ [⟨(k : Int) + 1, k, k⟩] := by simp [many, List.range_succ]
theorem many_told (N : Int) (hN : 256 ≤ N) : (told N (many 256)).length = 256 := by
  rw [(told_perm N _).length_eq]
  unfold dues
  rw [List.filter_eq_self.2, many_len]
  intro t ht
  simp only [many, List.mem_map, List.mem_range] at ht
  obtain ⟨i, hi, rfl⟩ := ht
  simp [isDue]
  omega

set_option maxRecDepth 100000 in
set_option maxHeartbeats 4000000 in
theorem walk (w : World) :
    Calls Try.prog 3 #[] w fun e w' => e = .returned (.bool true) ∧ Below w.heap.size w w' := by
  go_enter Try.func3, Try.ntmps3
  go_wp2_with fail
  refine (bNewS w).mono ?_
  rintro e w1 ⟨rfl, i1, t1, z1⟩
  have i1 := i1.mono (O' := fun k => w.heap.size ≤ k) (fun j _ hj => Nat.le_of_eq hj.symm)
  generalize hg : w.heap.size = g at *
  have HG := Lib.hid hg
  have ge : ∀ j, (fun k => g ≤ k) j → w.heap.size ≤ j := fun j hj => by rw [HG.out]; exact hj
  have T1 := Lib.hid t1
  have C1 := Lib.hid (wSetS i1 (by omega) 5 ⟨#[97]⟩ (by omega) (by omega) (by omega) (by simp) 1 rfl)
  clear i1 t1 z1 hg
  go_wp2_with fail
  refine C1.out.mono ?_
  rintro e w2 ⟨rfl, i2, t2⟩
  have T2 := Lib.hid (T1.out.step t2 ge)
  have b2 : g ≤ w2.heap.size := by have := T2.out.size; rw [HG.out] at this; exact this
  have C2 := Lib.hid (wSetS i2 b2 3 ⟨#[98]⟩ (by omega) (by omega) (by omega) (by simp) 2 rfl)
  clear i2 t2 C1 T1 b2
  go_wp2_with fail
  refine C2.out.mono ?_
  rintro e w3 ⟨rfl, i3, t3⟩
  have T3 := Lib.hid (T2.out.step t3 ge)
  have b3 : g ≤ w3.heap.size := by have := T3.out.size; rw [HG.out] at this; exact this
  have C3 := Lib.hid (wSetS i3 b3 5 ⟨#[99]⟩ (by omega) (by omega) (by omega) (by simp) 3 rfl)
  clear i3 t3 C2 T2 b3
  go_wp2_with fail
  refine C3.out.mono ?_
  rintro e w4 ⟨rfl, i4, t4⟩
  have T4 := Lib.hid (T3.out.step t4 ge)
  have b4 : g ≤ w4.heap.size := by have := T4.out.size; rw [HG.out] at this; exact this
  have N4 := bNextS i4 (by simp)
  rw [show (least (X := ByteArray) ([] ++ [⟨1, 5, ⟨#[97]⟩⟩] ++ [⟨2, 3, ⟨#[98]⟩⟩] ++ [⟨3, 5, ⟨#[99]⟩⟩])) = some 3 from rfl] at N4
  have I4 := Lib.hid i4
  have HN4 := Lib.hid N4
  clear i4 t4 C3 T3 b4 N4
  go_wp2_with fail
  refine HN4.out.mono ?_
  rintro e w5 ⟨rfl, t5⟩
  have T5 := Lib.hid (T4.out.trans t5)
  have b5 : g ≤ w5.heap.size := by have := T5.out.size; rw [HG.out] at this; exact this
  have C5 := Lib.hid (wAdvS (I4.out.turn t5 (fun _ _ h => h)) b5 2 (by omega) (by simp) 2 (by omega) [] [⟨1, 5, ⟨#[97]⟩⟩, ⟨2, 3, ⟨#[98]⟩⟩, ⟨3, 5, ⟨#[99]⟩⟩] rfl rfl)
  clear t5 T4 I4 HN4 b5
  go_wp2_with fail
  refine C5.out.mono ?_
  rintro e w6 ⟨v6, rfl, o6, i6, t6⟩
  obtain ⟨p6, c6, h6⟩ := own_len o6
  subst h6
  have T6 := Lib.hid (T5.out.step t6 ge)
  have b6 : g ≤ w6.heap.size := by have := T6.out.size; rw [HG.out] at this; exact this
  have C6 := Lib.hid (wAdvS i6 b6 5 (by omega) (by simp) 5 (by omega) [⟨2, 3, ⟨#[98]⟩⟩, ⟨1, 5, ⟨#[97]⟩⟩, ⟨3, 5, ⟨#[99]⟩⟩] [] rfl rfl)
  clear t6 T5 o6 i6 C5 b6
  go_wp2_with fail
  refine C6.out.mono ?_
  rintro e w7 ⟨v7, rfl, o7, i7, t7⟩
  obtain ⟨b, c, rfl, _, _, hc⟩ := own_cells o7 (by decide)
  have c0 := hc 0 _ rfl
  have c1 := hc 1 _ rfl
  have c2 := hc 2 _ rfl
  have T7 := Lib.hid (T6.out.step t7 ge)
  have b7 : g ≤ w7.heap.size := by have := T7.out.size; rw [HG.out] at this; exact this
  have HNW := Lib.hid (bNowS i7)
  have HLN := Lib.hid (bLenS i7 (by simp))
  have C7 := Lib.hid (wSetS i7 b7 1 ⟨#[100]⟩ (by omega) (by omega) (by omega) (by simp) 4 rfl)
  clear t7 T6 o7 i7 C6 b7 hc
  go_wp2_with fail
  refine HNW.out.mono ?_
  rintro e w8 ⟨rfl, rfl⟩
  go_wp2_with fail
  refine HLN.out.mono ?_
  rintro e w8 ⟨rfl, rfl⟩
  clear HNW HLN
  go_wp2_with fail
  clear c0 c1 c2
  refine C7.out.mono ?_
  rintro e w8 ⟨rfl, i8, t8⟩
  have T8 := Lib.hid (T7.out.step t8 ge)
  have N8 := bNextS i8 (by simp)
  rw [show (least (X := ByteArray) ([] ++ [⟨4, 1, ⟨#[100]⟩⟩])) = some 1 from rfl] at N8
  have HN8 := Lib.hid N8
  have I8 := Lib.hid i8
  clear t8 T7 i8 C7 N8
  go_wp2_with fail
  refine HN8.out.mono ?_
  rintro e w9 ⟨rfl, t9⟩
  have T9 := Lib.hid (T8.out.trans t9)
  have K9 := bCancelS (I8.out.turn t9 (fun _ _ h => h)) 4 (by simp)
  rw [show holdsId 4 (([] : List (Tm ByteArray)) ++ [⟨4, 1, ⟨#[100]⟩⟩]) = true from rfl, show without 4 (([] : List (Tm ByteArray)) ++ [⟨4, 1, ⟨#[100]⟩⟩]) = [] from rfl] at K9
  have HK9 := Lib.hid K9
  clear t9 T8 I8 HN8 K9
  go_wp2_with fail
  refine HK9.out.mono ?_
  rintro e w10 ⟨rfl, i10, t10⟩
  have T10 := Lib.hid (T9.out.step t10 ge)
  have K10 := bCancelS i10 4 (by simp)
  rw [show holdsId 4 ([] : List (Tm ByteArray)) = false from rfl, show without 4 ([] : List (Tm ByteArray)) = [] from rfl] at K10
  have HK10 := Lib.hid K10
  clear t10 T9 i10 HK9 K10
  go_wp2_with fail
  refine HK10.out.mono ?_
  rintro e w11 ⟨rfl, i11, t11⟩
  have T11 := Lib.hid (T10.out.step t11 ge)
  have b11 : g ≤ w11.heap.size := by have := T11.out.size; rw [HG.out] at this; exact this
  have C11 := Lib.hid (wAdvS i11 b11 4 (by omega) (by simp) 5 (by omega) [] [] rfl rfl)
  clear t11 T10 i11 HK10 b11
  go_wp2_with fail
  refine C11.out.mono ?_
  rintro e w12 ⟨v12, rfl, o12, i12, t12⟩
  obtain ⟨p12, c12, h12⟩ := own_len o12
  subst h12
  have T12 := Lib.hid (T11.out.step t12 ge)
  have HS12 := Lib.hid (bSetArgS i12 (-1) ⟨#[101]⟩ (by omega))
  have I12 := Lib.hid i12
  clear t12 T11 o12 i12 C11
  go_wp2_with fail
  refine HS12.out.mono ?_
  rintro e w13 ⟨rfl, rfl⟩
  clear HS12
  go_wp2_with fail
  refine (bNewI w12).mono ?_
  rintro e w13 ⟨rfl, j1, u1, y1⟩
  have T13 := Lib.hid (T12.out.trans u1)
  have hgC : w.heap.size ≤ w12.heap.size := T12.out.size
  have S13 := Lib.hid ((I12.out.mono (O' := fun k => k < w12.heap.size) (fun j hj _ => hj)).turn u1 (fun _ _ h => h))
  have j1 := j1.mono (O' := fun k => w12.heap.size ≤ k) (fun j _ hj => Nat.le_of_eq hj.symm)
  generalize w12.heap.size = C at *
  clear T12 I12 u1
  have J1 := Lib.hid j1
  have Y1 : C ≤ w13.heap.size := by omega
  clear j1 y1
  go_wp2_with fail
  go_loopw [16] (fun i wr => ∃ k : Nat, k ≤ 256 ∧ i = .int .i64 k ∧ IsWI wr (fun j => C ≤ j) C 0 k (many k) ∧ IsWS wr (fun j => j < C) g 5 4 [] ∧ Turn w wr (fun _ => False) ∧ C ≤ wr.heap.size) (fun i _ => 256 - (intOf i).toNat)
  case atStart => exact ⟨0, by omega, rfl, J1.out, S13.out, T13.out, Y1⟩
  case round =>
    obtain ⟨k, hk, rfl, jk, sk, T, Y⟩ := hrel
    by_cases hlt : k < 256
    · have hd : decide ((k : Int) < 256) = true := by simp; omega
      have HC := Lib.hid (wSetI jk Y (k : Int) (k : Int) (by omega) (by omega) (by omega) (by rw [many_len]; exact hlt) ((k : Int) + 1) rfl)
      have SK := Lib.hid sk
      clear jk sk
      go_wp2_with fail
      refine HC.out.mono ?_
      rintro e w14 ⟨rfl, jk, uk⟩
      rw [← many_succ] at jk
      have hkc : (((k + 1 : Nat) : Int)) = (k : Int) + 1 := by omega
      have JK := Lib.hid jk
      have S14 := Lib.hid (SK.out.turn uk (fun j hj hx => by omega))
      have T14 := T.step uk (fun j hj => by omega)
      have Y14 : C ≤ w14.heap.size := by have := uk.size; omega
      clear jk uk SK HC
      go_wp2_with fail
      go_roundw
      case rel => exact ⟨k + 1, by omega, by go_num, by rw [hkc]; exact JK.out, S14.out, T14, Y14⟩
      case measure => simp [intOf]; omega
    · obtain rfl : k = 256 := by omega
      have HF := Lib.hid (bSetFullI jk 0 0 (by omega) (by rw [many_len]; omega) (by rw [many_len]; omega))
      have JK := Lib.hid jk
      have SK := Lib.hid sk
      clear jk sk
      go_wp2_with fail
      refine HF.out.mono ?_
      rintro e w14 ⟨rfl, rfl⟩
      clear HF
      go_wp2_with fail
      refine (awake_any _).mono ?_
      rintro e w15 ⟨rfl, t15⟩
      have T15 := Lib.hid (T.trans t15)
      have HNW := Lib.hid (bNowS (SK.out.turn t15 (fun _ _ h => h)))
      have Y15 : C ≤ w15.heap.size := by have := t15.size; omega
      have HAD := Lib.hid (bAdvI (JK.out.turn t15 (fun _ _ h => h)) 4611686018427387904 (by omega) (by rw [many_len]; omega) 4611686018427387904 (by omega))
      have HTL := Lib.hid (many_told 4611686018427387904 (by omega))
      clear t15 SK JK
      go_wp2_with fail
      refine HNW.out.mono ?_
      rintro e w16 ⟨rfl, rfl⟩
      clear HNW
      go_wp2_with fail
      refine HAD.out.mono ?_
      rintro e w16 ⟨v16, rfl, o16, i16, t16⟩
      obtain ⟨p16, c16, h16⟩ := own_len o16
      rw [HTL.out] at h16
      subst h16
      have T16 := T15.out.step t16 (fun j hj => by omega)
      clear o16 i16 t16 HAD HTL
      go_wp2_with fail
      go_ret
      exact ⟨rfl, T16.below⟩

set_option maxRecDepth 100000 in
theorem lifted (os : Os) (started : os.Started) (H : Type) (enc : TypeId × Value → H) :
    ReturnsInHanded {} Try.checked os 3 .any (Rows.wheelKnownSpec.pre6 enc Try.prog Try.f3 Rows.wheelKnownRow.domain false) (Rows.wheelKnownSpec.post enc Try.prog Try.f3 false true false false) := by
  refine returnsInHanded_of_change (C := Try.checked) own started (by kernel_rfl) Try.func3
    (ChangeSpec.witness6 (enc := enc) (C := Try.checked) false ⟨#[], #[], []⟩ 8 (by kernel_rfl) (by kernel_rfl) (by kernel_rfl) (by kernel_rfl)) ?_
  intro W base args ds gs before hval0 hW hcnd _
  have hval : ∀ (j : Nat) t v, Try.f3.params[j]? = some t → args[j]? = some v → Value.okWide Try.prog W .any base t v := hval0
  have hW' := hW
  obtain ⟨p, q, hA0, hV, rfl, hfz, hnd⟩ := hW
  have hA : DataW.TrodAll enc Try.prog W 0 (fun _ => true) true Try.f3.params.toList args.toList ds p := hA0
  rw [Try.params3] at hA hval
  obtain ⟨rfl, rfl, rfl⟩ := trodAll_none hA
  obtain ⟨rfl, rfl⟩ := trodVars_none hV
  clear hA0 hval0
  refine (walk W).mono fun e W' ⟨he, bel⟩ => ?_
  subst he
  exact ⟨_, rfl, _, _, _, [], _, [], hW', trodAll_mk1 (shut_bool Try.underlying4 _), trodAll_mk0, rfl, bel.frame _, fun h => by cases h⟩

/-- THE STATEMENT. -/
theorem proved : Rows.WheelKnownSaid :=
  OpenClaim.holds_of_wide 3 Try.f3 rfl rfl rfl rfl rfl rfl rfl ⟨rfl, rfl, rfl, rfl, rfl⟩ rfl rfl rfl rfl rfl (by kernel_rfl) Try.func3 (by kernel_rfl)
    (of_decide_eq_true (by kernel_rfl)) (by unfold Func.isWrapper; first | (rw [if_pos (by decide +kernel)]; kernel_rfl) | (rw [if_neg (by decide +kernel)]; exact ⟨rfl, rfl⟩))
    (fun os started H enc _ => lifted os started H enc)
#print axioms proved

end Go.Proofs.Ytpbhflnhblblfaa.kno
