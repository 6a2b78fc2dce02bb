/-
  Layer 10: what bytes are read as by the document, where they are a segment's. Conditions: a text has at most 2^47 bytes.
-/
import Derived.Test.YtbjoibgkhooljaaSgH
namespace Go.Proofs.Ytbjoibgkhooljaa
open Go.RowKit Go.Sort
set_option linter.unusedVariables false

set_option maxRecDepth 100000 in
set_option maxHeartbeats 8000000 in
theorem rRead10_yes (w : World) (s : ByteArray) (i j : Ip4) (h0 : 20 ≤ s.size) (hu : 20 ≤ unS s.data.toList) (hv : unS s.data.toList ≤ s.size) (hl5 : s.size ≤ 566) (hK : sumS i j s.data.toList = 0) (MM : Nat) (hO : optS s = some MM) (Q : Sg) (hQ : Q = { srQ s with ms := 0 }) (syn : Bool) (hsyn : decide (Q.fl / 2 % 2 = 1) = syn) (Q2 : Sg) (hQ2 : Q2 = if syn = true then { Q with ms := (MM : Int) } else Q) :
    Calls Try.prog 26 #[.string s, .agg (ipC i), .agg (ipC j)] w fun e w' => e = .returned (.tuple #[.agg (sgC Q2), .int .i64 0]) ∧ Below w.heap.size w w' := by
  have hs : s.size ≤ 140737488355328 := by omega
  have h1 : decide ((s.size : Int) < 20) = false := decide_eq_false (by omega)
  have g1 : ¬ (s.size : Int) < 20 := by omega
  have i12 : 12 < s.size := by omega
  obtain ⟨X, hX⟩ : ∃ X, X = bt s.data.toList 12 := ⟨_, rfl⟩
  have hl := bt_lt s.data.toList 12
  rw [← hX] at hl
  have HX12 : (s[12]'i12).toNat = X := by rw [hX]; exact bt_at s 12 i12
  obtain ⟨Y, hY⟩ : ∃ Y, Y = X / 16 := ⟨_, rfl⟩
  have hU2 : unS s.data.toList = 4 * Y := by rw [unS, ← hX, ← hY]
  obtain ⟨U, hU⟩ : ∃ U, U = unS s.data.toList := ⟨_, rfl⟩
  have u0 : IntKind.i64.wrap (X : Int) = (X : Int) := IntWalk.i64_in _ (by omega)
  have u1 : (X : Int) / 16 = (Y : Int) := by omega
  have u2 : IntKind.i64.wrap (Y : Int) = (Y : Int) := IntWalk.i64_in _ (by omega)
  have u3 : IntKind.i64.wrap (4 * (Y : Int)) = (U : Int) := by rw [IntWalk.i64_in _ (by omega)]; omega
  have h2 : decide ((U : Int) < 20) = false := decide_eq_false (by omega)
  have g2 : ¬ (U : Int) < 20 := by omega
  have h3 : decide ((s.size : Int) < (U : Int)) = false := decide_eq_false (by omega)
  have g3 : ¬ (s.size : Int) < (U : Int) := by omega
  have h4 : decide ((566 : Int) < (s.size : Int)) = false := decide_eq_false (by omega)
  have g4 : ¬ (566 : Int) < (s.size : Int) := by omega
  have kS := Lib.hid (fun w => rsum10_str w s i j (by omega) 0 hK.symm)
  have hu60 : U ≤ 60 := by rw [hU]; exact unS_le _
  obtain ⟨R, hR⟩ : ∃ R : Option Nat, R = some MM := ⟨_, rfl⟩
  have HR : Hid (optR 60 0 ((s.data.toList.take U).drop 20) = R) := Lib.hid (by rw [hU, hR]; exact hO)
  have HRN := Lib.hid hR
  have HUB : Hid (20 ≤ U ∧ U - 20 ≤ 60) := Lib.hid ⟨by omega, by omega⟩
  have HV : Hid (U ≤ s.size) := Lib.hid (by omega)
  have HLEN : Hid (∀ P, ((s.data.toList.take U).drop P).length = U - P) := Lib.hid (fun P => by rw [List.length_drop, List.length_take, list_size]; omega)
  have HBT : Hid (∀ P c, P + c < U → bt ((s.data.toList.take U).drop P) c = bt s.data.toList (P + c)) := Lib.hid (fun P c h => by
    unfold bt
    rw [List.getD_eq_getElem?_getD, List.getD_eq_getElem?_getD, List.getElem?_drop, List.getElem?_take, if_pos h])
  obtain ⟨XA, hXA⟩ : ∃ X, X = wd s.data.toList 0 := ⟨_, rfl⟩
  obtain ⟨XB, hXB⟩ : ∃ X, X = wd s.data.toList 2 := ⟨_, rfl⟩
  obtain ⟨XE, hXE⟩ : ∃ X, X = wd s.data.toList 14 := ⟨_, rfl⟩
  have lA := wd_lt s.data.toList 0
  have lB := wd_lt s.data.toList 2
  have lE := wd_lt s.data.toList 14
  rw [← hXA] at lA
  rw [← hXB] at lB
  rw [← hXE] at lE
  have kA := Lib.hid (fun w => rnumber10 w s 0 2 0 2 rfl rfl hs (by omega) (by decide) XA (by rw [hXA, numB_two]))
  have kB := Lib.hid (fun w => rnumber10 w s 2 2 2 2 rfl rfl hs (by omega) (by decide) XB (by rw [hXB, numB_two]))
  have kC := Lib.hid (fun w => rnumber10 w s 4 4 4 4 rfl rfl hs (by omega) (by decide) _ (numB_four s.data.toList 4).symm)
  have kD := Lib.hid (fun w => rnumber10 w s 8 4 8 4 rfl rfl hs (by omega) (by decide) _ (numB_four s.data.toList 8).symm)
  have kE := Lib.hid (fun w => rnumber10 w s 14 2 14 2 rfl rfl hs (by omega) (by decide) XE (by rw [hXE, numB_two]))
  rw [show ((rf s.data.toList 4 : Nat) : Int) = Q.sq by rw [hQ]; rfl] at kC
  rw [show ((rf s.data.toList 8 : Nat) : Int) = Q.ak by rw [hQ]; rfl] at kD
  have VA : Hid (IntKind.i64.wrap (XA : Int) = Q.fr) := Lib.hid (by rw [IntWalk.i64_in _ (by omega), hQ, hXA]; rfl)
  have VB : Hid (IntKind.i64.wrap (XB : Int) = Q.dt) := Lib.hid (by rw [IntWalk.i64_in _ (by omega), hQ, hXB]; rfl)
  have VE : Hid (IntKind.i64.wrap (XE : Int) = Q.wi) := Lib.hid (by rw [IntWalk.i64_in _ (by omega), hQ, hXE]; rfl)
  obtain ⟨X13, hX13⟩ : ∃ X, X = bt s.data.toList 13 := ⟨_, rfl⟩
  have hxlt := bt_lt s.data.toList 13
  rw [← hX13] at hxlt
  have i13 : 13 < s.size := by omega
  have HX : Hid ((s[13]'i13).toNat = X13) := Lib.hid (by rw [hX13]; exact bt_at s 13 i13)
  have G13 : Hid (13 < s.size) := Lib.hid i13
  have WX : Hid (IntKind.i64.wrap (X13 : Int) = (X13 : Int)) := Lib.hid (IntWalk.i64_in _ (by omega))
  have AX : Hid (Int.tmod (X13 : Int) 32 = Q.fl) := Lib.hid (by rw [Int.tmod_eq_emod_of_nonneg (by omega), hQ, hX13]; show _ = ((bt s.data.toList 13 % 32 : Nat) : Int); omega)
  have GA : Hid (¬ (s.size : Int) < (U : Int)) := Lib.hid g3
  have GB : Hid (U ≤ s.size) := Lib.hid (by omega)
  have HD : Hid (s.extract U s.size = Q.da) := Lib.hid (by rw [hQ, hU]; rfl)
  have HQC : Hid (sgC Q = #[.int .i64 Q.fr, .int .i64 Q.dt, .int .u32 Q.sq, .int .u32 Q.ak, .int .i64 Q.fl, .int .i64 Q.wi, .int .i64 0, .string Q.da]) := Lib.hid (by rw [hQ]; rfl)
  have hfl0 : 0 ≤ Q.fl ∧ Q.fl ≤ 65535 := by rw [hQ]; show 0 ≤ ((bt s.data.toList 13 % 32 : Nat) : Int) ∧ ((bt s.data.toList 13 % 32 : Nat) : Int) ≤ 65535; omega
  have kh := Lib.hid (fun w => has10 w Q hfl0.1 hfl0.2 syn hsyn.symm)
  have HQ2 := Lib.hid hQ2
  clear hK hO hR hU hQ2 hXA hXB hXE lA lB lE hX13 hxlt hfl0 hsyn hQ
  clear hU2 hY hX hl
  go_enter Try.func26, Try.ntmps26
  go_upto_region 2 with fail
  obtain ⟨m, k, n, z, hm, hk, hn, hz0, hge, fa, bl⟩ := rrbx_new w i j
  have RM := Lib.hid fa
  have BL := Lib.hid bl
  have HN := Lib.hid hge
  clear fa bl hge
  generalize World.alloc _ _ = W1 at RM BL ⊢
  try rw [hz0]
  try rw [hn]
  try rw [hk]
  try rw [hm]
  clear hn hm hk hz0
  have ha := RM.out.ia
  have hc := RM.out.ja
  go_wp2_with (first | (refine ipb_ld (by rfl) (.tmp 4) rfl m rfl _ ha ?_) | (refine ipb_ld (by rfl) (.tmp 5) rfl k rfl _ hc ?_))
  refine (kS.out _).mono ?_
  rintro e w2 ⟨rfl, b2⟩
  have RM2 := Lib.hid (RM.out.grow b2)
  have BL2 := bstep BL b2
  clear b2 RM BL ha hc
  go_upto_block 0 with fail
  go_cut [10] from 41 to 100 (fun o wx => o = .int .i64 (MM : Int) ∧ Hid (SgRoom wx n) ∧ Hid (Below w.heap.size w wx))
  case first =>
    go_wp2_with fail
    clear HX12 i12 u0 u1 u2 u3 h1 h2 h3 h4 g1 g2 g3 g4
    go_loopw [10, 11] (fun o a wr => ∃ (k' M at_ : Nat), o = .int .i64 (M : Int) ∧ a = .int .i64 (at_ : Int) ∧ 20 ≤ at_ ∧ at_ ≤ U ∧ U - at_ ≤ k' ∧ k' ≤ 60 ∧ M < 65536 ∧ Hid (optR k' M ((s.data.toList.take U).drop at_) = R) ∧ Hid (RrBx wr m k n z i j) ∧ Hid (Below w.heap.size w wr)) (fun _ a _ => U - (intOf a).toNat)
    case atStart => exact ⟨60, 0, 20, rfl, rfl, Nat.le_refl _, HUB.out.1, HUB.out.2, Nat.le_refl _, by decide, HR, RM2, BL2⟩
    case round =>
      obtain ⟨k', M, P, rfl, rfl, hP, hPU, hk, hk60, hM, HE, RM, BL⟩ := hrel
      have hus := HUB.out
      have hgv := HV.out
      have hln := HLEN.out P
      have hbt := HBT.out P
      clear RM2 BL2 HR
      by_cases hPU2 : P = U
      · have hRM : R = some M := by rw [← HE.out]; exact optR_zero (.inl (by omega)) (by omega)
        rw [hRM] at HRN
        clear hRM
        have hd : decide ((P : Int) < (U : Int)) = false := decide_eq_false (by omega)
        have hd2 : ¬ (P : Int) < (U : Int) := by omega
        clear HE hbt
        go_wp2_with fail
        go_meet
        case rel => exact ⟨by have e := HRN.out; simp only [Option.some.injEq] at e; rw [e], Lib.hid RM.out.rm, BL⟩
      have hlt : P < U := by omega
      have iP : P < s.size := by omega
      obtain ⟨X, hX⟩ : ∃ X, X = bt s.data.toList P := ⟨_, rfl⟩
      have HX : (s[P]'iP).toNat = X := by rw [hX]; exact bt_at s P iP
      have hxl := bt_lt s.data.toList P
      rw [← hX] at hxl
      have hb0 := hbt 0 (by omega)
      rw [Nat.add_zero, ← hX] at hb0
      have hd : decide ((P : Int) < (U : Int)) = true := decide_eq_true (by omega)
      by_cases h0 : X = 0
      · have hRM : R = some M := by rw [← HE.out]; exact optR_zero (.inr (by rw [hb0]; exact h0)) (by omega)
        rw [hRM] at HRN
        clear hRM
        have hb : ((X : Int) != 0) = false := by simp [h0]
        clear HE hbt hX hxl hb0 h0
        go_wp2_with fail
        go_meet
        case rel => exact ⟨by have e := HRN.out; simp only [Option.some.injEq] at e; rw [e], Lib.hid RM.out.rm, BL⟩
      have hb : ((X : Int) != 0) = true := by simp; omega
      have hno : ¬ (((s.data.toList.take U).drop P).length = 0 ∨ bt ((s.data.toList.take U).drop P) 0 = 0) := by rw [hb0]; omega
      obtain ⟨Z, hZ⟩ : ∃ Z, Z = szO ((s.data.toList.take U).drop P) := ⟨_, rfl⟩
      obtain ⟨Y2, hY2⟩ : ∃ X, X = bt s.data.toList (P + 1) := ⟨_, rfl⟩
      have hyl := bt_lt s.data.toList (P + 1)
      have hz : Z = if X = 1 then 1 else if U - P ≤ 1 then 0 else if Y2 < 2 ∨ U - P < Y2 ∨ (X = 2 ∧ Y2 ≠ 4) then 0 else Y2 := by
        rw [hZ, szO, hb0, hln]
        by_cases hq : U - P ≤ 1
        · rw [if_pos hq, if_pos hq]
        · rw [hbt 1 (by omega), hY2]
      rw [← hY2] at hyl
      have HZZ := Lib.hid hz
      have hdrop : ((s.data.toList.take U).drop P).drop Z = (s.data.toList.take U).drop (P + Z) := by rw [List.drop_drop]
      have hstep : Z ≠ 0 → ∃ k2, k' = k2 + 1 ∧ optR k2 (if X = 2 then wd s.data.toList (P + 2) else M) ((s.data.toList.take U).drop (P + Z)) = R ∧ P + Z ≤ U := by
        intro hz0
        obtain ⟨k2, rfl, hgo⟩ := optR_go (m := M) hno (by rw [hln]; exact hk) (by rw [← hZ]; exact hz0)
        refine ⟨k2, rfl, ?_, ?_⟩
        · rw [← HE.out, hgo, ← hZ, hdrop, hb0]
          by_cases hq : X = 2
          · have h4 := szO_two (l := (s.data.toList.take U).drop P) (by rw [hb0]; exact hq) (by rw [← hZ]; exact hz0)
            rw [hln] at h4
            rw [if_pos hq, if_pos hq, wd, wd, hbt 2 (by omega), hbt 3 (by omega)]
          · rw [if_neg hq, if_neg hq]
        · have := szO_le ((s.data.toList.take U).drop P) (by rw [hln]; omega)
          rw [← hZ, hln] at this
          omega
      have hbad : Z = 0 → R = none := fun h => by rw [← HE.out]; exact optR_bad hno (by rw [hln]; exact hk) (by rw [← hZ]; exact h)
      have HY2e := Lib.hid hY2
      have HSTEP := Lib.hid hstep
      have HBAD := Lib.hid hbad
      clear hstep hbad hz hno hb0 hZ hdrop hbt HE hX hY2
      by_cases h1 : X = 1
      · have hz1 : Z = 1 := by rw [HZZ.out, if_pos h1]
        obtain ⟨k2, hk2, hgo, hle⟩ := HSTEP.out (by omega)
        rw [if_neg (show ¬ X = 2 by omega), hz1] at hgo
        have HG := Lib.hid hgo
        have hb1 : ((X : Int) == 1) = true := by simp [h1]
        have w6 : IntKind.i64.wrap ((P : Int) + 1) = (P : Int) + 1 := IntWalk.i64_in _ (by omega)
        rw [hz1] at hle
        clear hxl h0 HSTEP HBAD hgo h1 hz1 hln
        go_wp2_with fail
        go_roundw
        case rel => exact ⟨k2, M, P + 1, rfl, by go_num, by omega, by omega, by omega, by omega, hM, HG, RM, BL⟩
        case measure => simp [intOf]; omega
      have hb1 : ((X : Int) == 1) = false := by simp; omega
      have w6 : IntKind.i64.wrap ((P : Int) + 1) = ((P + 1 : Nat) : Int) := by rw [IntWalk.i64_in _ (by omega)]; omega
      by_cases h2 : U - P ≤ 1
      · have hz1 : Z = 0 := by rw [HZZ.out, if_neg h1, if_pos h2]
        have hRM : R = none := HBAD.out hz1
        have hd3 : decide ((U : Int) ≤ ((P + 1 : Nat) : Int)) = true := decide_eq_true (by omega)
        clear hxl h0 HSTEP HBAD h1 hz1 hln
        exact absurd (HRN.out.symm.trans hRM) (by simp)
      have hd3 : decide ((U : Int) ≤ ((P + 1 : Nat) : Int)) = false := decide_eq_false (by omega)
      have i1 : P + 1 < s.size := by omega
      have HY2 : (s[P + 1]'i1).toNat = Y2 := by rw [HY2e.out]; exact bt_at s (P + 1) i1
      have hz3 : Z = if Y2 < 2 ∨ U - P < Y2 ∨ (X = 2 ∧ Y2 ≠ 4) then 0 else Y2 := by rw [HZZ.out, if_neg h1, if_neg h2]
      have HZ3 := Lib.hid hz3
      clear hz3
      by_cases h3 : Y2 < 2
      · have hz1 : Z = 0 := by rw [HZ3.out, if_pos (.inl h3)]
        have hRM : R = none := HBAD.out hz1
        have hd4 : decide ((Y2 : Int) < 2) = true := decide_eq_true (by omega)
        clear hxl h0 HSTEP HBAD h1 hz1 hln hyl
        exact absurd (HRN.out.symm.trans hRM) (by simp)
      have hd4 : decide ((Y2 : Int) < 2) = false := decide_eq_false (by omega)
      have w7 : IntKind.i64.wrap (Y2 : Int) = (Y2 : Int) := IntWalk.i64_in _ (by omega)
      have w8 : IntKind.i64.wrap ((P : Int) + (Y2 : Int)) = ((P + Y2 : Nat) : Int) := by rw [IntWalk.i64_in _ (by omega)]; omega
      by_cases h4 : U - P < Y2
      · have hz1 : Z = 0 := by rw [HZ3.out, if_pos (.inr (.inl h4))]
        have hRM : R = none := HBAD.out hz1
        have hd5 : decide ((U : Int) < ((P + Y2 : Nat) : Int)) = true := decide_eq_true (by omega)
        clear hxl h0 HSTEP HBAD h1 hz1 hln hyl
        exact absurd (HRN.out.symm.trans hRM) (by simp)
      have hd5 : decide ((U : Int) < ((P + Y2 : Nat) : Int)) = false := decide_eq_false (by omega)
      by_cases h5 : X = 2
      · have hb5 : ((X : Int) == 2) = true := by simp [h5]
        by_cases h6 : Y2 = 4
        · have hz1 : Z = 4 := by rw [HZ3.out, if_neg (by omega), h6]
          obtain ⟨k2, hk2, hgo, hle⟩ := HSTEP.out (by omega)
          rw [if_pos h5, hz1] at hgo
          rw [hz1] at hle
          have hb6 : ((Y2 : Int) != 4) = false := by simp [h6]
          have hwl := wd_lt s.data.toList (P + 2)
          obtain ⟨V, hV⟩ : ∃ V, V = wd s.data.toList (P + 2) := ⟨_, rfl⟩
          rw [← hV] at hgo hwl
          have HG := Lib.hid hgo
          have kW := Lib.hid (fun w => rnumber10 w s ((P + 2 : Nat) : Int) 2 (P + 2) 2 rfl rfl (by omega) (by omega) (by decide) V (by rw [hV, numB_two]))
          have w9 : IntKind.i64.wrap ((P : Int) + 2) = ((P + 2 : Nat) : Int) := by rw [IntWalk.i64_in _ (by omega)]; omega
          have w10 : IntKind.i64.wrap (V : Int) = (V : Int) := IntWalk.i64_in _ (by omega)
          clear hxl h0 HSTEP HBAD h1 hz1 hln hyl hgo hV h2 h3 h4 h5
          go_wp2_with fail
          refine (kW.out _).mono ?_
          rintro e w3 ⟨rfl, b3⟩
          have RM3 := Lib.hid (RM.out.grow b3)
          have BL3 := bstep BL b3
          go_wp2_with fail
          go_roundw
          case rel => exact ⟨k2, V, P + 4, rfl, by go_num, by omega, by omega, by omega, by omega, hwl, HG, RM3, BL3⟩
          case measure => simp [intOf]; omega
        · have hz1 : Z = 0 := by rw [HZ3.out, if_pos (.inr (.inr ⟨h5, h6⟩))]
          have hRM : R = none := HBAD.out hz1
          have hb6 : ((Y2 : Int) != 4) = true := by simp; omega
          clear hxl h0 HSTEP HBAD h1 hz1 hln hyl
          exact absurd (HRN.out.symm.trans hRM) (by simp)
      · have hb5 : ((X : Int) == 2) = false := by simp; omega
        have hz1 : Z = Y2 := by rw [HZ3.out, if_neg (by omega)]
        obtain ⟨k2, hk2, hgo, hle⟩ := HSTEP.out (by omega)
        rw [if_neg h5, hz1] at hgo
        rw [hz1] at hle
        have HG := Lib.hid hgo
        have HM4 : Hid (20 ≤ P + Y2 ∧ U - (P + Y2) ≤ k2 ∧ P < P + Y2) := Lib.hid ⟨by omega, by omega, by omega⟩
        clear hxl h0 HSTEP HBAD h1 hz1 hln hyl hgo
        go_wp2_with fail
        go_roundw
        case rel => exact ⟨k2, M, P + Y2, rfl, rfl, HM4.out.1, hle, HM4.out.2.1, by omega, hM, HG, RM, BL⟩
        case measure => have := HM4.out; simp [intOf]; omega
  case rest =>
    obtain ⟨rfl, RM3, BL3⟩ := hcut
    clear HR HRN HUB HV HLEN HBT RM2 BL2 kS
    go_upto_region 25 with fail
    clear HX12 g1 g2 g3 g4 h1 h2 h3 h4 hu60 i12 hl5 h0 hu hv u0 u1 u2 u3 hs
    go_cut [12] from 101 to 121 (fun p wx => ∃ x, p = .pointer (some ⟨x, 0, none⟩) ∧ n < x ∧ Hid (SgAt wx x Q) ∧ Hid (SgRoom wx n) ∧ Hid (Below w.heap.size w wx))
    case first =>
      refine wp_region_noPanic ?_
      refine region_heldE (S := fun w' => SgRoom w' n) (by kernel_rfl) (fun V d => RM3.out.kept (d.block _)) (fun V d hS => ?_)
      have BV0 := bstep BL3 d.below
      clear d BL3
      refine wpAnyH_take (i := 0) (oi := ⟨some 101, Op.move (Operand.tmp 0), _, _, _, none⟩) (v := (.string s)) rfl (by kernel_rfl) (by kernel_rfl) (by kernel_rfl) (fun _ _ _ h => h) (Or.inl ⟨by rfl, fun w' h' => ?_⟩) hS ?_
      · clear h'
        go_simp
      simp only [Act.put]
      refine wpAnyH_take (i := 3) (oi := ⟨some 104, Op.move (Operand.tmp 0), _, _, _, none⟩) (v := (.string s)) rfl (by kernel_rfl) (by kernel_rfl) (by kernel_rfl) (fun _ _ _ h => h) (Or.inl ⟨by rfl, fun w' h' => ?_⟩) hS ?_
      · clear h'
        go_simp
      simp only [Act.put]
      refine wpAnyH_take (i := 6) (oi := ⟨some 107, Op.move (Operand.tmp 0), _, _, _, none⟩) (v := (.string s)) rfl (by kernel_rfl) (by kernel_rfl) (by kernel_rfl) (fun _ _ _ h => h) (Or.inl ⟨by rfl, fun w' h' => ?_⟩) hS ?_
      · clear h'
        go_simp
      simp only [Act.put]
      refine wpAnyH_take (i := 8) (oi := ⟨some 109, Op.move (Operand.tmp 0), _, _, _, none⟩) (v := (.string s)) rfl (by kernel_rfl) (by kernel_rfl) (by kernel_rfl) (fun _ _ _ h => h) (Or.inl ⟨by rfl, fun w' h' => ?_⟩) hS ?_
      · clear h'
        go_simp
      simp only [Act.put]
      refine wpAnyH_take (i := 10) (oi := ⟨some 111, Op.move (Operand.tmp 0), _, _, _, none⟩) (v := (.string s)) rfl (by kernel_rfl) (by kernel_rfl) (by kernel_rfl) (fun _ _ _ h => h) (Or.inl ⟨by rfl, fun w' h' => ?_⟩) hS ?_
      · clear h'
        go_simp
      simp only [Act.put]
      refine wpAnyH_take (i := 11) (oi := ⟨some 112, Op.index 9 (Operand.tmp 111) (Operand.const (Value.int IntKind.i64 13)), _, _, _, none⟩) (v := (.int .u8 (X13 : Int))) rfl (by kernel_rfl) (by kernel_rfl) (by kernel_rfl) (fun _ _ _ h => h) (Or.inl ⟨by rfl, fun w' h' => ?_⟩) hS ?_
      · have c0 := HX.out
        clear h'
        go_simp
        intro hq
        have := G13.out
        omega
      simp only [Act.put]
      refine wpAnyH_take (i := 12) (oi := ⟨some 113, Op.convert 5 3 (Operand.tmp 112), _, _, _, none⟩) (v := (.int .i64 (X13 : Int))) rfl (by kernel_rfl) (by kernel_rfl) (by kernel_rfl) (fun _ _ _ h => h) (Or.inl ⟨by rfl, fun w' h' => ?_⟩) hS ?_
      · have c0 := WX.out
        clear h'
        go_simp
      simp only [Act.put]
      refine wpAnyH_take (i := 13) (oi := ⟨some 114, Op.binOp BinOp.rem 3 (Operand.tmp 113) (Operand.const (Value.int IntKind.i64 32)) 3, _, _, _, none⟩) (v := (.int .i64 Q.fl)) rfl (by kernel_rfl) (by kernel_rfl) (by kernel_rfl) (fun _ _ _ h => h) (Or.inl ⟨by rfl, fun w' h' => ?_⟩) hS ?_
      · have c0 := AX.out
        clear h'
        go_simp
      simp only [Act.put]
      refine wpAnyH_take (i := 14) (oi := ⟨some 115, Op.move (Operand.tmp 0), _, _, _, none⟩) (v := (.string s)) rfl (by kernel_rfl) (by kernel_rfl) (by kernel_rfl) (fun _ _ _ h => h) (Or.inl ⟨by rfl, fun w' h' => ?_⟩) hS ?_
      · clear h'
        go_simp
      simp only [Act.put]
      refine wpAnyH_take (i := 17) (oi := ⟨some 118, Op.move (Operand.tmp 0), _, _, _, none⟩) (v := (.string s)) rfl (by kernel_rfl) (by kernel_rfl) (by kernel_rfl) (fun _ _ _ h => h) (Or.inl ⟨by rfl, fun w' h' => ?_⟩) hS ?_
      · clear h'
        go_simp
      simp only [Act.put]
      refine wpAnyH_take (i := 18) (oi := ⟨some 119, Op.move (Operand.tmp 9), _, _, _, none⟩) (v := (.int .i64 (U : Int))) rfl (by kernel_rfl) (by kernel_rfl) (by kernel_rfl) (fun _ _ _ h => h) (Or.inl ⟨by rfl, fun w' h' => ?_⟩) hS ?_
      · clear h'
        go_simp
      simp only [Act.put]
      refine wpAnyH_take (i := 19) (oi := ⟨some 120, Op.slice 9 (Operand.tmp 118) (some (Operand.tmp 119)) none none, _, _, _, none⟩) (v := (.string Q.da)) rfl (by kernel_rfl) (by kernel_rfl) (by kernel_rfl) (fun _ _ _ h => h) (Or.inl ⟨by rfl, fun w' h' => ?_⟩) hS ?_
      · have c0 := GA.out
        have c1 := GB.out
        have c2 := HD.out
        clear h'
        go_simp
      simp only [Act.put]
      refine wpAnyH_ready (rs := [1, 21]) (by kernel_rfl) (by simp) ?_
      refine AllReadyH.cons rfl (fun K hK => ?_) (AllReadyH.cons rfl (fun K hK => ?_) AllReadyH.nil)
      · go_simp
        refine (kA.out _).mono ?_
        rintro e v1 ⟨rfl, b1⟩
        have S1 : SgRoom v1 n := hS.grow b1
        have BV1 := bstep BV0 b1
        clear b1
        go_simp
        refine hK.out _ _ S1 (fun _ => ?_)
        clear hK K
        refine wpAnyH_take (i := 2) (oi := ⟨some 103, Op.convert 45 3 (Operand.tmp 102), _, _, _, none⟩) (v := (.int .i64 Q.fr)) rfl (by kernel_rfl) (by kernel_rfl) (by kernel_rfl) (fun _ _ _ h => h) (Or.inl ⟨by rfl, fun w' h' => ?_⟩) S1 ?_
        · have c0 := VA.out
          clear h'
          go_simp
        simp only [Act.put]
        refine wpAnyH_ready (rs := [4, 21]) (by kernel_rfl) (by simp) ?_
        refine AllReadyH.cons rfl (fun K hK => ?_) (AllReadyH.cons rfl (fun K hK => ?_) AllReadyH.nil)
        · go_simp
          refine (kB.out _).mono ?_
          rintro e v2 ⟨rfl, b2⟩
          have S2 : SgRoom v2 n := S1.grow b2
          have BV2 := bstep BV1 b2
          clear b2
          go_simp
          refine hK.out _ _ S2 (fun _ => ?_)
          clear hK K
          refine wpAnyH_take (i := 5) (oi := ⟨some 106, Op.convert 45 3 (Operand.tmp 105), _, _, _, none⟩) (v := (.int .i64 Q.dt)) rfl (by kernel_rfl) (by kernel_rfl) (by kernel_rfl) (fun _ _ _ h => h) (Or.inl ⟨by rfl, fun w' h' => ?_⟩) S2 ?_
          · have c0 := VB.out
            clear h'
            go_simp
          simp only [Act.put]
          refine wpAnyH_ready (rs := [7, 21]) (by kernel_rfl) (by simp) ?_
          refine AllReadyH.cons rfl (fun K hK => ?_) (AllReadyH.cons rfl (fun K hK => ?_) AllReadyH.nil)
          · go_simp
            refine (kC.out _).mono ?_
            rintro e v3 ⟨rfl, b3⟩
            have S3 : SgRoom v3 n := S2.grow b3
            have BV3 := bstep BV2 b3
            clear b3
            go_simp
            refine hK.out _ _ S3 (fun _ => ?_)
            clear hK K
            refine wpAnyH_ready (rs := [9, 21]) (by kernel_rfl) (by simp) ?_
            refine AllReadyH.cons rfl (fun K hK => ?_) (AllReadyH.cons rfl (fun K hK => ?_) AllReadyH.nil)
            · go_simp
              refine (kD.out _).mono ?_
              rintro e v4 ⟨rfl, b4⟩
              have S4 : SgRoom v4 n := S3.grow b4
              have BV4 := bstep BV3 b4
              clear b4
              go_simp
              refine hK.out _ _ S4 (fun _ => ?_)
              clear hK K
              refine wpAnyH_ready (rs := [15, 21]) (by kernel_rfl) (by simp) ?_
              refine AllReadyH.cons rfl (fun K hK => ?_) (AllReadyH.cons rfl (fun K hK => ?_) AllReadyH.nil)
              · go_simp
                refine (kE.out _).mono ?_
                rintro e v5 ⟨rfl, b5⟩
                have S5 : SgRoom v5 n := S4.grow b5
                have BV5 := bstep BV4 b5
                clear b5
                go_simp
                refine hK.out _ _ S5 (fun _ => ?_)
                clear hK K
                refine wpAnyH_take (i := 16) (oi := ⟨some 117, Op.convert 45 3 (Operand.tmp 116), _, _, _, none⟩) (v := (.int .i64 Q.wi)) rfl (by kernel_rfl) (by kernel_rfl) (by kernel_rfl) (fun _ _ _ h => h) (Or.inl ⟨by rfl, fun w' h' => ?_⟩) S5 ?_
                · have c0 := VE.out
                  clear h'
                  go_simp
                simp only [Act.put]
                refine wpAnyH_take (i := 20) (oi := ⟨some 121, Op.build 47 #[(0, (Operand.tmp 103)), (1, (Operand.tmp 106)), (2, (Operand.tmp 108)), (3, (Operand.tmp 110)), (4, (Operand.tmp 114)), (5, (Operand.tmp 117)), (7, (Operand.tmp 120))], _, _, _, none⟩) (v := (.agg #[.int .i64 Q.fr, .int .i64 Q.dt, .int .u32 Q.sq, .int .u32 Q.ak, .int .i64 Q.fl, .int .i64 Q.wi, .int .i64 0, .string Q.da])) rfl (by kernel_rfl) (by kernel_rfl) (by kernel_rfl) (fun _ _ _ h => h) (Or.inl ⟨by rfl, fun w' h' => ?_⟩) S5 ?_
                · clear h'
                  go_simp
                simp only [Act.put]
                refine wpAnyH_ready (rs := [21]) (by kernel_rfl) (by simp) ?_
                refine AllReadyH.cons rfl (fun K hK => ?_) AllReadyH.nil
                obtain ⟨x6, hx6⟩ : ∃ x, x = v5.heap.size := ⟨_, rfl⟩
                have hl6 : n < x6 := by rw [hx6]; exact S5.lt
                have RN6 : SgRoom (v5.alloc (.cells #[.int .i64 0, .int .i64 0, .int .u32 0, .int .u32 0, .int .i64 0, .int .i64 0, .int .i64 0, .string ⟨#[]⟩] 47)) x6 := sgroom_new _ _ _ rfl hx6
                have S6 : SgRoom (v5.alloc (.cells #[.int .i64 0, .int .i64 0, .int .u32 0, .int .u32 0, .int .i64 0, .int .i64 0, .int .i64 0, .string ⟨#[]⟩] 47)) n := S5.kept (((Below.refl _ _).alloc (Nat.le_refl _) _).block _ S5.lt)
                have BV6 := bstep BV5 ((Below.refl v5.heap.size v5).alloc (Nat.le_refl _) (.cells #[.int .i64 0, .int .i64 0, .int .u32 0, .int .u32 0, .int .i64 0, .int .i64 0, .int .i64 0, .string ⟨#[]⟩] 47))
                go_simp
                rw [← hx6]
                generalize v5.alloc _ = v6 at RN6 S6 BV6 ⊢
                clear hx6
                refine hK.out _ _ S6 (fun _ => ?_)
                clear hK K
                refine wpAnyH_ready (rs := [22]) (by kernel_rfl) (by simp) ?_
                refine AllReadyH.cons rfl (fun K hK => ?_) AllReadyH.nil
                obtain ⟨hst, S9⟩ := RN6.put Q
                have S7 : SgRoom (v6.setRow x6 (sgC Q)) n := S6.kept (setRow_other _ _ _ _ (Nat.ne_of_lt hl6))
                have BV7 := Lib.hid (below_setRow BV6.out (Nat.le_trans HN.out (Nat.le_of_lt hl6)) (sgC Q))
                refine upon_store0 47 _ _ rfl rfl (.agg #[.int .i64 Q.fr, .int .i64 Q.dt, .int .u32 Q.sq, .int .u32 Q.ak, .int .i64 Q.fl, .int .i64 Q.wi, .int .i64 0, .string Q.da]) x6 rfl rfl (by rw [← HQC.out]; exact hst) ?_
                refine hK.out _ _ S7 (fun _ => ?_)
                clear hK K
                refine wpAnyH_done (by kernel_rfl) (NoPanic.normal ?_) _
                go_wp2_with fail
                go_meet
                case rel => exact ⟨x6, rfl, hl6, Lib.hid S9, Lib.hid S7, BV7⟩
              · obtain ⟨x5, hx5⟩ : ∃ x, x = v4.heap.size := ⟨_, rfl⟩
                have hl5 : n < x5 := by rw [hx5]; exact S4.lt
                have RN5 : SgRoom (v4.alloc (.cells #[.int .i64 0, .int .i64 0, .int .u32 0, .int .u32 0, .int .i64 0, .int .i64 0, .int .i64 0, .string ⟨#[]⟩] 47)) x5 := sgroom_new _ _ _ rfl hx5
                have S5 : SgRoom (v4.alloc (.cells #[.int .i64 0, .int .i64 0, .int .u32 0, .int .u32 0, .int .i64 0, .int .i64 0, .int .i64 0, .string ⟨#[]⟩] 47)) n := S4.kept (((Below.refl _ _).alloc (Nat.le_refl _) _).block _ S4.lt)
                have BV5 := bstep BV4 ((Below.refl v4.heap.size v4).alloc (Nat.le_refl _) (.cells #[.int .i64 0, .int .i64 0, .int .u32 0, .int .u32 0, .int .i64 0, .int .i64 0, .int .i64 0, .string ⟨#[]⟩] 47))
                go_simp
                rw [← hx5]
                generalize v4.alloc _ = v5 at RN5 S5 BV5 ⊢
                clear hx5
                refine hK.out _ _ S5 (fun _ => ?_)
                clear hK K
                refine wpAnyH_ready (rs := [15]) (by kernel_rfl) (by simp) ?_
                refine AllReadyH.cons rfl (fun K hK => ?_) AllReadyH.nil
                go_simp
                refine (kE.out _).mono ?_
                rintro e v6 ⟨rfl, b6⟩
                have S6 : SgRoom v6 n := S5.grow b6
                have BV6 := bstep BV5 b6
                have RN6 := RN5.grow b6
                clear b6
                go_simp
                refine hK.out _ _ S6 (fun _ => ?_)
                clear hK K
                refine wpAnyH_take (i := 16) (oi := ⟨some 117, Op.convert 45 3 (Operand.tmp 116), _, _, _, none⟩) (v := (.int .i64 Q.wi)) rfl (by kernel_rfl) (by kernel_rfl) (by kernel_rfl) (fun _ _ _ h => h) (Or.inl ⟨by rfl, fun w' h' => ?_⟩) S6 ?_
                · have c0 := VE.out
                  clear h'
                  go_simp
                simp only [Act.put]
                refine wpAnyH_take (i := 20) (oi := ⟨some 121, Op.build 47 #[(0, (Operand.tmp 103)), (1, (Operand.tmp 106)), (2, (Operand.tmp 108)), (3, (Operand.tmp 110)), (4, (Operand.tmp 114)), (5, (Operand.tmp 117)), (7, (Operand.tmp 120))], _, _, _, none⟩) (v := (.agg #[.int .i64 Q.fr, .int .i64 Q.dt, .int .u32 Q.sq, .int .u32 Q.ak, .int .i64 Q.fl, .int .i64 Q.wi, .int .i64 0, .string Q.da])) rfl (by kernel_rfl) (by kernel_rfl) (by kernel_rfl) (fun _ _ _ h => h) (Or.inl ⟨by rfl, fun w' h' => ?_⟩) S6 ?_
                · clear h'
                  go_simp
                simp only [Act.put]
                refine wpAnyH_ready (rs := [22]) (by kernel_rfl) (by simp) ?_
                refine AllReadyH.cons rfl (fun K hK => ?_) AllReadyH.nil
                simp only [List.setIfInBounds_toArray, List.set_cons_zero, List.set_cons_succ]
                obtain ⟨hst, S9⟩ := RN6.put Q
                have S7 : SgRoom (v6.setRow x5 (sgC Q)) n := S6.kept (setRow_other _ _ _ _ (Nat.ne_of_lt hl5))
                have BV7 := Lib.hid (below_setRow BV6.out (Nat.le_trans HN.out (Nat.le_of_lt hl5)) (sgC Q))
                refine upon_store0 47 _ _ rfl rfl (.agg #[.int .i64 Q.fr, .int .i64 Q.dt, .int .u32 Q.sq, .int .u32 Q.ak, .int .i64 Q.fl, .int .i64 Q.wi, .int .i64 0, .string Q.da]) x5 rfl rfl (by rw [← HQC.out]; exact hst) ?_
                refine hK.out _ _ S7 (fun _ => ?_)
                clear hK K
                refine wpAnyH_done (by kernel_rfl) (NoPanic.normal ?_) _
                go_wp2_with fail
                go_meet
                case rel => exact ⟨x5, rfl, hl5, Lib.hid S9, Lib.hid S7, BV7⟩
            · obtain ⟨x4, hx4⟩ : ∃ x, x = v3.heap.size := ⟨_, rfl⟩
              have hl4 : n < x4 := by rw [hx4]; exact S3.lt
              have RN4 : SgRoom (v3.alloc (.cells #[.int .i64 0, .int .i64 0, .int .u32 0, .int .u32 0, .int .i64 0, .int .i64 0, .int .i64 0, .string ⟨#[]⟩] 47)) x4 := sgroom_new _ _ _ rfl hx4
              have S4 : SgRoom (v3.alloc (.cells #[.int .i64 0, .int .i64 0, .int .u32 0, .int .u32 0, .int .i64 0, .int .i64 0, .int .i64 0, .string ⟨#[]⟩] 47)) n := S3.kept (((Below.refl _ _).alloc (Nat.le_refl _) _).block _ S3.lt)
              have BV4 := bstep BV3 ((Below.refl v3.heap.size v3).alloc (Nat.le_refl _) (.cells #[.int .i64 0, .int .i64 0, .int .u32 0, .int .u32 0, .int .i64 0, .int .i64 0, .int .i64 0, .string ⟨#[]⟩] 47))
              go_simp
              rw [← hx4]
              generalize v3.alloc _ = v4 at RN4 S4 BV4 ⊢
              clear hx4
              refine hK.out _ _ S4 (fun _ => ?_)
              clear hK K
              refine wpAnyH_ready (rs := [9]) (by kernel_rfl) (by simp) ?_
              refine AllReadyH.cons rfl (fun K hK => ?_) AllReadyH.nil
              go_simp
              refine (kD.out _).mono ?_
              rintro e v5 ⟨rfl, b5⟩
              have S5 : SgRoom v5 n := S4.grow b5
              have BV5 := bstep BV4 b5
              have RN5 := RN4.grow b5
              clear b5
              go_simp
              refine hK.out _ _ S5 (fun _ => ?_)
              clear hK K
              refine wpAnyH_ready (rs := [15]) (by kernel_rfl) (by simp) ?_
              refine AllReadyH.cons rfl (fun K hK => ?_) AllReadyH.nil
              go_simp
              refine (kE.out _).mono ?_
              rintro e v6 ⟨rfl, b6⟩
              have S6 : SgRoom v6 n := S5.grow b6
              have BV6 := bstep BV5 b6
              have RN6 := RN5.grow b6
              clear b6
              go_simp
              refine hK.out _ _ S6 (fun _ => ?_)
              clear hK K
              refine wpAnyH_take (i := 16) (oi := ⟨some 117, Op.convert 45 3 (Operand.tmp 116), _, _, _, none⟩) (v := (.int .i64 Q.wi)) rfl (by kernel_rfl) (by kernel_rfl) (by kernel_rfl) (fun _ _ _ h => h) (Or.inl ⟨by rfl, fun w' h' => ?_⟩) S6 ?_
              · have c0 := VE.out
                clear h'
                go_simp
              simp only [Act.put]
              refine wpAnyH_take (i := 20) (oi := ⟨some 121, Op.build 47 #[(0, (Operand.tmp 103)), (1, (Operand.tmp 106)), (2, (Operand.tmp 108)), (3, (Operand.tmp 110)), (4, (Operand.tmp 114)), (5, (Operand.tmp 117)), (7, (Operand.tmp 120))], _, _, _, none⟩) (v := (.agg #[.int .i64 Q.fr, .int .i64 Q.dt, .int .u32 Q.sq, .int .u32 Q.ak, .int .i64 Q.fl, .int .i64 Q.wi, .int .i64 0, .string Q.da])) rfl (by kernel_rfl) (by kernel_rfl) (by kernel_rfl) (fun _ _ _ h => h) (Or.inl ⟨by rfl, fun w' h' => ?_⟩) S6 ?_
              · clear h'
                go_simp
              simp only [Act.put]
              refine wpAnyH_ready (rs := [22]) (by kernel_rfl) (by simp) ?_
              refine AllReadyH.cons rfl (fun K hK => ?_) AllReadyH.nil
              simp only [List.setIfInBounds_toArray, List.set_cons_zero, List.set_cons_succ]
              obtain ⟨hst, S9⟩ := RN6.put Q
              have S7 : SgRoom (v6.setRow x4 (sgC Q)) n := S6.kept (setRow_other _ _ _ _ (Nat.ne_of_lt hl4))
              have BV7 := Lib.hid (below_setRow BV6.out (Nat.le_trans HN.out (Nat.le_of_lt hl4)) (sgC Q))
              refine upon_store0 47 _ _ rfl rfl (.agg #[.int .i64 Q.fr, .int .i64 Q.dt, .int .u32 Q.sq, .int .u32 Q.ak, .int .i64 Q.fl, .int .i64 Q.wi, .int .i64 0, .string Q.da]) x4 rfl rfl (by rw [← HQC.out]; exact hst) ?_
              refine hK.out _ _ S7 (fun _ => ?_)
              clear hK K
              refine wpAnyH_done (by kernel_rfl) (NoPanic.normal ?_) _
              go_wp2_with fail
              go_meet
              case rel => exact ⟨x4, rfl, hl4, Lib.hid S9, Lib.hid S7, BV7⟩
          · obtain ⟨x3, hx3⟩ : ∃ x, x = v2.heap.size := ⟨_, rfl⟩
            have hl3 : n < x3 := by rw [hx3]; exact S2.lt
            have RN3 : SgRoom (v2.alloc (.cells #[.int .i64 0, .int .i64 0, .int .u32 0, .int .u32 0, .int .i64 0, .int .i64 0, .int .i64 0, .string ⟨#[]⟩] 47)) x3 := sgroom_new _ _ _ rfl hx3
            have S3 : SgRoom (v2.alloc (.cells #[.int .i64 0, .int .i64 0, .int .u32 0, .int .u32 0, .int .i64 0, .int .i64 0, .int .i64 0, .string ⟨#[]⟩] 47)) n := S2.kept (((Below.refl _ _).alloc (Nat.le_refl _) _).block _ S2.lt)
            have BV3 := bstep BV2 ((Below.refl v2.heap.size v2).alloc (Nat.le_refl _) (.cells #[.int .i64 0, .int .i64 0, .int .u32 0, .int .u32 0, .int .i64 0, .int .i64 0, .int .i64 0, .string ⟨#[]⟩] 47))
            go_simp
            rw [← hx3]
            generalize v2.alloc _ = v3 at RN3 S3 BV3 ⊢
            clear hx3
            refine hK.out _ _ S3 (fun _ => ?_)
            clear hK K
            refine wpAnyH_ready (rs := [7]) (by kernel_rfl) (by simp) ?_
            refine AllReadyH.cons rfl (fun K hK => ?_) AllReadyH.nil
            go_simp
            refine (kC.out _).mono ?_
            rintro e v4 ⟨rfl, b4⟩
            have S4 : SgRoom v4 n := S3.grow b4
            have BV4 := bstep BV3 b4
            have RN4 := RN3.grow b4
            clear b4
            go_simp
            refine hK.out _ _ S4 (fun _ => ?_)
            clear hK K
            refine wpAnyH_ready (rs := [9]) (by kernel_rfl) (by simp) ?_
            refine AllReadyH.cons rfl (fun K hK => ?_) AllReadyH.nil
            go_simp
            refine (kD.out _).mono ?_
            rintro e v5 ⟨rfl, b5⟩
            have S5 : SgRoom v5 n := S4.grow b5
            have BV5 := bstep BV4 b5
            have RN5 := RN4.grow b5
            clear b5
            go_simp
            refine hK.out _ _ S5 (fun _ => ?_)
            clear hK K
            refine wpAnyH_ready (rs := [15]) (by kernel_rfl) (by simp) ?_
            refine AllReadyH.cons rfl (fun K hK => ?_) AllReadyH.nil
            go_simp
            refine (kE.out _).mono ?_
            rintro e v6 ⟨rfl, b6⟩
            have S6 : SgRoom v6 n := S5.grow b6
            have BV6 := bstep BV5 b6
            have RN6 := RN5.grow b6
            clear b6
            go_simp
            refine hK.out _ _ S6 (fun _ => ?_)
            clear hK K
            refine wpAnyH_take (i := 16) (oi := ⟨some 117, Op.convert 45 3 (Operand.tmp 116), _, _, _, none⟩) (v := (.int .i64 Q.wi)) rfl (by kernel_rfl) (by kernel_rfl) (by kernel_rfl) (fun _ _ _ h => h) (Or.inl ⟨by rfl, fun w' h' => ?_⟩) S6 ?_
            · have c0 := VE.out
              clear h'
              go_simp
            simp only [Act.put]
            refine wpAnyH_take (i := 20) (oi := ⟨some 121, Op.build 47 #[(0, (Operand.tmp 103)), (1, (Operand.tmp 106)), (2, (Operand.tmp 108)), (3, (Operand.tmp 110)), (4, (Operand.tmp 114)), (5, (Operand.tmp 117)), (7, (Operand.tmp 120))], _, _, _, none⟩) (v := (.agg #[.int .i64 Q.fr, .int .i64 Q.dt, .int .u32 Q.sq, .int .u32 Q.ak, .int .i64 Q.fl, .int .i64 Q.wi, .int .i64 0, .string Q.da])) rfl (by kernel_rfl) (by kernel_rfl) (by kernel_rfl) (fun _ _ _ h => h) (Or.inl ⟨by rfl, fun w' h' => ?_⟩) S6 ?_
            · clear h'
              go_simp
            simp only [Act.put]
            refine wpAnyH_ready (rs := [22]) (by kernel_rfl) (by simp) ?_
            refine AllReadyH.cons rfl (fun K hK => ?_) AllReadyH.nil
            simp only [List.setIfInBounds_toArray, List.set_cons_zero, List.set_cons_succ]
            obtain ⟨hst, S9⟩ := RN6.put Q
            have S7 : SgRoom (v6.setRow x3 (sgC Q)) n := S6.kept (setRow_other _ _ _ _ (Nat.ne_of_lt hl3))
            have BV7 := Lib.hid (below_setRow BV6.out (Nat.le_trans HN.out (Nat.le_of_lt hl3)) (sgC Q))
            refine upon_store0 47 _ _ rfl rfl (.agg #[.int .i64 Q.fr, .int .i64 Q.dt, .int .u32 Q.sq, .int .u32 Q.ak, .int .i64 Q.fl, .int .i64 Q.wi, .int .i64 0, .string Q.da]) x3 rfl rfl (by rw [← HQC.out]; exact hst) ?_
            refine hK.out _ _ S7 (fun _ => ?_)
            clear hK K
            refine wpAnyH_done (by kernel_rfl) (NoPanic.normal ?_) _
            go_wp2_with fail
            go_meet
            case rel => exact ⟨x3, rfl, hl3, Lib.hid S9, Lib.hid S7, BV7⟩
        · obtain ⟨x2, hx2⟩ : ∃ x, x = v1.heap.size := ⟨_, rfl⟩
          have hl2 : n < x2 := by rw [hx2]; exact S1.lt
          have RN2 : SgRoom (v1.alloc (.cells #[.int .i64 0, .int .i64 0, .int .u32 0, .int .u32 0, .int .i64 0, .int .i64 0, .int .i64 0, .string ⟨#[]⟩] 47)) x2 := sgroom_new _ _ _ rfl hx2
          have S2 : SgRoom (v1.alloc (.cells #[.int .i64 0, .int .i64 0, .int .u32 0, .int .u32 0, .int .i64 0, .int .i64 0, .int .i64 0, .string ⟨#[]⟩] 47)) n := S1.kept (((Below.refl _ _).alloc (Nat.le_refl _) _).block _ S1.lt)
          have BV2 := bstep BV1 ((Below.refl v1.heap.size v1).alloc (Nat.le_refl _) (.cells #[.int .i64 0, .int .i64 0, .int .u32 0, .int .u32 0, .int .i64 0, .int .i64 0, .int .i64 0, .string ⟨#[]⟩] 47))
          go_simp
          rw [← hx2]
          generalize v1.alloc _ = v2 at RN2 S2 BV2 ⊢
          clear hx2
          refine hK.out _ _ S2 (fun _ => ?_)
          clear hK K
          refine wpAnyH_ready (rs := [4]) (by kernel_rfl) (by simp) ?_
          refine AllReadyH.cons rfl (fun K hK => ?_) AllReadyH.nil
          go_simp
          refine (kB.out _).mono ?_
          rintro e v3 ⟨rfl, b3⟩
          have S3 : SgRoom v3 n := S2.grow b3
          have BV3 := bstep BV2 b3
          have RN3 := RN2.grow b3
          clear b3
          go_simp
          refine hK.out _ _ S3 (fun _ => ?_)
          clear hK K
          refine wpAnyH_take (i := 5) (oi := ⟨some 106, Op.convert 45 3 (Operand.tmp 105), _, _, _, none⟩) (v := (.int .i64 Q.dt)) rfl (by kernel_rfl) (by kernel_rfl) (by kernel_rfl) (fun _ _ _ h => h) (Or.inl ⟨by rfl, fun w' h' => ?_⟩) S3 ?_
          · have c0 := VB.out
            clear h'
            go_simp
          simp only [Act.put]
          refine wpAnyH_ready (rs := [7]) (by kernel_rfl) (by simp) ?_
          refine AllReadyH.cons rfl (fun K hK => ?_) AllReadyH.nil
          go_simp
          refine (kC.out _).mono ?_
          rintro e v4 ⟨rfl, b4⟩
          have S4 : SgRoom v4 n := S3.grow b4
          have BV4 := bstep BV3 b4
          have RN4 := RN3.grow b4
          clear b4
          go_simp
          refine hK.out _ _ S4 (fun _ => ?_)
          clear hK K
          refine wpAnyH_ready (rs := [9]) (by kernel_rfl) (by simp) ?_
          refine AllReadyH.cons rfl (fun K hK => ?_) AllReadyH.nil
          go_simp
          refine (kD.out _).mono ?_
          rintro e v5 ⟨rfl, b5⟩
          have S5 : SgRoom v5 n := S4.grow b5
          have BV5 := bstep BV4 b5
          have RN5 := RN4.grow b5
          clear b5
          go_simp
          refine hK.out _ _ S5 (fun _ => ?_)
          clear hK K
          refine wpAnyH_ready (rs := [15]) (by kernel_rfl) (by simp) ?_
          refine AllReadyH.cons rfl (fun K hK => ?_) AllReadyH.nil
          go_simp
          refine (kE.out _).mono ?_
          rintro e v6 ⟨rfl, b6⟩
          have S6 : SgRoom v6 n := S5.grow b6
          have BV6 := bstep BV5 b6
          have RN6 := RN5.grow b6
          clear b6
          go_simp
          refine hK.out _ _ S6 (fun _ => ?_)
          clear hK K
          refine wpAnyH_take (i := 16) (oi := ⟨some 117, Op.convert 45 3 (Operand.tmp 116), _, _, _, none⟩) (v := (.int .i64 Q.wi)) rfl (by kernel_rfl) (by kernel_rfl) (by kernel_rfl) (fun _ _ _ h => h) (Or.inl ⟨by rfl, fun w' h' => ?_⟩) S6 ?_
          · have c0 := VE.out
            clear h'
            go_simp
          simp only [Act.put]
          refine wpAnyH_take (i := 20) (oi := ⟨some 121, Op.build 47 #[(0, (Operand.tmp 103)), (1, (Operand.tmp 106)), (2, (Operand.tmp 108)), (3, (Operand.tmp 110)), (4, (Operand.tmp 114)), (5, (Operand.tmp 117)), (7, (Operand.tmp 120))], _, _, _, none⟩) (v := (.agg #[.int .i64 Q.fr, .int .i64 Q.dt, .int .u32 Q.sq, .int .u32 Q.ak, .int .i64 Q.fl, .int .i64 Q.wi, .int .i64 0, .string Q.da])) rfl (by kernel_rfl) (by kernel_rfl) (by kernel_rfl) (fun _ _ _ h => h) (Or.inl ⟨by rfl, fun w' h' => ?_⟩) S6 ?_
          · clear h'
            go_simp
          simp only [Act.put]
          refine wpAnyH_ready (rs := [22]) (by kernel_rfl) (by simp) ?_
          refine AllReadyH.cons rfl (fun K hK => ?_) AllReadyH.nil
          simp only [List.setIfInBounds_toArray, List.set_cons_zero, List.set_cons_succ]
          obtain ⟨hst, S9⟩ := RN6.put Q
          have S7 : SgRoom (v6.setRow x2 (sgC Q)) n := S6.kept (setRow_other _ _ _ _ (Nat.ne_of_lt hl2))
          have BV7 := Lib.hid (below_setRow BV6.out (Nat.le_trans HN.out (Nat.le_of_lt hl2)) (sgC Q))
          refine upon_store0 47 _ _ rfl rfl (.agg #[.int .i64 Q.fr, .int .i64 Q.dt, .int .u32 Q.sq, .int .u32 Q.ak, .int .i64 Q.fl, .int .i64 Q.wi, .int .i64 0, .string Q.da]) x2 rfl rfl (by rw [← HQC.out]; exact hst) ?_
          refine hK.out _ _ S7 (fun _ => ?_)
          clear hK K
          refine wpAnyH_done (by kernel_rfl) (NoPanic.normal ?_) _
          go_wp2_with fail
          go_meet
          case rel => exact ⟨x2, rfl, hl2, Lib.hid S9, Lib.hid S7, BV7⟩
      · obtain ⟨x1, hx1⟩ : ∃ x, x = V.heap.size := ⟨_, rfl⟩
        have hl1 : n < x1 := by rw [hx1]; exact hS.lt
        have RN1 : SgRoom (V.alloc (.cells #[.int .i64 0, .int .i64 0, .int .u32 0, .int .u32 0, .int .i64 0, .int .i64 0, .int .i64 0, .string ⟨#[]⟩] 47)) x1 := sgroom_new _ _ _ rfl hx1
        have S1 : SgRoom (V.alloc (.cells #[.int .i64 0, .int .i64 0, .int .u32 0, .int .u32 0, .int .i64 0, .int .i64 0, .int .i64 0, .string ⟨#[]⟩] 47)) n := hS.kept (((Below.refl _ _).alloc (Nat.le_refl _) _).block _ hS.lt)
        have BV1 := bstep BV0 ((Below.refl V.heap.size V).alloc (Nat.le_refl _) (.cells #[.int .i64 0, .int .i64 0, .int .u32 0, .int .u32 0, .int .i64 0, .int .i64 0, .int .i64 0, .string ⟨#[]⟩] 47))
        go_simp
        rw [← hx1]
        generalize V.alloc _ = v1 at RN1 S1 BV1 ⊢
        clear hx1
        refine hK.out _ _ S1 (fun _ => ?_)
        clear hK K
        refine wpAnyH_ready (rs := [1]) (by kernel_rfl) (by simp) ?_
        refine AllReadyH.cons rfl (fun K hK => ?_) AllReadyH.nil
        go_simp
        refine (kA.out _).mono ?_
        rintro e v2 ⟨rfl, b2⟩
        have S2 : SgRoom v2 n := S1.grow b2
        have BV2 := bstep BV1 b2
        have RN2 := RN1.grow b2
        clear b2
        go_simp
        refine hK.out _ _ S2 (fun _ => ?_)
        clear hK K
        refine wpAnyH_take (i := 2) (oi := ⟨some 103, Op.convert 45 3 (Operand.tmp 102), _, _, _, none⟩) (v := (.int .i64 Q.fr)) rfl (by kernel_rfl) (by kernel_rfl) (by kernel_rfl) (fun _ _ _ h => h) (Or.inl ⟨by rfl, fun w' h' => ?_⟩) S2 ?_
        · have c0 := VA.out
          clear h'
          go_simp
        simp only [Act.put]
        refine wpAnyH_ready (rs := [4]) (by kernel_rfl) (by simp) ?_
        refine AllReadyH.cons rfl (fun K hK => ?_) AllReadyH.nil
        go_simp
        refine (kB.out _).mono ?_
        rintro e v3 ⟨rfl, b3⟩
        have S3 : SgRoom v3 n := S2.grow b3
        have BV3 := bstep BV2 b3
        have RN3 := RN2.grow b3
        clear b3
        go_simp
        refine hK.out _ _ S3 (fun _ => ?_)
        clear hK K
        refine wpAnyH_take (i := 5) (oi := ⟨some 106, Op.convert 45 3 (Operand.tmp 105), _, _, _, none⟩) (v := (.int .i64 Q.dt)) rfl (by kernel_rfl) (by kernel_rfl) (by kernel_rfl) (fun _ _ _ h => h) (Or.inl ⟨by rfl, fun w' h' => ?_⟩) S3 ?_
        · have c0 := VB.out
          clear h'
          go_simp
        simp only [Act.put]
        refine wpAnyH_ready (rs := [7]) (by kernel_rfl) (by simp) ?_
        refine AllReadyH.cons rfl (fun K hK => ?_) AllReadyH.nil
        go_simp
        refine (kC.out _).mono ?_
        rintro e v4 ⟨rfl, b4⟩
        have S4 : SgRoom v4 n := S3.grow b4
        have BV4 := bstep BV3 b4
        have RN4 := RN3.grow b4
        clear b4
        go_simp
        refine hK.out _ _ S4 (fun _ => ?_)
        clear hK K
        refine wpAnyH_ready (rs := [9]) (by kernel_rfl) (by simp) ?_
        refine AllReadyH.cons rfl (fun K hK => ?_) AllReadyH.nil
        go_simp
        refine (kD.out _).mono ?_
        rintro e v5 ⟨rfl, b5⟩
        have S5 : SgRoom v5 n := S4.grow b5
        have BV5 := bstep BV4 b5
        have RN5 := RN4.grow b5
        clear b5
        go_simp
        refine hK.out _ _ S5 (fun _ => ?_)
        clear hK K
        refine wpAnyH_ready (rs := [15]) (by kernel_rfl) (by simp) ?_
        refine AllReadyH.cons rfl (fun K hK => ?_) AllReadyH.nil
        go_simp
        refine (kE.out _).mono ?_
        rintro e v6 ⟨rfl, b6⟩
        have S6 : SgRoom v6 n := S5.grow b6
        have BV6 := bstep BV5 b6
        have RN6 := RN5.grow b6
        clear b6
        go_simp
        refine hK.out _ _ S6 (fun _ => ?_)
        clear hK K
        refine wpAnyH_take (i := 16) (oi := ⟨some 117, Op.convert 45 3 (Operand.tmp 116), _, _, _, none⟩) (v := (.int .i64 Q.wi)) rfl (by kernel_rfl) (by kernel_rfl) (by kernel_rfl) (fun _ _ _ h => h) (Or.inl ⟨by rfl, fun w' h' => ?_⟩) S6 ?_
        · have c0 := VE.out
          clear h'
          go_simp
        simp only [Act.put]
        refine wpAnyH_take (i := 20) (oi := ⟨some 121, Op.build 47 #[(0, (Operand.tmp 103)), (1, (Operand.tmp 106)), (2, (Operand.tmp 108)), (3, (Operand.tmp 110)), (4, (Operand.tmp 114)), (5, (Operand.tmp 117)), (7, (Operand.tmp 120))], _, _, _, none⟩) (v := (.agg #[.int .i64 Q.fr, .int .i64 Q.dt, .int .u32 Q.sq, .int .u32 Q.ak, .int .i64 Q.fl, .int .i64 Q.wi, .int .i64 0, .string Q.da])) rfl (by kernel_rfl) (by kernel_rfl) (by kernel_rfl) (fun _ _ _ h => h) (Or.inl ⟨by rfl, fun w' h' => ?_⟩) S6 ?_
        · clear h'
          go_simp
        simp only [Act.put]
        refine wpAnyH_ready (rs := [22]) (by kernel_rfl) (by simp) ?_
        refine AllReadyH.cons rfl (fun K hK => ?_) AllReadyH.nil
        simp only [List.setIfInBounds_toArray, List.set_cons_zero, List.set_cons_succ]
        obtain ⟨hst, S9⟩ := RN6.put Q
        have S7 : SgRoom (v6.setRow x1 (sgC Q)) n := S6.kept (setRow_other _ _ _ _ (Nat.ne_of_lt hl1))
        have BV7 := Lib.hid (below_setRow BV6.out (Nat.le_trans HN.out (Nat.le_of_lt hl1)) (sgC Q))
        refine upon_store0 47 _ _ rfl rfl (.agg #[.int .i64 Q.fr, .int .i64 Q.dt, .int .u32 Q.sq, .int .u32 Q.ak, .int .i64 Q.fl, .int .i64 Q.wi, .int .i64 0, .string Q.da]) x1 rfl rfl (by rw [← HQC.out]; exact hst) ?_
        refine hK.out _ _ S7 (fun _ => ?_)
        clear hK K
        refine wpAnyH_done (by kernel_rfl) (NoPanic.normal ?_) _
        go_wp2_with fail
        go_meet
        case rel => exact ⟨x1, rfl, hl1, Lib.hid S9, Lib.hid S7, BV7⟩
    case rest =>
      obtain ⟨x, rfl, hnx, PX, RX, BX⟩ := hcut
      have hne : n ≠ x := by omega
      clear RM3 BL3 kA kB kC kD kE HX G13 WX AX GA GB HD HQC VA VB VE
      have hp := PX.out
      go_wp2_with (refine sg_ld (by rfl) (.tmp 12) rfl x rfl _ hp ?_)
      refine (kh.out _).mono ?_
      rintro e w5 ⟨rfl, b5⟩
      have PX5 := Lib.hid (PX.out.grow b5)
      have RX5 := Lib.hid (RX.out.grow b5)
      have BX5 := bstep BX b5
      clear b5 hp PX RX BX
      cases syn with
      | false =>
        have e2 : Q2 = Q := HQ2.out
        have hx0 : SgAt w5 x Q2 := by rw [e2]; exact PX5.out
        clear HQ2 e2 PX5
        obtain ⟨hst, S6⟩ := RX5.out.put Q2
        have S6 := Lib.hid S6
        have B6 := Lib.hid (below_setRow BX5.out HN.out (sgC Q2))
        go_wp2_with (first | (refine sg_ld (by rfl) (.tmp 12) rfl x rfl _ hx0 ?_) | (refine wpList_storeW 47 (.tmp 6) (.tmp 126) rfl rfl (.agg (sgC Q2)) n rfl rfl hst ?_))
        exact bodyPost_ret (v := .tuple #[.agg (sgC Q2), .int .i64 0]) (results_row _ 6 7 47 (by kernel_rfl) _ n _ _ _ _ rfl rfl S6.out Try.underlying47 rfl (by kernel_rfl)) rfl ⟨rfl, B6.out⟩
      | true =>
        have e2 : Q2 = { Q with ms := (MM : Int) } := HQ2.out
        have c6 := PX5.out.ms
        have f6 := PX5.out.free 6
        go_upto_region 28 with fail
        have PX2 : Hid (SgAt (w5.setCell ⟨x, 6, none⟩ (.int .i64 (MM : Int))) x Q2) := Lib.hid (by rw [e2]; exact PX5.out.msSet _)
        have RX2 : Hid (SgRoom (w5.setCell ⟨x, 6, none⟩ (.int .i64 (MM : Int))) n) := Lib.hid (RX5.out.kept (by simp [World.setCell, Array.getElem?_modify, hne.symm]))
        have BX2 : Hid (Below w.heap.size w (w5.setCell ⟨x, 6, none⟩ (.int .i64 (MM : Int)))) := Lib.hid (BX5.out.setCell (show w.heap.size ≤ x by have := HN.out; omega) _)
        generalize w5.setCell _ _ = W5 at PX2 RX2 BX2 ⊢
        have hx0 := PX2.out
        clear c6 f6 HQ2 e2 PX5 PX2
        obtain ⟨hst, S6⟩ := RX2.out.put Q2
        have S6 := Lib.hid S6
        have B6 := Lib.hid (below_setRow BX2.out HN.out (sgC Q2))
        go_wp2_with (first | (refine sg_ld (by rfl) (.tmp 12) rfl x rfl _ hx0 ?_) | (refine wpList_storeW 47 (.tmp 6) (.tmp 126) rfl rfl (.agg (sgC Q2)) n rfl rfl hst ?_))
        exact bodyPost_ret (v := .tuple #[.agg (sgC Q2), .int .i64 0]) (results_row _ 6 7 47 (by kernel_rfl) _ n _ _ _ _ rfl rfl S6.out Try.underlying47 rfl (by kernel_rfl)) rfl ⟨rfl, B6.out⟩
theorem rRead10_any (w : World) (s : ByteArray) (i j : Ip4) (hs : s.size ≤ 140737488355328) :
    Calls Try.prog 26 #[.string s, .agg (ipC i), .agg (ipC j)] w fun e w' => e = .returned (.tuple #[.agg (sgC (srP i j s)), .int .i64 (srE i j s)]) ∧ Below w.heap.size w w' := by
  by_cases h1 : s.size < 20
  · have e1 : srE i j s = 7 := by simp [srE, okS, h1]
    rw [srP, e1, if_neg (by decide)]
    exact rRead10_20 w s i j hs h1
  by_cases h2 : unS s.data.toList < 20
  · have e1 : srE i j s = 8 := by simp [srE, okS, h1, h2]
    rw [srP, e1, if_neg (by decide)]
    exact rRead10_un w s i j hs (by omega) h2
  by_cases h3 : s.size < unS s.data.toList
  · have e1 : srE i j s = 7 := by simp [srE, okS, h1, h2, h3]
    rw [srP, e1, if_neg (by decide)]
    exact rRead10_less w s i j hs (by omega) (by omega) h3
  by_cases h4 : 566 < s.size
  · have e1 : srE i j s = 3 := by simp [srE, okS, h1, h2, h3, h4]
    rw [srP, e1, if_neg (by decide)]
    exact rRead10_long w s i j hs (by omega) (by omega) (by omega) h4
  have ho : okS s = none := okS_none.2 ⟨by omega, by omega, by omega, by omega⟩
  by_cases h5 : sumS i j s.data.toList = 0
  case neg =>
    have e1 : srE i j s = 9 := by rw [srE, ho]; simp [h5]
    rw [srP, e1, if_neg (by decide)]
    exact rRead10_sum w s i j (by omega) (by omega) (by omega) (by omega) _ rfl h5
  cases h6 : optS s with
  | none =>
    have e1 : srE i j s = 8 := by rw [srE, ho]; simp [h5, h6]
    rw [srP, e1, if_neg (by decide)]
    exact rRead10_opt w s i j (by omega) (by omega) (by omega) (by omega) h5 h6
  | some M =>
    have e1 : srE i j s = 0 := by rw [srE, ho]; simp [h5, h6]
    rw [srP, e1, if_pos rfl]
    have h := rRead10_yes w s i j (by omega) (by omega) (by omega) (by omega) h5 M h6 _ rfl _ rfl _ rfl
    have hq : (if decide (({ srQ s with ms := 0 } : Sg).fl / 2 % 2 = 1) = true then ({ ({ srQ s with ms := 0 } : Sg) with ms := (M : Int) } : Sg) else { srQ s with ms := 0 }) = srQ s := by
      have hfl : (({ srQ s with ms := 0 } : Sg).fl / 2 % 2 = 1) ↔ (bt s.data.toList 13 / 2 % 2 = 1) := by
        show (((bt s.data.toList 13 % 32 : Nat) : Int) / 2 % 2 = 1) ↔ _
        omega
      by_cases hc : bt s.data.toList 13 / 2 % 2 = 1
      · rw [if_pos (decide_eq_true (hfl.2 hc))]
        unfold srQ
        rw [if_pos hc, h6]
        rfl
      · rw [if_neg (fun e => hc (hfl.1 (of_decide_eq_true e)))]
        unfold srQ
        rw [if_neg hc]
    rw [hq] at h
    exact h

end Go.Proofs.Ytbjoibgkhooljaa
