/-
  Layer 10: what bytes are read as by the program. Conditions: a text has at most 2^47 bytes.
-/
import Derived.Test.YtbjoibgkhooljaaSgD
import Derived.Test.YtbjoibgkhooljaaIpF
namespace Go.Proofs.Ytbjoibgkhooljaa
open Go.RowKit Go.Sort
set_option linter.unusedVariables false

def sizeV : Value → Nat
  | .string s => s.size
  | _ => 0
theorem optR_zero {k m : Nat} {l : List UInt8} (h : l.length = 0 ∨ bt l 0 = 0) (hk : l.length ≤ k) : optR k m l = some m := by
  cases k with
  | zero => rfl
  | succ k => rw [optR, if_pos h]
theorem optR_bad {k m : Nat} {l : List UInt8} (h : ¬ (l.length = 0 ∨ bt l 0 = 0)) (hk : l.length ≤ k) (hz : szO l = 0) : optR k m l = none := by
  cases k with
  | zero => exact absurd (.inl (by omega)) h
  | succ k => rw [optR, if_neg h, if_pos hz]
theorem optR_go {k m : Nat} {l : List UInt8} (h : ¬ (l.length = 0 ∨ bt l 0 = 0)) (hk : l.length ≤ k) (hz : szO l ≠ 0) : ∃ k', k = k' + 1 ∧ optR k m l = optR k' (if bt l 0 = 2 then wd l 2 else m) (l.drop (szO l)) := by
  cases k with
  | zero => exact absurd (.inl (by omega)) h
  | succ k => exact ⟨k, rfl, by rw [optR, if_neg h, if_neg hz]⟩
theorem szO_two {l : List UInt8} (h : bt l 0 = 2) (hz : szO l ≠ 0) : 4 ≤ l.length := by
  unfold szO at hz
  rw [if_neg (by omega)] at hz
  split at hz
  · exact absurd rfl hz
  · split at hz
    · exact absurd rfl hz
    · omega
set_option maxRecDepth 100000 in
set_option maxHeartbeats 2000000 in
theorem readOptions10 (w : World) (s : ByteArray) (hs : s.size ≤ 60) (R : Option Nat) (hR : optR 60 0 s.data.toList = R) :
    Calls Try.prog 48 #[.string s] w fun e w' => e = .returned (.tuple #[.int .i64 ((R.getD 0 : Nat) : Int), .bool R.isSome]) ∧ Below w.heap.size w w' := by
  have HR := Lib.hid hR
  clear hR
  go_enter Try.func48, Try.ntmps48
  go_wp2_with fail
  go_loopw [0, 4] (fun o m wr => ∃ (k M : Nat) (x : ByteArray), o = .string x ∧ m = .int .i64 (M : Int) ∧ x.size ≤ k ∧ k ≤ 60 ∧ M < 65536 ∧ Hid (optR k M x.data.toList = R) ∧ Hid (Below w.heap.size w wr)) (fun o _ _ => sizeV o)
  case atStart => exact ⟨60, 0, s, rfl, rfl, hs, Nat.le_refl _, by decide, HR, Lib.hid (Below.refl _ _)⟩
  case round =>
    obtain ⟨k, M, x, rfl, rfl, hx, hk, hM, HE, BL⟩ := hrel
    clear HR hs
    by_cases h0 : x.size = 0
    · have hxe : x = ⟨#[]⟩ := ByteArray.ext (Array.eq_empty_of_size_eq_zero h0)
      subst hxe
      have hRM : R = some M := by rw [← HE.out]; exact optR_zero (.inl rfl) (Nat.zero_le _)
      subst hRM
      clear HE
      go_wp2_with fail
      go_ret2
      exact ⟨rfl, BL.out⟩
    have hlt : 0 < x.size := by omega
    have hne : (x.toList == []) = false := by
      have : x.toList.length = x.size := by rw [ByteArray.toList_eq, Array.length_toList]; rfl
      cases hq : x.toList with
      | nil => rw [hq] at this; simp at this; omega
      | cons a b => rfl
    have hne2 : (x.toList != []) = true := by rw [bne, hne]; rfl
    obtain ⟨X, hX⟩ : ∃ X, X = bt x.data.toList 0 := ⟨_, rfl⟩
    have HX : (x[0]'hlt).toNat = X := by rw [hX]; exact bt_at x 0 hlt
    have hl := bt_lt x.data.toList 0
    rw [← hX] at hl
    have hls : x.data.toList.length = x.size := list_size x
    by_cases h1 : X = 0
    · have hRM : R = some M := by rw [← HE.out]; exact optR_zero (.inr (by rw [← hX]; exact h1)) (by omega)
      subst hRM
      have hb : ((X : Int) != 0) = false := by simp [h1]
      clear HE hX h1 hl
      go_wp2_with fail
      go_ret2
      exact ⟨rfl, BL.out⟩
    have hb : ((X : Int) != 0) = true := by simp; omega
    have hno : ¬ (x.data.toList.length = 0 ∨ bt x.data.toList 0 = 0) := by rw [← hX]; omega
    obtain ⟨Z, hZ⟩ : ∃ Z, Z = szO x.data.toList := ⟨_, rfl⟩
    have kZ := Lib.hid (fun w => option10 w x hlt (by omega) Z hZ)
    by_cases h2 : Z = 0
    · have hRM : R = none := by rw [← HE.out]; exact optR_bad hno (by omega) (by rw [← hZ]; exact h2)
      subst hRM
      rw [show decide (Z ≠ 0) = false from decide_eq_false (by simp [h2])] at kZ
      clear HE hX h1 hl hno hZ h2
      go_wp2_with fail
      refine (kZ.out _).mono ?_
      rintro e w2 ⟨rfl, rfl⟩
      go_wp2_with fail
      go_ret2
      exact ⟨rfl, BL.out⟩
    rw [show decide (Z ≠ 0) = true from decide_eq_true h2] at kZ
    obtain ⟨k', rfl, hgo⟩ := optR_go (m := M) hno (show x.data.toList.length ≤ k by omega) (by rw [← hZ]; exact h2)
    have hzl : Z ≤ x.size := by rw [hZ, ← hls]; exact szO_le _ (by omega)
    have hcut : (x.extract Z x.size).data.toList = x.data.toList.drop Z := drop_data x Z
    have hcs : (x.extract Z x.size).size = x.size - Z := by rw [ByteArray.size_extract]; omega
    have g1 : ¬ (x.size : Int) < (Z : Int) := by omega
    have g2 : Z ≤ x.size := hzl
    rw [← hX, ← hZ, ← hcut] at hgo
    by_cases h3 : X = 2
    · rw [if_pos h3] at hgo
      obtain ⟨Y, hY⟩ : ∃ Y, Y = wd x.data.toList 2 := ⟨_, rfl⟩
      have hyl := wd_lt x.data.toList 2
      have h4 := szO_two (l := x.data.toList) (by rw [← hX]; exact h3) (by rw [← hZ]; exact h2)
      have kW := Lib.hid (fun w => word10 w x 2 2 rfl (by omega) (by omega) Y hY)
      rw [← hY] at hgo hyl
      have hE2 : Hid (optR k' Y (x.extract Z x.size).data.toList = R) := Lib.hid (by rw [← hgo]; exact HE.out)
      have hb3 : ((X : Int) == 2) = true := by simp [h3]
      clear hgo HE hY hX hZ hno h1 h3 hl
      go_wp2_with fail
      refine (kZ.out _).mono ?_
      rintro e w2 ⟨rfl, rfl⟩
      go_wp2_with fail
      refine (kW.out _).mono ?_
      rintro e w3 ⟨rfl, b3⟩
      have B3 := bstep BL b3
      go_wp2_with fail
      go_roundw
      case rel => exact ⟨k', Y, x.extract Z x.size, by go_num, rfl, by omega, by omega, hyl, hE2, B3⟩
      case measure => show (x.extract Z x.size).size < x.size; omega
    · rw [if_neg h3] at hgo
      have hE2 : Hid (optR k' M (x.extract Z x.size).data.toList = R) := Lib.hid (by rw [← hgo]; exact HE.out)
      have hb3 : ((X : Int) == 2) = false := by simp; omega
      clear hgo HE hX hZ hno h1 h3 hl
      go_wp2_with fail
      refine (kZ.out _).mono ?_
      rintro e w2 ⟨rfl, rfl⟩
      go_wp2_with fail
      go_roundw
      case rel => exact ⟨k', M, x.extract Z x.size, by go_num, rfl, by omega, by omega, hM, hE2, BL⟩
      case measure => show (x.extract Z x.size).size < x.size; omega

theorem and_31 (X : Nat) (h : X < 256) : bits .and .i64 (X : Int) 31 = ((X % 32 : Nat) : Int) := by
  have : ∀ X : Fin 256, bits .and .i64 (X.1 : Int) 31 = ((X.1 % 32 : Nat) : Int) := by decide +kernel
  exact this ⟨X, h⟩
/-- Two addresses and the room of a segment, a block each. -/
structure RdBx (w : World) (m k n : Nat) (i j : Ip4) : Prop where
  ia : IpBx w m i
  ja : IpBx w k j
  rm : SgRoom w n
theorem RdBx.grow {w w' : World} {m k n : Nat} {i j : Ip4} (h : RdBx w m k n i j) (b : Below w.heap.size w w') : RdBx w' m k n i j := ⟨h.ia.grow b, h.ja.grow b, h.rm.grow b⟩
theorem rdbx_new (w : World) (i j : Ip4) : ∃ m k n, w.heap.size = m ∧ w.heap.size + 1 = k ∧ w.heap.size + 1 + 1 = n ∧ w.heap.size ≤ n ∧ RdBx (((w.alloc (.cells (ipC i) 33)).alloc (.cells (ipC j) 33)).alloc (.cells #[.int .i64 0, .int .i64 0, .int .u32 0, .int .u32 0, .int .i64 0, .int .i64 0, .int .i64 0, .string ⟨#[]⟩] 47)) m k n i j ∧ Below w.heap.size w (((w.alloc (.cells (ipC i) 33)).alloc (.cells (ipC j) 33)).alloc (.cells #[.int .i64 0, .int .i64 0, .int .u32 0, .int .u32 0, .int .i64 0, .int .i64 0, .int .i64 0, .string ⟨#[]⟩] 47)) := by
  refine ⟨_, _, _, rfl, rfl, rfl, by omega, ⟨?_, ?_, ?_⟩, ?_⟩
  · exact ((ipb_new w _ i rfl).grow ((Below.refl _ _).alloc (Nat.le_refl _) _)).grow ((Below.refl _ _).alloc (Nat.le_refl _) _)
  · exact (ipb_new _ _ j (by simp)).grow ((Below.refl _ _).alloc (Nat.le_refl _) _)
  · exact sgroom_new _ _ _ rfl (by simp)
  · exact (((Below.refl _ _).alloc (Nat.le_refl _) _).alloc (by simp) _).alloc (by simp <;> omega) _

set_option maxRecDepth 100000 in
set_option maxHeartbeats 4000000 in
theorem sgRead_head (w : World) (s : ByteArray) (i j : Ip4) (hs : s.size ≤ 140737488355328) (E : Int) (hE : hdE s = E) (h0 : E ≠ 0) :
    Calls Try.prog 18 #[.string s, .agg (ipC i), .agg (ipC j)] w fun e w' => e = .returned (.tuple #[.agg (sgC sgZ), .int .i64 E]) ∧ Below w.heap.size w w' := by
  have kH := Lib.hid (fun w => head10 w s hs)
  rw [hE, hdN, hE, if_neg h0] at kH
  have hb : (E != 0) = true := by simpa using h0
  clear hE h0
  go_enter Try.func18, Try.ntmps18
  go_upto_region 1 with fail
  obtain ⟨m, k, n, hm, hk, hn, hge, fa, bl⟩ := rdbx_new w i j
  have RM := Lib.hid fa
  have BL := Lib.hid bl
  have HN := Lib.hid hge
  clear fa bl hge
  generalize World.alloc _ _ = W1 at RM BL ⊢
  try rw [hn]
  try rw [hk]
  try rw [hm]
  clear hn hm hk
  go_wp2_with fail
  refine (kH.out _).mono ?_
  rintro e w1 ⟨rfl, rfl⟩
  obtain ⟨hst, S6⟩ := RM.out.rm.put sgZ
  have S6 := Lib.hid S6
  have B6 := Lib.hid (below_setRow BL.out HN.out (sgC sgZ))
  go_wp2_with (refine wpList_storeW 47 (.tmp 6) (.tmp 20) rfl rfl (.agg (sgC sgZ)) n rfl rfl hst ?_)
  exact bodyPost_ret (v := .tuple #[.agg (sgC sgZ), .int .i64 E]) (results_row _ 6 7 47 (by kernel_rfl) _ n _ _ _ _ rfl rfl S6.out Try.underlying47 rfl (by kernel_rfl)) rfl ⟨rfl, B6.out⟩
set_option maxRecDepth 100000 in
set_option maxHeartbeats 4000000 in
theorem sgRead_long (w : World) (s : ByteArray) (i j : Ip4) (hs : s.size ≤ 140737488355328) (hE : hdE s = 0) (hl : 566 < s.size) :
    Calls Try.prog 18 #[.string s, .agg (ipC i), .agg (ipC j)] w fun e w' => e = .returned (.tuple #[.agg (sgC sgZ), .int .i64 3]) ∧ Below w.heap.size w w' := by
  have kH := Lib.hid (fun w => head10 w s hs)
  rw [hdN, hE, if_pos rfl] at kH
  obtain ⟨U, hU⟩ : ∃ U, U = unS s.data.toList := ⟨_, rfl⟩
  rw [← hU] at kH
  have hb : decide ((566 : Int) < (s.size : Int)) = true := decide_eq_true (by omega)
  clear hE hU
  go_enter Try.func18, Try.ntmps18
  go_upto_region 1 with fail
  obtain ⟨m, k, n, hm, hk, hn, hge, fa, bl⟩ := rdbx_new w i j
  have RM := Lib.hid fa
  have BL := Lib.hid bl
  have HN := Lib.hid hge
  clear fa bl hge
  generalize World.alloc _ _ = W1 at RM BL ⊢
  try rw [hn]
  try rw [hk]
  try rw [hm]
  clear hn hm hk
  go_wp2_with fail
  refine (kH.out _).mono ?_
  rintro e w1 ⟨rfl, rfl⟩
  obtain ⟨hst, S6⟩ := RM.out.rm.put sgZ
  have S6 := Lib.hid S6
  have B6 := Lib.hid (below_setRow BL.out HN.out (sgC sgZ))
  go_wp2_with (refine wpList_storeW 47 (.tmp 6) (.tmp 25) rfl rfl (.agg (sgC sgZ)) n rfl rfl hst ?_)
  exact bodyPost_ret (v := .tuple #[.agg (sgC sgZ), .int .i64 3]) (results_row _ 6 7 47 (by kernel_rfl) _ n _ _ _ _ rfl rfl S6.out Try.underlying47 rfl (by kernel_rfl)) rfl ⟨rfl, B6.out⟩
set_option maxRecDepth 100000 in
set_option maxHeartbeats 4000000 in
theorem sgRead_sum (w : World) (s : ByteArray) (i j : Ip4) (hE : hdE s = 0) (hl : s.size ≤ 566) (K : Nat) (hK : K = sumS i j s.data.toList) (h0 : K ≠ 0) :
    Calls Try.prog 18 #[.string s, .agg (ipC i), .agg (ipC j)] w fun e w' => e = .returned (.tuple #[.agg (sgC sgZ), .int .i64 9]) ∧ Below w.heap.size w w' := by
  have hs : s.size ≤ 140737488355328 := by omega
  have kH := Lib.hid (fun w => head10 w s hs)
  rw [hdN, hE, if_pos rfl] at kH
  obtain ⟨U, hU⟩ : ∃ U, U = unS s.data.toList := ⟨_, rfl⟩
  rw [← hU] at kH
  have hb : decide ((566 : Int) < (s.size : Int)) = false := decide_eq_false (by omega)
  have kS := Lib.hid (fun w => sumOf_str w s i j (by omega) K hK)
  have hx : ((K : Int) != 0) = true := by simp; omega
  clear hE hU hK h0 hs
  go_enter Try.func18, Try.ntmps18
  go_upto_region 1 with fail
  obtain ⟨m, k, n, hm, hk, hn, hge, fa, bl⟩ := rdbx_new w i j
  have RM := Lib.hid fa
  have BL := Lib.hid bl
  have HN := Lib.hid hge
  clear fa bl hge
  generalize World.alloc _ _ = W1 at RM BL ⊢
  try rw [hn]
  try rw [hk]
  try rw [hm]
  clear hn hm hk
  go_wp2_with fail
  refine (kH.out _).mono ?_
  rintro e w1 ⟨rfl, rfl⟩
  have ha := RM.out.ia
  have hc := RM.out.ja
  go_wp2_with (first | (refine ipb_ld (by rfl) (.tmp 4) rfl m rfl _ ha ?_) | (refine ipb_ld (by rfl) (.tmp 5) rfl k rfl _ hc ?_))
  refine (kS.out _).mono ?_
  rintro e w2 ⟨rfl, b2⟩
  have RM2 := Lib.hid (RM.out.rm.grow b2)
  have BL2 := bstep BL b2
  clear b2 RM BL ha hc
  obtain ⟨hst, S6⟩ := RM2.out.put sgZ
  have S6 := Lib.hid S6
  have B6 := Lib.hid (below_setRow BL2.out HN.out (sgC sgZ))
  go_wp2_with (refine wpList_storeW 47 (.tmp 6) (.tmp 31) rfl rfl (.agg (sgC sgZ)) n rfl rfl hst ?_)
  exact bodyPost_ret (v := .tuple #[.agg (sgC sgZ), .int .i64 9]) (results_row _ 6 7 47 (by kernel_rfl) _ n _ _ _ _ rfl rfl S6.out Try.underlying47 rfl (by kernel_rfl)) rfl ⟨rfl, B6.out⟩
set_option maxRecDepth 100000 in
set_option maxHeartbeats 4000000 in
theorem sgRead_opt (w : World) (s : ByteArray) (i j : Ip4) (hE : hdE s = 0) (hl : s.size ≤ 566) (hK : sumS i j s.data.toList = 0) (hO : optS s = none) :
    Calls Try.prog 18 #[.string s, .agg (ipC i), .agg (ipC j)] w fun e w' => e = .returned (.tuple #[.agg (sgC sgZ), .int .i64 8]) ∧ Below w.heap.size w w' := by
  have hs : s.size ≤ 140737488355328 := by omega
  have kH := Lib.hid (fun w => head10 w s hs)
  rw [hdN, hE, if_pos rfl] at kH
  obtain ⟨U, hU⟩ : ∃ U, U = unS s.data.toList := ⟨_, rfl⟩
  rw [← hU] at kH
  have hb : decide ((566 : Int) < (s.size : Int)) = false := decide_eq_false (by omega)
  have kS := Lib.hid (fun w => sumOf_str w s i j (by omega) 0 hK.symm)
  have hU1 : 20 ≤ U ∧ U ≤ s.size ∧ U ≤ 60 := by
    have := unS_le s.data.toList
    unfold hdE at hE
    split at hE
    · cases hE
    split at hE
    · cases hE
    split at hE
    · cases hE
    · omega
  obtain ⟨hU2, hU3, hU4⟩ := hU1
  have g1 : ¬ (U : Int) < 20 := by omega
  have g2 : ¬ (s.size : Int) < (U : Int) := by omega
  have g3 : U ≤ s.size := hU3
  have g4 : 20 ≤ U := hU2
  have hxl : (s.extract 20 U).data.toList = (s.data.toList.take U).drop 20 := by rw [Lib.extract_data, List.drop_take]
  have hxz : (s.extract 20 U).size = U - 20 := by rw [ByteArray.size_extract]; omega
  obtain ⟨R, hR⟩ : ∃ R, optS s = R := ⟨_, rfl⟩
  have kO := Lib.hid (fun w => readOptions10 w (s.extract 20 U) (by omega) R (by rw [hxl, hU]; exact hR))
  rw [hO] at hR
  subst hR
  rw [show (none : Option Nat).isSome = false from rfl] at kO
  clear hE hU hK hs hO hxl hxz
  go_enter Try.func18, Try.ntmps18
  go_upto_region 1 with fail
  obtain ⟨m, k, n, hm, hk, hn, hge, fa, bl⟩ := rdbx_new w i j
  have RM := Lib.hid fa
  have BL := Lib.hid bl
  have HN := Lib.hid hge
  clear fa bl hge
  generalize World.alloc _ _ = W1 at RM BL ⊢
  try rw [hn]
  try rw [hk]
  try rw [hm]
  clear hn hm hk
  go_wp2_with fail
  refine (kH.out _).mono ?_
  rintro e w1 ⟨rfl, rfl⟩
  have ha := RM.out.ia
  have hc := RM.out.ja
  go_wp2_with (first | (refine ipb_ld (by rfl) (.tmp 4) rfl m rfl _ ha ?_) | (refine ipb_ld (by rfl) (.tmp 5) rfl k rfl _ hc ?_))
  refine (kS.out _).mono ?_
  rintro e w2 ⟨rfl, b2⟩
  have RM2 := Lib.hid (RM.out.rm.grow b2)
  have BL2 := bstep BL b2
  clear b2 RM BL ha hc
  go_wp2_with fail
  refine (kO.out _).mono ?_
  rintro e w3 ⟨rfl, b3⟩
  have RM3 := Lib.hid (RM2.out.grow b3)
  have BL3 := bstep BL2 b3
  clear b3 RM2 BL2
  obtain ⟨hst, S6⟩ := RM3.out.put sgZ
  have S6 := Lib.hid S6
  have B6 := Lib.hid (below_setRow BL3.out HN.out (sgC sgZ))
  go_wp2_with (refine wpList_storeW 47 (.tmp 6) (.tmp 41) rfl rfl (.agg (sgC sgZ)) n rfl rfl hst ?_)
  exact bodyPost_ret (v := .tuple #[.agg (sgC sgZ), .int .i64 8]) (results_row _ 6 7 47 (by kernel_rfl) _ n _ _ _ _ rfl rfl S6.out Try.underlying47 rfl (by kernel_rfl)) rfl ⟨rfl, B6.out⟩
set_option maxRecDepth 100000 in
set_option maxHeartbeats 8000000 in
theorem sgRead_yes (w : World) (s : ByteArray) (i j : Ip4) (hE : hdE s = 0) (hl : s.size ≤ 566) (hK : sumS i j s.data.toList = 0) (M : Nat) (hO : optS s = some M) (Q : Sg) (hQ : Q = { srQ s with ms := 0 }) (syn : Bool) (hsyn : decide (Q.fl / 2 % 2 = 1) = syn) (Q2 : Sg) (hQ2 : Q2 = if syn = true then { Q with ms := (M : Int) } else Q) :
    Calls Try.prog 18 #[.string s, .agg (ipC i), .agg (ipC j)] w fun e w' => e = .returned (.tuple #[.agg (sgC Q2), .int .i64 0]) ∧ Below w.heap.size w w' := by
  have hs : s.size ≤ 140737488355328 := by omega
  have kH := Lib.hid (fun w => head10 w s hs)
  rw [hdN, hE, if_pos rfl] at kH
  obtain ⟨U, hU⟩ : ∃ U, U = unS s.data.toList := ⟨_, rfl⟩
  rw [← hU] at kH
  have hb : decide ((566 : Int) < (s.size : Int)) = false := decide_eq_false (by omega)
  have kS := Lib.hid (fun w => sumOf_str w s i j (by omega) 0 hK.symm)
  have hU1 : 20 ≤ U ∧ U ≤ s.size ∧ U ≤ 60 := by
    have := unS_le s.data.toList
    unfold hdE at hE
    split at hE
    · cases hE
    split at hE
    · cases hE
    split at hE
    · cases hE
    · omega
  obtain ⟨hU2, hU3, hU4⟩ := hU1
  have g1 : ¬ (U : Int) < 20 := by omega
  have g2 : ¬ (s.size : Int) < (U : Int) := by omega
  have g3 : U ≤ s.size := hU3
  have g4 : 20 ≤ U := hU2
  have hxl : (s.extract 20 U).data.toList = (s.data.toList.take U).drop 20 := by rw [Lib.extract_data, List.drop_take]
  have hxz : (s.extract 20 U).size = U - 20 := by rw [ByteArray.size_extract]; omega
  obtain ⟨R, hR⟩ : ∃ R, optS s = R := ⟨_, rfl⟩
  have kO := Lib.hid (fun w => readOptions10 w (s.extract 20 U) (by omega) R (by rw [hxl, hU]; exact hR))
  rw [hO] at hR
  subst hR
  rw [show (some M).isSome = true from rfl, show (some M).getD 0 = M from rfl] at kO
  have z20 : 20 ≤ s.size := by omega
  have q9 : s.size ≤ 9223372036854775807 := by omega
  have kA := Lib.hid (fun w => word10 w s 0 0 rfl q9 (by omega) _ rfl)
  have kB := Lib.hid (fun w => word10 w s 2 2 rfl q9 (by omega) _ rfl)
  have kC := Lib.hid (fun w => long10 w s 4 4 rfl q9 (by omega) _ rfl)
  have kD := Lib.hid (fun w => long10 w s 8 8 rfl q9 (by omega) _ rfl)
  have kE := Lib.hid (fun w => word10 w s 14 14 rfl q9 (by omega) _ rfl)
  rw [show ((wd s.data.toList 0 : Nat) : Int) = Q.fr by rw [hQ]; rfl] at kA
  rw [show ((wd s.data.toList 2 : Nat) : Int) = Q.dt by rw [hQ]; rfl] at kB
  rw [show ((rf s.data.toList 4 : Nat) : Int) = Q.sq by rw [hQ]; rfl] at kC
  rw [show ((rf s.data.toList 8 : Nat) : Int) = Q.ak by rw [hQ]; rfl] at kD
  rw [show ((wd s.data.toList 14 : Nat) : Int) = Q.wi by rw [hQ]; rfl] at kE
  obtain ⟨X13, hX⟩ : ∃ X, X = bt s.data.toList 13 := ⟨_, rfl⟩
  have hxlt := bt_lt s.data.toList 13
  rw [← hX] at hxlt
  have i13 : 13 < s.size := by omega
  have HX : Hid ((s[13]'i13).toNat = X13) := Lib.hid (by rw [hX]; exact bt_at s 13 i13)
  have G13 : Hid (13 < s.size) := Lib.hid i13
  have WX : Hid (IntKind.i64.wrap (X13 : Int) = (X13 : Int)) := Lib.hid (IntWalk.i64_in _ (by omega))
  have AX : Hid (bits .and .i64 (X13 : Int) 31 = Q.fl) := Lib.hid (by
    rw [and_31 X13 hxlt, hQ, hX]; rfl)
  have GA : Hid (¬ (s.size : Int) < (U : Int)) := Lib.hid g2
  have GB : Hid (U ≤ s.size) := Lib.hid g3
  have HD : Hid (s.extract U s.size = Q.da) := Lib.hid (by rw [hQ, hU]; rfl)
  have HQC : Hid (sgC Q = #[.int .i64 Q.fr, .int .i64 Q.dt, .int .u32 Q.sq, .int .u32 Q.ak, .int .i64 Q.fl, .int .i64 Q.wi, .int .i64 0, .string Q.da]) := Lib.hid (by rw [hQ]; rfl)
  have a2 := and_2 Q.fl
  have A2 := Lib.hid a2
  have HSY := Lib.hid hsyn
  have HQ2 := Lib.hid hQ2
  clear hQ2
  clear hE hU hK hs hO hxl hxz hX hxlt z20 q9 a2 hsyn hQ
  go_enter Try.func18, Try.ntmps18
  go_upto_region 1 with fail
  obtain ⟨m, k, n, hm, hk, hn, hge, fa, bl⟩ := rdbx_new w i j
  have RM := Lib.hid fa
  have BL := Lib.hid bl
  have HN := Lib.hid hge
  clear fa bl hge
  generalize World.alloc _ _ = W1 at RM BL ⊢
  try rw [hn]
  try rw [hk]
  try rw [hm]
  clear hn hm hk
  go_wp2_with fail
  refine (kH.out _).mono ?_
  rintro e w1 ⟨rfl, rfl⟩
  have ha := RM.out.ia
  have hc := RM.out.ja
  go_wp2_with (first | (refine ipb_ld (by rfl) (.tmp 4) rfl m rfl _ ha ?_) | (refine ipb_ld (by rfl) (.tmp 5) rfl k rfl _ hc ?_))
  refine (kS.out _).mono ?_
  rintro e w2 ⟨rfl, b2⟩
  have RM2 := Lib.hid (RM.out.rm.grow b2)
  have BL2 := bstep BL b2
  clear b2 RM BL ha hc
  go_wp2_with fail
  refine (kO.out _).mono ?_
  rintro e w3 ⟨rfl, b3⟩
  have RM3 := Lib.hid (RM2.out.grow b3)
  have BL3 := bstep BL2 b3
  clear b3 RM2 BL2
  go_upto_region 11 with fail
  clear g1 g2 g3 g4 hb hU2 hU3 hU4 hl
  go_cut [12] from 42 to 59 (fun p wx => ∃ x, p = .pointer (some ⟨x, 0, none⟩) ∧ n < x ∧ Hid (SgAt wx x Q) ∧ Hid (SgRoom wx n) ∧ Hid (Below w.heap.size w wx))
  case first =>
    refine wp_region_noPanic ?_
    refine region_heldE (S := fun w' => SgRoom w' n) (by kernel_rfl) (fun V d => RM3.out.kept (d.block _)) (fun V d hS => ?_)
    have BV0 := bstep BL3 d.below
    clear d BL3
    refine wpAnyH_take (i := 0) (oi := ⟨some 42, Op.move (Operand.tmp 0), _, _, _, none⟩) (v := (.string s)) rfl (by kernel_rfl) (by kernel_rfl) (by kernel_rfl) (fun _ _ _ h => h) (Or.inl ⟨by rfl, fun w' h' => ?_⟩) hS ?_
    · clear h'
      go_simp
    simp only [Act.put]
    refine wpAnyH_take (i := 2) (oi := ⟨some 44, Op.move (Operand.tmp 0), _, _, _, none⟩) (v := (.string s)) rfl (by kernel_rfl) (by kernel_rfl) (by kernel_rfl) (fun _ _ _ h => h) (Or.inl ⟨by rfl, fun w' h' => ?_⟩) hS ?_
    · clear h'
      go_simp
    simp only [Act.put]
    refine wpAnyH_take (i := 4) (oi := ⟨some 46, Op.move (Operand.tmp 0), _, _, _, none⟩) (v := (.string s)) rfl (by kernel_rfl) (by kernel_rfl) (by kernel_rfl) (fun _ _ _ h => h) (Or.inl ⟨by rfl, fun w' h' => ?_⟩) hS ?_
    · clear h'
      go_simp
    simp only [Act.put]
    refine wpAnyH_take (i := 6) (oi := ⟨some 48, Op.move (Operand.tmp 0), _, _, _, none⟩) (v := (.string s)) rfl (by kernel_rfl) (by kernel_rfl) (by kernel_rfl) (fun _ _ _ h => h) (Or.inl ⟨by rfl, fun w' h' => ?_⟩) hS ?_
    · clear h'
      go_simp
    simp only [Act.put]
    refine wpAnyH_take (i := 8) (oi := ⟨some 50, Op.move (Operand.tmp 0), _, _, _, none⟩) (v := (.string s)) rfl (by kernel_rfl) (by kernel_rfl) (by kernel_rfl) (fun _ _ _ h => h) (Or.inl ⟨by rfl, fun w' h' => ?_⟩) hS ?_
    · clear h'
      go_simp
    simp only [Act.put]
    refine wpAnyH_take (i := 9) (oi := ⟨some 51, Op.index 9 (Operand.tmp 50) (Operand.const (Value.int IntKind.i64 13)), _, _, _, none⟩) (v := (.int .u8 (X13 : Int))) rfl (by kernel_rfl) (by kernel_rfl) (by kernel_rfl) (fun _ _ _ h => h) (Or.inl ⟨by rfl, fun w' h' => ?_⟩) hS ?_
    · have c0 := HX.out
      clear h'
      go_simp
      intro hq
      have := G13.out
      omega
    simp only [Act.put]
    refine wpAnyH_take (i := 10) (oi := ⟨some 52, Op.convert 5 3 (Operand.tmp 51), _, _, _, none⟩) (v := (.int .i64 (X13 : Int))) rfl (by kernel_rfl) (by kernel_rfl) (by kernel_rfl) (fun _ _ _ h => h) (Or.inl ⟨by rfl, fun w' h' => ?_⟩) hS ?_
    · have c0 := WX.out
      clear h'
      go_simp
    simp only [Act.put]
    refine wpAnyH_take (i := 11) (oi := ⟨some 53, Op.binOp BinOp.and 3 (Operand.tmp 52) (Operand.const (Value.int IntKind.i64 31)) 3, _, _, _, none⟩) (v := (.int .i64 Q.fl)) rfl (by kernel_rfl) (by kernel_rfl) (by kernel_rfl) (fun _ _ _ h => h) (Or.inl ⟨by rfl, fun w' h' => ?_⟩) hS ?_
    · have c0 := AX.out
      clear h'
      go_simp
    simp only [Act.put]
    refine wpAnyH_take (i := 12) (oi := ⟨some 54, Op.move (Operand.tmp 0), _, _, _, none⟩) (v := (.string s)) rfl (by kernel_rfl) (by kernel_rfl) (by kernel_rfl) (fun _ _ _ h => h) (Or.inl ⟨by rfl, fun w' h' => ?_⟩) hS ?_
    · clear h'
      go_simp
    simp only [Act.put]
    refine wpAnyH_take (i := 14) (oi := ⟨some 56, Op.move (Operand.tmp 0), _, _, _, none⟩) (v := (.string s)) rfl (by kernel_rfl) (by kernel_rfl) (by kernel_rfl) (fun _ _ _ h => h) (Or.inl ⟨by rfl, fun w' h' => ?_⟩) hS ?_
    · clear h'
      go_simp
    simp only [Act.put]
    refine wpAnyH_take (i := 15) (oi := ⟨some 57, Op.move (Operand.tmp 8), _, _, _, none⟩) (v := (.int .i64 (U : Int))) rfl (by kernel_rfl) (by kernel_rfl) (by kernel_rfl) (fun _ _ _ h => h) (Or.inl ⟨by rfl, fun w' h' => ?_⟩) hS ?_
    · clear h'
      go_simp
    simp only [Act.put]
    refine wpAnyH_take (i := 16) (oi := ⟨some 58, Op.slice 9 (Operand.tmp 56) (some (Operand.tmp 57)) none none, _, _, _, none⟩) (v := (.string Q.da)) rfl (by kernel_rfl) (by kernel_rfl) (by kernel_rfl) (fun _ _ _ h => h) (Or.inl ⟨by rfl, fun w' h' => ?_⟩) hS ?_
    · have c0 := GA.out
      have c1 := GB.out
      have c2 := HD.out
      clear h'
      go_simp
    simp only [Act.put]
    refine wpAnyH_ready (rs := [1, 18]) (by kernel_rfl) (by simp) ?_
    refine AllReadyH.cons rfl (fun K hK => ?_) (AllReadyH.cons rfl (fun K hK => ?_) AllReadyH.nil)
    · go_simp
      refine (kA.out _).mono ?_
      rintro e v1 ⟨rfl, b1⟩
      have S1 : SgRoom v1 n := hS.grow b1
      have BV1 := bstep BV0 b1
      clear b1
      go_simp
      refine hK.out _ _ S1 (fun _ => ?_)
      clear hK K
      refine wpAnyH_ready (rs := [3, 18]) (by kernel_rfl) (by simp) ?_
      refine AllReadyH.cons rfl (fun K hK => ?_) (AllReadyH.cons rfl (fun K hK => ?_) AllReadyH.nil)
      · go_simp
        refine (kB.out _).mono ?_
        rintro e v2 ⟨rfl, b2⟩
        have S2 : SgRoom v2 n := S1.grow b2
        have BV2 := bstep BV1 b2
        clear b2
        go_simp
        refine hK.out _ _ S2 (fun _ => ?_)
        clear hK K
        refine wpAnyH_ready (rs := [5, 18]) (by kernel_rfl) (by simp) ?_
        refine AllReadyH.cons rfl (fun K hK => ?_) (AllReadyH.cons rfl (fun K hK => ?_) AllReadyH.nil)
        · go_simp
          refine (kC.out _).mono ?_
          rintro e v3 ⟨rfl, b3⟩
          have S3 : SgRoom v3 n := S2.grow b3
          have BV3 := bstep BV2 b3
          clear b3
          go_simp
          refine hK.out _ _ S3 (fun _ => ?_)
          clear hK K
          refine wpAnyH_ready (rs := [7, 18]) (by kernel_rfl) (by simp) ?_
          refine AllReadyH.cons rfl (fun K hK => ?_) (AllReadyH.cons rfl (fun K hK => ?_) AllReadyH.nil)
          · go_simp
            refine (kD.out _).mono ?_
            rintro e v4 ⟨rfl, b4⟩
            have S4 : SgRoom v4 n := S3.grow b4
            have BV4 := bstep BV3 b4
            clear b4
            go_simp
            refine hK.out _ _ S4 (fun _ => ?_)
            clear hK K
            refine wpAnyH_ready (rs := [13, 18]) (by kernel_rfl) (by simp) ?_
            refine AllReadyH.cons rfl (fun K hK => ?_) (AllReadyH.cons rfl (fun K hK => ?_) AllReadyH.nil)
            · go_simp
              refine (kE.out _).mono ?_
              rintro e v5 ⟨rfl, b5⟩
              have S5 : SgRoom v5 n := S4.grow b5
              have BV5 := bstep BV4 b5
              clear b5
              go_simp
              refine hK.out _ _ S5 (fun _ => ?_)
              clear hK K
              refine wpAnyH_take (i := 17) (oi := ⟨some 59, Op.build 47 #[(0, (Operand.tmp 43)), (1, (Operand.tmp 45)), (2, (Operand.tmp 47)), (3, (Operand.tmp 49)), (4, (Operand.tmp 53)), (5, (Operand.tmp 55)), (7, (Operand.tmp 58))], _, _, _, none⟩) (v := (.agg #[.int .i64 Q.fr, .int .i64 Q.dt, .int .u32 Q.sq, .int .u32 Q.ak, .int .i64 Q.fl, .int .i64 Q.wi, .int .i64 0, .string Q.da])) rfl (by kernel_rfl) (by kernel_rfl) (by kernel_rfl) (fun _ _ _ h => h) (Or.inl ⟨by rfl, fun w' h' => ?_⟩) S5 ?_
              · clear h'
                go_simp
              simp only [Act.put]
              refine wpAnyH_ready (rs := [18]) (by kernel_rfl) (by simp) ?_
              refine AllReadyH.cons rfl (fun K hK => ?_) AllReadyH.nil
              obtain ⟨x6, hx6⟩ : ∃ x, x = v5.heap.size := ⟨_, rfl⟩
              have hl6 : n < x6 := by rw [hx6]; exact S5.lt
              have RN6 : SgRoom (v5.alloc (.cells #[.int .i64 0, .int .i64 0, .int .u32 0, .int .u32 0, .int .i64 0, .int .i64 0, .int .i64 0, .string ⟨#[]⟩] 47)) x6 := sgroom_new _ _ _ rfl hx6
              have S6 : SgRoom (v5.alloc (.cells #[.int .i64 0, .int .i64 0, .int .u32 0, .int .u32 0, .int .i64 0, .int .i64 0, .int .i64 0, .string ⟨#[]⟩] 47)) n := S5.kept (((Below.refl _ _).alloc (Nat.le_refl _) _).block _ S5.lt)
              have BV6 := bstep BV5 ((Below.refl v5.heap.size v5).alloc (Nat.le_refl _) (.cells #[.int .i64 0, .int .i64 0, .int .u32 0, .int .u32 0, .int .i64 0, .int .i64 0, .int .i64 0, .string ⟨#[]⟩] 47))
              go_simp
              rw [← hx6]
              generalize v5.alloc _ = v6 at RN6 S6 BV6 ⊢
              clear hx6
              refine hK.out _ _ S6 (fun _ => ?_)
              clear hK K
              refine wpAnyH_ready (rs := [19]) (by kernel_rfl) (by simp) ?_
              refine AllReadyH.cons rfl (fun K hK => ?_) AllReadyH.nil
              obtain ⟨hst, S9⟩ := RN6.put Q
              have S7 : SgRoom (v6.setRow x6 (sgC Q)) n := S6.kept (setRow_other _ _ _ _ (Nat.ne_of_lt hl6))
              have BV7 := Lib.hid (below_setRow BV6.out (Nat.le_trans HN.out (Nat.le_of_lt hl6)) (sgC Q))
              refine upon_store0 47 _ _ rfl rfl (.agg #[.int .i64 Q.fr, .int .i64 Q.dt, .int .u32 Q.sq, .int .u32 Q.ak, .int .i64 Q.fl, .int .i64 Q.wi, .int .i64 0, .string Q.da]) x6 rfl rfl (by rw [← HQC.out]; exact hst) ?_
              refine hK.out _ _ S7 (fun _ => ?_)
              clear hK K
              refine wpAnyH_done (by kernel_rfl) (NoPanic.normal ?_) _
              go_wp2_with fail
              go_meet
              case rel => exact ⟨x6, rfl, hl6, Lib.hid S9, Lib.hid S7, BV7⟩
            · obtain ⟨x5, hx5⟩ : ∃ x, x = v4.heap.size := ⟨_, rfl⟩
              have hl5 : n < x5 := by rw [hx5]; exact S4.lt
              have RN5 : SgRoom (v4.alloc (.cells #[.int .i64 0, .int .i64 0, .int .u32 0, .int .u32 0, .int .i64 0, .int .i64 0, .int .i64 0, .string ⟨#[]⟩] 47)) x5 := sgroom_new _ _ _ rfl hx5
              have S5 : SgRoom (v4.alloc (.cells #[.int .i64 0, .int .i64 0, .int .u32 0, .int .u32 0, .int .i64 0, .int .i64 0, .int .i64 0, .string ⟨#[]⟩] 47)) n := S4.kept (((Below.refl _ _).alloc (Nat.le_refl _) _).block _ S4.lt)
              have BV5 := bstep BV4 ((Below.refl v4.heap.size v4).alloc (Nat.le_refl _) (.cells #[.int .i64 0, .int .i64 0, .int .u32 0, .int .u32 0, .int .i64 0, .int .i64 0, .int .i64 0, .string ⟨#[]⟩] 47))
              go_simp
              rw [← hx5]
              generalize v4.alloc _ = v5 at RN5 S5 BV5 ⊢
              clear hx5
              refine hK.out _ _ S5 (fun _ => ?_)
              clear hK K
              refine wpAnyH_ready (rs := [13]) (by kernel_rfl) (by simp) ?_
              refine AllReadyH.cons rfl (fun K hK => ?_) AllReadyH.nil
              go_simp
              refine (kE.out _).mono ?_
              rintro e v6 ⟨rfl, b6⟩
              have S6 : SgRoom v6 n := S5.grow b6
              have BV6 := bstep BV5 b6
              have RN6 := RN5.grow b6
              clear b6
              go_simp
              refine hK.out _ _ S6 (fun _ => ?_)
              clear hK K
              refine wpAnyH_take (i := 17) (oi := ⟨some 59, Op.build 47 #[(0, (Operand.tmp 43)), (1, (Operand.tmp 45)), (2, (Operand.tmp 47)), (3, (Operand.tmp 49)), (4, (Operand.tmp 53)), (5, (Operand.tmp 55)), (7, (Operand.tmp 58))], _, _, _, none⟩) (v := (.agg #[.int .i64 Q.fr, .int .i64 Q.dt, .int .u32 Q.sq, .int .u32 Q.ak, .int .i64 Q.fl, .int .i64 Q.wi, .int .i64 0, .string Q.da])) rfl (by kernel_rfl) (by kernel_rfl) (by kernel_rfl) (fun _ _ _ h => h) (Or.inl ⟨by rfl, fun w' h' => ?_⟩) S6 ?_
              · clear h'
                go_simp
              simp only [Act.put]
              refine wpAnyH_ready (rs := [19]) (by kernel_rfl) (by simp) ?_
              refine AllReadyH.cons rfl (fun K hK => ?_) AllReadyH.nil
              obtain ⟨hst, S9⟩ := RN6.put Q
              have S7 : SgRoom (v6.setRow x5 (sgC Q)) n := S6.kept (setRow_other _ _ _ _ (Nat.ne_of_lt hl5))
              have BV7 := Lib.hid (below_setRow BV6.out (Nat.le_trans HN.out (Nat.le_of_lt hl5)) (sgC Q))
              refine upon_store0 47 _ _ rfl rfl (.agg #[.int .i64 Q.fr, .int .i64 Q.dt, .int .u32 Q.sq, .int .u32 Q.ak, .int .i64 Q.fl, .int .i64 Q.wi, .int .i64 0, .string Q.da]) x5 rfl rfl (by rw [← HQC.out]; exact hst) ?_
              refine hK.out _ _ S7 (fun _ => ?_)
              clear hK K
              refine wpAnyH_done (by kernel_rfl) (NoPanic.normal ?_) _
              go_wp2_with fail
              go_meet
              case rel => exact ⟨x5, rfl, hl5, Lib.hid S9, Lib.hid S7, BV7⟩
          · obtain ⟨x4, hx4⟩ : ∃ x, x = v3.heap.size := ⟨_, rfl⟩
            have hl4 : n < x4 := by rw [hx4]; exact S3.lt
            have RN4 : SgRoom (v3.alloc (.cells #[.int .i64 0, .int .i64 0, .int .u32 0, .int .u32 0, .int .i64 0, .int .i64 0, .int .i64 0, .string ⟨#[]⟩] 47)) x4 := sgroom_new _ _ _ rfl hx4
            have S4 : SgRoom (v3.alloc (.cells #[.int .i64 0, .int .i64 0, .int .u32 0, .int .u32 0, .int .i64 0, .int .i64 0, .int .i64 0, .string ⟨#[]⟩] 47)) n := S3.kept (((Below.refl _ _).alloc (Nat.le_refl _) _).block _ S3.lt)
            have BV4 := bstep BV3 ((Below.refl v3.heap.size v3).alloc (Nat.le_refl _) (.cells #[.int .i64 0, .int .i64 0, .int .u32 0, .int .u32 0, .int .i64 0, .int .i64 0, .int .i64 0, .string ⟨#[]⟩] 47))
            go_simp
            rw [← hx4]
            generalize v3.alloc _ = v4 at RN4 S4 BV4 ⊢
            clear hx4
            refine hK.out _ _ S4 (fun _ => ?_)
            clear hK K
            refine wpAnyH_ready (rs := [7]) (by kernel_rfl) (by simp) ?_
            refine AllReadyH.cons rfl (fun K hK => ?_) AllReadyH.nil
            go_simp
            refine (kD.out _).mono ?_
            rintro e v5 ⟨rfl, b5⟩
            have S5 : SgRoom v5 n := S4.grow b5
            have BV5 := bstep BV4 b5
            have RN5 := RN4.grow b5
            clear b5
            go_simp
            refine hK.out _ _ S5 (fun _ => ?_)
            clear hK K
            refine wpAnyH_ready (rs := [13]) (by kernel_rfl) (by simp) ?_
            refine AllReadyH.cons rfl (fun K hK => ?_) AllReadyH.nil
            go_simp
            refine (kE.out _).mono ?_
            rintro e v6 ⟨rfl, b6⟩
            have S6 : SgRoom v6 n := S5.grow b6
            have BV6 := bstep BV5 b6
            have RN6 := RN5.grow b6
            clear b6
            go_simp
            refine hK.out _ _ S6 (fun _ => ?_)
            clear hK K
            refine wpAnyH_take (i := 17) (oi := ⟨some 59, Op.build 47 #[(0, (Operand.tmp 43)), (1, (Operand.tmp 45)), (2, (Operand.tmp 47)), (3, (Operand.tmp 49)), (4, (Operand.tmp 53)), (5, (Operand.tmp 55)), (7, (Operand.tmp 58))], _, _, _, none⟩) (v := (.agg #[.int .i64 Q.fr, .int .i64 Q.dt, .int .u32 Q.sq, .int .u32 Q.ak, .int .i64 Q.fl, .int .i64 Q.wi, .int .i64 0, .string Q.da])) rfl (by kernel_rfl) (by kernel_rfl) (by kernel_rfl) (fun _ _ _ h => h) (Or.inl ⟨by rfl, fun w' h' => ?_⟩) S6 ?_
            · clear h'
              go_simp
            simp only [Act.put]
            refine wpAnyH_ready (rs := [19]) (by kernel_rfl) (by simp) ?_
            refine AllReadyH.cons rfl (fun K hK => ?_) AllReadyH.nil
            obtain ⟨hst, S9⟩ := RN6.put Q
            have S7 : SgRoom (v6.setRow x4 (sgC Q)) n := S6.kept (setRow_other _ _ _ _ (Nat.ne_of_lt hl4))
            have BV7 := Lib.hid (below_setRow BV6.out (Nat.le_trans HN.out (Nat.le_of_lt hl4)) (sgC Q))
            refine upon_store0 47 _ _ rfl rfl (.agg #[.int .i64 Q.fr, .int .i64 Q.dt, .int .u32 Q.sq, .int .u32 Q.ak, .int .i64 Q.fl, .int .i64 Q.wi, .int .i64 0, .string Q.da]) x4 rfl rfl (by rw [← HQC.out]; exact hst) ?_
            refine hK.out _ _ S7 (fun _ => ?_)
            clear hK K
            refine wpAnyH_done (by kernel_rfl) (NoPanic.normal ?_) _
            go_wp2_with fail
            go_meet
            case rel => exact ⟨x4, rfl, hl4, Lib.hid S9, Lib.hid S7, BV7⟩
        · obtain ⟨x3, hx3⟩ : ∃ x, x = v2.heap.size := ⟨_, rfl⟩
          have hl3 : n < x3 := by rw [hx3]; exact S2.lt
          have RN3 : SgRoom (v2.alloc (.cells #[.int .i64 0, .int .i64 0, .int .u32 0, .int .u32 0, .int .i64 0, .int .i64 0, .int .i64 0, .string ⟨#[]⟩] 47)) x3 := sgroom_new _ _ _ rfl hx3
          have S3 : SgRoom (v2.alloc (.cells #[.int .i64 0, .int .i64 0, .int .u32 0, .int .u32 0, .int .i64 0, .int .i64 0, .int .i64 0, .string ⟨#[]⟩] 47)) n := S2.kept (((Below.refl _ _).alloc (Nat.le_refl _) _).block _ S2.lt)
          have BV3 := bstep BV2 ((Below.refl v2.heap.size v2).alloc (Nat.le_refl _) (.cells #[.int .i64 0, .int .i64 0, .int .u32 0, .int .u32 0, .int .i64 0, .int .i64 0, .int .i64 0, .string ⟨#[]⟩] 47))
          go_simp
          rw [← hx3]
          generalize v2.alloc _ = v3 at RN3 S3 BV3 ⊢
          clear hx3
          refine hK.out _ _ S3 (fun _ => ?_)
          clear hK K
          refine wpAnyH_ready (rs := [5]) (by kernel_rfl) (by simp) ?_
          refine AllReadyH.cons rfl (fun K hK => ?_) AllReadyH.nil
          go_simp
          refine (kC.out _).mono ?_
          rintro e v4 ⟨rfl, b4⟩
          have S4 : SgRoom v4 n := S3.grow b4
          have BV4 := bstep BV3 b4
          have RN4 := RN3.grow b4
          clear b4
          go_simp
          refine hK.out _ _ S4 (fun _ => ?_)
          clear hK K
          refine wpAnyH_ready (rs := [7]) (by kernel_rfl) (by simp) ?_
          refine AllReadyH.cons rfl (fun K hK => ?_) AllReadyH.nil
          go_simp
          refine (kD.out _).mono ?_
          rintro e v5 ⟨rfl, b5⟩
          have S5 : SgRoom v5 n := S4.grow b5
          have BV5 := bstep BV4 b5
          have RN5 := RN4.grow b5
          clear b5
          go_simp
          refine hK.out _ _ S5 (fun _ => ?_)
          clear hK K
          refine wpAnyH_ready (rs := [13]) (by kernel_rfl) (by simp) ?_
          refine AllReadyH.cons rfl (fun K hK => ?_) AllReadyH.nil
          go_simp
          refine (kE.out _).mono ?_
          rintro e v6 ⟨rfl, b6⟩
          have S6 : SgRoom v6 n := S5.grow b6
          have BV6 := bstep BV5 b6
          have RN6 := RN5.grow b6
          clear b6
          go_simp
          refine hK.out _ _ S6 (fun _ => ?_)
          clear hK K
          refine wpAnyH_take (i := 17) (oi := ⟨some 59, Op.build 47 #[(0, (Operand.tmp 43)), (1, (Operand.tmp 45)), (2, (Operand.tmp 47)), (3, (Operand.tmp 49)), (4, (Operand.tmp 53)), (5, (Operand.tmp 55)), (7, (Operand.tmp 58))], _, _, _, none⟩) (v := (.agg #[.int .i64 Q.fr, .int .i64 Q.dt, .int .u32 Q.sq, .int .u32 Q.ak, .int .i64 Q.fl, .int .i64 Q.wi, .int .i64 0, .string Q.da])) rfl (by kernel_rfl) (by kernel_rfl) (by kernel_rfl) (fun _ _ _ h => h) (Or.inl ⟨by rfl, fun w' h' => ?_⟩) S6 ?_
          · clear h'
            go_simp
          simp only [Act.put]
          refine wpAnyH_ready (rs := [19]) (by kernel_rfl) (by simp) ?_
          refine AllReadyH.cons rfl (fun K hK => ?_) AllReadyH.nil
          obtain ⟨hst, S9⟩ := RN6.put Q
          have S7 : SgRoom (v6.setRow x3 (sgC Q)) n := S6.kept (setRow_other _ _ _ _ (Nat.ne_of_lt hl3))
          have BV7 := Lib.hid (below_setRow BV6.out (Nat.le_trans HN.out (Nat.le_of_lt hl3)) (sgC Q))
          refine upon_store0 47 _ _ rfl rfl (.agg #[.int .i64 Q.fr, .int .i64 Q.dt, .int .u32 Q.sq, .int .u32 Q.ak, .int .i64 Q.fl, .int .i64 Q.wi, .int .i64 0, .string Q.da]) x3 rfl rfl (by rw [← HQC.out]; exact hst) ?_
          refine hK.out _ _ S7 (fun _ => ?_)
          clear hK K
          refine wpAnyH_done (by kernel_rfl) (NoPanic.normal ?_) _
          go_wp2_with fail
          go_meet
          case rel => exact ⟨x3, rfl, hl3, Lib.hid S9, Lib.hid S7, BV7⟩
      · obtain ⟨x2, hx2⟩ : ∃ x, x = v1.heap.size := ⟨_, rfl⟩
        have hl2 : n < x2 := by rw [hx2]; exact S1.lt
        have RN2 : SgRoom (v1.alloc (.cells #[.int .i64 0, .int .i64 0, .int .u32 0, .int .u32 0, .int .i64 0, .int .i64 0, .int .i64 0, .string ⟨#[]⟩] 47)) x2 := sgroom_new _ _ _ rfl hx2
        have S2 : SgRoom (v1.alloc (.cells #[.int .i64 0, .int .i64 0, .int .u32 0, .int .u32 0, .int .i64 0, .int .i64 0, .int .i64 0, .string ⟨#[]⟩] 47)) n := S1.kept (((Below.refl _ _).alloc (Nat.le_refl _) _).block _ S1.lt)
        have BV2 := bstep BV1 ((Below.refl v1.heap.size v1).alloc (Nat.le_refl _) (.cells #[.int .i64 0, .int .i64 0, .int .u32 0, .int .u32 0, .int .i64 0, .int .i64 0, .int .i64 0, .string ⟨#[]⟩] 47))
        go_simp
        rw [← hx2]
        generalize v1.alloc _ = v2 at RN2 S2 BV2 ⊢
        clear hx2
        refine hK.out _ _ S2 (fun _ => ?_)
        clear hK K
        refine wpAnyH_ready (rs := [3]) (by kernel_rfl) (by simp) ?_
        refine AllReadyH.cons rfl (fun K hK => ?_) AllReadyH.nil
        go_simp
        refine (kB.out _).mono ?_
        rintro e v3 ⟨rfl, b3⟩
        have S3 : SgRoom v3 n := S2.grow b3
        have BV3 := bstep BV2 b3
        have RN3 := RN2.grow b3
        clear b3
        go_simp
        refine hK.out _ _ S3 (fun _ => ?_)
        clear hK K
        refine wpAnyH_ready (rs := [5]) (by kernel_rfl) (by simp) ?_
        refine AllReadyH.cons rfl (fun K hK => ?_) AllReadyH.nil
        go_simp
        refine (kC.out _).mono ?_
        rintro e v4 ⟨rfl, b4⟩
        have S4 : SgRoom v4 n := S3.grow b4
        have BV4 := bstep BV3 b4
        have RN4 := RN3.grow b4
        clear b4
        go_simp
        refine hK.out _ _ S4 (fun _ => ?_)
        clear hK K
        refine wpAnyH_ready (rs := [7]) (by kernel_rfl) (by simp) ?_
        refine AllReadyH.cons rfl (fun K hK => ?_) AllReadyH.nil
        go_simp
        refine (kD.out _).mono ?_
        rintro e v5 ⟨rfl, b5⟩
        have S5 : SgRoom v5 n := S4.grow b5
        have BV5 := bstep BV4 b5
        have RN5 := RN4.grow b5
        clear b5
        go_simp
        refine hK.out _ _ S5 (fun _ => ?_)
        clear hK K
        refine wpAnyH_ready (rs := [13]) (by kernel_rfl) (by simp) ?_
        refine AllReadyH.cons rfl (fun K hK => ?_) AllReadyH.nil
        go_simp
        refine (kE.out _).mono ?_
        rintro e v6 ⟨rfl, b6⟩
        have S6 : SgRoom v6 n := S5.grow b6
        have BV6 := bstep BV5 b6
        have RN6 := RN5.grow b6
        clear b6
        go_simp
        refine hK.out _ _ S6 (fun _ => ?_)
        clear hK K
        refine wpAnyH_take (i := 17) (oi := ⟨some 59, Op.build 47 #[(0, (Operand.tmp 43)), (1, (Operand.tmp 45)), (2, (Operand.tmp 47)), (3, (Operand.tmp 49)), (4, (Operand.tmp 53)), (5, (Operand.tmp 55)), (7, (Operand.tmp 58))], _, _, _, none⟩) (v := (.agg #[.int .i64 Q.fr, .int .i64 Q.dt, .int .u32 Q.sq, .int .u32 Q.ak, .int .i64 Q.fl, .int .i64 Q.wi, .int .i64 0, .string Q.da])) rfl (by kernel_rfl) (by kernel_rfl) (by kernel_rfl) (fun _ _ _ h => h) (Or.inl ⟨by rfl, fun w' h' => ?_⟩) S6 ?_
        · clear h'
          go_simp
        simp only [Act.put]
        refine wpAnyH_ready (rs := [19]) (by kernel_rfl) (by simp) ?_
        refine AllReadyH.cons rfl (fun K hK => ?_) AllReadyH.nil
        obtain ⟨hst, S9⟩ := RN6.put Q
        have S7 : SgRoom (v6.setRow x2 (sgC Q)) n := S6.kept (setRow_other _ _ _ _ (Nat.ne_of_lt hl2))
        have BV7 := Lib.hid (below_setRow BV6.out (Nat.le_trans HN.out (Nat.le_of_lt hl2)) (sgC Q))
        refine upon_store0 47 _ _ rfl rfl (.agg #[.int .i64 Q.fr, .int .i64 Q.dt, .int .u32 Q.sq, .int .u32 Q.ak, .int .i64 Q.fl, .int .i64 Q.wi, .int .i64 0, .string Q.da]) x2 rfl rfl (by rw [← HQC.out]; exact hst) ?_
        refine hK.out _ _ S7 (fun _ => ?_)
        clear hK K
        refine wpAnyH_done (by kernel_rfl) (NoPanic.normal ?_) _
        go_wp2_with fail
        go_meet
        case rel => exact ⟨x2, rfl, hl2, Lib.hid S9, Lib.hid S7, BV7⟩
    · obtain ⟨x1, hx1⟩ : ∃ x, x = V.heap.size := ⟨_, rfl⟩
      have hl1 : n < x1 := by rw [hx1]; exact hS.lt
      have RN1 : SgRoom (V.alloc (.cells #[.int .i64 0, .int .i64 0, .int .u32 0, .int .u32 0, .int .i64 0, .int .i64 0, .int .i64 0, .string ⟨#[]⟩] 47)) x1 := sgroom_new _ _ _ rfl hx1
      have S1 : SgRoom (V.alloc (.cells #[.int .i64 0, .int .i64 0, .int .u32 0, .int .u32 0, .int .i64 0, .int .i64 0, .int .i64 0, .string ⟨#[]⟩] 47)) n := hS.kept (((Below.refl _ _).alloc (Nat.le_refl _) _).block _ hS.lt)
      have BV1 := bstep BV0 ((Below.refl V.heap.size V).alloc (Nat.le_refl _) (.cells #[.int .i64 0, .int .i64 0, .int .u32 0, .int .u32 0, .int .i64 0, .int .i64 0, .int .i64 0, .string ⟨#[]⟩] 47))
      go_simp
      rw [← hx1]
      generalize V.alloc _ = v1 at RN1 S1 BV1 ⊢
      clear hx1
      refine hK.out _ _ S1 (fun _ => ?_)
      clear hK K
      refine wpAnyH_ready (rs := [1]) (by kernel_rfl) (by simp) ?_
      refine AllReadyH.cons rfl (fun K hK => ?_) AllReadyH.nil
      go_simp
      refine (kA.out _).mono ?_
      rintro e v2 ⟨rfl, b2⟩
      have S2 : SgRoom v2 n := S1.grow b2
      have BV2 := bstep BV1 b2
      have RN2 := RN1.grow b2
      clear b2
      go_simp
      refine hK.out _ _ S2 (fun _ => ?_)
      clear hK K
      refine wpAnyH_ready (rs := [3]) (by kernel_rfl) (by simp) ?_
      refine AllReadyH.cons rfl (fun K hK => ?_) AllReadyH.nil
      go_simp
      refine (kB.out _).mono ?_
      rintro e v3 ⟨rfl, b3⟩
      have S3 : SgRoom v3 n := S2.grow b3
      have BV3 := bstep BV2 b3
      have RN3 := RN2.grow b3
      clear b3
      go_simp
      refine hK.out _ _ S3 (fun _ => ?_)
      clear hK K
      refine wpAnyH_ready (rs := [5]) (by kernel_rfl) (by simp) ?_
      refine AllReadyH.cons rfl (fun K hK => ?_) AllReadyH.nil
      go_simp
      refine (kC.out _).mono ?_
      rintro e v4 ⟨rfl, b4⟩
      have S4 : SgRoom v4 n := S3.grow b4
      have BV4 := bstep BV3 b4
      have RN4 := RN3.grow b4
      clear b4
      go_simp
      refine hK.out _ _ S4 (fun _ => ?_)
      clear hK K
      refine wpAnyH_ready (rs := [7]) (by kernel_rfl) (by simp) ?_
      refine AllReadyH.cons rfl (fun K hK => ?_) AllReadyH.nil
      go_simp
      refine (kD.out _).mono ?_
      rintro e v5 ⟨rfl, b5⟩
      have S5 : SgRoom v5 n := S4.grow b5
      have BV5 := bstep BV4 b5
      have RN5 := RN4.grow b5
      clear b5
      go_simp
      refine hK.out _ _ S5 (fun _ => ?_)
      clear hK K
      refine wpAnyH_ready (rs := [13]) (by kernel_rfl) (by simp) ?_
      refine AllReadyH.cons rfl (fun K hK => ?_) AllReadyH.nil
      go_simp
      refine (kE.out _).mono ?_
      rintro e v6 ⟨rfl, b6⟩
      have S6 : SgRoom v6 n := S5.grow b6
      have BV6 := bstep BV5 b6
      have RN6 := RN5.grow b6
      clear b6
      go_simp
      refine hK.out _ _ S6 (fun _ => ?_)
      clear hK K
      refine wpAnyH_take (i := 17) (oi := ⟨some 59, Op.build 47 #[(0, (Operand.tmp 43)), (1, (Operand.tmp 45)), (2, (Operand.tmp 47)), (3, (Operand.tmp 49)), (4, (Operand.tmp 53)), (5, (Operand.tmp 55)), (7, (Operand.tmp 58))], _, _, _, none⟩) (v := (.agg #[.int .i64 Q.fr, .int .i64 Q.dt, .int .u32 Q.sq, .int .u32 Q.ak, .int .i64 Q.fl, .int .i64 Q.wi, .int .i64 0, .string Q.da])) rfl (by kernel_rfl) (by kernel_rfl) (by kernel_rfl) (fun _ _ _ h => h) (Or.inl ⟨by rfl, fun w' h' => ?_⟩) S6 ?_
      · clear h'
        go_simp
      simp only [Act.put]
      refine wpAnyH_ready (rs := [19]) (by kernel_rfl) (by simp) ?_
      refine AllReadyH.cons rfl (fun K hK => ?_) AllReadyH.nil
      obtain ⟨hst, S9⟩ := RN6.put Q
      have S7 : SgRoom (v6.setRow x1 (sgC Q)) n := S6.kept (setRow_other _ _ _ _ (Nat.ne_of_lt hl1))
      have BV7 := Lib.hid (below_setRow BV6.out (Nat.le_trans HN.out (Nat.le_of_lt hl1)) (sgC Q))
      refine upon_store0 47 _ _ rfl rfl (.agg #[.int .i64 Q.fr, .int .i64 Q.dt, .int .u32 Q.sq, .int .u32 Q.ak, .int .i64 Q.fl, .int .i64 Q.wi, .int .i64 0, .string Q.da]) x1 rfl rfl (by rw [← HQC.out]; exact hst) ?_
      refine hK.out _ _ S7 (fun _ => ?_)
      clear hK K
      refine wpAnyH_done (by kernel_rfl) (NoPanic.normal ?_) _
      go_wp2_with fail
      go_meet
      case rel => exact ⟨x1, rfl, hl1, Lib.hid S9, Lib.hid S7, BV7⟩
  case rest =>
    obtain ⟨x, rfl, hnx, PX, RX, BX⟩ := hcut
    have hne : n ≠ x := by omega
    clear RM3 BL3 kA kB kC kD kE HX G13 WX AX GA GB HD HQC
    cases syn with
    | false =>
      have a2 := A2.out
      rw [if_neg (of_decide_eq_false HSY.out)] at a2
      have e2 : Q2 = Q := HQ2.out
      have c4 := PX.out.fl
      have hx0 : SgAt wc x Q2 := by rw [e2]; exact PX.out
      clear HQ2 e2 PX
      obtain ⟨hst, S6⟩ := RX.out.put Q2
      have S6 := Lib.hid S6
      have B6 := Lib.hid (below_setRow BX.out HN.out (sgC Q2))
      go_wp2_with (first | (refine sg_ld (by rfl) (.tmp 12) rfl x rfl _ hx0 ?_) | (refine wpList_storeW 47 (.tmp 6) (.tmp 66) rfl rfl (.agg (sgC Q2)) n rfl rfl hst ?_))
      exact bodyPost_ret (v := .tuple #[.agg (sgC Q2), .int .i64 0]) (results_row _ 6 7 47 (by kernel_rfl) _ n _ _ _ _ rfl rfl S6.out Try.underlying47 rfl (by kernel_rfl)) rfl ⟨rfl, B6.out⟩
    | true =>
      have a2 := A2.out
      rw [if_pos (of_decide_eq_true HSY.out)] at a2
      have e2 : Q2 = { Q with ms := (M : Int) } := HQ2.out
      have c4 := PX.out.fl
      have c6 := PX.out.ms
      have f6 := PX.out.free 6
      go_upto_region 14 with fail
      have PX2 : Hid (SgAt (wc.setCell ⟨x, 6, none⟩ (.int .i64 (M : Int))) x Q2) := Lib.hid (by rw [e2]; exact PX.out.msSet _)
      have RX2 : Hid (SgRoom (wc.setCell ⟨x, 6, none⟩ (.int .i64 (M : Int))) n) := Lib.hid (RX.out.kept (by simp [World.setCell, Array.getElem?_modify, hne.symm]))
      have BX2 : Hid (Below w.heap.size w (wc.setCell ⟨x, 6, none⟩ (.int .i64 (M : Int)))) := Lib.hid (BX.out.setCell (show w.heap.size ≤ x by have := HN.out; omega) _)
      generalize wc.setCell _ _ = W5 at PX2 RX2 BX2 ⊢
      have hx0 := PX2.out
      clear c4 c6 f6 a2 HQ2 e2 PX PX2
      obtain ⟨hst, S6⟩ := RX2.out.put Q2
      have S6 := Lib.hid S6
      have B6 := Lib.hid (below_setRow BX2.out HN.out (sgC Q2))
      go_wp2_with (first | (refine sg_ld (by rfl) (.tmp 12) rfl x rfl _ hx0 ?_) | (refine wpList_storeW 47 (.tmp 6) (.tmp 66) rfl rfl (.agg (sgC Q2)) n rfl rfl hst ?_))
      exact bodyPost_ret (v := .tuple #[.agg (sgC Q2), .int .i64 0]) (results_row _ 6 7 47 (by kernel_rfl) _ n _ _ _ _ rfl rfl S6.out Try.underlying47 rfl (by kernel_rfl)) rfl ⟨rfl, B6.out⟩
theorem okS_hd (s : ByteArray) : okS s = if hdE s ≠ 0 then some (hdE s) else if 566 < s.size then some 3 else none := by
  unfold okS hdE
  by_cases h1 : s.size < 20
  · simp [h1]
  by_cases h2 : unS s.data.toList < 20
  · simp [h1, h2]
  by_cases h3 : s.size < unS s.data.toList
  · simp [h1, h2, h3]
  · simp [h1, h2, h3]
theorem sgRead_any (w : World) (s : ByteArray) (i j : Ip4) (hs : s.size ≤ 140737488355328) :
    Calls Try.prog 18 #[.string s, .agg (ipC i), .agg (ipC j)] w fun e w' => e = .returned (.tuple #[.agg (sgC (srP i j s)), .int .i64 (srE i j s)]) ∧ Below w.heap.size w w' := by
  have ho := okS_hd s
  by_cases h0 : hdE s = 0
  case neg =>
    have e1 : srE i j s = hdE s := by rw [srE, ho, if_pos h0]; rfl
    rw [srP, e1, if_neg h0]
    exact sgRead_head w s i j hs _ rfl h0
  rw [if_neg (fun h => h h0)] at ho
  by_cases h1 : 566 < s.size
  · have e1 : srE i j s = 3 := by rw [srE, ho, if_pos h1]; rfl
    rw [srP, e1, if_neg (by decide)]
    exact sgRead_long w s i j hs h0 h1
  rw [if_neg h1] at ho
  by_cases h2 : sumS i j s.data.toList = 0
  case neg =>
    have e1 : srE i j s = 9 := by rw [srE, ho]; simp [h2]
    rw [srP, e1, if_neg (by decide)]
    exact sgRead_sum w s i j h0 (by omega) _ rfl h2
  cases h3 : optS s with
  | none =>
    have e1 : srE i j s = 8 := by rw [srE, ho]; simp [h2, h3]
    rw [srP, e1, if_neg (by decide)]
    exact sgRead_opt w s i j h0 (by omega) h2 h3
  | some M =>
    have e1 : srE i j s = 0 := by rw [srE, ho]; simp [h2, h3]
    rw [srP, e1, if_pos rfl]
    have h := sgRead_yes w s i j h0 (by omega) h2 M h3 _ rfl _ rfl _ rfl
    have hq : (if decide (({ srQ s with ms := 0 } : Sg).fl / 2 % 2 = 1) = true then ({ ({ srQ s with ms := 0 } : Sg) with ms := (M : Int) } : Sg) else { srQ s with ms := 0 }) = srQ s := by
      have hfl : (({ srQ s with ms := 0 } : Sg).fl / 2 % 2 = 1) ↔ (bt s.data.toList 13 / 2 % 2 = 1) := by
        show (((bt s.data.toList 13 % 32 : Nat) : Int) / 2 % 2 = 1) ↔ _
        omega
      by_cases hc : bt s.data.toList 13 / 2 % 2 = 1
      · rw [if_pos (decide_eq_true (hfl.2 hc))]
        unfold srQ
        rw [if_pos hc, h3]
        rfl
      · rw [if_neg (fun e => hc (hfl.1 (of_decide_eq_true e)))]
        unfold srQ
        rw [if_neg hc]
    rw [hq] at h
    exact h

end Go.Proofs.Ytbjoibgkhooljaa
