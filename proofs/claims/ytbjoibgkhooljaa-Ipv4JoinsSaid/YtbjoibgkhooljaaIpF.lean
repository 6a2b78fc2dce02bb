/-
  Layer 8: a packet that is read, by the program. Conditions: a text has at most 2^47 bytes.
-/
import Derived.Test.YtbjoibgkhooljaaIpE
namespace Go.Proofs.Ytbjoibgkhooljaa
open Go.RowKit Go.Sort
set_option linter.unusedVariables false

theorem and_13 (n : Nat) (h : n < 65536) : bits .and .i64 (n : Int) 8191 = ((n % 8192 : Nat) : Int) := by
  have := bits_and_i64 n 8191 (by omega) (by decide)
  rw [show (n &&& 8191) = n % 8192 from Nat.and_two_pow_sub_one_eq_mod n 13] at this
  exact this
theorem and_pow (n i : Nat) : (n &&& 2 ^ i) = if n.testBit i = true then 2 ^ i else 0 := by
  apply Nat.eq_of_testBit_eq
  intro j
  rw [Nat.testBit_and, Nat.testBit_two_pow]
  by_cases h : i = j
  · subst h
    cases hb : n.testBit i <;> simp [Nat.testBit_two_pow_self]
  · by_cases hb : n.testBit i = true
    · rw [if_pos hb, Nat.testBit_two_pow]; simp [h]
    · rw [if_neg hb]; simp [h]
theorem and_bit (n i c : Nat) (h : n < 65536) (hi : c = 2 ^ i) (hc : c < 65536) : ∃ d : Nat, bits .and .i64 (n : Int) (c : Int) = (d : Int) ∧ ((d : Int) != 0) = decide (n / c % 2 = 1) := by
  refine ⟨n &&& c, bits_and_i64 n c (by omega) (by omega), ?_⟩
  have h0 : 0 < 2 ^ i := Nat.two_pow_pos i
  rw [hi, and_pow, Nat.testBit_eq_decide_div_mod_eq]
  by_cases hb : n / 2 ^ i % 2 = 1
  · rw [if_pos (decide_eq_true hb), decide_eq_true hb, bne_iff_ne]
    omega
  · rw [if_neg (by rw [decide_eq_false hb]; decide), decide_eq_false hb]
    rfl
theorem and_more (n : Nat) (h : n < 65536) : ∃ d : Nat, bits .and .i64 (n : Int) 8192 = (d : Int) ∧ ((d : Int) != 0) = decide (n / 8192 % 2 = 1) := and_bit n 13 8192 h (by decide) (by decide)
theorem and_top (n : Nat) (h : n < 65536) : ∃ d : Nat, bits .and .i64 (n : Int) 32768 = (d : Int) ∧ ((d : Int) != 0) = decide (32768 ≤ n) := by
  obtain ⟨d, h1, h2⟩ := and_bit n 15 32768 h (by decide) (by decide)
  refine ⟨d, h1, h2.trans ?_⟩
  rw [Bool.eq_iff_iff, decide_eq_true_eq, decide_eq_true_eq]
  omega

/-- What a text is read as, and why it is nothing. -/
def rdN (s : ByteArray) : Nat := 4 * (bt s.data.toList 0 - 64)
def rdQ (s : ByteArray) : Pd := ⟨wd s.data.toList 4, ipAt s.data.toList 12, ipAt s.data.toList 16, bt s.data.toList 9, bt s.data.toList 8, (wd s.data.toList 6 % 8192 * 8 : Nat), decide (wd s.data.toList 6 / 8192 % 2 = 1), s.extract (rdN s) (wd s.data.toList 2)⟩
def rqE (s : ByteArray) : Int := if rhE s = 0 then (if wd s.data.toList 2 < rdN s then 8 else if s.size < wd s.data.toList 2 then 7 else if (decide (32768 ≤ wd s.data.toList 6) || !mayB (rdQ s)) = true then 8 else 0) else rhE s
def rqP (s : ByteArray) : Pd := if rqE s = 0 then rdQ s else pdZ
theorem rhE_zero {s : ByteArray} (h : rhE s = 0) : 20 ≤ s.size ∧ 69 ≤ bt s.data.toList 0 ∧ bt s.data.toList 0 ≤ 79 ∧ rdN s ≤ s.size ∧ sumT (s.data.toList.take (rdN s)) = 0 ∧ rhN s = rdN s := by
  have hN : rhN s = rdN s := by rw [rhN, if_pos h]; rfl
  unfold rhE at h
  unfold rdN at *
  by_cases h1 : s.size < 20
  · rw [if_pos h1] at h; cases h
  rw [if_neg h1] at h
  by_cases h2 : bt s.data.toList 0 < 69 ∨ 79 < bt s.data.toList 0
  · rw [if_pos h2] at h; cases h
  rw [if_neg h2] at h
  by_cases h3 : s.size < 4 * (bt s.data.toList 0 - 64)
  · rw [if_pos h3] at h; cases h
  rw [if_neg h3] at h
  by_cases h4 : sumT (s.data.toList.take (4 * (bt s.data.toList 0 - 64))) = 0
  · exact ⟨by omega, by omega, by omega, by omega, h4, hN⟩
  · rw [if_neg h4] at h; cases h
set_option maxRecDepth 100000 in
set_option maxHeartbeats 4000000 in
theorem pdRead_head (w : World) (s : ByteArray) (hm : s.size ≤ 140737488355328) (E : Int) (hE : rhE s = E) (h0 : ¬ E = 0) :
    Calls Try.prog 31 #[.string s] w fun e w' => e = .returned (.tuple #[.agg (pdC pdZ), .int .i64 E]) ∧ Below w.heap.size w w' := by
  have kH := Lib.hid (fun w => rHead_any w s hm)
  rw [hE] at kH
  have hx : (E != 0) = true := by simpa using h0
  clear h0 hE
  go_enter Try.func31, Try.ntmps31
  go_upto_region 1 with fail
  have RM : Hid (PdRoom (w.alloc (.cells #[.int .i64 0, .int .u8 0, .int .u8 0, .int .u8 0, .int .u8 0, .int .u8 0, .int .u8 0, .int .u8 0, .int .u8 0, .int .i64 0, .int .i64 0, .int .i64 0, .bool false, .string ⟨#[]⟩] 35)) w.heap.size) := Lib.hid (pdroom_new _ _ _ rfl rfl)
  have BL : Hid (Below w.heap.size w (w.alloc (.cells #[.int .i64 0, .int .u8 0, .int .u8 0, .int .u8 0, .int .u8 0, .int .u8 0, .int .u8 0, .int .u8 0, .int .u8 0, .int .i64 0, .int .i64 0, .int .i64 0, .bool false, .string ⟨#[]⟩] 35))) := Lib.hid ((Below.refl _ _).alloc (Nat.le_refl _) _)
  generalize w.alloc _ = W1 at RM BL ⊢
  go_wp2_with fail
  refine (kH.out _).mono ?_
  rintro e w2 ⟨rfl, b2⟩
  have RM2 := Lib.hid (RM.out.grow b2)
  have BL2 := bstep BL b2
  clear b2 RM BL
  obtain ⟨hst, S6⟩ := RM2.out.put pdZ
  have S6 := Lib.hid S6
  have B6 := Lib.hid (below_setRow BL2.out (Nat.le_refl _) (pdC pdZ))
  go_wp2_with ((refine wpList_storeW 35 _ _ rfl rfl _ w.heap.size rfl rfl hst ?_))
  exact bodyPost_ret (v := .tuple #[.agg (pdC pdZ), .int .i64 E]) (results_row _ 2 3 35 (by kernel_rfl) _ w.heap.size _ _ _ _ rfl rfl S6.out Try.underlying35 rfl (by kernel_rfl)) rfl ⟨rfl, B6.out⟩
set_option maxRecDepth 100000 in
set_option maxHeartbeats 4000000 in
theorem pdRead_less (w : World) (s : ByteArray) (hm : s.size ≤ 140737488355328) (h0 : rhE s = 0) (N ALL : Nat) (hN : rdN s = N) (hA : wd s.data.toList 2 = ALL) (h1 : ALL < N) :
    Calls Try.prog 31 #[.string s] w fun e w' => e = .returned (.tuple #[.agg (pdC pdZ), .int .i64 8]) ∧ Below w.heap.size w w' := by
  obtain ⟨z20, -, -, zN, -, zE⟩ := rhE_zero h0
  have kH := Lib.hid (fun w => rHead_any w s hm)
  rw [h0, zE, hN] at kH
  rw [hN] at zN
  have kA : Hid (∀ w, Calls Try.prog 69 #[.string s, .int .i64 2] w fun e w' => e = .returned (.int .i64 (wd s.data.toList 2)) ∧ Below w.heap.size w w') := Lib.hid (fun w => word_any w s 2 (by omega) (by omega))
  rw [hA] at kA
  have d1 : decide (ALL < N) = true := decide_eq_true (by omega)
  clear h0 hN hA h1 z20 zN zE
  go_enter Try.func31, Try.ntmps31
  go_upto_region 1 with fail
  have RM : Hid (PdRoom (w.alloc (.cells #[.int .i64 0, .int .u8 0, .int .u8 0, .int .u8 0, .int .u8 0, .int .u8 0, .int .u8 0, .int .u8 0, .int .u8 0, .int .i64 0, .int .i64 0, .int .i64 0, .bool false, .string ⟨#[]⟩] 35)) w.heap.size) := Lib.hid (pdroom_new _ _ _ rfl rfl)
  have BL : Hid (Below w.heap.size w (w.alloc (.cells #[.int .i64 0, .int .u8 0, .int .u8 0, .int .u8 0, .int .u8 0, .int .u8 0, .int .u8 0, .int .u8 0, .int .u8 0, .int .i64 0, .int .i64 0, .int .i64 0, .bool false, .string ⟨#[]⟩] 35))) := Lib.hid ((Below.refl _ _).alloc (Nat.le_refl _) _)
  generalize w.alloc _ = W1 at RM BL ⊢
  go_wp2_with fail
  refine (kH.out _).mono ?_
  rintro e w2 ⟨rfl, b2⟩
  have RM2 := Lib.hid (RM.out.grow b2)
  have BL2 := bstep BL b2
  clear b2 RM BL
  go_wp2_with fail
  refine (kA.out _).mono ?_
  rintro e w3 ⟨rfl, b3⟩
  have RM3 := Lib.hid (RM2.out.grow b3)
  have BL3 := bstep BL2 b3
  clear b3 RM2 BL2
  obtain ⟨hst, S6⟩ := RM3.out.put pdZ
  have S6 := Lib.hid S6
  have B6 := Lib.hid (below_setRow BL3.out (Nat.le_refl _) (pdC pdZ))
  go_wp2_with ((refine wpList_storeW 35 _ _ rfl rfl _ w.heap.size rfl rfl hst ?_))
  exact bodyPost_ret (v := .tuple #[.agg (pdC pdZ), .int .i64 8]) (results_row _ 2 3 35 (by kernel_rfl) _ w.heap.size _ _ _ _ rfl rfl S6.out Try.underlying35 rfl (by kernel_rfl)) rfl ⟨rfl, B6.out⟩
set_option maxRecDepth 100000 in
set_option maxHeartbeats 4000000 in
theorem pdRead_more (w : World) (s : ByteArray) (hm : s.size ≤ 140737488355328) (h0 : rhE s = 0) (N ALL : Nat) (hN : rdN s = N) (hA : wd s.data.toList 2 = ALL) (h1 : ¬ ALL < N) (h2 : s.size < ALL) :
    Calls Try.prog 31 #[.string s] w fun e w' => e = .returned (.tuple #[.agg (pdC pdZ), .int .i64 7]) ∧ Below w.heap.size w w' := by
  obtain ⟨z20, -, -, zN, -, zE⟩ := rhE_zero h0
  have kH := Lib.hid (fun w => rHead_any w s hm)
  rw [h0, zE, hN] at kH
  rw [hN] at zN
  have kA : Hid (∀ w, Calls Try.prog 69 #[.string s, .int .i64 2] w fun e w' => e = .returned (.int .i64 (wd s.data.toList 2)) ∧ Below w.heap.size w w') := Lib.hid (fun w => word_any w s 2 (by omega) (by omega))
  rw [hA] at kA
  have d1 : decide (ALL < N) = false := decide_eq_false (by omega)
  have d2 : decide (s.size < ALL) = true := decide_eq_true (by omega)
  clear h0 hN hA h1 h2 z20 zN zE
  go_enter Try.func31, Try.ntmps31
  go_upto_region 1 with fail
  have RM : Hid (PdRoom (w.alloc (.cells #[.int .i64 0, .int .u8 0, .int .u8 0, .int .u8 0, .int .u8 0, .int .u8 0, .int .u8 0, .int .u8 0, .int .u8 0, .int .i64 0, .int .i64 0, .int .i64 0, .bool false, .string ⟨#[]⟩] 35)) w.heap.size) := Lib.hid (pdroom_new _ _ _ rfl rfl)
  have BL : Hid (Below w.heap.size w (w.alloc (.cells #[.int .i64 0, .int .u8 0, .int .u8 0, .int .u8 0, .int .u8 0, .int .u8 0, .int .u8 0, .int .u8 0, .int .u8 0, .int .i64 0, .int .i64 0, .int .i64 0, .bool false, .string ⟨#[]⟩] 35))) := Lib.hid ((Below.refl _ _).alloc (Nat.le_refl _) _)
  generalize w.alloc _ = W1 at RM BL ⊢
  go_wp2_with fail
  refine (kH.out _).mono ?_
  rintro e w2 ⟨rfl, b2⟩
  have RM2 := Lib.hid (RM.out.grow b2)
  have BL2 := bstep BL b2
  clear b2 RM BL
  go_wp2_with fail
  refine (kA.out _).mono ?_
  rintro e w3 ⟨rfl, b3⟩
  have RM3 := Lib.hid (RM2.out.grow b3)
  have BL3 := bstep BL2 b3
  clear b3 RM2 BL2
  obtain ⟨hst, S6⟩ := RM3.out.put pdZ
  have S6 := Lib.hid S6
  have B6 := Lib.hid (below_setRow BL3.out (Nat.le_refl _) (pdC pdZ))
  go_wp2_with ((refine wpList_storeW 35 _ _ rfl rfl _ w.heap.size rfl rfl hst ?_))
  exact bodyPost_ret (v := .tuple #[.agg (pdC pdZ), .int .i64 7]) (results_row _ 2 3 35 (by kernel_rfl) _ w.heap.size _ _ _ _ rfl rfl S6.out Try.underlying35 rfl (by kernel_rfl)) rfl ⟨rfl, B6.out⟩
set_option maxRecDepth 100000 in
set_option maxHeartbeats 4000000 in
theorem pdRead_of (w : World) (s : ByteArray) (hm : s.size ≤ 140737488355328) (h0 : rhE s = 0) (N ALL : Nat) (hN : rdN s = N) (hA : wd s.data.toList 2 = ALL) (PL : Nat) (hP : wd s.data.toList 6 = PL) (h1 : ¬ ALL < N) (h2 : ¬ s.size < ALL) (Q : Pd) (hQ : Q = rdQ s) (bad : Bool) (hbad : (decide (32768 ≤ PL) || !mayB Q) = bad) (R : Pd) (E : Int) (hR : R = if bad = true then pdZ else Q) (hE : E = if bad = true then 8 else 0) :
    Calls Try.prog 31 #[.string s] w fun e w' => e = .returned (.tuple #[.agg (pdC R), .int .i64 E]) ∧ Below w.heap.size w w' := by
  obtain ⟨z20, -, -, zN, -, zE⟩ := rhE_zero h0
  have kH := Lib.hid (fun w => rHead_any w s hm)
  rw [h0, zE, hN] at kH
  rw [hN] at zN
  have kA : Hid (∀ w, Calls Try.prog 69 #[.string s, .int .i64 2] w fun e w' => e = .returned (.int .i64 (wd s.data.toList 2)) ∧ Below w.heap.size w w') := Lib.hid (fun w => word_any w s 2 (by omega) (by omega))
  rw [hA] at kA
  have zL : s.data.toList.length = s.size := by rw [Array.length_toList]; rfl
  have hPl : PL < 65536 := by rw [← hP]; exact wd_lt _ _
  have d1 : decide (ALL < N) = false := decide_eq_false (by omega)
  have d2 : decide (s.size < ALL) = false := decide_eq_false (by omega)
  have gA := d1
  have kP : Hid (∀ w, Calls Try.prog 69 #[.string s, .int .i64 6] w fun e w' => e = .returned (.int .i64 (wd s.data.toList 6)) ∧ Below w.heap.size w w') := Lib.hid (fun w => word_any w s 6 (by omega) (by omega))
  rw [hP] at kP
  have q1 : Q.id = (wd s.data.toList 4 : Int) := by rw [hQ]; rfl
  have kI : Hid (∀ w, Calls Try.prog 69 #[.string s, .int .i64 4] w fun e w' => e = .returned (.int .i64 (wd s.data.toList 4)) ∧ Below w.heap.size w w') := Lib.hid (fun w => word_any w s 4 (by omega) (by omega))
  rw [← q1] at kI
  have kS : Hid (∀ w, Calls Try.prog 70 #[.string (s.extract 12 s.size)] w fun e w' => e = .returned (.agg #[.int .u8 (Q.sr.a.toNat : Int), .int .u8 (Q.sr.b.toNat : Int), .int .u8 (Q.sr.c.toNat : Int), .int .u8 (Q.sr.d.toNat : Int)]) ∧ Below w.heap.size w w') := Lib.hid (fun w => addr_any w _ _ (s.data.toList.drop 16) (by rw [extract_list, hQ]; exact ip_at _ 12 (by omega)))
  have kD : Hid (∀ w, Calls Try.prog 70 #[.string (s.extract 16 s.size)] w fun e w' => e = .returned (.agg #[.int .u8 (Q.ds.a.toNat : Int), .int .u8 (Q.ds.b.toNat : Int), .int .u8 (Q.ds.c.toNat : Int), .int .u8 (Q.ds.d.toNat : Int)]) ∧ Below w.heap.size w w') := Lib.hid (fun w => addr_any w _ _ (s.data.toList.drop 20) (by rw [extract_list, hQ]; exact ip_at _ 16 (by omega)))
  obtain ⟨X9, x9⟩ : ∃ X, X = bt s.data.toList 9 := ⟨_, rfl⟩
  obtain ⟨X8, x8⟩ : ∃ X, X = bt s.data.toList 8 := ⟨_, rfl⟩
  have b9 := bt_lt s.data.toList 9
  have b8 := bt_lt s.data.toList 8
  rw [← x9] at b9
  rw [← x8] at b8
  have h9 : 9 < s.size := by omega
  have h8 : 8 < s.size := by omega
  have HX9 : Hid ((s[9]'h9).toNat = X9) := Lib.hid (by rw [x9]; exact bt_at s 9 h9)
  have HX8 : Hid ((s[8]'h8).toNat = X8) := Lib.hid (by rw [x8]; exact bt_at s 8 h8)
  have G9 : Hid (9 < s.size ∧ 8 < s.size) := Lib.hid ⟨by omega, by omega⟩
  have W9 : Hid (IntKind.i64.wrap (X9 : Int) = Q.pr) := Lib.hid (by rw [IntWalk.i64_in _ (by omega), hQ, x9]; rfl)
  have W8 : Hid (IntKind.i64.wrap (X8 : Int) = Q.tl) := Lib.hid (by rw [IntWalk.i64_in _ (by omega), hQ, x8]; rfl)
  obtain ⟨PM, hPM⟩ : ∃ X, X = PL % 8192 := ⟨_, rfl⟩
  have A13 : Hid (bits .and .i64 (PL : Int) 8191 = (PM : Int)) := Lib.hid (by rw [hPM]; exact and_13 PL hPl)
  have WP : Hid (IntKind.i64.wrap ((PM : Int) * 8) = Q.ps) := Lib.hid (by rw [IntWalk.i64_in _ (by omega), hQ, rdQ, hP, hPM]; simp)
  obtain ⟨CM, cm1, cm2⟩ := and_more PL hPl
  have CM1 := Lib.hid cm1
  have CM2 : Hid (((CM : Int) != 0) = Q.mo) := Lib.hid (by rw [cm2, hQ, rdQ, hP])
  obtain ⟨CT, ct1, ct2⟩ := and_top PL hPl
  have HD : Hid (s.extract N ALL = Q.da) := Lib.hid (by rw [hQ, rdQ, hN, hA])
  have g12 : Hid (¬ (s.size : Int) < 12) := Lib.hid (by omega)
  have g16 : Hid (¬ (s.size : Int) < 16) := Lib.hid (by omega)
  have GA : Hid (¬ (ALL : Int) < (N : Int)) := Lib.hid (by omega)
  have GB : Hid (¬ (s.size : Int) < (ALL : Int)) := Lib.hid (by omega)
  have hQz : Q.da.size ≤ 140737488355328 := by rw [← HD.out, ByteArray.size_extract]; omega
  have HB := Lib.hid hbad
  have HR := Lib.hid hR
  have HE := Lib.hid hE
  have kM := Lib.hid (fun w => pMay_any w Q hQz)
  clear hbad hR hE hPM cm1 cm2 x9 x8 b9 b8 q1 gA hPl zL h0 hN hA hP h1 h2 z20 zN zE hQz hQ
  go_enter Try.func31, Try.ntmps31
  go_upto_region 1 with fail
  have RM : Hid (PdRoom (w.alloc (.cells #[.int .i64 0, .int .u8 0, .int .u8 0, .int .u8 0, .int .u8 0, .int .u8 0, .int .u8 0, .int .u8 0, .int .u8 0, .int .i64 0, .int .i64 0, .int .i64 0, .bool false, .string ⟨#[]⟩] 35)) w.heap.size) := Lib.hid (pdroom_new _ _ _ rfl rfl)
  have BL : Hid (Below w.heap.size w (w.alloc (.cells #[.int .i64 0, .int .u8 0, .int .u8 0, .int .u8 0, .int .u8 0, .int .u8 0, .int .u8 0, .int .u8 0, .int .u8 0, .int .i64 0, .int .i64 0, .int .i64 0, .bool false, .string ⟨#[]⟩] 35))) := Lib.hid ((Below.refl _ _).alloc (Nat.le_refl _) _)
  generalize w.alloc _ = W1 at RM BL ⊢
  go_wp2_with fail
  refine (kH.out _).mono ?_
  rintro e w2 ⟨rfl, b2⟩
  have RM2 := Lib.hid (RM.out.grow b2)
  have BL2 := bstep BL b2
  clear b2 RM BL
  go_wp2_with fail
  refine (kA.out _).mono ?_
  rintro e w3 ⟨rfl, b3⟩
  have RM3 := Lib.hid (RM2.out.grow b3)
  have BL3 := bstep BL2 b3
  clear b3 RM2 BL2
  go_wp2_with fail
  refine (kP.out _).mono ?_
  rintro e w4 ⟨rfl, b4⟩
  have RM4 := Lib.hid (RM3.out.grow b4)
  have BL4 := bstep BL3 b4
  clear b4 RM3 BL3
  go_upto_region 10 with fail
  clear d1 d2
  have CT1 := Lib.hid ct1
  clear ct1
  go_cut [8] from 31 to 55 (fun p wx => ∃ n8, p = .pointer (some ⟨n8, 0, none⟩) ∧ w.heap.size < n8 ∧ Hid (PdAt wx n8 Q) ∧ Hid (PdRoom wx w.heap.size) ∧ Hid (Below w.heap.size w wx))
  case first =>
    refine wp_region_noPanic ?_
    refine region_heldE (S := fun w' => PdRoom w' w.heap.size) (by kernel_rfl) (fun V d => RM4.out.kept (d.block _)) (fun V d hS => ?_)
    have BV0 := bstep BL4 d.below
    clear d BL4
    refine wpAnyH_take (i := 0) (oi := ⟨some 31, Op.move (Operand.tmp 0), _, _, _, none⟩) (v := (.string s)) rfl (by kernel_rfl) (by kernel_rfl) (by kernel_rfl) (fun _ _ _ h => h) (Or.inl ⟨by rfl, fun w' h' => ?_⟩) hS ?_
    · clear h'
      go_simp
    simp only [Act.put]
    refine wpAnyH_take (i := 2) (oi := ⟨some 33, Op.move (Operand.tmp 0), _, _, _, none⟩) (v := (.string s)) rfl (by kernel_rfl) (by kernel_rfl) (by kernel_rfl) (fun _ _ _ h => h) (Or.inl ⟨by rfl, fun w' h' => ?_⟩) hS ?_
    · clear h'
      go_simp
    simp only [Act.put]
    refine wpAnyH_take (i := 3) (oi := ⟨some 34, Op.slice 9 (Operand.tmp 33) (some (Operand.const (Value.int IntKind.i64 12))) none none, _, _, _, none⟩) (v := (.string (s.extract 12 s.size))) rfl (by kernel_rfl) (by kernel_rfl) (by kernel_rfl) (fun _ _ _ h => h) (Or.inl ⟨by rfl, fun w' h' => ?_⟩) hS ?_
    · have c0 := g12.out
      clear h'
      go_simp
    simp only [Act.put]
    refine wpAnyH_take (i := 5) (oi := ⟨some 36, Op.move (Operand.tmp 0), _, _, _, none⟩) (v := (.string s)) rfl (by kernel_rfl) (by kernel_rfl) (by kernel_rfl) (fun _ _ _ h => h) (Or.inl ⟨by rfl, fun w' h' => ?_⟩) hS ?_
    · clear h'
      go_simp
    simp only [Act.put]
    refine wpAnyH_take (i := 6) (oi := ⟨some 37, Op.slice 9 (Operand.tmp 36) (some (Operand.const (Value.int IntKind.i64 16))) none none, _, _, _, none⟩) (v := (.string (s.extract 16 s.size))) rfl (by kernel_rfl) (by kernel_rfl) (by kernel_rfl) (fun _ _ _ h => h) (Or.inl ⟨by rfl, fun w' h' => ?_⟩) hS ?_
    · have c0 := g16.out
      clear h'
      go_simp
    simp only [Act.put]
    refine wpAnyH_take (i := 8) (oi := ⟨some 39, Op.move (Operand.tmp 0), _, _, _, none⟩) (v := (.string s)) rfl (by kernel_rfl) (by kernel_rfl) (by kernel_rfl) (fun _ _ _ h => h) (Or.inl ⟨by rfl, fun w' h' => ?_⟩) hS ?_
    · clear h'
      go_simp
    simp only [Act.put]
    refine wpAnyH_take (i := 9) (oi := ⟨some 40, Op.index 9 (Operand.tmp 39) (Operand.const (Value.int IntKind.i64 9)), _, _, _, none⟩) (v := (.int .u8 (X9 : Int))) rfl (by kernel_rfl) (by kernel_rfl) (by kernel_rfl) (fun _ _ _ h => h) (Or.inl ⟨by rfl, fun w' h' => ?_⟩) hS ?_
    · have c0 := HX9.out
      clear h'
      go_simp
      intro hq
      have := G9.out
      omega
    simp only [Act.put]
    refine wpAnyH_take (i := 10) (oi := ⟨some 41, Op.convert 5 3 (Operand.tmp 40), _, _, _, none⟩) (v := (.int .i64 Q.pr)) rfl (by kernel_rfl) (by kernel_rfl) (by kernel_rfl) (fun _ _ _ h => h) (Or.inl ⟨by rfl, fun w' h' => ?_⟩) hS ?_
    · have c0 := W9.out
      clear h'
      go_simp
    simp only [Act.put]
    refine wpAnyH_take (i := 11) (oi := ⟨some 42, Op.move (Operand.tmp 0), _, _, _, none⟩) (v := (.string s)) rfl (by kernel_rfl) (by kernel_rfl) (by kernel_rfl) (fun _ _ _ h => h) (Or.inl ⟨by rfl, fun w' h' => ?_⟩) hS ?_
    · clear h'
      go_simp
    simp only [Act.put]
    refine wpAnyH_take (i := 12) (oi := ⟨some 43, Op.index 9 (Operand.tmp 42) (Operand.const (Value.int IntKind.i64 8)), _, _, _, none⟩) (v := (.int .u8 (X8 : Int))) rfl (by kernel_rfl) (by kernel_rfl) (by kernel_rfl) (fun _ _ _ h => h) (Or.inl ⟨by rfl, fun w' h' => ?_⟩) hS ?_
    · have c0 := HX8.out
      clear h'
      go_simp
      intro hq
      have := G9.out
      omega
    simp only [Act.put]
    refine wpAnyH_take (i := 13) (oi := ⟨some 44, Op.convert 5 3 (Operand.tmp 43), _, _, _, none⟩) (v := (.int .i64 Q.tl)) rfl (by kernel_rfl) (by kernel_rfl) (by kernel_rfl) (fun _ _ _ h => h) (Or.inl ⟨by rfl, fun w' h' => ?_⟩) hS ?_
    · have c0 := W8.out
      clear h'
      go_simp
    simp only [Act.put]
    refine wpAnyH_take (i := 14) (oi := ⟨some 45, Op.move (Operand.tmp 7), _, _, _, none⟩) (v := (.int .i64 (PL : Int))) rfl (by kernel_rfl) (by kernel_rfl) (by kernel_rfl) (fun _ _ _ h => h) (Or.inl ⟨by rfl, fun w' h' => ?_⟩) hS ?_
    · clear h'
      go_simp
    simp only [Act.put]
    refine wpAnyH_take (i := 15) (oi := ⟨some 46, Op.binOp BinOp.and 3 (Operand.tmp 45) (Operand.const (Value.int IntKind.i64 8191)) 3, _, _, _, none⟩) (v := (.int .i64 (PM : Int))) rfl (by kernel_rfl) (by kernel_rfl) (by kernel_rfl) (fun _ _ _ h => h) (Or.inl ⟨by rfl, fun w' h' => ?_⟩) hS ?_
    · have c0 := A13.out
      clear h'
      go_simp
    simp only [Act.put]
    refine wpAnyH_take (i := 16) (oi := ⟨some 47, Op.binOp BinOp.mul 3 (Operand.tmp 46) (Operand.const (Value.int IntKind.i64 8)) 3, _, _, _, none⟩) (v := (.int .i64 Q.ps)) rfl (by kernel_rfl) (by kernel_rfl) (by kernel_rfl) (fun _ _ _ h => h) (Or.inl ⟨by rfl, fun w' h' => ?_⟩) hS ?_
    · have c0 := WP.out
      clear h'
      go_simp
    simp only [Act.put]
    refine wpAnyH_take (i := 17) (oi := ⟨some 48, Op.move (Operand.tmp 7), _, _, _, none⟩) (v := (.int .i64 (PL : Int))) rfl (by kernel_rfl) (by kernel_rfl) (by kernel_rfl) (fun _ _ _ h => h) (Or.inl ⟨by rfl, fun w' h' => ?_⟩) hS ?_
    · clear h'
      go_simp
    simp only [Act.put]
    refine wpAnyH_take (i := 18) (oi := ⟨some 49, Op.binOp BinOp.and 3 (Operand.tmp 48) (Operand.const (Value.int IntKind.i64 8192)) 3, _, _, _, none⟩) (v := (.int .i64 (CM : Int))) rfl (by kernel_rfl) (by kernel_rfl) (by kernel_rfl) (fun _ _ _ h => h) (Or.inl ⟨by rfl, fun w' h' => ?_⟩) hS ?_
    · have c0 := CM1.out
      clear h'
      go_simp
    simp only [Act.put]
    refine wpAnyH_take (i := 19) (oi := ⟨some 50, Op.binOp BinOp.neq 3 (Operand.tmp 49) (Operand.const (Value.int IntKind.i64 0)) 3, _, _, _, none⟩) (v := (.bool Q.mo)) rfl (by kernel_rfl) (by kernel_rfl) (by kernel_rfl) (fun _ _ _ h => h) (Or.inl ⟨by rfl, fun w' h' => ?_⟩) hS ?_
    · have c0 := CM2.out
      clear h'
      go_simp
    simp only [Act.put]
    refine wpAnyH_take (i := 20) (oi := ⟨some 51, Op.move (Operand.tmp 0), _, _, _, none⟩) (v := (.string s)) rfl (by kernel_rfl) (by kernel_rfl) (by kernel_rfl) (fun _ _ _ h => h) (Or.inl ⟨by rfl, fun w' h' => ?_⟩) hS ?_
    · clear h'
      go_simp
    simp only [Act.put]
    refine wpAnyH_take (i := 21) (oi := ⟨some 52, Op.move (Operand.tmp 4), _, _, _, none⟩) (v := (.int .i64 (N : Int))) rfl (by kernel_rfl) (by kernel_rfl) (by kernel_rfl) (fun _ _ _ h => h) (Or.inl ⟨by rfl, fun w' h' => ?_⟩) hS ?_
    · clear h'
      go_simp
    simp only [Act.put]
    refine wpAnyH_take (i := 22) (oi := ⟨some 53, Op.move (Operand.tmp 6), _, _, _, none⟩) (v := (.int .i64 (ALL : Int))) rfl (by kernel_rfl) (by kernel_rfl) (by kernel_rfl) (fun _ _ _ h => h) (Or.inl ⟨by rfl, fun w' h' => ?_⟩) hS ?_
    · clear h'
      go_simp
    simp only [Act.put]
    refine wpAnyH_take (i := 23) (oi := ⟨some 54, Op.slice 9 (Operand.tmp 51) (some (Operand.tmp 52)) (some (Operand.tmp 53)) none, _, _, _, none⟩) (v := (.string Q.da)) rfl (by kernel_rfl) (by kernel_rfl) (by kernel_rfl) (fun _ _ _ h => h) (Or.inl ⟨by rfl, fun w' h' => ?_⟩) hS ?_
    · have c0 := GA.out
      have c1 := GB.out
      have c2 := HD.out
      clear h'
      go_simp
    simp only [Act.put]
    refine wpAnyH_ready (rs := [1, 25]) (by kernel_rfl) (by simp) ?_
    refine AllReadyH.cons rfl (fun K hK => ?_) (AllReadyH.cons rfl (fun K hK => ?_) AllReadyH.nil)
    · go_simp
      refine (kI.out _).mono ?_
      rintro e v1 ⟨rfl, b1⟩
      have S1 : PdRoom v1 w.heap.size := hS.grow b1
      have BV1 := bstep BV0 b1
      clear b1
      go_simp
      refine hK.out _ _ S1 (fun _ => ?_)
      clear hK K
      refine wpAnyH_ready (rs := [4, 25]) (by kernel_rfl) (by simp) ?_
      refine AllReadyH.cons rfl (fun K hK => ?_) (AllReadyH.cons rfl (fun K hK => ?_) AllReadyH.nil)
      · go_simp
        refine (kS.out _).mono ?_
        rintro e v2 ⟨rfl, b2⟩
        have S2 : PdRoom v2 w.heap.size := S1.grow b2
        have BV2 := bstep BV1 b2
        clear b2
        go_simp
        refine hK.out _ _ S2 (fun _ => ?_)
        clear hK K
        refine wpAnyH_ready (rs := [7, 25]) (by kernel_rfl) (by simp) ?_
        refine AllReadyH.cons rfl (fun K hK => ?_) (AllReadyH.cons rfl (fun K hK => ?_) AllReadyH.nil)
        · go_simp
          refine (kD.out _).mono ?_
          rintro e v3 ⟨rfl, b3⟩
          have S3 : PdRoom v3 w.heap.size := S2.grow b3
          have BV3 := bstep BV2 b3
          clear b3
          go_simp
          refine hK.out _ _ S3 (fun _ => ?_)
          clear hK K
          refine wpAnyH_take (i := 24) (oi := ⟨some 55, Op.build 35 #[(0, (Operand.tmp 32)), (1, (Operand.tmp 35)), (2, (Operand.tmp 38)), (3, (Operand.tmp 41)), (4, (Operand.tmp 44)), (5, (Operand.tmp 47)), (6, (Operand.tmp 50)), (7, (Operand.tmp 54))], _, _, _, none⟩) (v := (.agg #[.int .i64 Q.id, .int .u8 (Q.sr.a.toNat : Int), .int .u8 (Q.sr.b.toNat : Int), .int .u8 (Q.sr.c.toNat : Int), .int .u8 (Q.sr.d.toNat : Int), .int .u8 (Q.ds.a.toNat : Int), .int .u8 (Q.ds.b.toNat : Int), .int .u8 (Q.ds.c.toNat : Int), .int .u8 (Q.ds.d.toNat : Int), .int .i64 Q.pr, .int .i64 Q.tl, .int .i64 Q.ps, .bool Q.mo, .string Q.da])) rfl (by kernel_rfl) (by kernel_rfl) (by kernel_rfl) (fun _ _ _ h => h) (Or.inl ⟨by rfl, fun w' h' => ?_⟩) S3 ?_
          · clear h'
            go_simp
          simp only [Act.put]
          refine wpAnyH_ready (rs := [25]) (by kernel_rfl) (by simp) ?_
          refine AllReadyH.cons rfl (fun K hK => ?_) AllReadyH.nil
          obtain ⟨x4, hx4⟩ : ∃ x, x = v3.heap.size := ⟨_, rfl⟩
          have hl4 : w.heap.size < x4 := by rw [hx4]; exact S3.lt
          have RN4 : PdRoom (v3.alloc (.cells #[.int .i64 0, .int .u8 0, .int .u8 0, .int .u8 0, .int .u8 0, .int .u8 0, .int .u8 0, .int .u8 0, .int .u8 0, .int .i64 0, .int .i64 0, .int .i64 0, .bool false, .string ⟨#[]⟩] 35)) x4 := pdroom_new _ _ _ rfl hx4
          have S4 : PdRoom (v3.alloc (.cells #[.int .i64 0, .int .u8 0, .int .u8 0, .int .u8 0, .int .u8 0, .int .u8 0, .int .u8 0, .int .u8 0, .int .u8 0, .int .i64 0, .int .i64 0, .int .i64 0, .bool false, .string ⟨#[]⟩] 35)) w.heap.size := S3.kept (((Below.refl _ _).alloc (Nat.le_refl _) _).block _ S3.lt)
          have BV4 := bstep BV3 ((Below.refl v3.heap.size v3).alloc (Nat.le_refl _) (.cells #[.int .i64 0, .int .u8 0, .int .u8 0, .int .u8 0, .int .u8 0, .int .u8 0, .int .u8 0, .int .u8 0, .int .u8 0, .int .i64 0, .int .i64 0, .int .i64 0, .bool false, .string ⟨#[]⟩] 35))
          go_simp
          rw [← hx4]
          generalize v3.alloc _ = v4 at RN4 S4 BV4 ⊢
          clear hx4
          refine hK.out _ _ S4 (fun _ => ?_)
          clear hK K
          refine wpAnyH_ready (rs := [26]) (by kernel_rfl) (by simp) ?_
          refine AllReadyH.cons rfl (fun K hK => ?_) AllReadyH.nil
          obtain ⟨hst, S9⟩ := RN4.put Q
          have S5 : PdRoom (v4.setRow x4 (pdC Q)) w.heap.size := S4.kept (setRow_other _ _ _ _ (Nat.ne_of_lt hl4))
          have BV5 := Lib.hid (below_setRow BV4.out (Nat.le_of_lt hl4) (pdC Q))
          refine upon_store0 35 _ _ rfl rfl _ x4 rfl rfl hst ?_
          refine hK.out _ _ S5 (fun _ => ?_)
          clear hK K
          refine wpAnyH_done (by kernel_rfl) (NoPanic.normal ?_) _
          go_wp2_with fail
          go_meet
          case rel => exact ⟨x4, rfl, hl4, Lib.hid S9, Lib.hid S5, BV5⟩
        · obtain ⟨x3, hx3⟩ : ∃ x, x = v2.heap.size := ⟨_, rfl⟩
          have hl3 : w.heap.size < x3 := by rw [hx3]; exact S2.lt
          have RN3 : PdRoom (v2.alloc (.cells #[.int .i64 0, .int .u8 0, .int .u8 0, .int .u8 0, .int .u8 0, .int .u8 0, .int .u8 0, .int .u8 0, .int .u8 0, .int .i64 0, .int .i64 0, .int .i64 0, .bool false, .string ⟨#[]⟩] 35)) x3 := pdroom_new _ _ _ rfl hx3
          have S3 : PdRoom (v2.alloc (.cells #[.int .i64 0, .int .u8 0, .int .u8 0, .int .u8 0, .int .u8 0, .int .u8 0, .int .u8 0, .int .u8 0, .int .u8 0, .int .i64 0, .int .i64 0, .int .i64 0, .bool false, .string ⟨#[]⟩] 35)) w.heap.size := S2.kept (((Below.refl _ _).alloc (Nat.le_refl _) _).block _ S2.lt)
          have BV3 := bstep BV2 ((Below.refl v2.heap.size v2).alloc (Nat.le_refl _) (.cells #[.int .i64 0, .int .u8 0, .int .u8 0, .int .u8 0, .int .u8 0, .int .u8 0, .int .u8 0, .int .u8 0, .int .u8 0, .int .i64 0, .int .i64 0, .int .i64 0, .bool false, .string ⟨#[]⟩] 35))
          go_simp
          rw [← hx3]
          generalize v2.alloc _ = v3 at RN3 S3 BV3 ⊢
          clear hx3
          refine hK.out _ _ S3 (fun _ => ?_)
          clear hK K
          refine wpAnyH_ready (rs := [7]) (by kernel_rfl) (by simp) ?_
          refine AllReadyH.cons rfl (fun K hK => ?_) AllReadyH.nil
          go_simp
          refine (kD.out _).mono ?_
          rintro e v4 ⟨rfl, b4⟩
          have S4 : PdRoom v4 w.heap.size := S3.grow b4
          have BV4 := bstep BV3 b4
          have RN4 := RN3.grow b4
          clear b4
          go_simp
          refine hK.out _ _ S4 (fun _ => ?_)
          clear hK K
          refine wpAnyH_take (i := 24) (oi := ⟨some 55, Op.build 35 #[(0, (Operand.tmp 32)), (1, (Operand.tmp 35)), (2, (Operand.tmp 38)), (3, (Operand.tmp 41)), (4, (Operand.tmp 44)), (5, (Operand.tmp 47)), (6, (Operand.tmp 50)), (7, (Operand.tmp 54))], _, _, _, none⟩) (v := (.agg #[.int .i64 Q.id, .int .u8 (Q.sr.a.toNat : Int), .int .u8 (Q.sr.b.toNat : Int), .int .u8 (Q.sr.c.toNat : Int), .int .u8 (Q.sr.d.toNat : Int), .int .u8 (Q.ds.a.toNat : Int), .int .u8 (Q.ds.b.toNat : Int), .int .u8 (Q.ds.c.toNat : Int), .int .u8 (Q.ds.d.toNat : Int), .int .i64 Q.pr, .int .i64 Q.tl, .int .i64 Q.ps, .bool Q.mo, .string Q.da])) rfl (by kernel_rfl) (by kernel_rfl) (by kernel_rfl) (fun _ _ _ h => h) (Or.inl ⟨by rfl, fun w' h' => ?_⟩) S4 ?_
          · clear h'
            go_simp
          simp only [Act.put]
          refine wpAnyH_ready (rs := [26]) (by kernel_rfl) (by simp) ?_
          refine AllReadyH.cons rfl (fun K hK => ?_) AllReadyH.nil
          obtain ⟨hst, S9⟩ := RN4.put Q
          have S5 : PdRoom (v4.setRow x3 (pdC Q)) w.heap.size := S4.kept (setRow_other _ _ _ _ (Nat.ne_of_lt hl3))
          have BV5 := Lib.hid (below_setRow BV4.out (Nat.le_of_lt hl3) (pdC Q))
          refine upon_store0 35 _ _ rfl rfl _ x3 rfl rfl hst ?_
          refine hK.out _ _ S5 (fun _ => ?_)
          clear hK K
          refine wpAnyH_done (by kernel_rfl) (NoPanic.normal ?_) _
          go_wp2_with fail
          go_meet
          case rel => exact ⟨x3, rfl, hl3, Lib.hid S9, Lib.hid S5, BV5⟩
      · obtain ⟨x2, hx2⟩ : ∃ x, x = v1.heap.size := ⟨_, rfl⟩
        have hl2 : w.heap.size < x2 := by rw [hx2]; exact S1.lt
        have RN2 : PdRoom (v1.alloc (.cells #[.int .i64 0, .int .u8 0, .int .u8 0, .int .u8 0, .int .u8 0, .int .u8 0, .int .u8 0, .int .u8 0, .int .u8 0, .int .i64 0, .int .i64 0, .int .i64 0, .bool false, .string ⟨#[]⟩] 35)) x2 := pdroom_new _ _ _ rfl hx2
        have S2 : PdRoom (v1.alloc (.cells #[.int .i64 0, .int .u8 0, .int .u8 0, .int .u8 0, .int .u8 0, .int .u8 0, .int .u8 0, .int .u8 0, .int .u8 0, .int .i64 0, .int .i64 0, .int .i64 0, .bool false, .string ⟨#[]⟩] 35)) w.heap.size := S1.kept (((Below.refl _ _).alloc (Nat.le_refl _) _).block _ S1.lt)
        have BV2 := bstep BV1 ((Below.refl v1.heap.size v1).alloc (Nat.le_refl _) (.cells #[.int .i64 0, .int .u8 0, .int .u8 0, .int .u8 0, .int .u8 0, .int .u8 0, .int .u8 0, .int .u8 0, .int .u8 0, .int .i64 0, .int .i64 0, .int .i64 0, .bool false, .string ⟨#[]⟩] 35))
        go_simp
        rw [← hx2]
        generalize v1.alloc _ = v2 at RN2 S2 BV2 ⊢
        clear hx2
        refine hK.out _ _ S2 (fun _ => ?_)
        clear hK K
        refine wpAnyH_ready (rs := [4]) (by kernel_rfl) (by simp) ?_
        refine AllReadyH.cons rfl (fun K hK => ?_) AllReadyH.nil
        go_simp
        refine (kS.out _).mono ?_
        rintro e v3 ⟨rfl, b3⟩
        have S3 : PdRoom v3 w.heap.size := S2.grow b3
        have BV3 := bstep BV2 b3
        have RN3 := RN2.grow b3
        clear b3
        go_simp
        refine hK.out _ _ S3 (fun _ => ?_)
        clear hK K
        refine wpAnyH_ready (rs := [7]) (by kernel_rfl) (by simp) ?_
        refine AllReadyH.cons rfl (fun K hK => ?_) AllReadyH.nil
        go_simp
        refine (kD.out _).mono ?_
        rintro e v4 ⟨rfl, b4⟩
        have S4 : PdRoom v4 w.heap.size := S3.grow b4
        have BV4 := bstep BV3 b4
        have RN4 := RN3.grow b4
        clear b4
        go_simp
        refine hK.out _ _ S4 (fun _ => ?_)
        clear hK K
        refine wpAnyH_take (i := 24) (oi := ⟨some 55, Op.build 35 #[(0, (Operand.tmp 32)), (1, (Operand.tmp 35)), (2, (Operand.tmp 38)), (3, (Operand.tmp 41)), (4, (Operand.tmp 44)), (5, (Operand.tmp 47)), (6, (Operand.tmp 50)), (7, (Operand.tmp 54))], _, _, _, none⟩) (v := (.agg #[.int .i64 Q.id, .int .u8 (Q.sr.a.toNat : Int), .int .u8 (Q.sr.b.toNat : Int), .int .u8 (Q.sr.c.toNat : Int), .int .u8 (Q.sr.d.toNat : Int), .int .u8 (Q.ds.a.toNat : Int), .int .u8 (Q.ds.b.toNat : Int), .int .u8 (Q.ds.c.toNat : Int), .int .u8 (Q.ds.d.toNat : Int), .int .i64 Q.pr, .int .i64 Q.tl, .int .i64 Q.ps, .bool Q.mo, .string Q.da])) rfl (by kernel_rfl) (by kernel_rfl) (by kernel_rfl) (fun _ _ _ h => h) (Or.inl ⟨by rfl, fun w' h' => ?_⟩) S4 ?_
        · clear h'
          go_simp
        simp only [Act.put]
        refine wpAnyH_ready (rs := [26]) (by kernel_rfl) (by simp) ?_
        refine AllReadyH.cons rfl (fun K hK => ?_) AllReadyH.nil
        obtain ⟨hst, S9⟩ := RN4.put Q
        have S5 : PdRoom (v4.setRow x2 (pdC Q)) w.heap.size := S4.kept (setRow_other _ _ _ _ (Nat.ne_of_lt hl2))
        have BV5 := Lib.hid (below_setRow BV4.out (Nat.le_of_lt hl2) (pdC Q))
        refine upon_store0 35 _ _ rfl rfl _ x2 rfl rfl hst ?_
        refine hK.out _ _ S5 (fun _ => ?_)
        clear hK K
        refine wpAnyH_done (by kernel_rfl) (NoPanic.normal ?_) _
        go_wp2_with fail
        go_meet
        case rel => exact ⟨x2, rfl, hl2, Lib.hid S9, Lib.hid S5, BV5⟩
    · obtain ⟨x1, hx1⟩ : ∃ x, x = V.heap.size := ⟨_, rfl⟩
      have hl1 : w.heap.size < x1 := by rw [hx1]; exact hS.lt
      have RN1 : PdRoom (V.alloc (.cells #[.int .i64 0, .int .u8 0, .int .u8 0, .int .u8 0, .int .u8 0, .int .u8 0, .int .u8 0, .int .u8 0, .int .u8 0, .int .i64 0, .int .i64 0, .int .i64 0, .bool false, .string ⟨#[]⟩] 35)) x1 := pdroom_new _ _ _ rfl hx1
      have S1 : PdRoom (V.alloc (.cells #[.int .i64 0, .int .u8 0, .int .u8 0, .int .u8 0, .int .u8 0, .int .u8 0, .int .u8 0, .int .u8 0, .int .u8 0, .int .i64 0, .int .i64 0, .int .i64 0, .bool false, .string ⟨#[]⟩] 35)) w.heap.size := hS.kept (((Below.refl _ _).alloc (Nat.le_refl _) _).block _ hS.lt)
      have BV1 := bstep BV0 ((Below.refl V.heap.size V).alloc (Nat.le_refl _) (.cells #[.int .i64 0, .int .u8 0, .int .u8 0, .int .u8 0, .int .u8 0, .int .u8 0, .int .u8 0, .int .u8 0, .int .u8 0, .int .i64 0, .int .i64 0, .int .i64 0, .bool false, .string ⟨#[]⟩] 35))
      go_simp
      rw [← hx1]
      generalize V.alloc _ = v1 at RN1 S1 BV1 ⊢
      clear hx1
      refine hK.out _ _ S1 (fun _ => ?_)
      clear hK K
      refine wpAnyH_ready (rs := [1]) (by kernel_rfl) (by simp) ?_
      refine AllReadyH.cons rfl (fun K hK => ?_) AllReadyH.nil
      go_simp
      refine (kI.out _).mono ?_
      rintro e v2 ⟨rfl, b2⟩
      have S2 : PdRoom v2 w.heap.size := S1.grow b2
      have BV2 := bstep BV1 b2
      have RN2 := RN1.grow b2
      clear b2
      go_simp
      refine hK.out _ _ S2 (fun _ => ?_)
      clear hK K
      refine wpAnyH_ready (rs := [4]) (by kernel_rfl) (by simp) ?_
      refine AllReadyH.cons rfl (fun K hK => ?_) AllReadyH.nil
      go_simp
      refine (kS.out _).mono ?_
      rintro e v3 ⟨rfl, b3⟩
      have S3 : PdRoom v3 w.heap.size := S2.grow b3
      have BV3 := bstep BV2 b3
      have RN3 := RN2.grow b3
      clear b3
      go_simp
      refine hK.out _ _ S3 (fun _ => ?_)
      clear hK K
      refine wpAnyH_ready (rs := [7]) (by kernel_rfl) (by simp) ?_
      refine AllReadyH.cons rfl (fun K hK => ?_) AllReadyH.nil
      go_simp
      refine (kD.out _).mono ?_
      rintro e v4 ⟨rfl, b4⟩
      have S4 : PdRoom v4 w.heap.size := S3.grow b4
      have BV4 := bstep BV3 b4
      have RN4 := RN3.grow b4
      clear b4
      go_simp
      refine hK.out _ _ S4 (fun _ => ?_)
      clear hK K
      refine wpAnyH_take (i := 24) (oi := ⟨some 55, Op.build 35 #[(0, (Operand.tmp 32)), (1, (Operand.tmp 35)), (2, (Operand.tmp 38)), (3, (Operand.tmp 41)), (4, (Operand.tmp 44)), (5, (Operand.tmp 47)), (6, (Operand.tmp 50)), (7, (Operand.tmp 54))], _, _, _, none⟩) (v := (.agg #[.int .i64 Q.id, .int .u8 (Q.sr.a.toNat : Int), .int .u8 (Q.sr.b.toNat : Int), .int .u8 (Q.sr.c.toNat : Int), .int .u8 (Q.sr.d.toNat : Int), .int .u8 (Q.ds.a.toNat : Int), .int .u8 (Q.ds.b.toNat : Int), .int .u8 (Q.ds.c.toNat : Int), .int .u8 (Q.ds.d.toNat : Int), .int .i64 Q.pr, .int .i64 Q.tl, .int .i64 Q.ps, .bool Q.mo, .string Q.da])) rfl (by kernel_rfl) (by kernel_rfl) (by kernel_rfl) (fun _ _ _ h => h) (Or.inl ⟨by rfl, fun w' h' => ?_⟩) S4 ?_
      · clear h'
        go_simp
      simp only [Act.put]
      refine wpAnyH_ready (rs := [26]) (by kernel_rfl) (by simp) ?_
      refine AllReadyH.cons rfl (fun K hK => ?_) AllReadyH.nil
      obtain ⟨hst, S9⟩ := RN4.put Q
      have S5 : PdRoom (v4.setRow x1 (pdC Q)) w.heap.size := S4.kept (setRow_other _ _ _ _ (Nat.ne_of_lt hl1))
      have BV5 := Lib.hid (below_setRow BV4.out (Nat.le_of_lt hl1) (pdC Q))
      refine upon_store0 35 _ _ rfl rfl _ x1 rfl rfl hst ?_
      refine hK.out _ _ S5 (fun _ => ?_)
      clear hK K
      refine wpAnyH_done (by kernel_rfl) (NoPanic.normal ?_) _
      go_wp2_with fail
      go_meet
      case rel => exact ⟨x1, rfl, hl1, Lib.hid S9, Lib.hid S5, BV5⟩
  case rest =>
    obtain ⟨n8, rfl, hn8, P8, RM8, BL8⟩ := hcut
    have ct1 := CT1.out
    have hne : w.heap.size ≠ n8 := by omega
    clear RM4 BL4 kI kS kD HX9 HX8 h9 h8 G9 W9 W8 A13 WP CM1 CM2 HD g12 g16 GA GB
    by_cases hp : 32768 ≤ PL
    · have hb : bad = true := by rw [← HB.out, decide_eq_true hp]; rfl
      have hR : Hid (R = pdZ) := Lib.hid (by rw [HR.out, hb]; rfl)
      have hE : Hid (E = 8) := Lib.hid (by rw [HE.out, hb]; rfl)
      rw [decide_eq_true hp] at ct2
      clear HR HE HB hb hp
      obtain ⟨hst, S6⟩ := RM8.out.put pdZ
      have S6 := Lib.hid S6
      have B6 := Lib.hid (below_setRow BL8.out (Nat.le_refl _) (pdC pdZ))
      go_wp2_with ((refine wpList_storeW 35 _ _ rfl rfl _ w.heap.size rfl rfl hst ?_))
      exact bodyPost_ret (v := .tuple #[.agg (pdC pdZ), .int .i64 8]) (results_row _ 2 3 35 (by kernel_rfl) _ w.heap.size _ _ _ _ rfl rfl S6.out Try.underlying35 rfl (by kernel_rfl)) rfl ⟨by rw [hR.out, hE.out], B6.out⟩
    · cases hM : mayB Q with
      | false =>
        have hb : bad = true := by rw [← HB.out, decide_eq_false hp, hM]; rfl
        have hR : Hid (R = pdZ) := Lib.hid (by rw [HR.out, hb]; rfl)
        have hE : Hid (E = 8) := Lib.hid (by rw [HE.out, hb]; rfl)
        rw [decide_eq_false hp] at ct2
        rw [hM] at kM
        have hp8 := P8.out
        clear HR HE HB hb hp hM
        go_wp2_with (refine pd_ld (by rfl) _ rfl n8 rfl _ hp8 ?_)
        refine (kM.out _).mono ?_
        rintro e w9 ⟨rfl, b9⟩
        have RM9 := Lib.hid (RM8.out.grow b9)
        have BL9 := bstep BL8 b9
        obtain ⟨hst, S6⟩ := RM9.out.put pdZ
        have S6 := Lib.hid S6
        have B6 := Lib.hid (below_setRow BL9.out (Nat.le_refl _) (pdC pdZ))
        go_wp2_with ((refine wpList_storeW 35 _ _ rfl rfl _ w.heap.size rfl rfl hst ?_))
        exact bodyPost_ret (v := .tuple #[.agg (pdC pdZ), .int .i64 8]) (results_row _ 2 3 35 (by kernel_rfl) _ w.heap.size _ _ _ _ rfl rfl S6.out Try.underlying35 rfl (by kernel_rfl)) rfl ⟨by rw [hR.out, hE.out], B6.out⟩
      | true =>
        have hb : bad = false := by rw [← HB.out, decide_eq_false hp, hM]; rfl
        have hR : Hid (R = Q) := Lib.hid (by rw [HR.out, hb]; rfl)
        have hE : Hid (E = 0) := Lib.hid (by rw [HE.out, hb]; rfl)
        rw [decide_eq_false hp] at ct2
        rw [hM] at kM
        have hp8 := P8.out
        clear HR HE HB hb hp hM
        go_wp2_with (refine pd_ld (by rfl) _ rfl n8 rfl _ hp8 ?_)
        refine (kM.out _).mono ?_
        rintro e w9 ⟨rfl, b9⟩
        have RM9 := Lib.hid (RM8.out.grow b9)
        have BL9 := bstep BL8 b9
        have hp9 := P8.out.grow b9
        clear hp8
        obtain ⟨hst, S6⟩ := RM9.out.put Q
        have S6 := Lib.hid S6
        have B6 := Lib.hid (below_setRow BL9.out (Nat.le_refl _) (pdC Q))
        go_wp2_with (first | (refine pd_ld (by rfl) _ rfl n8 rfl _ hp9 ?_) | (refine wpList_storeW 35 _ _ rfl rfl _ w.heap.size rfl rfl hst ?_))
        exact bodyPost_ret (v := .tuple #[.agg (pdC Q), .int .i64 0]) (results_row _ 2 3 35 (by kernel_rfl) _ w.heap.size _ _ _ _ rfl rfl S6.out Try.underlying35 rfl (by kernel_rfl)) rfl ⟨by rw [hR.out, hE.out], B6.out⟩

theorem pdRead_any (w : World) (s : ByteArray) (hm : s.size ≤ 140737488355328) :
    Calls Try.prog 31 #[.string s] w fun e w' => e = .returned (.tuple #[.agg (pdC (rqP s)), .int .i64 (rqE s)]) ∧ Below w.heap.size w w' := by
  by_cases h0 : rhE s = 0
  case neg =>
    have e1 : rqE s = rhE s := by rw [rqE, if_neg h0]
    rw [rqP, e1, if_neg h0]
    exact pdRead_head w s hm _ rfl h0
  by_cases h1 : wd s.data.toList 2 < rdN s
  · have e1 : rqE s = 8 := by rw [rqE, if_pos h0, if_pos h1]
    rw [rqP, e1, if_neg (by decide)]
    exact pdRead_less w s hm h0 _ _ rfl rfl h1
  by_cases h2 : s.size < wd s.data.toList 2
  · have e1 : rqE s = 7 := by rw [rqE, if_pos h0, if_neg h1, if_pos h2]
    rw [rqP, e1, if_neg (by decide)]
    exact pdRead_more w s hm h0 _ _ rfl rfl h1 h2
  refine pdRead_of w s hm h0 _ _ rfl rfl _ rfl h1 h2 _ rfl _ rfl _ _ ?_ ?_
  · rw [rqP]
    cases hb : (decide (32768 ≤ wd s.data.toList 6) || !mayB (rdQ s))
    · have e1 : rqE s = 0 := by rw [rqE, if_pos h0, if_neg h1, if_neg h2, if_neg (by rw [hb]; decide)]
      rw [e1, if_pos rfl]; rfl
    · have e1 : rqE s = 8 := by rw [rqE, if_pos h0, if_neg h1, if_neg h2, if_pos hb]
      rw [e1, if_neg (by decide)]; rfl
  · rw [rqE, if_pos h0, if_neg h1, if_neg h2]

end Go.Proofs.Ytbjoibgkhooljaa
