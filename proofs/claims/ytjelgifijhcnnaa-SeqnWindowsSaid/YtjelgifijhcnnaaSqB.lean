/-
  Layer 11: the document's own May, and what the statements ask first (awake). Conditions: the numbers are of 32 bits, lengths and windows of 64.
-/
import Derived.Test.YtjelgifijhcnnaaSqA
namespace Go.Proofs.Ytjelgifijhcnnaa
open Go.RowKit
set_option linter.unusedVariables false

set_option maxHeartbeats 2000000 in
theorem rmay_any (w : World) (s k x n : Int) (hs : 0 ≤ s ∧ s < 4294967296) (hx : 0 ≤ x ∧ x < 4294967296) (h1 : k ≤ 9223372036854775807) : Calls Try.prog 30 #[.int .u32 s, .int .i64 k, .int .u32 x, .int .i64 n] w fun e w' => e = .returned (.bool (mayN s k x n)) ∧ w' = w := by
  unfold mayN
  have kI := Lib.hid (rin_any w s x n hs hx)
  have kJ := Lib.hid (rin_any w (lastN s k) x n ⟨lastN_lo _ _, lastN_hi _ _⟩ hx)
  have d3 : (s == x) = decide (s = x) := by
    by_cases hs : s = x
    · subst hs; simp
    · rw [decide_eq_false hs]; exact beq_eq_false_iff_ne.2 hs
  rcases Int.lt_trichotomy k 0 with hk | hk | hk
  · rcases Int.lt_trichotomy n 0 with hn | hn | hn
    · have a1 : decide (k < 0) = true := decide_eq_true hk
      have b1 : decide (n < 0) = true := decide_eq_true hn
      rw [if_neg (by omega)]
      rw [if_neg (by omega)]
      go_enter Try.func30, Try.ntmps30
      go_wp2_with fail
      go_ret
      exact ⟨by first | rfl | rw [d3], rfl⟩
    · have a1 : decide (k < 0) = true := decide_eq_true hk
      subst hn
      rw [if_neg (by omega)]
      rw [if_neg (by omega)]
      go_enter Try.func30, Try.ntmps30
      go_wp2_with fail
      go_ret
      exact ⟨by first | rfl | rw [d3], rfl⟩
    · have a1 : decide (k < 0) = true := decide_eq_true hk
      have b1 : decide (n < 0) = false := decide_eq_false (by omega)
      have b2 : (n == 0) = false := beq_eq_false_iff_ne.2 (by omega)
      rw [if_neg (by omega)]
      rw [if_pos hn]
      obtain ⟨a, ha⟩ : ∃ a, inN s x n = a := ⟨_, rfl⟩
      rw [ha] at kI ⊢
      clear ha
      go_enter Try.func30, Try.ntmps30
      go_wp2_with fail
      refine kI.out.mono ?_
      rintro e w1 ⟨rfl, rfl⟩
      go_wp2_with fail
      go_ret
      exact ⟨rfl, rfl⟩
  · rcases Int.lt_trichotomy n 0 with hn | hn | hn
    · subst hk
      have b1 : decide (n < 0) = true := decide_eq_true hn
      rw [if_neg (by omega)]
      rw [if_neg (by omega)]
      go_enter Try.func30, Try.ntmps30
      go_wp2_with fail
      go_ret
      exact ⟨by first | rfl | rw [d3], rfl⟩
    · subst hk
      subst hn
      rw [if_neg (by omega)]
      rw [if_neg (by omega)]
      go_enter Try.func30, Try.ntmps30
      go_wp2_with fail
      go_ret
      exact ⟨by first | rfl | rw [d3], rfl⟩
    · subst hk
      have b1 : decide (n < 0) = false := decide_eq_false (by omega)
      have b2 : (n == 0) = false := beq_eq_false_iff_ne.2 (by omega)
      rw [if_neg (by omega)]
      rw [if_pos hn]
      obtain ⟨a, ha⟩ : ∃ a, inN s x n = a := ⟨_, rfl⟩
      rw [ha] at kI ⊢
      clear ha
      go_enter Try.func30, Try.ntmps30
      go_wp2_with fail
      refine kI.out.mono ?_
      rintro e w1 ⟨rfl, rfl⟩
      go_wp2_with fail
      go_ret
      exact ⟨rfl, rfl⟩
  · rcases Int.lt_trichotomy n 0 with hn | hn | hn
    · have a1 : decide (k < 0) = false := decide_eq_false (by omega)
      have a2 : (k == 0) = false := beq_eq_false_iff_ne.2 (by omega)
      have b1 : decide (n < 0) = true := decide_eq_true hn
      rw [if_pos hk]
      have c1 : inN s x n = false := by unfold inN; exact decide_eq_false (by have := ahN_lo x s; omega)
      have c2 : inN (lastN s k) x n = false := by unfold inN; exact decide_eq_false (by have := ahN_lo x (lastN s k); omega)
      rw [c1, c2]
      go_enter Try.func30, Try.ntmps30
      go_wp2_with fail
      go_ret
      exact ⟨rfl, rfl⟩
    · have a1 : decide (k < 0) = false := decide_eq_false (by omega)
      have a2 : (k == 0) = false := beq_eq_false_iff_ne.2 (by omega)
      subst hn
      rw [if_pos hk]
      have c1 : inN s x 0 = false := by unfold inN; exact decide_eq_false (by have := ahN_lo x s; omega)
      have c2 : inN (lastN s k) x 0 = false := by unfold inN; exact decide_eq_false (by have := ahN_lo x (lastN s k); omega)
      rw [c1, c2]
      go_enter Try.func30, Try.ntmps30
      go_wp2_with fail
      go_ret
      exact ⟨rfl, rfl⟩
    · have a1 : decide (k < 0) = false := decide_eq_false (by omega)
      have a2 : (k == 0) = false := beq_eq_false_iff_ne.2 (by omega)
      have b1 : decide (n < 0) = false := decide_eq_false (by omega)
      have b2 : (n == 0) = false := beq_eq_false_iff_ne.2 (by omega)
      rw [if_pos hk]
      have e1 : IntKind.u64.wrap s = s := by rw [IntKind.wrap_u64]; omega
      have e2 : IntKind.u64.wrap k = k := by rw [IntKind.wrap_u64]; omega
      have e3 : IntKind.u64.wrap (s + k) = s + k := by rw [IntKind.wrap_u64]; omega
      have e4 : IntKind.u64.wrap (s + k - 1) = s + k - 1 := by rw [IntKind.wrap_u64]; omega
      have e5 : Int.tmod (s + k - 1) 4294967296 = lastN s k := by rw [Int.tmod_eq_emod_of_nonneg (by omega), lastN]
      have l0 := lastN_lo s k
      have l1 := lastN_hi s k
      have e6 : IntKind.u64.wrap (lastN s k) = lastN s k := by rw [IntKind.wrap_u64]; omega
      have e7 : IntKind.u32.wrap (lastN s k) = lastN s k := by rw [IntKind.wrap_u32]; omega
      generalize hla : lastN s k = la at *
      obtain ⟨a, ha⟩ : ∃ a, inN s x n = a := ⟨_, rfl⟩
      obtain ⟨b, hb⟩ : ∃ b, inN la x n = b := ⟨_, rfl⟩
      rw [ha] at kI ⊢
      rw [hb] at kJ ⊢
      clear ha hb l0 l1 hla
      go_enter Try.func30, Try.ntmps30
      go_wp2_with fail
      refine kI.out.mono ?_
      rintro e w1 ⟨rfl, rfl⟩
      cases a with
      | true =>
        go_wp2_with fail
        go_ret
        exact ⟨rfl, rfl⟩
      | false =>
        go_wp2_with fail
        refine kJ.out.mono ?_
        rintro e w1 ⟨rfl, rfl⟩
        go_wp2_with fail
        go_ret
        exact ⟨rfl, rfl⟩
theorem sqA0 (w : World) : Calls Try.prog 26 #[.int .u32 5, .int .u32 3] w fun e w' => e = .returned (.int .i64 4294967294) ∧ w' = w := by
  have h := ah_any w 5 3
  rw [show ahN 5 3 = 4294967294 from by decide +kernel] at h
  exact h
theorem sqA1 (w : World) : Calls Try.prog 22 #[.int .u32 4294967295, .int .u32 2] w fun e w' => e = .returned (.bool true) ∧ w' = w := by
  have h := less_any w 4294967295 2
  rw [show lessN 4294967295 2 = true from by decide +kernel] at h
  exact h
theorem sqA2 (w : World) : Calls Try.prog 23 #[.int .u32 2, .int .u32 4294967295, .int .i64 4] w fun e w' => e = .returned (.bool true) ∧ w' = w := by
  have h := in_any w 2 4294967295 4
  rw [show inN 2 4294967295 4 = true from by decide +kernel] at h
  exact h
theorem sqA3 (w : World) : Calls Try.prog 24 #[.int .u32 8, .int .i64 2, .int .u32 9, .int .i64 5] w fun e w' => e = .returned (.bool true) ∧ w' = w := by
  have h := may_any w 8 2 9 5 (by decide)
  rw [show mayN 8 2 9 5 = true from by decide +kernel] at h
  exact h
set_option maxRecDepth 100000 in
theorem awakeQ (w : World) : Calls Try.prog 25 #[] w fun e w' => e = .returned (.bool true) ∧ w' = w := by
  go_enter Try.func25, Try.ntmps25
  go_wp2_with fail
  refine (sqA0 _).mono ?_
  rintro e w1 ⟨rfl, rfl⟩
  go_wp2_with fail
  refine (sqA1 _).mono ?_
  rintro e w1 ⟨rfl, rfl⟩
  go_wp2_with fail
  refine (sqA2 _).mono ?_
  rintro e w1 ⟨rfl, rfl⟩
  go_wp2_with fail
  refine (sqA3 _).mono ?_
  rintro e w1 ⟨rfl, rfl⟩
  go_wp2_with fail
  go_ret
  exact ⟨rfl, rfl⟩
theorem sqK0 (w : World) : Calls Try.prog 22 #[.int .u32 0, .int .u32 2147483648] w fun e w' => e = .returned (.bool false) ∧ w' = w := by
  have h := less_any w 0 2147483648
  rw [show lessN 0 2147483648 = false from by decide +kernel] at h
  exact h
theorem sqK1 (w : World) : Calls Try.prog 22 #[.int .u32 2147483648, .int .u32 0] w fun e w' => e = .returned (.bool false) ∧ w' = w := by
  have h := less_any w 2147483648 0
  rw [show lessN 2147483648 0 = false from by decide +kernel] at h
  exact h
theorem sqK2 (w : World) : Calls Try.prog 22 #[.int .u32 0, .int .u32 2147483647] w fun e w' => e = .returned (.bool true) ∧ w' = w := by
  have h := less_any w 0 2147483647
  rw [show lessN 0 2147483647 = true from by decide +kernel] at h
  exact h
theorem sqK3 (w : World) : Calls Try.prog 22 #[.int .u32 7, .int .u32 7] w fun e w' => e = .returned (.bool false) ∧ w' = w := by
  have h := less_any w 7 7
  rw [show lessN 7 7 = false from by decide +kernel] at h
  exact h
theorem sqK4 (w : World) : Calls Try.prog 23 #[.int .u32 3, .int .u32 4294967295, .int .i64 4] w fun e w' => e = .returned (.bool false) ∧ w' = w := by
  have h := in_any w 3 4294967295 4
  rw [show inN 3 4294967295 4 = false from by decide +kernel] at h
  exact h
theorem sqK5 (w : World) : Calls Try.prog 23 #[.int .u32 7, .int .u32 7, .int .i64 0] w fun e w' => e = .returned (.bool false) ∧ w' = w := by
  have h := in_any w 7 7 0
  rw [show inN 7 7 0 = false from by decide +kernel] at h
  exact h
theorem sqK6 (w : World) : Calls Try.prog 23 #[.int .u32 7, .int .u32 7, .int .i64 1] w fun e w' => e = .returned (.bool true) ∧ w' = w := by
  have h := in_any w 7 7 1
  rw [show inN 7 7 1 = true from by decide +kernel] at h
  exact h
theorem sqK7 (w : World) : Calls Try.prog 23 #[.int .u32 7, .int .u32 7, .int .i64 (-1)] w fun e w' => e = .returned (.bool false) ∧ w' = w := by
  have h := in_any w 7 7 (-1)
  rw [show inN 7 7 (-1) = false from by decide +kernel] at h
  exact h
theorem sqK8 (w : World) : Calls Try.prog 24 #[.int .u32 9, .int .i64 0, .int .u32 9, .int .i64 0] w fun e w' => e = .returned (.bool true) ∧ w' = w := by
  have h := may_any w 9 0 9 0 (by decide)
  rw [show mayN 9 0 9 0 = true from by decide +kernel] at h
  exact h
theorem sqK9 (w : World) : Calls Try.prog 24 #[.int .u32 9, .int .i64 1, .int .u32 9, .int .i64 0] w fun e w' => e = .returned (.bool false) ∧ w' = w := by
  have h := may_any w 9 1 9 0 (by decide)
  rw [show mayN 9 1 9 0 = false from by decide +kernel] at h
  exact h
theorem sqK10 (w : World) : Calls Try.prog 24 #[.int .u32 5, .int .i64 4, .int .u32 9, .int .i64 5] w fun e w' => e = .returned (.bool false) ∧ w' = w := by
  have h := may_any w 5 4 9 5 (by decide)
  rw [show mayN 5 4 9 5 = false from by decide +kernel] at h
  exact h
theorem sqK11 (w : World) : Calls Try.prog 24 #[.int .u32 13, .int .i64 9, .int .u32 9, .int .i64 5] w fun e w' => e = .returned (.bool true) ∧ w' = w := by
  have h := may_any w 13 9 9 5 (by decide)
  rw [show mayN 13 9 9 5 = true from by decide +kernel] at h
  exact h
theorem sqK12 (w : World) : Calls Try.prog 24 #[.int .u32 14, .int .i64 9, .int .u32 9, .int .i64 5] w fun e w' => e = .returned (.bool false) ∧ w' = w := by
  have h := may_any w 14 9 9 5 (by decide)
  rw [show mayN 14 9 9 5 = false from by decide +kernel] at h
  exact h
theorem sqK13 (w : World) : Calls Try.prog 24 #[.int .u32 14, .int .i64 0, .int .u32 9, .int .i64 5] w fun e w' => e = .returned (.bool false) ∧ w' = w := by
  have h := may_any w 14 0 9 5 (by decide)
  rw [show mayN 14 0 9 5 = false from by decide +kernel] at h
  exact h
end Go.Proofs.Ytjelgifijhcnnaa
