/-
  The contracts of package virtq's plain functions: where the parts of a queue lie, whether bytes are inside, whether a queue may have so many entries, what is known of what is offered. Conditions: a queue has from 1 to 64 entries where it says so.
-/
import Derived.Test.YtmlicejhkdkhnaaRefTwo
import Derived.Deep.QuietTactic
import Derived.BigQuiet
import Derived.StillTailTactics
import Derived.Deep.RegionHeld3
import Derived.Deep.DrawnRows
namespace Go.Proofs.Ytmlicejhkdkhnaa
open Go.RowKit Go.Sort

theorem ret_int {k : IntKind} {a b : Int} (h : a = b) : Ending.returned (.int k a) = .returned (.int k b) := by rw [h]

set_option maxHeartbeats 400000 in
theorem offeredFrom_any (n : Int) (w : World) (h1 : 1 ≤ n) (h2 : n ≤ 64) :
    Calls Try.prog 97 #[.int .i64 n] w fun e w' => e = .returned (.int .i64 (16 * n)) ∧ w = w' := by
  go_enter Try.func97, Try.ntmps97
  go_wp2
  go_ret
  exact ⟨rfl, rfl⟩

set_option maxHeartbeats 400000 in
theorem usedFrom_any (n : Int) (w : World) (h1 : 1 ≤ n) (h2 : n ≤ 64) :
    Calls Try.prog 100 #[.int .i64 n] w fun e w' => e = .returned (.int .i64 (usedAt n)) ∧ w = w' := by
  go_enter Try.func100, Try.ntmps100
  go_wp2_with (go_at_call 97; refine (offeredFrom_any _ _ h1 h2).mono ?_; rintro e w' ⟨rfl, rfl⟩)
  go_ret
  exact ⟨ret_int (by unfold usedAt; omega), rfl⟩

theorem and_pred : ∀ n : Nat, n < 65 → 1 ≤ n → (((n : Int) = 1 ∨ (n : Int) = 2 ∨ (n : Int) = 4 ∨ (n : Int) = 8 ∨ (n : Int) = 16 ∨ (n : Int) = 32 ∨ (n : Int) = 64) ↔ bits .and .i64 (n : Int) ((n : Int) - 1) = 0) := by decide +kernel

set_option maxHeartbeats 400000 in
theorem vmayHave_any (n : Int) (w : World) (hn : n ≤ 9223372036854775807) :
    Calls Try.prog 84 #[.int .i64 n] w fun e w' => e = .returned (.bool (decide (isSize n))) ∧ w = w' := by
  by_cases h1 : 1 ≤ n
  · by_cases h2 : n ≤ 64
    · obtain ⟨k, rfl⟩ := Int.eq_ofNat_of_zero_le (show (0 : Int) ≤ n by omega)
      have hp := and_pred k (by omega) (by omega)
      obtain ⟨X, hX⟩ : ∃ X, X = bits .and .i64 (k : Int) ((k : Int) - 1) := ⟨_, rfl⟩
      have hd : decide (isSize (k : Int)) = (X == 0) := by
        rw [hX]
        by_cases hz : bits .and .i64 (k : Int) ((k : Int) - 1) = 0
        · rw [decide_eq_true (show isSize k from hp.2 hz)]; exact (beq_iff_eq.2 hz).symm
        · rw [decide_eq_false (p := isSize (k : Int)) (fun h => hz (hp.1 h))]; exact (beq_eq_false_iff_ne.2 hz).symm
      rw [hd]
      have HX := Lib.hid hX
      clear hX hp hd
      go_enter Try.func84, Try.ntmps84
      go_wp2
      go_ret
      exact ⟨by rw [HX.out]; rfl, rfl⟩
    · have hd : decide (n ≤ 64) = false := decide_eq_false h2
      rw [show decide (isSize n) = false from decide_eq_false (fun h => h2 h.range.2)]
      clear h2
      go_enter Try.func84, Try.ntmps84
      go_wp2
      go_ret
      exact ⟨rfl, rfl⟩
  · have hd : decide (1 ≤ n) = false := decide_eq_false h1
    rw [show decide (isSize n) = false from decide_eq_false (fun h => h1 h.range.1)]
    clear h1
    go_enter Try.func84, Try.ntmps84
    go_wp2
    go_ret
    exact ⟨rfl, rfl⟩

set_option maxHeartbeats 400000 in
theorem vbytes_any (n : Int) (w : World) (hn : n ≤ 9223372036854775807) :
    Calls Try.prog 86 #[.int .i64 n] w fun e w' => e = .returned (.int .i64 (bytesOf n)) ∧ w = w' := by
  have hc := fun w => vmayHave_any n w hn
  unfold bytesOf
  by_cases h : isSize n
  · rw [if_pos h]
    have hr := h.range
    have hu := usedAt_bd hr.1 hr.2
    obtain ⟨hr1, hr2⟩ := hr
    obtain ⟨hu1, hu2⟩ := hu
    rw [show decide (isSize n) = true from decide_eq_true h] at hc
    have HC := Lib.hid hc
    clear hc
    go_enter Try.func86, Try.ntmps86
    go_wp2_with (first | (go_at_call 84; refine (HC.out _).mono ?_; rintro e w' ⟨rfl, rfl⟩) | (go_at_call 100; refine (usedFrom_any _ _ hr1 hr2).mono ?_; rintro e w' ⟨rfl, rfl⟩))
    go_ret
    exact ⟨rfl, rfl⟩
  · rw [if_neg h]
    rw [show decide (isSize n) = false from decide_eq_false h] at hc
    have HC := Lib.hid hc
    clear hc
    go_enter Try.func86, Try.ntmps86
    go_wp2_with (go_at_call 84; refine (HC.out _).mono ?_; rintro e w' ⟨rfl, rfl⟩)
    go_ret
    exact ⟨rfl, rfl⟩

/-- Do n bytes from a on lie in l? (Where n is not below 0.) -/
theorem textE_in (l : List UInt8) (a n : Int) (hn : 0 ≤ n) : (textE l a n == 0) = (decide (0 ≤ a) && decide (a ≤ l.length - n)) := by
  rcases textE_cases l a n with ⟨h1, e⟩ | ⟨h1, h2, h3, e⟩
  · rw [e]
    by_cases ha : 0 ≤ a
    · rw [decide_eq_true ha, decide_eq_false (show ¬ a ≤ l.length - n by omega)]; rfl
    · rw [decide_eq_false ha]; rfl
  · rw [e, decide_eq_true h1, decide_eq_true (show a ≤ l.length - n by omega)]; rfl

set_option maxHeartbeats 400000 in
theorem vinside_any (l : List UInt8) (a n : Int) (w : World) (hl : l.length ≤ 9223372036854775807) (hn0 : 0 ≤ n) (hn1 : n ≤ 9223372036854775807) :
    Calls Try.prog 85 #[.int .i64 l.length, .int .i64 a, .int .i64 n] w fun e w' => e = .returned (.bool (textE l a n == 0)) ∧ w = w' := by
  rw [textE_in l a n hn0]
  by_cases h1 : 0 ≤ a
  · rw [decide_eq_true h1, Bool.true_and]
    go_enter Try.func85, Try.ntmps85
    go_wp2
    go_ret
    exact ⟨rfl, rfl⟩
  · have h2 : decide (0 ≤ a) = false := decide_eq_false h1
    rw [h2, Bool.false_and]
    clear h1
    go_enter Try.func85, Try.ntmps85
    go_wp2
    go_ret
    exact ⟨rfl, rfl⟩

end Go.Proofs.Ytmlicejhkdkhnaa
