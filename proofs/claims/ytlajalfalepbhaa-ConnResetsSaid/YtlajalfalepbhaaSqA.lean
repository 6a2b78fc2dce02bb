/-
  Layer 11, numbers that go round: what the program's Ahead, Less, In and May answer, what the document's own do, and that both do so alike. Conditions: the numbers are of 32 bits, lengths and windows of 64.
-/
import Derived.Test.YtlajalfalepbhaaRows
import Derived.WalkKit
import Derived.WalkSpells
import Derived.WalkLawsBesides
import Derived.Lib.Hide
import Derived.Below
import Derived.IntWalk
import Derived.BigQuiet
namespace Go.Proofs.Ytlajalfalepbhaa
open Go.RowKit
set_option linter.unusedVariables false

theorem sq_u32 {n : Int} (h : (Lit.int .u32 n).wf = true) : 0 ≤ n ∧ n < 4294967296 := by
  have : 0 ≤ n ∧ n ≤ 4294967295 := by simpa [Lit.wf, IntKind.min, IntKind.max, IntKind.signed, IntKind.bits] using h
  omega
theorem sq_u8 {n : Int} (h : (Lit.int .u8 n).wf = true) : 0 ≤ n ∧ n < 256 := by
  have : 0 ≤ n ∧ n ≤ 255 := by simpa [Lit.wf, IntKind.min, IntKind.max, IntKind.signed, IntKind.bits] using h
  omega
theorem sq_i64 {n : Int} (h : (Lit.int .i64 n).wf = true) : -9223372036854775808 ≤ n ∧ n ≤ 9223372036854775807 := by
  simpa [Lit.wf, IntKind.min, IntKind.max, IntKind.signed, IntKind.bits] using h

/-- How far it is from a to b. -/
def ahN (a b : Int) : Int := (b - a) % 4294967296
def lessN (a b : Int) : Bool := decide (0 < ahN a b) && decide (ahN a b < 2147483648)
def inN (x f n : Int) : Bool := decide (ahN f x < n)
/-- The last number of a segment. -/
def lastN (s k : Int) : Int := (s + k - 1) % 4294967296
def mayN (s k x n : Int) : Bool := if 0 < k then inN s x n || inN (lastN s k) x n else if 0 < n then inN s x n else decide (s = x)
theorem ahN_lo (a b : Int) : 0 ≤ ahN a b := Int.emod_nonneg _ (by decide)
theorem ahN_hi (a b : Int) : ahN a b < 4294967296 := Int.emod_lt_of_pos _ (by decide)
theorem lastN_lo (a b : Int) : 0 ≤ lastN a b := Int.emod_nonneg _ (by decide)
theorem lastN_hi (a b : Int) : lastN a b < 4294967296 := Int.emod_lt_of_pos _ (by decide)

theorem ah_any (w : World) (a b : Int) : Calls Try.prog 86 #[.int .u32 a, .int .u32 b] w fun e w' => e = .returned (.int .i64 (ahN a b)) ∧ w' = w := by
  have h0 := ahN_lo a b
  have h1 := ahN_hi a b
  have h2 : IntKind.u32.wrap (b - a) = ahN a b := by rw [IntKind.wrap_u32]; rfl
  have h3 : IntKind.i64.wrap (ahN a b) = ahN a b := IntWalk.i64_in _ (by omega)
  go_enter Try.func86, Try.ntmps86
  go_wp2_with fail
  go_ret
  exact ⟨rfl, rfl⟩
theorem less_any (w : World) (a b : Int) : Calls Try.prog 63 #[.int .u32 a, .int .u32 b] w fun e w' => e = .returned (.bool (lessN a b)) ∧ w' = w := by
  have k := Lib.hid (ah_any w a b)
  unfold lessN
  obtain ⟨d, hd⟩ : ∃ d, ahN a b = d := ⟨_, rfl⟩
  rw [hd] at k ⊢
  clear hd
  by_cases h : 0 < d
  · have h1 : decide (0 < d) = true := decide_eq_true h
    rw [h1, Bool.true_and]
    go_enter Try.func63, Try.ntmps63
    go_wp2_with fail
    refine k.out.mono ?_
    rintro e w1 ⟨rfl, rfl⟩
    go_wp2_with fail
    go_ret
    exact ⟨rfl, rfl⟩
  · have h1 : decide (0 < d) = false := decide_eq_false h
    rw [h1, Bool.false_and]
    go_enter Try.func63, Try.ntmps63
    go_wp2_with fail
    refine k.out.mono ?_
    rintro e w1 ⟨rfl, rfl⟩
    go_wp2_with fail
    go_ret
    exact ⟨rfl, rfl⟩
theorem in_any (w : World) (x f n : Int) : Calls Try.prog 83 #[.int .u32 x, .int .u32 f, .int .i64 n] w fun e w' => e = .returned (.bool (inN x f n)) ∧ w' = w := by
  have k := Lib.hid (ah_any w f x)
  unfold inN
  obtain ⟨d, hd⟩ : ∃ d, ahN f x = d := ⟨_, rfl⟩
  rw [hd] at k ⊢
  clear hd
  go_enter Try.func83, Try.ntmps83
  go_wp2_with fail
  refine k.out.mono ?_
  rintro e w1 ⟨rfl, rfl⟩
  go_wp2_with fail
  go_ret
  exact ⟨rfl, rfl⟩
theorem last_any (w : World) (s k : Int) (h0 : 0 < k) (h1 : k ≤ 9223372036854775807) : Calls Try.prog 84 #[.int .u32 s, .int .i64 k] w fun e w' => e = .returned (.int .u32 (lastN s k)) ∧ w' = w := by
  have e1 : IntKind.i64.wrap (k - 1) = k - 1 := IntWalk.i64_in _ (by omega)
  obtain ⟨d, hd⟩ : ∃ d, (k - 1) % 4294967296 = d := ⟨_, rfl⟩
  have e2 : IntKind.u32.wrap (k - 1) = d := by rw [IntKind.wrap_u32, hd]
  have e3 : IntKind.u32.wrap (s + d) = lastN s k := by rw [IntKind.wrap_u32, lastN, ← hd]; omega
  clear hd
  go_enter Try.func84, Try.ntmps84
  go_wp2_with fail
  go_ret
  exact ⟨rfl, rfl⟩
theorem may_any (w : World) (s k x n : Int) (h1 : k ≤ 9223372036854775807) : Calls Try.prog 61 #[.int .u32 s, .int .i64 k, .int .u32 x, .int .i64 n] w fun e w' => e = .returned (.bool (mayN s k x n)) ∧ w' = w := by
  unfold mayN
  have kI := Lib.hid (in_any w s x n)
  by_cases h : 0 < k
  · rw [if_pos h]
    have d1 : decide (0 < k) = true := decide_eq_true h
    have kL := Lib.hid (last_any w s k h h1)
    have kJ := Lib.hid (in_any w (lastN s k) x n)
    obtain ⟨a, ha⟩ : ∃ a, inN s x n = a := ⟨_, rfl⟩
    obtain ⟨b, hb⟩ : ∃ b, inN (lastN s k) x n = b := ⟨_, rfl⟩
    rw [ha] at kI ⊢
    rw [hb] at kJ ⊢
    clear ha hb h
    go_enter Try.func61, Try.ntmps61
    go_wp2_with fail
    refine kI.out.mono ?_
    rintro e w1 ⟨rfl, rfl⟩
    cases a with
    | true =>
      go_wp2_with fail
      go_ret
      exact ⟨rfl, rfl⟩
    | false =>
      go_wp2_with fail
      refine kL.out.mono ?_
      rintro e w1 ⟨rfl, rfl⟩
      go_wp2_with fail
      refine kJ.out.mono ?_
      rintro e w1 ⟨rfl, rfl⟩
      go_wp2_with fail
      go_ret
      exact ⟨rfl, rfl⟩
  rw [if_neg h]
  have d1 : decide (0 < k) = false := decide_eq_false h
  by_cases g : 0 < n
  · rw [if_pos g]
    have d2 : decide (0 < n) = true := decide_eq_true g
    obtain ⟨a, ha⟩ : ∃ a, inN s x n = a := ⟨_, rfl⟩
    rw [ha] at kI ⊢
    clear ha h
    go_enter Try.func61, Try.ntmps61
    go_wp2_with fail
    refine kI.out.mono ?_
    rintro e w1 ⟨rfl, rfl⟩
    go_wp2_with fail
    go_ret
    exact ⟨rfl, rfl⟩
  rw [if_neg g]
  have d2 : decide (0 < n) = false := decide_eq_false g
  clear kI
  have d3 : (s == x) = decide (s = x) := by
    by_cases hs : s = x
    · subst hs; simp
    · rw [decide_eq_false hs]; exact beq_eq_false_iff_ne.2 hs
  go_enter Try.func61, Try.ntmps61
  go_wp2_with fail
  go_ret
  exact ⟨by first | rfl | rw [d3], rfl⟩

/- The document's own. -/
end Go.Proofs.Ytlajalfalepbhaa
