/-
  Layer 11, numbers that go round: what the program's Ahead, Less, In and May answer, what the document's own do, and that both do so alike. Conditions: the numbers are of 32 bits, lengths and windows of 64.
-/
import Derived.Test.YtgimadcfckgcmaaRows
import Derived.WalkKit
import Derived.WalkSpells
import Derived.WalkLawsBesides
import Derived.Lib.Hide
import Derived.Below
import Derived.IntWalk
import Derived.BigQuiet
namespace Go.Proofs.Ytgimadcfckgcmaa
open Go.RowKit
set_option linter.unusedVariables false

theorem sq_u32 {n : Int} (h : (Lit.int .u32 n).wf = true) : 0 ≤ n ∧ n < 4294967296 := by
  have : 0 ≤ n ∧ n ≤ 4294967295 := by simpa [Lit.wf, IntKind.min, IntKind.max, IntKind.signed, IntKind.bits] using h
  omega
theorem sq_u8 {n : Int} (h : (Lit.int .u8 n).wf = true) : 0 ≤ n ∧ n < 256 := by
  have : 0 ≤ n ∧ n ≤ 255 := by simpa [Lit.wf, IntKind.min, IntKind.max, IntKind.signed, IntKind.bits] using h
  omega
theorem sq_i64 {n : Int} (h : (Lit.int .i64 n).wf = true) : -9223372036854775808 ≤ n ∧ n ≤ 9223372036854775807 := by
  simpa [Lit.wf, IntKind.min, IntKind.max, IntKind.signed, IntKind.bits] using h

/-- How far it is from a to b. -/
def ahN (a b : Int) : Int := (b - a) % 4294967296
def lessN (a b : Int) : Bool := decide (0 < ahN a b) && decide (ahN a b < 2147483648)
def inN (x f n : Int) : Bool := decide (ahN f x < n)
/-- The last number of a segment. -/
def lastN (s k : Int) : Int := (s + k - 1) % 4294967296
def mayN (s k x n : Int) : Bool := if 0 < k then inN s x n || inN (lastN s k) x n else if 0 < n then inN s x n else decide (s = x)
theorem ahN_lo (a b : Int) : 0 ≤ ahN a b := Int.emod_nonneg _ (by decide)
theorem ahN_hi (a b : Int) : ahN a b < 4294967296 := Int.emod_lt_of_pos _ (by decide)
theorem lastN_lo (a b : Int) : 0 ≤ lastN a b := Int.emod_nonneg _ (by decide)
theorem lastN_hi (a b : Int) : lastN a b < 4294967296 := Int.emod_lt_of_pos _ (by decide)


/- The document's own. -/
end Go.Proofs.Ytgimadcfckgcmaa
