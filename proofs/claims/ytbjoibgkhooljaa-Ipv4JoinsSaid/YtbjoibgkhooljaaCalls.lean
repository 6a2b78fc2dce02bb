/-
  The contracts of the small functions of package mem: whether bytes are inside, whether a number may have so many, whether a memory is none. No conditions beyond the kinds of the numbers.
-/
import Derived.Test.YtbjoibgkhooljaaRows
import Derived.WalkKit
import Derived.WalkSpells
import Derived.WalkLawsBesides
import Derived.Lib.Hide
import Derived.Lib.Builder
namespace Go.Proofs.Ytbjoibgkhooljaa
open Go.RowKit

set_option maxHeartbeats 400000 in
theorem inside_yes (size at_ n : Int) (w : World) (h1 : 0 ≤ at_) (h2 : 0 ≤ n) (h3 : at_ + n ≤ size) (h4 : size ≤ 9223372036854775807) :
    Calls Try.prog 99 #[.int .i64 size, .int .i64 at_, .int .i64 n] w fun e w' => e = .returned (.bool true) ∧ w = w' := by
  have h5 : at_ ≤ size - n := by omega
  go_enter Try.func99, Try.ntmps99
  go_wp2
  go_ret
  exact ⟨rfl, rfl⟩

set_option maxHeartbeats 400000 in
theorem inside_no (size at_ n : Int) (w : World) (h0 : 0 ≤ size) (h4 : size ≤ 9223372036854775807) (h6 : n ≤ 9223372036854775807) (h : at_ < 0 ∨ n < 0 ∨ size < at_ + n) :
    Calls Try.prog 99 #[.int .i64 size, .int .i64 at_, .int .i64 n] w fun e w' => e = .returned (.bool false) ∧ w = w' := by
  by_cases h1 : at_ < 0
  · go_enter Try.func99, Try.ntmps99
    go_wp2
    go_ret
    exact ⟨rfl, rfl⟩
  · by_cases h2 : n < 0
    · have h1' : 0 ≤ at_ := by omega
      clear h h1
      go_enter Try.func99, Try.ntmps99
      go_wp2
      go_ret
      exact ⟨rfl, rfl⟩
    · have h1' : 0 ≤ at_ := by omega
      have h2' : 0 ≤ n := by omega
      have h3 : decide (at_ ≤ size - n) = false := decide_eq_false (by omega)
      clear h h1 h2
      go_enter Try.func99, Try.ntmps99
      go_wp2
      go_ret
      exact ⟨rfl, rfl⟩

set_option maxHeartbeats 400000 in
theorem mayHave_yes (n : Int) (w : World) (h1 : 1 ≤ n) (h2 : n ≤ 8) :
    Calls Try.prog 97 #[.int .i64 n] w fun e w' => e = .returned (.bool true) ∧ w = w' := by
  go_enter Try.func97, Try.ntmps97
  go_wp2
  go_ret
  exact ⟨rfl, rfl⟩

set_option maxHeartbeats 400000 in
theorem mayHave_no (n : Int) (w : World) (h : n < 1 ∨ 8 < n) :
    Calls Try.prog 97 #[.int .i64 n] w fun e w' => e = .returned (.bool false) ∧ w = w' := by
  by_cases h1 : n < 1
  · clear h
    go_enter Try.func97, Try.ntmps97
    go_wp2
    go_ret
    exact ⟨rfl, rfl⟩
  · have h1' : 1 ≤ n := by omega
    have h2 : decide (n ≤ 8) = false := decide_eq_false (by omega)
    clear h h1
    go_enter Try.func97, Try.ntmps97
    go_wp2
    go_ret
    exact ⟨rfl, rfl⟩


theorem cell_of_block {w : World} {g i : Nat} {cs : Array Value} {t : TypeId} {m : Nat × Nat} (h : w.heap[g]? = some (.cells cs t m)) : w.cell? ⟨g, i, none⟩ = cs[i]? := by
  simp [World.cell?, h]



/-- A pointer to no memory that 'New' made: nil, or to a struct that names no maker. -/
def IsNone (w : World) (p : Option Addr) : Prop := p = none ∨ ∃ g, p = some ⟨g, 0, none⟩ ∧ w.cell? ⟨g, 1, none⟩ = some (.pointer none)

theorem neq_nil_ptr {P : Program} (w : World) {tp te : TypeId} (a : Addr) (hp : P.underlying tp = some (.pointer te)) :
    (binOp .neq tp (.pointer none) (.pointer (some a))).run P w = .ok (.bool true) w := by
  have h : ∀ d : Nat, (Op.equalIn (d + 1) tp (.pointer none) (.pointer (some a))).run P w = .ok false w := fun d => by
    simp [Op.equalIn, run_underlying hp, sizeOf, typeInfo]
  simp only [binOp]
  simp [Op.equal, Op.maxDepth, h 9999]























end Go.Proofs.Ytbjoibgkhooljaa
