/-
  The contracts of the small functions of package mem: whether bytes are inside, whether a number may have so many, whether a memory is none. No conditions beyond the kinds of the numbers.
-/
import Derived.Test.YtlajalfalepbhaaRows
import Derived.WalkKit
import Derived.WalkSpells
import Derived.WalkLawsBesides
import Derived.Lib.Hide
import Derived.Lib.Builder
namespace Go.Proofs.Ytlajalfalepbhaa
open Go.RowKit










theorem cell_of_block {w : World} {g i : Nat} {cs : Array Value} {t : TypeId} {m : Nat × Nat} (h : w.heap[g]? = some (.cells cs t m)) : w.cell? ⟨g, i, none⟩ = cs[i]? := by
  simp [World.cell?, h]



/-- A pointer to no memory that 'New' made: nil, or to a struct that names no maker. -/
def IsNone (w : World) (p : Option Addr) : Prop := p = none ∨ ∃ g, p = some ⟨g, 0, none⟩ ∧ w.cell? ⟨g, 1, none⟩ = some (.pointer none)

theorem neq_nil_ptr {P : Program} (w : World) {tp te : TypeId} (a : Addr) (hp : P.underlying tp = some (.pointer te)) :
    (binOp .neq tp (.pointer none) (.pointer (some a))).run P w = .ok (.bool true) w := by
  have h : ∀ d : Nat, (Op.equalIn (d + 1) tp (.pointer none) (.pointer (some a))).run P w = .ok false w := fun d => by
    simp [Op.equalIn, run_underlying hp, sizeOf, typeInfo]
  simp only [binOp]
  simp [Op.equal, Op.maxDepth, h 9999]























end Go.Proofs.Ytlajalfalepbhaa
