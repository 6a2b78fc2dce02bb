/-
  Layer 12: a buffer in memory; what is none; New, Ready, Next, Window, the window's places, Held. Conditions: as said.
-/
import Derived.Test.YtgimadcfckgcmaaRbA
import Derived.Laws.CopyRow
import Derived.Deep.CutBlock
import Derived.Deep.DeepCutAuto
import Derived.Deep.QuietTactic
import Derived.Laws.MakeOwn
import Derived.BigQuiet
import Derived.WalkSmall
namespace Go.Proofs.Ytgimadcfckgcmaa
open Go.RowKit
set_option linter.unusedVariables false

theorem cell_of_block {w : World} {g i : Nat} {cs : Array Value} {t : TypeId} {m : Nat × Nat} (h : w.heap[g]? = some (.cells cs t m)) : w.cell? ⟨g, i, none⟩ = cs[i]? := by
  simp [World.cell?, h]
theorem set_cellsB {w : World} {b i : Nat} {cs : Array Value} {t : TypeId} (h : w.heap[b]? = some (.cells cs t (0, 0))) (v : Value) (hi : i < cs.size) : (w.setCell ⟨b, i, none⟩ v).heap[b]? = some (.cells (cs.setIfInBounds i v) t (0, 0)) := by
  rw [setCell_eq_setRow w b i cs t (0, 0) v h]
  exact setRow_heap _ _ _ _ _ _ h
/-- A place. -/
def enP (o : Option UInt8) : List Value := [.int .u8 ((o.getD 0).toNat : Int), .bool o.isSome]
theorem enP_len (o : Option UInt8) : (enP o).length = 2 := rfl
theorem enP_one (o : Option UInt8) : ∀ u ∈ enP o, u.oneCell' = true := by
  intro u hu
  simp only [enP, List.mem_cons, List.not_mem_nil, or_false] at hu
  rcases hu with rfl | rfl <;> rfl
/-- A pointer to no buffer that 'New' made: nil, or to a struct that names no maker. -/
def RbNone (w : World) (p : Option Addr) : Prop := p = none ∨ ∃ g, p = some ⟨g, 0, none⟩ ∧ w.cell? ⟨g, 3, none⟩ = some (.pointer none)
section
variable {w w' : World} {g b n : Nat} {nx : Int} {R : List UInt8} {W : List (Option UInt8)}
end

theorem neq_nil_ptr {P : Program} (w : World) {tp te : TypeId} (a : Addr) (hp : P.underlying tp = some (.pointer te)) :
    (binOp .neq tp (.pointer none) (.pointer (some a))).run P w = .ok (.bool true) w := by
  have h : ∀ d : Nat, (Op.equalIn (d + 1) tp (.pointer none) (.pointer (some a))).run P w = .ok false w := fun d => by
    simp [Op.equalIn, run_underlying hp, sizeOf, typeInfo]
  simp only [binOp]
  simp [Op.equal, Op.maxDepth, h 9999]

theorem enc_nones : ∀ n : Nat, encA enP (List.replicate n none) = (List.range (n * 2)).map fun i => (#[Value.int .u8 0, .bool false])[i % 2]!
  | 0 => rfl
  | n + 1 => by
    rw [show List.replicate (n + 1) (none : Option UInt8) = List.replicate n none ++ [none] from List.replicate_succ', encA_append, enc_nones n, Nat.add_one_mul, List.range_succ, List.range_succ, List.map_append, List.map_append, List.append_assoc]
    congr 1
    have e1 : n * 2 % 2 = 0 := by omega
    have e2 : (n * 2 + 1) % 2 = 1 := by omega
    simp only [List.map_cons, List.map_nil, e1, e2]
    rfl
theorem made_places (n : Nat) : madeCells #[Value.int .u8 0, .bool false] (n * 2) = (encA enP (List.replicate n none)).toArray := by
  rw [enc_nones]
  apply Array.ext'
  apply List.ext_getElem?
  intro k
  unfold madeCells
  by_cases c : k < n * 2
  · simp [c]
  · simp [c]
section
variable {w : World} {g b n : Nat} {nx : Int} {R : List UInt8} {W : List (Option UInt8)}
end

section
variable {w : World} {g b n : Nat} {nx : Int} {R : List UInt8} {W : List (Option UInt8)}
end
end Go.Proofs.Ytgimadcfckgcmaa
