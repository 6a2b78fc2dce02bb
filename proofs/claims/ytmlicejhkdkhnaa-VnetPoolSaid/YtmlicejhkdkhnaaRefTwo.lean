/-
  The contracts of the document's own answers for layer 2, the plain ones: sizes of queues, what bars one, a number in a memory's bytes and of them. Condition: the bytes are at most 5000.
-/
import Derived.Test.YtmlicejhkdkhnaaRefMem
namespace Go.Proofs.Ytmlicejhkdkhnaa
open Go.RowKit Go.Sort

/-- Bounds of a block that was laid behind another one. -/
theorem alloc_two (w : World) (a b : Obj) : ((w.alloc a).alloc b).heap[w.heap.size + 1]? = some b := by
  have e1 : (w.alloc a).heap.size = w.heap.size + 1 := by simp
  have h := heap_alloc_new (w.alloc a) b
  rw [e1] at h
  exact h

/-- A queue may have so many entries. -/
def isSize (n : Int) : Prop := n = 1 ∨ n = 2 ∨ n = 4 ∨ n = 8 ∨ n = 16 ∨ n = 32 ∨ n = 64
instance (n : Int) : Decidable (isSize n) := by unfold isSize; infer_instance
/-- Where the used ring begins. -/
def usedAt (n : Int) : Int := (18 * n + 7) / 4 * 4
/-- How many bytes a queue has. -/
def bytesOf (n : Int) : Int := if isSize n then usedAt n + 4 + 8 * n else 0
/-- What bars a queue. -/
def barOf (size base n : Int) : Int := if ¬ isSize n ∨ base < 0 ∨ base % 16 ≠ 0 then 1 else if size < base ∨ size - base < bytesOf n then 13 else 0

theorem isSize.range {n : Int} (h : isSize n) : 1 ≤ n ∧ n ≤ 64 := by unfold isSize at h; omega
theorem usedAt_bd {n : Int} (h1 : 1 ≤ n) (h2 : n ≤ 64) : 0 ≤ usedAt n ∧ usedAt n ≤ 1200 := by unfold usedAt; omega
theorem bytesOf_bd (n : Int) : 0 ≤ bytesOf n ∧ bytesOf n ≤ 2000 := by
  unfold bytesOf
  split
  · rename_i h
    have := h.range
    have := usedAt_bd this.1 this.2
    omega
  · omega













theorem set_block {w : World} {g : Nat} {cs : Array Value} {t : TypeId} {m : Nat × Nat} (h : w.heap[g]? = some (.cells cs t m)) (i : Nat) (v : Value) : (w.setCell ⟨g, i, none⟩ v).heap[g]? = some (.cells (cs.setIfInBounds i v) t m) := by
  simp [World.setCell, Array.getElem?_modify, h]
theorem frozen_of_block {w : World} {g i : Nat} {cs : Array Value} {t : TypeId} (h : w.heap[g]? = some (.cells cs t (0, 0))) : w.frozen? ⟨g, i, none⟩ = false := by
  simp [World.frozen?, h]

end Go.Proofs.Ytmlicejhkdkhnaa
