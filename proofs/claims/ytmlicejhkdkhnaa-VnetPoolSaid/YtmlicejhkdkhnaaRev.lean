/-
  The contract of slices.Reverse at bytes: the bytes of the row stand from behind. Condition: none of them is frozen.
-/
import Derived.Test.YtmlicejhkdkhnaaTotal
import Derived.RegionTactic
import Derived.BigRegion
import Derived.Deep.Draws
import Derived.Sort.WalkC
namespace Go.Proofs.Ytmlicejhkdkhnaa
open Go.RowKit Go.Sort

/-- What the row holds after k exchanges. -/
def part (d : Array UInt8) (k : Nat) : Array UInt8 := (Array.range d.size).map fun t => if t < k ∨ d.size - k ≤ t then d[d.size - 1 - t]! else d[t]!

theorem part_size (d : Array UInt8) (k : Nat) : (part d k).size = d.size := by simp [part]
theorem part_get (d : Array UInt8) (k t : Nat) (h : t < d.size) : (part d k)[t]! = if t < k ∨ d.size - k ≤ t then d[d.size - 1 - t]! else d[t]! := by
  rw [getElem!_pos (part d k) t (by rw [part_size]; exact h)]
  simp [part]
theorem arr_ext {a b : Array UInt8} (hs : a.size = b.size) (h : ∀ t, t < a.size → a[t]! = b[t]!) : a = b := by
  apply Array.ext hs
  intro t h1 h2
  have := h t h1
  rwa [getElem!_pos a t h1, getElem!_pos b t h2] at this
theorem part_zero (d : Array UInt8) : part d 0 = d := by
  refine arr_ext (part_size d 0) fun t ht => ?_
  rw [part_size] at ht
  rw [part_get _ _ _ ht, if_neg (by omega)]
theorem part_end (d : Array UInt8) (k : Nat) (h : d.size ≤ 2 * k + 1) : part d k = d.reverse := by
  refine arr_ext (by rw [part_size, Array.size_reverse]) fun t ht => ?_
  rw [part_size] at ht
  rw [part_get _ _ _ ht, getElem!_pos d.reverse t (by simpa using ht), Array.getElem_reverse]
  by_cases c : t < k ∨ d.size - k ≤ t
  · rw [if_pos c, getElem!_pos d _ (by omega)]
  · rw [if_neg c, getElem!_pos d t ht]
    congr 1
    omega
theorem part_swp (d : Array UInt8) (k m : Nat) (h : k < m) (hm : m + k + 1 = d.size) : swp (part d k) k m = part d (k + 1) := by
  refine arr_ext (by rw [size_swp, part_size, part_size]) fun t ht => ?_
  rw [size_swp, part_size] at ht
  rw [part_get _ _ _ ht]
  unfold swp
  by_cases e2 : t = m
  · subst e2
    rw [getElem!_set_same _ _ _ (by simp [part_size]; omega), part_get _ _ _ (by omega), if_neg (by omega), if_pos (by omega)]
    congr 1
    omega
  · rw [getElem!_set_other _ _ _ _ e2]
    by_cases e1 : t = k
    · subst e1
      rw [getElem!_set_same _ _ _ (by simp [part_size]; omega), part_get _ _ _ (by omega), if_neg (by omega), if_pos (by omega)]
      congr 1
      omega
    · rw [getElem!_set_other _ _ _ _ e1, part_get _ _ _ ht]
      by_cases c : t < k ∨ d.size - k ≤ t
      · rw [if_pos c, if_pos (by omega)]
      · rw [if_neg c, if_neg (by omega)]

theorem cell_set_some {w : World} {p q : Addr} {x v : Value} (h : w.cell? q = some v) : ∃ v', (w.setCell p x).cell? q = some v' := by
  by_cases e : p = q
  · subst e; exact ⟨x, World.cell?_setCell_same w p x h⟩
  · exact ⟨v, (World.cell?_setCell_other w p q x e).trans h⟩



end Go.Proofs.Ytmlicejhkdkhnaa
