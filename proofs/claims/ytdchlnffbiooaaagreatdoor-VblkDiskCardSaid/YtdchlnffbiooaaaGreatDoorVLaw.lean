/-
  Contracts of the statements' own functions of layer 2: are two slices of the same buffers the same; are acts too many. No conditions.
-/
import Derived.Test.YtdchlnffbiooaaaGreatDoorVArgs
import Derived.Deep.QuietTactic
import Derived.BigQuiet
namespace Go.Proofs.YtdchlnffbiooaaaGreatDoor
open Go.RowKit Go.Sort

theorem grown_drewN (w : World) (n : Nat) : w.grownBy (w.drewN n) none := ⟨rfl, rfl, rfl, Nat.le_refl _, fun _ _ _ => rfl⟩





/-- Free descriptors are at most n, and all n where nothing is out. -/
theorem free_le (cs : List Ch) (n : Nat) : (freeL cs n).length ≤ n := by
  unfold freeL
  rw [List.length_map]
  exact Nat.le_trans (List.length_filter_le _ _) (by simp)
theorem free_all (n : Nat) : (freeL [] n).length = n := by
  unfold freeL
  rw [List.length_map, List.filter_eq_self.2 (by intro i _; rfl), List.length_range]

end Go.Proofs.YtdchlnffbiooaaaGreatDoor
