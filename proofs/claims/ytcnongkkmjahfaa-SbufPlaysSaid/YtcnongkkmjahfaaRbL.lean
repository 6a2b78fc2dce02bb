/-
  Layer 12, the document's own buffer: Put. Conditions: as said; at most 60000 bytes of data.
-/
import Derived.Test.YtcnongkkmjahfaaRbK
import Derived.Test.YtcnongkkmjahfaaRbH
import Derived.BigQuiet
import Derived.Deep.RegionHeld3
namespace Go.Proofs.Ytcnongkkmjahfaa
open Go.RowKit
set_option linter.unusedVariables false

def EDrR (w w' : World) : Prop := w' = w.drew
theorem EDrR.below {w w' : World} (d : EDrR w w') : Below w.heap.size w w' := by subst d; exact (Below.refl _ _).drew
theorem region_heldR {P : Program} {id : Nat} {ops : Array Oper} {Q : Exit → Act → World → Prop} {S : World → Prop} {a : Act} {w : World} (hm : P.follows .mixedOrders = true) (hS : ∀ w', EDrR w w' → S w')
    (h : ∀ w', EDrR w w' → S w' → wpAnyH P .any ops Q S ops.size (Array.replicate ops.size false) a w') : (Code.region id ops true).wp P Q a w :=
  wp_region_held hm (h _ rfl (hS _ rfl))
theorem mod_ltR (a : Int) : 0 ≤ a % 4294967296 ∧ a % 4294967296 < 4294967296 := ⟨Int.emod_nonneg _ (by decide), Int.emod_lt_of_pos _ (by decide)⟩
theorem RaG.swap {α : Type} {k : Nat} {enc : α → List Value} {TE : TypeId} {w wr : World} {p q : Nat × Obj} {va : Value} {la : List α} (h : RaG k enc TE w wr [p, q] va la) : RaG k enc TE w wr [q, p] va la :=
  ⟨h.acc, h.own, h.bl, fun x hx => h.fx x (by simp only [List.mem_cons, List.not_mem_nil, or_false] at hx ⊢; exact hx.symm)⟩
/-- A number of the window, as the document reckons it. -/
theorem num_w (s : Int) (k : Nat) (hs : 0 ≤ s ∧ s < 4294967296) (hk : k < 65536) : IntKind.u64.wrap s = s ∧ IntKind.u64.wrap (k : Int) = (k : Int) ∧ IntKind.u64.wrap (s + k) = s + k ∧ Int.tmod (s + k) 4294967296 = (s + k) % 4294967296 ∧ IntKind.u64.wrap ((s + k) % 4294967296) = (s + k) % 4294967296 ∧ IntKind.u32.wrap ((s + k) % 4294967296) = (s + k) % 4294967296 := by
  refine ⟨?_, ?_, ?_, Int.tmod_eq_emod_of_nonneg (by omega), ?_, ?_⟩
  · rw [IntKind.wrap_u64]; omega
  · rw [IntKind.wrap_u64]; omega
  · rw [IntKind.wrap_u64]; omega
  · rw [IntKind.wrap_u64]; omega
  · rw [IntKind.wrap_u32]; omega

end Go.Proofs.Ytcnongkkmjahfaa
