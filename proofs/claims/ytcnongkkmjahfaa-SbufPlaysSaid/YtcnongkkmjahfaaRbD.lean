/-
  Layer 12: settle, Put. Conditions: as said.
-/
import Derived.Test.YtcnongkkmjahfaaRbC
namespace Go.Proofs.Ytcnongkkmjahfaa
open Go.RowKit
set_option linter.unusedVariables false

section
variable {w w' : World} {g b n : Nat} {nx : Int} {R : List UInt8} {W : List (Option UInt8)}
end

theorem Turn.pair {w w' : World} {O O' : Nat → Prop} (h : Turn w w' O) (k : ∀ j, O j → O' j) : Turn w w' O' := h.mono (fun j _ => k j)
end Go.Proofs.Ytcnongkkmjahfaa
