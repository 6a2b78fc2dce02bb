/-
  Layer 12, the document's own buffer: Read. Conditions: as said.
-/
import Derived.Test.YtcnongkkmjahfaaRbJ
namespace Go.Proofs.Ytcnongkkmjahfaa
open Go.RowKit
set_option linter.unusedVariables false

theorem below_setRowB {B : Nat} {w w' : World} (h : Below B w w') {n : Nat} (hn : B ≤ n) (cs : Array Value) : Below B w (w'.setRow n cs) :=
  ⟨h.os, h.tape, h.output, by rw [size_setRow]; exact h.size, fun k hk => by rw [setRow_other _ _ _ _ (by omega)]; exact h.block k hk⟩
end Go.Proofs.Ytcnongkkmjahfaa
