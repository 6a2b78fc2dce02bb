/-
  Layer 12: a buffer that was made behind a world that stays as it was: a contract a call; awake. Conditions: as said.
-/
import Derived.Test.YtcnongkkmjahfaaRbF
namespace Go.Proofs.Ytcnongkkmjahfaa
open Go.RowKit
set_option linter.unusedVariables false

theorem below_turn {w w1 w2 : World} {B : Nat} {O : Nat → Prop} (h : Below B w w1) (t : Turn w1 w2 O) (hB : B ≤ w1.heap.size) (ho : ∀ k, O k → B ≤ k) : Below B w w2 :=
  h.trans ⟨t.os, t.tape, t.output, t.size, fun k hk => t.block k (by omega) (fun e => by have := ho k e; omega)⟩
section
variable {w w1 w2 : World} {g b n : Nat} {nx : Int} {R R' : List UInt8} {W W' : List (Option UInt8)}
end
end Go.Proofs.Ytcnongkkmjahfaa
