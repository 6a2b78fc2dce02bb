/-
  Layer 6: what follows of bytes and frames: mathematics alone.
-/
import Derived.Test.YtbbmfgeagdblcaaEthH
namespace Go.Proofs.Ytbbmfgeagdblcaa
open Go.RowKit
set_option linter.unusedVariables false

theorem rd_ok (s : ByteArray) (h : s.size ≤ maxLen) : (rdR s).ok := by
  unfold rdR
  split
  · have hk := num_two s 12
    refine ⟨?_, ?_⟩
    · show (Lit.int .i64 ((num (cutS s 12 2).reverse : Nat) : Int)).wf = true
      exact Go.WalkArith.wf_i64 ⟨by omega, by omega⟩
    · show (s.extract 14 s.size).size ≤ maxLen
      rw [ByteArray.size_extract]
      omega
  · exact ⟨by decide, by decide⟩

end Go.Proofs.Ytbbmfgeagdblcaa
