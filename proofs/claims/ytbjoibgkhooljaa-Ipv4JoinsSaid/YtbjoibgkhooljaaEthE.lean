/-
  Layer 6: the statements' example, and that the program is awake. No conditions.
-/
import Derived.Test.YtbjoibgkhooljaaEthD
namespace Go.Proofs.Ytbjoibgkhooljaa
open Go.RowKit Go.Sort
set_option linter.unusedVariables false

/-- The chapter's frame. -/
def exF : Fr := ⟨⟨1, 2, 3, 4, 5, 6⟩, ⟨10, 11, 12, 13, 14, 15⟩, 2048, ⟨#[104, 105]⟩⟩
theorem ex_ok : exF.ok := ⟨by decide, by decide⟩

theorem ex_bytes : frS exF = ⟨#[1, 2, 3, 4, 5, 6, 10, 11, 12, 13, 14, 15, 8, 0, 104, 105]⟩ := by decide +kernel
theorem ex_err : frE exF = 0 := by decide +kernel
theorem ex_read : exF = rdR ⟨#[1, 2, 3, 4, 5, 6, 10, 11, 12, 13, 14, 15, 8, 0, 104, 105]⟩ := by decide +kernel
theorem ex_rerr : rdE ⟨#[1, 2, 3, 4, 5, 6, 10, 11, 12, 13, 14, 15, 8, 0, 104, 105]⟩ = 0 := by decide +kernel


end Go.Proofs.Ytbjoibgkhooljaa
