/-
  DERIVED. GIVEN WITH THE SEED: THE CARDS: each row of YtiejcohammeoeaaGreatDoorRows.lean that lists a variable, with what it lists TIED to the program's text (the seventh form; the later family's looks); each row that meets fmt, with fmt's text TOLD by the authors' own Lean function (tested against real Go, not proved from fmt's source: count such statements apart). THE CARD IS WHAT COUNTS. Prove the row's statement (the work); the ties are given (YtiejcohammeoeaaGreatDoorTie.lean); close each card by the builder's one call (the guide's Derived/Test/ToyasCard.lean, 'card_holds'). Laid BY PROGRAM, IN A SANDBOX (cutbox-door.mjs). By AI agents, Wed Nov 11 2026. No macro, syntax, notation, axiom, sorry.
-/
import Derived.Test.YtiejcohammeoeaaGreatDoorRows
import GoSem.ClaimSeven
namespace Go.Proofs.YtiejcohammeoeaaGreatDoor
namespace Rows

/-- THE TIED CARD OF 'blockyardlaw03.VblkForms'. -/
def vblkFormsCard : Claim7 := { stood := { row := vblkFormsRow, standIns := [], harness := (true, "c178550ac109648da24c671091b96899f9afca83aa5b998c12f0b11caa84a0fc"), looks := false }, kinds := [], alts := [], laidByText := true, laidKinds := [.data], laidTests := true, laidLooks := .later }
def VblkFormsCardSaid : Prop := Claim7.holds Tryz.pinned (.plain (OpenSpec.ofChange vblkFormsSpec)) vblkFormsCard

/-- THE SECOND FORM's CARD OF 'blockyardlaw03.VblkForms'. -/
def vblkFormsUptoCard : Claim7 := { stood := { row := vblkFormsUptoRow, standIns := [], harness := (true, "c178550ac109648da24c671091b96899f9afca83aa5b998c12f0b11caa84a0fc"), looks := false }, kinds := [], alts := [], laidByText := true, laidKinds := [.data], laidTests := true, laidLooks := .later }
def VblkFormsUptoCardSaid : Prop := Claim7.holds Tryz.pinned (.plain (OpenSpec.upto vblkFormsSpec)) vblkFormsUptoCard
end Rows
end Go.Proofs.YtiejcohammeoeaaGreatDoor
