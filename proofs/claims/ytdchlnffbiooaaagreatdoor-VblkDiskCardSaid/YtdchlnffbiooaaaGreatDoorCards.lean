/-
  DERIVED. GIVEN WITH THE SEED: THE CARDS: each row of YtdchlnffbiooaaaGreatDoorRows.lean that lists a variable, with what it lists TIED to the program's text (the seventh form; the later family's looks); each row that meets fmt, with fmt's text TOLD by the authors' own Lean function (tested against real Go, not proved from fmt's source: count such statements apart). THE CARD IS WHAT COUNTS. Prove the row's statement (the work); the ties are given (YtdchlnffbiooaaaGreatDoorTie.lean); close each card by the builder's one call (the guide's Derived/Test/ToyasCard.lean, 'card_holds'). Laid BY PROGRAM, IN A SANDBOX (cutbox-door.mjs). By AI agents, Wed Nov 11 2026. No macro, syntax, notation, axiom, sorry.
-/
import Derived.Test.YtdchlnffbiooaaaGreatDoorRows
import GoSem.ClaimSeven
namespace Go.Proofs.YtdchlnffbiooaaaGreatDoor
namespace Rows

/-- THE TIED CARD OF 'blockyardlaw03.VblkDisk'. -/
def vblkDiskCard : Claim7 := { stood := { row := vblkDiskRow, standIns := [], harness := (true, "bb7098dfe407d5fb1dfa5aefcd3112ba0e619c44d8a9e824f13f3378a4854695"), looks := false }, kinds := [], alts := [], laidByText := true, laidKinds := [.data], laidTests := true, laidLooks := .later }
def VblkDiskCardSaid : Prop := Claim7.holds Tryz.pinned (.plain (OpenSpec.ofChange vblkDiskSpec)) vblkDiskCard

/-- THE SECOND FORM's CARD OF 'blockyardlaw03.VblkDisk'. -/
def vblkDiskUptoCard : Claim7 := { stood := { row := vblkDiskUptoRow, standIns := [], harness := (true, "bb7098dfe407d5fb1dfa5aefcd3112ba0e619c44d8a9e824f13f3378a4854695"), looks := false }, kinds := [], alts := [], laidByText := true, laidKinds := [.data], laidTests := true, laidLooks := .later }
def VblkDiskUptoCardSaid : Prop := Claim7.holds Tryz.pinned (.plain (OpenSpec.upto vblkDiskSpec)) vblkDiskUptoCard
end Rows
end Go.Proofs.YtdchlnffbiooaaaGreatDoor
