/-
  DERIVED. GIVEN WITH THE SEED: THE CARDS: each row of YtnbponaldffbiaaGreatDoorRows.lean that lists a variable, with what it lists TIED to the program's text (the seventh form; the later family's looks); each row that meets fmt, with fmt's text TOLD by the authors' own Lean function (tested against real Go, not proved from fmt's source: count such statements apart). THE CARD IS WHAT COUNTS. Prove the row's statement (the work); the ties are given (YtnbponaldffbiaaGreatDoorTie.lean); close each card by the builder's one call (the guide's Derived/Test/ToyasCard.lean, 'card_holds'). Laid BY PROGRAM, IN A SANDBOX (cutbox-door.mjs). By AI agents, Wed Nov 11 2026. No macro, syntax, notation, axiom, sorry.
-/
import Derived.Test.YtnbponaldffbiaaGreatDoorRows
import GoSem.ClaimSeven
namespace Go.Proofs.YtnbponaldffbiaaGreatDoor
namespace Rows

/-- THE TIED CARD OF 'blockyardlaw03.VblkDisk'. -/
def vblkDiskCard : Claim7 := { stood := { row := vblkDiskRow, standIns := [], harness := (true, "494d00dbe65687a4ce2b9fd66cf360012fe1d1841c312985a99a2183055d1870"), looks := false }, kinds := [], alts := [], laidByText := true, laidKinds := [.data], laidTests := true, laidLooks := .later }
def VblkDiskCardSaid : Prop := Claim7.holds Tryz.pinned (.plain (OpenSpec.ofChange vblkDiskSpec)) vblkDiskCard

/-- THE TIED CARD OF 'blockyardlaw03.VblkOnce'. -/
def vblkOnceCard : Claim7 := { stood := { row := vblkOnceRow, standIns := [], harness := (true, "494d00dbe65687a4ce2b9fd66cf360012fe1d1841c312985a99a2183055d1870"), looks := false }, kinds := [], alts := [], laidByText := true, laidKinds := [.data], laidTests := true, laidLooks := .later }
def VblkOnceCardSaid : Prop := Claim7.holds Tryz.pinned (.plain (OpenSpec.ofChange vblkOnceSpec)) vblkOnceCard

/-- THE SECOND FORM's CARD OF 'blockyardlaw03.VblkDisk'. -/
def vblkDiskUptoCard : Claim7 := { stood := { row := vblkDiskUptoRow, standIns := [], harness := (true, "494d00dbe65687a4ce2b9fd66cf360012fe1d1841c312985a99a2183055d1870"), looks := false }, kinds := [], alts := [], laidByText := true, laidKinds := [.data], laidTests := true, laidLooks := .later }
def VblkDiskUptoCardSaid : Prop := Claim7.holds Tryz.pinned (.plain (OpenSpec.upto vblkDiskSpec)) vblkDiskUptoCard

/-- THE SECOND FORM's CARD OF 'blockyardlaw03.VblkOnce'. -/
def vblkOnceUptoCard : Claim7 := { stood := { row := vblkOnceUptoRow, standIns := [], harness := (true, "494d00dbe65687a4ce2b9fd66cf360012fe1d1841c312985a99a2183055d1870"), looks := false }, kinds := [], alts := [], laidByText := true, laidKinds := [.data], laidTests := true, laidLooks := .later }
def VblkOnceUptoCardSaid : Prop := Claim7.holds Tryz.pinned (.plain (OpenSpec.upto vblkOnceSpec)) vblkOnceUptoCard
end Rows
end Go.Proofs.YtnbponaldffbiaaGreatDoor
