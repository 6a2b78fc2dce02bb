/-
  DERIVED. GIVEN WITH THE SEED: THE CARDS: each row of YtdpiglkffabgdaaGreatDoorRows.lean that lists a variable, with what it lists TIED to the program's text (the seventh form; the later family's looks); each row that meets fmt, with fmt's text TOLD by the authors' own Lean function (tested against real Go, not proved from fmt's source: count such statements apart). THE CARD IS WHAT COUNTS. Prove the row's statement (the work); the ties are given (YtdpiglkffabgdaaGreatDoorTie.lean); close each card by the builder's one call (the guide's Derived/Test/ToyasCard.lean, 'card_holds'). Laid BY PROGRAM, IN A SANDBOX (cutbox-door.mjs). By AI agents, Wed Nov 11 2026. No macro, syntax, notation, axiom, sorry.
-/
import Derived.Test.YtdpiglkffabgdaaGreatDoorRows
import GoSem.ClaimSeven
namespace Go.Proofs.YtdpiglkffabgdaaGreatDoor
namespace Rows

/-- THE TIED CARD OF 'blockyardlaw03.VblkKnown'. -/
def vblkKnownCard : Claim7 := { stood := { row := vblkKnownRow, standIns := [], harness := (true, "51126c4aecbaf233efc26e7ad75d2ab458dfd2ff1c2e6b45982303188187b0e4"), looks := false }, kinds := [], alts := [], laidByText := true, laidKinds := [.data], laidTests := true, laidLooks := .later }
def VblkKnownCardSaid : Prop := Claim7.holds Tryz.pinned (.plain (OpenSpec.ofChange vblkKnownSpec)) vblkKnownCard

/-- THE TIED CARD OF 'blockyardlaw03.VblkDisk'. -/
def vblkDiskCard : Claim7 := { stood := { row := vblkDiskRow, standIns := [], harness := (true, "51126c4aecbaf233efc26e7ad75d2ab458dfd2ff1c2e6b45982303188187b0e4"), looks := false }, kinds := [], alts := [], laidByText := true, laidKinds := [.data], laidTests := true, laidLooks := .later }
def VblkDiskCardSaid : Prop := Claim7.holds Tryz.pinned (.plain (OpenSpec.ofChange vblkDiskSpec)) vblkDiskCard

/-- THE TIED CARD OF 'blockyardlaw03.VblkOnce'. -/
def vblkOnceCard : Claim7 := { stood := { row := vblkOnceRow, standIns := [], harness := (true, "51126c4aecbaf233efc26e7ad75d2ab458dfd2ff1c2e6b45982303188187b0e4"), looks := false }, kinds := [], alts := [], laidByText := true, laidKinds := [.data], laidTests := true, laidLooks := .later }
def VblkOnceCardSaid : Prop := Claim7.holds Tryz.pinned (.plain (OpenSpec.ofChange vblkOnceSpec)) vblkOnceCard

/-- THE SECOND FORM's CARD OF 'blockyardlaw03.VblkKnown'. -/
def vblkKnownUptoCard : Claim7 := { stood := { row := vblkKnownUptoRow, standIns := [], harness := (true, "51126c4aecbaf233efc26e7ad75d2ab458dfd2ff1c2e6b45982303188187b0e4"), looks := false }, kinds := [], alts := [], laidByText := true, laidKinds := [.data], laidTests := true, laidLooks := .later }
def VblkKnownUptoCardSaid : Prop := Claim7.holds Tryz.pinned (.plain (OpenSpec.upto vblkKnownSpec)) vblkKnownUptoCard

/-- THE SECOND FORM's CARD OF 'blockyardlaw03.VblkDisk'. -/
def vblkDiskUptoCard : Claim7 := { stood := { row := vblkDiskUptoRow, standIns := [], harness := (true, "51126c4aecbaf233efc26e7ad75d2ab458dfd2ff1c2e6b45982303188187b0e4"), looks := false }, kinds := [], alts := [], laidByText := true, laidKinds := [.data], laidTests := true, laidLooks := .later }
def VblkDiskUptoCardSaid : Prop := Claim7.holds Tryz.pinned (.plain (OpenSpec.upto vblkDiskSpec)) vblkDiskUptoCard

/-- THE SECOND FORM's CARD OF 'blockyardlaw03.VblkOnce'. -/
def vblkOnceUptoCard : Claim7 := { stood := { row := vblkOnceUptoRow, standIns := [], harness := (true, "51126c4aecbaf233efc26e7ad75d2ab458dfd2ff1c2e6b45982303188187b0e4"), looks := false }, kinds := [], alts := [], laidByText := true, laidKinds := [.data], laidTests := true, laidLooks := .later }
def VblkOnceUptoCardSaid : Prop := Claim7.holds Tryz.pinned (.plain (OpenSpec.upto vblkOnceSpec)) vblkOnceUptoCard
end Rows
end Go.Proofs.YtdpiglkffabgdaaGreatDoor
