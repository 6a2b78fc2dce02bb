/-
  DERIVED. GIVEN WITH THE SEED: THE CARDS: each row of YtmepianehfebmaaGreatDoorRows.lean that lists a variable, with what it lists TIED to the program's text (the seventh form; the later family's looks); each row that meets fmt, with fmt's text TOLD by the authors' own Lean function (tested against real Go, not proved from fmt's source: count such statements apart). THE CARD IS WHAT COUNTS. Prove the row's statement (the work); the ties are given (YtmepianehfebmaaGreatDoorTie.lean); close each card by the builder's one call (the guide's Derived/Test/ToyasCard.lean, 'card_holds'). Laid BY PROGRAM, IN A SANDBOX (cutbox-door.mjs). By AI agents, Wed Nov 11 2026. No macro, syntax, notation, axiom, sorry.
-/
import Derived.Test.YtmepianehfebmaaGreatDoorRows
import GoSem.ClaimSeven
namespace Go.Proofs.YtmepianehfebmaaGreatDoor
namespace Rows

/-- THE TIED CARD OF 'blockyardlaw03.VblkKnown'. -/
def vblkKnownCard : Claim7 := { stood := { row := vblkKnownRow, standIns := [], harness := (true, "a63609c42103fa75ae6e32cdbd733c2e5d40c58dc3ae1ad2e569e7cfeebfdbde"), looks := false }, kinds := [], alts := [], laidByText := true, laidKinds := [.data], laidTests := true, laidLooks := .later }
def VblkKnownCardSaid : Prop := Claim7.holds Tryz.pinned (.plain (OpenSpec.ofChange vblkKnownSpec)) vblkKnownCard

/-- THE TIED CARD OF 'blockyardlaw03.VblkNobody'. -/
def vblkNobodyCard : Claim7 := { stood := { row := vblkNobodyRow, standIns := [], harness := (true, "a63609c42103fa75ae6e32cdbd733c2e5d40c58dc3ae1ad2e569e7cfeebfdbde"), looks := false }, kinds := [], alts := [], laidByText := true, laidKinds := [.data], laidTests := true, laidLooks := .later }
def VblkNobodyCardSaid : Prop := Claim7.holds Tryz.pinned (.plain (OpenSpec.ofChange vblkNobodySpec)) vblkNobodyCard

/-- THE TIED CARD OF 'blockyardlaw03.VblkDisk'. -/
def vblkDiskCard : Claim7 := { stood := { row := vblkDiskRow, standIns := [], harness := (true, "a63609c42103fa75ae6e32cdbd733c2e5d40c58dc3ae1ad2e569e7cfeebfdbde"), looks := false }, kinds := [], alts := [], laidByText := true, laidKinds := [.data], laidTests := true, laidLooks := .later }
def VblkDiskCardSaid : Prop := Claim7.holds Tryz.pinned (.plain (OpenSpec.ofChange vblkDiskSpec)) vblkDiskCard

/-- THE TIED CARD OF 'blockyardlaw03.VblkOnce'. -/
def vblkOnceCard : Claim7 := { stood := { row := vblkOnceRow, standIns := [], harness := (true, "a63609c42103fa75ae6e32cdbd733c2e5d40c58dc3ae1ad2e569e7cfeebfdbde"), looks := false }, kinds := [], alts := [], laidByText := true, laidKinds := [.data], laidTests := true, laidLooks := .later }
def VblkOnceCardSaid : Prop := Claim7.holds Tryz.pinned (.plain (OpenSpec.ofChange vblkOnceSpec)) vblkOnceCard

/-- THE TIED CARD OF 'blockyardlaw03.VblkForms'. -/
def vblkFormsCard : Claim7 := { stood := { row := vblkFormsRow, standIns := [], harness := (true, "a63609c42103fa75ae6e32cdbd733c2e5d40c58dc3ae1ad2e569e7cfeebfdbde"), looks := false }, kinds := [], alts := [], laidByText := true, laidKinds := [.data], laidTests := true, laidLooks := .later }
def VblkFormsCardSaid : Prop := Claim7.holds Tryz.pinned (.plain (OpenSpec.ofChange vblkFormsSpec)) vblkFormsCard

/-- THE SECOND FORM's CARD OF 'blockyardlaw03.VblkKnown'. -/
def vblkKnownUptoCard : Claim7 := { stood := { row := vblkKnownUptoRow, standIns := [], harness := (true, "a63609c42103fa75ae6e32cdbd733c2e5d40c58dc3ae1ad2e569e7cfeebfdbde"), looks := false }, kinds := [], alts := [], laidByText := true, laidKinds := [.data], laidTests := true, laidLooks := .later }
def VblkKnownUptoCardSaid : Prop := Claim7.holds Tryz.pinned (.plain (OpenSpec.upto vblkKnownSpec)) vblkKnownUptoCard

/-- THE SECOND FORM's CARD OF 'blockyardlaw03.VblkNobody'. -/
def vblkNobodyUptoCard : Claim7 := { stood := { row := vblkNobodyUptoRow, standIns := [], harness := (true, "a63609c42103fa75ae6e32cdbd733c2e5d40c58dc3ae1ad2e569e7cfeebfdbde"), looks := false }, kinds := [], alts := [], laidByText := true, laidKinds := [.data], laidTests := true, laidLooks := .later }
def VblkNobodyUptoCardSaid : Prop := Claim7.holds Tryz.pinned (.plain (OpenSpec.upto vblkNobodySpec)) vblkNobodyUptoCard

/-- THE SECOND FORM's CARD OF 'blockyardlaw03.VblkDisk'. -/
def vblkDiskUptoCard : Claim7 := { stood := { row := vblkDiskUptoRow, standIns := [], harness := (true, "a63609c42103fa75ae6e32cdbd733c2e5d40c58dc3ae1ad2e569e7cfeebfdbde"), looks := false }, kinds := [], alts := [], laidByText := true, laidKinds := [.data], laidTests := true, laidLooks := .later }
def VblkDiskUptoCardSaid : Prop := Claim7.holds Tryz.pinned (.plain (OpenSpec.upto vblkDiskSpec)) vblkDiskUptoCard

/-- THE SECOND FORM's CARD OF 'blockyardlaw03.VblkOnce'. -/
def vblkOnceUptoCard : Claim7 := { stood := { row := vblkOnceUptoRow, standIns := [], harness := (true, "a63609c42103fa75ae6e32cdbd733c2e5d40c58dc3ae1ad2e569e7cfeebfdbde"), looks := false }, kinds := [], alts := [], laidByText := true, laidKinds := [.data], laidTests := true, laidLooks := .later }
def VblkOnceUptoCardSaid : Prop := Claim7.holds Tryz.pinned (.plain (OpenSpec.upto vblkOnceSpec)) vblkOnceUptoCard

/-- THE SECOND FORM's CARD OF 'blockyardlaw03.VblkForms'. -/
def vblkFormsUptoCard : Claim7 := { stood := { row := vblkFormsUptoRow, standIns := [], harness := (true, "a63609c42103fa75ae6e32cdbd733c2e5d40c58dc3ae1ad2e569e7cfeebfdbde"), looks := false }, kinds := [], alts := [], laidByText := true, laidKinds := [.data], laidTests := true, laidLooks := .later }
def VblkFormsUptoCardSaid : Prop := Claim7.holds Tryz.pinned (.plain (OpenSpec.upto vblkFormsSpec)) vblkFormsUptoCard
end Rows
end Go.Proofs.YtmepianehfebmaaGreatDoor
