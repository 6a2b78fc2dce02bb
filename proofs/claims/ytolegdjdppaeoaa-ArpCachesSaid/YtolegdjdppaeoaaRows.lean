/-
  No cell of these rows narrows 'for every input' (looked for: loops, veiled, ifaces, maps, wideKeys, modest, calm, conditions, laid).
  DERIVED. THE GIVEN ROWS OF THIS SEAT. 6 by the template 'for every input the law returns true; each argument reads behind the call as it read before'; 0 by the template 'total and deterministic' (their statements: YtolegdjdppaeoaaTotals.lean).
  GIVEN WITH THE SEED: the statements are not yours to turn. If you find one false, say at which input.
  Laid BY PROGRAM, IN A SANDBOX (cutbox-rows.mjs): the forced cells as the released guide's own fill.sh prints them over the translation fb6688209229fd54… (all of the seat's roots in one cut). By AI agents, Wed Nov 11 2026. No macro, syntax, notation, axiom, sorry.
-/
import Derived.Test.YtolegdjdppaeoaaChecked
import GoSem.Claim
import GoSem.ClaimJoined
import GoSem.ClaimMapViews
import Derived.JoinedTies
import Derived.KernelRfl
namespace Go.Proofs.Ytolegdjdppaeoaa
/- THE CELL 'sum', in the pinned program and in every row, IS THE sha256 OF THE DUMP (.gsa) THAT YtolegdjdppaeoaaProg.lean LOADS. Nothing in Lean hashes anything: it is a label: what it is worth is what the hold of that sum in a sandbox is worth. -/
noncomputable def Try.pinned : Pinned := { name := "ytolegdjdppaeoaa", sum := "fb6688209229fd54cf6ff47f200a9dd55b047e5ea0ea207b542f1fc90a5b441b", checked := Try.checked }
namespace Rows
def none {H : Type} : Left H := { results := [], args := [] }

/-- 'blockyardlaw07.ArpKnown': WHATEVER THE INPUT: true; the input reads as it did. -/
def arpKnownSpec : ChangeSpec := { name := "arpKnown", fn := fun _ => fun
  | [] => { results := [.lit (.bool true)], args := [] }
  | _ => none }
def arpKnownRow : OpenClaim := { program := "ytolegdjdppaeoaa", sum := "fb6688209229fd54cf6ff47f200a9dd55b047e5ea0ea207b542f1fc90a5b441b", func := "blockyard/blockyardlaw07.ArpKnown", spec := "arpKnown", unfollowed := true, recurses := true, apart := false }
def ArpKnownSaid : Prop := arpKnownRow.holds Try.pinned (OpenSpec.ofChange arpKnownSpec)

/-- ITS FALSE NEIGHBOUR: 'it returns false'. Refute it at one input. -/
def arpKnownWrong : ChangeSpec := { name := "arpKnown", fn := fun _ => fun
  | [] => { results := [.lit (.bool false)], args := [] }
  | _ => none }
def ArpKnownWrongFalsely : Prop := arpKnownRow.holds Try.pinned (OpenSpec.ofChange arpKnownWrong)

/-- 'blockyardlaw07.ArpCodes': WHATEVER THE INPUT: true; the input reads as it did. -/
def arpCodesSpec : ChangeSpec := { name := "arpCodes", fn := fun _ => fun
  | [d1, d2] => { results := [.lit (.bool true)], args := [d1, d2] }
  | _ => none }
def arpCodesRow : OpenClaim := { program := "ytolegdjdppaeoaa", sum := "fb6688209229fd54cf6ff47f200a9dd55b047e5ea0ea207b542f1fc90a5b441b", func := "blockyard/blockyardlaw07.ArpCodes", spec := "arpCodes", apart := false }
def ArpCodesSaid : Prop := arpCodesRow.holds Try.pinned (OpenSpec.ofChange arpCodesSpec)

/-- ITS FALSE NEIGHBOUR: 'it returns false'. Refute it at one input. -/
def arpCodesWrong : ChangeSpec := { name := "arpCodes", fn := fun _ => fun
  | [d1, d2] => { results := [.lit (.bool false)], args := [d1, d2] }
  | _ => none }
def ArpCodesWrongFalsely : Prop := arpCodesRow.holds Try.pinned (OpenSpec.ofChange arpCodesWrong)

/-- 'blockyardlaw07.ArpCaches': WHATEVER THE INPUT: true; the input reads as it did. -/
def arpCachesSpec : ChangeSpec := { name := "arpCaches", fn := fun _ => fun
  | [d1, d2] => { results := [.lit (.bool true)], args := [d1, d2] }
  | _ => none }
def arpCachesRow : OpenClaim := { program := "ytolegdjdppaeoaa", sum := "fb6688209229fd54cf6ff47f200a9dd55b047e5ea0ea207b542f1fc90a5b441b", func := "blockyard/blockyardlaw07.ArpCaches", spec := "arpCaches", unfollowed := true, recurses := true, apart := false }
def ArpCachesSaid : Prop := arpCachesRow.holds Try.pinned (OpenSpec.ofChange arpCachesSpec)

/-- ITS FALSE NEIGHBOUR: 'it returns false'. Refute it at one input. -/
def arpCachesWrong : ChangeSpec := { name := "arpCaches", fn := fun _ => fun
  | [d1, d2] => { results := [.lit (.bool false)], args := [d1, d2] }
  | _ => none }
def ArpCachesWrongFalsely : Prop := arpCachesRow.holds Try.pinned (OpenSpec.ofChange arpCachesWrong)

/-- 'blockyardlaw07.ArpNobody': WHATEVER THE INPUT: true; the input reads as it did. -/
def arpNobodySpec : ChangeSpec := { name := "arpNobody", fn := fun _ => fun
  | [d1, d2] => { results := [.lit (.bool true)], args := [d1, d2] }
  | _ => none }
def arpNobodyRow : OpenClaim := { program := "ytolegdjdppaeoaa", sum := "fb6688209229fd54cf6ff47f200a9dd55b047e5ea0ea207b542f1fc90a5b441b", func := "blockyard/blockyardlaw07.ArpNobody", spec := "arpNobody", unfollowed := true, recurses := true, apart := false }
def ArpNobodySaid : Prop := arpNobodyRow.holds Try.pinned (OpenSpec.ofChange arpNobodySpec)

/-- ITS FALSE NEIGHBOUR: 'it returns false'. Refute it at one input. -/
def arpNobodyWrong : ChangeSpec := { name := "arpNobody", fn := fun _ => fun
  | [d1, d2] => { results := [.lit (.bool false)], args := [d1, d2] }
  | _ => none }
def ArpNobodyWrongFalsely : Prop := arpNobodyRow.holds Try.pinned (OpenSpec.ofChange arpNobodyWrong)

/-- 'blockyardlaw07.ArpBack': WHATEVER THE INPUT: true; the input reads as it did. -/
def arpBackSpec : ChangeSpec := { name := "arpBack", fn := fun _ => fun
  | [d1, d2, d3] => { results := [.lit (.bool true)], args := [d1, d2, d3] }
  | _ => none }
def arpBackRow : OpenClaim := { program := "ytolegdjdppaeoaa", sum := "fb6688209229fd54cf6ff47f200a9dd55b047e5ea0ea207b542f1fc90a5b441b", func := "blockyard/blockyardlaw07.ArpBack", spec := "arpBack", apart := false }
def ArpBackSaid : Prop := arpBackRow.holds Try.pinned (OpenSpec.ofChange arpBackSpec)

/-- ITS FALSE NEIGHBOUR: 'it returns false'. Refute it at one input. -/
def arpBackWrong : ChangeSpec := { name := "arpBack", fn := fun _ => fun
  | [d1, d2, d3] => { results := [.lit (.bool false)], args := [d1, d2, d3] }
  | _ => none }
def ArpBackWrongFalsely : Prop := arpBackRow.holds Try.pinned (OpenSpec.ofChange arpBackWrong)

/-- 'blockyardlaw07.ArpAnswers': WHATEVER THE INPUT: true; the input reads as it did. -/
def arpAnswersSpec : ChangeSpec := { name := "arpAnswers", fn := fun _ => fun
  | [d1, d2, d3] => { results := [.lit (.bool true)], args := [d1, d2, d3] }
  | _ => none }
def arpAnswersRow : OpenClaim := { program := "ytolegdjdppaeoaa", sum := "fb6688209229fd54cf6ff47f200a9dd55b047e5ea0ea207b542f1fc90a5b441b", func := "blockyard/blockyardlaw07.ArpAnswers", spec := "arpAnswers", apart := false }
def ArpAnswersSaid : Prop := arpAnswersRow.holds Try.pinned (OpenSpec.ofChange arpAnswersSpec)

/-- ITS FALSE NEIGHBOUR: 'it returns false'. Refute it at one input. -/
def arpAnswersWrong : ChangeSpec := { name := "arpAnswers", fn := fun _ => fun
  | [d1, d2, d3] => { results := [.lit (.bool false)], args := [d1, d2, d3] }
  | _ => none }
def ArpAnswersWrongFalsely : Prop := arpAnswersRow.holds Try.pinned (OpenSpec.ofChange arpAnswersWrong)

/- THE SECOND FORM. 'bulk': how many values and letters a reading holds, each counted each time it is reached (what is shared counts as often as it is met; a slice's spare places count too). A statement '..UptoSaid' is the law's where the arguments, and the package variables that the reading takes, are together of bulk at most 1048576: NARROWER than '..Said'. Prove '..Said' where nothing that the law and all that it calls make is longer than what came in: it says more and counts as full. Else prove '..UptoSaid'. A law counts once. -/
mutual
def uptoBulk {H : Type} : DataW H → Nat
  | .lit (.string bytes) => bytes.length + 1
  | .lit _ => 1
  | .nil => 1
  | .ptr d => uptoBulk d + 1
  | .slice elems spare => uptoBulkAll elems + uptoBulkAll spare + 1
  | .agg parts => uptoBulkAll parts + 1
  | .iface _ d => uptoBulk d + 1
  | .map entries => uptoBulkEntries entries + 1
  | .held _ => 1
def uptoBulkAll {H : Type} : List (DataW H) → Nat
  | [] => 0
  | d :: r => uptoBulk d + uptoBulkAll r
def uptoBulkEntries {H : Type} : List (Lit × DataW H) → Nat
  | [] => 0
  | x :: r => uptoBulkEntry x + uptoBulkEntries r
def uptoBulkEntry {H : Type} : Lit × DataW H → Nat
  | (.string bytes, d) => bytes.length + uptoBulk d + 1
  | (_, d) => uptoBulk d + 1
 end
def uptoSmall : (H : Type) → List (DataW H) → Bool := fun _ ds => decide (uptoBulkAll ds ≤ 1048576)
def OpenSpec.upto (s : _root_.Go.ChangeSpec) : _root_.Go.OpenSpec := { _root_.Go.OpenSpec.ofChange s with cond := some uptoSmall }

/-- 'blockyardlaw07.ArpKnown', WHERE WHAT IT READS IS OF BULK AT MOST 1048576: true; the input reads as it did. -/
def arpKnownUptoRow : OpenClaim := { program := "ytolegdjdppaeoaa", sum := "fb6688209229fd54cf6ff47f200a9dd55b047e5ea0ea207b542f1fc90a5b441b", func := "blockyard/blockyardlaw07.ArpKnown", spec := "arpKnown", unfollowed := true, recurses := true, apart := false, narrowed := true }
def ArpKnownUptoSaid : Prop := arpKnownUptoRow.holds Try.pinned (OpenSpec.upto arpKnownSpec)

/-- 'blockyardlaw07.ArpCodes', WHERE WHAT IT READS IS OF BULK AT MOST 1048576: true; the input reads as it did. -/
def arpCodesUptoRow : OpenClaim := { program := "ytolegdjdppaeoaa", sum := "fb6688209229fd54cf6ff47f200a9dd55b047e5ea0ea207b542f1fc90a5b441b", func := "blockyard/blockyardlaw07.ArpCodes", spec := "arpCodes", apart := false, narrowed := true }
def ArpCodesUptoSaid : Prop := arpCodesUptoRow.holds Try.pinned (OpenSpec.upto arpCodesSpec)

/-- 'blockyardlaw07.ArpCaches', WHERE WHAT IT READS IS OF BULK AT MOST 1048576: true; the input reads as it did. -/
def arpCachesUptoRow : OpenClaim := { program := "ytolegdjdppaeoaa", sum := "fb6688209229fd54cf6ff47f200a9dd55b047e5ea0ea207b542f1fc90a5b441b", func := "blockyard/blockyardlaw07.ArpCaches", spec := "arpCaches", unfollowed := true, recurses := true, apart := false, narrowed := true }
def ArpCachesUptoSaid : Prop := arpCachesUptoRow.holds Try.pinned (OpenSpec.upto arpCachesSpec)

/-- 'blockyardlaw07.ArpNobody', WHERE WHAT IT READS IS OF BULK AT MOST 1048576: true; the input reads as it did. -/
def arpNobodyUptoRow : OpenClaim := { program := "ytolegdjdppaeoaa", sum := "fb6688209229fd54cf6ff47f200a9dd55b047e5ea0ea207b542f1fc90a5b441b", func := "blockyard/blockyardlaw07.ArpNobody", spec := "arpNobody", unfollowed := true, recurses := true, apart := false, narrowed := true }
def ArpNobodyUptoSaid : Prop := arpNobodyUptoRow.holds Try.pinned (OpenSpec.upto arpNobodySpec)

/-- 'blockyardlaw07.ArpBack', WHERE WHAT IT READS IS OF BULK AT MOST 1048576: true; the input reads as it did. -/
def arpBackUptoRow : OpenClaim := { program := "ytolegdjdppaeoaa", sum := "fb6688209229fd54cf6ff47f200a9dd55b047e5ea0ea207b542f1fc90a5b441b", func := "blockyard/blockyardlaw07.ArpBack", spec := "arpBack", apart := false, narrowed := true }
def ArpBackUptoSaid : Prop := arpBackUptoRow.holds Try.pinned (OpenSpec.upto arpBackSpec)

/-- 'blockyardlaw07.ArpAnswers', WHERE WHAT IT READS IS OF BULK AT MOST 1048576: true; the input reads as it did. -/
def arpAnswersUptoRow : OpenClaim := { program := "ytolegdjdppaeoaa", sum := "fb6688209229fd54cf6ff47f200a9dd55b047e5ea0ea207b542f1fc90a5b441b", func := "blockyard/blockyardlaw07.ArpAnswers", spec := "arpAnswers", apart := false, narrowed := true }
def ArpAnswersUptoSaid : Prop := arpAnswersUptoRow.holds Try.pinned (OpenSpec.upto arpAnswersSpec)

end Rows
end Go.Proofs.Ytolegdjdppaeoaa
