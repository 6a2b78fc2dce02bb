/-
  No cell of these rows narrows 'for every input' (looked for: loops, veiled, ifaces, maps, wideKeys, modest, calm, conditions, laid).
  DERIVED. THE GIVEN ROWS OF THIS SEAT. 7 by the template 'for every input the law returns true; each argument reads behind the call as it read before'; 0 by the template 'total and deterministic' (their statements: YtbjoibgkhooljaaTotals.lean).
  GIVEN WITH THE SEED: the statements are not yours to turn. If you find one false, say at which input.
  Laid BY PROGRAM, IN A SANDBOX (cutbox-rows.mjs): the forced cells as the released guide's own fill.sh prints them over the translation e76ccf42d03f1e99… (all of the seat's roots in one cut). By AI agents, Wed Nov 11 2026. No macro, syntax, notation, axiom, sorry.
-/
import Derived.Test.YtbjoibgkhooljaaChecked
import GoSem.Claim
import GoSem.ClaimJoined
import GoSem.ClaimMapViews
import Derived.JoinedTies
import Derived.KernelRfl
namespace Go.Proofs.Ytbjoibgkhooljaa
/- THE CELL 'sum', in the pinned program and in every row, IS THE sha256 OF THE DUMP (.gsa) THAT YtbjoibgkhooljaaProg.lean LOADS. Nothing in Lean hashes anything: it is a label: what it is worth is what the hold of that sum in a sandbox is worth. -/
noncomputable def Try.pinned : Pinned := { name := "ytbjoibgkhooljaa", sum := "e76ccf42d03f1e99de2c9b49b310469bb1e5ed601eaf1b0f377c207c02feaec0", checked := Try.checked }
namespace Rows
def none {H : Type} : Left H := { results := [], args := [] }

/-- 'blockyardlaw08.Ipv4Joins': WHATEVER THE INPUT: true; the input reads as it did. -/
def ipv4JoinsSpec : ChangeSpec := { name := "ipv4Joins", fn := fun _ => fun
  | [d1, d2] => { results := [.lit (.bool true)], args := [d1, d2] }
  | _ => none }
def ipv4JoinsRow : OpenClaim := { program := "ytbjoibgkhooljaa", sum := "e76ccf42d03f1e99de2c9b49b310469bb1e5ed601eaf1b0f377c207c02feaec0", func := "blockyard/blockyardlaw08.Ipv4Joins", spec := "ipv4Joins", unfollowed := true, recurses := true, apart := false }
def Ipv4JoinsSaid : Prop := ipv4JoinsRow.holds Try.pinned (OpenSpec.ofChange ipv4JoinsSpec)

/-- ITS FALSE NEIGHBOUR: 'it returns false'. Refute it at one input. -/
def ipv4JoinsWrong : ChangeSpec := { name := "ipv4Joins", fn := fun _ => fun
  | [d1, d2] => { results := [.lit (.bool false)], args := [d1, d2] }
  | _ => none }
def Ipv4JoinsWrongFalsely : Prop := ipv4JoinsRow.holds Try.pinned (OpenSpec.ofChange ipv4JoinsWrong)

/-- 'blockyardlaw10.SegKnown': WHATEVER THE INPUT: true; the input reads as it did. -/
def segKnownSpec : ChangeSpec := { name := "segKnown", fn := fun _ => fun
  | [] => { results := [.lit (.bool true)], args := [] }
  | _ => none }
def segKnownRow : OpenClaim := { program := "ytbjoibgkhooljaa", sum := "e76ccf42d03f1e99de2c9b49b310469bb1e5ed601eaf1b0f377c207c02feaec0", func := "blockyard/blockyardlaw10.SegKnown", spec := "segKnown", inPlace := ["internal/abi.NoEscape", "internal/bytealg.MakeNoZero"], apart := false }
def SegKnownSaid : Prop := segKnownRow.holds Try.pinned (OpenSpec.ofChange segKnownSpec)

/-- ITS FALSE NEIGHBOUR: 'it returns false'. Refute it at one input. -/
def segKnownWrong : ChangeSpec := { name := "segKnown", fn := fun _ => fun
  | [] => { results := [.lit (.bool false)], args := [] }
  | _ => none }
def SegKnownWrongFalsely : Prop := segKnownRow.holds Try.pinned (OpenSpec.ofChange segKnownWrong)

/-- 'blockyardlaw10.SegCodes': WHATEVER THE INPUT: true; the input reads as it did. -/
def segCodesSpec : ChangeSpec := { name := "segCodes", fn := fun _ => fun
  | [d1, d2, d3, d4] => { results := [.lit (.bool true)], args := [d1, d2, d3, d4] }
  | _ => none }
def segCodesRow : OpenClaim := { program := "ytbjoibgkhooljaa", sum := "e76ccf42d03f1e99de2c9b49b310469bb1e5ed601eaf1b0f377c207c02feaec0", func := "blockyard/blockyardlaw10.SegCodes", spec := "segCodes", apart := false }
def SegCodesSaid : Prop := segCodesRow.holds Try.pinned (OpenSpec.ofChange segCodesSpec)

/-- ITS FALSE NEIGHBOUR: 'it returns false'. Refute it at one input. -/
def segCodesWrong : ChangeSpec := { name := "segCodes", fn := fun _ => fun
  | [d1, d2, d3, d4] => { results := [.lit (.bool false)], args := [d1, d2, d3, d4] }
  | _ => none }
def SegCodesWrongFalsely : Prop := segCodesRow.holds Try.pinned (OpenSpec.ofChange segCodesWrong)

/-- 'blockyardlaw10.SegHeads': WHATEVER THE INPUT: true; the input reads as it did. -/
def segHeadsSpec : ChangeSpec := { name := "segHeads", fn := fun _ => fun
  | [d1, d2, d3] => { results := [.lit (.bool true)], args := [d1, d2, d3] }
  | _ => none }
def segHeadsRow : OpenClaim := { program := "ytbjoibgkhooljaa", sum := "e76ccf42d03f1e99de2c9b49b310469bb1e5ed601eaf1b0f377c207c02feaec0", func := "blockyard/blockyardlaw10.SegHeads", spec := "segHeads", apart := false }
def SegHeadsSaid : Prop := segHeadsRow.holds Try.pinned (OpenSpec.ofChange segHeadsSpec)

/-- ITS FALSE NEIGHBOUR: 'it returns false'. Refute it at one input. -/
def segHeadsWrong : ChangeSpec := { name := "segHeads", fn := fun _ => fun
  | [d1, d2, d3] => { results := [.lit (.bool false)], args := [d1, d2, d3] }
  | _ => none }
def SegHeadsWrongFalsely : Prop := segHeadsRow.holds Try.pinned (OpenSpec.ofChange segHeadsWrong)

/-- 'blockyardlaw10.SegBack': WHATEVER THE INPUT: true; the input reads as it did. -/
def segBackSpec : ChangeSpec := { name := "segBack", fn := fun _ => fun
  | [d1, d2, d3, d4, d5] => { results := [.lit (.bool true)], args := [d1, d2, d3, d4, d5] }
  | _ => none }
def segBackRow : OpenClaim := { program := "ytbjoibgkhooljaa", sum := "e76ccf42d03f1e99de2c9b49b310469bb1e5ed601eaf1b0f377c207c02feaec0", func := "blockyard/blockyardlaw10.SegBack", spec := "segBack", apart := false }
def SegBackSaid : Prop := segBackRow.holds Try.pinned (OpenSpec.ofChange segBackSpec)

/-- ITS FALSE NEIGHBOUR: 'it returns false'. Refute it at one input. -/
def segBackWrong : ChangeSpec := { name := "segBack", fn := fun _ => fun
  | [d1, d2, d3, d4, d5] => { results := [.lit (.bool false)], args := [d1, d2, d3, d4, d5] }
  | _ => none }
def SegBackWrongFalsely : Prop := segBackRow.holds Try.pinned (OpenSpec.ofChange segBackWrong)

/-- 'blockyardlaw10.SegAddressed': WHATEVER THE INPUT: true; the input reads as it did. -/
def segAddressedSpec : ChangeSpec := { name := "segAddressed", fn := fun _ => fun
  | [d1, d2, d3, d4, d5] => { results := [.lit (.bool true)], args := [d1, d2, d3, d4, d5] }
  | _ => none }
def segAddressedRow : OpenClaim := { program := "ytbjoibgkhooljaa", sum := "e76ccf42d03f1e99de2c9b49b310469bb1e5ed601eaf1b0f377c207c02feaec0", func := "blockyard/blockyardlaw10.SegAddressed", spec := "segAddressed", apart := false }
def SegAddressedSaid : Prop := segAddressedRow.holds Try.pinned (OpenSpec.ofChange segAddressedSpec)

/-- ITS FALSE NEIGHBOUR: 'it returns false'. Refute it at one input. -/
def segAddressedWrong : ChangeSpec := { name := "segAddressed", fn := fun _ => fun
  | [d1, d2, d3, d4, d5] => { results := [.lit (.bool false)], args := [d1, d2, d3, d4, d5] }
  | _ => none }
def SegAddressedWrongFalsely : Prop := segAddressedRow.holds Try.pinned (OpenSpec.ofChange segAddressedWrong)

/-- 'blockyardlaw10.SegLens': WHATEVER THE INPUT: true; the input reads as it did. -/
def segLensSpec : ChangeSpec := { name := "segLens", fn := fun _ => fun
  | [d1, d2, d3] => { results := [.lit (.bool true)], args := [d1, d2, d3] }
  | _ => none }
def segLensRow : OpenClaim := { program := "ytbjoibgkhooljaa", sum := "e76ccf42d03f1e99de2c9b49b310469bb1e5ed601eaf1b0f377c207c02feaec0", func := "blockyard/blockyardlaw10.SegLens", spec := "segLens", apart := false }
def SegLensSaid : Prop := segLensRow.holds Try.pinned (OpenSpec.ofChange segLensSpec)

/-- ITS FALSE NEIGHBOUR: 'it returns false'. Refute it at one input. -/
def segLensWrong : ChangeSpec := { name := "segLens", fn := fun _ => fun
  | [d1, d2, d3] => { results := [.lit (.bool false)], args := [d1, d2, d3] }
  | _ => none }
def SegLensWrongFalsely : Prop := segLensRow.holds Try.pinned (OpenSpec.ofChange segLensWrong)

/- THE SECOND FORM. 'bulk': how many values and letters a reading holds, each counted each time it is reached (what is shared counts as often as it is met; a slice's spare places count too). A statement '..UptoSaid' is the law's where the arguments, and the package variables that the reading takes, are together of bulk at most 1048576: NARROWER than '..Said'. Prove '..Said' where nothing that the law and all that it calls make is longer than what came in: it says more and counts as full. Else prove '..UptoSaid'. A law counts once. -/
mutual
def uptoBulk {H : Type} : DataW H → Nat
  | .lit (.string bytes) => bytes.length + 1
  | .lit _ => 1
  | .nil => 1
  | .ptr d => uptoBulk d + 1
  | .slice elems spare => uptoBulkAll elems + uptoBulkAll spare + 1
  | .agg parts => uptoBulkAll parts + 1
  | .iface _ d => uptoBulk d + 1
  | .map entries => uptoBulkEntries entries + 1
  | .held _ => 1
def uptoBulkAll {H : Type} : List (DataW H) → Nat
  | [] => 0
  | d :: r => uptoBulk d + uptoBulkAll r
def uptoBulkEntries {H : Type} : List (Lit × DataW H) → Nat
  | [] => 0
  | x :: r => uptoBulkEntry x + uptoBulkEntries r
def uptoBulkEntry {H : Type} : Lit × DataW H → Nat
  | (.string bytes, d) => bytes.length + uptoBulk d + 1
  | (_, d) => uptoBulk d + 1
 end
def uptoSmall : (H : Type) → List (DataW H) → Bool := fun _ ds => decide (uptoBulkAll ds ≤ 1048576)
def OpenSpec.upto (s : _root_.Go.ChangeSpec) : _root_.Go.OpenSpec := { _root_.Go.OpenSpec.ofChange s with cond := some uptoSmall }

/-- 'blockyardlaw08.Ipv4Joins', WHERE WHAT IT READS IS OF BULK AT MOST 1048576: true; the input reads as it did. -/
def ipv4JoinsUptoRow : OpenClaim := { program := "ytbjoibgkhooljaa", sum := "e76ccf42d03f1e99de2c9b49b310469bb1e5ed601eaf1b0f377c207c02feaec0", func := "blockyard/blockyardlaw08.Ipv4Joins", spec := "ipv4Joins", unfollowed := true, recurses := true, apart := false, narrowed := true }
def Ipv4JoinsUptoSaid : Prop := ipv4JoinsUptoRow.holds Try.pinned (OpenSpec.upto ipv4JoinsSpec)

/-- 'blockyardlaw10.SegKnown', WHERE WHAT IT READS IS OF BULK AT MOST 1048576: true; the input reads as it did. -/
def segKnownUptoRow : OpenClaim := { program := "ytbjoibgkhooljaa", sum := "e76ccf42d03f1e99de2c9b49b310469bb1e5ed601eaf1b0f377c207c02feaec0", func := "blockyard/blockyardlaw10.SegKnown", spec := "segKnown", inPlace := ["internal/abi.NoEscape", "internal/bytealg.MakeNoZero"], apart := false, narrowed := true }
def SegKnownUptoSaid : Prop := segKnownUptoRow.holds Try.pinned (OpenSpec.upto segKnownSpec)

/-- 'blockyardlaw10.SegCodes', WHERE WHAT IT READS IS OF BULK AT MOST 1048576: true; the input reads as it did. -/
def segCodesUptoRow : OpenClaim := { program := "ytbjoibgkhooljaa", sum := "e76ccf42d03f1e99de2c9b49b310469bb1e5ed601eaf1b0f377c207c02feaec0", func := "blockyard/blockyardlaw10.SegCodes", spec := "segCodes", apart := false, narrowed := true }
def SegCodesUptoSaid : Prop := segCodesUptoRow.holds Try.pinned (OpenSpec.upto segCodesSpec)

/-- 'blockyardlaw10.SegHeads', WHERE WHAT IT READS IS OF BULK AT MOST 1048576: true; the input reads as it did. -/
def segHeadsUptoRow : OpenClaim := { program := "ytbjoibgkhooljaa", sum := "e76ccf42d03f1e99de2c9b49b310469bb1e5ed601eaf1b0f377c207c02feaec0", func := "blockyard/blockyardlaw10.SegHeads", spec := "segHeads", apart := false, narrowed := true }
def SegHeadsUptoSaid : Prop := segHeadsUptoRow.holds Try.pinned (OpenSpec.upto segHeadsSpec)

/-- 'blockyardlaw10.SegBack', WHERE WHAT IT READS IS OF BULK AT MOST 1048576: true; the input reads as it did. -/
def segBackUptoRow : OpenClaim := { program := "ytbjoibgkhooljaa", sum := "e76ccf42d03f1e99de2c9b49b310469bb1e5ed601eaf1b0f377c207c02feaec0", func := "blockyard/blockyardlaw10.SegBack", spec := "segBack", apart := false, narrowed := true }
def SegBackUptoSaid : Prop := segBackUptoRow.holds Try.pinned (OpenSpec.upto segBackSpec)

/-- 'blockyardlaw10.SegAddressed', WHERE WHAT IT READS IS OF BULK AT MOST 1048576: true; the input reads as it did. -/
def segAddressedUptoRow : OpenClaim := { program := "ytbjoibgkhooljaa", sum := "e76ccf42d03f1e99de2c9b49b310469bb1e5ed601eaf1b0f377c207c02feaec0", func := "blockyard/blockyardlaw10.SegAddressed", spec := "segAddressed", apart := false, narrowed := true }
def SegAddressedUptoSaid : Prop := segAddressedUptoRow.holds Try.pinned (OpenSpec.upto segAddressedSpec)

/-- 'blockyardlaw10.SegLens', WHERE WHAT IT READS IS OF BULK AT MOST 1048576: true; the input reads as it did. -/
def segLensUptoRow : OpenClaim := { program := "ytbjoibgkhooljaa", sum := "e76ccf42d03f1e99de2c9b49b310469bb1e5ed601eaf1b0f377c207c02feaec0", func := "blockyard/blockyardlaw10.SegLens", spec := "segLens", apart := false, narrowed := true }
def SegLensUptoSaid : Prop := segLensUptoRow.holds Try.pinned (OpenSpec.upto segLensSpec)

end Rows
end Go.Proofs.Ytbjoibgkhooljaa
