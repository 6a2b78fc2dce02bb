/-
  No cell of these rows narrows 'for every input' (looked for: loops, veiled, ifaces, maps, wideKeys, modest, calm, conditions, laid).
  DERIVED. THE GIVEN ROWS OF THIS SEAT. 5 by the template 'for every input the law returns true; each argument reads behind the call as it read before'; 0 by the template 'total and deterministic' (their statements: YtmlicejhkdkhnaaTotals.lean).
  GIVEN WITH THE SEED: the statements are not yours to turn. If you find one false, say at which input.
  Laid BY PROGRAM, IN A SANDBOX (cutbox-rows.mjs): the forced cells as the released guide's own fill.sh prints them over the translation d47aa0c1fa159612… (all of the seat's roots in one cut). By AI agents, Wed Nov 11 2026. No macro, syntax, notation, axiom, sorry.
-/
import Derived.Test.YtmlicejhkdkhnaaChecked
import GoSem.Claim
import GoSem.ClaimJoined
import GoSem.ClaimMapViews
import Derived.JoinedTies
import Derived.KernelRfl
namespace Go.Proofs.Ytmlicejhkdkhnaa
/- THE CELL 'sum', in the pinned program and in every row, IS THE sha256 OF THE DUMP (.gsa) THAT YtmlicejhkdkhnaaProg.lean LOADS. Nothing in Lean hashes anything: it is a label: what it is worth is what the hold of that sum in a sandbox is worth. -/
noncomputable def Try.pinned : Pinned := { name := "ytmlicejhkdkhnaa", sum := "d47aa0c1fa159612128eea331d39c270ede161bcbaa7240bd56d7e9f84fb00b9", checked := Try.checked }
namespace Rows
def none {H : Type} : Left H := { results := [], args := [] }

/-- 'blockyardlaw04.VnetKnown': WHATEVER THE INPUT: true; the input reads as it did. -/
def vnetKnownSpec : ChangeSpec := { name := "vnetKnown", fn := fun _ => fun
  | [] => { results := [.lit (.bool true)], args := [] }
  | _ => none }
def vnetKnownRow : OpenClaim := { program := "ytmlicejhkdkhnaa", sum := "d47aa0c1fa159612128eea331d39c270ede161bcbaa7240bd56d7e9f84fb00b9", func := "blockyard/blockyardlaw04.VnetKnown", spec := "vnetKnown", inPlace := ["internal/abi.NoEscape", "internal/bytealg.MakeNoZero"], apart := false }
def VnetKnownSaid : Prop := vnetKnownRow.holds Try.pinned (OpenSpec.ofChange vnetKnownSpec)

/-- ITS FALSE NEIGHBOUR: 'it returns false'. Refute it at one input. -/
def vnetKnownWrong : ChangeSpec := { name := "vnetKnown", fn := fun _ => fun
  | [] => { results := [.lit (.bool false)], args := [] }
  | _ => none }
def VnetKnownWrongFalsely : Prop := vnetKnownRow.holds Try.pinned (OpenSpec.ofChange vnetKnownWrong)

/-- 'blockyardlaw04.VnetPool': WHATEVER THE INPUT: true; the input reads as it did. -/
def vnetPoolSpec : ChangeSpec := { name := "vnetPool", fn := fun _ => fun
  | [d1, d2] => { results := [.lit (.bool true)], args := [d1, d2] }
  | _ => none }
def vnetPoolRow : OpenClaim := { program := "ytmlicejhkdkhnaa", sum := "d47aa0c1fa159612128eea331d39c270ede161bcbaa7240bd56d7e9f84fb00b9", func := "blockyard/blockyardlaw04.VnetPool", spec := "vnetPool", inPlace := ["internal/abi.NoEscape", "internal/bytealg.MakeNoZero"], apart := false }
def VnetPoolSaid : Prop := vnetPoolRow.holds Try.pinned (OpenSpec.ofChange vnetPoolSpec)

/-- ITS FALSE NEIGHBOUR: 'it returns false'. Refute it at one input. -/
def vnetPoolWrong : ChangeSpec := { name := "vnetPool", fn := fun _ => fun
  | [d1, d2] => { results := [.lit (.bool false)], args := [d1, d2] }
  | _ => none }
def VnetPoolWrongFalsely : Prop := vnetPoolRow.holds Try.pinned (OpenSpec.ofChange vnetPoolWrong)

/-- 'blockyardlaw04.VnetNobody': WHATEVER THE INPUT: true; the input reads as it did. -/
def vnetNobodySpec : ChangeSpec := { name := "vnetNobody", fn := fun _ => fun
  | [d1, d2] => { results := [.lit (.bool true)], args := [d1, d2] }
  | _ => none }
def vnetNobodyRow : OpenClaim := { program := "ytmlicejhkdkhnaa", sum := "d47aa0c1fa159612128eea331d39c270ede161bcbaa7240bd56d7e9f84fb00b9", func := "blockyard/blockyardlaw04.VnetNobody", spec := "vnetNobody", inPlace := ["internal/abi.NoEscape", "internal/bytealg.MakeNoZero"], apart := false }
def VnetNobodySaid : Prop := vnetNobodyRow.holds Try.pinned (OpenSpec.ofChange vnetNobodySpec)

/-- ITS FALSE NEIGHBOUR: 'it returns false'. Refute it at one input. -/
def vnetNobodyWrong : ChangeSpec := { name := "vnetNobody", fn := fun _ => fun
  | [d1, d2] => { results := [.lit (.bool false)], args := [d1, d2] }
  | _ => none }
def VnetNobodyWrongFalsely : Prop := vnetNobodyRow.holds Try.pinned (OpenSpec.ofChange vnetNobodyWrong)

/-- 'blockyardlaw04.VnetBack': WHATEVER THE INPUT: true; the input reads as it did. -/
def vnetBackSpec : ChangeSpec := { name := "vnetBack", fn := fun _ => fun
  | [d] => { results := [.lit (.bool true)], args := [d] }
  | _ => none }
def vnetBackRow : OpenClaim := { program := "ytmlicejhkdkhnaa", sum := "d47aa0c1fa159612128eea331d39c270ede161bcbaa7240bd56d7e9f84fb00b9", func := "blockyard/blockyardlaw04.VnetBack", spec := "vnetBack", inPlace := ["internal/abi.NoEscape", "internal/bytealg.MakeNoZero"], apart := false }
def VnetBackSaid : Prop := vnetBackRow.holds Try.pinned (OpenSpec.ofChange vnetBackSpec)

/-- ITS FALSE NEIGHBOUR: 'it returns false'. Refute it at one input. -/
def vnetBackWrong : ChangeSpec := { name := "vnetBack", fn := fun _ => fun
  | [d] => { results := [.lit (.bool false)], args := [d] }
  | _ => none }
def VnetBackWrongFalsely : Prop := vnetBackRow.holds Try.pinned (OpenSpec.ofChange vnetBackWrong)

/-- 'blockyardlaw04.VnetSafe': WHATEVER THE INPUT: true; the input reads as it did. -/
def vnetSafeSpec : ChangeSpec := { name := "vnetSafe", fn := fun _ => fun
  | [d] => { results := [.lit (.bool true)], args := [d] }
  | _ => none }
def vnetSafeRow : OpenClaim := { program := "ytmlicejhkdkhnaa", sum := "d47aa0c1fa159612128eea331d39c270ede161bcbaa7240bd56d7e9f84fb00b9", func := "blockyard/blockyardlaw04.VnetSafe", spec := "vnetSafe", inPlace := ["internal/abi.NoEscape", "internal/bytealg.MakeNoZero"], apart := false }
def VnetSafeSaid : Prop := vnetSafeRow.holds Try.pinned (OpenSpec.ofChange vnetSafeSpec)

/-- ITS FALSE NEIGHBOUR: 'it returns false'. Refute it at one input. -/
def vnetSafeWrong : ChangeSpec := { name := "vnetSafe", fn := fun _ => fun
  | [d] => { results := [.lit (.bool false)], args := [d] }
  | _ => none }
def VnetSafeWrongFalsely : Prop := vnetSafeRow.holds Try.pinned (OpenSpec.ofChange vnetSafeWrong)

/- THE SECOND FORM. 'bulk': how many values and letters a reading holds, each counted each time it is reached (what is shared counts as often as it is met; a slice's spare places count too). A statement '..UptoSaid' is the law's where the arguments, and the package variables that the reading takes, are together of bulk at most 1048576: NARROWER than '..Said'. Prove '..Said' where nothing that the law and all that it calls make is longer than what came in: it says more and counts as full. Else prove '..UptoSaid'. A law counts once. -/
mutual
def uptoBulk {H : Type} : DataW H → Nat
  | .lit (.string bytes) => bytes.length + 1
  | .lit _ => 1
  | .nil => 1
  | .ptr d => uptoBulk d + 1
  | .slice elems spare => uptoBulkAll elems + uptoBulkAll spare + 1
  | .agg parts => uptoBulkAll parts + 1
  | .iface _ d => uptoBulk d + 1
  | .map entries => uptoBulkEntries entries + 1
  | .held _ => 1
def uptoBulkAll {H : Type} : List (DataW H) → Nat
  | [] => 0
  | d :: r => uptoBulk d + uptoBulkAll r
def uptoBulkEntries {H : Type} : List (Lit × DataW H) → Nat
  | [] => 0
  | x :: r => uptoBulkEntry x + uptoBulkEntries r
def uptoBulkEntry {H : Type} : Lit × DataW H → Nat
  | (.string bytes, d) => bytes.length + uptoBulk d + 1
  | (_, d) => uptoBulk d + 1
 end
def uptoSmall : (H : Type) → List (DataW H) → Bool := fun _ ds => decide (uptoBulkAll ds ≤ 1048576)
def OpenSpec.upto (s : _root_.Go.ChangeSpec) : _root_.Go.OpenSpec := { _root_.Go.OpenSpec.ofChange s with cond := some uptoSmall }

/-- 'blockyardlaw04.VnetKnown', WHERE WHAT IT READS IS OF BULK AT MOST 1048576: true; the input reads as it did. -/
def vnetKnownUptoRow : OpenClaim := { program := "ytmlicejhkdkhnaa", sum := "d47aa0c1fa159612128eea331d39c270ede161bcbaa7240bd56d7e9f84fb00b9", func := "blockyard/blockyardlaw04.VnetKnown", spec := "vnetKnown", inPlace := ["internal/abi.NoEscape", "internal/bytealg.MakeNoZero"], apart := false, narrowed := true }
def VnetKnownUptoSaid : Prop := vnetKnownUptoRow.holds Try.pinned (OpenSpec.upto vnetKnownSpec)

/-- 'blockyardlaw04.VnetPool', WHERE WHAT IT READS IS OF BULK AT MOST 1048576: true; the input reads as it did. -/
def vnetPoolUptoRow : OpenClaim := { program := "ytmlicejhkdkhnaa", sum := "d47aa0c1fa159612128eea331d39c270ede161bcbaa7240bd56d7e9f84fb00b9", func := "blockyard/blockyardlaw04.VnetPool", spec := "vnetPool", inPlace := ["internal/abi.NoEscape", "internal/bytealg.MakeNoZero"], apart := false, narrowed := true }
def VnetPoolUptoSaid : Prop := vnetPoolUptoRow.holds Try.pinned (OpenSpec.upto vnetPoolSpec)

/-- 'blockyardlaw04.VnetNobody', WHERE WHAT IT READS IS OF BULK AT MOST 1048576: true; the input reads as it did. -/
def vnetNobodyUptoRow : OpenClaim := { program := "ytmlicejhkdkhnaa", sum := "d47aa0c1fa159612128eea331d39c270ede161bcbaa7240bd56d7e9f84fb00b9", func := "blockyard/blockyardlaw04.VnetNobody", spec := "vnetNobody", inPlace := ["internal/abi.NoEscape", "internal/bytealg.MakeNoZero"], apart := false, narrowed := true }
def VnetNobodyUptoSaid : Prop := vnetNobodyUptoRow.holds Try.pinned (OpenSpec.upto vnetNobodySpec)

/-- 'blockyardlaw04.VnetBack', WHERE WHAT IT READS IS OF BULK AT MOST 1048576: true; the input reads as it did. -/
def vnetBackUptoRow : OpenClaim := { program := "ytmlicejhkdkhnaa", sum := "d47aa0c1fa159612128eea331d39c270ede161bcbaa7240bd56d7e9f84fb00b9", func := "blockyard/blockyardlaw04.VnetBack", spec := "vnetBack", inPlace := ["internal/abi.NoEscape", "internal/bytealg.MakeNoZero"], apart := false, narrowed := true }
def VnetBackUptoSaid : Prop := vnetBackUptoRow.holds Try.pinned (OpenSpec.upto vnetBackSpec)

/-- 'blockyardlaw04.VnetSafe', WHERE WHAT IT READS IS OF BULK AT MOST 1048576: true; the input reads as it did. -/
def vnetSafeUptoRow : OpenClaim := { program := "ytmlicejhkdkhnaa", sum := "d47aa0c1fa159612128eea331d39c270ede161bcbaa7240bd56d7e9f84fb00b9", func := "blockyard/blockyardlaw04.VnetSafe", spec := "vnetSafe", inPlace := ["internal/abi.NoEscape", "internal/bytealg.MakeNoZero"], apart := false, narrowed := true }
def VnetSafeUptoSaid : Prop := vnetSafeUptoRow.holds Try.pinned (OpenSpec.upto vnetSafeSpec)

end Rows
end Go.Proofs.Ytmlicejhkdkhnaa
