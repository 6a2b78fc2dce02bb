/-
  No cell of these rows narrows 'for every input' (looked for: loops, veiled, ifaces, maps, wideKeys, modest, calm, conditions, laid).
  DERIVED. THE GIVEN ROWS OF THIS SEAT. 3 by the template 'for every input the law returns true; each argument reads behind the call as it read before'; 0 by the template 'total and deterministic' (their statements: YtkblkojmmjoohaaTotals.lean).
  GIVEN WITH THE SEED: the statements are not yours to turn. If you find one false, say at which input.
  Laid BY PROGRAM, IN A SANDBOX (cutbox-rows.mjs): the forced cells as the released guide's own fill.sh prints them over the translation 351ee5777c2107b4… (all of the seat's roots in one cut). By AI agents, Wed Nov 11 2026. No macro, syntax, notation, axiom, sorry.
-/
import Derived.Test.YtkblkojmmjoohaaChecked
import GoSem.Claim
import GoSem.ClaimJoined
import GoSem.ClaimMapViews
import Derived.JoinedTies
import Derived.KernelRfl
namespace Go.Proofs.Ytkblkojmmjoohaa
/- THE CELL 'sum', in the pinned program and in every row, IS THE sha256 OF THE DUMP (.gsa) THAT YtkblkojmmjoohaaProg.lean LOADS. Nothing in Lean hashes anything: it is a label: what it is worth is what the hold of that sum in a sandbox is worth. -/
noncomputable def Try.pinned : Pinned := { name := "ytkblkojmmjoohaa", sum := "351ee5777c2107b46c1aff84a93343a74ba3d9db9c10bc0509dd643f432d1913", checked := Try.checked }
namespace Rows
def none {H : Type} : Left H := { results := [], args := [] }

/-- 'blockyardlaw02.VirtqPlays': WHATEVER THE INPUT: true; the input reads as it did. -/
def virtqPlaysSpec : ChangeSpec := { name := "virtqPlays", fn := fun _ => fun
  | [d1, d2, d3, d4] => { results := [.lit (.bool true)], args := [d1, d2, d3, d4] }
  | _ => none }
def virtqPlaysRow : OpenClaim := { program := "ytkblkojmmjoohaa", sum := "351ee5777c2107b46c1aff84a93343a74ba3d9db9c10bc0509dd643f432d1913", func := "blockyard/blockyardlaw02.VirtqPlays", spec := "virtqPlays", apart := false }
def VirtqPlaysSaid : Prop := virtqPlaysRow.holds Try.pinned (OpenSpec.ofChange virtqPlaysSpec)

/-- ITS FALSE NEIGHBOUR: 'it returns false'. Refute it at one input. -/
def virtqPlaysWrong : ChangeSpec := { name := "virtqPlays", fn := fun _ => fun
  | [d1, d2, d3, d4] => { results := [.lit (.bool false)], args := [d1, d2, d3, d4] }
  | _ => none }
def VirtqPlaysWrongFalsely : Prop := virtqPlaysRow.holds Try.pinned (OpenSpec.ofChange virtqPlaysWrong)

/-- 'blockyardlaw02.VirtqBack': WHATEVER THE INPUT: true; the input reads as it did. -/
def virtqBackSpec : ChangeSpec := { name := "virtqBack", fn := fun _ => fun
  | [d1, d2, d3] => { results := [.lit (.bool true)], args := [d1, d2, d3] }
  | _ => none }
def virtqBackRow : OpenClaim := { program := "ytkblkojmmjoohaa", sum := "351ee5777c2107b46c1aff84a93343a74ba3d9db9c10bc0509dd643f432d1913", func := "blockyard/blockyardlaw02.VirtqBack", spec := "virtqBack", apart := false }
def VirtqBackSaid : Prop := virtqBackRow.holds Try.pinned (OpenSpec.ofChange virtqBackSpec)

/-- ITS FALSE NEIGHBOUR: 'it returns false'. Refute it at one input. -/
def virtqBackWrong : ChangeSpec := { name := "virtqBack", fn := fun _ => fun
  | [d1, d2, d3] => { results := [.lit (.bool false)], args := [d1, d2, d3] }
  | _ => none }
def VirtqBackWrongFalsely : Prop := virtqBackRow.holds Try.pinned (OpenSpec.ofChange virtqBackWrong)

/-- 'blockyardlaw02.VirtqSafe': WHATEVER THE INPUT: true; the input reads as it did. -/
def virtqSafeSpec : ChangeSpec := { name := "virtqSafe", fn := fun _ => fun
  | [d1, d2] => { results := [.lit (.bool true)], args := [d1, d2] }
  | _ => none }
def virtqSafeRow : OpenClaim := { program := "ytkblkojmmjoohaa", sum := "351ee5777c2107b46c1aff84a93343a74ba3d9db9c10bc0509dd643f432d1913", func := "blockyard/blockyardlaw02.VirtqSafe", spec := "virtqSafe", apart := false }
def VirtqSafeSaid : Prop := virtqSafeRow.holds Try.pinned (OpenSpec.ofChange virtqSafeSpec)

/-- ITS FALSE NEIGHBOUR: 'it returns false'. Refute it at one input. -/
def virtqSafeWrong : ChangeSpec := { name := "virtqSafe", fn := fun _ => fun
  | [d1, d2] => { results := [.lit (.bool false)], args := [d1, d2] }
  | _ => none }
def VirtqSafeWrongFalsely : Prop := virtqSafeRow.holds Try.pinned (OpenSpec.ofChange virtqSafeWrong)

/- THE SECOND FORM. 'bulk': how many values and letters a reading holds, each counted each time it is reached (what is shared counts as often as it is met; a slice's spare places count too). A statement '..UptoSaid' is the law's where the arguments, and the package variables that the reading takes, are together of bulk at most 1048576: NARROWER than '..Said'. Prove '..Said' where nothing that the law and all that it calls make is longer than what came in: it says more and counts as full. Else prove '..UptoSaid'. A law counts once. -/
mutual
def uptoBulk {H : Type} : DataW H → Nat
  | .lit (.string bytes) => bytes.length + 1
  | .lit _ => 1
  | .nil => 1
  | .ptr d => uptoBulk d + 1
  | .slice elems spare => uptoBulkAll elems + uptoBulkAll spare + 1
  | .agg parts => uptoBulkAll parts + 1
  | .iface _ d => uptoBulk d + 1
  | .map entries => uptoBulkEntries entries + 1
  | .held _ => 1
def uptoBulkAll {H : Type} : List (DataW H) → Nat
  | [] => 0
  | d :: r => uptoBulk d + uptoBulkAll r
def uptoBulkEntries {H : Type} : List (Lit × DataW H) → Nat
  | [] => 0
  | x :: r => uptoBulkEntry x + uptoBulkEntries r
def uptoBulkEntry {H : Type} : Lit × DataW H → Nat
  | (.string bytes, d) => bytes.length + uptoBulk d + 1
  | (_, d) => uptoBulk d + 1
 end
def uptoSmall : (H : Type) → List (DataW H) → Bool := fun _ ds => decide (uptoBulkAll ds ≤ 1048576)
def OpenSpec.upto (s : _root_.Go.ChangeSpec) : _root_.Go.OpenSpec := { _root_.Go.OpenSpec.ofChange s with cond := some uptoSmall }

/-- 'blockyardlaw02.VirtqPlays', WHERE WHAT IT READS IS OF BULK AT MOST 1048576: true; the input reads as it did. -/
def virtqPlaysUptoRow : OpenClaim := { program := "ytkblkojmmjoohaa", sum := "351ee5777c2107b46c1aff84a93343a74ba3d9db9c10bc0509dd643f432d1913", func := "blockyard/blockyardlaw02.VirtqPlays", spec := "virtqPlays", apart := false, narrowed := true }
def VirtqPlaysUptoSaid : Prop := virtqPlaysUptoRow.holds Try.pinned (OpenSpec.upto virtqPlaysSpec)

/-- 'blockyardlaw02.VirtqBack', WHERE WHAT IT READS IS OF BULK AT MOST 1048576: true; the input reads as it did. -/
def virtqBackUptoRow : OpenClaim := { program := "ytkblkojmmjoohaa", sum := "351ee5777c2107b46c1aff84a93343a74ba3d9db9c10bc0509dd643f432d1913", func := "blockyard/blockyardlaw02.VirtqBack", spec := "virtqBack", apart := false, narrowed := true }
def VirtqBackUptoSaid : Prop := virtqBackUptoRow.holds Try.pinned (OpenSpec.upto virtqBackSpec)

/-- 'blockyardlaw02.VirtqSafe', WHERE WHAT IT READS IS OF BULK AT MOST 1048576: true; the input reads as it did. -/
def virtqSafeUptoRow : OpenClaim := { program := "ytkblkojmmjoohaa", sum := "351ee5777c2107b46c1aff84a93343a74ba3d9db9c10bc0509dd643f432d1913", func := "blockyard/blockyardlaw02.VirtqSafe", spec := "virtqSafe", apart := false, narrowed := true }
def VirtqSafeUptoSaid : Prop := virtqSafeUptoRow.holds Try.pinned (OpenSpec.upto virtqSafeSpec)

end Rows
end Go.Proofs.Ytkblkojmmjoohaa
