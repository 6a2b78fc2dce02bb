/-
  No cell of these rows narrows 'for every input' (looked for: loops, veiled, ifaces, maps, wideKeys, modest, calm, conditions, laid).
  DERIVED. THE GIVEN ROWS OF THIS SEAT. 7 by the template 'for every input the law returns true; each argument reads behind the call as it read before'; 0 by the template 'total and deterministic' (their statements: YtapfkhhabamndaaTotals.lean).
  GIVEN WITH THE SEED: the statements are not yours to turn. If you find one false, say at which input.
  Laid BY PROGRAM, IN A SANDBOX (cutbox-rows.mjs): the forced cells as the released guide's own fill.sh prints them over the translation ee328e6445fdcec7… (all of the seat's roots in one cut). By AI agents, Wed Nov 11 2026. No macro, syntax, notation, axiom, sorry.
-/
import Derived.Test.YtapfkhhabamndaaChecked
import GoSem.Claim
import GoSem.ClaimJoined
import GoSem.ClaimMapViews
import Derived.JoinedTies
import Derived.KernelRfl
namespace Go.Proofs.Ytapfkhhabamndaa
/- THE CELL 'sum', in the pinned program and in every row, IS THE sha256 OF THE DUMP (.gsa) THAT YtapfkhhabamndaaProg.lean LOADS. Nothing in Lean hashes anything: it is a label: what it is worth is what the hold of that sum in a sandbox is worth. -/
noncomputable def Try.pinned : Pinned := { name := "ytapfkhhabamndaa", sum := "ee328e6445fdcec76fd2e3c240c658577f0670becd5d543cafd146d0ebf39981", checked := Try.checked }
namespace Rows
def none {H : Type} : Left H := { results := [], args := [] }

/-- 'blockyardlaw08.Ipv4Joins': WHATEVER THE INPUT: true; the input reads as it did. -/
def ipv4JoinsSpec : ChangeSpec := { name := "ipv4Joins", fn := fun _ => fun
  | [d1, d2] => { results := [.lit (.bool true)], args := [d1, d2] }
  | _ => none }
def ipv4JoinsRow : OpenClaim := { program := "ytapfkhhabamndaa", sum := "ee328e6445fdcec76fd2e3c240c658577f0670becd5d543cafd146d0ebf39981", func := "blockyard/blockyardlaw08.Ipv4Joins", spec := "ipv4Joins", unfollowed := true, recurses := true, apart := false }
def Ipv4JoinsSaid : Prop := ipv4JoinsRow.holds Try.pinned (OpenSpec.ofChange ipv4JoinsSpec)

/-- ITS FALSE NEIGHBOUR: 'it returns false'. Refute it at one input. -/
def ipv4JoinsWrong : ChangeSpec := { name := "ipv4Joins", fn := fun _ => fun
  | [d1, d2] => { results := [.lit (.bool false)], args := [d1, d2] }
  | _ => none }
def Ipv4JoinsWrongFalsely : Prop := ipv4JoinsRow.holds Try.pinned (OpenSpec.ofChange ipv4JoinsWrong)

/-- 'blockyardlaw09.IcmpKnown': WHATEVER THE INPUT: true; the input reads as it did. -/
def icmpKnownSpec : ChangeSpec := { name := "icmpKnown", fn := fun _ => fun
  | [] => { results := [.lit (.bool true)], args := [] }
  | _ => none }
def icmpKnownRow : OpenClaim := { program := "ytapfkhhabamndaa", sum := "ee328e6445fdcec76fd2e3c240c658577f0670becd5d543cafd146d0ebf39981", func := "blockyard/blockyardlaw09.IcmpKnown", spec := "icmpKnown", inPlace := ["internal/abi.NoEscape", "internal/bytealg.MakeNoZero"], apart := false }
def IcmpKnownSaid : Prop := icmpKnownRow.holds Try.pinned (OpenSpec.ofChange icmpKnownSpec)

/-- ITS FALSE NEIGHBOUR: 'it returns false'. Refute it at one input. -/
def icmpKnownWrong : ChangeSpec := { name := "icmpKnown", fn := fun _ => fun
  | [] => { results := [.lit (.bool false)], args := [] }
  | _ => none }
def IcmpKnownWrongFalsely : Prop := icmpKnownRow.holds Try.pinned (OpenSpec.ofChange icmpKnownWrong)

/-- 'blockyardlaw09.IcmpCodes': WHATEVER THE INPUT: true; the input reads as it did. -/
def icmpCodesSpec : ChangeSpec := { name := "icmpCodes", fn := fun _ => fun
  | [d1, d2] => { results := [.lit (.bool true)], args := [d1, d2] }
  | _ => none }
def icmpCodesRow : OpenClaim := { program := "ytapfkhhabamndaa", sum := "ee328e6445fdcec76fd2e3c240c658577f0670becd5d543cafd146d0ebf39981", func := "blockyard/blockyardlaw09.IcmpCodes", spec := "icmpCodes", apart := false }
def IcmpCodesSaid : Prop := icmpCodesRow.holds Try.pinned (OpenSpec.ofChange icmpCodesSpec)

/-- ITS FALSE NEIGHBOUR: 'it returns false'. Refute it at one input. -/
def icmpCodesWrong : ChangeSpec := { name := "icmpCodes", fn := fun _ => fun
  | [d1, d2] => { results := [.lit (.bool false)], args := [d1, d2] }
  | _ => none }
def IcmpCodesWrongFalsely : Prop := icmpCodesRow.holds Try.pinned (OpenSpec.ofChange icmpCodesWrong)

/-- 'blockyardlaw09.IcmpLost': WHATEVER THE INPUT: true; the input reads as it did. -/
def icmpLostSpec : ChangeSpec := { name := "icmpLost", fn := fun _ => fun
  | [d1, d2] => { results := [.lit (.bool true)], args := [d1, d2] }
  | _ => none }
def icmpLostRow : OpenClaim := { program := "ytapfkhhabamndaa", sum := "ee328e6445fdcec76fd2e3c240c658577f0670becd5d543cafd146d0ebf39981", func := "blockyard/blockyardlaw09.IcmpLost", spec := "icmpLost", apart := false }
def IcmpLostSaid : Prop := icmpLostRow.holds Try.pinned (OpenSpec.ofChange icmpLostSpec)

/-- ITS FALSE NEIGHBOUR: 'it returns false'. Refute it at one input. -/
def icmpLostWrong : ChangeSpec := { name := "icmpLost", fn := fun _ => fun
  | [d1, d2] => { results := [.lit (.bool false)], args := [d1, d2] }
  | _ => none }
def IcmpLostWrongFalsely : Prop := icmpLostRow.holds Try.pinned (OpenSpec.ofChange icmpLostWrong)

/-- 'blockyardlaw09.IcmpBack': WHATEVER THE INPUT: true; the input reads as it did. -/
def icmpBackSpec : ChangeSpec := { name := "icmpBack", fn := fun _ => fun
  | [d1, d2] => { results := [.lit (.bool true)], args := [d1, d2] }
  | _ => none }
def icmpBackRow : OpenClaim := { program := "ytapfkhhabamndaa", sum := "ee328e6445fdcec76fd2e3c240c658577f0670becd5d543cafd146d0ebf39981", func := "blockyard/blockyardlaw09.IcmpBack", spec := "icmpBack", apart := false }
def IcmpBackSaid : Prop := icmpBackRow.holds Try.pinned (OpenSpec.ofChange icmpBackSpec)

/-- ITS FALSE NEIGHBOUR: 'it returns false'. Refute it at one input. -/
def icmpBackWrong : ChangeSpec := { name := "icmpBack", fn := fun _ => fun
  | [d1, d2] => { results := [.lit (.bool false)], args := [d1, d2] }
  | _ => none }
def IcmpBackWrongFalsely : Prop := icmpBackRow.holds Try.pinned (OpenSpec.ofChange icmpBackWrong)

/-- 'blockyardlaw09.IcmpEcho': WHATEVER THE INPUT: true; the input reads as it did. -/
def icmpEchoSpec : ChangeSpec := { name := "icmpEcho", fn := fun _ => fun
  | [d] => { results := [.lit (.bool true)], args := [d] }
  | _ => none }
def icmpEchoRow : OpenClaim := { program := "ytapfkhhabamndaa", sum := "ee328e6445fdcec76fd2e3c240c658577f0670becd5d543cafd146d0ebf39981", func := "blockyard/blockyardlaw09.IcmpEcho", spec := "icmpEcho", apart := false }
def IcmpEchoSaid : Prop := icmpEchoRow.holds Try.pinned (OpenSpec.ofChange icmpEchoSpec)

/-- ITS FALSE NEIGHBOUR: 'it returns false'. Refute it at one input. -/
def icmpEchoWrong : ChangeSpec := { name := "icmpEcho", fn := fun _ => fun
  | [d] => { results := [.lit (.bool false)], args := [d] }
  | _ => none }
def IcmpEchoWrongFalsely : Prop := icmpEchoRow.holds Try.pinned (OpenSpec.ofChange icmpEchoWrong)

/-- 'blockyardlaw09.IcmpQuotes': WHATEVER THE INPUT: true; the input reads as it did. -/
def icmpQuotesSpec : ChangeSpec := { name := "icmpQuotes", fn := fun _ => fun
  | [d1, d2] => { results := [.lit (.bool true)], args := [d1, d2] }
  | _ => none }
def icmpQuotesRow : OpenClaim := { program := "ytapfkhhabamndaa", sum := "ee328e6445fdcec76fd2e3c240c658577f0670becd5d543cafd146d0ebf39981", func := "blockyard/blockyardlaw09.IcmpQuotes", spec := "icmpQuotes", apart := false }
def IcmpQuotesSaid : Prop := icmpQuotesRow.holds Try.pinned (OpenSpec.ofChange icmpQuotesSpec)

/-- ITS FALSE NEIGHBOUR: 'it returns false'. Refute it at one input. -/
def icmpQuotesWrong : ChangeSpec := { name := "icmpQuotes", fn := fun _ => fun
  | [d1, d2] => { results := [.lit (.bool false)], args := [d1, d2] }
  | _ => none }
def IcmpQuotesWrongFalsely : Prop := icmpQuotesRow.holds Try.pinned (OpenSpec.ofChange icmpQuotesWrong)

/- THE SECOND FORM. 'bulk': how many values and letters a reading holds, each counted each time it is reached (what is shared counts as often as it is met; a slice's spare places count too). A statement '..UptoSaid' is the law's where the arguments, and the package variables that the reading takes, are together of bulk at most 1048576: NARROWER than '..Said'. Prove '..Said' where nothing that the law and all that it calls make is longer than what came in: it says more and counts as full. Else prove '..UptoSaid'. A law counts once. -/
mutual
def uptoBulk {H : Type} : DataW H → Nat
  | .lit (.string bytes) => bytes.length + 1
  | .lit _ => 1
  | .nil => 1
  | .ptr d => uptoBulk d + 1
  | .slice elems spare => uptoBulkAll elems + uptoBulkAll spare + 1
  | .agg parts => uptoBulkAll parts + 1
  | .iface _ d => uptoBulk d + 1
  | .map entries => uptoBulkEntries entries + 1
  | .held _ => 1
def uptoBulkAll {H : Type} : List (DataW H) → Nat
  | [] => 0
  | d :: r => uptoBulk d + uptoBulkAll r
def uptoBulkEntries {H : Type} : List (Lit × DataW H) → Nat
  | [] => 0
  | x :: r => uptoBulkEntry x + uptoBulkEntries r
def uptoBulkEntry {H : Type} : Lit × DataW H → Nat
  | (.string bytes, d) => bytes.length + uptoBulk d + 1
  | (_, d) => uptoBulk d + 1
 end
def uptoSmall : (H : Type) → List (DataW H) → Bool := fun _ ds => decide (uptoBulkAll ds ≤ 1048576)
def OpenSpec.upto (s : _root_.Go.ChangeSpec) : _root_.Go.OpenSpec := { _root_.Go.OpenSpec.ofChange s with cond := some uptoSmall }

/-- 'blockyardlaw08.Ipv4Joins', WHERE WHAT IT READS IS OF BULK AT MOST 1048576: true; the input reads as it did. -/
def ipv4JoinsUptoRow : OpenClaim := { program := "ytapfkhhabamndaa", sum := "ee328e6445fdcec76fd2e3c240c658577f0670becd5d543cafd146d0ebf39981", func := "blockyard/blockyardlaw08.Ipv4Joins", spec := "ipv4Joins", unfollowed := true, recurses := true, apart := false, narrowed := true }
def Ipv4JoinsUptoSaid : Prop := ipv4JoinsUptoRow.holds Try.pinned (OpenSpec.upto ipv4JoinsSpec)

/-- 'blockyardlaw09.IcmpKnown', WHERE WHAT IT READS IS OF BULK AT MOST 1048576: true; the input reads as it did. -/
def icmpKnownUptoRow : OpenClaim := { program := "ytapfkhhabamndaa", sum := "ee328e6445fdcec76fd2e3c240c658577f0670becd5d543cafd146d0ebf39981", func := "blockyard/blockyardlaw09.IcmpKnown", spec := "icmpKnown", inPlace := ["internal/abi.NoEscape", "internal/bytealg.MakeNoZero"], apart := false, narrowed := true }
def IcmpKnownUptoSaid : Prop := icmpKnownUptoRow.holds Try.pinned (OpenSpec.upto icmpKnownSpec)

/-- 'blockyardlaw09.IcmpCodes', WHERE WHAT IT READS IS OF BULK AT MOST 1048576: true; the input reads as it did. -/
def icmpCodesUptoRow : OpenClaim := { program := "ytapfkhhabamndaa", sum := "ee328e6445fdcec76fd2e3c240c658577f0670becd5d543cafd146d0ebf39981", func := "blockyard/blockyardlaw09.IcmpCodes", spec := "icmpCodes", apart := false, narrowed := true }
def IcmpCodesUptoSaid : Prop := icmpCodesUptoRow.holds Try.pinned (OpenSpec.upto icmpCodesSpec)

/-- 'blockyardlaw09.IcmpLost', WHERE WHAT IT READS IS OF BULK AT MOST 1048576: true; the input reads as it did. -/
def icmpLostUptoRow : OpenClaim := { program := "ytapfkhhabamndaa", sum := "ee328e6445fdcec76fd2e3c240c658577f0670becd5d543cafd146d0ebf39981", func := "blockyard/blockyardlaw09.IcmpLost", spec := "icmpLost", apart := false, narrowed := true }
def IcmpLostUptoSaid : Prop := icmpLostUptoRow.holds Try.pinned (OpenSpec.upto icmpLostSpec)

/-- 'blockyardlaw09.IcmpBack', WHERE WHAT IT READS IS OF BULK AT MOST 1048576: true; the input reads as it did. -/
def icmpBackUptoRow : OpenClaim := { program := "ytapfkhhabamndaa", sum := "ee328e6445fdcec76fd2e3c240c658577f0670becd5d543cafd146d0ebf39981", func := "blockyard/blockyardlaw09.IcmpBack", spec := "icmpBack", apart := false, narrowed := true }
def IcmpBackUptoSaid : Prop := icmpBackUptoRow.holds Try.pinned (OpenSpec.upto icmpBackSpec)

/-- 'blockyardlaw09.IcmpEcho', WHERE WHAT IT READS IS OF BULK AT MOST 1048576: true; the input reads as it did. -/
def icmpEchoUptoRow : OpenClaim := { program := "ytapfkhhabamndaa", sum := "ee328e6445fdcec76fd2e3c240c658577f0670becd5d543cafd146d0ebf39981", func := "blockyard/blockyardlaw09.IcmpEcho", spec := "icmpEcho", apart := false, narrowed := true }
def IcmpEchoUptoSaid : Prop := icmpEchoUptoRow.holds Try.pinned (OpenSpec.upto icmpEchoSpec)

/-- 'blockyardlaw09.IcmpQuotes', WHERE WHAT IT READS IS OF BULK AT MOST 1048576: true; the input reads as it did. -/
def icmpQuotesUptoRow : OpenClaim := { program := "ytapfkhhabamndaa", sum := "ee328e6445fdcec76fd2e3c240c658577f0670becd5d543cafd146d0ebf39981", func := "blockyard/blockyardlaw09.IcmpQuotes", spec := "icmpQuotes", apart := false, narrowed := true }
def IcmpQuotesUptoSaid : Prop := icmpQuotesUptoRow.holds Try.pinned (OpenSpec.upto icmpQuotesSpec)

end Rows
end Go.Proofs.Ytapfkhhabamndaa
