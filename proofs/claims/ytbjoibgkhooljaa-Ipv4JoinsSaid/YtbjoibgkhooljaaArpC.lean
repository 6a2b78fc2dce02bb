/-
  Layer 7: a packet's bytes. No conditions.
-/
import Derived.Test.YtbjoibgkhooljaaArpB
namespace Go.Proofs.Ytbjoibgkhooljaa
open Go.RowKit Go.Sort
set_option linter.unusedVariables false

/-- The bytes of a packet, and why it has none. -/
def pkL (f : Pk) : List UInt8 := hd6 ++ (leL f.op 2).reverse ++ f.ma.list ++ f.ip.list ++ f.tm.list ++ f.ti.list
def pkE (f : Pk) : Int := if f.op = 1 ∨ f.op = 2 then 0 else 10
def pkS (f : Pk) : ByteArray := if pkE f = 0 then ⟨(pkL f).toArray⟩ else ⟨#[]⟩

theorem add_as (w : World) (x y z : List UInt8) (h : z = x ++ y) (hl : z.length ≤ 28) : (Op.stringOp .add ⟨x.toArray⟩ ⟨y.toArray⟩).run Try.prog w = .ok (.string ⟨z.toArray⟩) w := by
  subst h
  rw [List.length_append] at hl
  exact add_lists w x y (by omega)
theorem add_hd (w : World) (y z : List UInt8) (h : z = hd6 ++ y) (hl : z.length ≤ 28) : (Op.stringOp .add ⟨#[0, 1, 8, 0, 6, 4]⟩ ⟨y.toArray⟩).run Try.prog w = .ok (.string ⟨z.toArray⟩) w := add_as w hd6 y z h hl


end Go.Proofs.Ytbjoibgkhooljaa
