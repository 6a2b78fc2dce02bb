/-
  Layer 7: addresses and packets that come in. No conditions.
-/
import Derived.Test.YtbjoibgkhooljaaArpE
import Derived.Test.YtbjoibgkhooljaaEthH
namespace Go.Proofs.Ytbjoibgkhooljaa
open Go.ChangeShapes Go.WideShapes Go.ChangeAt Go.RowKit
set_option linter.unusedVariables false

section
variable {H : Type} {enc : TypeId × Value → H} {w : World} {base : Nat} {spare : Nat → Bool} {held : Bool}
set_option maxRecDepth 100000 in
theorem ip_in {fuel : Nat} {cs : List Value} {x : DataW H × List MemPlace} (h : DataW.trod enc Try.prog w base spare held fuel 33 cs = some x) : ∃ m : Ip4, cs = [.int .u8 (m.a.toNat : Int), .int .u8 (m.b.toNat : Int), .int .u8 (m.c.toNat : Int), .int .u8 (m.d.toNat : Int)] := by
  obtain ⟨m, hl, hg⟩ := trod_arr Try.underlying33 h
  rw [cells_ip] at hl
  rw [cells_byte] at hg
  match cs, hl with
  | [c0, c1, c2, c3], _ =>
    obtain ⟨_, g0⟩ := hg 0 (by decide)
    obtain ⟨_, g1⟩ := hg 1 (by decide)
    obtain ⟨_, g2⟩ := hg 2 (by decide)
    obtain ⟨_, g3⟩ := hg 3 (by decide)
    obtain ⟨x0, rfl⟩ := byte_in (v := c0) g0
    obtain ⟨x1, rfl⟩ := byte_in (v := c1) g1
    obtain ⟨x2, rfl⟩ := byte_in (v := c2) g2
    obtain ⟨x3, rfl⟩ := byte_in (v := c3) g3
    exact ⟨⟨x0, x1, x2, x3⟩, rfl⟩
set_option maxRecDepth 100000 in
theorem open_ip {r : Reach} {b0 : Nat} {v : Value} {d : DataW H} {ps : List MemPlace} (hval : Value.okWide Try.prog w r b0 33 v) (hd : DataW.Trod enc Try.prog w base spare held 33 v d ps) : ∃ m : Ip4, v = .agg #[.int .u8 (m.a.toNat : Int), .int .u8 (m.b.toNat : Int), .int .u8 (m.c.toNat : Int), .int .u8 (m.d.toNat : Int)] := by
  obtain ⟨cs, rfl, _⟩ : ∃ cs, v = .agg cs ∧ cs.size = Try.prog.cellsOf 33 := by
    have := hval
    simp only [Value.okWide, Try.underlying33] at this
    obtain ⟨cs, h1, h2, _⟩ := this
    exact ⟨cs, h1, h2⟩
  obtain ⟨fuel, hf⟩ := hd
  obtain ⟨m, hm⟩ := ip_in hf
  refine ⟨m, ?_⟩
  have : cs = #[.int .u8 (m.a.toNat : Int), .int .u8 (m.b.toNat : Int), .int .u8 (m.c.toNat : Int), .int .u8 (m.d.toNat : Int)] := Array.toList_inj.1 hm
  rw [this]
end

end Go.Proofs.Ytbjoibgkhooljaa
