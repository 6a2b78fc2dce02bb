/-
  Layer 7: addresses and packets that come in. No conditions.
-/
import Derived.Test.YtolegdjdppaeoaaArpE
import Derived.Test.YtolegdjdppaeoaaEthH
namespace Go.Proofs.Ytolegdjdppaeoaa
open Go.ChangeShapes Go.WideShapes Go.ChangeAt Go.RowKit
set_option linter.unusedVariables false

section
variable {H : Type} {enc : TypeId × Value → H} {w : World} {base : Nat} {spare : Nat → Bool} {held : Bool}
set_option maxRecDepth 100000 in
theorem ip_in {fuel : Nat} {cs : List Value} {x : DataW H × List MemPlace} (h : DataW.trod enc Try.prog w base spare held fuel 25 cs = some x) : ∃ m : Ip4, cs = [.int .u8 (m.a.toNat : Int), .int .u8 (m.b.toNat : Int), .int .u8 (m.c.toNat : Int), .int .u8 (m.d.toNat : Int)] := by
  obtain ⟨m, hl, hg⟩ := trod_arr Try.underlying25 h
  rw [cells_ip] at hl
  rw [cells_byte] at hg
  match cs, hl with
  | [c0, c1, c2, c3], _ =>
    obtain ⟨_, g0⟩ := hg 0 (by decide)
    obtain ⟨_, g1⟩ := hg 1 (by decide)
    obtain ⟨_, g2⟩ := hg 2 (by decide)
    obtain ⟨_, g3⟩ := hg 3 (by decide)
    obtain ⟨x0, rfl⟩ := byte_in (v := c0) g0
    obtain ⟨x1, rfl⟩ := byte_in (v := c1) g1
    obtain ⟨x2, rfl⟩ := byte_in (v := c2) g2
    obtain ⟨x3, rfl⟩ := byte_in (v := c3) g3
    exact ⟨⟨x0, x1, x2, x3⟩, rfl⟩
set_option maxRecDepth 100000 in
theorem open_ip {r : Reach} {b0 : Nat} {v : Value} {d : DataW H} {ps : List MemPlace} (hval : Value.okWide Try.prog w r b0 25 v) (hd : DataW.Trod enc Try.prog w base spare held 25 v d ps) : ∃ m : Ip4, v = .agg #[.int .u8 (m.a.toNat : Int), .int .u8 (m.b.toNat : Int), .int .u8 (m.c.toNat : Int), .int .u8 (m.d.toNat : Int)] := by
  obtain ⟨cs, rfl, _⟩ : ∃ cs, v = .agg cs ∧ cs.size = Try.prog.cellsOf 25 := by
    have := hval
    simp only [Value.okWide, Try.underlying25] at this
    obtain ⟨cs, h1, h2, _⟩ := this
    exact ⟨cs, h1, h2⟩
  obtain ⟨fuel, hf⟩ := hd
  obtain ⟨m, hm⟩ := ip_in hf
  refine ⟨m, ?_⟩
  have : cs = #[.int .u8 (m.a.toNat : Int), .int .u8 (m.b.toNat : Int), .int .u8 (m.c.toNat : Int), .int .u8 (m.d.toNat : Int)] := Array.toList_inj.1 hm
  rw [this]
set_option maxRecDepth 100000 in
theorem open_arp {r : Reach} {b0 : Nat} {v : Value} {d : DataW H} {ps : List MemPlace} (hval : Value.okWide Try.prog w r b0 27 v) (hd : DataW.Trod enc Try.prog w base spare held 27 v d ps) : ∃ f : Pk, v = .agg (pkC f) ∧ f.ok := by
  obtain ⟨cs, rfl, hsz⟩ := okWide_struct Try.underlying27 hval
  rw [cells_pk] at hsz
  obtain ⟨fuel, hf⟩ := hd
  obtain ⟨xs, n, _, _, hl, hlen, hg⟩ := DataW.trod_struct Try.underlying27 hf
  have hx : ∀ i, i < 5 → ∃ y, xs[i]? = some y := fun i hi => ⟨xs[i]'(by rw [hlen]; exact hi), List.getElem?_eq_getElem _⟩
  obtain ⟨y0, e0⟩ := hx 0 (by decide)
  obtain ⟨y1, e1⟩ := hx 1 (by decide)
  obtain ⟨y2, e2⟩ := hx 2 (by decide)
  obtain ⟨y3, e3⟩ := hx 3 (by decide)
  obtain ⟨y4, e4⟩ := hx 4 (by decide)
  have g0 : DataW.trod enc Try.prog w base spare held n 3 (((Value.agg cs).cells.toList.drop 0).take (Try.prog.cellsOf 3)) = some y0 := (hg 0 _ rfl).trans e0
  have g1 : DataW.trod enc Try.prog w base spare held n 23 (((Value.agg cs).cells.toList.drop 1).take (Try.prog.cellsOf 23)) = some y1 := (hg 1 _ rfl).trans e1
  have g2 : DataW.trod enc Try.prog w base spare held n 25 (((Value.agg cs).cells.toList.drop 7).take (Try.prog.cellsOf 25)) = some y2 := (hg 2 _ rfl).trans e2
  have g3 : DataW.trod enc Try.prog w base spare held n 23 (((Value.agg cs).cells.toList.drop 11).take (Try.prog.cellsOf 23)) = some y3 := (hg 3 _ rfl).trans e3
  have g4 : DataW.trod enc Try.prog w base spare held n 25 (((Value.agg cs).cells.toList.drop 17).take (Try.prog.cellsOf 25)) = some y4 := (hg 4 _ rfl).trans e4
  obtain ⟨l⟩ := cs
  match l, hsz with
  | [c0, c1, c2, c3, c4, c5, c6, c7, c8, c9, c10, c11, c12, c13, c14, c15, c16, c17, c18, c19, c20], _ =>
    rw [cells_int] at g0
    rw [cells_mac] at g1 g3
    rw [cells_ip] at g2 g4
    obtain ⟨y, h0, _, hw⟩ := DataW.trod_int (cs := [c0]) Try.underlying3 g0
    obtain ⟨m1, h1⟩ := mac_in (cs := [c1, c2, c3, c4, c5, c6]) g1
    obtain ⟨m2, h2⟩ := ip_in (cs := [c7, c8, c9, c10]) g2
    obtain ⟨m3, h3⟩ := mac_in (cs := [c11, c12, c13, c14, c15, c16]) g3
    obtain ⟨m4, h4⟩ := ip_in (cs := [c17, c18, c19, c20]) g4
    simp only [List.cons.injEq, and_true] at h0 h1 h2 h3 h4
    subst h0
    obtain ⟨rfl, rfl, rfl, rfl, rfl, rfl⟩ := h1
    obtain ⟨rfl, rfl, rfl, rfl⟩ := h2
    obtain ⟨rfl, rfl, rfl, rfl, rfl, rfl⟩ := h3
    obtain ⟨rfl, rfl, rfl, rfl⟩ := h4
    exact ⟨⟨y, m1, m2, m3, m4⟩, rfl, hw⟩
end

end Go.Proofs.Ytolegdjdppaeoaa
