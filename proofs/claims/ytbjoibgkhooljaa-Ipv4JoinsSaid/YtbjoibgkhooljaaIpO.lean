/-
  Layer 8: packets that come in. No conditions.
-/
import Derived.Test.YtbjoibgkhooljaaIpA
import Derived.Test.YtbjoibgkhooljaaEthH
import Derived.Test.YtbjoibgkhooljaaArpH
namespace Go.Proofs.Ytbjoibgkhooljaa
open Go.ChangeShapes Go.WideShapes Go.ChangeAt Go.RowKit Go.Sort
set_option linter.unusedVariables false

section
variable {H : Type} {enc : TypeId × Value → H} {w : World} {base : Nat} {spare : Nat → Bool} {held : Bool}
set_option maxRecDepth 100000 in
theorem packet_in {fuel : Nat} {cs : List Value} (hsz : cs.length = 14) {y : DataW H × List MemPlace} (hf : DataW.trod enc Try.prog w base spare held fuel 35 cs = some y) : ∃ f : Pd, cs = (pdC f).toList ∧ f.ok := by
  obtain ⟨xs, n, _, _, hl, hlen, hg⟩ := DataW.trod_struct Try.underlying35 hf
  have hx : ∀ i, i < 8 → ∃ y, xs[i]? = some y := fun i hi => ⟨xs[i]'(by rw [hlen]; exact hi), List.getElem?_eq_getElem _⟩
  obtain ⟨y0, e0⟩ := hx 0 (by decide)
  obtain ⟨y1, e1⟩ := hx 1 (by decide)
  obtain ⟨y2, e2⟩ := hx 2 (by decide)
  obtain ⟨y3, e3⟩ := hx 3 (by decide)
  obtain ⟨y4, e4⟩ := hx 4 (by decide)
  obtain ⟨y5, e5⟩ := hx 5 (by decide)
  obtain ⟨y6, e6⟩ := hx 6 (by decide)
  obtain ⟨y7, e7⟩ := hx 7 (by decide)
  have g0 : DataW.trod enc Try.prog w base spare held n 3 ((cs.drop 0).take (Try.prog.cellsOf 3)) = some y0 := (hg 0 _ rfl).trans e0
  have g1 : DataW.trod enc Try.prog w base spare held n 33 ((cs.drop 1).take (Try.prog.cellsOf 33)) = some y1 := (hg 1 _ rfl).trans e1
  have g2 : DataW.trod enc Try.prog w base spare held n 33 ((cs.drop 5).take (Try.prog.cellsOf 33)) = some y2 := (hg 2 _ rfl).trans e2
  have g3 : DataW.trod enc Try.prog w base spare held n 3 ((cs.drop 9).take (Try.prog.cellsOf 3)) = some y3 := (hg 3 _ rfl).trans e3
  have g4 : DataW.trod enc Try.prog w base spare held n 3 ((cs.drop 10).take (Try.prog.cellsOf 3)) = some y4 := (hg 4 _ rfl).trans e4
  have g5 : DataW.trod enc Try.prog w base spare held n 3 ((cs.drop 11).take (Try.prog.cellsOf 3)) = some y5 := (hg 5 _ rfl).trans e5
  have g6 : DataW.trod enc Try.prog w base spare held n 4 ((cs.drop 12).take (Try.prog.cellsOf 4)) = some y6 := (hg 6 _ rfl).trans e6
  have g7 : DataW.trod enc Try.prog w base spare held n 9 ((cs.drop 13).take (Try.prog.cellsOf 9)) = some y7 := (hg 7 _ rfl).trans e7
  match cs, hsz with
  | [c0, c1, c2, c3, c4, c5, c6, c7, c8, c9, c10, c11, c12, c13], _ =>
    rw [cells_int] at g0 g3 g4 g5
    rw [cells_ip] at g1 g2
    rw [cells_bool] at g6
    rw [cells_str] at g7
    obtain ⟨v0, h0, _, u0⟩ := DataW.trod_int (cs := [c0]) Try.underlying3 g0
    obtain ⟨m1, h1⟩ := ip_in (cs := [c1, c2, c3, c4]) g1
    obtain ⟨m2, h2⟩ := ip_in (cs := [c5, c6, c7, c8]) g2
    obtain ⟨v3, h3, _, u3⟩ := DataW.trod_int (cs := [c9]) Try.underlying3 g3
    obtain ⟨v4, h4, _, u4⟩ := DataW.trod_int (cs := [c10]) Try.underlying3 g4
    obtain ⟨v5, h5, _, u5⟩ := DataW.trod_int (cs := [c11]) Try.underlying3 g5
    obtain ⟨v6, h6, _⟩ := DataW.trod_bool (cs := [c12]) Try.underlying4 g6
    obtain ⟨v7, h7, _, u7⟩ := DataW.trod_string (cs := [c13]) Try.underlying9 g7
    simp only [List.cons.injEq, and_true] at h0 h1 h2 h3 h4 h5 h6 h7
    obtain ⟨rfl, rfl, rfl, rfl⟩ := h1
    obtain ⟨rfl, rfl, rfl, rfl⟩ := h2
    subst h0 h3 h4 h5 h6 h7
    exact ⟨⟨v0, m1, m2, v3, v4, v5, v6, v7⟩, rfl, u0, u3, u4, u5, u7⟩
set_option maxRecDepth 100000 in
theorem open_packet {r : Reach} {b0 : Nat} {v : Value} {d : DataW H} {ps : List MemPlace} (hval : Value.okWide Try.prog w r b0 35 v) (hd : DataW.Trod enc Try.prog w base spare held 35 v d ps) : ∃ f : Pd, v = .agg (pdC f) ∧ f.ok := by
  obtain ⟨cs, rfl, hsz⟩ := okWide_struct Try.underlying35 hval
  rw [cells_pd] at hsz
  obtain ⟨fuel, hf⟩ := hd
  obtain ⟨f, h1, h2⟩ := packet_in (by show cs.toList.length = 14; rw [Array.length_toList]; exact hsz) hf
  refine ⟨f, ?_, h2⟩
  have : cs = pdC f := Array.toList_inj.1 h1
  rw [this]
end

end Go.Proofs.Ytbjoibgkhooljaa
