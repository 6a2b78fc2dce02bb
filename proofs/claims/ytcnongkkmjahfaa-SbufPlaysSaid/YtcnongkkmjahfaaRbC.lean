/-
  Layer 12: hold, settle, Put. Conditions: as said.
-/
import Derived.Test.YtcnongkkmjahfaaRbB
namespace Go.Proofs.Ytcnongkkmjahfaa
open Go.RowKit
set_option linter.unusedVariables false

theorem set_two {cs : List Value} {a : Nat} (x y : Value) (h : a + 2 ≤ cs.length) : (cs.set a x).set (a + 1) y = cs.take a ++ [x, y] ++ cs.drop (a + 2) := by
  apply List.ext_getElem?
  intro j
  rw [List.append_assoc]
  by_cases h1 : j < a
  · rw [List.getElem?_set_ne (by omega), List.getElem?_set_ne (by omega), List.getElem?_append_left (by rw [List.length_take]; omega), List.getElem?_take, if_pos h1]
  · rw [List.getElem?_append_right (by rw [List.length_take]; omega), List.length_take, Nat.min_eq_left (by omega)]
    by_cases h2 : j = a
    · subst h2
      rw [List.getElem?_set_ne (by omega), List.getElem?_set_self (by omega), Nat.sub_self]
      rfl
    · by_cases h3 : j = a + 1
      · subst h3
        rw [List.getElem?_set_self (by rw [List.length_set]; omega), show a + 1 - a = 1 by omega]
        rfl
      · rw [List.getElem?_set_ne (by omega), List.getElem?_set_ne (by omega), List.getElem?_append_right (by simp; omega), List.getElem?_drop]
        congr 1
        simp
        omega
theorem Turn.setCells2 {w w' : World} {O : Nat → Prop} (h : Turn w w' O) {g : Nat} (hg : O g) (i j : Nat) (u v : Value) : Turn w ((w'.setCell ⟨g, i, none⟩ u).setCell ⟨g, j, none⟩ v) O := (h.setCell hg i u).setCell hg j v
section
variable {w w' : World} {g b n : Nat} {nx : Int} {R : List UInt8} {W : List (Option UInt8)}
end

end Go.Proofs.Ytcnongkkmjahfaa
