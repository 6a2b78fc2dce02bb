/-
  Numbers that come in as a slice. No program is named here (but for the imports).
-/
import Derived.Test.YtmlicejhkdkhnaaRowsA
import Derived.ProofKit
import Derived.Deep.Slices
import Derived.Deep.Fields
import Derived.ChangeSame
import Derived.ChangeSlices
namespace Go.Proofs.Ytmlicejhkdkhnaa
open Go.RowKit Go.ChangeShapes Go.WideShapes Go.Deep
set_option linter.unusedVariables false

/-- The slice reads as these numbers. -/
def IsNums (k : IntKind) (w : World) (p : Option Addr) (len : Nat) (l : List Int) : Prop :=
  l.length = len ∧ len ≤ maxLen ∧ (∀ n ∈ l, (Lit.int k n).wf = true) ∧ (0 < len → ∃ b o, p = some ⟨b, o, none⟩ ∧ ∀ (i : Nat) (h : i < l.length), w.cell? ⟨b, o + i, none⟩ = some (.int k l[i]))
theorem IsNums.below {k : IntKind} {w w' : World} {p : Option Addr} {len : Nat} {l : List Int} (h : IsNums k w p len l) (t : Below w.heap.size w w') : IsNums k w' p len l := by
  obtain ⟨h1, h2, h3, h4⟩ := h
  refine ⟨h1, h2, h3, fun hp => ?_⟩
  obtain ⟨b, o, e, hc⟩ := h4 hp
  exact ⟨b, o, e, fun i hi => by rw [World.cell?_of_block (a := ⟨b, o + i, none⟩) (t.block b (World.block_lt_of_cell? w _ (hc i hi)))]; exact hc i hi⟩
theorem IsNums.at_ {k : IntKind} {w : World} {p : Option Addr} {len : Nat} {l : List Int} (h : IsNums k w p len l) (i : Nat) (hi : i < l.length) : ∃ b o, p = some ⟨b, o, none⟩ ∧ w.cell? ⟨b, o + i, none⟩ = some (.int k l[i]) ∧ (Lit.int k l[i]).wf = true := by
  obtain ⟨h1, h2, h3, h4⟩ := h
  obtain ⟨b, o, e, hc⟩ := h4 (by omega)
  exact ⟨b, o, e, hc i hi, h3 _ (List.getElem_mem _)⟩

theorem open_nums {H : Type} {enc : TypeId × Value → H} {P : Program} {w : World} {p : Option Addr} {len cap fuel : Nat} {x : DataW H × List MemPlace} {t el : TypeId} {k : IntKind} (ht : P.underlying t = some (.slice el)) (he : P.underlying el = some (.int k)) (hc : P.cellsOf el = 1)
    (h : DataW.trod enc P w 0 (fun _ => true) true fuel t (Value.slice p len cap).cells.toList = some x) : ∃ l, IsNums k w p len l := by
  rcases open_ints ht he hc h with ⟨hcs, _⟩ | ⟨a, len', cap', zs, hcs, _, hl, hm, hz, _, hcell, hwf⟩
  · simp [Value.cells] at hcs
    obtain ⟨rfl, rfl, rfl⟩ := hcs
    exact ⟨[], rfl, Nat.zero_le _, by simp, fun h => absurd h (by omega)⟩
  · simp [Value.cells] at hcs
    obtain ⟨rfl, rfl, rfl⟩ := hcs
    have hz' : zs.length = cap := by simpa using hz
    refine ⟨zs.take len, by rw [List.length_take]; omega, by omega, fun n hn => hwf n (List.mem_of_mem_take hn), fun hp => ?_⟩
    obtain ⟨b, o, sp⟩ := a
    have h0 := hcell 0 (by omega)
    have hs : sp = none := by simpa [Addr.add] using World.cell?_spot h0
    subst hs
    refine ⟨b, o, rfl, fun i hi => ?_⟩
    have hil : i < zs.length := by rw [List.length_take] at hi; omega
    have := hcell i hil
    have ha : (⟨b, o, none⟩ : Addr).add i = ⟨b, o + i, none⟩ := by unfold Addr.add; by_cases hi : i = 0 <;> simp [hi]
    rw [ha] at this
    rw [this]
    simp [List.getD, hil]

end Go.Proofs.Ytmlicejhkdkhnaa
