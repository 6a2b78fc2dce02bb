/-
  Layer 9: messages as values and in memory, and those that come in; two are equal in Go just if they are the same. Conditions: a message's numbers are numbers of their kind, its data no longer than a string may be.
-/
import Derived.Test.YtbjoibgkhooljaaArpB
import Derived.Test.YtbjoibgkhooljaaKeep
import Derived.Test.YtbjoibgkhooljaaEthH
import Derived.Test.YtbjoibgkhooljaaArpH
namespace Go.Proofs.Ytbjoibgkhooljaa
open Go.ChangeShapes Go.WideShapes Go.ChangeAt Go.RowKit Go.Sort
set_option linter.unusedVariables false

/-- A message. -/
structure Ic where
  kd : Int
  co : Int
  re : Int
  da : ByteArray
theorem Ic.same {x y : Ic} (h : x.kd = y.kd ∧ x.co = y.co ∧ x.re = y.re ∧ x.da = y.da) : x = y := by
  cases x; cases y
  obtain ⟨rfl, rfl, rfl, rfl⟩ := h
  rfl
instance : DecidableEq Ic := fun x y => decidable_of_iff (x.kd = y.kd ∧ x.co = y.co ∧ x.re = y.re ∧ x.da = y.da) ⟨Ic.same, fun h => by rw [h]; exact ⟨rfl, rfl, rfl, rfl⟩⟩
/-- A message as Go's own values. -/
def Ic.ok (f : Ic) : Prop := (Lit.int .i64 f.kd).wf = true ∧ (Lit.int .i64 f.co).wf = true ∧ (Lit.int .u32 f.re).wf = true ∧ f.da.size ≤ maxLen
def Ic.lits (f : Ic) : List Lit := [.int .i64 f.kd, .int .i64 f.co, .int .u32 f.re, .string f.da.data.toList]
theorem Ic.lits_inj {x y : Ic} : x.lits = y.lits ↔ x = y := by
  constructor
  · intro h
    simp only [Ic.lits, List.cons.injEq, Lit.int.injEq, Lit.string.injEq, true_and, and_true] at h
    obtain ⟨e1, e2, e3, e4⟩ := h
    rw [Array.toList_inj] at e4
    exact Ic.same ⟨e1, e2, e3, ByteArray.ext e4⟩
  · rintro rfl; rfl
theorem cells_u32 : Try.prog.cellsOf 45 = 1 := by kernel_rfl
theorem lits_u32 (x : Int) (h : (Lit.int .u32 x).wf = true) (d : Nat) : Try.prog.keyLits (d + 1) 45 [.int .u32 x] = some [.int .u32 x] := by
  simp [Program.keyLits, Try.underlying45, h]

/-- The cells of a message, kept closed. -/
def icC (f : Ic) : Array Value := #[.int .i64 f.kd, .int .i64 f.co, .int .u32 f.re, .string f.da]
theorem icC_one (f : Ic) : (icC f).all (·.oneCell') = true := by simp [icC, Value.oneCell']
theorem icC_size (f : Ic) : (icC f).size = 4 := rfl

def icZ : Ic := ⟨0, 0, 0, ⟨#[]⟩⟩
theorem icZ_ok : icZ.ok := by refine ⟨?_, ?_, ?_, ?_⟩ <;> first | (show (Lit.int _ 0).wf = true; decide) | (show 0 ≤ maxLen; decide)

section
variable {w w' : World} {n : Nat} {f : Ic}
end
section
variable {ops : Array Oper} {rest : List Oper} {S : World → Prop} {o : Oper} {a : Act} {w : World} {Q : Exit → Act → World → Prop}
end

section
variable {H : Type} {enc : TypeId × Value → H} {w : World} {base : Nat} {spare : Nat → Bool} {held : Bool}
end

end Go.Proofs.Ytbjoibgkhooljaa
