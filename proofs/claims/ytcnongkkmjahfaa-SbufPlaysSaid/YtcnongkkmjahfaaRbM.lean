/-
  Layer 12: both buffers beside one another; the contract of Great. Conditions: as said.
-/
import Derived.Test.YtcnongkkmjahfaaRbL
namespace Go.Proofs.Ytcnongkkmjahfaa
open Go.RowKit
set_option linter.unusedVariables false

theorem numsW_nones (nx : Int) (W : List (Option UInt8)) (k : Nat) : numsW nx (W ++ List.replicate k none) = numsW nx W := by
  induction W generalizing nx with
  | nil =>
    induction k generalizing nx with
    | zero => rfl
    | succ k ih =>
      rw [List.replicate_succ]
      exact ih _
  | cons o W ih =>
    cases o with
    | none => exact ih _
    | some x => show _ :: numsW _ (W ++ List.replicate k none) = _ :: _; rw [ih]
theorem Dp.more {nx : Int} {W : List (Option UInt8)} {D : List Hb} (h : Dp nx W D) (k : Nat) : Dp nx (W ++ List.replicate k none) D := by
  unfold Dp
  rw [numsW_nones]
  exact h
section
variable {w W W' : World} {g gb n x : Nat} {nx nx' nd nd' : Int} {R R' : List UInt8} {V V' : List (Option UInt8)} {S S' : ByteArray} {p p' : Option Addr} {c c' : Nat} {D D' : List Hb}
end

/-- What Great answers. -/
def sumA (l : List Act12) : Nat := (l.map fun c => min c.s.size 20001).sum
def great12 (l : List Act12) : Bool := decide (100 < l.length) || decide (20000 < sumA l)
theorem sumA_take {l : List Act12} {k : Nat} {c : Act12} (h : l[k]? = some c) : sumA (l.take (k + 1)) = sumA (l.take k) + min c.s.size 20001 := by
  unfold sumA
  rw [List.take_add_one, h]
  simp
theorem sumA_le (l : List Act12) (k : Nat) : sumA (l.take k) ≤ k * 20001 := by
  induction k with
  | zero =>
    have h0 : sumA (l.take 0) = 0 := rfl
    omega
  | succ k ih =>
    cases h : l[k]? with
    | none =>
      have e : l.take (k + 1) = l.take k := by rw [List.take_add_one, h]; simp
      have e2 := congrArg sumA e
      omega
    | some c =>
      have e2 := sumA_take h
      omega
theorem sumA_mem {l : List Act12} {c : Act12} (h : c ∈ l) : min c.s.size 20001 ≤ sumA l := by
  unfold sumA
  induction l with
  | nil => cases h
  | cons d l ih =>
    rw [List.map_cons, List.sum_cons]
    rcases List.mem_cons.1 h with rfl | h
    · omega
    · have := ih h; omega
theorem great12_no {l : List Act12} (h : great12 l = false) : l.length ≤ 100 ∧ ∀ c ∈ l, c.s.size ≤ 20000 := by
  unfold great12 at h
  simp only [Bool.or_eq_false_iff, decide_eq_false_iff_not] at h
  refine ⟨by omega, fun c hc => ?_⟩
  have := sumA_mem hc
  omega
end Go.Proofs.Ytcnongkkmjahfaa
