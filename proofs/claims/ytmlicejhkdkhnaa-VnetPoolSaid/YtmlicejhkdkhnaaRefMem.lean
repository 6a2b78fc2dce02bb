/-
  The contracts of the document's own answers on a memory's bytes: Put, Write, Get, Text. Condition: the bytes and the text are no longer than an int can tell together.
-/
import Derived.Test.YtmlicejhkdkhnaaRef
import Derived.Lib.Strings
namespace Go.Proofs.Ytmlicejhkdkhnaa
open Go.RowKit Go.Sort

/-- 'string(make([]byte, n))'. -/
theorem conv_zeros (w : World) (n : Nat) :
    (convert 66 9 (.slice (some ⟨w.heap.size, 0, none⟩) n n)).run Try.prog (w.alloc (.cells (zeros n) 5)) = .ok (.string ⟨(List.replicate n (0 : UInt8)).toArray⟩) (w.alloc (.cells (zeros n) 5)) := by
  refine conv_text _ _ 0 n n (List.replicate n 0) (by simp) fun j hj => ?_
  have hj' : j < n := by simpa using hj
  constructor
  · rw [cell_of_block (heap_alloc_new w _), getElem!_pos (List.replicate n (0 : UInt8)).toArray j hj]
    simp [zeros, eb, hj']
  · have hb := heap_alloc_new w (.cells (zeros n) 5)
    simp only [World.frozen?, hb]
    simp

theorem bsize (l : List UInt8) : (⟨l.toArray⟩ : ByteArray).size = l.length := rfl

theorem okR_put (l : List UInt8) (a n : Int) (h1 : 1 ≤ n) (h2 : n ≤ 8) : okR l.length a n = decide (putE l a n = 0) := by
  unfold okR
  rcases putE_cases l a n with ⟨x, e⟩ | ⟨_, _, x, e⟩ | ⟨_, _, x, y, e⟩
  · omega
  · rw [e, decide_eq_false (by omega)]; rfl
  · rw [e, decide_eq_true (by omega)]; rfl

theorem cut_put (l : List UInt8) (a n : Int) (h1 : 1 ≤ n) (h2 : n ≤ 8) : num (cutS ⟨l.toArray⟩ a n) = getX l a n := by
  unfold cutS getX
  rw [bsize, okR_put l a n h1 h2]
  by_cases h : putE l a n = 0
  · rw [if_pos (decide_eq_true h), if_pos h]
  · rw [if_neg (by simpa using h), if_neg h]
    rfl



theorem ext_bytes (l : List UInt8) (i j : Nat) : (ByteArray.extract ⟨l.toArray⟩ i j) = ⟨((l.drop i).take (j - i)).toArray⟩ := by
  apply ByteArray.ext
  apply Array.toList_inj.1
  rw [Lib.extract_data]





theorem writeL_put (l : List UInt8) (a n x : Int) (h1 : 1 ≤ n) (h2 : n ≤ 8) : writeL l a (leL x n) = putL l a n x ∧ textE l a (leL x n).length = putE l a n := by
  have e0 : leL x n = le x.toNat n.toNat := by unfold leL; rw [if_pos ⟨h1, h2⟩]
  have e1 : ((leL x n).length : Int) = n := by rw [e0, le_length]; omega
  have e2 : textE l a n = putE l a n := by
    unfold textE putE
    rw [if_neg (show ¬ (n < 1 ∨ 8 < n) by omega)]
    by_cases h : a < 0 ∨ (l.length : Int) < a + n
    · rw [if_pos h, if_pos (by omega)]
    · rw [if_neg h, if_neg (by omega)]
  refine ⟨?_, by rw [e1, e2]⟩
  unfold writeL putL
  rw [e1, e2, e0]



end Go.Proofs.Ytmlicejhkdkhnaa
