/-
  Layer 7: the document's own reading of bytes as a packet. Conditions: a text is no longer than a string may be.
-/
import Derived.Test.YtdckjliocgnbgaaArpF
namespace Go.Proofs.Ytdckjliocgnbgaa
open Go.RowKit Go.Sort
set_option linter.unusedVariables false

/-- An address of four of which the first bytes are there. -/
def part4 (T : Ip4) (k : Nat) : Ip4 := ⟨if 0 < k then T.a else 0, if 1 < k then T.b else 0, if 2 < k then T.c else 0, if 3 < k then T.d else 0⟩
theorem part_full4 (T : Ip4) : part4 T 4 = T := rfl
theorem ip_byte (s : ByteArray) (b k : Nat) (hk : k < 4) (h : b + k < s.size) (T : Ip4) (hT : T = ipAt s.data.toList b) : T.list[k]? = some s[b + k] := by
  have hL : s.data.toList[b + k]? = some s[b + k] := by
    rw [Array.getElem?_toList]
    exact Array.getElem?_eq_getElem h
  have hg : s.data.toList.getD (b + k) 0 = s[b + k] := by rw [List.getD_eq_getElem?_getD, hL]; rfl
  rw [← hg, hT]
  rcases k with _ | _ | _ | _ | k <;> first | omega | rfl
/-- The kind of a text's packet, by its bytes. -/
theorem op_bytes (s : ByteArray) (h : 28 ≤ s.size) : (rdK s).op = ((s[7].toNat + 256 * s[6].toNat : Nat) : Int) := by
  have hc : cutS s 6 2 = [s[6], s[7]] := by
    unfold cutS okR
    rw [if_pos (decide_eq_true (by omega))]
    apply List.ext_getElem?
    intro i
    rw [List.getElem?_take, List.getElem?_drop]
    rcases i with _ | _ | i
    · show (if 0 < 2 then s.data.toList[6]? else none) = _
      rw [if_pos (by decide), Array.getElem?_toList]
      exact Array.getElem?_eq_getElem (by show 6 < s.size; omega)
    · show (if 1 < 2 then s.data.toList[7]? else none) = _
      rw [if_pos (by decide), Array.getElem?_toList]
      exact Array.getElem?_eq_getElem (by show 7 < s.size; omega)
    · simp; omega
  show ((num (cutS s 6 2).reverse : Nat) : Int) = _
  rw [hc]
  simp [num]



end Go.Proofs.Ytdckjliocgnbgaa
