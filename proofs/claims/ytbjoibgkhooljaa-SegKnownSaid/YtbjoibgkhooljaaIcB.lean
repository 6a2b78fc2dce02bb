/-
  Layer 9: the program's functions: a message's bytes, what bytes are read as, the echo, what says that nobody is there. Conditions: a text has at most 2^47 bytes.
-/
import Derived.Test.YtbjoibgkhooljaaIcM
import Derived.Test.YtbjoibgkhooljaaIpB
import Derived.Test.YtbjoibgkhooljaaIpD
import Derived.Test.YtbjoibgkhooljaaArpE
namespace Go.Proofs.Ytbjoibgkhooljaa
open Go.RowKit Go.Sort
set_option linter.unusedVariables false

theorem data_lst9 (w : World) (x z : List UInt8) (y : ByteArray) (h : z = x ++ y.data.toList) (hl : z.length ≤ 70000) : (Op.stringOp .add ⟨x.toArray⟩ y).run Try.prog w = .ok (.string ⟨z.toArray⟩) w := by
  have := add_lst w x y.data.toList z h hl
  simpa using this
theorem big_any (w : World) (x n : Int) (hx : 0 ≤ x) (L : List UInt8) (hL : L = (leL x n).reverse) :
    Calls Try.prog 60 #[.int .u64 x, .int .i64 n] w fun e w' => e = .returned (.string ⟨L.toArray⟩) ∧ Below w.heap.size w w' := by
  subst hL
  refine (Big_all w x n hx).mono ?_
  rintro e w' ⟨rfl, k⟩
  exact ⟨rfl, Below.of_none k⟩
theorem num_cut4 (s : ByteArray) (h : 8 ≤ s.size) : num (cutS s 4 4).reverse = r4 s.data.toList := by
  have hL : s.data.toList.length = s.size := by rw [Array.length_toList]; rfl
  have hc : cutS s 4 4 = [s.data.toList.getD 4 0, s.data.toList.getD 5 0, s.data.toList.getD 6 0, s.data.toList.getD 7 0] := by
    unfold cutS okR
    rw [if_pos (decide_eq_true (by omega))]
    show (s.data.toList.drop 4).take 4 = _
    apply List.ext_getElem?
    intro i
    rw [List.getElem?_take, List.getElem?_drop]
    have h4 : 4 < s.data.toList.length := by omega
    have h5 : 5 < s.data.toList.length := by omega
    have h6 : 6 < s.data.toList.length := by omega
    have h7 : 7 < s.data.toList.length := by omega
    rcases i with _ | _ | _ | _ | i
    · simp [List.getD, List.getElem?_eq_getElem h4]
    · simp [List.getD, List.getElem?_eq_getElem h5]
    · simp [List.getD, List.getElem?_eq_getElem h6]
    · simp [List.getD, List.getElem?_eq_getElem h7]
    · simp; omega
  rw [hc]
  simp only [List.reverse_cons, List.reverse_nil, List.nil_append, List.cons_append, num, r4, b9]
  omega
theorem b9_at (s : ByteArray) (k : Nat) (h : k < s.size) : s[k].toNat = b9 s.data.toList k := by
  unfold b9
  have hL : s.data.toList[k]? = some s[k] := by
    rw [Array.getElem?_toList]
    exact Array.getElem?_eq_getElem h
  rw [List.getD_eq_getElem?_getD, hL]
  rfl


end Go.Proofs.Ytbjoibgkhooljaa
