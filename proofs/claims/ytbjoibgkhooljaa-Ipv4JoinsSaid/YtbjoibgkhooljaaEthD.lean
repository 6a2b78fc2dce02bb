/-
  Layer 6: a frame that is read from bytes. Conditions: a text is no longer than a string may be.
-/
import Derived.Test.YtbjoibgkhooljaaEthC
import Derived.Laws.CopyOwn
namespace Go.Proofs.Ytbjoibgkhooljaa
open Go.RowKit Go.Sort
set_option linter.unusedVariables false

/-- The address that stands from a place on. -/
def macAt (l : List UInt8) (k : Nat) : Mac6 := ⟨l.getD k 0, l.getD (k + 1) 0, l.getD (k + 2) 0, l.getD (k + 3) 0, l.getD (k + 4) 0, l.getD (k + 5) 0⟩
theorem mac_front : ∀ (l : List UInt8), 6 ≤ l.length → l = (macAt l 0).list ++ l.drop 6
  | a :: b :: c :: d :: e :: f :: r, _ => rfl
theorem mac_at (l : List UInt8) (k : Nat) (h : k + 6 ≤ l.length) : l.drop k = (macAt l k).list ++ l.drop (k + 6) := by
  have h1 := mac_front (l.drop k) (by simp; omega)
  rw [List.drop_drop] at h1
  have h2 : macAt (l.drop k) 0 = macAt l k := by simp [macAt, List.getD_eq_getElem?_getD]
  rw [h2] at h1
  exact h1
/-- The frame whose bytes these are, if they are as many as they may be. -/
def rdF (s : ByteArray) : Fr := ⟨macAt s.data.toList 0, macAt s.data.toList 6, num (cutS s 12 2).reverse, s.extract 14 s.size⟩
def frZ : Fr := ⟨⟨0, 0, 0, 0, 0, 0⟩, ⟨0, 0, 0, 0, 0, 0⟩, 0, ⟨#[]⟩⟩
def rdE (s : ByteArray) : Int := if s.size < 14 then 7 else if 600 < s.size then 3 else 0
def rdR (s : ByteArray) : Fr := if rdE s = 0 then rdF s else frZ


/-- A store of a whole struct, where its run is known. -/
theorem upon_store {P : Program} {o : Oper} {a : Act} {w w' : World} {K : Act → World → Prop} {Q : Exit → Act → World → Prop} (t : TypeId) (p x : Operand) (ho : o.op = .store t p x) (v : Value) (g : Nat) (hp : a.eval p = .pointer (some ⟨g, 0, none⟩)) (hx : a.eval x = v)
    (hr : (storeVar t ⟨g, 0, none⟩ v).run P w = .ok () w') (h : K (a.put o.dst undef) w') : o.wp P a w K Q := by
  unfold Oper.wp execOp
  simp only [ho, hp, hx, Instr.storeAt, Instr.sureAddr, Sem.run_bind, Sem.run_pure, Result.andThen_ok, hr]
  exact h
theorem num_two (s : ByteArray) (a : Int) : num (cutS s a 2).reverse < 65536 := by
  have h := num_lt (cutS s a 2).reverse
  have hl : (cutS s a 2).reverse.length ≤ 2 := by
    rw [List.length_reverse]
    unfold cutS
    split
    · simp [List.length_take]; omega
    · simp
  have : 256 ^ (cutS s a 2).reverse.length ≤ 256 ^ 2 := Nat.pow_le_pow_right (by decide) hl
  omega
theorem extract_list (s : ByteArray) (k : Nat) : (s.extract k s.size).data.toList = s.data.toList.drop k := by
  obtain ⟨⟨l⟩⟩ := s
  rw [ByteArray.extract_mk]
  show (l.drop k).take (l.length - k) = l.drop k
  rw [List.take_of_length_le (by simp)]
theorem list_12 {s : ByteArray} (h : 14 ≤ s.size) : 6 + 6 ≤ s.data.toList.length := by
  rw [Array.length_toList]
  exact Nat.le_trans (by decide) h
theorem six_in {s : ByteArray} (h : 14 ≤ s.size) : ¬ (s.size : Int) < 6 := by omega
theorem wrap_i {K : Nat} (h : K < 65536) : IntKind.i64.wrap (K : Int) = (K : Int) := IntWalk.i64_in _ (by omega)


end Go.Proofs.Ytbjoibgkhooljaa
