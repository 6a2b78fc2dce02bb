/-
  Layer 6: the document's own reading of bytes as a frame. Conditions: none.
-/
import Derived.Test.YtbjoibgkhooljaaEthF
import Derived.StillTailTactics
namespace Go.Proofs.Ytbjoibgkhooljaa
open Go.RowKit Go.Sort
set_option linter.unusedVariables false

theorem upon_store0 {P : Program} {o : Oper} {a : Act} {w w' : World} {K : Act → World → Prop} {Q : Exit → Act → World → Prop} (t : TypeId) (p x : Operand) (ho : o.op = .store t p x) (hd : o.dst = none) (v : Value) (g : Nat) (hp : a.eval p = .pointer (some ⟨g, 0, none⟩)) (hx : a.eval x = v)
    (hr : (storeVar t ⟨g, 0, none⟩ v).run P w = .ok () w') (h : K a w') : o.wp P a w K Q :=
  upon_store t p x ho v g hp hx hr (by rw [hd]; exact h)
theorem mac_byte (s : ByteArray) (b k : Nat) (hk : k < 6) (h : b + k < s.size) (T : Mac6) (hT : T = macAt s.data.toList b) : T.list[k]? = some s[b + k] := by
  have hL : s.data.toList[b + k]? = some s[b + k] := by
    rw [Array.getElem?_toList]
    exact Array.getElem?_eq_getElem h
  have hg : s.data.toList.getD (b + k) 0 = s[b + k] := by rw [List.getD_eq_getElem?_getD, hL]; rfl
  rw [← hg, hT]
  rcases k with _ | _ | _ | _ | _ | _ | k <;> first | omega | rfl
theorem byte_zero {s : ByteArray} {k : Nat} {T : Mac6} {h0 : 0 + k < s.size} (h : T.list[k]? = some s[0 + k]) (h1 : k < s.size) : T.list[k]? = some s[k] := by
  rw [h]
  congr 1
  congr 1
  omega
theorem far {n k : Nat} (h : k < n) : ¬ (n : Int) ≤ (k : Int) := by omega
theorem wpList_storeW {P : Program} {ops : Array Oper} {rest : List Oper} {o : Oper} {a : Act} {w w' : World} {Q : Exit → Act → World → Prop} (t : TypeId) (p x : Operand) (hgd : o.guard = none) (ho : o.op = .store t p x) (v : Value) (g : Nat) (hp : a.eval p = .pointer (some ⟨g, 0, none⟩)) (hx : a.eval x = v)
    (hr : (storeVar t ⟨g, 0, none⟩ v).run P w = .ok () w') (h : wpList P ops Q rest (a.put o.dst undef) w') : wpList P ops Q (o :: rest) a w :=
  wpList_plain hgd fun _ hK => upon_store t p x ho v g hp hx hr (hK _ _ h)

/-- An address of which the first bytes are there. -/
def part6 (T : Mac6) (k : Nat) : Mac6 := ⟨if 0 < k then T.a else 0, if 1 < k then T.b else 0, if 2 < k then T.c else 0, if 3 < k then T.d else 0, if 4 < k then T.e else 0, if 5 < k then T.f else 0⟩
theorem part_full (T : Mac6) : part6 T 6 = T := rfl
theorem set_cells {w : World} {b i : Nat} {cs : Array Value} {t : TypeId} (h : w.heap[b]? = some (.cells cs t (0, 0))) (v : Value) (hi : i < cs.size) : (w.setCell ⟨b, i, none⟩ v).heap[b]? = some (.cells (cs.setIfInBounds i v) t (0, 0)) := by
  simp [World.setCell, Array.getElem?_modify, h]

theorem wrap_b (X : Nat) (h : X < 256) : IntKind.i64.wrap (X : Int) = (X : Int) := IntWalk.i64_in _ (by omega)
theorem wrap_b2 (X : Nat) (h : X < 256) : IntKind.i64.wrap ((X : Int) * 256) = (X : Int) * 256 := IntWalk.i64_in _ (by omega)
theorem wrap_b3 (X Y : Nat) (h : X < 256) (h' : Y < 256) : IntKind.i64.wrap ((X : Int) * 256 + (Y : Int)) = (X : Int) * 256 + (Y : Int) := IntWalk.i64_in _ (by omega)
theorem byte_at (s : ByteArray) (k : Nat) (h : k < s.size) : ∃ X : Nat, X < 256 ∧ Hid (s[k].toNat = X) ∧ s.data.toList[k]? = some (UInt8.ofNat X) := by
  refine ⟨s[k].toNat, s[k].toNat_lt, Lib.hid rfl, ?_⟩
  rw [UInt8.ofNat_toNat, Array.getElem?_toList]
  exact Array.getElem?_eq_getElem h

theorem num_cut (s : ByteArray) (X Y : Nat) (hX : X < 256) (hY : Y < 256) (h : 14 ≤ s.size) (h1 : s.data.toList[12]? = some (UInt8.ofNat X)) (h2 : s.data.toList[13]? = some (UInt8.ofNat Y)) : ((num (cutS s 12 2).reverse : Nat) : Int) = (X : Int) * 256 + (Y : Int) := by
  have hc : cutS s 12 2 = [UInt8.ofNat X, UInt8.ofNat Y] := by
    unfold cutS okR
    rw [if_pos (decide_eq_true (by omega))]
    apply List.ext_getElem?
    intro i
    rw [List.getElem?_take, List.getElem?_drop]
    rcases i with _ | _ | i
    · simpa using h1
    · simpa using h2
    · simp; omega
  rw [hc]
  simp only [List.reverse_cons, List.reverse_nil, List.nil_append, List.cons_append, num, UInt8.toNat_ofNat']
  omega




end Go.Proofs.Ytbjoibgkhooljaa
