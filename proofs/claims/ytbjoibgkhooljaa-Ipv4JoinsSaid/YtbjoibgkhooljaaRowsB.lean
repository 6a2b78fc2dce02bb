/-
  Rows of elements of several cells: one cell of an element is written, fewer elements, what lies behind them. (No program is named here, but for the imports).
-/
import Derived.Test.YtbjoibgkhooljaaJoE
namespace Go.Proofs.Ytbjoibgkhooljaa
open Go.RowKit
set_option linter.unusedVariables false

section
variable {α : Type} {k : Nat} {enc : α → List Value} {TE : TypeId} {w w' : World} {v : Value} {l : List α}
theorem RowA.set1 (hk : ∀ x, (enc x).length = k) {b cap i j : Nat} {l : List α} (h : RowA k enc TE w (.slice (some ⟨b, 0, none⟩) l.length cap) l) (hi : i < l.length) (hj : j < k) (y : α) (u : Value) (hy : enc y = (enc l[i]).set j u) :
    RowA k enc TE (w.setCell ⟨b, i * k + j, none⟩ u) (.slice (some ⟨b, 0, none⟩) l.length cap) (l.set i y) := by
  obtain ⟨b', cap', cur, hv, h1, h2, h3, h4, h5⟩ := h.block (by omega)
  injection hv with hv _ hc; injection hv with hv; injection hv with hv
  subst hv hc
  have hik : i * k + k ≤ l.length * k := by rw [← Nat.add_one_mul]; exact Nat.mul_le_mul_right k (by omega)
  have hlk : l.length * k ≤ cap * k := Nat.mul_le_mul_right k h2
  have hcs : cur.toList.length = cap * k := by rw [Array.length_toList]; exact h4
  refine RowA.put hk h hi y (fun cur2 hc2 => ?_) (cur' := cur.setIfInBounds (i * k + j) u)
  rw [h1] at hc2
  injection hc2 with hc2; injection hc2 with hc2
  subst hc2
  refine ⟨set_cells h1 u (by omega), ?_⟩
  have e0 : (cur.toList.drop (i * k)).take k = enc l[i] := by
    have a1 : (cur.toList.drop (i * k)).take k = ((cur.toList.take (l.length * k)).drop (i * k)).take k := by
      rw [List.drop_take, List.take_take, Nat.min_eq_left (by omega)]
    have a2 := encA_append enc (l.take i) (l.drop i)
    rw [List.take_append_drop] at a2
    have a3 := encA_length hk (l.take i)
    rw [List.length_take, Nat.min_eq_left (by omega)] at a3
    rw [a1, h5, a2, List.drop_left' a3, List.drop_eq_getElem_cons hi]
    show (encA enc ([l[i]] ++ l.drop (i + 1))).take k = _
    rw [encA_append]
    have a4 : encA enc [l[i]] = enc l[i] := by simp [encA]
    rw [a4]
    exact List.take_left' (hk _)
  have e1 : cur.toList = cur.toList.take (i * k) ++ (enc l[i] ++ cur.toList.drop (i * k + k)) := by
    rw [← e0, ← List.drop_drop, List.take_append_drop, List.take_append_drop]
  have el : (cur.toList.take (i * k)).length = i * k := by rw [List.length_take]; omega
  rw [Array.toList_setIfInBounds]
  conv => lhs; rw [e1]
  rw [List.set_append, if_neg (by rw [el]; omega), el, Nat.add_sub_cancel_left, List.set_append, if_pos (by rw [hk]; exact hj), hy, List.append_assoc]
theorem RowA.fewer (hk : ∀ x, (enc x).length = k) {b cap a : Nat} {l : List α} (h : RowA k enc TE w (.slice (some ⟨b, 0, none⟩) l.length cap) l) (h0 : 0 < l.length) (ha : a ≤ l.length) :
    RowA k enc TE w (.slice (some ⟨b, 0, none⟩) (l.take a).length cap) (l.take a) := by
  obtain ⟨b', cap', cur, hv, h1, h2, h3, h4, h5⟩ := h.block h0
  injection hv with hv _ hc; injection hv with hv; injection hv with hv
  subst hv hc
  have hla : (l.take a).length = a := by rw [List.length_take]; omega
  refine ⟨by rw [encA_length hk], .inr ⟨b, cap, cur, rfl, Nat.zero_le _, h1, by rw [hla]; omega, h3, h4, ?_⟩⟩
  rw [hla]
  have a2 := encA_append enc (l.take a) (l.drop a)
  rw [List.take_append_drop] at a2
  have a3 := encA_length hk (l.take a)
  rw [hla] at a3
  have a1 : cur.toList.take (a * k) = (cur.toList.take (l.length * k)).take (a * k) := by
    rw [List.take_take, Nat.min_eq_left (Nat.mul_le_mul_right k ha)]
  rw [a1, h5, a2]
  exact List.take_left' a3
theorem RowA.tail (hk : ∀ x, (enc x).length = k) {b cap : Nat} {l : List α} {cur zs : List Value} {m : Nat} (hb : w.heap[b]? = some (.cells cur.toArray TE (0, 0))) (h : RowA k enc TE w (.slice (some ⟨b, 0, none⟩) l.length cap) l) (hz : zs.length = m) (hfit : l.length * k + m ≤ cur.length) :
    RowA k enc TE (w.setRow b (cur.take (l.length * k) ++ zs ++ cur.drop (l.length * k + m)).toArray) (.slice (some ⟨b, 0, none⟩) l.length cap) l := by
  rcases h.2 with ⟨hv, _⟩ | ⟨b', cap', cur', hv, h0, h1, h2, h3, h4, h5⟩
  · cases hv
  injection hv with hv _ hc; injection hv with hv; injection hv with hv
  subst hv hc
  rw [hb] at h1
  injection h1 with h1; injection h1 with h1
  subst h1
  refine ⟨h.1, .inr ⟨b, cap, _, rfl, h0, setRow_heap _ _ _ _ _ _ hb, h2, h3, ?_, ?_⟩⟩
  · rw [List.size_toArray] at h4 ⊢
    rw [List.length_append, List.length_append, List.length_take, List.length_drop]
    omega
  · rw [← h5]
    show (cur.take (l.length * k) ++ zs ++ cur.drop (l.length * k + m)).take (l.length * k) = _
    rw [List.append_assoc]
    exact List.take_left' (by rw [List.length_take]; omega)
end
theorem cell_turn {w w' : World} {O : Nat → Prop} (t : Turn w w' O) {n i : Nat} (hn : n < w.heap.size) (ho : ¬ O n) : w'.cell? ⟨n, i, none⟩ = w.cell? ⟨n, i, none⟩ := by
  simp [World.cell?, t.block n hn ho]
theorem frozen_turn {w w' : World} {O : Nat → Prop} (t : Turn w w' O) {n i : Nat} (hn : n < w.heap.size) (ho : ¬ O n) : w'.frozen? ⟨n, i, none⟩ = w.frozen? ⟨n, i, none⟩ := by
  simp [World.frozen?, t.block n hn ho]

end Go.Proofs.Ytbjoibgkhooljaa
