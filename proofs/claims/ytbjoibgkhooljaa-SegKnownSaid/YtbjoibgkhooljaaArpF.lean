/-
  Layer 7: the document's own bytes of a packet. Conditions: a packet's kind is a number of its kind.
-/
import Derived.Test.YtbjoibgkhooljaaArpI
import Derived.Test.YtbjoibgkhooljaaRef
import Derived.Laws.AppendOwn
namespace Go.Proofs.Ytbjoibgkhooljaa
open Go.RowKit Go.Sort
set_option linter.unusedVariables false

/-- A slice of bytes that has a block of its own. -/
abbrev ByRow (w : World) (base : Nat) (v : Value) (l : List UInt8) : Prop := w.ownsRow base 5 1 v l.length (l.map eb)
theorem info_u8 : ∃ i z, Try.prog.info? 5 = some i ∧ i.zero = some z ∧ i.size = 1 ∧ i.bytes = 1 ∧ z.cells.size = 1 := by
  have h : (Try.prog.info? 5).map (fun i => (i.zero.map (fun z => z.cells.size), i.size, i.bytes)) = some (some 1, 1, 1) := by kernel_rfl
  cases hi : Try.prog.info? 5 with
  | none => rw [hi] at h; cases h
  | some i =>
    rw [hi] at h
    simp only [Option.map_some, Option.some.injEq, Prod.mk.injEq] at h
    obtain ⟨h1, h2, h3⟩ := h
    cases hz : i.zero with
    | none => rw [hz] at h1; cases h1
    | some z => rw [hz] at h1; exact ⟨i, z, rfl, hz, h2, h3, by simpa using h1⟩
theorem wpList_append_byte {ops : Array Oper} {rest : List Oper} {o : Oper} {a : Act} {w : World} {Q : Exit → Act → World → Prop} (hg : o.guard = none) (s x : Operand)
    (hop : o.op = Op.call { callee := Callee.builtin Builtin.append, args := #[s, x], argTypes := #[61, 61] })
    (base : Nat) (v : Value) (l : List UInt8) (hs : a.eval s = v) (hown : ByRow w base v l) (hl : l.length ≤ 100000)
    (b : Nat) (c : Nat) (X : UInt8) (hx : a.eval x = .slice (some ⟨b, 0, none⟩) 1 c) (hc : w.cell? ⟨b, 0, none⟩ = some (eb X)) (hb : base ≤ w.heap.size)
    (hK : ∀ v' w', ByRow w' base v' (l ++ [X]) → w.grownBy w' v.ownBlock → wpList Try.prog ops Q rest (a.put o.dst v') w') : wpList Try.prog ops Q (o :: rest) a w := by
  obtain ⟨i, z, h1, h2, h3, h4, h5⟩ := info_u8
  refine wpList_append_own _ hg s x 61 hop base 5 i z 1 1 Try.underlying61 h1 h2 h3 h4 h5 (by decide) v l.length (l.map eb) hs hown ⟨b, 0, none⟩ 1 c [eb X] hx rfl ?_ ?_ (by unfold maxLen; omega) (by omega) hb ?_
  · intro j u hu
    rcases j with _ | j
    · have : u = eb X := by simpa using hu.symm
      subst this
      have ha : (⟨b, 0, none⟩ : Addr).add 0 = ⟨b, 0, none⟩ := by unfold Addr.add; split <;> simp_all
      rw [ha]
      exact hc
    · simp at hu
  · intro u hu
    have : u = eb X := by simpa using hu
    subst this
    rfl
  · intro v' w' g1 g2 _
    refine hK v' w' ?_ g2
    unfold ByRow
    rw [List.length_append, List.map_append]
    exact g1
theorem ByRow.shape {w : World} {base : Nat} {v : Value} {l : List UInt8} (h : ByRow w base v l) : ∃ p c, v = .slice p l.length c := by
  rcases h.2 with ⟨rfl, h0⟩ | ⟨b, cap, _, rfl, _⟩
  · exact ⟨none, 0, by rw [h0]⟩
  · exact ⟨_, _, rfl⟩
theorem ByRow.block {w : World} {base : Nat} {v : Value} {l : List UInt8} (h : ByRow w base v l) {k : Nat} (hk : v.ownBlock = some k) : base ≤ k := by
  rcases h.2 with ⟨rfl, h0⟩ | ⟨b, cap, _, rfl, hb, _⟩
  · simp [Value.ownBlock] at hk
  · simp [Value.ownBlock] at hk
    omega
/-- A row of its own as a text. -/
theorem ByRow.conv {w : World} {base : Nat} {v : Value} {l : List UInt8} (h : ByRow w base v l) (h0 : 0 < l.length) : (convert 61 9 v).run Try.prog w = .ok (.string ⟨l.toArray⟩) w := by
  rcases h.2 with ⟨_, h1⟩ | ⟨b, cap, cur, rfl, _, hb, h1, h2, h3, h4⟩
  · omega
  · refine conv_text w b 0 l.length cap l rfl ?_
    intro j hj
    have hj' : j < l.length := by simpa using hj
    refine ⟨?_, by simp [World.frozen?, hb]⟩
    rw [Nat.zero_add, cell_of_row w b j cur _ (0, 0) hb]
    have h5 : (cur.toList.take (l.length * 1))[j]? = (l.map eb)[j]? := by rw [h4]
    rw [List.getElem?_take, if_pos (by omega)] at h5
    rw [← Array.getElem?_toList, h5, List.getElem?_map, List.getElem?_eq_getElem hj']
    simp [getElem!_pos l.toArray j (by simpa using hj')]

theorem list_at (l : List UInt8) (k : Nat) (h : k < l.length) : ∃ X : UInt8, l[k]? = some X ∧ l.take (k + 1) = l.take k ++ [X] :=
  ⟨l[k]'h, List.getElem?_eq_getElem h, by rw [List.take_succ_eq_append_getElem h]⟩
theorem holds_get {w : World} {n o : Nat} {l : List UInt8} (h : Holds eb w n o l.toArray) (k : Nat) (X : UInt8) (hX : l[k]? = some X) : w.cell? ⟨n, o + k, none⟩ = some (.int .u8 (X.toNat : Int)) := by
  have hk : k < l.toArray.size := by simpa using (List.getElem?_eq_some_iff.1 hX).1
  rw [(h k hk).1]
  simp [eb, getElem!_pos l.toArray k hk, (List.getElem?_eq_some_iff.1 hX).2]




end Go.Proofs.Ytbjoibgkhooljaa
