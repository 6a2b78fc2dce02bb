/-
  Rows of elements of several cells, each element told by its cells: laws on whole elements. No conditions but those said.
-/
import Derived.ProofKit
import Derived.WalkKit
import Derived.WalkSpells
import Derived.WalkLawsBesides
import Derived.Lib.Hide
import Derived.Deep.MidRow
import Derived.Laws.AppendOwn
import Derived.Laws.IdiomCopy
import Derived.Maps.AppendAt
import Derived.Below
import Derived.Laws.Tables
import Derived.Deep.RegionLaw
import Derived.Deep.AppendSrc
import Derived.Sort.WalkC
namespace Go.Proofs.Ytlajalfalepbhaa
open Go.RowKit
set_option linter.unusedVariables false

section
variable {α : Type} {k : Nat} {enc : α → List Value}
def encA (enc : α → List Value) (l : List α) : List Value := l.flatMap enc
theorem encA_append (enc : α → List Value) (l m : List α) : encA enc (l ++ m) = encA enc l ++ encA enc m := by simp [encA]
theorem encA_length (hk : ∀ x, (enc x).length = k) : ∀ l : List α, (encA enc l).length = l.length * k
  | [] => by simp [encA]
  | t :: l => by
    have := encA_length hk l
    simp only [encA, List.flatMap_cons, List.length_append, List.length_cons] at this ⊢
    rw [hk t, this, Nat.add_one_mul]
    omega
theorem encA_at (hk : ∀ x, (enc x).length = k) : ∀ (l : List α) (i j : Nat) (hi : i < l.length), j < k → (encA enc l)[i * k + j]? = (enc l[i])[j]?
  | t :: l, 0, j, _, hj => by
    simp only [encA, List.flatMap_cons, Nat.zero_mul, Nat.zero_add, List.getElem_cons_zero]
    rw [List.getElem?_append_left (by rw [hk t]; exact hj)]
  | t :: l, i + 1, j, hi, hj => by
    have := encA_at hk l i j (by simpa using hi) hj
    simp only [encA, List.flatMap_cons, List.getElem_cons_succ] at this ⊢
    rw [List.getElem?_append_right (by rw [hk t, Nat.add_one_mul]; omega), hk t, show (i + 1) * k + j - k = i * k + j by rw [Nat.add_one_mul]; omega]
    exact this
theorem encA_set (hk : ∀ x, (enc x).length = k) : ∀ (l : List α) (i : Nat) (y : α) (hi : i < l.length), encA enc (l.set i y) = (encA enc l).take (i * k) ++ enc y ++ (encA enc l).drop (i * k + k)
  | t :: l, 0, y, _ => by
    simp only [encA, List.set_cons_zero, List.flatMap_cons, Nat.zero_mul, List.take_zero, List.nil_append, Nat.zero_add]
    rw [List.drop_left' (hk t)]
  | t :: l, i + 1, y, hi => by
    have := encA_set hk l i y (by simpa using hi)
    simp only [encA, List.set_cons_succ, List.flatMap_cons] at this ⊢
    rw [this]
    have e1 : (i + 1) * k = (enc t).length + i * k := by rw [hk t, Nat.add_one_mul]; omega
    rw [e1, List.take_length_add_append, Nat.add_assoc, List.drop_length_add_append]
    simp
/-- A slice that has a block of its own, or none: these elements. -/
abbrev RowA (k : Nat) (enc : α → List Value) (TE : TypeId) (w : World) (v : Value) (l : List α) : Prop := w.ownsRow 0 TE k v l.length (encA enc l)
variable {TE : TypeId} {w w' : World} {v : Value} {l : List α}
theorem add_off (b o j : Nat) : (⟨b, o, none⟩ : Addr).add j = ⟨b, o + j, none⟩ := by unfold Addr.add; split <;> simp_all
theorem RowA.shape (h : RowA k enc TE w v l) : ∃ p c, v = .slice p l.length c := by
  rcases h.2 with ⟨rfl, h0⟩ | ⟨b, cap, _, rfl, _⟩
  · exact ⟨none, 0, by rw [h0]⟩
  · exact ⟨_, _, rfl⟩
theorem RowA.block (h : RowA k enc TE w v l) (h0 : 0 < l.length) : ∃ b cap cur, v = .slice (some ⟨b, 0, none⟩) l.length cap ∧ w.heap[b]? = some (.cells cur TE (0, 0)) ∧ l.length ≤ cap ∧ cap ≤ maxLen ∧ cur.size = cap * k ∧ cur.toList.take (l.length * k) = encA enc l := by
  rcases h.2 with ⟨_, h1⟩ | ⟨b, cap, cur, h1, _, h2, h3, h4, h5, h6⟩
  · omega
  · exact ⟨b, cap, cur, h1, h2, h3, h4, h5, h6⟩
theorem RowA.elem (hk : ∀ x, (enc x).length = k) (h : RowA k enc TE w v l) (h0 : 0 < l.length) :
    ∃ b cap, v = .slice (some ⟨b, 0, none⟩) l.length cap ∧ l.length ≤ cap ∧ cap ≤ maxLen ∧ b < w.heap.size ∧ (∀ i, w.frozen? ⟨b, i, none⟩ = false) ∧ ∀ (j : Nat) (hj : j < l.length), w.rangeAt b (j * k) (enc l[j]) := by
  obtain ⟨b, cap, cur, rfl, hb, hc, hm, hs, ht⟩ := h.block h0
  refine ⟨b, cap, rfl, hc, hm, (Array.getElem?_eq_some_iff.1 hb).1, fun i => frozen_of_row w b i cur TE hb, fun j hj i u hu => ?_⟩
  have hi : i < k := by have := (List.getElem?_eq_some_iff.1 hu).1; rw [hk] at this; exact this
  have := h.cells (g := b) rfl (j * k + i) u (by rw [encA_at hk l j i hj hi]; exact hu)
  rw [add_off, Nat.zero_add] at this
  exact this
theorem RowA.kept (h : RowA k enc TE w v l) (hs : w.heap.size ≤ w'.heap.size) (hb : ∀ b, v.ownBlock = some b → w'.heap[b]? = w.heap[b]?) : RowA k enc TE w' v l := by
  refine ⟨h.1, ?_⟩
  rcases h.2 with h1 | ⟨b, cap, cur, rfl, h2, h3, h4⟩
  · exact .inl h1
  · exact .inr ⟨b, cap, cur, rfl, h2, (hb b rfl).trans h3, h4⟩
/-- A whole element is written in its place. -/
theorem RowA.put (hk : ∀ x, (enc x).length = k) {b cap i : Nat} (h : RowA k enc TE w (.slice (some ⟨b, 0, none⟩) l.length cap) l) (hi : i < l.length) (y : α) {cur' : Array Value}
    (hb : ∀ cur, w.heap[b]? = some (.cells cur TE (0, 0)) → w'.heap[b]? = some (.cells cur' TE (0, 0)) ∧ cur'.toList = cur.toList.take (i * k) ++ enc y ++ cur.toList.drop (i * k + k)) : RowA k enc TE w' (.slice (some ⟨b, 0, none⟩) l.length cap) (l.set i y) := by
  obtain ⟨b', cap', cur, hv, h1, h2, h3, h4, h5⟩ := h.block (by omega)
  injection hv with hv _ hc; injection hv with hv; injection hv with hv
  subst hv hc
  obtain ⟨g1, g2⟩ := hb cur h1
  have hik : i * k + k ≤ l.length * k := by rw [← Nat.add_one_mul]; exact Nat.mul_le_mul_right k (by omega)
  have hlk : l.length * k ≤ cap * k := Nat.mul_le_mul_right k h2
  refine ⟨by rw [encA_length hk], .inr ⟨b, cap, cur', by rw [List.length_set], Nat.zero_le _, g1, by rw [List.length_set]; exact h2, h3, ?_, ?_⟩⟩
  · have : cur'.toList.length = cap * k := by
      rw [g2, List.length_append, List.length_append, List.length_take, List.length_drop, hk, Array.length_toList, h4]
      omega
    rw [← this, Array.length_toList]
  · rw [List.length_set, g2, encA_set hk l i y hi, ← h5, List.take_take, Nat.min_eq_left (by omega), List.drop_take]
    have e1 : (cur.toList.take (i * k) ++ enc y).length = i * k + k := by
      rw [List.length_append, List.length_take, hk, Array.length_toList, h4]
      omega
    rw [List.take_append, e1, List.take_of_length_le (by rw [e1]; omega)]

/-- 'append' of one element, onto a row of its own. -/
theorem run_append_A {P : Program} (hk : ∀ x, (enc x).length = k) (h1e : ∀ x, ∀ u ∈ enc x, u.oneCell' = true) (hk0 : 0 < k) (t : TypeId) (TE : TypeId) (i : TypeInfo) (z : Value) (bytes : Nat) (ty : TypeId) (ht : P.underlying t = some (.slice TE)) (hi : P.info? TE = some i) (hz : i.zero = some z) (hsize : i.size = k) (hby : i.bytes = bytes) (hb2 : bytes ≤ 100) (hzs : z.cells.size = k)
    (v : Value) (l : List α) (hown : RowA k enc TE w v l) (hl : l.length ≤ 100000000)
    (ad : Addr) (c : Nat) (y : α) (hc : ∀ j u, (enc y)[j]? = some u → w.cell? (ad.add j) = some u) :
    ∃ v' w', (Builtin.append_ #[t, t] ty #[v, .slice (some ad) 1 c]).run P w = .ok v' w' ∧ RowA k enc TE w' v' (l ++ [y]) ∧ w.grownBy w' v.ownBlock ∧ (v'.ownBlock = v.ownBlock ∨ v'.ownBlock = some w.heap.size) := by
  obtain ⟨v', w', hr, h2, h3, _, h5⟩ := run_append_own_at (P := P) w 0 t ty TE i z k bytes ht hi hz hsize hby hzs hk0 v l.length (encA enc l) hown ad 1 c (enc y) (by rw [hk, Nat.one_mul]) hc (h1e y) (by unfold maxLen; omega) (by have := Nat.mul_le_mul (show l.length + 1 ≤ 100000001 by omega) hb2; omega) (Nat.zero_le _)
  refine ⟨v', w', hr, ?_, h3, h5⟩
  unfold RowA
  rw [List.length_append, encA_append]
  simpa [encA] using h2
end

/-- What is turned between two worlds lies in blocks of O; the rest is as it was. -/
structure Turn (w w' : World) (O : Nat → Prop) : Prop where
  os : w'.os = w.os
  tape : w'.tape = w.tape
  output : w'.output = w.output
  size : w.heap.size ≤ w'.heap.size
  block : ∀ k, k < w.heap.size → ¬ O k → w'.heap[k]? = w.heap[k]?
theorem Turn.refl (w : World) (O : Nat → Prop) : Turn w w O := ⟨rfl, rfl, rfl, Nat.le_refl _, fun _ _ _ => rfl⟩
theorem Turn.trans {w w1 w2 : World} {O : Nat → Prop} (h : Turn w w1 O) (k : Turn w1 w2 O) : Turn w w2 O :=
  ⟨k.os.trans h.os, k.tape.trans h.tape, k.output.trans h.output, Nat.le_trans h.size k.size, fun j hj ho => (k.block j (Nat.lt_of_lt_of_le hj h.size) ho).trans (h.block j hj ho)⟩
theorem Turn.mono {w w' : World} {O O' : Nat → Prop} (h : Turn w w' O) (k : ∀ j, j < w.heap.size → O j → O' j) : Turn w w' O' := ⟨h.os, h.tape, h.output, h.size, fun j hj ho => h.block j hj (fun x => ho (k j hj x))⟩
theorem Turn.trans' {w w1 w2 : World} {O O' : Nat → Prop} (h : Turn w w1 O) (k : Turn w1 w2 O') (ho : ∀ j, j < w.heap.size → O' j → O j) : Turn w w2 O :=
  ⟨k.os.trans h.os, k.tape.trans h.tape, k.output.trans h.output, Nat.le_trans h.size k.size, fun j hj hn => (k.block j (Nat.lt_of_lt_of_le hj h.size) (fun x => hn (ho j hj x))).trans (h.block j hj hn)⟩
theorem Turn.of_grown {w w' : World} {row : Option Nat} {O : Nat → Prop} (h : w.grownBy w' row) (k : ∀ j, row = some j → O j) : Turn w w' O :=
  ⟨h.os, h.tape, h.output, h.size, fun j hj ho => h.block j hj (fun e => ho (k j e.symm))⟩
theorem Turn.of_below {w w' : World} {O : Nat → Prop} (h : Below w.heap.size w w') : Turn w w' O := ⟨h.os, h.tape, h.output, h.size, fun k hk _ => h.block k hk⟩
theorem Turn.alloc {w w' : World} {O : Nat → Prop} (h : Turn w w' O) (o : Obj) : Turn w (w'.alloc o) O := h.trans (Turn.of_grown (World.grownBy_alloc w' o none) (fun j h => by cases h))
theorem Turn.setRow {w w' : World} {O : Nat → Prop} (h : Turn w w' O) {g : Nat} (hg : O g) (cs : Array Value) : Turn w (w'.setRow g cs) O :=
  h.trans ⟨rfl, rfl, rfl, by simp [World.setRow], fun k _ ho => setRow_other _ _ _ _ (fun e => ho (by rw [e]; exact hg))⟩
theorem Turn.setCell {w w' : World} {O : Nat → Prop} (h : Turn w w' O) {g : Nat} (hg : O g) (i : Nat) (v : Value) : Turn w (w'.setCell ⟨g, i, none⟩ v) O :=
  h.trans ⟨rfl, rfl, rfl, by simp [World.setCell], fun k _ ho => heap_setCell_other w' ⟨g, i, none⟩ k v (fun e => ho (by rw [e]; exact hg))⟩
/-- A part of what stands in a row. -/
theorem rangeAt_drop {w : World} {b o n : Nat} {cs : List Value} (h : w.rangeAt b o cs) : w.rangeAt b (o + n) (cs.drop n) := fun j v hv => by
  rw [List.getElem?_drop] at hv
  have := h (n + j) v hv
  rw [Nat.add_assoc]
  exact this
theorem rangeAt_take {w : World} {b o n : Nat} {cs : List Value} (h : w.rangeAt b o cs) : w.rangeAt b o (cs.take n) := fun j v hv => by
  rw [List.getElem?_take] at hv
  split at hv
  · exact h j v hv
  · cases hv

/-- append WHERE THERE IS ROOM, the block's cells told: as one step of a region that draws. -/
theorem step_append_in {P : Program} {ops : Array Oper} {o : Oper} {a : Act} {w : World} {K : Act → World → Prop} {Q : Exit → Act → World → Prop} {E : Prop}
    (hg : o.guard = none) (s x : Operand) (t : TypeId) (hop : o.op = Op.call { callee := Callee.builtin Builtin.append, args := #[s, x], argTypes := #[t, t] })
    (e : TypeId) (i : TypeInfo) (size : Nat) (h1 : P.underlying t = some (.slice e)) (h2 : P.info? e = some i) (h4 : i.size = size)
    (b n cap : Nat) (cur : Array Value) (hb : w.heap[b]? = some (.cells cur e (0, 0))) (hs : a.eval s = .slice (some ⟨b, 0, none⟩) n cap)
    (ad : Addr) (m c : Nat) (news : List Value) (hx : a.eval x = .slice (some ad) m c) (hn : news.length = m * size) (hc : ∀ j u, news[j]? = some u → w.cell? (ad.add j) = some u) (h1c : ∀ u ∈ news, u.oneCell' = true)
    (hroom : n + m ≤ cap) (hfit : n * size + news.length ≤ cur.size)
    (hK : K (a.put o.dst (.slice (some ⟨b, 0, none⟩) (n + m) cap)) (w.setRow b (cur.toList.take (n * size) ++ news ++ cur.toList.drop (n * size + news.length)).toArray)) :
    if Region.wanted o (yielded ops a.tmps) = true then Oper.wp P o a w K Q else E := by
  have hw : Region.wanted o (yielded ops a.tmps) = true := by simp [Region.wanted, hg]
  rw [if_pos hw]
  subst h4
  have hrun := run_append_room (P := P) w t o.type e i h1 h2 b n cap cur hb ad m c news hn hc h1c hroom hfit
  unfold Oper.wp
  simp only [execOp, hop, resolve, invoke, builtin, Sem.run_bind, Sem.run_pure, Result.andThen_ok, List.map_toArray, List.map_cons, List.map_nil, hs, hx, hrun]
  exact hK

theorem run_clear_row {P : Program} (W : World) (t e : TypeId) (z : Value) (ht : P.underlying t = some (.slice e)) (hv : ∀ w, (zeroValue e).run P w = .ok z w) (b o m c : Nat) (cur : Array Value) (hb : W.heap[b]? = some (.cells cur e (0, 0))) (hm : 0 < m) (k : Nat) (hk0 : 0 < k) (hz : z.cells.size = k) (hfit : o + m * k ≤ cur.size) (h1 : z.cells.all (·.oneCell') = true) :
    ∃ W', (∀ ty, (Builtin.clear_ #[t] ty #[.slice (some ⟨b, o, none⟩) m c]).run P W = .ok (.tuple #[]) W') ∧ ∃ zs : List Value, zs.length = m * k ∧ W' = W.setRow b (cur.toList.take o ++ zs ++ cur.toList.drop (o + m * k)).toArray := by
  have hsz : (Builtin.zeroCells z.cells m).toList.length = m * k := by rw [Array.length_toList, size_zeroCells, hz]
  have hone : ∀ v ∈ (Builtin.zeroCells z.cells m).toList, v.oneCell' = true := fun v hv => by
    have hv' : v ∈ Builtin.zeroCells z.cells m := by simpa using hv
    simp only [Builtin.zeroCells] at hv'
    obtain ⟨q, _, hq⟩ := Array.mem_map.1 hv'
    have hlt : q % z.cells.size < z.cells.size := Nat.mod_lt _ (by omega)
    rw [getElem!_pos z.cells _ hlt] at hq
    exact (Array.all_eq_true_iff_forall_mem.1 h1) v (by rw [← hq]; exact Array.getElem_mem _)
  have hst := run_storeCells_at P b o e (Builtin.zeroCells z.cells m).toList 0 cur W hb (by rw [hsz]; simpa using hfit) hone
  simp only [Nat.add_zero] at hst
  rw [hsz] at hst
  refine ⟨_, fun ty => ?_, _, hsz, rfl⟩
  match m, hm with
  | m + 1, _ => simp [Builtin.clear_, run_underlying ht, Sem.run_bind, hv, hst]


end Go.Proofs.Ytlajalfalepbhaa
