/-
  Layer 5: a wheel, and beside it the document's, in a box. Conditions: as said.
-/
import Derived.Test.YtbbmfgeagdblcaaWhS
namespace Go.Proofs.Ytbbmfgeagdblcaa
open Go.RowKit Go.Sort Go.Shelf

/-- A wheel in the blocks O (now, last, L), and the document's in block m (nv, lv, R). -/
structure DS (O : Nat → Prop) (B : Nat) (w : World) (g m : Nat) (now last : Int) (L : List (Tm Int)) (nv lv : Int) (R : List (Tm Int)) (p : Option Addr) (c : Nat) : Prop where
  wheel : IsWI w O g now last L
  mine : ∀ j, O j → B ≤ j ∧ j < w.heap.size ∧ j ≠ m ∧ (Value.slice p R.length c).ownBlock ≠ some j
  vbox : w.heap[m]? = some (.cells #[.slice p R.length c, .int .i64 nv, .int .i64 lv] 28 (0, 0))
  low : B ≤ m
  row : RRow w (.slice p R.length c) R
  far : ∀ k, (Value.slice p R.length c).ownBlock = some k → k ≠ m
section
variable {O : Nat → Prop} {B : Nat} {w w' : World} {g m bx : Nat} {now last nv lv nv' lv' now' last' : Int} {L L' R R' : List (Tm Int)} {p p' : Option Addr} {c c' : Nat} {cs : List Value}
theorem DS.kept (h : DS O B w g m now last L nv lv R p c) (t : Turn w w' (fun _ => False)) : DS O B w' g m now last L nv lv R p c :=
  ⟨h.wheel.turn t (fun _ _ h => h), fun j hj => ⟨(h.mine j hj).1, Nat.lt_of_lt_of_le (h.mine j hj).2.1 t.size, (h.mine j hj).2.2⟩, (t.block m (Array.getElem?_eq_some_iff.1 h.vbox).1 id).trans h.vbox, h.low, h.row.turn t (fun _ _ h => h), h.far⟩
/-- An operation of the wheel. -/
theorem DS.step (h : DS O B w g m now last L nv lv R p c) (i : IsWI w' (More O w w') g now' last' L') (t : Turn w w' O) : DS (More O w w') B w' g m now' last' L' nv lv R p c := by
  have hml := (Array.getElem?_eq_some_iff.1 h.vbox).1
  have hrl := World.ownsRow.lt h.row
  have hz := t.size
  have hB := h.low
  refine ⟨i, fun j hj => ?_, (t.block m hml (fun hx => (h.mine m hx).2.2.1 rfl)).trans h.vbox, h.low, h.row.turn t (fun k hk hx => (h.mine k hx).2.2.2 hk), h.far⟩
  rcases hj with hj | hj
  · have := h.mine j hj; exact ⟨this.1, by omega, this.2.2⟩
  · exact ⟨by omega, hj.2, by omega, fun e => by have := (hrl j e).2; omega⟩
/-- The document's is written anew. -/
theorem DS.anew (h : DS O B w g m now last L nv lv R p c) (hr : RRow w (.slice p' R'.length c') R') (hf : ∀ k, (Value.slice p' R'.length c').ownBlock = some k → k ≠ m ∧ ¬ O k) (nv' lv' : Int) :
    DS O B (((w.setCell ⟨m, 0, none⟩ (.slice p' R'.length c')).setCell ⟨m, 1, none⟩ (.int .i64 nv')).setCell ⟨m, 2, none⟩ (.int .i64 lv')) g m now last L nv' lv' R' p' c' ∧
    Turn w (((w.setCell ⟨m, 0, none⟩ (.slice p' R'.length c')).setCell ⟨m, 1, none⟩ (.int .i64 nv')).setCell ⟨m, 2, none⟩ (.int .i64 lv')) (fun j => j = m) := by
  have T3 : Turn w (((w.setCell ⟨m, 0, none⟩ (.slice p' R'.length c')).setCell ⟨m, 1, none⟩ (.int .i64 nv')).setCell ⟨m, 2, none⟩ (.int .i64 lv')) (fun j => j = m) := (((Turn.refl w (fun j => j = m)).setCell rfl _ _).setCell rfl _ _).setCell rfl _ _
  refine ⟨⟨h.wheel.turn T3 (fun j ho e => (h.mine j ho).2.2.1 e), fun j hj => ?_, heap_setCell_same _ _ 2 _ _ _ (heap_setCell_same _ _ 1 _ _ _ (heap_setCell_same _ _ 0 _ _ _ h.vbox)), h.low, hr.turn T3 (fun k hk e => (hf k hk).1 e), fun k hk => (hf k hk).1⟩, T3⟩
  have := h.mine j hj
  exact ⟨this.1, Nat.lt_of_lt_of_le this.2.1 T3.size, this.2.2.1, fun e => (hf j e).2 hj⟩
/-- What is not the wheel's stays over an operation of the wheel. -/
theorem DS.block (_ : DS O B w g m now last L nv lv R p c) (t : Turn w w' O) {k : Nat} {o : Obj} (hk : w.heap[k]? = some o) (ho : ¬ O k) : w'.heap[k]? = some o := (t.block k (Array.getElem?_eq_some_iff.1 hk).1 ho).trans hk
end

end Go.Proofs.Ytbbmfgeagdblcaa
