/-
  Layer 8: the document's own bytes of a packet. Conditions: a packet's numbers are numbers of their kind, its data has at most 2^47 bytes.
-/
import Derived.Test.YtbjoibgkhooljaaIpG
namespace Go.Proofs.Ytbjoibgkhooljaa
open Go.RowKit Go.Sort
set_option linter.unusedVariables false

theorem holds_put {w : World} {n : Nat} {cs : Array Value} {t : TypeId} {fz : Nat × Nat} {l : List UInt8} (h : w.heap[n]? = some (.cells cs t fz)) (hh : Holds eb w n 0 l.toArray) (k : Nat) (hk : k < l.length) (y : UInt8) :
    Holds eb (w.setCell ⟨n, k, none⟩ (eb y)) n 0 (l.set k y).toArray ∧ (w.setCell ⟨n, k, none⟩ (eb y)).heap[n]? = some (.cells (cs.setIfInBounds k (eb y)) t fz) := by
  have hc : ∀ j, (hj : j < l.length) → cs[j]? = some (eb l[j]) := fun j hj => by
    have := (hh j (by simpa using hj)).1
    rw [Nat.zero_add, cell_of_row w n j cs t fz h] at this
    rw [this]
    simp [getElem!_pos l.toArray j (by simpa using hj)]
  have hks : k < cs.size := (Array.getElem?_eq_some_iff.1 (hc k hk)).1
  have h2 : (w.setCell ⟨n, k, none⟩ (eb y)).heap[n]? = some (.cells (cs.setIfInBounds k (eb y)) t fz) := by simp [World.setCell, Array.getElem?_modify, h]
  refine ⟨?_, h2⟩
  intro j hj
  have hj' : j < l.length := by simpa using hj
  have hf := (hh j (by simpa using hj')).2
  refine ⟨?_, by simpa [World.frozen?, h2, h] using hf⟩
  rw [Nat.zero_add, cell_of_row _ n j _ t fz h2, Array.getElem?_setIfInBounds, getElem!_pos _ j hj]
  by_cases e : k = j
  · subst e
    rw [if_pos rfl, if_pos hks]
    simp
  · rw [if_neg e, hc j hj']
    simp [e]
theorem ByRow.holds {w : World} {base : Nat} {v : Value} {l : List UInt8} (h : ByRow w base v l) (h0 : 0 < l.length) : ∃ b cap cur, v = .slice (some ⟨b, 0, none⟩) l.length cap ∧ base ≤ b ∧ w.heap[b]? = some (.cells cur 5 (0, 0)) ∧ Holds eb w b 0 l.toArray := by
  rcases h.2 with ⟨_, h1⟩ | ⟨b, cap, cur, rfl, hbs, hb, h1, h2, h3, h4⟩
  · omega
  · refine ⟨b, cap, cur, rfl, hbs, hb, ?_⟩
    intro j hj
    have hj' : j < l.length := by simpa using hj
    refine ⟨?_, by simp [World.frozen?, hb]⟩
    rw [Nat.zero_add, cell_of_row w b j cur _ (0, 0) hb]
    have h5 : (cur.toList.take (l.length * 1))[j]? = (l.map eb)[j]? := by rw [h4]
    rw [List.getElem?_take, if_pos (by omega)] at h5
    rw [← Array.getElem?_toList, h5, List.getElem?_map, List.getElem?_eq_getElem hj']
    simp [getElem!_pos l.toArray j (by simpa using hj')]
theorem u8_wrap (n : Nat) : IntKind.u8.wrap (n : Int) = ((UInt8.ofNat n).toNat : Int) := by
  rw [UInt8.toNat_ofNat']
  unfold IntKind.wrap
  simp [IntKind.bits, IntKind.signed]

/-- A packet and a row beside it. -/
structure PRd (w W : World) (n : Nat) (f : Pd) (v : Value) (l : List UInt8) : Prop where
  pk : PdAt W n f
  nn : n = w.heap.size
  bl : Below w.heap.size w W
  row : ByRow W (n + 1) v l
theorem PRd.byte {w W : World} {n : Nat} {f : Pd} {v : Value} {l : List UInt8} (h : PRd w W n f v l) (X : UInt8) : ByRow (W.alloc (.cells #[.int .u8 (X.toNat : Int)] 5)) (n + 1) v l ∧ n + 1 ≤ (W.alloc (.cells #[.int .u8 (X.toNat : Int)] 5)).heap.size := by
  refine ⟨h.row.kept (row := none) (World.grownBy_alloc _ _ _) (by cases v.ownBlock <;> simp), ?_⟩
  have := lt_of_block h.pk
  simp
  omega
theorem PRd.next {w W W' : World} {n : Nat} {f : Pd} {v v' : Value} {l l' : List UInt8} {X : UInt8} (h : PRd w W n f v l) (h1 : ByRow W' (n + 1) v' l') (h2 : (W.alloc (.cells #[.int .u8 (X.toNat : Int)] 5)).grownBy W' v.ownBlock) : PRd w W' n f v' l' := by
  have hlt := lt_of_block h.pk
  have hs : W.heap.size ≤ W'.heap.size := by have := h2.size; simp at this; omega
  have hold : ∀ k, k ≤ n → W'.heap[k]? = W.heap[k]? := fun k hk => by
    rw [h2.block k (by simp; omega) (fun e => by have := h.row.block e.symm; omega)]
    exact (World.grownBy_alloc W (.cells #[.int .u8 (X.toNat : Int)] 5) none).block k (by omega) (by simp)
  have a2 := World.grownBy_alloc W (.cells #[.int .u8 (X.toNat : Int)] 5) none
  refine ⟨(hold n (Nat.le_refl _)).trans h.pk, h.nn, h.bl.trans ⟨h2.os.trans a2.os, h2.tape.trans a2.tape, h2.output.trans a2.output, hs, fun k hk => hold k (by have := h.nn; omega)⟩, h1⟩

theorem lt_of_row {w : World} {b : Nat} {o : Obj} (h : w.heap[b]? = some o) : b < w.heap.size := (Array.getElem?_eq_some_iff.1 h).1
theorem holds_below {w w' : World} {b : Nat} {l : Array UInt8} (h : Below w.heap.size w w') (hb : b < w.heap.size) (hh : Holds eb w b 0 l) : Holds eb w' b 0 l := by
  intro j hj
  obtain ⟨h1, h2⟩ := hh j hj
  refine ⟨(h.cell (p := ⟨b, 0 + j, none⟩) hb).trans h1, ?_⟩
  rw [← h2]
  simp only [World.frozen?, h.block b hb]

end Go.Proofs.Ytbjoibgkhooljaa
