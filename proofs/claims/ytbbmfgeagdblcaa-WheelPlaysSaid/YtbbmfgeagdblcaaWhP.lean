/-
  Layer 5: a wheel, and beside it a map of its timers' moments by their numbers. Conditions: as said.
-/
import Derived.Test.YtbbmfgeagdblcaaWhK
import Derived.Test.YtbbmfgeagdblcaaTab
namespace Go.Proofs.Ytbbmfgeagdblcaa
open Go.RowKit Go.Sort Go.Shelf

theorem IsTab.look_bare {P : Program} {k t e : TypeId} {w : World} {b : Nat} {cs : List (Int × Value)} (h : IsTab w b cs) (ht : P.underlying t = some (.map k e)) (hk : P.underlying k = some (.int .i64)) {x : Int} {v : Value} (hc : (x, v) ∈ cs) :
    (Instr.lookup t (.map (some b)) (.int .i64 x) false).run P w = .ok v w := by
  obtain ⟨es, clock, hb, F⟩ := h
  have hx := F.wf _ hc
  rcases F.find hk w hx with ⟨_, h1⟩ | ⟨j, v', h1, h2⟩
  · exact absurd rfl (h1 _ hc)
  · have e1 : v' = v := by
      exact key_one F.keys (List.mem_of_getElem? h2) hc
    subst e1
    simp [Instr.lookup, run_underlying ht, MapKept.run_getObj_map hb, tab_check hk w _ hx, h1, Result.andThen]

/-- An entry of the map. -/
def entT (t : Tm Int) : Int × Value := (t.id, .int .i64 t.due)
/-- A wheel, and a map; all in blocks from B on. -/
def OS (B : Nat) (w : World) (g mb : Nat) (now last : Int) (L : List (Tm Int)) (es : List (Int × Value)) : Prop :=
  ∃ O, IsWI w O g now last L ∧ (∀ j, O j → B ≤ j ∧ j < w.heap.size ∧ j ≠ mb) ∧ IsTab w mb es ∧ B ≤ mb
/-- .. and a copy of an act. -/
def OX (B : Nat) (w : World) (g mb : Nat) (now last : Int) (L : List (Tm Int)) (es : List (Int × Value)) (bx : Nat) (cs : List Value) : Prop :=
  ∃ O, IsWI w O g now last L ∧ (∀ j, O j → B ≤ j ∧ j < w.heap.size ∧ j ≠ mb ∧ j ≠ bx) ∧ IsTab w mb es ∧ B ≤ mb ∧ w.heap[bx]? = some (.cells cs.toArray 30 (0, 0)) ∧ bx ≠ mb
section
variable {B : Nat} {w w' : World} {g mb bx : Nat} {now last : Int} {L : List (Tm Int)} {es es' : List (Int × Value)} {cs : List Value}
theorem OS.box (h : OS B w g mb now last L es) (cs : List Value) : OX B (w.alloc (.cells cs.toArray 30)) g mb now last L es w.heap.size cs := by
  obtain ⟨O, h1, h2, h3, h4⟩ := h
  have k := World.grownBy_alloc w (.cells cs.toArray 30) none
  refine ⟨O, h1.kept (fun j hj _ => k.block j hj (by simp)), fun j hj => ?_, h3.kept (k.block mb h3.lt (by simp)), h4, _root_.Go.heap_alloc_new w _, fun e => by have := h3.lt; omega⟩
  have := h2 j hj
  refine ⟨this.1, by simp; omega, this.2.2, by omega⟩
theorem OX.drop (h : OX B w g mb now last L es bx cs) : OS B w g mb now last L es := by
  obtain ⟨O, h1, h2, h3, h4, _, _⟩ := h
  exact ⟨O, h1, fun j hj => ⟨(h2 j hj).1, (h2 j hj).2.1, (h2 j hj).2.2.1⟩, h3, h4⟩
theorem OX.kept (h : OX B w g mb now last L es bx cs) (t : Turn w w' (fun _ => False)) : OX B w' g mb now last L es bx cs := by
  obtain ⟨O, h1, h2, h3, h4, h5, h6⟩ := h
  refine ⟨O, h1.turn t (fun _ _ h => h), fun j hj => ⟨(h2 j hj).1, Nat.lt_of_lt_of_le (h2 j hj).2.1 t.size, (h2 j hj).2.2⟩, h3.kept (t.block mb h3.lt id), h4, (t.block bx (Array.getElem?_eq_some_iff.1 h5).1 id).trans h5, h6⟩
theorem OX.step (h : OX B w g mb now last L es bx cs) : ∃ O, IsWI w O g now last L ∧ ∀ (w' : World) (now' last' : Int) (L' : List (Tm Int)), IsWI w' (More O w w') g now' last' L' → Turn w w' O → OX B w' g mb now' last' L' es bx cs ∧ (∀ j, O j → B ≤ j) ∧ (∀ j, O j → j ≠ mb) := by
  obtain ⟨O, h1, h2, h3, h4, h5, h6⟩ := h
  have hbl := (Array.getElem?_eq_some_iff.1 h5).1
  have hml := h3.lt
  refine ⟨O, h1, fun w' now' last' L' i t => ⟨⟨_, i, fun j hj => ?_, h3.kept (t.block mb hml (fun hx => (h2 mb hx).2.2.1 rfl)), h4, (t.block bx hbl (fun hx => (h2 bx hx).2.2.2 rfl)).trans h5, h6⟩, fun j hj => (h2 j hj).1, fun j hj => (h2 j hj).2.2.1⟩⟩
  have hz := t.size
  rcases hj with hj | hj
  · have := h2 j hj; exact ⟨this.1, by omega, this.2.2⟩
  · exact ⟨by omega, hj.2, by omega, by omega⟩
theorem OX.map (h : OX B w g mb now last L es bx cs) (k : w.grownBy w' (some mb)) (ht : IsTab w' mb es') : OX B w' g mb now last L es' bx cs := by
  obtain ⟨O, h1, h2, h3, h4, h5, h6⟩ := h
  refine ⟨O, h1.kept (fun j hj ho => k.block j hj (fun e => (h2 j ho).2.2.1 (by injection e))), fun j hj => ⟨(h2 j hj).1, Nat.lt_of_lt_of_le (h2 j hj).2.1 k.size, (h2 j hj).2.2⟩, ht, h4, (k.block bx (Array.getElem?_eq_some_iff.1 h5).1 (fun e => h6 (by injection e))).trans h5, h6⟩
theorem OX.tab (h : OX B w g mb now last L es bx cs) : IsTab w mb es := by
  obtain ⟨_, _, _, h3, _⟩ := h
  exact h3
theorem OX.wheel (h : OX B w g mb now last L es bx cs) : ∃ O, IsWI w O g now last L := by
  obtain ⟨O, h1, _⟩ := h
  exact ⟨O, h1⟩
theorem OX.mbB (h : OX B w g mb now last L es bx cs) : B ≤ mb := by
  obtain ⟨_, _, _, _, h4, _⟩ := h
  exact h4
theorem OX.mapTurn (h : OX B w g mb now last L es bx cs) {w0 : World} (t : Turn w0 w (fun _ => False)) (hB : w0.heap.size = B) (k : w.grownBy w' (some mb)) : Turn w0 w' (fun _ => False) := by
  have hm := h.mbB
  exact t.step (Turn.of_grown (O := fun j => j = mb) k (fun j e => by injection e with e; exact e.symm)) (fun j hj => by omega)
theorem OX.cell (h : OX B w g mb now last L es bx cs) (i : Nat) : w.cell? ⟨bx, i, none⟩ = cs[i]? := by
  obtain ⟨_, _, _, _, _, h5, _⟩ := h
  rw [cell_of_cells h5, List.getElem?_toArray]
end
theorem OX.now {B : Nat} {w : World} {g mb bx : Nat} {now last : Int} {L : List (Tm Int)} {es : List (Int × Value)} {cs : List Value} (h : OX B w g mb now last L es bx cs) : Calls Try.prog 20 #[.pointer (some ⟨g, 0, none⟩)] w fun e w' => e = .returned (.int .i64 now) ∧ w = w' := by
  obtain ⟨O, h1, _⟩ := h
  exact bNowI h1
theorem nums_lens {L : List (Tm Int)} : (L.map entT).length = L.length := List.length_map ..
theorem no_key {L : List (Tm Int)} {id : Int} (h : ∀ t ∈ L, t.id ≠ id) : ∀ c ∈ L.map entT, c.1 ≠ id := fun c hc => by
  obtain ⟨t, ht, rfl⟩ := List.mem_map.1 hc
  exact h t ht
theorem ent_mem {L : List (Tm Int)} {t : Tm Int} (h : t ∈ L) : (t.id, Value.int .i64 t.due) ∈ L.map entT := List.mem_map.2 ⟨t, h, rfl⟩
theorem ent_without {L : List (Tm Int)} {id : Int} : ((L.map entT).filter fun c => c.1 != id) = (without id L).map entT := by
  unfold without
  rw [List.filter_map]
  congr 1
/-- The entries that are left when the first of those told are deleted. -/
def leftE (T : List (Tm Int)) (L : List (Tm Int)) (k : Nat) : List (Int × Value) := (L.map entT).filter fun c => !(T.take k).any fun t => t.id == c.1
theorem leftE_zero (T L : List (Tm Int)) : leftE T L 0 = L.map entT := by unfold leftE; exact List.filter_eq_self.2 (fun c _ => by simp)
theorem leftE_succ (T L : List (Tm Int)) (k : Nat) (hk : k < T.length) : (leftE T L k).filter (fun c => c.1 != T[k].id) = leftE T L (k + 1) := by
  unfold leftE
  rw [List.filter_filter]
  apply List.filter_congr
  intro c _
  rw [take_one T k hk, List.any_append]
  simp only [List.any_cons, List.any_nil, Bool.or_false, Bool.not_or]
  rw [Bool.and_comm]
  congr 1
  rw [Bool.eq_iff_iff]
  simp only [bne_iff_ne, ne_eq, Bool.not_eq_true', beq_eq_false_iff_ne]
  exact ⟨fun h e => h e.symm, fun h e => h e.symm⟩
theorem leftE_all {L : List (Tm Int)} (hL : L.Pairwise (fun x y => x.id < y.id)) (N : Int) : leftE (told N L) L (told N L).length = (rests N L).map entT := by
  unfold leftE rests
  rw [List.take_length, List.filter_map]
  congr 1
  apply List.filter_congr
  intro t ht
  show (!(told N L).any fun u => u.id == t.id) = !isDue N t
  congr 1
  rw [Bool.eq_iff_iff, List.any_eq_true]
  constructor
  · rintro ⟨u, hu, e⟩
    have hd := mem_dues.1 ((told_perm N L).mem_iff.1 hu)
    have := ids_one hL hd.1 ht (by simpa using e)
    subst this
    simp [isDue, hd.2]
  · intro hd
    exact ⟨t, (told_perm N L).mem_iff.2 (mem_dues.2 ⟨ht, by simpa [isDue] using hd⟩), by simp⟩

/-- What was told, as the law holds it. -/
def RowP (mb : Nat) (w : World) (p : Option Addr) (T : List (Tm Int)) : Prop := 0 < T.length → ∃ b, p = some ⟨b, 0, none⟩ ∧ b ≠ mb ∧ ∀ (j : Nat) (h : j < T.length), w.cell? ⟨b, j, none⟩ = some (.int .i64 T[j].id)
theorem RowP.turn {mb : Nat} {w w' : World} {p : Option Addr} {T : List (Tm Int)} (h : RowP mb w p T) (t : Turn w w' (fun _ => False)) : RowP mb w' p T := fun h0 => by
  obtain ⟨b, e, hb, hc⟩ := h h0
  exact ⟨b, e, hb, fun j hj => by rw [World.cell?_of_block (a := ⟨b, j, none⟩) (t.block b (World.block_lt_of_cell? w _ (hc j hj)) id)]; exact hc j hj⟩
theorem RowP.map {mb : Nat} {w w' : World} {p : Option Addr} {T : List (Tm Int)} (h : RowP mb w p T) (k : w.grownBy w' (some mb)) : RowP mb w' p T := fun h0 => by
  obtain ⟨b, e, hb, hc⟩ := h h0
  exact ⟨b, e, hb, fun j hj => by rw [World.cell?_of_block (a := ⟨b, j, none⟩) (k.block b (World.block_lt_of_cell? w _ (hc j hj)) (fun e => hb (by injection e)))]; exact hc j hj⟩
theorem RowP.of {mb B : Nat} {w : World} {v : Value} {T : List (Tm Int)} (h : w.ownsRow B 3 1 v T.length (T.map fun t => Value.int .i64 t.x)) (hx : ∀ t ∈ T, t.x = t.id) (hB : mb < B) : ∃ p c, v = .slice p T.length c ∧ RowP mb w p T := by
  obtain ⟨p, c, hv⟩ := own_len h
  refine ⟨p, c, hv, fun h0 => ?_⟩
  obtain ⟨b, c', e, hb, _, hc⟩ := own_cells h h0
  rw [hv] at e
  injection e with e
  exact ⟨b, e, by omega, fun j hj => hc j _ (by simp [hj, hx T[j] (List.getElem_mem hj)])⟩
/-- Two that are told one behind the other. -/
theorem told_next {N : Int} {L : List (Tm Int)} {q : Nat} (h : q + 1 < (told N L).length) : (told N L)[q].due < (told N L)[q + 1].due ∨ ((told N L)[q].due = (told N L)[q + 1].due ∧ (told N L)[q].id ≤ (told N L)[q + 1].id) := by
  have := (List.pairwise_iff_getElem.1 (sortT_sorted (dues N L))) q (q + 1) (by exact Nat.lt_of_succ_lt h) h (Nat.lt_succ_self q)
  change ¬ ltT (told N L)[q + 1] (told N L)[q] at this
  unfold ltT at this
  omega

def NextOk (T : List (Tm Int)) : Prop := ∀ (q : Nat) (h : q + 1 < T.length), T[q].due < T[q + 1].due ∨ (T[q].due = T[q + 1].due ∧ T[q].id ≤ T[q + 1].id)
def MemOk (N : Int) (L T : List (Tm Int)) : Prop := ∀ (j : Nat) (h : j < T.length), T[j] ∈ L ∧ T[j].due ≤ N
def LeftOk (L T : List (Tm Int)) : Prop := ∀ (k : Nat) (hk : k < T.length), (leftE T L k).filter (fun c => c.1 != T[k].id) = leftE T L (k + 1)
theorem nextOk (N : Int) (L : List (Tm Int)) : NextOk (told N L) := fun _ h => told_next h
theorem memOk (N : Int) (L : List (Tm Int)) : MemOk N L (told N L) := fun _ h => mem_dues.1 ((told_perm N L).mem_iff.1 (List.getElem_mem h))
theorem leftOk (T L : List (Tm Int)) : LeftOk L T := leftE_succ T L

end Go.Proofs.Ytbbmfgeagdblcaa
