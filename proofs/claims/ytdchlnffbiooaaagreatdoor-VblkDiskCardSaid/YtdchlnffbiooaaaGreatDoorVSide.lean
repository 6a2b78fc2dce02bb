/-
  A map of the caller's beside a queue: neither turns the other; memory that is written beside the queue's calls; a map's entry that is put anew, and read by itself. No conditions.
-/
import Derived.Test.YtdchlnffbiooaaaGreatDoorAwake
namespace Go.Proofs.YtdchlnffbiooaaaGreatDoor
open Go.RowKit Go.Sort Go.ChangeMaps Go.MapKept

section
variable {P : Program} {k t e : TypeId} {w : World} {b : Nat} {cs : List (Int × Value)}

/-- 'm[k]' at a key that is there. -/
theorem IsTab.get_yes (h : IsTab w b cs) (ht : P.underlying t = some (.map k e)) (hk : P.underlying k = some (.int .i64)) {x : Int} {v : Value} (hc : (x, v) ∈ cs) :
    (Instr.lookup t (.map (some b)) (.int .i64 x) false).run P w = .ok v w := by
  obtain ⟨es, clock, hb, F⟩ := h
  have hx := F.wf _ hc
  rcases F.find hk w hx with ⟨_, h1⟩ | ⟨j, v', h1, h2⟩
  · exact absurd rfl (h1 _ hc)
  · have e1 : v' = v := key_one F.keys (List.mem_of_getElem? h2) hc
    subst e1
    simp [Instr.lookup, run_underlying ht, MapKept.run_getObj_map hb, tab_check hk w _ hx, h1, Result.andThen]

/-- The last entry with another value. -/
theorem IsTab.put_last {x : Int} {v0 : Value} (h : IsTab w b (cs ++ [(x, v0)])) (ht : P.underlying t = some (.map k e)) (hk : P.underlying k = some (.int .i64)) (v : Value) :
    ∃ w', (Instr.mapUpdate t (.map (some b)) (.int .i64 x) v).run P w = .ok () w' ∧ IsTab w' b (cs ++ [(x, v)]) ∧ w.grownBy w' (some b) := by
  obtain ⟨es, clock, hb, F⟩ := h
  have hm : (x, v0) ∈ cs ++ [(x, v0)] := List.mem_append_right _ (List.mem_singleton.2 rfl)
  have hx := F.wf _ hm
  rcases F.find hk w hx with ⟨_, h1⟩ | ⟨j, v', h1, h2⟩
  · exact absurd rfl (h1 _ hm)
  have hj : j = cs.length := by
    have hl : j < (cs ++ [(x, v0)]).length := (List.getElem?_eq_some_iff.1 h2).1
    have hn := F.keys
    rw [List.map_append, List.nodup_append] at hn
    by_cases hlt : j < cs.length
    · rw [List.getElem?_append_left hlt] at h2
      exact absurd rfl (hn.2.2 x (List.mem_map.2 ⟨_, List.mem_of_getElem? h2, rfl⟩) x (by simp))
    · rw [List.length_append, List.length_singleton] at hl
      omega
  have hes : es.size = cs.length + 1 := by have := F.length; simpa using this
  have hkey : ((es[j]?).map (·.key)).getD (.int .i64 x) = .int .i64 x := by
    have hl : j < es.toList.length := by simp; omega
    obtain ⟨c, hc, h4, _⟩ := F.at_ (List.getElem?_eq_getElem hl)
    rw [h2] at hc
    cases hc
    have e1 : es[j]? = some (es.toList[j]'hl) := by simp
    rw [e1]
    simpa using h4
  obtain ⟨W2, hW2⟩ : ∃ W2, W2 = setBlock w b (.map (es.modify j fun e => { e with key := .int .i64 x, val := v }) clock) := ⟨_, rfl⟩
  refine ⟨W2, ?_, ?_, ?_⟩
  · rw [hW2]
    have hks : (Instr.keyThatStays (.int .i64 x) (.int .i64 x)).run P w = .ok (.int .i64 x) w := by simp [Instr.keyThatStays, Instr.sameBits]
    simp [Instr.mapUpdate, run_underlying ht, MapKept.run_getObj_map hb, tab_check hk w _ hx, h1, hkey, hks, MapKept.run_setObj_map _ hb, Result.andThen, setBlock]
  · rw [hW2]
    refine ⟨_, _, heap_setBlock_same hb _, ?_⟩
    have hl : (es.modify j fun e => { e with key := .int .i64 x, val := v }).toList = es.toList.modify j fun e => { e with key := .int .i64 x, val := v } := Array.toList_modify
    have hb2 : (es.modify j fun e => { e with key := .int .i64 x, val := v }).toList.map (·.born) = es.toList.map (·.born) := by
      rw [hl]
      apply List.ext_getElem?
      intro i
      rw [List.getElem?_map, List.getElem?_map, List.getElem?_modify]
      cases es.toList[i]? with
      | none => rfl
      | some e0 => by_cases hi : j = i <;> simp [hi]
    refine ⟨?_, ?_, ?_, ?_, ?_⟩
    · rw [hl]
      apply List.ext_getElem?
      intro i
      have h5 := congrArg (fun l => l[i]?) F.ents
      simp only [List.getElem?_map] at h5 ⊢
      rw [List.getElem?_modify]
      by_cases hi : j = i
      · subst hi
        have hl2 : j < es.toList.length := by simp; omega
        have h8 : (cs ++ [(x, v)])[j]? = some (x, v) := by rw [hj, List.getElem?_append_right (by omega)]; simp
        rw [List.getElem?_eq_getElem hl2, h8]
        simp
      · have h9 : (cs ++ [(x, v)])[i]? = (cs ++ [(x, v0)])[i]? := by
          by_cases hlt : i < cs.length
          · rw [List.getElem?_append_left hlt, List.getElem?_append_left hlt]
          · rw [List.getElem?_eq_none (by simp; omega), List.getElem?_eq_none (by simp; omega)]
        rw [h9, ← h5]
        cases es.toList[i]? with
        | none => rfl
        | some e0 => simp [hi]
    · rw [hb2]; exact F.born
    · intro e0 he0
      have h6 : e0.born ∈ es.toList.map (·.born) := by rw [← hb2]; exact List.mem_map.2 ⟨e0, he0, rfl⟩
      obtain ⟨e1, he1, h7⟩ := List.mem_map.1 h6
      rw [← h7]
      exact F.old e1 he1
    · have := F.keys; simpa using this
    · intro c hc
      rcases List.mem_append.1 hc with hc | hc
      · exact F.wf c (List.mem_append_left _ hc)
      · simp at hc; subst hc; exact hx
  · rw [hW2]
    exact ⟨rfl, rfl, rfl, by simp [setBlock], fun i _ hi => heap_setBlock_other hb _ (fun e => hi (by rw [e]))⟩
end

section
variable {w w' : World} {q p g h : Nat} {lm : List UInt8} {base : Int} {n mb : Nat} {cs : List Oc} {off back : Int} {broken : Bool} {taken told : Int} {o : Nat} {es : List (Int × Value)}

/-- A map's block is none of cells. -/
theorem tab_ne {x : Nat} {c : Array Value} {ty : TypeId} {z : Nat × Nat} (t : IsTab w o es) (hx : w.heap[x]? = some (.cells c ty z)) : o ≠ x := by
  rintro rfl
  obtain ⟨e1, e2, e3, _⟩ := t
  rw [hx] at e3
  cases e3

/-- What turns one's own map leaves a queue and its port. -/
theorem Both.beside (s : Both w q p g h lm base n mb cs off back broken taken told) (t : IsTab w o es) (hne : o ≠ mb) (k : w.grownBy w' (some o)) : Both w' q p g h lm base n mb cs off back broken taken told := by
  have hq : o ≠ q := tab_ne t s.qs.at_
  have hp : o ≠ p := tab_ne t s.ps.at_
  have hg : o ≠ g := tab_ne t s.qs.mem.1
  have hh : o ≠ h := tab_ne t s.qs.mem.2
  have keep : ∀ x, x < w.heap.size → o ≠ x → w'.heap[x]? = w.heap[x]? := fun x hx hn => k.block x hx (fun e => hn (by injection e with e; exact e.symm))
  have m : Mem w' g h lm := s.qs.mem.kept k (fun e => hg (by injection e with e; exact e.symm)) (fun e => hh (by injection e with e; exact e.symm))
  refine ⟨{ s.qs with mem := m, at_ := s.qs.at_.kept (keep _ s.qs.lts.1 hq), tab := s.qs.tab.kept (keep _ s.qs.lts.2.2.2 hne), nums := fun x hx => ?_ }, { s.ps with mem := m, at_ := s.ps.at_.kept (keep _ (lt_of_block s.ps.at_) hp) }⟩
  obtain ⟨a1, a2, a3⟩ := s.qs.nums x hx
  refine ⟨a1, fun i hi => ?_, a3⟩
  have hc := a2 i hi
  have hb : o ≠ x.blk := by
    rintro rfl
    obtain ⟨e1, e2, e3, _⟩ := t
    simp [World.cell?, e3] at hc
  rw [World.cell?_of_block (w := w) (a := ⟨x.blk, i, none⟩) (keep _ (World.block_lt_of_cell? w _ hc) hb)]
  exact hc

/-- A queue's calls leave one's own map. -/
theorem IsTab.driver (t : IsTab w o es) (s : Both w q p g h lm base n mb cs off back broken taken told) (hne : o ≠ mb) (tt : Turned (QB q h mb) w w') : IsTab w' o es :=
  t.kept (tt.block _ t.lt (by rintro (e | e | e); exact tab_ne t s.qs.mem.2 e; exact tab_ne t s.qs.at_ e; exact hne e))
theorem IsTab.device (t : IsTab w o es) (s : Both w q p g h lm base n mb cs off back broken taken told) (tt : Turned (fun k => k = h ∨ k = p) w w') : IsTab w' o es :=
  t.kept (tt.block _ t.lt (by rintro (e | e); exact tab_ne t s.qs.mem.2 e; exact tab_ne t s.ps.at_ e))
theorem IsTab.grown (t : IsTab w o es) (k : w.grownBy w' none) : IsTab w' o es := t.kept (k.block _ t.lt (by simp))

/-- Whatever is written into the memory, queue and port stay. -/
theorem Both.wrote (s : Both w q p g h lm base n mb cs off back broken taken told) {lm' : List UInt8} (m : Mem w' g h lm') (k : w.grownBy w' (some h)) (hl : lm'.length = lm.length) : Both w' q p g h lm' base n mb cs off back broken taken told := by
  have t : Turned (fun j => j = h ∨ j = p) w w' := Turned.of k (fun j e => .inl (by injection e with e; exact e.symm))
  refine ⟨s.qs.other s.ps.at_ t m hl, { s.ps with mem := m, len := by rw [hl]; exact s.ps.len, at_ := s.ps.at_.kept (k.block _ (lt_of_block s.ps.at_) (fun e => s.ps.ph (by injection e))), b1 := by rw [hl]; exact s.ps.b1 }⟩
end

end Go.Proofs.YtdchlnffbiooaaaGreatDoor
