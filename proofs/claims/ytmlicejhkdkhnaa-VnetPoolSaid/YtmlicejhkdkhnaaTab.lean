/-
  A map keyed by ints, whose entries are told in the order in which they were put: found, put, deleted, counted, gone through in any order. No program is named here.
-/
import Derived.Maps.RangeWalk
import Derived.KernelRfl
namespace Go.Proofs.Ytmlicejhkdkhnaa
open Go.RowKit Go.ChangeMaps Go.MapKept
open Go.Maps (Keyed)

/-- The entries are these, in the order in which they were put. -/
structure Ents (es : Array MapEntry) (clock : Nat) (cs : List (Int × Value)) : Prop where
  ents : es.toList.map (fun e => (e.key, e.val)) = cs.map (fun c => (Value.int .i64 c.1, c.2))
  born : (es.toList.map (·.born)).Nodup
  old : ∀ e ∈ es.toList, e.born < clock
  keys : (cs.map (·.1)).Nodup
  wf : ∀ c ∈ cs, (Lit.int .i64 c.1).wf = true

/-- Block b is a map that holds these entries. -/
def IsTab (w : World) (b : Nat) (cs : List (Int × Value)) : Prop := ∃ es clock, w.heap[b]? = some (.map es clock) ∧ Ents es clock cs

variable {P : Program} {k t e : TypeId} {w : World} {b : Nat} {cs : List (Int × Value)}

theorem tab_made (w : World) : IsTab (w.alloc (.map #[] 0)) w.heap.size [] := ⟨#[], 0, (MapKept.heap_alloc w _).1, ⟨rfl, List.nodup_nil, by simp, List.nodup_nil, by simp⟩⟩
theorem IsTab.lt (h : IsTab w b cs) : b < w.heap.size := by obtain ⟨es, clock, hb, _⟩ := h; exact (Array.getElem?_eq_some_iff.1 hb).1
theorem IsTab.kept {w' : World} (h : IsTab w b cs) (hb : w'.heap[b]? = w.heap[b]?) : IsTab w' b cs := by obtain ⟨es, clock, h1, h2⟩ := h; exact ⟨es, clock, hb.trans h1, h2⟩

theorem Ents.at_ {es : Array MapEntry} {clock : Nat} (h : Ents es clock cs) {j : Nat} {e : MapEntry} (hj : es.toList[j]? = some e) : ∃ c, cs[j]? = some c ∧ e.key = .int .i64 c.1 ∧ e.val = c.2 := by
  have h1 := congrArg (fun l => l[j]?) h.ents
  simp only [List.getElem?_map, hj, Option.map_some] at h1
  cases hc : cs[j]? with
  | none => rw [hc] at h1; simp at h1
  | some c =>
    rw [hc] at h1
    simp at h1
    exact ⟨c, rfl, h1.1, h1.2⟩
theorem Ents.of_mem {es : Array MapEntry} {clock : Nat} (h : Ents es clock cs) {e : MapEntry} (he : e ∈ es.toList) : ∃ c ∈ cs, e.key = .int .i64 c.1 ∧ e.val = c.2 := by
  obtain ⟨j, hj, rfl⟩ := List.getElem_of_mem he
  obtain ⟨c, hc, h2⟩ := h.at_ (List.getElem?_eq_getElem hj)
  exact ⟨c, List.mem_of_getElem? hc, h2⟩
theorem Ents.length {es : Array MapEntry} {clock : Nat} (h : Ents es clock cs) : es.size = cs.length := by
  have := congrArg List.length h.ents
  simpa using this

theorem Ents.find {es : Array MapEntry} {clock : Nat} (h : Ents es clock cs) (hk : P.underlying k = some (.int .i64)) (w : World) {x : Int} (hx : (Lit.int .i64 x).wf = true) :
    ((Instr.findKey k (.int .i64 x) es.toList).run P w = .ok none w ∧ ∀ c ∈ cs, c.1 ≠ x) ∨ ∃ j v, (Instr.findKey k (.int .i64 x) es.toList).run P w = .ok (some (j, v)) w ∧ cs[j]? = some (x, v) := by
  rcases (Maps.int_keyed hk).find w (Maps.keyOf_int_mk hk hx) es.toList (fun e he => by
    obtain ⟨c, hc, h1, _⟩ := h.of_mem he
    exact ⟨_, by rw [h1]; exact Maps.keyOf_int_mk hk (h.wf c hc)⟩) with ⟨h1, h2⟩ | ⟨j, e0, h1, h2, h3⟩
  · refine .inl ⟨h1, fun c hc hcx => ?_⟩
    obtain ⟨j, hj, rfl⟩ := List.getElem_of_mem hc
    have hl : j < es.toList.length := by have := h.length; simp; omega
    obtain ⟨c', hc', h4, _⟩ := h.at_ (List.getElem?_eq_getElem hl)
    rw [List.getElem?_eq_getElem hj] at hc'
    cases hc'
    exact h2 _ (List.getElem_mem hl) (by rw [h4, hcx])
  · obtain ⟨c, hc, h4, h5⟩ := h.at_ h2
    rw [h3] at h4
    injection h4 with _ h4
    exact .inr ⟨j, e0.val, h1, by rw [hc, h4, h5]⟩

theorem key_one : ∀ {cs : List (Int × Value)} (_ : (cs.map (·.1)).Nodup) {x : Int} {v v' : Value} (_ : (x, v) ∈ cs) (_ : (x, v') ∈ cs), v = v'
  | [], _, x, v, v', h, _ => by simp at h
  | c :: cs, hn, x, v, v', h, h' => by
    simp only [List.map_cons, List.nodup_cons] at hn
    rcases List.mem_cons.1 h with rfl | h0
    · rcases List.mem_cons.1 h' with h1 | h1
      · injection h1 with _ h1; exact h1.symm
      · exact absurd (List.mem_map.2 ⟨_, h1, rfl⟩) hn.1
    · rcases List.mem_cons.1 h' with h1 | h1
      · subst h1
        exact absurd (List.mem_map.2 ⟨(x, v), h0, rfl⟩ : x ∈ cs.map (·.1)) hn.1
      · exact key_one hn.2 h0 h1

theorem tab_check (hk : P.underlying k = some (.int .i64)) (w : World) (em : Bool) {x : Int} (hx : (Lit.int .i64 x).wf = true) : (Instr.checkKey em 10000 k (.int .i64 x)).run P w = .ok () w :=
  (Maps.int_keyed hk).check w em (Maps.keyOf_int_mk hk hx)

/-- 'v, ok := m[k]': nothing there. -/
theorem IsTab.look_no (h : IsTab w b cs) (ht : P.underlying t = some (.map k e)) (hk : P.underlying k = some (.int .i64)) {z : Value} (hz : (zeroValue e).run P w = .ok z w) {x : Int} (hx : (Lit.int .i64 x).wf = true) (hn : ∀ c ∈ cs, c.1 ≠ x) :
    (Instr.lookup t (.map (some b)) (.int .i64 x) true).run P w = .ok (.tuple #[z, .bool false]) w := by
  obtain ⟨es, clock, hb, F⟩ := h
  rcases F.find hk w hx with ⟨h1, _⟩ | ⟨j, v, _, h2⟩
  · simp [Instr.lookup, run_underlying ht, MapKept.run_getObj_map hb, tab_check hk w _ hx, h1, hz, Result.andThen]
  · exact absurd rfl (hn _ (List.mem_of_getElem? h2))
/-- .. there. -/
theorem IsTab.look_yes (h : IsTab w b cs) (ht : P.underlying t = some (.map k e)) (hk : P.underlying k = some (.int .i64)) {x : Int} {v : Value} (hc : (x, v) ∈ cs) :
    (Instr.lookup t (.map (some b)) (.int .i64 x) true).run P w = .ok (.tuple #[v, .bool true]) w := by
  obtain ⟨es, clock, hb, F⟩ := h
  have hx := F.wf _ hc
  rcases F.find hk w hx with ⟨_, h1⟩ | ⟨j, v', h1, h2⟩
  · exact absurd rfl (h1 _ hc)
  · have e1 : v' = v := by
      exact key_one F.keys (List.mem_of_getElem? h2) hc
    subst e1
    simp [Instr.lookup, run_underlying ht, MapKept.run_getObj_map hb, tab_check hk w _ hx, h1, Result.andThen]

/-- 'm[k] = v' at a key that is not there. -/
theorem IsTab.add (h : IsTab w b cs) (ht : P.underlying t = some (.map k e)) (hk : P.underlying k = some (.int .i64)) {x : Int} (hx : (Lit.int .i64 x).wf = true) (hn : ∀ c ∈ cs, c.1 ≠ x) (v : Value) :
    ∃ w', (Instr.mapUpdate t (.map (some b)) (.int .i64 x) v).run P w = .ok () w' ∧ IsTab w' b (cs ++ [(x, v)]) ∧ w.grownBy w' (some b) := by
  obtain ⟨es, clock, hb, F⟩ := h
  rcases F.find hk w hx with ⟨h1, _⟩ | ⟨j, v', _, h2⟩
  · refine ⟨setBlock w b (.map (es.push { key := .int .i64 x, val := v, born := clock }) (clock + 1)), by simp [Instr.mapUpdate, run_underlying ht, MapKept.run_getObj_map hb, tab_check hk w _ hx, h1, MapKept.run_setObj_map _ hb, Result.andThen, setBlock], ⟨_, _, heap_setBlock_same hb _, ?_⟩, ⟨rfl, rfl, rfl, by simp [setBlock], fun i _ hi => heap_setBlock_other hb _ (fun e => hi (by rw [e]))⟩⟩
    have F2 := F.length
    refine ⟨?_, ?_, ?_, ?_, ?_⟩
    · simp [F.ents]
    · simp only [Array.toList_push, List.map_append, List.map_cons, List.map_nil]
      rw [List.nodup_append]
      refine ⟨F.born, by simp, ?_⟩
      intro a ha c hc
      obtain ⟨e0, he0, rfl⟩ := List.mem_map.1 ha
      have := F.old e0 he0
      simp at hc
      omega
    · intro e0 he0
      simp only [Array.toList_push, List.mem_append, List.mem_singleton] at he0
      rcases he0 with he0 | rfl
      · have := F.old e0 he0; omega
      · exact Nat.lt_succ_self _
    · rw [List.map_append, List.nodup_append]
      refine ⟨F.keys, by simp, ?_⟩
      intro a ha c hc
      obtain ⟨c0, hc0, rfl⟩ := List.mem_map.1 ha
      simp at hc
      subst hc
      exact hn c0 hc0
    · intro c hc
      rcases List.mem_append.1 hc with hc | hc
      · exact F.wf c hc
      · simp at hc; subst hc; exact hx
  · exact absurd rfl (hn _ (List.mem_of_getElem? h2))

theorem erase_key : ∀ {cs : List (Int × Value)} (_ : (cs.map (·.1)).Nodup) {j : Nat} {x : Int} {v : Value} (_ : cs[j]? = some (x, v)), cs.eraseIdx j = cs.filter fun c => c.1 != x
  | [], _, j, x, v, h => by simp at h
  | c :: cs, hn, 0, x, v, h => by
    simp at h
    subst h
    simp only [List.map_cons, List.nodup_cons] at hn
    simp only [List.eraseIdx_zero, List.tail_cons, bne_self_eq_false, Bool.false_eq_true, not_false_eq_true, List.filter_cons_of_neg]
    refine (List.filter_eq_self.2 fun d hd => ?_).symm
    have : d.1 ≠ x := fun e => hn.1 (List.mem_map.2 ⟨d, hd, e⟩)
    simpa using this
  | c :: cs, hn, j + 1, x, v, h => by
    simp only [List.map_cons, List.nodup_cons] at hn
    simp at h
    have hm : (x, v) ∈ cs := List.mem_of_getElem? h
    have hc : c.1 ≠ x := fun e => hn.1 (List.mem_map.2 ⟨_, hm, e.symm⟩)
    rw [List.eraseIdx_cons_succ, List.filter_cons_of_pos (by simpa using hc), erase_key hn.2 h]

/-- 'delete(m, k)'. -/
theorem IsTab.drop (h : IsTab w b cs) (ht : P.underlying t = some (.map k e)) (hk : P.underlying k = some (.int .i64)) {x : Int} (hx : (Lit.int .i64 x).wf = true) (ty : TypeId) :
    ∃ w', (Builtin.delete_ #[t, k] ty #[.map (some b), .int .i64 x]).run P w = .ok (.tuple #[]) w' ∧ IsTab w' b (cs.filter fun c => c.1 != x) ∧ w.grownBy w' (some b) := by
  obtain ⟨es, clock, hb, F⟩ := h
  have hg : ∀ o, w.grownBy (setBlock w b o) (some b) := fun o => ⟨rfl, rfl, rfl, by simp [setBlock], fun i _ hi => heap_setBlock_other hb _ (fun e => hi (by rw [e]))⟩
  rcases F.find hk w hx with ⟨h1, h2⟩ | ⟨j, v', h1, h2⟩
  · refine ⟨setBlock w b (.map es clock), ?_, ⟨es, clock, heap_setBlock_same hb _, ?_⟩, hg _⟩
    · simp [Builtin.delete_, run_underlying ht, MapKept.run_getObj_map hb, tab_check hk w _ hx, h1, MapKept.run_setObj_map _ hb, Result.andThen, setBlock]
    · rw [List.filter_eq_self.2 fun d hd => by simpa using h2 d hd]
      exact F
  · refine ⟨setBlock w b (.map (es.eraseIdxIfInBounds j) clock), ?_, ⟨_, clock, heap_setBlock_same hb _, ?_⟩, hg _⟩
    · simp [Builtin.delete_, run_underlying ht, MapKept.run_getObj_map hb, tab_check hk w _ hx, h1, MapKept.run_setObj_map _ hb, Result.andThen, setBlock]
    · have hjs : j < es.size := by
        have := (List.getElem?_eq_some_iff.1 h2).1
        have := F.length
        omega
      have hsub : (es.eraseIdxIfInBounds j).toList = es.toList.eraseIdx j := by
        unfold Array.eraseIdxIfInBounds
        rw [dif_pos hjs]
        simp
      rw [← erase_key F.keys h2]
      refine ⟨?_, ?_, ?_, ?_, ?_⟩
      · rw [hsub, map_eraseIdx, map_eraseIdx, F.ents]
      · rw [hsub, map_eraseIdx]
        exact List.Sublist.nodup (List.eraseIdx_sublist _ _) F.born
      · intro e0 he0
        rw [hsub] at he0
        exact F.old e0 ((List.eraseIdx_sublist _ _).subset he0)
      · rw [map_eraseIdx]
        exact List.Sublist.nodup (List.eraseIdx_sublist _ _) F.keys
      · intro c hc
        exact F.wf c ((List.eraseIdx_sublist _ _).subset hc)

/-- 'len(m)'. -/
theorem IsTab.len (h : IsTab w b cs) (ht : P.underlying t = some (.map k e)) (ty : TypeId) : (Builtin.len_ #[t] ty #[.map (some b)]).run P w = .ok (.int .i64 cs.length) w := by
  obtain ⟨es, clock, hb, F⟩ := h
  simp [Builtin.len_, run_underlying ht, MapKept.run_getObj_map hb, goInt, Result.andThen, F.length]

/-- 'for k, v := range m' under way: block r is an iterator over the map in block b, and these entries are still to come. -/
def TabIter (w : World) (b r : Nat) (cs left : List (Int × Value)) : Prop :=
  ∃ es clock since seen c0, w.heap[b]? = some (.map es clock) ∧ Ents es clock cs ∧ w.heap[r]? = some (.mapIter (some b) since seen c0) ∧ (∀ x ∈ es.toList, x.born < since) ∧ since ≤ c0 ∧ since ≤ clock ∧
    (leftOf es seen).toList.map (fun e => (e.key, e.val)) = left.map (fun c => (Value.int .i64 c.1, c.2)) ∧ ∀ c ∈ left, c ∈ cs

theorem TabIter.tab {r : Nat} {left : List (Int × Value)} (h : TabIter w b r cs left) : IsTab w b cs := by obtain ⟨es, clock, _, _, _, h1, h2, _⟩ := h; exact ⟨es, clock, h1, h2⟩
theorem TabIter.lt {r : Nat} {left : List (Int × Value)} (h : TabIter w b r cs left) : r < w.heap.size := by obtain ⟨es, clock, _, _, _, _, _, h3, _⟩ := h; exact (Array.getElem?_eq_some_iff.1 h3).1
theorem TabIter.ne {r : Nat} {left : List (Int × Value)} (h : TabIter w b r cs left) : r ≠ b := by
  obtain ⟨es, clock, since, seen, c0, hb, _, hr, _⟩ := h
  intro e
  rw [e, hb] at hr
  cases hr
theorem TabIter.kept {w' : World} {r : Nat} {left : List (Int × Value)} (h : TabIter w b r cs left) (hb : w'.heap[b]? = w.heap[b]?) (hr : w'.heap[r]? = w.heap[r]?) : TabIter w' b r cs left := by
  obtain ⟨es, clock, since, seen, c0, h1, h2, h3, h4⟩ := h
  exact ⟨es, clock, since, seen, c0, hb.trans h1, h2, hr.trans h3, h4⟩

/-- 'range m'. -/
theorem IsTab.range (h : IsTab w b cs) (ht : P.underlying t = some (.map k e)) :
    ∃ w', (Instr.range t (.map (some b))).run P w = .ok (.pointer (some ⟨w.heap.size, 0, none⟩)) w' ∧ TabIter w' b w.heap.size cs cs ∧ w.grownBy w' none ∧ w'.heap.size = w.heap.size + 1 := by
  have hlt := h.lt
  obtain ⟨es, clock, hb, F⟩ := h
  refine ⟨_, run_range_map w t k e b es clock ht hb, ⟨es, clock, clock, #[], clock, ((MapKept.heap_alloc w _).2 b hlt).trans hb, F, (MapKept.heap_alloc w _).1, F.old, Nat.le_refl _, Nat.le_refl _, ?_, fun _ h => h⟩, World.grownBy_alloc w _ none, by simp⟩
  rw [← F.ents]
  congr 1
  simp [leftOf]

theorem filter_strike (seen : Array Nat) : ∀ (l : List MapEntry) (_ : (l.map (·.born)).Nodup) (e : MapEntry) (_ : e ∈ l) (_ : seen.contains e.born = false),
    (l.filter fun x => !seen.contains x.born).Perm (e :: l.filter fun x => !(seen.push e.born).contains x.born) := by
  intro l hn e he hs
  induction l with
  | nil => simp at he
  | cons a l ih =>
    simp only [List.map_cons, List.nodup_cons] at hn
    by_cases hae : a.born = e.born
    · have hea : e = a := by
        rcases List.mem_cons.1 he with h | h
        · exact h
        · exact absurd (List.mem_map.2 ⟨e, h, hae.symm⟩) hn.1
      subst hea
      rw [List.filter_cons_of_pos (by rw [hs]; rfl), List.filter_cons_of_neg (by simp)]
      have : (l.filter fun x => !(seen.push e.born).contains x.born) = l.filter fun x => !seen.contains x.born := by
        refine List.filter_congr fun x hx => ?_
        have : x.born ≠ e.born := fun h => hn.1 (List.mem_map.2 ⟨x, hx, h⟩)
        rw [contains_push]
        simp [this]
      rw [this]
    · have he' : e ∈ l := by
        rcases List.mem_cons.1 he with h | h
        · exact absurd (by rw [h]) hae
        · exact h
      have hc : (seen.push e.born).contains a.born = seen.contains a.born := by rw [contains_push]; simp [hae]
      cases hsa : seen.contains a.born with
      | true =>
        rw [List.filter_cons_of_neg (by simp only [hsa]; decide), List.filter_cons_of_neg (by rw [hc, hsa]; decide)]
        exact ih hn.2 he'
      | false =>
        rw [List.filter_cons_of_pos (by simp only [hsa]; decide), List.filter_cons_of_pos (by rw [hc, hsa]; decide)]
        exact ((ih hn.2 he').cons a).trans (List.Perm.swap _ _ _)

/-- The step: nothing is left; or one of those that are left comes out. -/
theorem TabIter.next {r : Nat} {left : List (Int × Value)} (h : TabIter w b r cs left) (ty : TypeId) :
    (left = [] ∧ (Instr.next (.pointer (some ⟨r, 0, none⟩)) false ty).run P w = .ok (.tuple #[.bool false]) w) ∨
    ∃ x v left' w', left.Perm ((x, v) :: left') ∧ (x, v) ∈ cs ∧ left'.length < left.length ∧ (Instr.next (.pointer (some ⟨r, 0, none⟩)) false ty).run P w = .ok (.tuple #[.bool true, .int .i64 x, v]) w' ∧
      TabIter w' b r cs left' ∧ w.grownBy w' (some r) ∧ w'.heap.size = w.heap.size ∧ (Instr.entry (.pointer (some ⟨r, 0, none⟩))).run P w' = .ok (.tuple #[.int .i64 x, v]) w' := by
  have hne := h.ne
  obtain ⟨es, clock, since, seen, c0, hb, F, hr, hold, hsc, hsk, hl, hsub⟩ := h
  rcases run_next_at (P := P) w ty r b since c0 seen es clock hr hb hold hsc with ⟨h0, hrun⟩ | ⟨e, he, w1, hal, hrun⟩
  · refine .inl ⟨?_, hrun⟩
    have : leftOf es seen = #[] := Array.eq_empty_of_size_eq_zero h0
    rw [this] at hl
    simpa using hl.symm
  · obtain ⟨hem, hes⟩ := mem_left he
    obtain ⟨c, hc, hck, hcv⟩ := F.of_mem hem
    have hr1 : w1.heap[r]? = some (.mapIter (some b) since seen c0) := by rcases hal with rfl | rfl <;> exact hr
    have hb1 : w1.heap[b]? = some (.map es clock) := by rcases hal with rfl | rfl <;> exact hb
    have hset := heap_set (o' := .mapIter (some b) since (seen.push e.born) clock) hr1
    have hb' : (setBlock w1 r (.mapIter (some b) since (seen.push e.born) clock)).heap[b]? = some (.map es clock) := (hset.2 b (fun e1 => hne e1.symm)).trans hb1
    have hp := (filter_strike seen es.toList F.born e hem hes).map fun e => (e.key, e.val)
    have hl1 : ((es.toList.filter fun x => !seen.contains x.born).map fun e => (e.key, e.val)) = left.map (fun c => (Value.int .i64 c.1, c.2)) := by rw [← hl]; simp [leftOf]
    rw [hl1] at hp
    -- what is left behind the step, as pairs
    have hall : ∀ y ∈ (es.toList.filter fun x => !(seen.push e.born).contains x.born), ∃ d ∈ cs, y.key = .int .i64 d.1 ∧ y.val = d.2 := fun y hy => F.of_mem (List.mem_filter.1 hy).1
    obtain ⟨left', hleft', hsub'⟩ : ∃ left' : List (Int × Value), ((es.toList.filter fun x => !(seen.push e.born).contains x.born).map fun e => (e.key, e.val)) = left'.map (fun c => (Value.int .i64 c.1, c.2)) ∧ ∀ c ∈ left', c ∈ cs := by
      generalize (es.toList.filter fun x => !(seen.push e.born).contains x.born) = L at hall
      clear hp
      induction L with
      | nil => exact ⟨[], rfl, by simp⟩
      | cons y L ih =>
        obtain ⟨l', h1, h2⟩ := ih fun z hz => hall z (List.mem_cons_of_mem _ hz)
        obtain ⟨d, hd, h3, h4⟩ := hall y (List.mem_cons_self ..)
        exact ⟨d :: l', by rw [List.map_cons, List.map_cons, h1, h3, h4], fun z hz => by rcases List.mem_cons.1 hz with rfl | hz; exact hd; exact h2 z hz⟩
    have hp2 : left.Perm ((c.1, c.2) :: left') := by
      rw [List.map_cons, hleft', hck, hcv] at hp
      have hq := hp.map fun p : Value × Value => ((match p.1 with | .int _ n => n | _ => 0), p.2)
      simpa [List.map_map, Function.comp_def] using hq
    refine .inr ⟨c.1, c.2, left', _, hp2, hc, by have := hp2.length_eq; simp at this; omega, by rw [hrun, hck, hcv], ⟨es, clock, since, seen.push e.born, clock, hb', F, hset.1, hold, hsk, hsk, ?_, hsub'⟩, ?_, ?_, ?_⟩
    · rw [← hleft']; simp [leftOf]
    · rcases hal with rfl | rfl <;> exact ⟨rfl, rfl, rfl, by simp [setBlock], fun i _ hi => hset.2 i (fun e1 => hi (by rw [e1]))⟩
    · rcases hal with rfl | rfl <;> simp [setBlock]
    · have := run_entry_at (P := P) _ r b since seen es clock e hset.1 hb' hem F.born
      rw [hck, hcv] at this
      exact this

section
variable (w : World) {ops : Array Oper} {rest : List Oper} {o : Oper} {a : Act} {Q : Exit → Act → World → Prop}
/-- 'v, ok := m[k]' at the operation. -/
theorem wpList_lookup_tab (hg : o.guard = none) (m x : Operand) (t : TypeId) (hop : o.op = Op.lookup t m x true) (b : Nat) (k : Int) (v : Value) (ok : Bool)
    (hm : a.eval m = .map (some b)) (hx : a.eval x = .int .i64 k) (hrun : (Instr.lookup t (.map (some b)) (.int .i64 k) true).run P w = .ok (.tuple #[v, .bool ok]) w)
    (hK : wpList P ops Q rest (a.put o.dst (.tuple #[v, .bool ok])) w) : wpList P ops Q (o :: rest) a w := by
  refine wpList_plain hg fun K' hK' => ?_
  unfold Oper.wp
  simp [execOp, hop, hm, hx, hrun, Result.andThen]
  exact hK' _ _ hK
/-- 'm[k] = v' at the operation. -/
theorem wpList_mapUpdate_tab (hg : o.guard = none) (m x v : Operand) (t : TypeId) (hop : o.op = Op.mapUpdate t m x v) (kt et : TypeId) (ht : P.underlying t = some (.map kt et)) (hk : P.underlying kt = some (.int .i64)) (b : Nat) (k : Int) (u : Value) (cs : List (Int × Value))
    (h : IsTab w b cs) (hwf : (Lit.int .i64 k).wf = true) (hn : ∀ c ∈ cs, c.1 ≠ k) (hm : a.eval m = .map (some b)) (hx : a.eval x = .int .i64 k) (hv : a.eval v = u)
    (hK : ∀ w', IsTab w' b (cs ++ [(k, u)]) → w.grownBy w' (some b) → wpList P ops Q rest (a.put o.dst undef) w') : wpList P ops Q (o :: rest) a w := by
  refine wpList_plain hg fun K' hK' => ?_
  obtain ⟨w', hrun, r1, r2⟩ := h.add ht hk hwf hn u
  unfold Oper.wp
  simp [execOp, hop, hm, hx, hv, hrun, Result.andThen]
  exact hK' _ _ (hK w' r1 r2)
/-- 'delete(m, k)' at the operation. -/
theorem wpList_delete_tab (hg : o.guard = none) (m x : Operand) (t kt : TypeId) (hop : o.op = Op.call { callee := Callee.builtin Builtin.delete, args := #[m, x], argTypes := #[t, kt] }) (et : TypeId) (ht : P.underlying t = some (.map kt et)) (hk : P.underlying kt = some (.int .i64)) (b : Nat) (k : Int) (cs : List (Int × Value))
    (h : IsTab w b cs) (hwf : (Lit.int .i64 k).wf = true) (hm : a.eval m = .map (some b)) (hx : a.eval x = .int .i64 k)
    (hK : ∀ w', IsTab w' b (cs.filter fun c => c.1 != k) → w.grownBy w' (some b) → wpList P ops Q rest (a.put o.dst (.tuple #[])) w') : wpList P ops Q (o :: rest) a w := by
  refine wpList_plain hg fun K' hK' => ?_
  obtain ⟨w', hrun, r1, r2⟩ := h.drop ht hk hwf o.type
  unfold Oper.wp
  simp [execOp, hop, resolve, invoke, builtin, hm, hx, hrun, Result.andThen]
  exact hK' _ _ (hK w' r1 r2)
/-- 'len(m)' at the operation. -/
theorem wpList_len_tab (hg : o.guard = none) (m : Operand) (t : TypeId) (hop : o.op = Op.call { callee := Callee.builtin Builtin.len, args := #[m], argTypes := #[t] }) (kt et : TypeId) (ht : P.underlying t = some (.map kt et)) (b : Nat) (cs : List (Int × Value))
    (h : IsTab w b cs) (hm : a.eval m = .map (some b))
    (hK : wpList P ops Q rest (a.put o.dst (.int .i64 cs.length)) w) : wpList P ops Q (o :: rest) a w := by
  refine wpList_plain hg fun K' hK' => ?_
  unfold Oper.wp
  simp [execOp, hop, resolve, invoke, builtin, hm, h.len ht o.type, Result.andThen]
  exact hK' _ _ hK
/-- 'range m' at the operation. -/
theorem wpList_range_tab (hg : o.guard = none) (m : Operand) (t : TypeId) (hop : o.op = Op.range t m) (kt et : TypeId) (ht : P.underlying t = some (.map kt et)) (b : Nat) (cs : List (Int × Value))
    (h : IsTab w b cs) (hm : a.eval m = .map (some b))
    (hK : ∀ w', TabIter w' b w.heap.size cs cs → w.grownBy w' none → w'.heap.size = w.heap.size + 1 → wpList P ops Q rest (a.put o.dst (.pointer (some ⟨w.heap.size, 0, none⟩))) w') : wpList P ops Q (o :: rest) a w := by
  refine wpList_plain hg fun K' hK' => ?_
  obtain ⟨w', hrun, r1, r2, r3⟩ := h.range ht
  unfold Oper.wp
  simp [execOp, hop, hm, hrun, Result.andThen]
  exact hK' _ _ (hK w' r1 r2 r3)
/-- The step at the operation; 'mk' says the entries' shape. -/
theorem wpList_next_tab {β : Type} (mk : β → Value) (hg : o.guard = none) (it : Operand) (hop : o.op = Op.next it false) (b r : Nat) (cs left : List (Int × Value)) (hit : a.eval it = .pointer (some ⟨r, 0, none⟩)) (h : TabIter w b r cs left) (hmk : ∀ c ∈ cs, ∃ y, c.2 = mk y)
    (hDone : left = [] → wpList P ops Q rest (a.put o.dst (.tuple #[.bool false])) w)
    (hMore : ∀ (x : Int) (y : β) (left' : List (Int × Value)) (w' : World), left.Perm ((x, mk y) :: left') → (x, mk y) ∈ cs → left'.length < left.length → TabIter w' b r cs left' → w.grownBy w' (some r) → w'.heap.size = w.heap.size →
      (Instr.entry (.pointer (some ⟨r, 0, none⟩))).run P w' = .ok (.tuple #[.int .i64 x, mk y]) w' → wpList P ops Q rest (a.put o.dst (.tuple #[.bool true, .int .i64 x, mk y])) w') : wpList P ops Q (o :: rest) a w := by
  refine wpList_plain hg fun K' hK' => ?_
  unfold Oper.wp
  rcases h.next (P := P) o.type with ⟨h0, hrun⟩ | ⟨x, v, left', w', h1, h2, h3, hrun, h4, h5, h6, h7⟩
  · simp [execOp, hop, hit, hrun, Result.andThen]
    exact hK' _ _ (hDone h0)
  · obtain ⟨y, hy⟩ := hmk _ h2
    have hy' : v = mk y := hy
    subst hy'
    simp [execOp, hop, hit, hrun, Result.andThen]
    exact hK' _ _ (hMore x y left' w' h1 h2 h3 h4 h5 h6 h7)
end

end Go.Proofs.Ytmlicejhkdkhnaa
