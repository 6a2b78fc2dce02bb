/-
  Layer 8: a joiner of which one datagram is written anew; what Put leaves, as lists. Conditions: as said.
-/
import Derived.Test.YtbjoibgkhooljaaJoG
namespace Go.Proofs.Ytbjoibgkhooljaa
open Go.RowKit Go.Sort Go.Shelf
set_option linter.unusedVariables false

section
variable {w w2 : World} {g : Nat} {lim : Int} {v : Value} {l : List Dg}
theorem Jo.apart (h : Jo w g lim v l) {i j : Nat} (hi : i < l.length) (hj : j < l.length) (hn : i ≠ j) : ∀ k, l[i].pv.ownBlock = some k → l[j].pv.ownBlock ≠ some k := fun k hk e => by
  have := List.pairwise_iff_getElem.1 h.ap
  rcases Nat.lt_or_gt_of_ne hn with hlt | hlt
  · exact this i j hi hj hlt k hk e
  · exact this j i hj hi hlt k e hk
theorem mem_set_cases {α : Type} {l : List α} {i : Nat} {y x : α} (hi : i < l.length) (h : x ∈ l.set i y) : x = y ∨ ∃ j, ∃ hj : j < l.length, j ≠ i ∧ x = l[j] := by
  obtain ⟨j, hj, rfl⟩ := List.mem_iff_getElem.1 h
  rw [List.length_set] at hj
  by_cases e : i = j
  · subst e; exact .inl (by simp)
  · exact .inr ⟨j, hj, Ne.symm e, by rw [List.getElem_set_ne e]⟩
/-- One datagram is written anew: its pieces, wherever they lie now, and one cell of it. -/
theorem Jo.put1 (h : Jo w g lim v l) {i : Nat} (hi : i < l.length) {b cap : Nat} (hv : v = .slice (some ⟨b, 0, none⟩) l.length cap) (t : Turn w w2 (fun k => l[i].pv.ownBlock = some k)) (d2 : Dg) (j : Nat) (hj : j < 13) (u : Value) (he : dgE d2 = (dgE l[i]).set j u)
    (hr : PcRow w2 d2.pv d2.ps) (hb : ∀ k, d2.pv.ownBlock = some k → l[i].pv.ownBlock = some k ∨ w.heap.size ≤ k) :
    w2.cell? ⟨b, i * 13 + j, none⟩ = (dgE l[i])[j]? ∧ w2.frozen? ⟨b, i * 13 + j, none⟩ = false ∧ JoT w (w2.setCell ⟨b, i * 13 + j, none⟩ u) g lim v l v (l.set i d2) := by
  have hvb : v.ownBlock = some b := by rw [hv]; rfl
  have hbl : b < w.heap.size := (h.row.lt b hvb).2
  have hpi := h.ps l[i] (List.getElem_mem hi)
  have hbk : w2.heap[b]? = w.heap[b]? := t.block b hbl (fun e => (hpi.2 b e).2 hvb)
  have hgk : w2.heap[g]? = w.heap[g]? := t.block g h.lt (fun e => (hpi.2 g e).1 rfl)
  have hrow2 : DgRow w2 v l := h.row.kept t.size (fun k hk => by
    rw [hvb] at hk; injection hk with hk; subst hk; exact hbk)
  have hset : ∀ k, k ≠ b → (w2.setCell ⟨b, i * 13 + j, none⟩ u).heap[k]? = w2.heap[k]? := fun k hk => Below.heap_setCell _ _ _ _ hk
  have hsz : (w2.setCell ⟨b, i * 13 + j, none⟩ u).heap.size = w2.heap.size := by simp [World.setCell]
  have hgb : g ≠ b := fun e => h.ne b hvb e.symm
  have hd2b : ∀ k, d2.pv.ownBlock = some k → k ≠ b ∧ k ≠ g := fun k hk => by
    rcases hb k hk with e | e
    · exact ⟨fun e2 => (hpi.2 k e).2 (by rw [hvb, e2]), (hpi.2 k e).1⟩
    · have := h.lt
      exact ⟨by omega, by omega⟩
  obtain ⟨b', cap', hv', _, _, _, hfz, hE⟩ := RowA.elem dgE_len hrow2 (by omega)
  rw [hv] at hv'
  injection hv' with hv' _ hc; injection hv' with hv'; injection hv' with hv'
  subst hv' hc
  refine ⟨?_, hfz _, ⟨?_, ?_, h.ne, fun x hx => ?_, ?_⟩, ?_, fun k hk => ?_⟩
  · have hjl : j < (dgE l[i]).length := by rw [dgE_len]; exact hj
    rw [List.getElem?_eq_getElem hjl]
    exact hE i hi j _ (List.getElem?_eq_getElem hjl)
  · rw [hset g hgb]; exact hgk.trans h.at_
  · have h1 : DgRow w2 (.slice (some ⟨b, 0, none⟩) l.length cap) l := by rw [← hv]; exact hrow2
    have := RowA.set1 dgE_len (i := i) (j := j) h1 hi hj d2 u he
    rw [hv]; exact this
  · rcases mem_set_cases hi hx with rfl | ⟨k, hk, hki, rfl⟩
    · exact ⟨hr.kept (Nat.le_of_eq hsz.symm) (fun k hk => hset k (hd2b k hk).1), fun k hk => ⟨(hd2b k hk).2, fun e => (hd2b k hk).1 (by rw [hvb] at e; injection e with e; exact e.symm)⟩⟩
    · obtain ⟨p1, p2⟩ := h.ps l[k] (List.getElem_mem hk)
      refine ⟨p1.kept (by rw [hsz]; exact t.size) (fun m hm => ?_), p2⟩
      rw [hset m (fun e => (p2 m hm).2 (by rw [hvb, e]))]
      exact t.block m (p1.lt m hm).2 (fun e => h.apart hi hk (Ne.symm hki) m e hm)
  · rw [List.pairwise_iff_getElem]
    intro a c ha hc hac k hk e
    rw [List.length_set] at ha hc
    rw [List.getElem_set] at hk e
    have hb2 : ∀ m (hm : m < l.length), m ≠ i → d2.pv.ownBlock = some k → l[m].pv.ownBlock = some k → False := fun m hm hmi h1 h2 => by
      rcases hb k h1 with e3 | e3
      · exact h.apart hi hm (Ne.symm hmi) k e3 h2
      · have := ((h.ps l[m] (List.getElem_mem hm)).1.lt k h2).2; omega
    by_cases e1 : i = a
    · rw [if_pos e1] at hk
      have e2 : ¬ i = c := by omega
      rw [if_neg e2] at e
      exact hb2 c hc (Ne.symm e2) hk e
    · rw [if_neg e1] at hk
      by_cases e2 : i = c
      · rw [if_pos e2] at e
        exact hb2 a ha (Ne.symm e1) e hk
      · rw [if_neg e2] at e
        exact h.apart ha hc (by omega) k hk e
  · refine Turn.setCell (O := JoO g v l) (t.mono (fun m _ e => .inr (.inr ⟨_, List.getElem_mem hi, e⟩))) (.inr (.inl hvb)) _ _
  · rcases hk with rfl | hk | ⟨x, hx, hk⟩
    · exact .inl (.inl rfl)
    · exact .inl (.inr (.inl hk))
    · rcases mem_set_cases hi hx with rfl | ⟨m, hm, hmi, rfl⟩
      · exact (hb k hk).imp (fun e => .inr (.inr ⟨_, List.getElem_mem hi, e⟩)) id
      · exact .inl (.inr (.inr ⟨_, List.getElem_mem hm, hk⟩))
/-- A piece is appended to those of one datagram. -/
theorem Jo.pieced {x : Pc} {p' : Option Addr} {n' c' : Nat} {o : Obj} (h : Jo w g lim v l) {i : Nat} (hi : i < l.length) {b cap : Nat} (hv : v = .slice (some ⟨b, 0, none⟩) l.length cap) (hg : (w.drew.alloc o).grownBy w2 l[i].pv.ownBlock) (hr : PcRow w2 (.slice p' n' c') (l[i].ps ++ [x])) (hn : n' = (l[i].ps ++ [x]).length)
    (hb : (Value.slice p' n' c').ownBlock = l[i].pv.ownBlock ∨ (Value.slice p' n' c').ownBlock = some (w.drew.alloc o).heap.size) :
    w2.cell? ⟨b, i * 13 + 12, none⟩ = some (.slice l[i].pp l[i].ps.length l[i].pc) ∧ w2.frozen? ⟨b, i * 13 + 12, none⟩ = false ∧ JoT w (w2.setCell ⟨b, i * 13 + 12, none⟩ (.slice p' n' c')) g lim v l v (l.set i ⟨l[i].nm, l[i].age, l[i].ttl, p', c', l[i].ps ++ [x]⟩) := by
  subst hn
  have a2 := World.grownBy_alloc w.drew o none
  have hsz : w.heap.size < w2.heap.size := by have := hg.size; simp at this; omega
  have t : Turn w w2 (fun k => l[i].pv.ownBlock = some k) := ⟨hg.os.trans a2.os, hg.tape.trans a2.tape, hg.output.trans a2.output, Nat.le_of_lt hsz, fun k hk hn => by
    rw [hg.block k (by simp; omega) (fun e => hn e.symm)]
    exact a2.block k hk (by simp)⟩
  exact h.put1 hi hv t ⟨l[i].nm, l[i].age, l[i].ttl, p', c', l[i].ps ++ [x]⟩ 12 (by decide) _ rfl hr (fun k hk => by
    have hk : (Value.slice p' (l[i].ps ++ [x]).length c').ownBlock = some k := hk
    rcases hb with e | e
    · exact .inl (by rw [← e]; exact hk)
    · rw [e] at hk; injection hk with hk; subst hk
      exact .inr (by simp))
theorem Jo.ttled (h : Jo w g lim v l) {i : Nat} (hi : i < l.length) {b cap : Nat} (hv : v = .slice (some ⟨b, 0, none⟩) l.length cap) (T : Int) :
    w.cell? ⟨b, i * 13 + 11, none⟩ = some (.int .i64 l[i].ttl) ∧ w.frozen? ⟨b, i * 13 + 11, none⟩ = false ∧ JoT w (w.setCell ⟨b, i * 13 + 11, none⟩ (.int .i64 T)) g lim v l v (l.set i ⟨l[i].nm, l[i].age, T, l[i].pp, l[i].pc, l[i].ps⟩) :=
  h.put1 hi hv (Turn.refl _ _) ⟨l[i].nm, l[i].age, T, l[i].pp, l[i].pc, l[i].ps⟩ 11 (by decide) _ rfl (h.ps l[i] (List.getElem_mem hi)).1 (fun k hk => .inl hk)
end

def nmOf (f : Pd) : Nm := ⟨f.sr, f.ds, UInt8.ofNat f.pr.toNat, UInt16.ofNat f.id.toNat⟩
def pcOf (f : Pd) : Pc := ⟨f.ps, f.da, f.mo⟩
/-- Where the datagram of a name stands, by lists. -/
def begA (s : Nm) (L : List Da) : List Da × Nat :=
  if L.findIdx (fun x => decide (x.nm = s)) < L.length then (L, L.findIdx (fun x => decide (x.nm = s)))
  else ((if L.length = 4 then L.eraseIdx 0 else L) ++ [⟨s, 0, 0, []⟩], (if L.length = 4 then L.eraseIdx 0 else L).length)
/-- A piece comes to a datagram that stands at a place. -/
def putI (f : Pd) (L : List Da) (i : Nat) (d : Da) : Pd × Bool × List Da :=
  if pcOf f ∈ d.ps then (pdZ, false, L)
  else if mayP d.ps (pcOf f) = false then (pdZ, false, L.eraseIdx i)
  else if wholeP (d.ps ++ [pcOf f]) then (wholeD ⟨d.nm, d.age, if f.ps = 0 then f.tl else d.ttl, d.ps ++ [pcOf f]⟩, true, L.eraseIdx i)
  else (pdZ, false, L.set i ⟨d.nm, d.age, if f.ps = 0 then f.tl else d.ttl, d.ps ++ [pcOf f]⟩)
/-- What Put answers and leaves. -/
def putA (f : Pd) (L : List Da) : Pd × Bool × List Da :=
  if mayB f = false then (pdZ, false, L)
  else if f.ps = 0 ∧ f.mo = false then (f, true, L)
  else match (begA (nmOf f) L).1[(begA (nmOf f) L).2]? with
    | none => (pdZ, false, L)
    | some d => putI f (begA (nmOf f) L).1 (begA (nmOf f) L).2 d
theorem map_erase {α β : Type} (f : α → β) : ∀ (l : List α) (i : Nat), (l.eraseIdx i).map f = (l.map f).eraseIdx i
  | [], _ => rfl
  | _ :: _, 0 => rfl
  | x :: l, i + 1 => by simp [map_erase f l i]
theorem begA_of {s : Nm} {l l' : List Dg} {i : Nat} (h : BegunL s l l' i) : begA s (l.map Dg.da) = (l'.map Dg.da, i) ∧ i < l'.length := by
  rcases h with ⟨rfl, hi, hs, hf⟩ | ⟨hno, rfl, rfl⟩
  · have e : (l'.map Dg.da).findIdx (fun x => decide (x.nm = s)) = i := by
      rw [List.findIdx_eq (by rw [List.length_map]; exact hi)]
      refine ⟨by simpa [Dg.da] using hs, fun k hk => ?_⟩
      have : l'[k]'(by omega) ∈ l'.take i := List.mem_take_iff_getElem.2 ⟨k, by omega, rfl⟩
      simpa [Dg.da] using hf _ this
    refine ⟨?_, hi⟩
    unfold begA
    rw [e, if_pos (by rw [List.length_map]; exact hi)]
  · have e : (l.map Dg.da).findIdx (fun x => decide (x.nm = s)) = (l.map Dg.da).length := by
      rw [List.findIdx_eq_length]
      intro x hx
      obtain ⟨y, hy, rfl⟩ := List.mem_map.1 hx
      exact decide_eq_false (hno y hy)
    refine ⟨?_, by simp⟩
    unfold begA
    rw [e, if_neg (by omega), List.length_map]
    split
    · rw [List.map_append, ← map_erase, List.length_map]; rfl
    · rw [List.map_append, List.length_map]; rfl

end Go.Proofs.Ytbjoibgkhooljaa
