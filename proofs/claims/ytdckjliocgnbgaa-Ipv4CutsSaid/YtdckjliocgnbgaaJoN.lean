/-
  Layer 8: what the walk over cuts wants: a key that is put again; a block beside a joiner that is written; a row of packets; one more piece, however many there are. Conditions: as said.
-/
import Derived.Test.YtdckjliocgnbgaaNums
import Derived.Test.YtdckjliocgnbgaaRaG
namespace Go.Proofs.Ytdckjliocgnbgaa
open Go.RowKit Go.ChangeMaps Go.MapKept Go.Sort
set_option linter.unusedVariables false

section
variable {P : Program} {k t e : TypeId} {w : World} {b : Nat} {cs : List (Int × Value)}
/-- 'm[k] = v' at a key that is there, with the value that it has. -/
theorem IsTab.again (h : IsTab w b cs) (ht : P.underlying t = some (.map k e)) (hk : P.underlying k = some (.int .i64)) {x : Int} (hx : (Lit.int .i64 x).wf = true) {v : Value} (hc : (x, v) ∈ cs) :
    ∃ w', (Instr.mapUpdate t (.map (some b)) (.int .i64 x) v).run P w = .ok () w' ∧ IsTab w' b cs ∧ w.grownBy w' (some b) := by
  obtain ⟨es, clock, hb, F⟩ := h
  rcases F.find hk w hx with ⟨_, h1⟩ | ⟨j, v', h1, h2⟩
  · exact absurd rfl (h1 _ hc)
  · have e1 : v' = v := key_one F.keys (List.mem_of_getElem? h2) hc
    subst e1
    have hj : j < es.size := by rw [F.length]; exact (List.getElem?_eq_some_iff.1 h2).1
    have hje : es.toList[j]? = some es[j] := by rw [Array.getElem?_toList, Array.getElem?_eq_getElem hj]
    obtain ⟨c, c1, c2, c3⟩ := F.at_ hje
    rw [h2] at c1
    injection c1 with c1
    subst c1
    have hmod : es.modify j (fun e => { e with key := .int .i64 x, val := v' }) = es := by
      apply Array.ext_getElem?
      intro i
      rw [Array.getElem?_modify]
      split
      · rename_i hij
        subst hij
        rw [Array.getElem?_eq_getElem hj]
        have hx1 : es[j].key = .int .i64 x := c2
        have hx2 : es[j].val = v' := c3
        generalize es[j] = E at hx1 hx2
        cases E
        simp at hx1 hx2
        simp [hx1, hx2]
      · rfl
    have hgk : (es[j]?.map (·.key)).getD (.int .i64 x) = .int .i64 x := by rw [Array.getElem?_eq_getElem hj]; exact c2
    have hks : (Instr.keyThatStays (.int .i64 x) (.int .i64 x)).run P w = .ok (.int .i64 x) w := by
      unfold Instr.keyThatStays
      split
      · rfl
      · rename_i hne
        exact absurd (by simp [Instr.sameBits]) hne
    refine ⟨setBlock w b (.map es clock), ?_, ⟨es, clock, heap_setBlock_same hb _, F⟩, ⟨rfl, rfl, rfl, by simp [setBlock], fun i _ hi => heap_setBlock_other hb _ (fun e => hi (by rw [e]))⟩⟩
    simp [Instr.mapUpdate, run_underlying ht, MapKept.run_getObj_map hb, tab_check hk w _ hx, h1, hgk, hks, hmod, MapKept.run_setObj_map _ hb, Result.andThen, setBlock]
variable {ops : Array Oper} {rest : List Oper} {o : Oper} {a : Act} {Q : Exit → Act → World → Prop}
/-- A key is put, new or not, with one value for all. -/
theorem wpList_put_tab (hg : o.guard = none) (m x v : Operand) (t : TypeId) (hop : o.op = Op.mapUpdate t m x v) (kt et : TypeId) (ht : P.underlying t = some (.map kt et)) (hk : P.underlying kt = some (.int .i64)) (b : Nat) (k : Nat) (u : Value) (ks : List Nat)
    (h : IsTab w b (ks.map fun (j : Nat) => ((j : Int), u))) (hwf : (Lit.int .i64 (k : Int)).wf = true) (hm : a.eval m = .map (some b)) (hx : a.eval x = .int .i64 (k : Int)) (hv : a.eval v = u)
    (hK : ∀ w', IsTab w' b ((if k ∈ ks then ks else ks ++ [k]).map fun (j : Nat) => ((j : Int), u)) → w.grownBy w' (some b) → wpList P ops Q rest (a.put o.dst undef) w') : wpList P ops Q (o :: rest) a w := by
  by_cases hin : k ∈ ks
  · refine wpList_plain hg fun K' hK' => ?_
    obtain ⟨w', hrun, r1, r2⟩ := h.again ht hk hwf (v := u) (List.mem_map.2 ⟨k, hin, rfl⟩)
    unfold Oper.wp
    simp [execOp, hop, hm, hx, hv, hrun, Result.andThen]
    exact hK' _ _ (hK w' (by rw [if_pos hin]; exact r1) r2)
  · refine wpList_mapUpdate_tab _ hg m x v t hop kt et ht hk b (k : Int) u _ h hwf (fun c hc e => ?_) hm hx hv (fun w' h1 h2 => hK w' ?_ h2)
    · obtain ⟨j, hj, rfl⟩ := List.mem_map.1 hc
      have e : (j : Int) = (k : Int) := e
      exact hin (by rw [show k = j by omega]; exact hj)
    · rw [if_neg hin, List.map_append]; exact h1
end

/-- A block beside the joiner is written. -/
theorem JoS.setBlk {w W W' : World} {F : List (Nat × Obj)} {g : Nat} {lim : Int} {L : List Da} {n : Nat} {o o' : Obj} (h : JoS w W ((n, o) :: F) g lim L) (hn : w.heap.size ≤ n) (t : Turn W W' (fun k => k = n)) (ho : W'.heap[n]? = some o') (hF : ∀ p ∈ F, p.1 ≠ n) : JoS w W' ((n, o') :: F) g lim L := by
  obtain ⟨v, l, h1, h2, h3, h4, h5⟩ := h
  have hno := (h5 _ (.head _)).2
  refine ⟨v, l, h1.kept t.size (fun j hj hl => t.block j hl (fun e => hno (by rw [← e]; exact hj))), h2, ⟨t.os.trans h3.os, t.tape.trans h3.tape, t.output.trans h3.output, Nat.le_trans h3.size t.size, fun k hk => (t.block k (Nat.lt_of_lt_of_le hk h3.size) (by omega)).trans (h3.block k hk)⟩, h4, fun p hp => ?_⟩
  rcases List.mem_cons.1 hp with rfl | hp
  · exact ⟨ho, hno⟩
  · exact ⟨(t.block p.1 (blk_lt (h5 p (.tail _ hp)).1) (hF p hp)).trans (h5 p (.tail _ hp)).1, (h5 p (.tail _ hp)).2⟩

/-- One more piece comes, however many there are. -/
theorem cut_any {D : ByteArray} {m : Nat} {off : Nat → Nat} (h : CutOk D m off) {base : Pd} (hb : mayB base = true) {ks : List Nat} (hn : ks.Nodup) (hks : ∀ k ∈ ks, k < m) (hl : ks.length < m) {k : Nat} (hk : k < m) :
    putA (cutD base D m off k) (LQ base D m off ks) = if k ∈ ks then (pdZ, false, LQ base D m off ks) else if ks.length + 1 = m then (wholeB base D, true, []) else (pdZ, false, LQ base D m off (ks ++ [k])) := by
  by_cases h2 : 1 < m
  · exact cut_step h h2 hb hn hks hl hk
  · have hm1 : m = 1 := by have := h.pos; omega
    subst hm1
    have hk0 : k = 0 := by omega
    subst hk0
    have hks0 : ks = [] := List.length_eq_zero_iff.1 (by omega)
    subst hks0
    have e : cutD base D 1 off 0 = wholeB base D := by
      unfold cutD wholeB
      have h0 := h.zero
      have h1 := h.last
      have hx : D.extract (off 0) (off (0 + 1)) = D := by
        rw [h0, show off (0 + 1) = D.size from h1]
        simp
      rw [hx, h0]
      rfl
    rw [if_neg (by simp : ¬ 0 ∈ ([] : List Nat)), e]
    simp only [List.length_nil]
    rw [if_pos (by decide)]
    obtain ⟨b1, b2, b3, b4, b5, b6, _⟩ := mayB_all hb
    have hm : mayB (wholeB base D) = true := decide_eq_true ⟨b1, b2, b3, b4, b5, b6, by show (0 : Int) % 8 = 0; decide, by show (0 : Int) ≤ 0; decide, by show (0 : Int) ≤ 65528; decide, by show (0 : Int) + (D.size : Int) ≤ 65515; have := h.small; omega, .inl rfl⟩
    unfold putA
    rw [if_neg (by rw [hm]; decide), if_pos ⟨rfl, rfl⟩]
    rfl
theorem LQ_len {base : Pd} {D : ByteArray} {m : Nat} {off : Nat → Nat} (ks : List Nat) : (LQ base D m off ks).length ≤ 4 := by
  unfold LQ
  split <;> simp
theorem LQ_fine {D : ByteArray} {m : Nat} {off : Nat → Nat} (h : CutOk D m off) {base : Pd} {ks : List Nat} (hks : ∀ k ∈ ks, k < m) (hl : ks.length < m) (hm : m ≤ 100000) : FineL 100000 (LQ base D m off ks) := by
  intro x hx
  unfold LQ at hx
  split at hx
  · cases hx
  · rename_i hne
    rw [List.mem_singleton] at hx
    subst hx
    have h2 : 1 < m := by
      have : 0 < ks.length := List.length_pos_iff.2 hne
      omega
    refine ⟨by show (ks.map _).length ≤ 100000; rw [List.length_map]; omega, fun y hy => ?_⟩
    obtain ⟨j, hj, rfl⟩ := List.mem_map.1 hy
    have hj := hks j hj
    have e1 := cut_end h h2 hj
    have e2 := h.le h2 (i := j + 1) (by omega)
    have e3 := h.le h2 (i := j) (by omega)
    have e4 := h.small
    refine ⟨⟨by show (0 : Int) ≤ off j; omega, by show (off j : Int) ≤ 100000; omega, by rw [cut_size h h2 hj]; omega⟩, by rw [e1]; omega⟩

def pdL (f : Pd) : List Value := (pdC f).toList
theorem pdL_len (f : Pd) : (pdL f).length = 14 := rfl
theorem pdL_one (f : Pd) : ∀ u ∈ pdL f, u.oneCell' = true := fun u hu => (Array.all_eq_true_iff_forall_mem.1 (pdC_one f)) u (by simpa [pdL] using hu)
theorem info_pk : ∃ i z, Try.prog.info? 29 = some i ∧ i.zero = some z ∧ i.size = 14 ∧ i.bytes ≤ 100 ∧ z.cells.size = 14 := by
  have h : (Try.prog.info? 29).map (fun i => (i.zero.map (fun z => z.cells.size), i.size, decide (i.bytes ≤ 100))) = some (some 14, 14, true) := by kernel_rfl
  cases hi : Try.prog.info? 29 with
  | none => rw [hi] at h; cases h
  | some i =>
    rw [hi] at h
    simp only [Option.map_some, Option.some.injEq, Prod.mk.injEq] at h
    obtain ⟨h1, h2, h3⟩ := h
    cases hz : i.zero with
    | none => rw [hz] at h1; cases h1
    | some z => rw [hz] at h1; exact ⟨i, z, rfl, hz, h2, by simpa using h3, by simpa using h1⟩

end Go.Proofs.Ytdckjliocgnbgaa
