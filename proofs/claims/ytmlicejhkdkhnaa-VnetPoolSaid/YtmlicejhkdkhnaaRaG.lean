/-
  A row of elements that is built, beside blocks that stay; whatever the elements. No program is named here.
-/
import Derived.Test.YtmlicejhkdkhnaaRowsA
namespace Go.Proofs.Ytmlicejhkdkhnaa
open Go.RowKit Go.Sort
set_option linter.unusedVariables false

theorem blkLt {w : World} {n : Nat} {o : Obj} (h : w.heap[n]? = some o) : n < w.heap.size := (Array.getElem?_eq_some_iff.1 h).1
structure RaG {α : Type} (k : Nat) (enc : α → List Value) (TE : TypeId) (w wr : World) (F : List (Nat × Obj)) (va : Value) (la : List α) : Prop where
  acc : RowA k enc TE wr va la
  own : ∀ k, va.ownBlock = some k → w.heap.size ≤ k
  bl : Below w.heap.size w wr
  fx : ∀ p ∈ F, wr.heap[p.1]? = some p.2 ∧ ∀ k, va.ownBlock = some k → k ≠ p.1
section
variable {α : Type} {k : Nat} {enc : α → List Value} {TE : TypeId} {w wr wr' : World} {F : List (Nat × Obj)} {va va' : Value} {la la' : List α}
theorem RaG.grow (h : RaG k enc TE w wr F va la) (b : Below wr.heap.size wr wr') : RaG k enc TE w wr' F va la :=
  ⟨h.acc.kept b.size (fun k hk => b.block k (h.acc.lt k hk).2), h.own, h.bl.trans (b.mono h.bl.size), fun p hp => ⟨(b.block p.1 (blkLt (h.fx p hp).1)).trans (h.fx p hp).1, (h.fx p hp).2⟩⟩
theorem RaG.alloc (h : RaG k enc TE w wr F va la) (o : Obj) : RaG k enc TE w (wr.alloc o) F va la := h.grow ((Below.refl _ _).alloc (Nat.le_refl _) o)
theorem RaG.get (h : RaG k enc TE w wr F va la) {n : Nat} {o : Obj} (hp : (n, o) ∈ F) : wr.heap[n]? = some o := (h.fx _ hp).1
theorem RaG.app (h : RaG k enc TE w wr F va la) (hg : wr.grownBy wr' va.ownBlock) (hr : RowA k enc TE wr' va' la') (hb : va'.ownBlock = va.ownBlock ∨ va'.ownBlock = some wr.heap.size) : RaG k enc TE w wr' F va' la' := by
  have hno : ∀ k, k < w.heap.size → some k ≠ va.ownBlock := fun k hk e => by
    have := h.own k e.symm; omega
  refine ⟨hr, fun k hk => ?_, ⟨hg.os.trans h.bl.os, hg.tape.trans h.bl.tape, hg.output.trans h.bl.output, Nat.le_trans h.bl.size hg.size, fun k hk => (hg.block k (Nat.lt_of_lt_of_le hk h.bl.size) (hno k hk)).trans (h.bl.block k hk)⟩, fun p hp => ?_⟩
  · rcases hb with e | e
    · exact h.own k (by rw [← e]; exact hk)
    · rw [e] at hk; injection hk with hk; rw [← hk]; exact h.bl.size
  · obtain ⟨f1, f2⟩ := h.fx p hp
    refine ⟨(hg.block p.1 (blkLt f1) (fun e => f2 _ e.symm rfl)).trans f1, fun k hk e2 => ?_⟩
    rcases hb with e | e
    · exact f2 k (by rw [← e]; exact hk) e2
    · rw [e] at hk; injection hk with hk
      have := blkLt f1
      omega
theorem RaG.start (k : Nat) (enc : α → List Value) (TE : TypeId) (w : World) : RaG k enc TE w w [] (.slice none 0 0) [] := ⟨World.ownsRow_nil _ _ _ _, fun k hk => (by cases hk), Below.refl _ _, fun p hp => (by cases hp)⟩
theorem RaG.more (h : RaG k enc TE w wr F va la) {n : Nat} {o : Obj} (hn : wr.heap[n]? = some o) (hv : ∀ k, va.ownBlock = some k → k ≠ n) : RaG k enc TE w wr ((n, o) :: F) va la :=
  ⟨h.acc, h.own, h.bl, fun p hp => by
    rcases List.mem_cons.1 hp with rfl | hp
    · exact ⟨hn, hv⟩
    · exact h.fx p hp⟩
theorem RaG.push (h : RaG k enc TE w wr F va la) (o : Obj) : RaG k enc TE w (wr.alloc o) ((wr.heap.size, o) :: F) va la :=
  (h.alloc o).more (heap_alloc_new wr o) (fun k hk => by have := (h.acc.lt k hk).2; omega)
theorem RaG.drop {q : Nat × Obj} (h : RaG k enc TE w wr (q :: F) va la) : RaG k enc TE w wr F va la := ⟨h.acc, h.own, h.bl, fun p hp => h.fx p (.tail _ hp)⟩
/-- The row is kept beside, another one is begun. -/
theorem RaG.fresh (h : RaG k enc TE w wr F va la) {b : Nat} {o : Obj} (hb : wr.heap[b]? = some o) {β : Type} (k' : Nat) (enc' : β → List Value) (TE' : TypeId) : RaG k' enc' TE' w wr ((b, o) :: F) (.slice none 0 0) [] :=
  ⟨World.ownsRow_nil _ _ _ _, fun k hk => (by cases hk), h.bl, fun p hp => by
    rcases List.mem_cons.1 hp with rfl | hp
    · exact ⟨hb, fun k hk => (by cases hk)⟩
    · exact ⟨(h.fx p hp).1, fun k hk => (by cases hk)⟩⟩
end

/-- Several elements are appended, wherever they lie. -/
theorem wpList_append_many {P : Program} {ops : Array Oper} {rest : List Oper} {o : Oper} {a : Act} {w : World} {Q : Exit → Act → World → Prop} {α : Type} {k : Nat} {enc : α → List Value} {TE : TypeId}
    (hk : ∀ x, (enc x).length = k) (h1e : ∀ x, ∀ u ∈ enc x, u.oneCell' = true) (hk0 : 0 < k) (hg : o.guard = none) (s x : Operand) (t : TypeId) (hop : o.op = Op.call { callee := Callee.builtin Builtin.append, args := #[s, x], argTypes := #[t, t] })
    (i : TypeInfo) (z : Value) (bytes : Nat) (ht : P.underlying t = some (.slice TE)) (hi : P.info? TE = some i) (hz : i.zero = some z) (hsize : i.size = k) (hby : i.bytes = bytes) (hb2 : bytes ≤ 100) (hzs : z.cells.size = k)
    (v : Value) (l : List α) (hs : a.eval s = v) (hown : RowA k enc TE w v l) (ys : List α) (hl : l.length + ys.length ≤ 100000000) (ad : Addr) (m c : Nat) (hm : ys.length = m) (hx : a.eval x = .slice (some ad) m c) (hc : ∀ j u, (encA enc ys)[j]? = some u → w.cell? (ad.add j) = some u)
    (hK : ∀ v' w', RowA k enc TE w' v' (l ++ ys) → w.grownBy w' v.ownBlock → (v'.ownBlock = v.ownBlock ∨ v'.ownBlock = some w.heap.size) → wpList P ops Q rest (a.put o.dst v') w') : wpList P ops Q (o :: rest) a w := by
  subst hm
  refine wpList_plain hg fun K hKK => ?_
  obtain ⟨v', w', hr, h2, h3, _, h5⟩ := run_append_own_at (P := P) w 0 t o.type TE i z k bytes ht hi hz hsize hby hzs hk0 v l.length (encA enc l) hown ad ys.length c (encA enc ys) (encA_length hk ys) hc
    (fun u hu => by
      obtain ⟨tm, _, hu⟩ := List.mem_flatMap.1 hu
      exact h1e tm u hu) (by unfold maxLen; omega) (by have := Nat.mul_le_mul (show l.length + ys.length ≤ 100000000 by omega) hb2; omega) (Nat.zero_le _)
  unfold Oper.wp
  simp only [execOp, hop, resolve, invoke, builtin, Sem.run_bind, Sem.run_pure, Result.andThen_ok, List.map_toArray, List.map_cons, List.map_nil, hs, hx, hr]
  refine hKK _ _ (hK v' w' ?_ h3 h5)
  unfold RowA
  rw [List.length_append, encA_append]
  exact h2

end Go.Proofs.Ytmlicejhkdkhnaa
