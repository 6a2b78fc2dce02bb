/-
  Layer 12, the document's own buffer: Window, find, Read; laws of stores and appends. Conditions: as said.
-/
import Derived.Test.YtcnongkkmjahfaaRbI
import Derived.Test.YtcnongkkmjahfaaRaG
namespace Go.Proofs.Ytcnongkkmjahfaa
open Go.RowKit
set_option linter.unusedVariables false

theorem upon_store {P : Program} {o : Oper} {a : Act} {w w' : World} {K : Act → World → Prop} {Q : Exit → Act → World → Prop} (t : TypeId) (p x : Operand) (ho : o.op = .store t p x) (v : Value) (g : Nat) (hp : a.eval p = .pointer (some ⟨g, 0, none⟩)) (hx : a.eval x = v)
    (hr : (storeVar t ⟨g, 0, none⟩ v).run P w = .ok () w') (h : K (a.put o.dst undef) w') : o.wp P a w K Q := by
  unfold Oper.wp execOp
  simp only [ho, hp, hx, Instr.storeAt, Instr.sureAddr, Sem.run_bind, Sem.run_pure, Result.andThen_ok, hr]
  exact h
theorem wpList_storeW {P : Program} {ops : Array Oper} {rest : List Oper} {o : Oper} {a : Act} {w w' : World} {Q : Exit → Act → World → Prop} (t : TypeId) (p x : Operand) (hgd : o.guard = none) (ho : o.op = .store t p x) (v : Value) (g : Nat) (hp : a.eval p = .pointer (some ⟨g, 0, none⟩)) (hx : a.eval x = v)
    (hr : (storeVar t ⟨g, 0, none⟩ v).run P w = .ok () w') (h : wpList P ops Q rest (a.put o.dst undef) w') : wpList P ops Q (o :: rest) a w :=
  wpList_plain hgd fun _ hK => upon_store t p x ho v g hp hx hr (hK _ _ h)

theorem results_row {P : Program} (fn : Func) (a u : Nat) (t : TypeId) (hf : fn.results = #[.cell a t, .tmp u]) (tm : Array Value) (n : Nat) (cs : Array Value) (v : Value) (d : TypeDesc) (w : World)
    (ha : tm[a]?.getD undef = .pointer (some ⟨n, 0, none⟩)) (hu : tm[u]?.getD undef = v) (hb : w.heap[n]? = some (.cells cs t (0, 0))) (hd : P.underlying t = some d) (hr : (match d with | .struct _ | .array _ _ => true | _ => false) = true) (hi : (P.info? t).map (·.size) = some cs.size) :
    (results fn tm).run P w = .ok (.tuple #[.agg cs, v]) w := by
  have hl := run_loadVar_row (P := P) w n t t cs (0, 0) d hb hd hr hi
  unfold results
  rw [hf]
  simp [ha, hu, asAddr, hl]

section
variable {P : Program} {ops : Array Oper} {rest : List Oper} {o : Oper} {a : Act} {w : World} {Q : Exit → Act → World → Prop} {α : Type} {k : Nat} {enc : α → List Value} {TE : TypeId}
theorem wpList_copyq (hk : ∀ x, (enc x).length = k) (h1e : ∀ x, ∀ u ∈ enc x, u.oneCell' = true) (hk0 : 0 < k) (hg : o.guard = none) (s x : Operand) (t : TypeId) (hop : o.op = Op.call { callee := Callee.builtin Builtin.append, args := #[s, x], argTypes := #[t, t] })
    (i : TypeInfo) (z : Value) (ht : P.underlying t = some (.slice TE)) (hi : P.info? TE = some i) (hz : i.zero = some z) (hsize : i.size = k) (hb2 : i.bytes ≤ 1000) (hzs : z.cells.size = k)
    (hs : a.eval s = .slice none 0 0) (v : Value) (l : List α) (hx : a.eval x = v) (hv : RowA k enc TE w v l) (hl : l.length ≤ 1000000)
    (hK : ∀ v' w', RowA k enc TE w' v' l → w.grownBy w' none → (v'.ownBlock = none ∨ v'.ownBlock = some w.heap.size) → wpList P ops Q rest (a.put o.dst v') w') : wpList P ops Q (o :: rest) a w := by
  refine wpList_plain hg fun K hKK => ?_
  rcases hv.2 with ⟨rfl, h0⟩ | ⟨b, cap, cur, rfl, _⟩
  · obtain rfl : l = [] := List.length_eq_zero_iff.1 h0
    have hr : (Builtin.append_ #[t, t] o.type #[.slice none 0 0, .slice none 0 0]).run P w = .ok (.slice none 0 0) w := by
      simp [Builtin.append_, run_underlying ht, sizeOf, typeInfo, hi, Builtin.lenOf, Builtin.firstCells]
    unfold Oper.wp
    simp only [execOp, hop, resolve, invoke, builtin, Sem.run_bind, Sem.run_pure, Result.andThen_ok, List.map_toArray, List.map_cons, List.map_nil, hs, hx, hr]
    exact hKK _ _ (hK _ _ (World.ownsRow_nil _ _ _ _) (World.grownBy.refl _ _) (.inl rfl))
  · obtain ⟨v', w', hr, h2, h3, _, h5⟩ := run_append_own_at (P := P) w 0 t o.type TE i z k i.bytes ht hi hz hsize rfl hzs hk0 (.slice none 0 0) 0 [] (World.ownsRow_nil _ _ _ _) ⟨b, 0, none⟩ l.length cap (encA enc l) (encA_length hk l) (hv.cells (g := b) rfl)
      (fun u hu => by
        obtain ⟨tm, _, hu⟩ := List.mem_flatMap.1 hu
        exact h1e tm u hu) (by unfold maxLen; omega) (by have := Nat.mul_le_mul (show 0 + l.length ≤ 1000000 by omega) hb2; omega) (Nat.zero_le _)
    unfold Oper.wp
    simp only [execOp, hop, resolve, invoke, builtin, Sem.run_bind, Sem.run_pure, Result.andThen_ok, List.map_toArray, List.map_cons, List.map_nil, hs, hx, hr]
    refine hKK _ _ (hK v' w' ?_ h3 h5)
    simp only [Nat.zero_add, List.nil_append] at h2
    exact h2
end

theorem RaG.setF {α : Type} {k : Nat} {enc : α → List Value} {TE : TypeId} {w wr : World} {F : List (Nat × Obj)} {va : Value} {la : List α} {n i : Nat} {cs : Array Value} {T : TypeId} (h : RaG k enc TE w wr ((n, .cells cs T (0, 0)) :: F) va la) (hF : ∀ p ∈ F, p.1 ≠ n) (hn : w.heap.size ≤ n) (v : Value) (hi : i < cs.size) :
    RaG k enc TE w (wr.setCell ⟨n, i, none⟩ v) ((n, .cells (cs.setIfInBounds i v) T (0, 0)) :: F) va la := by
  have hne : ∀ k, va.ownBlock = some k → k ≠ n := (h.fx _ (.head _)).2
  refine ⟨h.acc.kept (by simp [World.setCell]) (fun b hb => Below.heap_setCell _ _ _ _ (hne b hb)), h.own, h.bl.setCell hn v, fun p hp => ?_⟩
  rcases List.mem_cons.1 hp with rfl | hp
  · exact ⟨set_cellsB (h.get (.head _)) v hi, hne⟩
  · exact ⟨(Below.heap_setCell _ _ _ _ (hF p hp)).trans (h.fx p (.tail _ hp)).1, (h.fx p (.tail _ hp)).2⟩
/-- The cells of a document's buffer. -/
theorem cells4 {w : World} {n : Nat} {x y z v : Value} {t : TypeId} (h : w.heap[n]? = some (.cells #[x, y, z, v] t (0, 0))) : w.cell? ⟨n, 0, none⟩ = some x ∧ w.cell? ⟨n, 1, none⟩ = some y ∧ w.cell? ⟨n, 2, none⟩ = some z ∧ w.cell? ⟨n, 3, none⟩ = some v ∧ ∀ i, w.frozen? ⟨n, i, none⟩ = false :=
  ⟨by rw [cell_of_block h]; rfl, by rw [cell_of_block h]; rfl, by rw [cell_of_block h]; rfl, by rw [cell_of_block h]; rfl, fun i => by simp [World.frozen?, h]⟩
theorem range4 {w : World} {n : Nat} {x y z v : Value} {t : TypeId} (h : w.heap[n]? = some (.cells #[x, y, z, v] t (0, 0))) : w.rangeAt n 0 [x, y, z, v] := fun j u hu => by
  rw [Nat.zero_add, cell_of_block h]
  exact (List.getElem?_toArray (xs := [x, y, z, v])).trans hu
/-- What find finds. -/
def FoundB (a : Int) (D : List Hb) (r : Int) : Prop := (r = -1 ∧ ∀ y ∈ D, y.at_ ≠ a) ∨ ∃ j : Nat, ∃ h : j < D.length, r = (j : Int) ∧ D[j].at_ = a
end Go.Proofs.Ytcnongkkmjahfaa
