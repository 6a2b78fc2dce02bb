/-
  Layer 14, the document's own clock: New, bound, Measure, Back. Conditions: as said.
-/
import Derived.Test.YtgimadcfckgcmaaRtB
import Derived.Deep.Upon
namespace Go.Proofs.Ytgimadcfckgcmaa
open Go.RowKit
set_option linter.unusedVariables false

theorem upon_storeT {P : Program} {o : Oper} {a : Act} {w w' : World} {K : Act → World → Prop} {Q : Exit → Act → World → Prop} (t : TypeId) (p x : Operand) (ho : o.op = .store t p x) (v : Value) (g : Nat) (hp : a.eval p = .pointer (some ⟨g, 0, none⟩)) (hx : a.eval x = v)
    (hr : (storeVar t ⟨g, 0, none⟩ v).run P w = .ok () w') (h : K (a.put o.dst undef) w') : Oper.wp P o a w K Q := by
  unfold Oper.wp execOp
  simp only [ho, hp, hx, Instr.storeAt, Instr.sureAddr, Sem.run_bind, Sem.run_pure, Result.andThen_ok, hr]
  exact h
theorem wpList_storeT {P : Program} {ops : Array Oper} {rest : List Oper} {o : Oper} {a : Act} {w w' : World} {Q : Exit → Act → World → Prop} (t : TypeId) (p x : Operand) (hgd : o.guard = none) (ho : o.op = .store t p x) (v : Value) (g : Nat) (hp : a.eval p = .pointer (some ⟨g, 0, none⟩)) (hx : a.eval x = v)
    (hr : (storeVar t ⟨g, 0, none⟩ v).run P w = .ok () w') (h : wpList P ops Q rest (a.put o.dst undef) w') : wpList P ops Q (o :: rest) a w :=
  wpList_plain hgd fun _ hK => upon_storeT t p x ho v g hp hx hr (hK _ _ h)
theorem results_rowT {P : Program} (fn : Func) (a : Nat) (t : TypeId) (hf : fn.results = #[.cell a t]) (tm : Array Value) (n : Nat) (cs : Array Value) (d : TypeDesc) (w : World)
    (ha : tm[a]?.getD undef = .pointer (some ⟨n, 0, none⟩)) (hb : w.heap[n]? = some (.cells cs t (0, 0))) (hd : P.underlying t = some d) (hr : (match d with | .struct _ | .array _ _ => true | _ => false) = true) (hi : (P.info? t).map (·.size) = some cs.size) :
    (results fn tm).run P w = .ok (.agg cs) w := by
  have hl := run_loadVar_row (P := P) w n t t cs (0, 0) d hb hd hr hi
  unfold results
  rw [hf]
  simp [ha, asAddr, hl]
theorem results_rowT2 {P : Program} (fn : Func) (a u : Nat) (t : TypeId) (hf : fn.results = #[.cell a t, .tmp u]) (tm : Array Value) (n : Nat) (cs : Array Value) (v : Value) (d : TypeDesc) (w : World)
    (ha : tm[a]?.getD undef = .pointer (some ⟨n, 0, none⟩)) (hu : tm[u]?.getD undef = v) (hb : w.heap[n]? = some (.cells cs t (0, 0))) (hd : P.underlying t = some d) (hr : (match d with | .struct _ | .array _ _ => true | _ => false) = true) (hi : (P.info? t).map (·.size) = some cs.size) :
    (results fn tm).run P w = .ok (.tuple #[.agg cs, v]) w := by
  have hl := run_loadVar_row (P := P) w n t t cs (0, 0) d hb hd hr hi
  unfold results
  rw [hf]
  simp [ha, hu, asAddr, hl]
theorem below_setRowT {B : Nat} {w w' : World} (h : Below B w w') {n : Nat} (hn : B ≤ n) (cs : Array Value) : Below B w (w'.setRow n cs) :=
  ⟨h.os, h.tape, h.output, by rw [size_setRow]; exact h.size, fun k hk => by rw [setRow_other _ _ _ _ (by omega)]; exact h.block k hk⟩

/-- The cells of the document's clock. -/
def dkC (l m a d : Int) (b : Bool) (t : Int) : List Value := [.int .i64 l, .int .i64 m, .int .i64 a, .int .i64 d, .bool b, .int .i64 t]
def dkO (l m a d : Int) (b : Bool) (t : Int) : Obj := .cells #[.int .i64 l, .int .i64 m, .int .i64 a, .int .i64 d, .bool b, .int .i64 t] 33 (0, 0)
theorem dk_cells {w : World} {n : Nat} {l m a d : Int} {b : Bool} {t : Int} (h : w.heap[n]? = some (dkO l m a d b t)) :
    w.cell? ⟨n, 0, none⟩ = some (.int .i64 l) ∧ w.cell? ⟨n, 1, none⟩ = some (.int .i64 m) ∧ w.cell? ⟨n, 2, none⟩ = some (.int .i64 a) ∧ w.cell? ⟨n, 3, none⟩ = some (.int .i64 d) ∧ w.cell? ⟨n, 4, none⟩ = some (.bool b) ∧ w.cell? ⟨n, 5, none⟩ = some (.int .i64 t) ∧ ∀ i, w.frozen? ⟨n, i, none⟩ = false := by
  unfold dkO at h
  exact ⟨by rw [cell_of_block h]; rfl, by rw [cell_of_block h]; rfl, by rw [cell_of_block h]; rfl, by rw [cell_of_block h]; rfl, by rw [cell_of_block h]; rfl, by rw [cell_of_block h]; rfl, fun i => by simp [World.frozen?, h]⟩
theorem dk_range {w : World} {n : Nat} {l m a d : Int} {b : Bool} {t : Int} (h : w.heap[n]? = some (dkO l m a d b t)) : w.rangeAt n 0 [.int .i64 l, .int .i64 m, .int .i64 a, .int .i64 d, .bool b, .int .i64 t] := fun j u hu => by
  unfold dkO at h
  rw [Nat.zero_add, cell_of_block h]
  exact (List.getElem?_toArray (xs := ([.int .i64 l, .int .i64 m, .int .i64 a, .int .i64 d, .bool b, .int .i64 t] : List Value))).trans hu
theorem st_dk {w : World} {n : Nat} {l m a d : Int} {b : Bool} {t : Int} {l' m' a' d' : Int} {b' : Bool} {t' : Int} (h : w.heap[n]? = some (dkO l m a d b t)) :
    (storeVar 33 ⟨n, 0, none⟩ (.agg #[.int .i64 l', .int .i64 m', .int .i64 a', .int .i64 d', .bool b', .int .i64 t'])).run Try.prog w = .ok () (w.setRow n #[.int .i64 l', .int .i64 m', .int .i64 a', .int .i64 d', .bool b', .int .i64 t']) :=
  run_storeVar_row (P := Try.prog) w n 33 33 _ #[.int .i64 l', .int .i64 m', .int .i64 a', .int .i64 d', .bool b', .int .i64 t'] h (by kernel_rfl) rfl (by simp [Value.oneCell'])
theorem dk_row {w : World} {n : Nat} {l m a d : Int} {b : Bool} {t : Int} {l' m' a' d' : Int} {b' : Bool} {t' : Int} (h : w.heap[n]? = some (dkO l m a d b t)) :
    (w.setRow n #[.int .i64 l', .int .i64 m', .int .i64 a', .int .i64 d', .bool b', .int .i64 t']).heap[n]? = some (dkO l' m' a' d' b' t') := setRow_heap _ _ _ _ _ _ h
/-- Two new boxes. -/
theorem two_new (w : World) (o1 o2 : Obj) : ((w.alloc o1).alloc o2).heap[w.heap.size]? = (w.alloc o1).heap[w.heap.size]? ∧ ((w.alloc o1).alloc o2).heap[w.heap.size + 1]? = ((w.alloc o1).alloc o2).heap[(w.alloc o1).heap.size]? :=
  ⟨Below.heap_alloc _ _ _ (by simp), by simp⟩
def boundV (l m n : Int) : Int := let x := if n < l then l else n; if m < x then m else x
set_option maxRecDepth 10000 in
set_option maxHeartbeats 2000000 in
theorem rBound (w : World) (l m a d : Int) (b : Bool) (t n v : Int) (hv : boundV l m n = v) :
    Calls Try.prog 18 #[.agg #[.int .i64 l, .int .i64 m, .int .i64 a, .int .i64 d, .bool b, .int .i64 t], .int .i64 n] w fun e w' => e = .returned (.agg #[.int .i64 l, .int .i64 m, .int .i64 a, .int .i64 d, .bool b, .int .i64 v]) ∧ Below w.heap.size w w' := by
  have B1 : Below w.heap.size w ((w.alloc (dkO l m a d b t)).alloc (dkO 0 0 0 0 false 0)) := ((Below.refl w.heap.size w).alloc (Nat.le_refl _) _).alloc (by simp) _
  obtain ⟨t1, t2⟩ := two_new w (dkO l m a d b t) (dkO 0 0 0 0 false 0)
  have X0 := Lib.hid (t1.trans (heap_alloc_new w (dkO l m a d b t)))
  have X1 := Lib.hid (t2.trans (heap_alloc_new (w.alloc (dkO l m a d b t)) (dkO 0 0 0 0 false 0)))
  have BL := Lib.hid B1
  clear B1 t1 t2
  go_enter Try.func18, Try.ntmps18
  go_upto_region 1 with fail
  unfold dkO at X0 X1 BL
  generalize (w.alloc _).alloc _ = W1 at X0 X1 BL ⊢
  obtain ⟨n1, hn1⟩ : ∃ n1, n1 = w.heap.size + 1 := ⟨_, rfl⟩
  rw [← hn1] at X1 ⊢
  obtain ⟨n0, hn0⟩ : ∃ n0, n0 = w.heap.size := ⟨_, rfl⟩
  rw [← hn0] at X0 ⊢
  have HN : Hid (w.heap.size ≤ n0 ∧ w.heap.size ≤ n1 ∧ n0 ≠ n1) := Lib.hid ⟨by omega, by omega, by omega⟩
  clear hn0 hn1
  have Y0 : Hid (W1.heap[n0]? = some (dkO l m a d b t)) := X0
  have Y1 : Hid (W1.heap[n1]? = some (dkO 0 0 0 0 false 0)) := X1
  clear X0 X1
  obtain ⟨c0, c1, -, -, -, c5, f⟩ := dk_cells Y0.out
  have f5 := f 5
  clear f
  have Y2 : Hid ((W1.setCell ⟨n0, 5, none⟩ (.int .i64 v)).heap[n0]? = some (dkO l m a d b v)) := Lib.hid (set_cellsB Y0.out _ (by show 5 < 6; decide))
  have Y3 : Hid ((W1.setCell ⟨n0, 5, none⟩ (.int .i64 v)).heap[n1]? = some (dkO 0 0 0 0 false 0)) := Lib.hid ((heap_setCell_other W1 ⟨n0, 5, none⟩ n1 _ (fun e => HN.out.2.2 e.symm)).trans Y1.out)
  have B3 := Lib.hid (BL.out.setCell (p := ⟨n0, 5, none⟩) HN.out.1 (.int .i64 v))
  have RG := Lib.hid (dk_range Y2.out)
  have ST := Lib.hid (st_dk (l' := l) (m' := m) (a' := a) (d' := d) (b' := b) (t' := v) Y3.out)
  have RW := Lib.hid (dk_row (l' := l) (m' := m) (a' := a) (d' := d) (b' := b) (t' := v) Y3.out)
  have B4 := Lib.hid (below_setRowT B3.out HN.out.2.1 #[.int .i64 l, .int .i64 m, .int .i64 a, .int .i64 d, .bool b, .int .i64 v])
  clear Y0 Y1 Y2 Y3 B3 BL
  unfold boundV at hv
  by_cases h1 : n < l
  · rw [if_pos h1] at hv
    by_cases h2 : m < l
    · rw [if_pos h2] at hv
      subst hv
      go_wp2_with (first | (refine wpList_load_mid rfl 33 _ rfl n0 0 rfl _ _ RG.out Try.underlying33 rfl (by kernel_rfl) ?_) | (refine wpList_storeT 33 _ _ rfl rfl _ n1 rfl rfl ST.out ?_))
      exact bodyPost_ret (results_rowT _ 4 33 (by kernel_rfl) _ n1 _ _ _ rfl RW.out Try.underlying33 rfl (by kernel_rfl)) rfl ⟨rfl, B4.out⟩
    · rw [if_neg h2] at hv
      subst hv
      go_wp2_with (first | (refine wpList_load_mid rfl 33 _ rfl n0 0 rfl _ _ RG.out Try.underlying33 rfl (by kernel_rfl) ?_) | (refine wpList_storeT 33 _ _ rfl rfl _ n1 rfl rfl ST.out ?_))
      exact bodyPost_ret (results_rowT _ 4 33 (by kernel_rfl) _ n1 _ _ _ rfl RW.out Try.underlying33 rfl (by kernel_rfl)) rfl ⟨rfl, B4.out⟩
  · rw [if_neg h1] at hv
    by_cases h2 : m < n
    · rw [if_pos h2] at hv
      subst hv
      go_wp2_with (first | (refine wpList_load_mid rfl 33 _ rfl n0 0 rfl _ _ RG.out Try.underlying33 rfl (by kernel_rfl) ?_) | (refine wpList_storeT 33 _ _ rfl rfl _ n1 rfl rfl ST.out ?_))
      exact bodyPost_ret (results_rowT _ 4 33 (by kernel_rfl) _ n1 _ _ _ rfl RW.out Try.underlying33 rfl (by kernel_rfl)) rfl ⟨rfl, B4.out⟩
    · rw [if_neg h2] at hv
      subst hv
      go_wp2_with (first | (refine wpList_load_mid rfl 33 _ rfl n0 0 rfl _ _ RG.out Try.underlying33 rfl (by kernel_rfl) ?_) | (refine wpList_storeT 33 _ _ rfl rfl _ n1 rfl rfl ST.out ?_))
      exact bodyPost_ret (results_rowT _ 4 33 (by kernel_rfl) _ n1 _ _ _ rfl RW.out Try.underlying33 rfl (by kernel_rfl)) rfl ⟨rfl, B4.out⟩
end Go.Proofs.Ytgimadcfckgcmaa
