/-
  Laws for values that are kept closed: an operation whose run is known, in a plain region and in one that draws; equality of structs; a load of a whole row. No conditions.
-/
import Derived.ProofKit
import Derived.Deep.RegionHeld3
import Derived.Deep.MidRow
import Derived.Laws.StructEq
namespace Go.Proofs.Ytlajalfalepbhaa
open Go.RowKit

variable {P : Program} {ops : Array Oper} {rest : List Oper} {o : Oper} {a : Act} {w : World} {Q : Exit → Act → World → Prop} {S : World → Prop}
/-- At the list of a plain region's operations: one that yields a value and leaves the world. -/
theorem wpList_value (hw : Region.wanted o (yielded ops a.tmps) = true) (v : Value) (hv : (execOp a.eval o).run P w = .ok (.value v) w) (h : wpList P ops Q rest (a.put o.dst v) w) : wpList P ops Q (o :: rest) a w :=
  wpList_step fun K hK => by
    rw [if_pos hw]
    unfold Oper.wp
    rw [hv]
    exact hK _ _ h
theorem exec_load (t : TypeId) (x : Operand) (ho : o.op = .load t x) (b : Nat) (hx : a.eval x = .pointer (some ⟨b, 0, none⟩)) (cs : Array Value) (d : TypeDesc) (hb : w.heap[b]? = some (.cells cs t (0, 0)))
    (hu : P.underlying t = some d) (hd : d.isRow = true) (hi : (P.info? t).map (·.size) = some cs.size) : (execOp a.eval o).run P w = .ok (.value (.agg cs)) w := by
  have hl := run_loadVar_mid (P := P) w b 0 t cs.toList d (fun i v hv => by
    rw [Nat.zero_add, cell_of_row w b i cs t (0, 0) hb]
    simpa using hv) hu hd (by simpa using hi)
  unfold execOp
  simp only [ho, hx, Instr.loadAt, Instr.sureAddr, Sem.run_bind, Sem.run_pure, Result.andThen_ok, hl]
theorem exec_eql (t t' : TypeId) (x y : Operand) (ho : o.op = .binOp .eql t x y t') (cs ds : Array Value) (hx : a.eval x = .agg cs) (hy : a.eval y = .agg ds) (hg : P.eqGuardType P.depth t = false) (r : Bool)
    (h : (Op.equalIn 10000 t (.agg cs) (.agg ds)).run P w = .ok r w) : (execOp a.eval o).run P w = .ok (.value (.bool r)) w := by
  unfold execOp
  simp only [ho, hx, hy, Sem.run_bind, run_eqGuard_agg, hg, Result.andThen_ok, Sem.run_pure, binOp, Op.equal, Op.maxDepth, h]
theorem exec_neq (t t' : TypeId) (x y : Operand) (ho : o.op = .binOp .neq t x y t') (cs ds : Array Value) (hx : a.eval x = .agg cs) (hy : a.eval y = .agg ds) (hg : P.eqGuardType P.depth t = false) (r : Bool)
    (h : (Op.equalIn 10000 t (.agg cs) (.agg ds)).run P w = .ok r w) : (execOp a.eval o).run P w = .ok (.value (.bool (!r))) w := by
  unfold execOp
  simp only [ho, hx, hy, Sem.run_bind, run_eqGuard_agg, hg, Result.andThen_ok, Sem.run_pure, binOp, Op.equal, Op.maxDepth, h]
theorem yields_eql (hw : Region.wanted o (yielded ops a.tmps) = true) (t t' : TypeId) (x y : Operand) (ho : o.op = .binOp .eql t x y t') (cs ds : Array Value) (hx : a.eval x = .agg cs) (hy : a.eval y = .agg ds) (hg : P.eqGuardType P.depth t = false) (r : Bool)
    (h : ∀ w, (Op.equalIn 10000 t (.agg cs) (.agg ds)).run P w = .ok r w) : YieldsIf P ops S o (.bool r) a :=
  .inl ⟨hw, fun w _ => exec_eql t t' x y ho cs ds hx hy hg r (h w)⟩

end Go.Proofs.Ytlajalfalepbhaa
