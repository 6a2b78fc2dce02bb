/-
  Layer 9: messages as values and in memory, and those that come in; two are equal in Go just if they are the same. Conditions: a message's numbers are numbers of their kind, its data no longer than a string may be.
-/
import Derived.Test.YtapfkhhabamndaaArpB
import Derived.Test.YtapfkhhabamndaaKeep
import Derived.Test.YtapfkhhabamndaaEthH
import Derived.Test.YtapfkhhabamndaaArpH
namespace Go.Proofs.Ytapfkhhabamndaa
open Go.ChangeShapes Go.WideShapes Go.ChangeAt Go.RowKit Go.Sort
set_option linter.unusedVariables false

/-- A message. -/
structure Ic where
  kd : Int
  co : Int
  re : Int
  da : ByteArray
theorem Ic.same {x y : Ic} (h : x.kd = y.kd ∧ x.co = y.co ∧ x.re = y.re ∧ x.da = y.da) : x = y := by
  cases x; cases y
  obtain ⟨rfl, rfl, rfl, rfl⟩ := h
  rfl
instance : DecidableEq Ic := fun x y => decidable_of_iff (x.kd = y.kd ∧ x.co = y.co ∧ x.re = y.re ∧ x.da = y.da) ⟨Ic.same, fun h => by rw [h]; exact ⟨rfl, rfl, rfl, rfl⟩⟩
/-- A message as Go's own values. -/
def Ic.ok (f : Ic) : Prop := (Lit.int .i64 f.kd).wf = true ∧ (Lit.int .i64 f.co).wf = true ∧ (Lit.int .u32 f.re).wf = true ∧ f.da.size ≤ maxLen
def Ic.lits (f : Ic) : List Lit := [.int .i64 f.kd, .int .i64 f.co, .int .u32 f.re, .string f.da.data.toList]
theorem Ic.lits_inj {x y : Ic} : x.lits = y.lits ↔ x = y := by
  constructor
  · intro h
    simp only [Ic.lits, List.cons.injEq, Lit.int.injEq, Lit.string.injEq, true_and, and_true] at h
    obtain ⟨e1, e2, e3, e4⟩ := h
    rw [Array.toList_inj] at e4
    exact Ic.same ⟨e1, e2, e3, ByteArray.ext e4⟩
  · rintro rfl; rfl
theorem cells_ic : Try.prog.cellsOf 49 = 4 := by kernel_rfl
theorem cells_u32 : Try.prog.cellsOf 47 = 1 := by kernel_rfl
theorem lits_u32 (x : Int) (h : (Lit.int .u32 x).wf = true) (d : Nat) : Try.prog.keyLits (d + 1) 47 [.int .u32 x] = some [.int .u32 x] := by
  simp [Program.keyLits, Try.underlying47, h]
theorem ic_lits (f : Ic) (h : f.ok) (d : Nat) : Try.prog.keyLits (d + 3) 49 [.int .i64 f.kd, .int .i64 f.co, .int .u32 f.re, .string f.da] = some f.lits := by
  unfold Program.keyLits
  simp only [Try.underlying49, cells_ic]
  simp [cells_int, cells_str, cells_u32, lits_int _ h.1, lits_int _ h.2.1, lits_u32 _ h.2.2.1, lits_str _ h.2.2.2, Ic.lits]
theorem key_ic : Try.prog.keyTypeAt 3 49 = true := by kernel_rfl

/-- The cells of a message, kept closed. -/
def icC (f : Ic) : Array Value := #[.int .i64 f.kd, .int .i64 f.co, .int .u32 f.re, .string f.da]
theorem icC_one (f : Ic) : (icC f).all (·.oneCell') = true := by simp [icC, Value.oneCell']
theorem icC_size (f : Ic) : (icC f).size = 4 := rfl
theorem eql_ic (w : World) (x y : Ic) (hx : x.ok) (hy : y.ok) : (Op.equalIn 10000 49 (.agg (icC x)) (.agg (icC y))).run Try.prog w = .ok (decide (x = y)) w := by
  obtain ⟨r, hr, hi⟩ := run_equalIn_deep (P := Try.prog) 9997 3 49 key_ic w 3 3 (.agg (icC x)) (.agg (icC y)) _ _ (by kernel_rfl) (by kernel_rfl) (ic_lits x hx 0) (ic_lits y hy 0)
  rw [hr]
  rw [Ic.lits_inj] at hi
  have : r = decide (x = y) := by rw [Bool.eq_iff_iff, hi]; simp
  rw [this]

def icZ : Ic := ⟨0, 0, 0, ⟨#[]⟩⟩
theorem icZ_ok : icZ.ok := by refine ⟨?_, ?_, ?_, ?_⟩ <;> first | (show (Lit.int _ 0).wf = true; decide) | (show 0 ≤ maxLen; decide)

/-- A message that lies in a block of its own. -/
def IcAt (w : World) (n : Nat) (f : Ic) : Prop := w.heap[n]? = some (.cells (icC f) 49 (0, 0))
section
variable {w w' : World} {n : Nat} {f : Ic}
theorem IcAt.kd (h : IcAt w n f) : w.cell? ⟨n, 0, none⟩ = some (.int .i64 f.kd) := by rw [cell_of_block h]; rfl
theorem IcAt.co (h : IcAt w n f) : w.cell? ⟨n, 1, none⟩ = some (.int .i64 f.co) := by rw [cell_of_block h]; rfl
theorem IcAt.re (h : IcAt w n f) : w.cell? ⟨n, 2, none⟩ = some (.int .u32 f.re) := by rw [cell_of_block h]; rfl
theorem IcAt.da (h : IcAt w n f) : w.cell? ⟨n, 3, none⟩ = some (.string f.da) := by rw [cell_of_block h]; rfl
theorem IcAt.free (h : IcAt w n f) (k : Nat) : w.frozen? ⟨n, k, none⟩ = false := by simp [World.frozen?, show w.heap[n]? = _ from h]
theorem IcAt.kept (h : IcAt w n f) (k : w'.heap[n]? = w.heap[n]?) : IcAt w' n f := k.trans h
theorem IcAt.grow (h : IcAt w n f) (hb : Below w.heap.size w w') : IcAt w' n f := (hb.block n (lt_of_block h)).trans h
theorem IcAt.lt (h : IcAt w n f) : n < w.heap.size := lt_of_block h
theorem IcAt.all (h : IcAt w n f) : w.cell? ⟨n, 0, none⟩ = some (.int .i64 f.kd) ∧ w.cell? ⟨n, 1, none⟩ = some (.int .i64 f.co) ∧ w.cell? ⟨n, 2, none⟩ = some (.int .u32 f.re) ∧ w.cell? ⟨n, 3, none⟩ = some (.string f.da) := by
  refine ⟨?_, ?_, ?_, ?_⟩ <;> (rw [cell_of_block h]; rfl)
/-- A block of a message's size. -/
def IcRoom (w : World) (n : Nat) : Prop := ∃ cs : Array Value, cs.size = 4 ∧ w.heap[n]? = some (.cells cs 49 (0, 0))
theorem IcRoom.lt (h : IcRoom w n) : n < w.heap.size := by
  obtain ⟨cs, _, h⟩ := h
  exact (Array.getElem?_eq_some_iff.1 h).1
theorem IcRoom.kept (h : IcRoom w n) (k : w'.heap[n]? = w.heap[n]?) : IcRoom w' n := by
  obtain ⟨cs, h0, h⟩ := h
  exact ⟨cs, h0, k.trans h⟩
theorem IcRoom.grow (h : IcRoom w n) (hb : Below w.heap.size w w') : IcRoom w' n := h.kept (hb.block n h.lt)
theorem IcAt.room (h : IcAt w n f) : IcRoom w n := ⟨_, rfl, h⟩
theorem IcRoom.put (h : IcRoom w n) (f : Ic) :
    (storeVar 49 ⟨n, 0, none⟩ (.agg (icC f))).run Try.prog w = .ok () (w.setRow n (icC f)) ∧ IcAt (w.setRow n (icC f)) n f := by
  obtain ⟨cs, h0, h⟩ := h
  refine ⟨run_storeVar_row (P := Try.prog) w n 49 49 cs (icC f) h (by kernel_rfl) h0 (icC_one f), ?_⟩
  exact setRow_heap w n cs _ _ _ h
end
theorem icroom_new (w : World) (n : Nat) (cs : Array Value) (hs : cs.size = 4) (h : n = w.heap.size) : IcRoom (w.alloc (.cells cs 49)) n := by rw [h]; exact ⟨cs, hs, heap_alloc_new w _⟩
theorem ic_new (w : World) (n : Nat) (f : Ic) (h : n = w.heap.size) : IcAt (w.alloc (.cells (icC f) 49)) n f := by rw [h]; exact heap_alloc_new w _
/-- A store of a message into the block that was made last. -/
theorem ic_store (w : World) (f : Ic) : (storeVar 49 ⟨w.heap.size, 0, none⟩ (.agg (icC f))).run Try.prog (w.alloc (.cells #[.int .i64 0, .int .i64 0, .int .u32 0, .string ⟨#[]⟩] 49)) = .ok () (w.alloc (.cells (icC f) 49)) :=
  run_storeVar_new (P := Try.prog) w 49 #[.int .i64 0, .int .i64 0, .int .u32 0, .string ⟨#[]⟩] (icC f) (by kernel_rfl) rfl (icC_one f)
section
variable {ops : Array Oper} {rest : List Oper} {S : World → Prop} {o : Oper} {a : Act} {w : World} {Q : Exit → Act → World → Prop}
theorem guard_ic : Try.prog.eqGuardType Try.prog.depth 49 = false := by kernel_rfl
/-- A message is read whole. -/
theorem yields_ic (hw : Region.wanted o (yielded ops a.tmps) = true) (x : Operand) (ho : o.op = .load 49 x)
    (b : Nat) (hx : a.eval x = .pointer (some ⟨b, 0, none⟩)) (f : Ic) (hS : ∀ w, S w → IcAt w b f) : YieldsIf Try.prog ops S o (.agg (icC f)) a :=
  .inl ⟨hw, fun w h => exec_load 49 x ho b hx (icC f) _ (hS w h) Try.underlying49 rfl (by kernel_rfl)⟩
theorem ic_ld (hw : Region.wanted o (yielded ops a.tmps) = true) (x : Operand) (ho : o.op = .load 49 x)
    (b : Nat) (hx : a.eval x = .pointer (some ⟨b, 0, none⟩)) (f : Ic) (hb : IcAt w b f) (h : wpList Try.prog ops Q rest (a.put o.dst (.agg (icC f))) w) : wpList Try.prog ops Q (o :: rest) a w :=
  wpList_value hw _ (exec_load 49 x ho b hx (icC f) _ hb Try.underlying49 rfl (by kernel_rfl)) h
/-- Two messages are compared. -/
theorem ic_eq (hw : Region.wanted o (yielded ops a.tmps) = true) (x y : Operand) (t : TypeId) (ho : o.op = .binOp .eql 49 x y t) (f g : Ic) (hx : a.eval x = .agg (icC f)) (hy : a.eval y = .agg (icC g))
    (r : Bool) (hr : ∀ w, (Op.equalIn 10000 49 (.agg (icC f)) (.agg (icC g))).run Try.prog w = .ok r w) (h : wpList Try.prog ops Q rest (a.put o.dst (.bool r)) w) : wpList Try.prog ops Q (o :: rest) a w :=
  wpList_value hw _ (exec_eql _ _ _ _ ho _ _ hx hy guard_ic r (hr w)) h
theorem ic_neq (hw : Region.wanted o (yielded ops a.tmps) = true) (x y : Operand) (t : TypeId) (ho : o.op = .binOp .neq 49 x y t) (f g : Ic) (hx : a.eval x = .agg (icC f)) (hy : a.eval y = .agg (icC g))
    (r : Bool) (hr : ∀ w, (Op.equalIn 10000 49 (.agg (icC f)) (.agg (icC g))).run Try.prog w = .ok r w) (h : wpList Try.prog ops Q rest (a.put o.dst (.bool (!r))) w) : wpList Try.prog ops Q (o :: rest) a w :=
  wpList_value hw _ (exec_neq _ _ _ _ ho _ _ hx hy guard_ic r (hr w)) h
end
theorem eqli (f g : Ic) (hf : f.ok) (hg : g.ok) (r : Bool) (hr : decide (f = g) = r) (w : World) : (Op.equalIn 10000 49 (.agg (icC f)) (.agg (icC g))).run Try.prog w = .ok r w := by
  rw [eql_ic w f g hf hg, hr]

section
variable {H : Type} {enc : TypeId × Value → H} {w : World} {base : Nat} {spare : Nat → Bool} {held : Bool}
set_option maxRecDepth 100000 in
theorem icmp_in {fuel : Nat} {cs : List Value} (hsz : cs.length = 4) {y : DataW H × List MemPlace} (hf : DataW.trod enc Try.prog w base spare held fuel 49 cs = some y) : ∃ f : Ic, cs = (icC f).toList ∧ f.ok := by
  obtain ⟨xs, n, _, _, hl, hlen, hg⟩ := DataW.trod_struct Try.underlying49 hf
  have hx : ∀ i, i < 4 → ∃ y, xs[i]? = some y := fun i hi => ⟨xs[i]'(by rw [hlen]; exact hi), List.getElem?_eq_getElem _⟩
  obtain ⟨y0, e0⟩ := hx 0 (by decide)
  obtain ⟨y1, e1⟩ := hx 1 (by decide)
  obtain ⟨y2, e2⟩ := hx 2 (by decide)
  obtain ⟨y3, e3⟩ := hx 3 (by decide)
  have g0 : DataW.trod enc Try.prog w base spare held n 3 ((cs.drop 0).take (Try.prog.cellsOf 3)) = some y0 := (hg 0 _ rfl).trans e0
  have g1 : DataW.trod enc Try.prog w base spare held n 3 ((cs.drop 1).take (Try.prog.cellsOf 3)) = some y1 := (hg 1 _ rfl).trans e1
  have g2 : DataW.trod enc Try.prog w base spare held n 47 ((cs.drop 2).take (Try.prog.cellsOf 47)) = some y2 := (hg 2 _ rfl).trans e2
  have g3 : DataW.trod enc Try.prog w base spare held n 9 ((cs.drop 3).take (Try.prog.cellsOf 9)) = some y3 := (hg 3 _ rfl).trans e3
  match cs, hsz with
  | [c0, c1, c2, c3], _ =>
    rw [cells_int] at g0 g1
    rw [cells_u32] at g2
    rw [cells_str] at g3
    obtain ⟨v0, h0, _, u0⟩ := DataW.trod_int (cs := [c0]) Try.underlying3 g0
    obtain ⟨v1, h1, _, u1⟩ := DataW.trod_int (cs := [c1]) Try.underlying3 g1
    obtain ⟨v2, h2, _, u2⟩ := DataW.trod_int (cs := [c2]) Try.underlying47 g2
    obtain ⟨v3, h3, _, u3⟩ := DataW.trod_string (cs := [c3]) Try.underlying9 g3
    simp only [List.cons.injEq, and_true] at h0 h1 h2 h3
    subst h0 h1 h2 h3
    exact ⟨⟨v0, v1, v2, v3⟩, rfl, u0, u1, u2, u3⟩
set_option maxRecDepth 100000 in
theorem open_icmp {r : Reach} {b0 : Nat} {v : Value} {d : DataW H} {ps : List MemPlace} (hval : Value.okWide Try.prog w r b0 49 v) (hd : DataW.Trod enc Try.prog w base spare held 49 v d ps) : ∃ f : Ic, v = .agg (icC f) ∧ f.ok := by
  obtain ⟨cs, rfl, hsz⟩ := okWide_struct Try.underlying49 hval
  rw [cells_ic] at hsz
  obtain ⟨fuel, hf⟩ := hd
  obtain ⟨f, h1, h2⟩ := icmp_in (by show cs.toList.length = 4; rw [Array.length_toList]; exact hsz) hf
  refine ⟨f, ?_, h2⟩
  have : cs = icC f := Array.toList_inj.1 h1
  rw [this]
end

end Go.Proofs.Ytapfkhhabamndaa
