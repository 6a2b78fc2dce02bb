/-
  Layers 10 and 15: segments as values and in memory, and those that come in; two are equal in Go just if they are the same. Conditions: a segment's numbers are numbers of their kind, its data no longer than a string may be.
-/
import Derived.Test.YtlajalfalepbhaaRbH
import Derived.Test.YtlajalfalepbhaaEthA
import Derived.Test.YtlajalfalepbhaaKeep
import Derived.Deep.WholeRow
namespace Go.Proofs.Ytlajalfalepbhaa
open Go.ChangeShapes Go.WideShapes Go.ChangeAt Go.RowKit Go.Sort
set_option linter.unusedVariables false

theorem lt_of_block {w : World} {b : Nat} {o : Obj} (e : w.heap[b]? = some o) : b < w.heap.size := (Array.getElem?_eq_some_iff.1 e).1
theorem cells_u32 : Try.prog.cellsOf 26 = 1 := by kernel_rfl
theorem lits_u32 (x : Int) (h : (Lit.int .u32 x).wf = true) (d : Nat) : Try.prog.keyLits (d + 1) 26 [.int .u32 x] = some [.int .u32 x] := by
  simp [Program.keyLits, Try.underlying26, h]
/-- A segment. -/
structure Sg where
  fr : Int
  dt : Int
  sq : Int
  ak : Int
  fl : Int
  wi : Int
  ms : Int
  da : ByteArray
theorem Sg.same {x y : Sg} (h : x.fr = y.fr ∧ x.dt = y.dt ∧ x.sq = y.sq ∧ x.ak = y.ak ∧ x.fl = y.fl ∧ x.wi = y.wi ∧ x.ms = y.ms ∧ x.da = y.da) : x = y := by
  cases x; cases y
  obtain ⟨rfl, rfl, rfl, rfl, rfl, rfl, rfl, rfl⟩ := h
  rfl
instance : DecidableEq Sg := fun x y => decidable_of_iff (x.fr = y.fr ∧ x.dt = y.dt ∧ x.sq = y.sq ∧ x.ak = y.ak ∧ x.fl = y.fl ∧ x.wi = y.wi ∧ x.ms = y.ms ∧ x.da = y.da) ⟨Sg.same, fun h => by rw [h]; exact ⟨rfl, rfl, rfl, rfl, rfl, rfl, rfl, rfl⟩⟩
/-- A segment as Go's own values. -/
def Sg.ok (f : Sg) : Prop := (Lit.int .i64 f.fr).wf = true ∧ (Lit.int .i64 f.dt).wf = true ∧ (Lit.int .u32 f.sq).wf = true ∧ (Lit.int .u32 f.ak).wf = true ∧ (Lit.int .i64 f.fl).wf = true ∧ (Lit.int .i64 f.wi).wf = true ∧ (Lit.int .i64 f.ms).wf = true ∧ f.da.size ≤ maxLen
def Sg.lits (f : Sg) : List Lit := [.int .i64 f.fr, .int .i64 f.dt, .int .u32 f.sq, .int .u32 f.ak, .int .i64 f.fl, .int .i64 f.wi, .int .i64 f.ms, .string f.da.data.toList]
theorem Sg.lits_inj {x y : Sg} : x.lits = y.lits ↔ x = y := by
  constructor
  · intro h
    simp only [Sg.lits, List.cons.injEq, Lit.int.injEq, Lit.string.injEq, true_and, and_true] at h
    obtain ⟨e1, e2, e3, e4, e5, e6, e7, e8⟩ := h
    rw [Array.toList_inj] at e8
    exact Sg.same ⟨e1, e2, e3, e4, e5, e6, e7, ByteArray.ext e8⟩
  · rintro rfl; rfl
theorem cells_sg : Try.prog.cellsOf 28 = 8 := by kernel_rfl
theorem sg_lits (f : Sg) (h : f.ok) (d : Nat) : Try.prog.keyLits (d + 3) 28 [.int .i64 f.fr, .int .i64 f.dt, .int .u32 f.sq, .int .u32 f.ak, .int .i64 f.fl, .int .i64 f.wi, .int .i64 f.ms, .string f.da] = some f.lits := by
  obtain ⟨h1, h2, h3, h4, h5, h6, h7, h8⟩ := h
  unfold Program.keyLits
  simp only [Try.underlying28, cells_sg]
  simp [cells_int, cells_str, cells_u32, lits_int _ h1, lits_int _ h2, lits_u32 _ h3, lits_u32 _ h4, lits_int _ h5, lits_int _ h6, lits_int _ h7, lits_str _ h8, Sg.lits]
theorem key_sg : Try.prog.keyTypeAt 3 28 = true := by kernel_rfl

/-- The cells of a segment, kept closed. -/
def sgC (f : Sg) : Array Value := #[.int .i64 f.fr, .int .i64 f.dt, .int .u32 f.sq, .int .u32 f.ak, .int .i64 f.fl, .int .i64 f.wi, .int .i64 f.ms, .string f.da]
theorem sgC_one (f : Sg) : (sgC f).all (·.oneCell') = true := by simp [sgC, Value.oneCell']
theorem sgC_size (f : Sg) : (sgC f).size = 8 := rfl
theorem eql_sg (w : World) (x y : Sg) (hx : x.ok) (hy : y.ok) : (Op.equalIn 10000 28 (.agg (sgC x)) (.agg (sgC y))).run Try.prog w = .ok (decide (x = y)) w := by
  obtain ⟨r, hr, hi⟩ := run_equalIn_deep (P := Try.prog) 9997 3 28 key_sg w 3 3 (.agg (sgC x)) (.agg (sgC y)) _ _ (by kernel_rfl) (by kernel_rfl) (sg_lits x hx 0) (sg_lits y hy 0)
  rw [hr]
  rw [Sg.lits_inj] at hi
  have : r = decide (x = y) := by rw [Bool.eq_iff_iff, hi]; simp
  rw [this]

def sgZ : Sg := ⟨0, 0, 0, 0, 0, 0, 0, ⟨#[]⟩⟩
theorem sgZ_ok : sgZ.ok := by refine ⟨?_, ?_, ?_, ?_, ?_, ?_, ?_, ?_⟩ <;> first | (show (Lit.int _ 0).wf = true; decide) | (show 0 ≤ maxLen; decide)

/-- A segment that lies in a block of its own. -/
def SgAt (w : World) (n : Nat) (f : Sg) : Prop := w.heap[n]? = some (.cells (sgC f) 28 (0, 0))
section
variable {w w' : World} {n : Nat} {f : Sg}
theorem SgAt.fr (h : SgAt w n f) : w.cell? ⟨n, 0, none⟩ = some (.int .i64 f.fr) := by rw [cell_of_block h]; rfl
theorem SgAt.dt (h : SgAt w n f) : w.cell? ⟨n, 1, none⟩ = some (.int .i64 f.dt) := by rw [cell_of_block h]; rfl
theorem SgAt.sq (h : SgAt w n f) : w.cell? ⟨n, 2, none⟩ = some (.int .u32 f.sq) := by rw [cell_of_block h]; rfl
theorem SgAt.ak (h : SgAt w n f) : w.cell? ⟨n, 3, none⟩ = some (.int .u32 f.ak) := by rw [cell_of_block h]; rfl
theorem SgAt.fl (h : SgAt w n f) : w.cell? ⟨n, 4, none⟩ = some (.int .i64 f.fl) := by rw [cell_of_block h]; rfl
theorem SgAt.wi (h : SgAt w n f) : w.cell? ⟨n, 5, none⟩ = some (.int .i64 f.wi) := by rw [cell_of_block h]; rfl
theorem SgAt.ms (h : SgAt w n f) : w.cell? ⟨n, 6, none⟩ = some (.int .i64 f.ms) := by rw [cell_of_block h]; rfl
theorem SgAt.da (h : SgAt w n f) : w.cell? ⟨n, 7, none⟩ = some (.string f.da) := by rw [cell_of_block h]; rfl
theorem SgAt.free (h : SgAt w n f) (k : Nat) : w.frozen? ⟨n, k, none⟩ = false := by simp [World.frozen?, show w.heap[n]? = _ from h]
theorem SgAt.kept (h : SgAt w n f) (k : w'.heap[n]? = w.heap[n]?) : SgAt w' n f := k.trans h
theorem SgAt.grow (h : SgAt w n f) (hb : Below w.heap.size w w') : SgAt w' n f := (hb.block n (lt_of_block h)).trans h
theorem SgAt.lt (h : SgAt w n f) : n < w.heap.size := lt_of_block h
theorem SgAt.all (h : SgAt w n f) : w.cell? ⟨n, 0, none⟩ = some (.int .i64 f.fr) ∧ w.cell? ⟨n, 1, none⟩ = some (.int .i64 f.dt) ∧ w.cell? ⟨n, 2, none⟩ = some (.int .u32 f.sq) ∧ w.cell? ⟨n, 3, none⟩ = some (.int .u32 f.ak) ∧ w.cell? ⟨n, 4, none⟩ = some (.int .i64 f.fl) ∧ w.cell? ⟨n, 5, none⟩ = some (.int .i64 f.wi) ∧ w.cell? ⟨n, 6, none⟩ = some (.int .i64 f.ms) ∧ w.cell? ⟨n, 7, none⟩ = some (.string f.da) := by
  refine ⟨?_, ?_, ?_, ?_, ?_, ?_, ?_, ?_⟩ <;> (rw [cell_of_block h]; rfl)
/-- A block of a segment's size. -/
def SgRoom (w : World) (n : Nat) : Prop := ∃ cs : Array Value, cs.size = 8 ∧ w.heap[n]? = some (.cells cs 28 (0, 0))
theorem SgRoom.lt (h : SgRoom w n) : n < w.heap.size := by
  obtain ⟨cs, _, h⟩ := h
  exact (Array.getElem?_eq_some_iff.1 h).1
theorem SgRoom.kept (h : SgRoom w n) (k : w'.heap[n]? = w.heap[n]?) : SgRoom w' n := by
  obtain ⟨cs, h0, h⟩ := h
  exact ⟨cs, h0, k.trans h⟩
theorem SgRoom.grow (h : SgRoom w n) (hb : Below w.heap.size w w') : SgRoom w' n := h.kept (hb.block n h.lt)
theorem SgAt.room (h : SgAt w n f) : SgRoom w n := ⟨_, rfl, h⟩
theorem SgRoom.put (h : SgRoom w n) (f : Sg) :
    (storeVar 28 ⟨n, 0, none⟩ (.agg (sgC f))).run Try.prog w = .ok () (w.setRow n (sgC f)) ∧ SgAt (w.setRow n (sgC f)) n f := by
  obtain ⟨cs, h0, h⟩ := h
  refine ⟨run_storeVar_row (P := Try.prog) w n 28 28 cs (sgC f) h (by kernel_rfl) h0 (sgC_one f), ?_⟩
  exact setRow_heap w n cs _ _ _ h
/-- One cell is written. -/
theorem SgAt.msSet (h : SgAt w n f) (x : Int) : SgAt (w.setCell ⟨n, 6, none⟩ (.int .i64 x)) n { f with ms := x } := by
  have h' : w.heap[n]? = some (.cells (sgC f) 28 (0, 0)) := h
  show (w.setCell ⟨n, 6, none⟩ (.int .i64 x)).heap[n]? = _
  simp [World.setCell, Array.getElem?_modify, h', sgC]
end
theorem sgroom_new (w : World) (n : Nat) (cs : Array Value) (hs : cs.size = 8) (h : n = w.heap.size) : SgRoom (w.alloc (.cells cs 28)) n := by rw [h]; exact ⟨cs, hs, heap_alloc_new w _⟩
theorem sg_new (w : World) (n : Nat) (f : Sg) (h : n = w.heap.size) : SgAt (w.alloc (.cells (sgC f) 28)) n f := by rw [h]; exact heap_alloc_new w _
/-- A store of a segment into the block that was made last. -/
theorem sg_store (w : World) (f : Sg) : (storeVar 28 ⟨w.heap.size, 0, none⟩ (.agg (sgC f))).run Try.prog (w.alloc (.cells #[.int .i64 0, .int .i64 0, .int .u32 0, .int .u32 0, .int .i64 0, .int .i64 0, .int .i64 0, .string ⟨#[]⟩] 28)) = .ok () (w.alloc (.cells (sgC f) 28)) :=
  run_storeVar_new (P := Try.prog) w 28 #[.int .i64 0, .int .i64 0, .int .u32 0, .int .u32 0, .int .i64 0, .int .i64 0, .int .i64 0, .string ⟨#[]⟩] (sgC f) (by kernel_rfl) rfl (sgC_one f)
section
variable {ops : Array Oper} {rest : List Oper} {S : World → Prop} {o : Oper} {a : Act} {w : World} {Q : Exit → Act → World → Prop}
theorem guard_sg : Try.prog.eqGuardType Try.prog.depth 28 = false := by kernel_rfl
/-- A segment is read whole. -/
theorem yields_sg (hw : Region.wanted o (yielded ops a.tmps) = true) (x : Operand) (ho : o.op = .load 28 x)
    (b : Nat) (hx : a.eval x = .pointer (some ⟨b, 0, none⟩)) (f : Sg) (hS : ∀ w, S w → SgAt w b f) : YieldsIf Try.prog ops S o (.agg (sgC f)) a :=
  .inl ⟨hw, fun w h => exec_load 28 x ho b hx (sgC f) _ (hS w h) Try.underlying28 rfl (by kernel_rfl)⟩
theorem sg_ld (hw : Region.wanted o (yielded ops a.tmps) = true) (x : Operand) (ho : o.op = .load 28 x)
    (b : Nat) (hx : a.eval x = .pointer (some ⟨b, 0, none⟩)) (f : Sg) (hb : SgAt w b f) (h : wpList Try.prog ops Q rest (a.put o.dst (.agg (sgC f))) w) : wpList Try.prog ops Q (o :: rest) a w :=
  wpList_value hw _ (exec_load 28 x ho b hx (sgC f) _ hb Try.underlying28 rfl (by kernel_rfl)) h
/-- Two segments are compared. -/
theorem sg_eq (hw : Region.wanted o (yielded ops a.tmps) = true) (x y : Operand) (t : TypeId) (ho : o.op = .binOp .eql 28 x y t) (f g : Sg) (hx : a.eval x = .agg (sgC f)) (hy : a.eval y = .agg (sgC g))
    (r : Bool) (hr : ∀ w, (Op.equalIn 10000 28 (.agg (sgC f)) (.agg (sgC g))).run Try.prog w = .ok r w) (h : wpList Try.prog ops Q rest (a.put o.dst (.bool r)) w) : wpList Try.prog ops Q (o :: rest) a w :=
  wpList_value hw _ (exec_eql _ _ _ _ ho _ _ hx hy guard_sg r (hr w)) h
theorem sg_neq (hw : Region.wanted o (yielded ops a.tmps) = true) (x y : Operand) (t : TypeId) (ho : o.op = .binOp .neq 28 x y t) (f g : Sg) (hx : a.eval x = .agg (sgC f)) (hy : a.eval y = .agg (sgC g))
    (r : Bool) (hr : ∀ w, (Op.equalIn 10000 28 (.agg (sgC f)) (.agg (sgC g))).run Try.prog w = .ok r w) (h : wpList Try.prog ops Q rest (a.put o.dst (.bool (!r))) w) : wpList Try.prog ops Q (o :: rest) a w :=
  wpList_value hw _ (exec_neq _ _ _ _ ho _ _ hx hy guard_sg r (hr w)) h
end
theorem eqls (f g : Sg) (hf : f.ok) (hg : g.ok) (r : Bool) (hr : decide (f = g) = r) (w : World) : (Op.equalIn 10000 28 (.agg (sgC f)) (.agg (sgC g))).run Try.prog w = .ok r w := by
  rw [eql_sg w f g hf hg, hr]

section
variable {H : Type} {enc : TypeId × Value → H} {w : World} {base : Nat} {spare : Nat → Bool} {held : Bool}
set_option maxRecDepth 100000 in
theorem seg_in {fuel : Nat} {cs : List Value} (hsz : cs.length = 8) {y : DataW H × List MemPlace} (hf : DataW.trod enc Try.prog w base spare held fuel 28 cs = some y) : ∃ f : Sg, cs = (sgC f).toList ∧ f.ok := by
  obtain ⟨xs, n, _, _, hl, hlen, hg⟩ := DataW.trod_struct Try.underlying28 hf
  have hx : ∀ i, i < 8 → ∃ y, xs[i]? = some y := fun i hi => ⟨xs[i]'(by rw [hlen]; exact hi), List.getElem?_eq_getElem _⟩
  obtain ⟨y0, e0⟩ := hx 0 (by decide)
  obtain ⟨y1, e1⟩ := hx 1 (by decide)
  obtain ⟨y2, e2⟩ := hx 2 (by decide)
  obtain ⟨y3, e3⟩ := hx 3 (by decide)
  obtain ⟨y4, e4⟩ := hx 4 (by decide)
  obtain ⟨y5, e5⟩ := hx 5 (by decide)
  obtain ⟨y6, e6⟩ := hx 6 (by decide)
  obtain ⟨y7, e7⟩ := hx 7 (by decide)
  have g0 : DataW.trod enc Try.prog w base spare held n 3 ((cs.drop 0).take (Try.prog.cellsOf 3)) = some y0 := (hg 0 _ rfl).trans e0
  have g1 : DataW.trod enc Try.prog w base spare held n 3 ((cs.drop 1).take (Try.prog.cellsOf 3)) = some y1 := (hg 1 _ rfl).trans e1
  have g2 : DataW.trod enc Try.prog w base spare held n 26 ((cs.drop 2).take (Try.prog.cellsOf 26)) = some y2 := (hg 2 _ rfl).trans e2
  have g3 : DataW.trod enc Try.prog w base spare held n 26 ((cs.drop 3).take (Try.prog.cellsOf 26)) = some y3 := (hg 3 _ rfl).trans e3
  have g4 : DataW.trod enc Try.prog w base spare held n 3 ((cs.drop 4).take (Try.prog.cellsOf 3)) = some y4 := (hg 4 _ rfl).trans e4
  have g5 : DataW.trod enc Try.prog w base spare held n 3 ((cs.drop 5).take (Try.prog.cellsOf 3)) = some y5 := (hg 5 _ rfl).trans e5
  have g6 : DataW.trod enc Try.prog w base spare held n 3 ((cs.drop 6).take (Try.prog.cellsOf 3)) = some y6 := (hg 6 _ rfl).trans e6
  have g7 : DataW.trod enc Try.prog w base spare held n 9 ((cs.drop 7).take (Try.prog.cellsOf 9)) = some y7 := (hg 7 _ rfl).trans e7
  match cs, hsz with
  | [c0, c1, c2, c3, c4, c5, c6, c7], _ =>
    rw [cells_int] at g0
    rw [cells_int] at g1
    rw [cells_u32] at g2
    rw [cells_u32] at g3
    rw [cells_int] at g4
    rw [cells_int] at g5
    rw [cells_int] at g6
    rw [cells_str] at g7
    obtain ⟨v0, h0, _, u0⟩ := DataW.trod_int (cs := [c0]) Try.underlying3 g0
    obtain ⟨v1, h1, _, u1⟩ := DataW.trod_int (cs := [c1]) Try.underlying3 g1
    obtain ⟨v2, h2, _, u2⟩ := DataW.trod_int (cs := [c2]) Try.underlying26 g2
    obtain ⟨v3, h3, _, u3⟩ := DataW.trod_int (cs := [c3]) Try.underlying26 g3
    obtain ⟨v4, h4, _, u4⟩ := DataW.trod_int (cs := [c4]) Try.underlying3 g4
    obtain ⟨v5, h5, _, u5⟩ := DataW.trod_int (cs := [c5]) Try.underlying3 g5
    obtain ⟨v6, h6, _, u6⟩ := DataW.trod_int (cs := [c6]) Try.underlying3 g6
    obtain ⟨v7, h7, _, u7⟩ := DataW.trod_string (cs := [c7]) Try.underlying9 g7
    simp only [List.cons.injEq, and_true] at h0 h1 h2 h3 h4 h5 h6 h7
    subst h0 h1 h2 h3 h4 h5 h6 h7
    exact ⟨⟨v0, v1, v2, v3, v4, v5, v6, v7⟩, rfl, u0, u1, u2, u3, u4, u5, u6, u7⟩
set_option maxRecDepth 100000 in
theorem open_seg {r : Reach} {b0 : Nat} {v : Value} {d : DataW H} {ps : List MemPlace} (hval : Value.okWide Try.prog w r b0 28 v) (hd : DataW.Trod enc Try.prog w base spare held 28 v d ps) : ∃ f : Sg, v = .agg (sgC f) ∧ f.ok := by
  obtain ⟨cs, rfl, hsz⟩ := okWide_struct Try.underlying28 hval
  rw [cells_sg] at hsz
  obtain ⟨fuel, hf⟩ := hd
  obtain ⟨f, h1, h2⟩ := seg_in (by show cs.toList.length = 8; rw [Array.length_toList]; exact hsz) hf
  refine ⟨f, ?_, h2⟩
  have : cs = sgC f := Array.toList_inj.1 h1
  rw [this]
end

end Go.Proofs.Ytlajalfalepbhaa
