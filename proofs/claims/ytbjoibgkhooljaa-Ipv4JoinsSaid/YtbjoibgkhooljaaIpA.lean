/-
  Layer 8: packets of the Internet as values and in memory; two are equal in Go just if they are the same. Conditions: a packet's numbers are numbers of their kind, its data no longer than a string may be.
-/
import Derived.Test.YtbjoibgkhooljaaArpB
import Derived.Test.YtbjoibgkhooljaaKeep
namespace Go.Proofs.Ytbjoibgkhooljaa
open Go.RowKit Go.Sort
set_option linter.unusedVariables false

/-- A packet. -/
structure Pd where
  id : Int
  sr : Ip4
  ds : Ip4
  pr : Int
  tl : Int
  ps : Int
  mo : Bool
  da : ByteArray
theorem Pd.same {x y : Pd} (h : x.id = y.id ∧ x.sr = y.sr ∧ x.ds = y.ds ∧ x.pr = y.pr ∧ x.tl = y.tl ∧ x.ps = y.ps ∧ x.mo = y.mo ∧ x.da = y.da) : x = y := by
  cases x; cases y
  obtain ⟨rfl, rfl, rfl, rfl, rfl, rfl, rfl, rfl⟩ := h
  rfl
instance : DecidableEq Pd := fun x y => decidable_of_iff (x.id = y.id ∧ x.sr = y.sr ∧ x.ds = y.ds ∧ x.pr = y.pr ∧ x.tl = y.tl ∧ x.ps = y.ps ∧ x.mo = y.mo ∧ x.da = y.da) ⟨Pd.same, fun h => by rw [h]; exact ⟨rfl, rfl, rfl, rfl, rfl, rfl, rfl, rfl⟩⟩
/-- A packet as Go's own values. -/
def Pd.ok (f : Pd) : Prop := (Lit.int .i64 f.id).wf = true ∧ (Lit.int .i64 f.pr).wf = true ∧ (Lit.int .i64 f.tl).wf = true ∧ (Lit.int .i64 f.ps).wf = true ∧ f.da.size ≤ maxLen
def Pd.lits (f : Pd) : List Lit := .int .i64 f.id :: (f.sr.lits ++ f.ds.lits ++ [.int .i64 f.pr, .int .i64 f.tl, .int .i64 f.ps, .bool f.mo, .string f.da.data.toList])
theorem Pd.lits_inj {x y : Pd} : x.lits = y.lits ↔ x = y := by
  constructor
  · intro h
    simp only [Pd.lits, List.cons.injEq, Lit.int.injEq, true_and] at h
    have h1 := List.append_inj h.2 (by simp [lits_len4])
    have h2 := List.append_inj h1.1 (by simp [lits_len4])
    have h3 := h1.2
    simp only [List.cons.injEq, Lit.int.injEq, Lit.string.injEq, Lit.bool.injEq, true_and, and_true] at h3
    obtain ⟨e1, e2, e3, e4, e5⟩ := h3
    rw [Array.toList_inj] at e5
    exact Pd.same ⟨h.1, Ip4.lits_inj.1 h2.1, Ip4.lits_inj.1 h2.2, e1, e2, e3, e4, ByteArray.ext e5⟩
  · rintro rfl; rfl
theorem cells_pd : Try.prog.cellsOf 35 = 14 := by kernel_rfl
theorem cells_bool : Try.prog.cellsOf 4 = 1 := by kernel_rfl
theorem lits_bool (b : Bool) (d : Nat) : Try.prog.keyLits (d + 1) 4 [.bool b] = some [.bool b] := by
  simp [Program.keyLits, Try.underlying4]
theorem pd_lits (f : Pd) (h : f.ok) (d : Nat) : Try.prog.keyLits (d + 3) 35 [.int .i64 f.id, .int .u8 (f.sr.a.toNat : Int), .int .u8 (f.sr.b.toNat : Int), .int .u8 (f.sr.c.toNat : Int), .int .u8 (f.sr.d.toNat : Int), .int .u8 (f.ds.a.toNat : Int), .int .u8 (f.ds.b.toNat : Int), .int .u8 (f.ds.c.toNat : Int), .int .u8 (f.ds.d.toNat : Int), .int .i64 f.pr, .int .i64 f.tl, .int .i64 f.ps, .bool f.mo, .string f.da] = some f.lits := by
  unfold Program.keyLits
  simp only [Try.underlying35, cells_pd]
  simp [cells_int, cells_str, cells_ip, cells_bool, ip_lits, lits_int _ h.1, lits_int _ h.2.1, lits_int _ h.2.2.1, lits_int _ h.2.2.2.1, lits_bool, lits_str _ h.2.2.2.2, Pd.lits]
theorem key_pd : Try.prog.keyTypeAt 3 35 = true := by kernel_rfl

/-- The cells of a packet, kept closed. -/
def pdC (f : Pd) : Array Value := #[.int .i64 f.id, .int .u8 (f.sr.a.toNat : Int), .int .u8 (f.sr.b.toNat : Int), .int .u8 (f.sr.c.toNat : Int), .int .u8 (f.sr.d.toNat : Int), .int .u8 (f.ds.a.toNat : Int), .int .u8 (f.ds.b.toNat : Int), .int .u8 (f.ds.c.toNat : Int), .int .u8 (f.ds.d.toNat : Int), .int .i64 f.pr, .int .i64 f.tl, .int .i64 f.ps, .bool f.mo, .string f.da]
theorem pdC_one (f : Pd) : (pdC f).all (·.oneCell') = true := by simp [pdC, Value.oneCell']
theorem pdC_size (f : Pd) : (pdC f).size = 14 := rfl
theorem eql_pd (w : World) (x y : Pd) (hx : x.ok) (hy : y.ok) : (Op.equalIn 10000 35 (.agg (pdC x)) (.agg (pdC y))).run Try.prog w = .ok (decide (x = y)) w := by
  obtain ⟨r, hr, hi⟩ := run_equalIn_deep (P := Try.prog) 9997 3 35 key_pd w 3 3 (.agg (pdC x)) (.agg (pdC y)) _ _ (by kernel_rfl) (by kernel_rfl) (pd_lits x hx 0) (pd_lits y hy 0)
  rw [hr]
  rw [Pd.lits_inj] at hi
  have : r = decide (x = y) := by rw [Bool.eq_iff_iff, hi]; simp
  rw [this]

def pdZ : Pd := ⟨0, ⟨0, 0, 0, 0⟩, ⟨0, 0, 0, 0⟩, 0, 0, 0, false, ⟨#[]⟩⟩
theorem pdZ_ok : pdZ.ok := by refine ⟨?_, ?_, ?_, ?_, ?_⟩ <;> first | (show (Lit.int .i64 0).wf = true; decide) | (show 0 ≤ maxLen; decide)

/-- A packet that lies in a block of its own. -/
def PdAt (w : World) (n : Nat) (f : Pd) : Prop := w.heap[n]? = some (.cells (pdC f) 35 (0, 0))
section
variable {w w' : World} {n : Nat} {f : Pd}
theorem PdAt.id (h : PdAt w n f) : w.cell? ⟨n, 0, none⟩ = some (.int .i64 f.id) := by rw [cell_of_block h]; rfl
theorem PdAt.pr (h : PdAt w n f) : w.cell? ⟨n, 9, none⟩ = some (.int .i64 f.pr) := by rw [cell_of_block h]; rfl
theorem PdAt.tl (h : PdAt w n f) : w.cell? ⟨n, 10, none⟩ = some (.int .i64 f.tl) := by rw [cell_of_block h]; rfl
theorem PdAt.ps (h : PdAt w n f) : w.cell? ⟨n, 11, none⟩ = some (.int .i64 f.ps) := by rw [cell_of_block h]; rfl
theorem PdAt.mo (h : PdAt w n f) : w.cell? ⟨n, 12, none⟩ = some (.bool f.mo) := by rw [cell_of_block h]; rfl
theorem PdAt.da (h : PdAt w n f) : w.cell? ⟨n, 13, none⟩ = some (.string f.da) := by rw [cell_of_block h]; rfl
theorem PdAt.free (h : PdAt w n f) (k : Nat) : w.frozen? ⟨n, k, none⟩ = false := by simp [World.frozen?, show w.heap[n]? = _ from h]
theorem PdAt.sr (h : PdAt w n f) : Holds eb w n 1 f.sr.list.toArray := by
  intro j hj
  have hj6 : j < 4 := hj
  refine ⟨?_, h.free _⟩
  rw [cell_of_block h]
  rcases j with _ | _ | _ | _ | j <;> first | rfl | omega
theorem PdAt.ds (h : PdAt w n f) : Holds eb w n 5 f.ds.list.toArray := by
  intro j hj
  have hj6 : j < 4 := hj
  refine ⟨?_, h.free _⟩
  rw [cell_of_block h]
  rcases j with _ | _ | _ | _ | j <;> first | rfl | omega
theorem PdAt.kept (h : PdAt w n f) (k : w'.heap[n]? = w.heap[n]?) : PdAt w' n f := k.trans h
theorem PdAt.grow (h : PdAt w n f) (hb : Below w.heap.size w w') : PdAt w' n f := (hb.block n (lt_of_block h)).trans h
theorem PdAt.lt (h : PdAt w n f) : n < w.heap.size := lt_of_block h
theorem PdAt.all (h : PdAt w n f) : w.cell? ⟨n, 0, none⟩ = some (.int .i64 f.id) ∧ (w.cell? ⟨n, 1, none⟩ = some (.int .u8 (f.sr.a.toNat : Int)) ∧ w.cell? ⟨n, 2, none⟩ = some (.int .u8 (f.sr.b.toNat : Int)) ∧ w.cell? ⟨n, 3, none⟩ = some (.int .u8 (f.sr.c.toNat : Int)) ∧ w.cell? ⟨n, 4, none⟩ = some (.int .u8 (f.sr.d.toNat : Int))) ∧ (w.cell? ⟨n, 5, none⟩ = some (.int .u8 (f.ds.a.toNat : Int)) ∧ w.cell? ⟨n, 6, none⟩ = some (.int .u8 (f.ds.b.toNat : Int)) ∧ w.cell? ⟨n, 7, none⟩ = some (.int .u8 (f.ds.c.toNat : Int)) ∧ w.cell? ⟨n, 8, none⟩ = some (.int .u8 (f.ds.d.toNat : Int))) ∧ w.cell? ⟨n, 9, none⟩ = some (.int .i64 f.pr) ∧ w.cell? ⟨n, 10, none⟩ = some (.int .i64 f.tl) ∧ w.cell? ⟨n, 11, none⟩ = some (.int .i64 f.ps) ∧ w.cell? ⟨n, 12, none⟩ = some (.bool f.mo) ∧ w.cell? ⟨n, 13, none⟩ = some (.string f.da) := by
  refine ⟨?_, ⟨?_, ?_, ?_, ?_⟩, ⟨?_, ?_, ?_, ?_⟩, ?_, ?_, ?_, ?_, ?_⟩ <;> (rw [cell_of_block h]; rfl)
/-- A block of a packet's size. -/
def PdRoom (w : World) (n : Nat) : Prop := ∃ cs : Array Value, cs.size = 14 ∧ w.heap[n]? = some (.cells cs 35 (0, 0))
theorem PdRoom.lt (h : PdRoom w n) : n < w.heap.size := by
  obtain ⟨cs, _, h⟩ := h
  exact (Array.getElem?_eq_some_iff.1 h).1
theorem PdRoom.kept (h : PdRoom w n) (k : w'.heap[n]? = w.heap[n]?) : PdRoom w' n := by
  obtain ⟨cs, h0, h⟩ := h
  exact ⟨cs, h0, k.trans h⟩
theorem PdRoom.grow (h : PdRoom w n) (hb : Below w.heap.size w w') : PdRoom w' n := h.kept (hb.block n h.lt)
theorem PdAt.room (h : PdAt w n f) : PdRoom w n := ⟨_, rfl, h⟩
theorem PdRoom.put (h : PdRoom w n) (f : Pd) :
    (storeVar 35 ⟨n, 0, none⟩ (.agg (pdC f))).run Try.prog w = .ok () (w.setRow n (pdC f)) ∧ PdAt (w.setRow n (pdC f)) n f := by
  obtain ⟨cs, h0, h⟩ := h
  refine ⟨run_storeVar_row (P := Try.prog) w n 35 35 cs (pdC f) h (by kernel_rfl) h0 (pdC_one f), ?_⟩
  exact setRow_heap w n cs _ _ _ h
end
theorem pdroom_new (w : World) (n : Nat) (cs : Array Value) (hs : cs.size = 14) (h : n = w.heap.size) : PdRoom (w.alloc (.cells cs 35)) n := by rw [h]; exact ⟨cs, hs, heap_alloc_new w _⟩
theorem pd_new (w : World) (n : Nat) (f : Pd) (h : n = w.heap.size) : PdAt (w.alloc (.cells (pdC f) 35)) n f := by rw [h]; exact heap_alloc_new w _
/-- A store of a packet into the block that was made last. -/
theorem pd_store (w : World) (f : Pd) : (storeVar 35 ⟨w.heap.size, 0, none⟩ (.agg (pdC f))).run Try.prog (w.alloc (.cells #[.int .i64 pdZ.id, .int .u8 (pdZ.sr.a.toNat : Int), .int .u8 (pdZ.sr.b.toNat : Int), .int .u8 (pdZ.sr.c.toNat : Int), .int .u8 (pdZ.sr.d.toNat : Int), .int .u8 (pdZ.ds.a.toNat : Int), .int .u8 (pdZ.ds.b.toNat : Int), .int .u8 (pdZ.ds.c.toNat : Int), .int .u8 (pdZ.ds.d.toNat : Int), .int .i64 pdZ.pr, .int .i64 pdZ.tl, .int .i64 pdZ.ps, .bool pdZ.mo, .string pdZ.da] 35)) = .ok () (w.alloc (.cells (pdC f) 35)) :=
  run_storeVar_new (P := Try.prog) w 35 #[.int .i64 pdZ.id, .int .u8 (pdZ.sr.a.toNat : Int), .int .u8 (pdZ.sr.b.toNat : Int), .int .u8 (pdZ.sr.c.toNat : Int), .int .u8 (pdZ.sr.d.toNat : Int), .int .u8 (pdZ.ds.a.toNat : Int), .int .u8 (pdZ.ds.b.toNat : Int), .int .u8 (pdZ.ds.c.toNat : Int), .int .u8 (pdZ.ds.d.toNat : Int), .int .i64 pdZ.pr, .int .i64 pdZ.tl, .int .i64 pdZ.ps, .bool pdZ.mo, .string pdZ.da] (pdC f) (by kernel_rfl) rfl (pdC_one f)
section
variable {ops : Array Oper} {rest : List Oper} {S : World → Prop} {o : Oper} {a : Act} {w : World} {Q : Exit → Act → World → Prop}
theorem guard_pd : Try.prog.eqGuardType Try.prog.depth 35 = false := by kernel_rfl
/-- A packet is read whole. -/
theorem yields_pd (hw : Region.wanted o (yielded ops a.tmps) = true) (x : Operand) (ho : o.op = .load 35 x)
    (b : Nat) (hx : a.eval x = .pointer (some ⟨b, 0, none⟩)) (f : Pd) (hS : ∀ w, S w → PdAt w b f) : YieldsIf Try.prog ops S o (.agg (pdC f)) a :=
  .inl ⟨hw, fun w h => exec_load 35 x ho b hx (pdC f) _ (hS w h) Try.underlying35 rfl (by kernel_rfl)⟩
theorem pd_ld (hw : Region.wanted o (yielded ops a.tmps) = true) (x : Operand) (ho : o.op = .load 35 x)
    (b : Nat) (hx : a.eval x = .pointer (some ⟨b, 0, none⟩)) (f : Pd) (hb : PdAt w b f) (h : wpList Try.prog ops Q rest (a.put o.dst (.agg (pdC f))) w) : wpList Try.prog ops Q (o :: rest) a w :=
  wpList_value hw _ (exec_load 35 x ho b hx (pdC f) _ hb Try.underlying35 rfl (by kernel_rfl)) h
/-- Two packets are compared. -/
theorem pd_eq (hw : Region.wanted o (yielded ops a.tmps) = true) (x y : Operand) (t : TypeId) (ho : o.op = .binOp .eql 35 x y t) (f g : Pd) (hx : a.eval x = .agg (pdC f)) (hy : a.eval y = .agg (pdC g))
    (r : Bool) (hr : ∀ w, (Op.equalIn 10000 35 (.agg (pdC f)) (.agg (pdC g))).run Try.prog w = .ok r w) (h : wpList Try.prog ops Q rest (a.put o.dst (.bool r)) w) : wpList Try.prog ops Q (o :: rest) a w :=
  wpList_value hw _ (exec_eql _ _ _ _ ho _ _ hx hy guard_pd r (hr w)) h
end
theorem eqld (f g : Pd) (hf : f.ok) (hg : g.ok) (r : Bool) (hr : decide (f = g) = r) (w : World) : (Op.equalIn 10000 35 (.agg (pdC f)) (.agg (pdC g))).run Try.prog w = .ok r w := by
  rw [eql_pd w f g hf hg, hr]
/-- Whether a packet may be. -/
def mayB (f : Pd) : Bool := decide (0 ≤ f.id ∧ f.id ≤ 65535 ∧ 0 ≤ f.pr ∧ f.pr ≤ 255 ∧ 0 ≤ f.tl ∧ f.tl ≤ 255 ∧ f.ps % 8 = 0 ∧ 0 ≤ f.ps ∧ f.ps ≤ 65528 ∧ f.ps + f.da.size ≤ 65515 ∧ (f.mo = false ∨ 0 < f.da.size ∧ f.da.size % 8 = 0))

end Go.Proofs.Ytbjoibgkhooljaa
