/-
  Layer 2: both sides beside one another: the code's queue, port and memory, and in the struct of the statement the document's. Conditions: the memory has at most 4096 bytes.
-/
import Derived.Test.YtjelgifijhcnnaaVPx
import Derived.Test.YtjelgifijhcnnaaVPb
import Derived.Deep.MidRow
namespace Go.Proofs.Ytjelgifijhcnnaa
open Go.RowKit Go.Sort
set_option linter.unusedVariables false

theorem blk_ne {W : World} {a b : Nat} {o o' : Obj} (h : W.heap[a]? = some o) (h' : W.heap[b]? = some o') (hn : o ≠ o') : a ≠ b := by
  rintro rfl
  rw [h] at h'
  injection h' with h'
  exact hn h'
theorem cells_ne {c c' : Array Value} {t t' : TypeId} {m m' : Nat × Nat} (h : t ≠ t') : Obj.cells c t m ≠ Obj.cells c' t' m' := fun e => by
  injection e with _ e
  exact h e

theorem below_none {W W' : World} (k : Below W.heap.size W W') : W.grownBy W' none := ⟨k.os, k.tape, k.output, k.size, fun j hj _ => k.block j hj⟩
/-- The struct of the statement. -/
abbrev wdC (g q p : Nat) (b : List UInt8) (base n : Int) (o : Value) (told back : Int) (br : Bool) (tk td : Int) (hv : Value) : Array Value :=
  #[.pointer (some ⟨g, 0, none⟩), .pointer (some ⟨q, 0, none⟩), .pointer (some ⟨p, 0, none⟩), .string ⟨b.toArray⟩, .int .i64 base, .int .i64 n, o, .int .i64 told, .int .i64 back, .bool br, .int .i64 base, .int .i64 n, .int .i64 tk, .int .i64 td, hv]
def WAt (W : World) (x g q p : Nat) (b : List UInt8) (base n : Int) (o : Value) (told back : Int) (br : Bool) (tk td : Int) (hv : Value) : Prop := W.heap[x]? = some (.cells (wdC g q p b base n o told back br tk td hv) 45 (0, 0))
section
variable {W W' : World} {x g q p : Nat} {b : List UInt8} {base n : Int} {o : Value} {told back : Int} {br : Bool} {tk td : Int} {hv : Value}
theorem WAt.c (h : WAt W x g q p b base n o told back br tk td hv) (i : Nat) : W.cell? ⟨x, i, none⟩ = (wdC g q p b base n o told back br tk td hv)[i]? := cell_of_block h
theorem WAt.free (h : WAt W x g q p b base n o told back br tk td hv) (i : Nat) : W.frozen? ⟨x, i, none⟩ = false := by simp [World.frozen?, show W.heap[x]? = _ from h]
theorem WAt.lt (h : WAt W x g q p b base n o told back br tk td hv) : x < W.heap.size := (Array.getElem?_eq_some_iff.1 h).1
theorem WAt.grow (h : WAt W x g q p b base n o told back br tk td hv) (k : Below W.heap.size W W') : WAt W' x g q p b base n o told back br tk td hv := (k.block x h.lt).trans h
theorem wd_c0 (h : WAt W x g q p b base n o told back br tk td hv) : W.cell? ⟨x, 0, none⟩ = some (.pointer (some ⟨g, 0, none⟩)) := h.c 0
theorem wd_c1 (h : WAt W x g q p b base n o told back br tk td hv) : W.cell? ⟨x, 1, none⟩ = some (.pointer (some ⟨q, 0, none⟩)) := h.c 1
theorem wd_c2 (h : WAt W x g q p b base n o told back br tk td hv) : W.cell? ⟨x, 2, none⟩ = some (.pointer (some ⟨p, 0, none⟩)) := h.c 2
theorem wd_c3 (h : WAt W x g q p b base n o told back br tk td hv) : W.cell? ⟨x, 3, none⟩ = some (.string ⟨b.toArray⟩) := h.c 3
theorem wd_c4 (h : WAt W x g q p b base n o told back br tk td hv) : W.cell? ⟨x, 4, none⟩ = some (.int .i64 base) := h.c 4
theorem wd_c5 (h : WAt W x g q p b base n o told back br tk td hv) : W.cell? ⟨x, 5, none⟩ = some (.int .i64 n) := h.c 5
theorem wd_c6 (h : WAt W x g q p b base n o told back br tk td hv) : W.cell? ⟨x, 6, none⟩ = some o := h.c 6
theorem wd_c7 (h : WAt W x g q p b base n o told back br tk td hv) : W.cell? ⟨x, 7, none⟩ = some (.int .i64 told) := h.c 7
theorem wd_c8 (h : WAt W x g q p b base n o told back br tk td hv) : W.cell? ⟨x, 8, none⟩ = some (.int .i64 back) := h.c 8
theorem wd_c9 (h : WAt W x g q p b base n o told back br tk td hv) : W.cell? ⟨x, 9, none⟩ = some (.bool br) := h.c 9
theorem wd_c10 (h : WAt W x g q p b base n o told back br tk td hv) : W.cell? ⟨x, 10, none⟩ = some (.int .i64 base) := h.c 10
theorem wd_c11 (h : WAt W x g q p b base n o told back br tk td hv) : W.cell? ⟨x, 11, none⟩ = some (.int .i64 n) := h.c 11
theorem wd_c12 (h : WAt W x g q p b base n o told back br tk td hv) : W.cell? ⟨x, 12, none⟩ = some (.int .i64 tk) := h.c 12
theorem wd_c13 (h : WAt W x g q p b base n o told back br tk td hv) : W.cell? ⟨x, 13, none⟩ = some (.int .i64 td) := h.c 13
theorem wd_c14 (h : WAt W x g q p b base n o told back br tk td hv) : W.cell? ⟨x, 14, none⟩ = some hv := h.c 14
/-- A part of the struct is written anew. -/
theorem wd_put (h : WAt W x g q p b base n o told back br tk td hv) (i : Nat) (u : Value) : (W.setCell ⟨x, i, none⟩ u).heap[x]? = some (.cells ((wdC g q p b base n o told back br tk td hv).setIfInBounds i u) 45 (0, 0)) := set_block h i u
theorem wd_bytes (h : WAt W x g q p b base n o told back br tk td hv) (b' : List UInt8) : WAt (W.setCell ⟨x, 3, none⟩ (.string ⟨b'.toArray⟩)) x g q p b' base n o told back br tk td hv := wd_put h 3 _
theorem wd_port (h : WAt W x g q p b base n o told back br tk td hv) (p' : Nat) : WAt (W.setCell ⟨x, 2, none⟩ (.pointer (some ⟨p', 0, none⟩))) x g q p' b base n o told back br tk td hv := wd_put h 2 _
theorem wd_heads (h : WAt W x g q p b base n o told back br tk td hv) (v : Value) : WAt (W.setCell ⟨x, 14, none⟩ v) x g q p b base n o told back br tk td v := wd_put h 14 _
theorem cells_else {x : Nat} : ∀ (vs : List Value) (i k : Nat) (W : World), k ≠ x → (W.setCells x i vs).heap[k]? = W.heap[k]?
  | [], _, _, _, _ => rfl
  | v :: vs, i, k, W, hk => by
    rw [World.setCells, cells_else vs (i + 1) k _ hk]
    exact Below.heap_setCell _ _ _ _ hk
theorem setCells_below {B : Nat} {w : World} {x : Nat} (hx : B ≤ x) : ∀ (vs : List Value) (i : Nat) (W : World), Below B w W → Below B w (W.setCells x i vs)
  | [], _, _, h => h
  | v :: vs, i, W, h => by
    rw [World.setCells]
    exact setCells_below hx vs (i + 1) _ (h.setCell (p := ⟨x, i, none⟩) hx v)
theorem setCells_size {x : Nat} : ∀ (vs : List Value) (i : Nat) (W : World), (W.setCells x i vs).heap.size = W.heap.size
  | [], _, _ => rfl
  | v :: vs, i, W => by rw [World.setCells, setCells_size vs (i + 1)]; simp [World.setCell]
/-- The document's queue is written into it. -/
theorem wd_queue (h : WAt W x g q p b base n o told back br tk td hv) (op : Option Addr) (ln oc : Nat) (told' back' : Int) (br' : Bool) :
    (storeVar 40 ⟨x, 4, none⟩ (.agg #[.int .i64 base, .int .i64 n, .slice op ln oc, .int .i64 told', .int .i64 back', .bool br'])).run Try.prog W = .ok () (W.setCells x 4 [.int .i64 base, .int .i64 n, .slice op ln oc, .int .i64 told', .int .i64 back', .bool br']) ∧
      WAt (W.setCells x 4 [.int .i64 base, .int .i64 n, .slice op ln oc, .int .i64 told', .int .i64 back', .bool br']) x g q p b base n (.slice op ln oc) told' back' br' tk td hv := by
  refine ⟨run_storeVar_mid W x 4 40 #[.int .i64 base, .int .i64 n, .slice op ln oc, .int .i64 told', .int .i64 back', .bool br'] (fun j hj => ⟨?_, h.free _⟩) (by kernel_rfl) (by simp [Value.oneCell']), ?_⟩
  · rw [h.c]
    have : j < 6 := hj
    match j, this with
    | 0, _ => rfl
    | 1, _ => rfl
    | 2, _ => rfl
    | 3, _ => rfl
    | 4, _ => rfl
    | 5, _ => rfl
  · have h0 := set_block h 4 (.int .i64 base)
    have h1 := set_block h0 5 (.int .i64 n)
    have h2 := set_block h1 6 (.slice op ln oc)
    have h3 := set_block h2 7 (.int .i64 told')
    have h4 := set_block h3 8 (.int .i64 back')
    have h5 := set_block h4 9 (.bool br')
    exact h5
/-- The document's port is written into it. -/
theorem wd_vport (h : WAt W x g q p b base n o told back br tk td hv) (tk' td' : Int) :
    (storeVar 42 ⟨x, 10, none⟩ (.agg #[.int .i64 base, .int .i64 n, .int .i64 tk', .int .i64 td'])).run Try.prog W = .ok () (W.setCells x 10 [.int .i64 base, .int .i64 n, .int .i64 tk', .int .i64 td']) ∧
      WAt (W.setCells x 10 [.int .i64 base, .int .i64 n, .int .i64 tk', .int .i64 td']) x g q p b base n o told back br tk' td' hv := by
  refine ⟨run_storeVar_mid W x 10 42 #[.int .i64 base, .int .i64 n, .int .i64 tk', .int .i64 td'] (fun j hj => ⟨?_, h.free _⟩) (by kernel_rfl) (by simp [Value.oneCell']), ?_⟩
  · rw [h.c]
    have : j < 4 := hj
    match j, this with
    | 0, _ => rfl
    | 1, _ => rfl
    | 2, _ => rfl
    | 3, _ => rfl
  · have h0 := set_block h 10 (.int .i64 base)
    have h1 := set_block h0 11 (.int .i64 n)
    have h2 := set_block h1 12 (.int .i64 tk')
    have h3 := set_block h2 13 (.int .i64 td')
    exact h3
end

/-- What turns: the code's side, the document's. -/
structure St where
  p : Nat
  mb : Nat
  lm : List UInt8
  cs : List Oc
  off : Int
  back : Int
  br : Bool
  tk : Int
  td : Int
/-- The document's chains that are out, and the heads that were taken. -/
structure Dt where
  l : List Cq
  op : Option Addr
  oc : Nat
  H : List Int
  hp : Option Addr
  hc : Nat
/-- No block of the document's row of numbers is one that a call of the code turns. -/
def Off (x q p h mb : Nat) (v : Value) : Prop := ∀ k, v.ownBlock = some k → k ≠ x ∧ k ≠ q ∧ k ≠ p ∧ k ≠ h ∧ k ≠ mb
/-- The document's chains lie there. -/
structure OutAt (W : World) (x q p h mb : Nat) (l : List Cq) (op : Option Addr) (oc : Nat) : Prop where
  row : RowA 3 encQ 119 W (.slice op l.length oc) l
  ints : ∀ y ∈ l, IsInts W (.slice y.op y.of.length y.oc) y.of
  offs : ∀ y ∈ l, Off x q p h mb (.slice y.op y.of.length y.oc)
  full : ∀ y ∈ l, 0 < y.of.length
/-- The code's side, and all that is kept of it. -/
structure CS (w W : World) (x q g h : Nat) (base : Int) (n sz : Nat) (s : St) : Prop where
  bl : Below w.heap.size w W
  both : Both W q s.p g h s.lm base n s.mb s.cs s.off s.back s.br s.tk s.td
  uniq : (s.cs.map fun y => y.c.head).Nodup
  since : Since w.heap.size q s.p h s.mb
  xge : w.heap.size ≤ x
  b16 : base % 16 = 0
  len : s.lm.length = sz
  sz : sz ≤ 4096
/-- What stands in the struct. -/
structure Wd where
  p : Nat
  lm : List UInt8
  o : Value
  told : Int
  back : Int
  br : Bool
  tk : Int
  td : Int
  hv : Value
def wdOf (s : St) (d : Dt) : Wd := ⟨s.p, s.lm, .slice d.op d.l.length d.oc, s.off, s.back, s.br, s.tk, s.td, .slice d.hp d.H.length d.hc⟩
/-- Both sides beside one another, and what stands in the struct. -/
structure BS (w W : World) (x q g h : Nat) (base : Int) (n sz : Nat) (s : St) (d : Dt) (u : Wd) : Prop where
  cs : CS w W x q g h base n sz s
  bx : WAt W x g q u.p u.lm base n u.o u.told u.back u.br u.tk u.td u.hv
  out : OutAt W x q s.p h s.mb d.l d.op d.oc
  heads : OwnInts w.heap.size W (.slice d.hp d.H.length d.hc) d.H
  hb : ∀ z ∈ d.H, 0 ≤ z ∧ z ≤ 65535
  ha : ∀ k, (Value.slice d.hp d.H.length d.hc).ownBlock = some k → (∀ y ∈ s.cs, y.blk ≠ k) ∧ ∀ y ∈ d.l, (Value.slice y.op y.of.length y.oc).ownBlock ≠ some k

section
variable {w W W' : World} {x q g h : Nat} {base : Int} {n sz : Nat} {s : St} {d : Dt} {u : Wd}
theorem CS.bds (c : CS w W x q g h base n sz s) : 0 ≤ base ∧ base ≤ 4096 ∧ 1 ≤ n ∧ n ≤ 64 ∧ s.lm.length ≤ 4096 ∧ base + bytesOf n ≤ s.lm.length := by
  have h1 := c.both.qs.b0; have h2 := c.both.qs.b1; have h3 := c.both.qs.n1; have h4 := c.len; have h5 := c.sz
  have := (bytesOf_bd (n : Int)).1
  exact ⟨h1, by omega, h3.1, h3.2, by omega, h2⟩
theorem CS.grow (c : CS w W x q g h base n sz s) (k : Below W.heap.size W W') : CS w W' x q g h base n sz s :=
  { c with bl := c.bl.trans (k.mono c.bl.size), both := c.both.grown (below_none k) }
theorem OutAt.grow {p mb : Nat} {l : List Cq} {op : Option Addr} {oc : Nat} (o : OutAt W x q p h mb l op oc) (k : Below W.heap.size W W') : OutAt W' x q p h mb l op oc :=
  ⟨o.row.kept k.size (fun b hb => k.block b (o.row.lt b hb).2), fun y hy => (o.ints y hy).kept (fun a ha => by
    obtain ⟨u, hu⟩ := Option.isSome_iff_exists.1 ha
    exact k.cell (World.block_lt_of_cell? W a hu)), o.offs, o.full⟩
theorem BS.grow (c : BS w W x q g h base n sz s d u) (k : Below W.heap.size W W') : BS w W' x q g h base n sz s d u :=
  { c with cs := c.cs.grow k, bx := c.bx.grow k, out := c.out.grow k, heads := c.heads.grown (below_none k) }
/-- The blocks that a call of the code turns are there, and none is the struct's. -/
theorem BS.lts (c : BS w W x q g h base n sz s d u) : x < W.heap.size ∧ q < W.heap.size ∧ s.p < W.heap.size ∧ h < W.heap.size ∧ s.mb < W.heap.size ∧ g < W.heap.size :=
  ⟨c.bx.lt, lt_of_block c.cs.both.qs.at_, lt_of_block c.cs.both.ps.at_, c.cs.both.qs.mem.lt2, c.cs.both.qs.lts.2.2.2, c.cs.both.qs.mem.lt1⟩
theorem BS.xne (c : BS w W x q g h base n sz s d u) : x ≠ q ∧ x ≠ s.p ∧ x ≠ g ∧ x ≠ h ∧ x ≠ s.mb := by
  obtain ⟨es, ck, hb, _⟩ := c.cs.both.qs.tab
  exact ⟨blk_ne c.bx c.cs.both.qs.at_ (cells_ne (by decide)), blk_ne c.bx c.cs.both.ps.at_ (cells_ne (by decide)), blk_ne c.bx c.cs.both.qs.mem.1 (cells_ne (by decide)), blk_ne c.bx c.cs.both.qs.mem.2 (cells_ne (by decide)), blk_ne c.bx hb (fun e => by cases e)⟩
/-- A row's own block is none that turns. -/
theorem row_off {α : Type} {k : Nat} {enc : α → List Value} {T : TypeId} {v : Value} {l : List α} (c : BS w W x q g h base n sz s d u) (r : RowA k enc T W v l) (t1 : T ≠ 45) (t2 : T ≠ 81) (t3 : T ≠ 83) (t4 : T ≠ 5) : Off x q s.p h s.mb v := by
  obtain ⟨es, ck, hb, _⟩ := c.cs.both.qs.tab
  intro j hj
  rcases r.2 with ⟨rfl, _⟩ | ⟨b, cap, cur, rfl, _, h2, _⟩
  · cases hj
  · injection hj with hj
    subst hj
    exact ⟨blk_ne h2 c.bx (cells_ne t1), blk_ne h2 c.cs.both.qs.at_ (cells_ne t2), blk_ne h2 c.cs.both.ps.at_ (cells_ne t3), blk_ne h2 c.cs.both.qs.mem.2 (cells_ne t4), blk_ne h2 hb (fun e => by cases e)⟩
theorem BS.row_off (c : BS w W x q g h base n sz s d u) : Off x q s.p h s.mb (.slice d.op d.l.length d.oc) := Go.Proofs.Ytjelgifijhcnnaa.row_off c c.out.row (by decide) (by decide) (by decide) (by decide)
theorem BS.heads_off (c : BS w W x q g h base n sz s d u) : Off x q s.p h s.mb (.slice d.hp d.H.length d.hc) ∧ ∀ k, (Value.slice d.hp d.H.length d.hc).ownBlock = some k → k ≠ g := by
  obtain ⟨es, ck, hb, _⟩ := c.cs.both.qs.tab
  refine ⟨fun j hj => ?_, fun j hj => ?_⟩
  · rcases c.heads.1.2 with ⟨e, _⟩ | ⟨b, cap, cur, e, _, h2, _⟩
    · rw [e] at hj; cases hj
    · rw [e] at hj
      injection hj with hj
      subst hj
      exact ⟨blk_ne h2 c.bx (cells_ne (by decide)), blk_ne h2 c.cs.both.qs.at_ (cells_ne (by decide)), blk_ne h2 c.cs.both.ps.at_ (cells_ne (by decide)), blk_ne h2 c.cs.both.qs.mem.2 (cells_ne (by decide)), blk_ne h2 hb (fun e => by cases e)⟩
  · rcases c.heads.1.2 with ⟨e, _⟩ | ⟨b, cap, cur, e, _, h2, _⟩
    · rw [e] at hj; cases hj
    · rw [e] at hj
      injection hj with hj
      subst hj
      exact blk_ne h2 c.cs.both.qs.mem.1 (cells_ne (by decide))
/-- What lies in no block that turns stays. -/
theorem OutAt.turned {p mb : Nat} {l : List Cq} {op : Option Addr} {oc : Nat} (o : OutAt W x q p h mb l op oc) {S : Nat → Prop} (t : Turned S W W') (hS : ∀ b, (Value.slice op l.length oc).ownBlock = some b → ¬ S b) (hy : ∀ y ∈ l, ∀ b, (Value.slice y.op y.of.length y.oc).ownBlock = some b → ¬ S b) : OutAt W' x q p h mb l op oc := by
  refine ⟨o.row.kept t.size (fun b hb => t.block b (o.row.lt b hb).2 (hS b hb)), fun y hyl => ?_, o.offs, o.full⟩
  obtain ⟨p', cap, e, hl, hc⟩ := o.ints y hyl
  refine ⟨p', cap, e, hl, fun h0 => ?_⟩
  obtain ⟨b, i0, rfl, hcell⟩ := hc h0
  refine ⟨b, i0, rfl, fun i hi => ?_⟩
  have hk := hy y hyl b (by rw [e]; rfl)
  have hlt := World.block_lt_of_cell? W _ (hcell i hi)
  rw [World.cell?_of_block (w := W) (a := ⟨b, i0 + i, none⟩) (t.block b hlt hk)]
  exact hcell i hi
theorem Off.not {p mb : Nat} {v : Value} {S : Nat → Prop} (o : Off x q p h mb v) (hS : ∀ k, S k → k = x ∨ k = q ∨ k = p ∨ k = h ∨ k = mb) : ∀ b, v.ownBlock = some b → ¬ S b := fun b hb hs => by
  obtain ⟨a1, a2, a3, a4, a5⟩ := o b hb
  rcases hS _ hs with e | e | e | e | e
  · exact a1 e
  · exact a2 e
  · exact a3 e
  · exact a4 e
  · exact a5 e
/-- The code's side has gone on. -/
theorem BS.code (c : BS w W x q g h base n sz s d u) {S : Nat → Prop} (t : Turned S W W') (hS : ∀ k, S k → k = q ∨ k = s.p ∨ k = h ∨ k = s.mb) {s' : St} (c' : CS w W' x q g h base n sz s') (hp : s'.p = s.p ∨ W.heap.size ≤ s'.p) (hm : s'.mb = s.mb ∨ W.heap.size ≤ s'.mb)
    (hcs : ∀ y ∈ s'.cs, y ∈ s.cs ∨ W.heap.size ≤ y.blk) : BS w W' x q g h base n sz s' d u := by
  have hS2 : ∀ k, S k → k = x ∨ k = q ∨ k = s.p ∨ k = h ∨ k = s.mb := fun k hk => .inr (hS k hk)
  have hx := c.xne
  refine ⟨c', (t.block x c.bx.lt (fun hs => by
    rcases hS _ hs with e | e | e | e
    · exact hx.1 e
    · exact hx.2.1 e
    · exact hx.2.2.2.1 e
    · exact hx.2.2.2.2 e)).trans c.bx, ?_, c.heads.turned t (c.heads_off.1.not hS2), c.hb, fun k hk => ⟨fun y hy => ?_, (c.ha k hk).2⟩⟩
  · have o := c.out.turned t (c.row_off.not hS2) (fun y hy => (c.out.offs y hy).not hS2)
    refine ⟨o.row, o.ints, fun y hy b hb => ?_, o.full⟩
    obtain ⟨a1, a2, a3, a4, a5⟩ := o.offs y hy b hb
    have hlt : b < W.heap.size := by
      obtain ⟨p', cap, e4, hl, hc⟩ := c.out.ints y hy
      obtain ⟨b', i0, rfl, hcell⟩ := hc (c.out.full y hy)
      rw [e4] at hb
      injection hb with hb
      have h7 : b' = b := hb
      have h8 : b' < W.heap.size := World.block_lt_of_cell? W _ (hcell 0 (c.out.full y hy))
      omega
    refine ⟨a1, a2, ?_, a4, ?_⟩
    · rcases hp with e | e
      · rw [e]; exact a3
      · omega
    · rcases hm with e | e
      · rw [e]; exact a5
      · omega
  · rcases hcs y hy with h1 | h1
    · exact (c.ha k hk).1 y h1
    · have := (c.heads.lt k hk).2; omega
/-- The document's side has gone on. -/
theorem BS.doc (c : BS w W x q g h base n sz s d u) (k : Below W.heap.size W W') {l' : List Cq} {op' : Option Addr} {oc' : Nat} (row : RowA 3 encQ 119 W' (.slice op' l'.length oc') l') (ints : ∀ y ∈ l', IsInts W' (.slice y.op y.of.length y.oc) y.of)
    (new : ∀ y ∈ l', y ∈ d.l ∨ ∃ b, y.op = some ⟨b, 0, none⟩ ∧ W.heap.size ≤ b) (full : ∀ y ∈ l', 0 < y.of.length) : BS w W' x q g h base n sz s { d with l := l', op := op', oc := oc' } u := by
  have hl := c.lts
  refine ⟨c.cs.grow k, c.bx.grow k, ⟨row, ints, fun y hy b hb => ?_, full⟩, c.heads.grown (below_none k), c.hb, fun b hb => ⟨(c.ha b hb).1, fun y hy => ?_⟩⟩
  · rcases new y hy with h1 | ⟨j, h1, h2⟩
    · exact c.out.offs y h1 b hb
    · rw [h1] at hb
      injection hb with hb
      have hb' : j = b := hb
      omega
  · rcases new y hy with h1 | ⟨j, h1, h2⟩
    · exact (c.ha b hb).2 y h1
    · rw [h1]
      intro e
      injection e with e
      have e' : j = b := e
      have := (c.heads.lt b hb).2
      omega
theorem CS.kept_row (c : CS w W x q g h base n sz s) {r : Nat} (k : W.grownBy W' (some r)) (hr : r ≠ q ∧ r ≠ s.p ∧ r ≠ g ∧ r ≠ h ∧ r ≠ s.mb) (hx : ∀ y ∈ s.cs, y.blk ≠ r) (hw : w.heap.size ≤ r) : CS w W' x q g h base n sz s := by
  have l1 := c.both.qs.lts
  have l2 := lt_of_block c.both.ps.at_
  have keep : ∀ j, j < W.heap.size → j ≠ r → W'.heap[j]? = W.heap[j]? := fun j hj hn => k.block j hj (fun e => hn (by injection e))
  have m : Mem W' g h s.lm := c.both.qs.mem.kept k (fun e => hr.2.2.1 (by injection e with e; exact e.symm)) (fun e => hr.2.2.2.1 (by injection e with e; exact e.symm))
  refine { c with bl := c.bl.grown k c.bl.size (fun j e => by injection e with e; omega), both := ⟨{ c.both.qs with mem := m, at_ := c.both.qs.at_.kept (keep _ l1.1 hr.1.symm), tab := c.both.qs.tab.kept (keep _ l1.2.2.2 hr.2.2.2.2.symm), nums := fun y hy => ?_ }, { c.both.ps with mem := m, at_ := c.both.ps.at_.kept (keep _ l2 hr.2.1.symm) }⟩ }
  obtain ⟨a1, a2, a3⟩ := c.both.qs.nums y hy
  refine ⟨a1, fun i hi => ?_, a3⟩
  have hc := a2 i hi
  rw [World.cell?_of_block (w := W) (a := ⟨y.blk, i, none⟩) (keep _ (World.block_lt_of_cell? W _ hc) (hx y hy))]
  exact hc
/-- The struct is written into. -/
theorem BS.put (c : BS w W x q g h base n sz s d u) {u' : Wd} (k : W.grownBy W' (some x)) (b' : WAt W' x g q u'.p u'.lm base n u'.o u'.told u'.back u'.br u'.tk u'.td u'.hv) : BS w W' x q g h base n sz s d u' := by
  have t : Turned (fun k => k = x) W W' := Turned.of k (fun j e => by injection e with e; exact e.symm)
  have hS2 : ∀ k, k = x → k = x ∨ k = q ∨ k = s.p ∨ k = h ∨ k = s.mb := fun k hk => .inl hk
  refine ⟨c.cs.kept_row k c.xne (fun y hy e => ?_) c.cs.xge, b', c.out.turned t (c.row_off.not hS2) (fun y hy => (c.out.offs y hy).not hS2), c.heads.turned t (c.heads_off.1.not hS2), c.hb, c.ha⟩
  have h1 := c.cs.both.qs.heads y hy
  obtain ⟨_, h2, _⟩ := c.cs.both.qs.nums y hy
  have h3 : 0 < y.c.of.length := by
    match y.c.of, h1 with
    | _ :: _, _ => simp
  have h4 := h2 0 h3
  rw [e, wd_c0 c.bx] at h4
  cases h4
theorem setCell_grown (W : World) (x i : Nat) (v : Value) : W.grownBy (W.setCell ⟨x, i, none⟩ v) (some x) := grown_setCell W x i v
theorem setCells_grown (W : World) (x : Nat) (vs : List Value) (i : Nat) : W.grownBy (W.setCells x i vs) (some x) := by
  have b := setCells_below (B := x) (Nat.le_refl x) vs i W (Below.refl x W)
  exact ⟨b.os, b.tape, b.output, b.size, fun j hj hn => cells_else vs i j W (fun e => hn (by rw [e]))⟩
/-- The struct's queue, port, bytes, port's pointer and heads are written anew. -/
theorem BS.putQ (c : BS w W x q g h base n sz s d u) (op : Option Addr) (ln oc : Nat) (told' back' : Int) (br' : Bool) :
    BS w (W.setCells x 4 [.int .i64 base, .int .i64 n, .slice op ln oc, .int .i64 told', .int .i64 back', .bool br']) x q g h base n sz s d { u with o := .slice op ln oc, told := told', back := back', br := br' } :=
  c.put (setCells_grown W x _ 4) (wd_queue c.bx op ln oc told' back' br').2
theorem BS.putV (c : BS w W x q g h base n sz s d u) (tk' td' : Int) :
    BS w (W.setCells x 10 [.int .i64 base, .int .i64 n, .int .i64 tk', .int .i64 td']) x q g h base n sz s d { u with tk := tk', td := td' } :=
  c.put (setCells_grown W x _ 10) (wd_vport c.bx tk' td').2
theorem BS.putB (c : BS w W x q g h base n sz s d u) (b' : List UInt8) : BS w (W.setCell ⟨x, 3, none⟩ (.string ⟨b'.toArray⟩)) x q g h base n sz s d { u with lm := b' } := c.put (setCell_grown W x 3 _) (wd_bytes c.bx b')
theorem BS.putP (c : BS w W x q g h base n sz s d u) (p' : Nat) : BS w (W.setCell ⟨x, 2, none⟩ (.pointer (some ⟨p', 0, none⟩))) x q g h base n sz s d { u with p := p' } := c.put (setCell_grown W x 2 _) (wd_port c.bx p')
theorem BS.putH (c : BS w W x q g h base n sz s d u) (v : Value) : BS w (W.setCell ⟨x, 14, none⟩ v) x q g h base n sz s d { u with hv := v } := c.put (setCell_grown W x 14 _) (wd_heads c.bx v)
/-- A head is taken. -/
theorem BS.push (c : BS w W x q g h base n sz s d u) {hp' : Option Addr} {hc' : Nat} (y : Int) (y0 : 0 ≤ y ∧ y ≤ 65535) (ho : OwnInts w.heap.size W' (.slice hp' (d.H ++ [y]).length hc') (d.H ++ [y])) (k : W.grownBy W' (Value.slice d.hp d.H.length d.hc).ownBlock)
    (hv : (Value.slice hp' (d.H ++ [y]).length hc').ownBlock = (Value.slice d.hp d.H.length d.hc).ownBlock ∨ ∃ j, (Value.slice hp' (d.H ++ [y]).length hc').ownBlock = some j ∧ W.heap.size ≤ j) :
    BS w W' x q g h base n sz s { d with H := d.H ++ [y], hp := hp', hc := hc' } u := by
  obtain ⟨o1, o2⟩ := c.heads_off
  have t : Turned (fun k => (Value.slice d.hp d.H.length d.hc).ownBlock = some k) W W' := Turned.of k (fun j e => e)
  have hcs : CS w W' x q g h base n sz s := by
    cases hb : (Value.slice d.hp d.H.length d.hc).ownBlock with
    | none =>
      rw [hb] at k
      exact c.cs.grow ⟨k.os, k.tape, k.output, k.size, fun j hj => k.block j hj (by simp)⟩
    | some r =>
      rw [hb] at k
      obtain ⟨a1, a2, a3, a4, a5⟩ := o1 r hb
      exact c.cs.kept_row k ⟨a2, a3, o2 r hb, a4, a5⟩ (c.ha r hb).1 (c.heads.lt r hb).1
  have hxo : ∀ r, (Value.slice d.hp d.H.length d.hc).ownBlock = some r → r ≠ x := fun r hr => (o1 r hr).1
  refine ⟨hcs, (t.block x c.bx.lt (fun e => hxo x e rfl)).trans c.bx, c.out.turned t (fun b hb e => ?_) (fun z hz b hb e => (c.ha b e).2 z hz hb), ho, fun z hz => ?_, fun r hr => ?_⟩
  · rcases c.out.row.2 with ⟨e2, _⟩ | ⟨b2, cap, cur, e2, _, h2, _⟩
    · rw [e2] at hb; cases hb
    · rw [e2] at hb
      injection hb with hb
      subst hb
      rcases c.heads.1.2 with ⟨e3, _⟩ | ⟨b3, cap3, cur3, e3, _, h3, _⟩
      · rw [e3] at e; cases e
      · rw [e3] at e
        injection e with e
        subst e
        exact blk_ne h2 h3 (cells_ne (by decide)) rfl
  · rcases List.mem_append.1 hz with hz | hz
    · exact c.hb z hz
    · rw [List.mem_singleton.1 hz]; exact y0
  · rcases hv with e | ⟨j, e, hj⟩
    · exact c.ha r (by rw [← e]; exact hr)
    · have hrj : j = r := by
        have := e.symm.trans hr
        injection this
      refine ⟨fun z hz => ?_, fun z hz e2 => ?_⟩
      · have h1 := c.cs.both.qs.heads z hz
        obtain ⟨_, h2, _⟩ := c.cs.both.qs.nums z hz
        have h3 : 0 < z.c.of.length := by
          match z.c.of, h1 with
          | _ :: _, _ => simp
        have := World.block_lt_of_cell? W _ (h2 0 h3)
        have h5 : z.blk < W.heap.size := this
        omega
      · obtain ⟨p', cap, e4, hl, hc⟩ := c.out.ints z hz
        have hf := c.out.full z hz
        obtain ⟨b, i0, rfl, hcell⟩ := hc hf
        have h6 := World.block_lt_of_cell? W _ (hcell 0 hf)
        rw [e4] at e2
        injection e2 with e2
        have h7 : b = r := e2
        have h8 : b < W.heap.size := h6
        omega
end

end Go.Proofs.Ytjelgifijhcnnaa
