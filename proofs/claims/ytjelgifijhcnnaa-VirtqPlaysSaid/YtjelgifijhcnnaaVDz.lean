/-
  Layer 2: an act of both sides: what is kept from act to act, the act's own block, a block beside. Conditions: as said at each.
-/
import Derived.Test.YtjelgifijhcnnaaVPz
import Derived.Deep.CutBlock
import Derived.Deep.DeepCutAuto
import Derived.Deep.QuietTactic
import Derived.BigQuiet
namespace Go.Proofs.Ytjelgifijhcnnaa
open Go.RowKit Go.Sort
set_option linter.unusedVariables false

/-- A block that no call of either side turns. -/
structure Beside (W : World) (k : Nat) (o : Obj) (x q p h mb : Nat) : Prop where
  at_ : W.heap[k]? = some o
  ne : k ≠ x ∧ k ≠ q ∧ k ≠ p ∧ k ≠ h ∧ k ≠ mb
section
variable {w W W' : World} {x q p g h mb k : Nat} {base : Int} {n sz : Nat} {s : St} {d : Dt} {u : Wd} {o : Obj}
theorem Beside.lt (b : Beside W k o x q p h mb) : k < W.heap.size := (Array.getElem?_eq_some_iff.1 b.at_).1
theorem Beside.grow (b : Beside W k o x q p h mb) (r : Below W.heap.size W W') : Beside W' k o x q p h mb := ⟨(r.block k b.lt).trans b.at_, b.ne⟩
theorem Beside.turned (b : Beside W k o x q p h mb) {S : Nat → Prop} (t : Turned S W W') (hS : ∀ j, S j → j = x ∨ j = q ∨ j = p ∨ j = h ∨ j = mb) : Beside W' k o x q p h mb :=
  ⟨(t.block k b.lt (fun e => by
    obtain ⟨a1, a2, a3, a4, a5⟩ := b.ne
    rcases hS _ e with e | e | e | e | e
    · exact a1 e
    · exact a2 e
    · exact a3 e
    · exact a4 e
    · exact a5 e)).trans b.at_, b.ne⟩
theorem Beside.port (b : Beside W k o x q p h mb) {p' : Nat} (hp : k < p') : Beside W k o x q p' h mb := ⟨b.at_, b.ne.1, b.ne.2.1, by omega, b.ne.2.2.2⟩
theorem Beside.tab (b : Beside W k o x q p h mb) {mb' : Nat} (hp : k < mb') : Beside W k o x q p h mb' := ⟨b.at_, b.ne.1, b.ne.2.1, b.ne.2.2.1, b.ne.2.2.2.1, by omega⟩
theorem Beside.put (b : Beside W k o x q p h mb) (r : W.grownBy W' (some x)) : Beside W' k o x q p h mb := ⟨(r.block k b.lt (fun e => b.ne.1 (by injection e))).trans b.at_, b.ne⟩
theorem Beside.set (b : Beside W k o x q p h mb) {o' : Obj} (e : W'.heap[k]? = some o') : Beside W' k o' x q p h mb := ⟨e, b.ne⟩
theorem Beside.new (c : BS w W x q g h base n sz s d u) {t : TypeId} (cs : Array Value) : Beside (W.alloc (.cells cs t)) W.heap.size (.cells cs t (0, 0)) x q s.p h s.mb := by
  obtain ⟨a1, a2, a3, a4, a5, a6⟩ := c.lts
  exact ⟨heap_alloc_new W _, by omega, by omega, by omega, by omega, by omega⟩
theorem BS.alloc (c : BS w W x q g h base n sz s d u) (o : Obj) : BS w (W.alloc o) x q g h base n sz s d u := c.grow ((Below.refl _ _).alloc (Nat.le_refl _) o)
theorem Beside.alloc (b : Beside W k o x q p h mb) (o' : Obj) : Beside (W.alloc o') k o x q p h mb := b.grow ((Below.refl _ _).alloc (Nat.le_refl _) o')
theorem BS.blk_lt (c : BS w W x q g h base n sz s d u) : ∀ y ∈ s.cs, y.blk < W.heap.size := fun y hy => by
  have h1 := c.cs.both.qs.heads y hy
  obtain ⟨_, h2, _⟩ := c.cs.both.qs.nums y hy
  have h3 : 0 < y.c.of.length := by
    match y.c.of, h1 with
    | _ :: _, _ => simp
  exact World.block_lt_of_cell? W _ (h2 0 h3)
theorem BS.int_lt (c : BS w W x q g h base n sz s d u) : ∀ y ∈ d.l, ∀ b, (Value.slice y.op y.of.length y.oc).ownBlock = some b → b < W.heap.size := fun y hy b hb => by
  obtain ⟨p', cap, e4, hl, hc⟩ := c.out.ints y hy
  obtain ⟨b', i0, rfl, hcell⟩ := hc (c.out.full y hy)
  rw [e4] at hb
  injection hb with hb
  have h7 : b' = b := hb
  have h8 : b' < W.heap.size := World.block_lt_of_cell? W _ (hcell 0 (c.out.full y hy))
  omega
/-- A box that was made is written whole. -/
theorem BS.box (c0 : BS w W x q g h base n sz s d u) {l' : List Cq} {op' : Option Addr} {oc' : Nat} {W' : World} (c : BS w W' x q g h base n sz s { d with l := l', op := op', oc := oc' } u) {k : Nat} (hk : k = W.heap.size) {c1 : Array Value} {T : TypeId} (hb : W'.heap[k]? = some (.cells c1 T (0, 0)))
    (hT : T ≠ 119) (new : ∀ y ∈ l', y ∈ d.l ∨ ∃ b, y.op = some ⟨b, 0, none⟩ ∧ W.heap.size < b) (cells : Array Value) :
    BS w (W'.setRow k cells) x q g h base n sz s { d with l := l', op := op', oc := oc' } u := by
  subst hk
  obtain ⟨a1, a2, a3, a4, a5, a6⟩ := c0.lts
  have gr : W'.grownBy (W'.setRow W.heap.size cells) (some W.heap.size) := by
    have bl := below_setRow (Below.refl W.heap.size W') (Nat.le_refl _) cells
    exact ⟨bl.os, bl.tape, bl.output, bl.size, fun j hj hn => setRow_other _ _ _ _ (fun e => hn (by rw [e]))⟩
  have t : Turned (fun j => j = W.heap.size) W' (W'.setRow W.heap.size cells) := Turned.of gr (fun j e => by injection e with e; exact e.symm)
  refine ⟨c.cs.kept_row gr ⟨by omega, by omega, by omega, by omega, by omega⟩ (fun y hy => by have := c0.blk_lt y hy; omega) c0.cs.bl.size, (t.block x c.bx.lt (fun e => by omega)).trans c.bx, c.out.turned t (fun j hj e => ?_) (fun y hy j hj e => ?_), c.heads.turned t (fun j hj e => by have := (c0.heads.lt j hj).2; omega), c.hb, c.ha⟩
  · rcases c.out.row.2 with ⟨e2, _⟩ | ⟨b2, cap, cur, e2, _, h2, _⟩
    · have e3 : Value.slice op' l'.length oc' = .slice none 0 0 := e2
      rw [show (Value.slice ({ d with l := l', op := op', oc := oc' } : Dt).op ({ d with l := l', op := op', oc := oc' } : Dt).l.length ({ d with l := l', op := op', oc := oc' } : Dt).oc) = Value.slice op' l'.length oc' from rfl, e3] at hj
      cases hj
    · rw [e2] at hj
      injection hj with hj
      have hj' : b2 = j := hj
      exact blk_ne h2 hb (cells_ne (fun e3 => hT e3.symm)) (by omega)
  · rcases new y hy with h1 | ⟨b, h1, h2⟩
    · have := c0.int_lt y h1 j hj; omega
    · rw [h1] at hj
      injection hj with hj
      have hj' : b = j := hj
      omega
theorem Beside.row {k' : Nat} (b : Beside W k o x q p h mb) (hk : k ≠ k') (cells : Array Value) : Beside (W.setRow k' cells) k o x q p h mb := ⟨(setRow_other _ _ _ _ hk).trans b.at_, b.ne⟩
theorem SXrow {x z k : Nat} {o1 o2 : Obj} {W : World} (h1 : W.heap[x]? = some o1) (h2 : W.heap[z]? = some o2) (hx : x ≠ k) (hz : z ≠ k) (cells : Array Value) : (W.setRow k cells).heap[x]? = some o1 ∧ (W.setRow k cells).heap[z]? = some o2 := ⟨(setRow_other _ _ _ _ hx).trans h1, (setRow_other _ _ _ _ hz).trans h2⟩
end

/-- The cells of an act. -/
abbrev acC (dd : Int) (v : Value) (hd ln f a k y : Int) : Array Value := #[.int .i64 dd, v, .int .u32 hd, .int .u32 ln, .int .i64 f, .int .i64 a, .int .i64 k, .int .u64 y]
abbrev acO (dd : Int) (v : Value) (hd ln f a k y : Int) : Obj := .cells (acC dd v hd ln f a k y) 51 (0, 0)
abbrev quO (base n : Int) (o : Value) (told back : Int) (br : Bool) : Obj := .cells (qCells base n o told back br) 40 (0, 0)
abbrev poO (base n tk td : Int) : Obj := .cells #[.int .i64 base, .int .i64 n, .int .i64 tk, .int .i64 td] 42 (0, 0)
section
variable {W : World} {z : Nat} {dd hd ln f a k y : Int} {v : Value} {c : Array Value} {t : TypeId} {r : Nat × Nat}
theorem at_cell (e : W.heap[z]? = some (.cells c t r)) (i : Nat) : W.cell? ⟨z, i, none⟩ = c[i]? := cell_of_block e
theorem ac_c0 (e : W.heap[z]? = some (acO dd v hd ln f a k y)) : W.cell? ⟨z, 0, none⟩ = some (.int .i64 dd) := at_cell e 0
theorem ac_c1 (e : W.heap[z]? = some (acO dd v hd ln f a k y)) : W.cell? ⟨z, 1, none⟩ = some v := at_cell e 1
theorem ac_c2 (e : W.heap[z]? = some (acO dd v hd ln f a k y)) : W.cell? ⟨z, 2, none⟩ = some (.int .u32 hd) := at_cell e 2
theorem ac_c3 (e : W.heap[z]? = some (acO dd v hd ln f a k y)) : W.cell? ⟨z, 3, none⟩ = some (.int .u32 ln) := at_cell e 3
theorem ac_c4 (e : W.heap[z]? = some (acO dd v hd ln f a k y)) : W.cell? ⟨z, 4, none⟩ = some (.int .i64 f) := at_cell e 4
theorem ac_c5 (e : W.heap[z]? = some (acO dd v hd ln f a k y)) : W.cell? ⟨z, 5, none⟩ = some (.int .i64 a) := at_cell e 5
theorem ac_c6 (e : W.heap[z]? = some (acO dd v hd ln f a k y)) : W.cell? ⟨z, 6, none⟩ = some (.int .i64 k) := at_cell e 6
theorem ac_c7 (e : W.heap[z]? = some (acO dd v hd ln f a k y)) : W.cell? ⟨z, 7, none⟩ = some (.int .u64 y) := at_cell e 7
end

/-- Both sides, from act to act. -/
structure DS (w W : World) (x q g h : Nat) (base : Int) (n sz : Nat) (s : St) (d : Dt) : Prop where
  bs : BS w W x q g h base n sz s d (wdOf s d)
  tie : d.l.map toCh = s.cs.map Oc.c
/-- What an act leaves. -/
def DP (w : World) (x q g h : Nat) (base : Int) (n sz : Nat) (d : Dt) (e : Ending) (W' : World) : Prop :=
  e = .returned (.bool true) ∧ ∃ s' d', DS w W' x q g h base n sz s' d' ∧ d'.H.length ≤ d.H.length + 1
/-- In a region that draws: the struct and the act lie there. -/
def SX (x z g q : Nat) (base n : Int) (u : Wd) (dd : Int) (v : Value) (hd ln f a k y : Int) (V : World) : Prop := WAt V x g q u.p u.lm base n u.o u.told u.back u.br u.tk u.td u.hv ∧ V.heap[z]? = some (acO dd v hd ln f a k y)
theorem SX.grow {x z g q : Nat} {base n : Int} {u : Wd} {dd : Int} {v : Value} {hd ln f a k y : Int} {V V' : World} (h : SX x z g q base n u dd v hd ln f a k y V) (b : Below V.heap.size V V') : SX x z g q base n u dd v hd ln f a k y V' :=
  ⟨h.1.grow b, (b.block z (Array.getElem?_eq_some_iff.1 h.2).1).trans h.2⟩
theorem SX.of {w V : World} {x z g q h : Nat} {base : Int} {n sz : Nat} {s : St} {d : Dt} {u : Wd} {dd : Int} {v : Value} {hd ln f a k y : Int} {p mb : Nat} (c : BS w V x q g h base n sz s d u) (b : Beside V z (acO dd v hd ln f a k y) x q p h mb) : SX x z g q base n u dd v hd ln f a k y V := ⟨c.bx, b.at_⟩

end Go.Proofs.Ytjelgifijhcnnaa
