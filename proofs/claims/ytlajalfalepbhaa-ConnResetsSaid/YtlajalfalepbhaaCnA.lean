/-
  Layer 15: a connection as a value, and in memory (its struct, both buffers, its clock, what it has sent) behind a world and beside blocks that stay as they are; what each of its parts' calls makes of it. No conditions but those said.
-/
import Derived.Test.YtlajalfalepbhaaSgZ
import Derived.Test.YtlajalfalepbhaaSbD
import Derived.Test.YtlajalfalepbhaaRbI
import Derived.Test.YtlajalfalepbhaaRtB
namespace Go.Proofs.Ytlajalfalepbhaa
open Go.RowKit
set_option linter.unusedVariables false

/-- A connection. -/
structure Cn where
  fr : Int
  dt : Int
  st : Int
  rs : Bool
  iss : Int
  una : Int
  nxt : Int
  top : Int
  u : Int
  L : List UInt8
  cl : Bool
  mss : Int
  win : Int
  tsq : Int
  tak : Int
  nx : Int
  R : List UInt8
  W : List (Option UInt8)
  eof : Bool
  told : Int
  ck : CkV
  left : Int
  tries : Int
  mt : Int
  mr : Bool
  me : Int
  ma : Int
  lg : Int
  ml : Int
  sent : List Sg
/-- What all its contracts ask. -/
structure Cn.Ok (v : Cn) : Prop where
  ck : v.ck.ok
  m1 : 1 ≤ v.mss
  m2 : v.mss ≤ 536
  w1 : -9223372036854775808 ≤ v.win
  w2 : v.win ≤ 9223372036854775807
/-- Its blocks, but for that of what was sent. -/
structure Bq where
  c : Nat
  g : Nat
  b : Nat
  h : Nat
  d : Nat
  k : Nat
def Bq.own (q : Bq) (j : Nat) : Prop := j = q.c ∨ j = q.g ∨ j = q.b ∨ j = q.h ∨ j = q.d ∨ j = q.k
def sgE (f : Sg) : List Value := (sgC f).toList
theorem sgE_len (f : Sg) : (sgE f).length = 8 := rfl
/-- The cells of its struct. -/
def cnC (q : Bq) (v : Cn) (sl : Value) : Array Value := #[.int .i64 v.fr, .int .i64 v.dt, .int .i64 v.st, .bool v.rs, .int .u32 v.iss, .int .u32 v.una, .int .u32 v.nxt, .int .u32 v.top, .pointer (some ⟨q.g, 0, none⟩), .bool v.cl, .int .i64 v.mss, .int .i64 v.win, .int .u32 v.tsq, .int .u32 v.tak, .pointer (some ⟨q.h, 0, none⟩), .bool v.eof, .int .i64 v.told, .pointer (some ⟨q.k, 0, none⟩), .int .i64 v.left, .int .i64 v.tries, .int .i64 v.mt, .bool v.mr, .int .u32 v.me, .int .i64 v.ma, .int .i64 v.lg, .int .i64 v.ml, sl, .pointer (some ⟨q.c, 0, none⟩)]
/-- What kind of block it is. -/
def kdC : Obj → Nat
  | .cells _ t _ => t
  | _ => 100000
theorem kdC_ne {w : World} {a b : Nat} {x y : Obj} (ha : w.heap[a]? = some x) (hb : w.heap[b]? = some y) (h : kdC x ≠ kdC y) : a ≠ b := by
  rintro rfl
  rw [ha] at hb
  injection hb with e
  exact h (by rw [e])
/-- A connection in memory; sl: the slice of what was sent. -/
structure CnM (w : World) (q : Bq) (sl : Value) (v : Cn) : Prop where
  at_ : w.heap[q.c]? = some (.cells (cnC q v sl) 49 (0, 0))
  out : Sb w q.g q.b 2048 v.u v.L
  inn : Rb w q.h q.d 2048 v.nx v.R v.W
  ck : CkAt w q.k v.ck
  row : RowA 8 sgE 28 w sl v.sent
theorem own_block {w : World} {sl : Value} {l : List Sg} (h : RowA 8 sgE 28 w sl l) {j : Nat} (hj : sl.ownBlock = some j) : ∃ cur, w.heap[j]? = some (.cells cur 28 (0, 0)) := by
  rcases h.2 with ⟨rfl, h0⟩ | ⟨b, cap, cur, rfl, _, h2, _⟩
  · cases hj
  · simp only [Value.ownBlock] at hj
    injection hj with hj
    subst hj
    exact ⟨cur, h2⟩
section
variable {w w' : World} {q : Bq} {sl : Value} {v : Cn}
/-- Its blocks are six. -/
theorem CnM.ap (m : CnM w q sl v) : (q.c ≠ q.g ∧ q.c ≠ q.b ∧ q.c ≠ q.h ∧ q.c ≠ q.d ∧ q.c ≠ q.k) ∧ (q.g ≠ q.b ∧ q.g ≠ q.h ∧ q.g ≠ q.d ∧ q.g ≠ q.k) ∧ (q.b ≠ q.h ∧ q.b ≠ q.d ∧ q.b ≠ q.k) ∧ (q.h ≠ q.d ∧ q.h ≠ q.k) ∧ q.d ≠ q.k ∧ (∀ j, sl.ownBlock = some j → ¬ q.own j) := by
  have c := m.at_
  have g := m.out.at_
  have b := m.out.row
  have h := m.inn.at_
  have d := m.inn.row
  have k : w.heap[q.k]? = some (ckO q.k v.ck.l v.ck.m v.ck.t v.ck.b v.ck.a v.ck.d) := m.ck
  unfold ckO at k
  refine ⟨⟨kdC_ne c g ?_, kdC_ne c b ?_, kdC_ne c h ?_, kdC_ne c d ?_, kdC_ne c k ?_⟩, ⟨kdC_ne g b ?_, kdC_ne g h ?_, kdC_ne g d ?_, kdC_ne g k ?_⟩, ⟨kdC_ne b h ?_, kdC_ne b d ?_, kdC_ne b k ?_⟩, ⟨kdC_ne h d ?_, kdC_ne h k ?_⟩, kdC_ne d k ?_, fun j hj => ?_⟩ <;> first | (simp only [kdC]; decide) | skip
  obtain ⟨cur, e⟩ := own_block m.row hj
  rintro (e1 | e1 | e1 | e1 | e1 | e1) <;> subst e1
  · exact kdC_ne e c (by simp only [kdC]; decide) rfl
  · exact kdC_ne e g (by simp only [kdC]; decide) rfl
  · exact kdC_ne e b (by simp only [kdC]; decide) rfl
  · exact kdC_ne e h (by simp only [kdC]; decide) rfl
  · exact kdC_ne e d (by simp only [kdC]; decide) rfl
  · exact kdC_ne e k (by simp only [kdC]; decide) rfl
theorem CnM.lts (m : CnM w q sl v) : ∀ j, q.own j ∨ sl.ownBlock = some j → j < w.heap.size := by
  rintro j ((rfl | rfl | rfl | rfl | rfl | rfl) | h)
  · exact (Array.getElem?_eq_some_iff.1 m.at_).1
  · exact m.out.lt
  · exact m.out.ltb
  · exact m.inn.lt
  · exact m.inn.ltb
  · exact (Array.getElem?_eq_some_iff.1 m.ck).1
  · obtain ⟨cur, e⟩ := own_block m.row h
    exact (Array.getElem?_eq_some_iff.1 e).1
/-- Where all its blocks stay, it stays. -/
theorem CnM.kept (m : CnM w q sl v) (hs : w.heap.size ≤ w'.heap.size) (k : ∀ j, q.own j ∨ sl.ownBlock = some j → w'.heap[j]? = w.heap[j]?) : CnM w' q sl v :=
  ⟨(k _ (.inl (.inl rfl))).trans m.at_, m.out.kept (fun j hj => k j (.inl (hj.elim (fun e => .inr (.inl e)) (fun e => .inr (.inr (.inl e)))))), m.inn.kept (fun j hj => k j (.inl (hj.elim (fun e => .inr (.inr (.inr (.inl e)))) (fun e => .inr (.inr (.inr (.inr (.inl e)))))))), (k _ (.inl (.inr (.inr (.inr (.inr (.inr rfl))))))).trans m.ck, m.row.kept hs (fun b hb => k b (.inr hb))⟩
end
/-- A connection that was made behind the world w0, beside blocks that stay as they are. -/
structure CB (w0 : World) (fx : List (Nat × Obj)) (q : Bq) (v : Cn) (w : World) : Prop where
  ex : ∃ sl, CnM w q sl v ∧ ∀ j, sl.ownBlock = some j → w0.heap.size ≤ j ∧ ∀ x ∈ fx, x.1 ≠ j
  ok : v.Ok
  bl : Below w0.heap.size w0 w
  own : ∀ j, q.own j → w0.heap.size ≤ j
  fx : ∀ x ∈ fx, w.heap[x.1]? = some x.2 ∧ ¬ q.own x.1
section
variable {w0 w w' : World} {fx : List (Nat × Obj)} {q : Bq} {v v' : Cn}
theorem CB.size (h : CB w0 fx q v w) : w0.heap.size ≤ w.heap.size := h.bl.size
theorem CB.c (h : CB w0 fx q v w) (i : Nat) (x : Value) (hx : ∀ sl, (cnC q v sl)[i]? = some x) : w.cell? ⟨q.c, i, none⟩ = some x := by
  obtain ⟨sl, m, _⟩ := h.ex
  rw [cell_of_block m.at_]
  exact hx sl
theorem CB.f (h : CB w0 fx q v w) (i : Nat) : w.frozen? ⟨q.c, i, none⟩ = false := by
  obtain ⟨sl, m, _⟩ := h.ex
  simp [World.frozen?, m.at_]
theorem CB.lt (h : CB w0 fx q v w) : q.c < w.heap.size := by
  obtain ⟨sl, m, _⟩ := h.ex
  exact m.lts _ (.inl (.inl rfl))
theorem CB.fxlt (h : CB w0 fx q v w) {x : Nat × Obj} (hx : x ∈ fx) : x.1 < w.heap.size := (Array.getElem?_eq_some_iff.1 (h.fx x hx).1).1
/-- The world has grown behind. -/
theorem CB.grow (h : CB w0 fx q v w) (k : Below w.heap.size w w') : CB w0 fx q v w' := by
  obtain ⟨sl, m, hsl⟩ := h.ex
  exact ⟨⟨sl, m.kept k.size (fun j hj => k.block j (m.lts j hj)), hsl⟩, h.ok, h.bl.trans (k.mono h.bl.size), h.own, fun x hx => ⟨(k.block _ (h.fxlt hx)).trans (h.fx x hx).1, (h.fx x hx).2⟩⟩
theorem CB.drewN (h : CB w0 fx q v w) (n : Nat) : CB w0 fx q v (w.drewN n) := h.grow (below_drewN (Below.refl _ _) _)
theorem CB.drew (h : CB w0 fx q v w) : CB w0 fx q v w.drew := h.grow (Below.refl _ _).drew
theorem CB.of_drew (h : CB w0 fx q v w) (k : ∃ n, w' = w.drewN n) : CB w0 fx q v w' := by
  obtain ⟨n, rfl⟩ := k
  exact h.drewN n
theorem CB.alloc (h : CB w0 fx q v w) (o : Obj) : CB w0 fx q v (w.alloc o) := h.grow ((Below.refl _ _).alloc (Nat.le_refl _) o)
/-- A block that was made anew is kept from now on. -/
theorem CB.keep (h : CB w0 fx q v w) {j : Nat} {o : Obj} (hj : w.heap[j]? = some o) (hn : ¬ q.own j) (hs : ∀ cs m, o ≠ .cells cs 28 m) : CB w0 ((j, o) :: fx) q v w := by
  obtain ⟨sl, m, hsl⟩ := h.ex
  refine ⟨⟨sl, m, fun i hi => ⟨(hsl i hi).1, fun x hx => ?_⟩⟩, h.ok, h.bl, h.own, fun x hx => ?_⟩
  · rcases List.mem_cons.1 hx with rfl | hx
    · rintro rfl
      obtain ⟨cur, e⟩ := own_block m.row hi
      rw [hj] at e
      injection e with e
      exact hs _ _ e
    · exact (hsl i hi).2 x hx
  · rcases List.mem_cons.1 hx with rfl | hx
    · exact ⟨hj, hn⟩
    · exact h.fx x hx
/-- .. one that lies behind all that there was. -/
theorem CB.keepNew (h : CB w0 fx q v w) (o : Obj) : CB w0 ((w.heap.size, o) :: fx) q v (w.alloc o) := by
  have h1 := h.alloc o
  obtain ⟨sl, m, hsl⟩ := h.ex
  have k : Below w.heap.size w (w.alloc o) := (Below.refl _ _).alloc (Nat.le_refl _) o
  refine ⟨⟨sl, m.kept k.size (fun j hj => k.block j (m.lts j hj)), fun i hi => ⟨(hsl i hi).1, fun x hx => ?_⟩⟩, h1.ok, h1.bl, h1.own, fun x hx => ?_⟩
  · rcases List.mem_cons.1 hx with rfl | hx
    · have := m.lts i (.inr hi)
      show w.heap.size ≠ i
      omega
    · exact (hsl i hi).2 x hx
  · rcases List.mem_cons.1 hx with rfl | hx
    · exact ⟨heap_alloc_new w o, fun e => by have := m.lts _ (.inl e); omega⟩
    · exact h1.fx x hx
/-- .. one that lies behind, whatever it holds. -/
theorem CB.keepBehind (h : CB w0 fx q v w) (k : Below w.heap.size w w') {j : Nat} {o : Obj} (hj : w'.heap[j]? = some o) (hn : w.heap.size ≤ j) : CB w0 ((j, o) :: fx) q v w' := by
  have h1 := h.grow k
  obtain ⟨sl, m, hsl⟩ := h.ex
  refine ⟨⟨sl, m.kept k.size (fun j hj => k.block j (m.lts j hj)), fun i hi => ⟨(hsl i hi).1, fun x hx => ?_⟩⟩, h1.ok, h1.bl, h1.own, fun x hx => ?_⟩
  · rcases List.mem_cons.1 hx with rfl | hx
    · have := m.lts i (.inr hi)
      show j ≠ i
      omega
    · exact (hsl i hi).2 x hx
  · rcases List.mem_cons.1 hx with rfl | hx
    · exact ⟨hj, fun e => by have := m.lts _ (.inl e); omega⟩
    · exact h1.fx x hx
/-- Blocks that need not be kept any more. -/
theorem CB.let_ {x : Nat × Obj} (h : CB w0 (x :: fx) q v w) : CB w0 fx q v w := by
  obtain ⟨sl, m, hsl⟩ := h.ex
  exact ⟨⟨sl, m, fun i hi => ⟨(hsl i hi).1, fun y hy => (hsl i hi).2 y (List.mem_cons_of_mem _ hy)⟩⟩, h.ok, h.bl, h.own, fun y hy => h.fx y (List.mem_cons_of_mem _ hy)⟩
/-- The first block that is kept. -/
theorem CB.hd {j : Nat} {o : Obj} (h : CB w0 ((j, o) :: fx) q v w) : w.heap[j]? = some o := (h.fx _ (List.mem_cons_self ..)).1
/-- What its calls turn. -/
theorem CB.turn (h : CB w0 fx q v w) {sl sl' : Value} (m : CnM w q sl v) (hsl : ∀ j, sl.ownBlock = some j → w0.heap.size ≤ j ∧ ∀ x ∈ fx, x.1 ≠ j) (m' : CnM w' q sl' v') (hs' : ∀ j, sl'.ownBlock = some j → sl.ownBlock = some j ∨ w.heap.size ≤ j) (ok : v'.Ok) (t : Turn w w' (fun j => q.own j ∨ sl.ownBlock = some j)) : CB w0 fx q v' w' := by
  refine ⟨⟨sl', m', fun j hj => ?_⟩, ok, below_turn h.bl t h.bl.size (fun j hj => hj.elim (h.own j) (fun e => (hsl j e).1)), h.own, fun x hx => ⟨(t.block _ (h.fxlt hx) (fun e => e.elim (h.fx x hx).2 (fun e => (hsl _ e).2 x hx rfl))).trans (h.fx x hx).1, (h.fx x hx).2⟩⟩
  rcases hs' j hj with e | e
  · exact hsl j e
  · exact ⟨Nat.le_trans h.bl.size e, fun x hx e2 => by have := h.fxlt hx; omega⟩
/-- One cell of its struct is written. -/
theorem CB.set (h : CB w0 fx q v w) (i : Nat) (x : Value) (v' : Cn) (hi : i < 28) (he : ∀ sl, (cnC q v sl).setIfInBounds i x = cnC q v' sl) (e1 : v'.u = v.u := by rfl) (e2 : v'.L = v.L := by rfl) (e3 : v'.nx = v.nx := by rfl) (e4 : v'.R = v.R := by rfl) (e5 : v'.W = v.W := by rfl) (e6 : v'.ck = v.ck := by rfl) (e7 : v'.sent = v.sent := by rfl) (e8 : v'.mss = v.mss := by rfl) (e9 : v'.win = v.win ∨ (-9223372036854775808 ≤ v'.win ∧ v'.win ≤ 9223372036854775807) := by exact .inl rfl) : CB w0 fx q v' (w.setCell ⟨q.c, i, none⟩ x) := by
  obtain ⟨sl, m, hsl⟩ := h.ex
  obtain ⟨⟨a1, a2, a3, a4, a5⟩, _, _, _, _, a6⟩ := m.ap
  have k : ∀ j, j ≠ q.c → (w.setCell ⟨q.c, i, none⟩ x).heap[j]? = w.heap[j]? := fun j hj => Below.heap_setCell _ _ _ _ (by show j ≠ q.c; exact hj)
  refine h.turn m hsl (sl' := sl) ⟨?_, ?_, ?_, ?_, ?_⟩ (fun j hj => .inl hj) ⟨by rw [e6]; exact h.ok.ck, by rw [e8]; exact h.ok.m1, by rw [e8]; exact h.ok.m2, ?_, ?_⟩ ((Turn.refl _ _).setCell (.inl (.inl rfl)) i x)
  · rw [← he sl]
    exact set_cellsB m.at_ x hi
  · rw [e1, e2]
    exact m.out.kept (fun j hj => k j (by rcases hj with rfl | rfl; exact fun e => a1 e.symm; exact fun e => a2 e.symm))
  · rw [e3, e4, e5]
    exact m.inn.kept (fun j hj => k j (by rcases hj with rfl | rfl; exact fun e => a3 e.symm; exact fun e => a4 e.symm))
  · rw [e6]
    exact (k _ (fun e => a5 e.symm)).trans m.ck
  · rw [e7]
    exact m.row.kept (by simp [World.setCell]) (fun b hb => k b (fun e => a6 b hb (.inl e)))
  · rcases e9 with e | e
    · rw [e]; exact h.ok.w1
    · exact e.1
  · rcases e9 with e | e
    · rw [e]; exact h.ok.w2
    · exact e.2
/-- Its buffer of what goes has gone on. -/
theorem CB.outTo (h : CB w0 fx q v w) {u' : Int} {L' : List UInt8} (s : Sb w' q.g q.b 2048 u' L') (t : Turn w w' (fun j => j = q.g ∨ j = q.b)) : CB w0 fx q { v with u := u', L := L' } w' := by
  obtain ⟨sl, m, hsl⟩ := h.ex
  obtain ⟨⟨a1, a2, a3, a4, a5⟩, ⟨b1, b2, b3, b4⟩, ⟨c1, c2, c3⟩, _, _, a6⟩ := m.ap
  have k : ∀ j, j < w.heap.size → j ≠ q.g → j ≠ q.b → w'.heap[j]? = w.heap[j]? := fun j hj e1 e2 => t.block j hj (fun e => e.elim e1 e2)
  have l := m.lts
  refine h.turn m hsl (sl' := sl) ⟨?_, s, ?_, ?_, ?_⟩ (fun j hj => .inl hj) ⟨h.ok.ck, h.ok.m1, h.ok.m2, h.ok.w1, h.ok.w2⟩ (t.mono (fun j _ hj => .inl (hj.elim (fun e => .inr (.inl e)) (fun e => .inr (.inr (.inl e))))))
  · exact (k _ (l _ (.inl (.inl rfl))) a1 a2).trans m.at_
  · exact m.inn.kept (fun j hj => by
      rcases hj with rfl | rfl
      · exact k _ m.inn.lt (fun e => b2 e.symm) (fun e => c1 e.symm)
      · exact k _ m.inn.ltb (fun e => b3 e.symm) (fun e => c2 e.symm))
  · exact (k _ (l _ (.inl (.inr (.inr (.inr (.inr (.inr rfl))))))) (fun e => b4 e.symm) (fun e => c3 e.symm)).trans m.ck
  · exact m.row.kept t.size (fun b hb => k b (l b (.inr hb)) (fun e => a6 b hb (.inr (.inl e))) (fun e => a6 b hb (.inr (.inr (.inl e)))))
/-- Its buffer of what comes has gone on. -/
theorem CB.innTo (h : CB w0 fx q v w) {nx' : Int} {R' : List UInt8} {W' : List (Option UInt8)} (s : Rb w' q.h q.d 2048 nx' R' W') (t : Turn w w' (fun j => j = q.h ∨ j = q.d)) : CB w0 fx q { v with nx := nx', R := R', W := W' } w' := by
  obtain ⟨sl, m, hsl⟩ := h.ex
  obtain ⟨⟨a1, a2, a3, a4, a5⟩, ⟨b1, b2, b3, b4⟩, ⟨c1, c2, c3⟩, ⟨d1, d2⟩, e1, a6⟩ := m.ap
  have k : ∀ j, j < w.heap.size → j ≠ q.h → j ≠ q.d → w'.heap[j]? = w.heap[j]? := fun j hj e1 e2 => t.block j hj (fun e => e.elim e1 e2)
  have l := m.lts
  refine h.turn m hsl (sl' := sl) ⟨?_, ?_, s, ?_, ?_⟩ (fun j hj => .inl hj) ⟨h.ok.ck, h.ok.m1, h.ok.m2, h.ok.w1, h.ok.w2⟩ (t.mono (fun j _ hj => .inl (hj.elim (fun e => .inr (.inr (.inr (.inl e)))) (fun e => .inr (.inr (.inr (.inr (.inl e))))))))
  · exact (k _ (l _ (.inl (.inl rfl))) a3 a4).trans m.at_
  · exact m.out.kept (fun j hj => by
      rcases hj with rfl | rfl
      · exact k _ m.out.lt b2 b3
      · exact k _ m.out.ltb c1 c2)
  · exact (k _ (l _ (.inl (.inr (.inr (.inr (.inr (.inr rfl))))))) (fun e => d2 e.symm) (fun e => e1 e.symm)).trans m.ck
  · exact m.row.kept t.size (fun b hb => k b (l b (.inr hb)) (fun e => a6 b hb (.inr (.inr (.inr (.inl e))))) (fun e => a6 b hb (.inr (.inr (.inr (.inr (.inl e)))))))
/-- Its clock has gone on. -/
theorem CB.ckTo (h : CB w0 fx q v w) {c' : CkV} (s : CkAt w' q.k c') (ok : c'.ok) (t : Turn w w' (fun j => j = q.k)) : CB w0 fx q { v with ck := c' } w' := by
  obtain ⟨sl, m, hsl⟩ := h.ex
  obtain ⟨⟨a1, a2, a3, a4, a5⟩, ⟨b1, b2, b3, b4⟩, ⟨c1, c2, c3⟩, ⟨d1, d2⟩, e1, a6⟩ := m.ap
  have k : ∀ j, j < w.heap.size → j ≠ q.k → w'.heap[j]? = w.heap[j]? := fun j hj e1 => t.block j hj e1
  have l := m.lts
  refine h.turn m hsl (sl' := sl) ⟨?_, ?_, ?_, s, ?_⟩ (fun j hj => .inl hj) ⟨ok, h.ok.m1, h.ok.m2, h.ok.w1, h.ok.w2⟩ (t.mono (fun j _ hj => .inl (.inr (.inr (.inr (.inr (.inr hj)))))))
  · exact (k _ (l _ (.inl (.inl rfl))) a5).trans m.at_
  · exact m.out.kept (fun j hj => by
      rcases hj with rfl | rfl
      · exact k _ m.out.lt b4
      · exact k _ m.out.ltb c3)
  · exact m.inn.kept (fun j hj => by
      rcases hj with rfl | rfl
      · exact k _ m.inn.lt d2
      · exact k _ m.inn.ltb e1)
  · exact m.row.kept t.size (fun b hb => k b (l b (.inr hb)) (fun e => a6 b hb (.inr (.inr (.inr (.inr (.inr e)))))))
end
end Go.Proofs.Ytlajalfalepbhaa
