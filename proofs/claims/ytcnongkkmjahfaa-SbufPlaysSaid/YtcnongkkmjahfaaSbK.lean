/-
  Layer 13: both buffers beside one another. Conditions: as said.
-/
import Derived.Test.YtcnongkkmjahfaaSbJ
namespace Go.Proofs.Ytcnongkkmjahfaa
open Go.RowKit
set_option linter.unusedVariables false

/-- The program's buffer, that was made behind w, and the document's, that lies in the box x. -/
structure PQ (w W : World) (g gb n x : Nat) (u e : Int) (L : List UInt8) (p : Option Addr) (c : Nat) : Prop where
  sb : SbS w W g gb n u L
  bx : W.heap[x]? = some (.cells #[.int .i64 n, .int .u32 e, .slice p L.length c] 36 (0, 0))
  row : BySl W (fun k => k = g ∨ k = gb ∨ k = x) p c (hbs u L)
  x0 : w.heap.size ≤ x
  xg : x ≠ g ∧ x ≠ gb
  en : e = (u + L.length) % 4294967296
section
variable {w W W' : World} {g gb n x : Nat} {u e : Int} {L : List UInt8} {p : Option Addr} {c : Nat}
theorem PQ.grow (h : PQ w W g gb n x u e L p c) (b : Below W.heap.size W W') : PQ w W' g gb n x u e L p c :=
  ⟨h.sb.grow b, (b.block x (Array.getElem?_eq_some_iff.1 h.bx).1).trans h.bx, h.row.grow b, h.x0, h.xg, h.en⟩
theorem PQ.lts (h : PQ w W g gb n x u e L p c) : g < W.heap.size ∧ gb < W.heap.size ∧ x < W.heap.size :=
  ⟨h.sb.sb.lt, h.sb.sb.ltb, (Array.getElem?_eq_some_iff.1 h.bx).1⟩
/-- The document's buffer is another one, the program's not yet. -/
structure PR (w W : World) (g gb n x : Nat) (u : Int) (L : List UInt8) (u' e' : Int) (L' : List UInt8) (p' : Option Addr) (c' : Nat) : Prop where
  sb : SbS w W g gb n u L
  bx : W.heap[x]? = some (.cells #[.int .i64 n, .int .u32 e', .slice p' L'.length c'] 36 (0, 0))
  row : BySl W (fun k => k = g ∨ k = gb ∨ k = x) p' c' (hbs u' L')
  x0 : w.heap.size ≤ x
  xg : x ≠ g ∧ x ≠ gb
  en : e' = (u' + L'.length) % 4294967296
theorem PQ.doc (h : PQ w W g gb n x u e L p c) {u' e' : Int} {L' : List UInt8} {p' : Option Addr} {c' : Nat} (r : BySl W (fun k => k = g ∨ k = gb ∨ k = x) p' c' (hbs u' L')) (he : e' = (u' + L'.length) % 4294967296) :
    PR w (W.setRow x #[.int .i64 n, .int .u32 e', .slice p' L'.length c']) g gb n x u L u' e' L' p' c' :=
  ⟨⟨h.sb.sb.kept (fun j hj => setRow_other _ _ _ _ (fun e => by subst e; exact hj.elim h.xg.1 h.xg.2)), below_setRowB h.sb.bl h.x0 _, h.sb.g0, h.sb.b0⟩,
    setRow_heap _ _ _ _ _ _ h.bx, r.kept ⟨rfl, rfl, rfl, by rw [size_setRow]; exact Nat.le_refl _, fun k _ hk => setRow_other _ _ _ _ (fun e => hk (.inr (.inr e)))⟩, h.x0, h.xg, he⟩
theorem PR.prog {u' e' : Int} {L' : List UInt8} {p' : Option Addr} {c' : Nat} (h : PR w W g gb n x u L u' e' L' p' c') (s : SbS w W' g gb n u' L') (t : Turn W W' (fun k => k = g ∨ k = gb)) : PQ w W' g gb n x u' e' L' p' c' :=
  ⟨s, (t.block x (Array.getElem?_eq_some_iff.1 h.bx).1 (fun e => e.elim h.xg.1 h.xg.2)).trans h.bx, h.row.kept (t.mono (fun j _ e => e.elim .inl (fun e => .inr (.inl e)))), h.x0, h.xg, h.en⟩
end
end Go.Proofs.Ytcnongkkmjahfaa
