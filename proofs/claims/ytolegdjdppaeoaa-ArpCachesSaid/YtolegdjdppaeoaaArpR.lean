/-
  Layer 7: a cache beside blocks that stay; the calls on it. Conditions: as said.
-/
import Derived.Test.YtolegdjdppaeoaaArpQ
import Derived.Test.YtolegdjdppaeoaaArpI
namespace Go.Proofs.Ytolegdjdppaeoaa
open Go.RowKit Go.Sort Go.Shelf
set_option linter.unusedVariables false

/-- A cache made since w, and blocks that stay as they are while it is used. -/
structure CaS (w W : World) (F : List (Nat × Obj)) (g : Nat) (lim : Int) (v : Value) (l : List En) : Prop where
  ca : Ca W g lim v l
  bl : Below w.heap.size w W
  gb : w.heap.size ≤ g
  vb : ∀ k, v.ownBlock = some k → w.heap.size ≤ k
  fx : ∀ p ∈ F, W.heap[p.1]? = some p.2 ∧ p.1 ≠ g ∧ ∀ k, v.ownBlock = some k → k ≠ p.1
section
variable {w W W' : World} {F : List (Nat × Obj)} {g : Nat} {lim : Int} {v : Value} {l l' : List En}
theorem blk_lt {w : World} {n : Nat} {o : Obj} (h : w.heap[n]? = some o) : n < w.heap.size := (Array.getElem?_eq_some_iff.1 h).1
theorem CaS.grow (h : CaS w W F g lim v l) (b : Below W.heap.size W W') : CaS w W' F g lim v l :=
  ⟨h.ca.grow b, h.bl.trans (b.mono h.bl.size), h.gb, h.vb, fun p hp => ⟨(b.block p.1 (blk_lt (h.fx p hp).1)).trans (h.fx p hp).1, (h.fx p hp).2⟩⟩
theorem CaS.turn (h : CaS w W F g lim v l) (hp : CaPost W W' g lim v l') : ∃ v', CaS w W' F g lim v' l' := by
  obtain ⟨v', h1, h2, h3⟩ := hp
  have hno : ∀ k, k < w.heap.size → ¬ CaO g v k := fun k hk ho => by
    rcases ho with rfl | ho
    · have := h.gb; omega
    · have := h.vb k ho; omega
  refine ⟨v', h1, ⟨h2.os.trans h.bl.os, h2.tape.trans h.bl.tape, h2.output.trans h.bl.output, Nat.le_trans h.bl.size h2.size, fun k hk => (h2.block k (Nat.lt_of_lt_of_le hk h.bl.size) (hno k hk)).trans (h.bl.block k hk)⟩, h.gb, fun k hk => ?_, fun p hp => ?_⟩
  · rcases h3 k hk with e | e
    · exact h.vb k e
    · exact Nat.le_trans h.bl.size e
  · obtain ⟨f1, f2, f3⟩ := h.fx p hp
    have hl := blk_lt f1
    refine ⟨(h2.block p.1 hl (fun ho => ?_)).trans f1, f2, fun k hk e => ?_⟩
    · rcases ho with ho | ho
      · exact f2 ho
      · exact f3 _ ho rfl
    · rcases h3 k hk with e2 | e2
      · exact f3 k e2 e
      · omega
/-- A block more that stays. -/
theorem CaS.more (h : CaS w W F g lim v l) {n : Nat} {o : Obj} (hn : W.heap[n]? = some o) (hg : n ≠ g) (hv : ∀ k, v.ownBlock = some k → k ≠ n) : CaS w W ((n, o) :: F) g lim v l :=
  ⟨h.ca, h.bl, h.gb, h.vb, fun p hp => by
    rcases List.mem_cons.1 hp with rfl | hp
    · exact ⟨hn, hg, hv⟩
    · exact h.fx p hp⟩
theorem CaS.alloc (h : CaS w W F g lim v l) (o : Obj) : CaS w (W.alloc o) ((W.heap.size, o) :: F) g lim v l :=
  (h.grow ((Below.refl _ _).alloc (Nat.le_refl _) o)).more (heap_alloc_new W o) (by have := h.ca.lt; omega) (fun k hk => by have := (h.ca.row.lt k hk).2; omega)
theorem CaS.get (h : CaS w W F g lim v l) {n : Nat} {o : Obj} (hp : (n, o) ∈ F) : W.heap[n]? = some o := (h.fx _ hp).1

theorem learnS (h : CaS w W F g lim v l) (hl : l.length ≤ 8) (i : Ip4) (m : Mac6) :
    Calls Try.prog 12 #[.pointer (some ⟨g, 0, none⟩), .agg #[.int .u8 (i.a.toNat : Int), .int .u8 (i.b.toNat : Int), .int .u8 (i.c.toNat : Int), .int .u8 (i.d.toNat : Int)], .agg #[.int .u8 (m.a.toNat : Int), .int .u8 (m.b.toNat : Int), .int .u8 (m.c.toNat : Int), .int .u8 (m.d.toNat : Int), .int .u8 (m.e.toNat : Int), .int .u8 (m.f.toNat : Int)]] W fun e w' => e = .returned (.tuple #[]) ∧ ∃ v', CaS w w' F g lim v' (learnL i m l) :=
  (learn_ok h.ca hl i m).mono fun e w' ⟨e1, e2⟩ => ⟨e1, h.turn e2⟩
theorem tickS (h : CaS w W F g lim v l) (hl : l.length ≤ 8) (ha : ∀ x ∈ l, 0 ≤ x.age ∧ x.age ≤ 1048576) :
    Calls Try.prog 13 #[.pointer (some ⟨g, 0, none⟩)] W fun e w' => e = .returned (.tuple #[]) ∧ ∃ v', CaS w w' F g lim v' (tickL lim l) :=
  (tick_ok h.ca (by omega) ha).mono fun e w' ⟨e1, e2⟩ => ⟨e1, h.turn e2⟩
theorem findS (h : CaS w W F g lim v l) (hl : l.length ≤ 8) (i : Ip4) (M : Mac6) (b : Bool) (hM : M = macO (findL i l)) (hb : b = (findL i l).isSome) :
    Calls Try.prog 14 #[.pointer (some ⟨g, 0, none⟩), .agg #[.int .u8 (i.a.toNat : Int), .int .u8 (i.b.toNat : Int), .int .u8 (i.c.toNat : Int), .int .u8 (i.d.toNat : Int)]] W fun e w' => e = .returned (.tuple #[.agg #[.int .u8 (M.a.toNat : Int), .int .u8 (M.b.toNat : Int), .int .u8 (M.c.toNat : Int), .int .u8 (M.d.toNat : Int), .int .u8 (M.e.toNat : Int), .int .u8 (M.f.toNat : Int)], .bool b]) ∧ CaS w w' F g lim v l :=
  (cFind_ok h.ca (by omega) i M b hM hb).mono fun e w' ⟨e1, e2⟩ => ⟨e1, h.grow e2⟩
theorem lenS (h : CaS w W F g lim v l) (hl : l.length ≤ 8) :
    Calls Try.prog 17 #[.pointer (some ⟨g, 0, none⟩)] W fun e w' => e = .returned (.int .i64 l.length) ∧ W = w' :=
  clen_ok h.ca (by omega)
theorem newS (hw : Below w.heap.size w W) (hF : ∀ p ∈ F, W.heap[p.1]? = some p.2) (lim : Int) (h1 : 1 ≤ lim) (h2 : lim ≤ 1048576) :
    Calls Try.prog 11 #[.int .i64 lim] W fun e w' => ∃ g, e = .returned (.tuple #[.pointer (some ⟨g, 0, none⟩), .int .i64 0]) ∧ CaS w w' F g lim (.slice none 0 0) [] :=
  (cnew_ok W lim h1 h2).mono fun e w' ⟨e1, e2, e3⟩ => ⟨_, e1, e2, hw.trans (e3.mono hw.size), hw.size, fun k hk => (by cases hk), fun p hp => ⟨(e3.block p.1 (blk_lt (hF p hp))).trans (hF p hp), (by have := blk_lt (hF p hp); omega), fun k hk => (by cases hk)⟩⟩
end

end Go.Proofs.Ytolegdjdppaeoaa
