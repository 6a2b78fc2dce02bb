/-
  Layer 7: acts that come in; the cache beside the document's own. Conditions: as said.
-/
import Derived.Test.YtolegdjdppaeoaaArpU
import Derived.ProofKit
import Derived.Deep.Slices
import Derived.Deep.Fields
import Derived.ChangeSame
namespace Go.Proofs.Ytolegdjdppaeoaa
open Go.RowKit Go.ChangeShapes Go.WideShapes Go.Deep
set_option linter.unusedVariables false

/-- An act: what is done, two addresses. -/
structure Act7 where
  d : Int
  ip : Ip4
  ma : Mac6
def IsActs7 (w : World) (p : Option Addr) (len : Nat) (l : List Act7) : Prop :=
  l.length = len ∧ len ≤ maxLen ∧ (0 < len → ∃ b o, p = some ⟨b, o, none⟩ ∧ ∀ (i : Nat) (h : i < l.length), w.rangeAt b (o + i * 11) [.int .i64 l[i].d, .int .u8 (l[i].ip.a.toNat : Int), .int .u8 (l[i].ip.b.toNat : Int), .int .u8 (l[i].ip.c.toNat : Int), .int .u8 (l[i].ip.d.toNat : Int), .int .u8 (l[i].ma.a.toNat : Int), .int .u8 (l[i].ma.b.toNat : Int), .int .u8 (l[i].ma.c.toNat : Int), .int .u8 (l[i].ma.d.toNat : Int), .int .u8 (l[i].ma.e.toNat : Int), .int .u8 (l[i].ma.f.toNat : Int)])
theorem IsActs7.below {w w' : World} {p : Option Addr} {len : Nat} {l : List Act7} (h : IsActs7 w p len l) (t : Below w.heap.size w w') : IsActs7 w' p len l := by
  obtain ⟨h1, h2, h4⟩ := h
  refine ⟨h1, h2, fun hp => ?_⟩
  obtain ⟨b, o, e, hc⟩ := h4 hp
  refine ⟨b, o, e, fun i hi j u hu => ?_⟩
  have hb : b < w.heap.size := World.block_lt_of_cell? w _ (hc i hi 0 _ rfl)
  exact (t.cell (p := ⟨b, o + i * 11 + j, none⟩) hb).trans (hc i hi j u hu)
theorem IsActs7.at_ {w : World} {p : Option Addr} {len : Nat} {l : List Act7} (h : IsActs7 w p len l) (i : Nat) (hi : i < len) :
    ∃ b o c, p = some ⟨b, o, none⟩ ∧ l[i]? = some c ∧ b < w.heap.size ∧ w.rangeAt b (o + i * 11) [.int .i64 c.d, .int .u8 (c.ip.a.toNat : Int), .int .u8 (c.ip.b.toNat : Int), .int .u8 (c.ip.c.toNat : Int), .int .u8 (c.ip.d.toNat : Int), .int .u8 (c.ma.a.toNat : Int), .int .u8 (c.ma.b.toNat : Int), .int .u8 (c.ma.c.toNat : Int), .int .u8 (c.ma.d.toNat : Int), .int .u8 (c.ma.e.toNat : Int), .int .u8 (c.ma.f.toNat : Int)] := by
  obtain ⟨h1, h2, h4⟩ := h
  obtain ⟨b, o, e, hc⟩ := h4 (by omega)
  have hi' : i < l.length := by omega
  exact ⟨b, o, l[i], e, List.getElem?_eq_getElem hi', World.block_lt_of_cell? w _ (hc i hi' 0 _ rfl), hc i hi'⟩
theorem add_plain7 (b o i : Nat) : (⟨b, o, none⟩ : Addr).add i = ⟨b, o + i, none⟩ := by
  unfold Addr.add
  by_cases hi : i = 0 <;> simp [hi]
theorem cells_act : Try.prog.cellsOf 54 = 11 := by kernel_rfl
set_option maxRecDepth 100000 in
theorem open_act7 {H : Type} {enc : TypeId × Value → H} {w : World} {a : Addr} {fuel : Nat} {cs : List Value} {x : DataW H × List MemPlace}
    (hc : w.cells? 0 a (Try.prog.cellsOf 54) = some cs) (ht : DataW.trod enc Try.prog w 0 (fun _ => true) true fuel 54 cs = some x) :
    ∃ c : Act7, a.spot = none ∧ w.rangeAt a.block a.off [.int .i64 c.d, .int .u8 (c.ip.a.toNat : Int), .int .u8 (c.ip.b.toNat : Int), .int .u8 (c.ip.c.toNat : Int), .int .u8 (c.ip.d.toNat : Int), .int .u8 (c.ma.a.toNat : Int), .int .u8 (c.ma.b.toNat : Int), .int .u8 (c.ma.c.toNat : Int), .int .u8 (c.ma.d.toNat : Int), .int .u8 (c.ma.e.toNat : Int), .int .u8 (c.ma.f.toNat : Int)] := by
  obtain ⟨xs, n, _, _, hl, hlen, hg⟩ := DataW.trod_struct Try.underlying54 ht
  have hx : ∀ i, i < 3 → ∃ y, xs[i]? = some y := fun i hi => ⟨xs[i]'(by rw [hlen]; exact hi), List.getElem?_eq_getElem _⟩
  obtain ⟨y0, e0⟩ := hx 0 (by decide)
  obtain ⟨y1, e1⟩ := hx 1 (by decide)
  obtain ⟨y2, e2⟩ := hx 2 (by decide)
  have g0 : DataW.trod enc Try.prog w 0 (fun _ => true) true n 3 ((cs.drop 0).take (Try.prog.cellsOf 3)) = some y0 := (hg 0 _ rfl).trans e0
  have g1 : DataW.trod enc Try.prog w 0 (fun _ => true) true n 25 ((cs.drop 1).take (Try.prog.cellsOf 25)) = some y1 := (hg 1 _ rfl).trans e1
  have g2 : DataW.trod enc Try.prog w 0 (fun _ => true) true n 23 ((cs.drop 5).take (Try.prog.cellsOf 23)) = some y2 := (hg 2 _ rfl).trans e2
  obtain ⟨hcl, _, hcell⟩ := World.cells?_some hc
  rw [cells_act] at hcell
  have hsz : cs.length = 11 := by
    have := cells_act
    omega
  match cs, hsz with
  | [c0, c1, c2, c3, c4, c5, c6, c7, c8, c9, c10], _ =>
    rw [cells_int] at g0
    rw [cells_ip] at g1
    rw [cells_mac] at g2
    obtain ⟨y, h0, _, hw⟩ := DataW.trod_int (cs := [c0]) Try.underlying3 g0
    obtain ⟨m1, h1⟩ := ip_in (cs := [c1, c2, c3, c4]) g1
    obtain ⟨m2, h2⟩ := mac_in (cs := [c5, c6, c7, c8, c9, c10]) g2
    simp only [List.cons.injEq, and_true] at h0 h1 h2
    subst h0
    obtain ⟨rfl, rfl, rfl, rfl⟩ := h1
    obtain ⟨rfl, rfl, rfl, rfl, rfl, rfl⟩ := h2
    obtain ⟨b, o, sp⟩ := a
    have c0 := hcell 0 (by decide)
    have hs : sp = none := by simpa [Addr.add] using World.cell?_spot c0
    subst hs
    refine ⟨⟨y, m1, m2⟩, rfl, fun j u hu => ?_⟩
    have hj : j < 11 := (List.getElem?_eq_some_iff.1 hu).1
    have := hcell j hj
    rw [add_plain7] at this
    rw [this]
    exact hu
theorem open_acts7 {H : Type} {enc : TypeId × Value → H} {w : World} {p : Option Addr} {len cap fuel : Nat} {x : DataW H × List MemPlace}
    (h : DataW.trod enc Try.prog w 0 (fun _ => true) true fuel 49 (Value.slice p len cap).cells.toList = some x) : ∃ l, IsActs7 w p len l := by
  rcases open_slice Try.underlying49 h with ⟨hcs, _⟩ | ⟨a, len', cap', m, n, D, Pl, hcs, _, hl, hm, hmm, _, hi⟩
  · simp [Value.cells] at hcs
    obtain ⟨rfl, rfl, rfl⟩ := hcs
    exact ⟨[], rfl, Nat.zero_le _, fun h => absurd h (by omega)⟩
  · simp [Value.cells] at hcs
    obtain ⟨rfl, rfl, rfl⟩ := hcs
    have hm' : m = cap := by simpa using hmm
    have hi' : ∀ i, i < len → ∃ c : Act7, (a.add (i * 11)).spot = none ∧ w.rangeAt (a.add (i * 11)).block (a.add (i * 11)).off [.int .i64 c.d, .int .u8 (c.ip.a.toNat : Int), .int .u8 (c.ip.b.toNat : Int), .int .u8 (c.ip.c.toNat : Int), .int .u8 (c.ip.d.toNat : Int), .int .u8 (c.ma.a.toNat : Int), .int .u8 (c.ma.b.toNat : Int), .int .u8 (c.ma.c.toNat : Int), .int .u8 (c.ma.d.toNat : Int), .int .u8 (c.ma.e.toNat : Int), .int .u8 (c.ma.f.toNat : Int)] := by
      intro i hlt
      obtain ⟨cs', hc, ht⟩ := hi i (by omega)
      have h5 : i * Try.prog.cellsOf 54 = i * 11 := by rw [cells_act]
      rw [h5] at hc
      exact open_act7 hc ht
    have hch := fun i : Fin len => hi' i.1 i.2
    obtain ⟨f, hf⟩ := Classical.axiomOfChoice hch
    refine ⟨List.ofFn f, by simp, by omega, ?_⟩
    intro hpos
    obtain ⟨b, o, sp⟩ := a
    have h0 := (hf ⟨0, hpos⟩).1
    have hs : sp = none := by simpa [Addr.add] using h0
    subst hs
    refine ⟨b, o, rfl, fun i hlt => ?_⟩
    have hlt' : i < len := by simpa using hlt
    have h1 := (hf ⟨i, hlt'⟩).2
    rw [add_plain7] at h1
    simpa using h1

/-- The cache, and the document's own in a box, side by side. -/
structure PS (w W : World) (F : List (Nat × Obj)) (g n7 : Nat) (lim : Int) (v : Value) (l : List En) (p : Option Addr) (c : Nat) (r : List En) : Prop where
  cs : CaS w W F g lim v l
  box : W.heap[n7]? = some (.cells #[.slice p r.length c, .int .i64 lim] 52 (0, 0))
  bge : w.heap.size ≤ n7
  bg : n7 ≠ g
  bv : ∀ k, v.ownBlock = some k → k ≠ n7
  row : RnRow W (.slice p r.length c) r
  rge : ∀ k, (Value.slice p r.length c).ownBlock = some k → w.heap.size ≤ k ∧ k ≠ g ∧ k ≠ n7
  rv : ∀ k, (Value.slice p r.length c).ownBlock = some k → v.ownBlock ≠ some k
  fn : ∀ q ∈ F, q.1 ≠ n7
  len : l.length ≤ 8
  age : ∀ x ∈ l, 0 ≤ x.age ∧ x.age ≤ 1048576
  rlen : r.length ≤ 8
  rage : ∀ x ∈ r, 0 ≤ x.age ∧ x.age ≤ 1048576
  uq : Uq r
section
variable {w W W' : World} {F : List (Nat × Obj)} {g n7 : Nat} {lim : Int} {v : Value} {l l' : List En} {p p' : Option Addr} {c c' : Nat} {r r' : List En}
theorem PS.grow (h : PS w W F g n7 lim v l p c r) (b : Below W.heap.size W W') : PS w W' F g n7 lim v l p c r :=
  { h with cs := h.cs.grow b, box := (b.block n7 (blk_lt h.box)).trans h.box, row := h.row.kept b.size (fun k hk => b.block k (h.row.lt k hk).2) }
theorem PS.drop (h : PS w W F g n7 lim v l p c r) : PS w W [] g n7 lim v l p c r :=
  { h with cs := ⟨h.cs.ca, h.cs.bl, h.cs.gb, h.cs.vb, fun q hq => (by cases hq)⟩, fn := fun q hq => (by cases hq) }
theorem PS.alloc (h : PS w W F g n7 lim v l p c r) (o : Obj) : PS w (W.alloc o) ((W.heap.size, o) :: F) g n7 lim v l p c r :=
  { h.grow ((Below.refl _ _).alloc (Nat.le_refl _) o) with
    cs := h.cs.alloc o
    fn := fun q hq => by
      rcases List.mem_cons.1 hq with rfl | hq
      · have := blk_lt h.box; show W.heap.size ≠ n7; omega
      · exact h.fn q hq }
theorem PS.turn (h : PS w W F g n7 lim v l p c r) (hp : CaPost W W' g lim v l') (hl : l'.length ≤ 8) (ha : ∀ x ∈ l', 0 ≤ x.age ∧ x.age ≤ 1048576) : ∃ v', PS w W' F g n7 lim v' l' p c r := by
  obtain ⟨v0, k1, k2, k3⟩ := hp
  have hno : ∀ k, k ≠ g → v.ownBlock ≠ some k → k < W.heap.size → W'.heap[k]? = W.heap[k]? := fun k h1 h2 h3 => k2.block k h3 (fun ho => by
    rcases ho with ho | ho
    · exact h1 ho
    · exact h2 ho)
  have hn7 := blk_lt h.box
  obtain ⟨v', q⟩ := (h.cs.more h.box h.bg h.bv).turn ⟨v0, k1, k2, k3⟩
  have hvv : ∀ k, v'.ownBlock = some k → v.ownBlock = some k ∨ W.heap.size ≤ k := fun k hk => by
    have e1 := q.ca.at_
    rw [k1.at_] at e1
    injection e1 with e1; injection e1 with e1
    have e2 : v0 = v' := by simpa using e1
    exact k3 k (by rw [e2]; exact hk)
  refine ⟨v', { h with cs := ⟨q.ca, q.bl, q.gb, q.vb, fun x hx => q.fx x (.tail _ hx)⟩, box := q.get (.head _), bv := fun k hk => (q.fx _ (.head _)).2.2 k hk, row := h.row.kept k2.size (fun k hk => hno k (h.rge k hk).2.1 (h.rv k hk) (h.row.lt k hk).2), rv := fun k hk e => ?_, len := hl, age := ha }⟩
  rcases hvv k e with e | e
  · exact h.rv k hk e
  · have := (h.row.lt k hk).2; omega
/-- The document's new cache is laid into its box. -/
theorem PS.put {W1 : World} (h : PS w W F g n7 lim v l p c r) (b : Below W.heap.size W W1) (hr : RnRow W1 (.slice p' r'.length c') r') (ho : ∀ k, (Value.slice p' r'.length c').ownBlock = some k → W.heap.size ≤ k) (hu : Uq r') (hl : r'.length ≤ 8) (ha : ∀ x ∈ r', 0 ≤ x.age ∧ x.age ≤ 1048576) :
    PS w (W1.setRow n7 #[.slice p' r'.length c', .int .i64 lim]) F g n7 lim v l p' c' r' := by
  have h1 := h.grow b
  have hS : ∀ k, k ≠ n7 → (W1.setRow n7 #[.slice p' r'.length c', .int .i64 lim]).heap[k]? = W1.heap[k]? := fun k hk => setRow_other _ _ _ _ hk
  have hn7 := blk_lt h.box
  have hg := h.cs.ca.lt
  refine { cs := ⟨h1.cs.ca.kept (by simp) (fun j hj _ => hS j (fun e => ?_)), below_setRow h1.cs.bl h.bge _, h.cs.gb, h.cs.vb, fun q hq => ⟨(hS _ (h.fn q hq)).trans (h1.cs.fx q hq).1, (h1.cs.fx q hq).2⟩⟩, box := setRow_heap _ _ _ _ _ _ h1.box, bge := h.bge, bg := h.bg, bv := h.bv, row := hr.kept (by simp) (fun k hk => hS k (fun e => ?_)), rge := fun k hk => ?_, rv := fun k hk e => ?_, fn := h.fn, len := h.len, age := h.age, rlen := hl, rage := ha, uq := hu }
  · rcases hj with hj | hj
    · exact h.bg (by rw [← e, hj])
    · exact h.bv j hj e
  · have := ho k hk; omega
  · have := ho k hk
    have := h.cs.bl.size
    exact ⟨by omega, by omega, by omega⟩
  · have := ho k hk
    have := (h.cs.ca.row.lt k e).2
    omega
theorem run_box (h : PS w W F g n7 lim v l p c r) (x y : Value) (hx : x.oneCell' = true) (hy : y.oneCell' = true) : (storeVar 52 ⟨n7, 0, none⟩ (.agg #[x, y])).run Try.prog W = .ok () (W.setRow n7 #[x, y]) :=
  run_storeVar_row (P := Try.prog) W n7 52 52 _ #[x, y] h.box (by kernel_rfl) rfl (by simp [hx, hy])
end
theorem findL_uq {l : List En} (hu : Uq l) {j : Nat} (hj : j < l.length) : findL l[j].ip l = some l[j].ma := by
  refine findL_some hj rfl (fun x hx => ?_)
  obtain ⟨k, hk, rfl⟩ := List.mem_take_iff_getElem.1 hx
  exact List.pairwise_iff_getElem.1 hu k j (by omega) hj (by omega)

section
variable {P : Program} {ops : Array Oper} {S : World → Prop} {o : Oper} {a : Act}
theorem yields_neq (hw : Region.wanted o (yielded ops a.tmps) = true) (t t' : TypeId) (x y : Operand) (ho : o.op = .binOp .neq t x y t') (cs ds : Array Value) (hx : a.eval x = .agg cs) (hy : a.eval y = .agg ds) (hg : P.eqGuardType P.depth t = false) (r : Bool)
    (hr : ∀ w, (Op.equalIn 10000 t (.agg cs) (.agg ds)).run P w = .ok r w) : YieldsIf P ops S o (.bool (!r)) a :=
  .inl ⟨hw, fun w _ => exec_neq t t' x y ho cs ds hx hy hg r (hr w)⟩
end

end Go.Proofs.Ytolegdjdppaeoaa
