/-
  Layer 8: what the document's Put answers is a packet; reading and writing the boxes of the statement. Conditions: as said.
-/
import Derived.Test.YtbjoibgkhooljaaJqE
import Derived.Test.YtbjoibgkhooljaaJqA
import Derived.Test.YtbjoibgkhooljaaIpO
import Derived.Test.YtbjoibgkhooljaaIpI
import Derived.ProofKit
import Derived.Deep.Slices
import Derived.Deep.Fields
import Derived.ChangeSame
namespace Go.Proofs.Ytbjoibgkhooljaa
open Go.RowKit Go.Sort Go.Shelf
set_option linter.unusedVariables false

/-- The document's datagrams in memory, all in blocks that meet O. -/
def DJo (O : Nat → Prop) (W : World) (v : Value) (L : List Dq) : Prop := ∃ zs : List (Dd × Dq), DJz W v zs ∧ zs.map (·.2) = L ∧ (∀ b, v.ownBlock = some b → O b) ∧ ∀ z ∈ zs, ∀ b, (Value.slice z.1.pp z.1.pn z.1.pc).ownBlock = some b → O b
section
variable {O O' : Nat → Prop} {W W' : World} {v : Value} {L : List Dq}
theorem DJo.imp (h : DJo O W v L) (k : ∀ b, O b → O' b) : DJo O' W v L := by
  obtain ⟨zs, h1, h2, h3, h4⟩ := h
  exact ⟨zs, h1, h2, fun b e => k b (h3 b e), fun z hz b e => k b (h4 z hz b e)⟩
theorem DJo.kept (h : DJo O W v L) (hs : W.heap.size ≤ W'.heap.size) (hb : ∀ b, O b → W'.heap[b]? = W.heap[b]?) : DJo O W' v L := by
  obtain ⟨zs, h1, h2, h3, h4⟩ := h
  exact ⟨zs, ⟨h1.row.kept hs (fun b e => hb b (h3 b e)), fun z hz => ⟨(h1.ok z hz).row.kept hs (fun b e => hb b (h4 z hz b e)), (h1.ok z hz).age⟩⟩, h2, h3, h4⟩
theorem DJo.grow (h : DJo O W v L) (b : Below W.heap.size W W') : DJo O W' v L := by
  obtain ⟨zs, h1, h2, h3, h4⟩ := h
  exact ⟨zs, h1.grow b, h2, h3, h4⟩
theorem DJo.shape (h : DJo O W v L) : ∃ p c, v = .slice p L.length c := by
  obtain ⟨zs, h1, h2, h3, h4⟩ := h
  obtain ⟨p, c, hv⟩ := h1.row.shape
  exact ⟨p, c, by rw [hv, ← h2, List.length_map, List.length_map]⟩
theorem djo_none (O : Nat → Prop) (W : World) : DJo O W (.slice none 0 0) [] := ⟨[], ⟨World.ownsRow_nil _ _ _ _, fun z hz => (by cases hz)⟩, rfl, fun b e => (by cases e), fun z hz => (by cases hz)⟩
end
/-- The document's Put. -/
theorem rjput_any {O : Nat → Prop} {w : World} {v : Value} {lim : Int} {K : Nat} {L : List Dq} (h : DJo O w v L) (hI : IQ K L) (hK : K ≤ 10000) (f : Pd) (hz : f.da.size ≤ 140737488355328) (hf : f.ok) :
    Calls Try.prog 13 #[.agg #[.int .i64 lim, v], .agg (pdC f)] w fun e w' => ∃ v', e = .returned (.tuple #[.agg #[.int .i64 lim, v'], .agg (pdC (putD f L).1), .bool (putD f L).2.1]) ∧ DJo (fun b => O b ∨ w.heap.size ≤ b) w' v' (putD f L).2.2 ∧ Below w.heap.size w w' := by
  obtain ⟨zs, h1, rfl, h3, h4⟩ := h
  obtain ⟨p, c, hv⟩ := h1.row.shape
  subst hv
  cases hm : mayB f
  · have e : putD f (zs.map (·.2)) = (pdZ, false, zs.map (·.2)) := by unfold putD; rw [if_pos hm]
    refine (rjput_bad w lim p _ c f hz hm).mono ?_
    rintro e1 w' ⟨rfl, b⟩
    exact ⟨_, by rw [e], ⟨zs, h1.grow b, by rw [e], fun b e => .inl (h3 b e), fun z hz b e => .inl (h4 z hz b e)⟩, b⟩
  · by_cases hn : f.ps = 0 ∧ f.mo = false
    · have e : putD f (zs.map (·.2)) = (f, true, zs.map (·.2)) := by unfold putD; rw [if_neg (by rw [hm]; decide), if_pos hn]
      refine (rjput_one w lim p _ c f hz hm hn.1 hn.2).mono ?_
      rintro e1 w' ⟨rfl, b⟩
      exact ⟨_, by rw [e], ⟨zs, h1.grow b, by rw [e], fun b e => .inl (h3 b e), fun z hz b e => .inl (h4 z hz b e)⟩, b⟩
    · refine (rjput_z w lim p _ c zs h1 K hI hK f hz hm hn hf).mono ?_
      rintro e1 w' ⟨v', rfl, ⟨zs', g1, g2, g3, g4⟩, b⟩
      exact ⟨_, rfl, ⟨zs', g1, g2, fun b e => (g3 b e).elim .inr (fun k => .inl (h3 b k)), fun z hz b e => (g4 z hz b e).elim .inr (fun k => .inl (h4 z k b e))⟩, b⟩

end Go.Proofs.Ytbjoibgkhooljaa

namespace Go.Proofs.Ytbjoibgkhooljaa
open Go.RowKit Go.Sort Go.Shelf
set_option linter.unusedVariables false

/-- The document's Tick. -/
theorem rjtick_o {O : Nat → Prop} {w : World} {v : Value} {lim : Int} {k : Nat} {L : List Dq} (h : DJo O w v L) (hI : IQ k L) :
    Calls Try.prog 16 #[.agg #[.int .i64 lim, v]] w fun e w' => ∃ v', e = .returned (.agg #[.int .i64 lim, v']) ∧ DJo (fun b => O b ∨ w.heap.size ≤ b) w' v' (tickD lim L) ∧ Below w.heap.size w w' := by
  obtain ⟨zs, h1, rfl, h3, h4⟩ := h
  obtain ⟨p, c, hv⟩ := h1.row.shape
  subst hv
  refine (rjtick_z h1 (by have := hI.le; rw [List.length_map] at this; omega) (fun z hz => ?_)).mono ?_
  · rw [(h1.ok z hz).age]
    exact hI.ag _ (List.mem_map_of_mem hz)
  · rintro e w' ⟨v', e1, e2, e4, e3⟩
    refine ⟨v', e1, ⟨_, e2, tkz_snd h1.ok, fun b e => .inr (e4 b e), fun z hz b e => ?_⟩, e3⟩
    obtain ⟨hz, _⟩ := List.mem_filter.1 hz
    obtain ⟨y, hy, rfl⟩ := List.mem_map.1 hz
    exact .inl (h4 y hy b e)

end Go.Proofs.Ytbjoibgkhooljaa

namespace Go.Proofs.Ytbjoibgkhooljaa
open Go.RowKit Go.ChangeShapes Go.WideShapes Go.Deep Go.Sort Go.Shelf
set_option linter.unusedVariables false

/-- An act: what is done, a packet. -/
structure Act8 where
  d : Int
  p : Pd
def IsActs8 (w : World) (p : Option Addr) (len : Nat) (l : List Act8) : Prop :=
  l.length = len ∧ len ≤ maxLen ∧ (∀ c ∈ l, c.p.ok) ∧ (0 < len → ∃ b o, p = some ⟨b, o, none⟩ ∧ ∀ (i : Nat) (h : i < l.length), w.rangeAt b (o + i * 15) (.int .i64 l[i].d :: (pdC l[i].p).toList))
theorem IsActs8.below {w w' : World} {p : Option Addr} {len : Nat} {l : List Act8} (h : IsActs8 w p len l) (t : Below w.heap.size w w') : IsActs8 w' p len l := by
  obtain ⟨h1, h2, h3, h4⟩ := h
  refine ⟨h1, h2, h3, fun hp => ?_⟩
  obtain ⟨b, o, e, hc⟩ := h4 hp
  refine ⟨b, o, e, fun i hi j u hu => ?_⟩
  have hb : b < w.heap.size := World.block_lt_of_cell? w _ (hc i hi 0 _ rfl)
  exact (t.cell (p := ⟨b, o + i * 15 + j, none⟩) hb).trans (hc i hi j u hu)
theorem IsActs8.at_ {w : World} {p : Option Addr} {len : Nat} {l : List Act8} (h : IsActs8 w p len l) (i : Nat) (hi : i < len) :
    ∃ b o c, p = some ⟨b, o, none⟩ ∧ l[i]? = some c ∧ b < w.heap.size ∧ w.cell? ⟨b, o + i * 15, none⟩ = some (.int .i64 c.d) ∧ w.rangeAt b (o + i * 15 + 1) (pdC c.p).toList ∧ c.p.ok := by
  obtain ⟨h1, h2, h3, h4⟩ := h
  obtain ⟨b, o, e, hc⟩ := h4 (by omega)
  have hi' : i < l.length := by omega
  refine ⟨b, o, l[i], e, List.getElem?_eq_getElem hi', World.block_lt_of_cell? w _ (hc i hi' 0 _ rfl), ?_, fun j u hu => ?_, h3 _ (List.getElem_mem hi')⟩
  · have := hc i hi' 0 _ rfl
    rw [Nat.add_zero] at this
    exact this
  · have := hc i hi' (j + 1) u (by rw [List.getElem?_cons_succ]; exact hu)
    rw [show o + i * 15 + 1 + j = o + i * 15 + (j + 1) by omega]
    exact this
theorem add_plain8 (b o i : Nat) : (⟨b, o, none⟩ : Addr).add i = ⟨b, o + i, none⟩ := by
  unfold Addr.add
  by_cases hi : i = 0 <;> simp [hi]
theorem cells_act8 : Try.prog.cellsOf 37 = 15 := by kernel_rfl
set_option maxRecDepth 100000 in
theorem open_act8 {H : Type} {enc : TypeId × Value → H} {w : World} {a : Addr} {fuel : Nat} {cs : List Value} {x : DataW H × List MemPlace}
    (hc : w.cells? 0 a (Try.prog.cellsOf 37) = some cs) (ht : DataW.trod enc Try.prog w 0 (fun _ => true) true fuel 37 cs = some x) :
    ∃ c : Act8, a.spot = none ∧ c.p.ok ∧ w.rangeAt a.block a.off (.int .i64 c.d :: (pdC c.p).toList) := by
  obtain ⟨xs, n, _, _, hl, hlen, hg⟩ := DataW.trod_struct Try.underlying37 ht
  have hx : ∀ i, i < 2 → ∃ y, xs[i]? = some y := fun i hi => ⟨xs[i]'(by rw [hlen]; exact hi), List.getElem?_eq_getElem _⟩
  obtain ⟨y0, e0⟩ := hx 0 (by decide)
  obtain ⟨y1, e1⟩ := hx 1 (by decide)
  have g0 : DataW.trod enc Try.prog w 0 (fun _ => true) true n 3 ((cs.drop 0).take (Try.prog.cellsOf 3)) = some y0 := (hg 0 _ rfl).trans e0
  have g1 : DataW.trod enc Try.prog w 0 (fun _ => true) true n 35 ((cs.drop 1).take (Try.prog.cellsOf 35)) = some y1 := (hg 1 _ rfl).trans e1
  obtain ⟨hcl, _, hcell⟩ := World.cells?_some hc
  rw [cells_act8] at hcell
  have hsz : cs.length = 15 := by
    have := cells_act8
    omega
  match cs, hsz with
  | [c0, c1, c2, c3, c4, c5, c6, c7, c8, c9, c10, c11, c12, c13, c14], _ =>
    rw [cells_int] at g0
    rw [cells_pd] at g1
    obtain ⟨y, h0, _, hw⟩ := DataW.trod_int (cs := [c0]) Try.underlying3 g0
    obtain ⟨f, h1, hf⟩ := packet_in (cs := [c1, c2, c3, c4, c5, c6, c7, c8, c9, c10, c11, c12, c13, c14]) rfl g1
    simp only [List.cons.injEq, and_true] at h0
    subst h0
    obtain ⟨b, o, sp⟩ := a
    have c0' := hcell 0 (by decide)
    have hs : sp = none := by simpa [Addr.add] using World.cell?_spot c0'
    subst hs
    refine ⟨⟨y, f⟩, rfl, hf, fun j u hu => ?_⟩
    have hj : j < 15 := (List.getElem?_eq_some_iff.1 hu).1
    have := hcell j hj
    rw [add_plain8] at this
    rw [this]
    rw [← h1] at hu
    exact hu
theorem open_acts8 {H : Type} {enc : TypeId × Value → H} {w : World} {p : Option Addr} {len cap fuel : Nat} {x : DataW H × List MemPlace}
    (h : DataW.trod enc Try.prog w 0 (fun _ => true) true fuel 22 (Value.slice p len cap).cells.toList = some x) : ∃ l, IsActs8 w p len l := by
  rcases open_slice Try.underlying22 h with ⟨hcs, _⟩ | ⟨a, len', cap', m, n, D, Pl, hcs, _, hl, hm, hmm, _, hi⟩
  · simp [Value.cells] at hcs
    obtain ⟨rfl, rfl, rfl⟩ := hcs
    exact ⟨[], rfl, Nat.zero_le _, fun c hc => (by cases hc), fun h => absurd h (by omega)⟩
  · simp [Value.cells] at hcs
    obtain ⟨rfl, rfl, rfl⟩ := hcs
    have hm' : m = cap := by simpa using hmm
    have hi' : ∀ i, i < len → ∃ c : Act8, (a.add (i * 15)).spot = none ∧ c.p.ok ∧ w.rangeAt (a.add (i * 15)).block (a.add (i * 15)).off (.int .i64 c.d :: (pdC c.p).toList) := by
      intro i hlt
      obtain ⟨cs', hc, ht⟩ := hi i (by omega)
      have h5 : i * Try.prog.cellsOf 37 = i * 15 := by rw [cells_act8]
      rw [h5] at hc
      exact open_act8 hc ht
    have hch := fun i : Fin len => hi' i.1 i.2
    obtain ⟨f, hf⟩ := Classical.axiomOfChoice hch
    refine ⟨List.ofFn f, by simp, by omega, ?_, ?_⟩
    · intro c hc
      obtain ⟨i, rfl⟩ := List.mem_ofFn.1 hc
      exact (hf i).2.1
    intro hpos
    obtain ⟨b, o, sp⟩ := a
    have h0 := (hf ⟨0, hpos⟩).1
    have hs : sp = none := by simpa [Addr.add] using h0
    subst hs
    refine ⟨b, o, rfl, fun i hlt => ?_⟩
    have hlt' : i < len := by simpa using hlt
    have h1 := (hf ⟨i, hlt'⟩).2.2
    rw [add_plain8] at h1
    simpa using h1

/-- The joiner, and the document's datagrams, side by side, with blocks that stay. -/
def JD (w W : World) (F : List (Nat × Obj)) (g : Nat) (lim : Int) (Lp : List Da) (dv : Value) (Ld : List Dq) : Prop :=
  ∃ v l, Jo W g lim v l ∧ l.map Dg.da = Lp ∧ Below w.heap.size w W ∧ (∀ k, JoO g v l k → w.heap.size ≤ k) ∧ (∀ p ∈ F, W.heap[p.1]? = some p.2 ∧ ¬ JoO g v l p.1) ∧ DJo (fun b => b < W.heap.size ∧ ¬ JoO g v l b ∧ ∀ p ∈ F, b ≠ p.1) W dv Ld
theorem DJo.lt {O : Nat → Prop} {W : World} {v : Value} {L : List Dq} (h : DJo O W v L) : DJo (fun b => O b ∧ b < W.heap.size) W v L := by
  obtain ⟨zs, h1, h2, h3, h4⟩ := h
  exact ⟨zs, h1, h2, fun b e => ⟨h3 b e, (h1.row.lt b e).2⟩, fun z hz b e => ⟨h4 z hz b e, ((h1.ok z hz).row.lt b e).2⟩⟩
section
variable {w W W' : World} {F : List (Nat × Obj)} {g : Nat} {lim : Int} {Lp : List Da} {dv : Value} {Ld : List Dq}
theorem JD.bl (h : JD w W F g lim Lp dv Ld) : Below w.heap.size w W := by obtain ⟨v, l, h1, h2, h3, h4, h5, h6⟩ := h; exact h3
theorem JD.get (h : JD w W F g lim Lp dv Ld) {n : Nat} {o : Obj} (hp : (n, o) ∈ F) : W.heap[n]? = some o := by obtain ⟨v, l, h1, h2, h3, h4, h5, h6⟩ := h; exact (h5 _ hp).1
theorem JD.shape (h : JD w W F g lim Lp dv Ld) : ∃ p c, dv = .slice p Ld.length c := by obtain ⟨v, l, h1, h2, h3, h4, h5, h6⟩ := h; exact h6.shape
theorem JD.grow (h : JD w W F g lim Lp dv Ld) (b : Below W.heap.size W W') : JD w W' F g lim Lp dv Ld := by
  obtain ⟨v, l, h1, h2, h3, h4, h5, h6⟩ := h
  exact ⟨v, l, h1.grow b, h2, h3.trans (b.mono h3.size), h4, fun p hp => ⟨(b.block p.1 (blk_lt (h5 p hp).1)).trans (h5 p hp).1, (h5 p hp).2⟩, (h6.grow b).imp (fun k hk => ⟨Nat.lt_of_lt_of_le hk.1 b.size, hk.2⟩)⟩
theorem JD.alloc (h : JD w W F g lim Lp dv Ld) (o : Obj) : JD w (W.alloc o) ((W.heap.size, o) :: F) g lim Lp dv Ld := by
  have b : Below W.heap.size W (W.alloc o) := (Below.refl _ _).alloc (Nat.le_refl _) o
  obtain ⟨v, l, g1, g2, g3, g4, g5, g6⟩ := h
  refine ⟨v, l, g1.grow b, g2, g3.trans (b.mono g3.size), g4, fun p hp => ?_, (g6.grow b).imp (fun k hk => ⟨Nat.lt_of_lt_of_le hk.1 b.size, hk.2.1, fun p hp => ?_⟩)⟩
  · rcases List.mem_cons.1 hp with rfl | hp
    · exact ⟨heap_alloc_new W o, fun ho => by have := g1.inn ho; have e : W.heap.size < W.heap.size := this; omega⟩
    · exact ⟨(b.block p.1 (blk_lt (g5 p hp).1)).trans (g5 p hp).1, (g5 p hp).2⟩
  · rcases List.mem_cons.1 hp with rfl | hp
    · have := hk.1; show k ≠ W.heap.size; omega
    · exact hk.2.2 p hp
theorem JD.drop (h : JD w W F g lim Lp dv Ld) {F' : List (Nat × Obj)} (hs : ∀ p ∈ F', p ∈ F) : JD w W F' g lim Lp dv Ld := by
  obtain ⟨v, l, g1, g2, g3, g4, g5, g6⟩ := h
  exact ⟨v, l, g1, g2, g3, g4, fun p hp => g5 p (hs p hp), g6.imp (fun k hk => ⟨hk.1, hk.2.1, fun p hp => hk.2.2 p (hs p hp)⟩)⟩
/-- A block that stays is written anew. -/
theorem JD.put {n : Nat} {cs ds : Array Value} {t : TypeId} (h : JD w W ((n, .cells cs t (0, 0)) :: F) g lim Lp dv Ld) (hw : w.heap.size ≤ n) (hF : ∀ p ∈ F, p.1 ≠ n) : JD w (W.setRow n ds) ((n, .cells ds t (0, 0)) :: F) g lim Lp dv Ld := by
  obtain ⟨v, l, g1, g2, g3, g4, g5, g6⟩ := h
  obtain ⟨b1, b2⟩ := g5 _ (.head _)
  have hne : ∀ k, k ≠ n → (W.setRow n ds).heap[k]? = W.heap[k]? := fun k hk => setRow_other _ _ _ _ hk
  have hsz : (W.setRow n ds).heap.size = W.heap.size := by simp [World.setRow]
  refine ⟨v, l, g1.kept (Nat.le_of_eq hsz.symm) (fun k hk _ => hne k (fun e => b2 (by rw [← e]; exact hk))), g2, below_setRow g3 hw ds, g4, fun p hp => ?_, (g6.kept (Nat.le_of_eq hsz.symm) (fun k hk => hne k (hk.2.2 _ (.head _)))).imp (fun k hk => ⟨by rw [hsz]; exact hk.1, hk.2.1, fun p hp => ?_⟩)⟩
  · rcases List.mem_cons.1 hp with rfl | hp
    · exact ⟨setRow_heap W n cs ds t _ b1, b2⟩
    · exact ⟨(hne p.1 (hF p hp)).trans (g5 p (.tail _ hp)).1, (g5 p (.tail _ hp)).2⟩
  · rcases List.mem_cons.1 hp with rfl | hp
    · show k ≠ n
      exact hk.2.2 (n, .cells cs t (0, 0)) (.head _)
    · exact hk.2.2 p (.tail _ hp)
/-- The document's Put. -/
theorem docPut {K : Nat} (h : JD w W F g lim Lp dv Ld) (hI : IQ K Ld) (hK : K ≤ 10000) (f : Pd) (hz : f.da.size ≤ 140737488355328) (hf : f.ok) (P : Pd) (B : Bool) (L' : List Dq) (hp : putD f Ld = (P, B, L')) :
    Calls Try.prog 13 #[.agg #[.int .i64 lim, dv], .agg (pdC f)] W fun e w' => ∃ dv', e = .returned (.tuple #[.agg #[.int .i64 lim, dv'], .agg (pdC P), .bool B]) ∧ JD w w' F g lim Lp dv' L' ∧ Below W.heap.size W w' := by
  obtain ⟨v, l, g1, g2, g3, g4, g5, g6⟩ := h
  refine (rjput_any g6 hI hK f hz hf).mono ?_
  rintro e w' ⟨dv', rfl, d, b⟩
  rw [hp] at d
  refine ⟨dv', by rw [hp], ⟨v, l, g1.grow b, g2, g3.trans (b.mono g3.size), g4, fun p hp => ⟨(b.block p.1 (blk_lt (g5 p hp).1)).trans (g5 p hp).1, (g5 p hp).2⟩, d.lt.imp (fun k hk => ?_)⟩, b⟩
  refine ⟨hk.2, ?_, fun p hp => ?_⟩
  · rcases hk.1 with e | e
    · exact e.2.1
    · exact fun ho => by have := g1.inn ho; omega
  · rcases hk.1 with e | e
    · exact e.2.2 p hp
    · have := blk_lt (g5 p hp).1; omega
/-- The document's Tick. -/
theorem docTick {K : Nat} (h : JD w W F g lim Lp dv Ld) (hI : IQ K Ld) :
    Calls Try.prog 16 #[.agg #[.int .i64 lim, dv]] W fun e w' => ∃ dv', e = .returned (.agg #[.int .i64 lim, dv']) ∧ JD w w' F g lim Lp dv' (tickD lim Ld) ∧ Below W.heap.size W w' := by
  obtain ⟨v, l, g1, g2, g3, g4, g5, g6⟩ := h
  refine (rjtick_o g6 hI).mono ?_
  rintro e w' ⟨dv', rfl, d, b⟩
  refine ⟨dv', rfl, ⟨v, l, g1.grow b, g2, g3.trans (b.mono g3.size), g4, fun p hp => ⟨(b.block p.1 (blk_lt (g5 p hp).1)).trans (g5 p hp).1, (g5 p hp).2⟩, d.lt.imp (fun k hk => ?_)⟩, b⟩
  refine ⟨hk.2, ?_, fun p hp => ?_⟩
  · rcases hk.1 with e | e
    · exact e.2.1
    · exact fun ho => by have := g1.inn ho; omega
  · rcases hk.1 with e | e
    · exact e.2.2 p hp
    · have := blk_lt (g5 p hp).1; omega
theorem JD.turn {v v' : Value} {l l' : List Dg} {Lq : List Da} (hb : Below w.heap.size w W) (ho : ∀ k, JoO g v l k → w.heap.size ≤ k) (hF : ∀ p ∈ F, W.heap[p.1]? = some p.2 ∧ ¬ JoO g v l p.1) (hd : DJo (fun b => b < W.heap.size ∧ ¬ JoO g v l b ∧ ∀ p ∈ F, b ≠ p.1) W dv Ld) (t : JoT W W' g lim v l v' l') (hL : l'.map Dg.da = Lq) : JD w W' F g lim Lq dv Ld := by
  refine ⟨v', l', t.jo, hL, ⟨t.tn.os.trans hb.os, t.tn.tape.trans hb.tape, t.tn.output.trans hb.output, Nat.le_trans hb.size t.tn.size, fun k hk => (t.tn.block k (Nat.lt_of_lt_of_le hk hb.size) (fun e => by have := ho k e; omega)).trans (hb.block k hk)⟩, fun k hk => ?_, fun p hp => ?_, (hd.kept t.tn.size (fun b hO => t.tn.block b hO.1 hO.2.1)).imp (fun k hk => ⟨Nat.lt_of_lt_of_le hk.1 t.tn.size, fun e => ?_, hk.2.2⟩)⟩
  · rcases t.nw k hk with e | e
    · exact ho k e
    · exact Nat.le_trans hb.size e
  · obtain ⟨f1, f2⟩ := hF p hp
    have hl := blk_lt f1
    refine ⟨(t.tn.block p.1 hl f2).trans f1, fun e => ?_⟩
    rcases t.nw _ e with e | e
    · exact f2 e
    · omega
  · rcases t.nw _ e with e | e
    · exact hk.2.1 e
    · have := hk.1; omega
theorem progPut (h : JD w W F g lim Lp dv Ld) (hl : Lp.length ≤ 4) (hf : FineL 100000 Lp) (f : Pd) (hz : f.da.size ≤ 140737488355328) (P : Pd) (B : Bool) (L' : List Da) (hp : putA f Lp = (P, B, L')) :
    Calls Try.prog 14 #[.pointer (some ⟨g, 0, none⟩), .agg (pdC f)] W fun e w' => e = .returned (.tuple #[.agg (pdC P), .bool B]) ∧ JD w w' F g lim L' dv Ld := by
  obtain ⟨v, l, h1, h2, h3, h4, h5, h6⟩ := h
  subst h2
  refine (jput_any h1 (by simpa using hl) hf f hz).mono ?_
  rintro e w' ⟨v', l', e1, e2, e3⟩
  rw [hp] at e1 e3
  exact ⟨e1, JD.turn h3 h4 h5 h6 e2 e3⟩
theorem progTick (h : JD w W F g lim Lp dv Ld) (hl : Lp.length ≤ 4) (ha : ∀ x ∈ Lp, 0 ≤ x.age ∧ x.age ≤ 1048576) :
    Calls Try.prog 15 #[.pointer (some ⟨g, 0, none⟩)] W fun e w' => e = .returned (.tuple #[]) ∧ JD w w' F g lim (tickA lim Lp) dv Ld := by
  obtain ⟨v, l, h1, h2, h3, h4, h5, h6⟩ := h
  subst h2
  rw [List.length_map] at hl
  refine (jtick_ok h1 (by omega) (fun x hx => ha x.da (List.mem_map.2 ⟨x, hx, rfl⟩))).mono ?_
  rintro e w' ⟨e1, v', e2⟩
  exact ⟨e1, JD.turn h3 h4 h5 h6 e2 (tickA_of lim l)⟩
theorem progLen (h : JD w W F g lim Lp dv Ld) (hl : Lp.length ≤ 4) :
    Calls Try.prog 17 #[.pointer (some ⟨g, 0, none⟩)] W fun e w' => e = .returned (.int .i64 Lp.length) ∧ W = w' := by
  obtain ⟨v, l, h1, h2, h3, h4, h5, h6⟩ := h
  subst h2
  rw [List.length_map] at hl ⊢
  exact jlen_ok h1 (by omega)
theorem progNew (hw : Below w.heap.size w W) (lim : Int) (h1 : 1 ≤ lim) (h2 : lim ≤ 1048576) :
    Calls Try.prog 12 #[.int .i64 lim] W fun e w' => ∃ g, e = .returned (.tuple #[.pointer (some ⟨g, 0, none⟩), .int .i64 0]) ∧ JD w w' [] g lim [] (.slice none 0 0) [] := by
  refine (jnew_ok W lim h1 h2).mono ?_
  rintro e w' ⟨e1, e2, e3⟩
  refine ⟨_, e1, .slice none 0 0, [], e2, rfl, hw.trans (e3.mono hw.size), fun k hk => ?_, fun p hp => (by cases hp), djo_none _ _⟩
  rcases hk with rfl | hk | ⟨x, hx, _⟩
  · exact hw.size
  · cases hk
  · cases hx
end
/-- What the acts' texts come to, and whether there is too much. -/
def gN (l : List Act8) (k : Nat) : Nat := ((l.take k).map fun c => min c.p.da.size 60001).sum
theorem gN_succ {l : List Act8} {k : Nat} (c : Act8) (h : l[k]? = some c) : gN l (k + 1) = gN l k + min c.p.da.size 60001 := by
  have hk := (List.getElem?_eq_some_iff.1 h).1
  unfold gN
  rw [List.take_succ_eq_append_getElem hk, List.map_append, List.sum_append, (List.getElem?_eq_some_iff.1 h).2]
  simp
theorem gN_le (l : List Act8) (k : Nat) : gN l k ≤ 60001 * k := by
  unfold gN
  induction k with
  | zero => simp
  | succ k ih =>
    by_cases h : k < l.length
    · rw [List.take_succ_eq_append_getElem h, List.map_append, List.sum_append]
      simp only [List.map_cons, List.map_nil, List.sum_cons, List.sum_nil]
      omega
    · rw [List.take_of_length_le (by omega)]
      rw [List.take_of_length_le (by omega)] at ih
      omega
theorem gN_each {l : List Act8} (h : gN l l.length ≤ 60000) : ∀ c ∈ l, c.p.da.size ≤ 60000 := by
  unfold gN at h
  rw [List.take_length] at h
  induction l with
  | nil => intro c hc; cases hc
  | cons a l ih =>
    simp only [List.map_cons, List.sum_cons] at h
    intro c hc
    rcases List.mem_cons.1 hc with rfl | hc
    · omega
    · exact ih (by omega) c hc
set_option maxRecDepth 100000 in
set_option maxHeartbeats 2000000 in
theorem great8 (w : World) (p : Option Addr) (len cap : Nat) (l : List Act8) (h : IsActs8 w p len l) (B : Bool) (hB : B = (decide (100 < len) || decide (60000 < gN l (min len 101)))) :
    Calls Try.prog 11 #[.slice p len cap] w fun e w' => e = .returned (.bool B) ∧ w = w' := by
  have hm := h.2.1
  unfold maxLen at hm
  have H := Lib.hid h
  have HB := Lib.hid hB
  have hll : l.length = len := h.1
  clear h hB
  go_enter Try.func11, Try.ntmps11
  go_wp2_with fail
  go_loopw [3, 4] (fun x v wr => ∃ k : Nat, k ≤ len ∧ k ≤ 101 ∧ v = .int .i64 k ∧ x = .int .i64 ((gN l k : Nat) : Int) ∧ w = wr) (fun _ v _ => len - (intOf v).toNat)
  case atStart => exact ⟨0, Nat.zero_le _, by omega, rfl, rfl, rfl⟩
  case round =>
    obtain ⟨k, hk, hk1, rfl, rfl, rfl⟩ := hrel
    by_cases hlt : k < len
    · have d1 : decide ((k : Int) < (len : Int)) = true := decide_eq_true (by omega)
      by_cases h100 : k ≤ 100
      · have d2 : decide ((k : Int) ≤ 100) = true := decide_eq_true (by omega)
        obtain ⟨b, o, c, rfl, hc, hbl, hat, hrg, hok⟩ := H.out.at_ k hlt
        have hc14 : w.cell? ⟨b, o + k * 15 + 14, none⟩ = some (.string c.p.da) := by
          have := hrg 13 (.string c.p.da) rfl
          rw [show o + k * 15 + 1 + 13 = o + k * 15 + 14 by omega] at this
          exact this
        have hs := gN_succ c hc
        have hle := gN_le l k
        obtain ⟨Z, hZ⟩ : ∃ Z, Z = gN l k := ⟨_, rfl⟩
        obtain ⟨Z2, hZ2⟩ : ∃ Z, Z = gN l (k + 1) := ⟨_, rfl⟩
        rw [← hZ, ← hZ2] at hs
        rw [← hZ] at hle ⊢
        have hz := hok.2.2.2.2
        unfold maxLen at hz
        obtain ⟨m, hmn⟩ : ∃ m, m = min c.p.da.size 60001 := ⟨_, rfl⟩
        have hmin : min (c.p.da.size : Int) 60001 = (m : Int) := by omega
        have wz : IntKind.i64.wrap ((Z : Int) + (m : Int)) = (Z2 : Int) := by rw [IntWalk.i64_in _ (by omega)]; omega
        have wk : IntKind.i64.wrap ((k : Int) + 1) = (k : Int) + 1 := IntWalk.i64_in _ (by omega)
        have HZ2 := Lib.hid hZ2
        have hkb : (k : Int) < (len : Int) := by omega
        clear hrg hat hc hs hle hZ hZ2 hmn hz hok
        go_wp2_with fail
        go_roundw
        case rel => exact ⟨k + 1, by omega, by omega, by go_num, by rw [HZ2.out], trivial⟩
        case measure => simp [intOf]; omega
      · have hk101 : k = 101 := by omega
        have d2 : decide ((k : Int) ≤ 100) = false := decide_eq_false (by omega)
        have hBt : B = true := by rw [HB.out, decide_eq_true (show 100 < len by omega)]; rfl
        subst hBt
        have d3 : decide ((100 : Int) < (len : Int)) = true := decide_eq_true (by omega)
        go_wp2_with fail
        go_ret
        exact ⟨rfl, rfl⟩
    · have hkl : k = len := by omega
      subst hkl
      have d1 : decide ((k : Int) < (k : Int)) = false := decide_eq_false (by omega)
      by_cases h100 : 100 < k
      · have d3 : decide ((100 : Int) < (k : Int)) = true := decide_eq_true (by omega)
        have hBt : B = true := by rw [HB.out, decide_eq_true h100]; rfl
        subst hBt
        go_wp2_with fail
        go_ret
        exact ⟨rfl, rfl⟩
      · have d3 : decide ((100 : Int) < (k : Int)) = false := decide_eq_false (by omega)
        have hBt : B = decide ((60000 : Int) < ((gN l k : Nat) : Int)) := by
          rw [HB.out, decide_eq_false h100, Bool.false_or, Nat.min_eq_left (by omega), Bool.eq_iff_iff, decide_eq_true_iff, decide_eq_true_iff]
          omega
        subst hBt
        go_wp2_with fail
        go_ret
        exact ⟨rfl, rfl⟩

end Go.Proofs.Ytbjoibgkhooljaa

namespace Go.Proofs.Ytbjoibgkhooljaa
open Go.RowKit Go.ChangeShapes Go.WideShapes Go.Deep Go.Sort Go.Shelf
set_option linter.unusedVariables false

theorem joined_ok {ps : List Pd} (h : PQ ps) : (joinedD ps).1.ok := by
  unfold joinedD
  by_cases h1 : endP (ps.map pcOf) < 0
  · rw [if_pos h1]; exact pdZ_ok
  rw [if_neg h1]
  by_cases h2 : ((firstD ps).isSome && (thereD (endP (ps.map pcOf)).toNat (ps.map pcOf)).all (· == 1)) = true
  · rw [if_pos h2]
    rw [Bool.and_eq_true] at h2
    rcases first_ttl ps with ⟨e, _⟩ | ⟨q, hq, e, _, _⟩
    · rw [e] at h2; cases h2.1
    · rw [e]
      obtain ⟨a0, a1, b0, b1, c0, c1, _, d0, d1, _⟩ := mayB_all (h.may q hq)
      rcases h.ends with g | ⟨g1, g2, g3⟩
      · omega
      · refine ⟨Go.WalkArith.wf_i64 (n := q.id) ⟨by omega, by omega⟩, Go.WalkArith.wf_i64 (n := q.pr) ⟨by omega, by omega⟩, Go.WalkArith.wf_i64 (n := q.tl) ⟨by omega, by omega⟩, Go.WalkArith.wf_i64 (n := q.ps) ⟨by omega, by omega⟩, ?_⟩
        show (bytesD (endP (ps.map pcOf)).toNat (ps.map pcOf)).toArray.size ≤ maxLen
        rw [List.size_toArray, bytes_fill _ _ (by omega) (fun x hx => ?_), List.length_take]
        · unfold maxLen; omega
        · obtain ⟨y, hy, rfl⟩ := List.mem_map.1 hx
          have := g3 y hy
          unfold pEnd at this
          omega
  · rw [if_neg h2]; exact pdZ_ok
theorem beg_pq {n : Nat} {L : List Dq} (h : IQ n L) {f : Pd} (hm : mayB f = true) : PQ ((begD f L).1.getD (begD f L).2 ⟨[], 0⟩).ps ∧ (((begD f L).1.getD (begD f L).2 ⟨[], 0⟩).ps ≠ [] → nmOf (((begD f L).1.getD (begD f L).2 ⟨[], 0⟩).ps.headD pdZ) = nmOf f) := by
  unfold begD
  by_cases hx : idxD f L < L.length
  · rw [if_pos hx]
    have hd : L.getD (idxD f L) ⟨[], 0⟩ = L[idxD f L] := by rw [List.getD_eq_getElem?_getD, List.getElem?_eq_getElem hx]; rfl
    show PQ (L.getD (idxD f L) ⟨[], 0⟩).ps ∧ ((L.getD (idxD f L) ⟨[], 0⟩).ps ≠ [] → nmOf ((L.getD (idxD f L) ⟨[], 0⟩).ps.headD pdZ) = nmOf f)
    rw [hd]
    have hdm : L[idxD f L] ∈ L := List.getElem_mem hx
    have hsm : sameB ((L[idxD f L]).ps.headD pdZ) f = true := List.findIdx_getElem (w := hx)
    refine ⟨h.pq _ hdm, fun hne => ?_⟩
    exact of_decide_eq_true (by rw [← hsm]; exact nm_same ((h.pq _ hdm).may _ (head_mem hne)) hm)
  · rw [if_neg hx]
    have g2 : (drop4 L ++ [(⟨[], 0⟩ : Dq)]).getD (drop4 L).length ⟨[], 0⟩ = ⟨[], 0⟩ := by
      rw [List.getD_eq_getElem?_getD, List.getElem?_append_right (Nat.le_refl _), Nat.sub_self]; rfl
    show PQ ((drop4 L ++ [(⟨[], 0⟩ : Dq)]).getD (drop4 L).length ⟨[], 0⟩).ps ∧ (((drop4 L ++ [(⟨[], 0⟩ : Dq)]).getD (drop4 L).length ⟨[], 0⟩).ps ≠ [] → nmOf (((drop4 L ++ [(⟨[], 0⟩ : Dq)]).getD (drop4 L).length ⟨[], 0⟩).ps.headD pdZ) = nmOf f)
    rw [g2]
    exact ⟨PQ.nil, fun e => absurd rfl e⟩
theorem putD_ok {n : Nat} {L : List Dq} (h : IQ n L) (f : Pd) (hf : f.ok) : (putD f L).1.ok := by
  unfold putD
  cases hm : mayB f with
  | false => rw [if_pos rfl]; exact pdZ_ok
  | true =>
    rw [if_neg (by decide)]
    by_cases hn : f.ps = 0 ∧ f.mo = false
    · rw [if_pos hn]; exact hf
    rw [if_neg hn]
    obtain ⟨p1, p2⟩ := beg_pq h hm
    generalize (begD f L).1.getD (begD f L).2 ⟨[], 0⟩ = d at p1 p2
    unfold putJ
    by_cases c1 : pcOf f ∈ d.ps.map pcOf
    · rw [if_pos c1]; exact pdZ_ok
    rw [if_neg c1]
    by_cases c2 : mayP (d.ps.map pcOf) (pcOf f) = false
    · rw [if_pos c2]; exact pdZ_ok
    rw [if_neg c2]
    have hP := p1.snoc hm hn p2 (by simpa using c2)
    by_cases c3 : (joinedD (d.ps ++ [f])).2 = true
    · rw [if_pos c3]; exact joined_ok hP
    · rw [if_neg c3]; exact pdZ_ok

section
variable {ops : Array Oper} {rest : List Oper} {S : World → Prop} {o : Oper} {a : Act} {w : World} {Q : Exit → Act → World → Prop}
/-- The document's joiner is read whole. -/
theorem yields_rj (hw : Region.wanted o (yielded ops a.tmps) = true) (x : Operand) (ho : o.op = .load 31 x) (b : Nat) (hx : a.eval x = .pointer (some ⟨b, 0, none⟩)) (lim : Int) (dv : Value) (hS : ∀ w, S w → w.heap[b]? = some (.cells #[.int .i64 lim, dv] 31 (0, 0))) : YieldsIf Try.prog ops S o (.agg #[.int .i64 lim, dv]) a :=
  .inl ⟨hw, fun w h => exec_load 31 x ho b hx #[.int .i64 lim, dv] _ (hS w h) Try.underlying31 rfl (by kernel_rfl)⟩
theorem rj_ld (hw : Region.wanted o (yielded ops a.tmps) = true) (x : Operand) (ho : o.op = .load 31 x) (b : Nat) (hx : a.eval x = .pointer (some ⟨b, 0, none⟩)) (lim : Int) (dv : Value) (hb : w.heap[b]? = some (.cells #[.int .i64 lim, dv] 31 (0, 0))) (h : wpList Try.prog ops Q rest (a.put o.dst (.agg #[.int .i64 lim, dv])) w) : wpList Try.prog ops Q (o :: rest) a w :=
  wpList_value hw _ (exec_load 31 x ho b hx #[.int .i64 lim, dv] _ hb Try.underlying31 rfl (by kernel_rfl)) h
theorem pd_neqJ (hw : Region.wanted o (yielded ops a.tmps) = true) (x y : Operand) (t : TypeId) (ho : o.op = .binOp .neq 35 x y t) (f g : Pd) (hx : a.eval x = .agg (pdC f)) (hy : a.eval y = .agg (pdC g))
    (r : Bool) (hr : ∀ w, (Op.equalIn 10000 35 (.agg (pdC f)) (.agg (pdC g))).run Try.prog w = .ok r w) (h : wpList Try.prog ops Q rest (a.put o.dst (.bool (!r))) w) : wpList Try.prog ops Q (o :: rest) a w :=
  wpList_value hw _ (exec_neq _ _ _ _ ho _ _ hx hy guard_pd r (hr w)) h
theorem pd_ld_midJ (hg : o.guard = none) (x : Operand) (ho : o.op = .load 35 x) (b oo : Nat) (hx : a.eval x = .pointer (some ⟨b, oo, none⟩)) (f : Pd) (hc : w.rangeAt b oo (pdC f).toList) (h : wpList Try.prog ops Q rest (a.put o.dst (.agg (pdC f))) w) : wpList Try.prog ops Q (o :: rest) a w :=
  wpList_load_mid hg 35 x ho b oo hx (pdC f).toList _ hc Try.underlying35 rfl (by kernel_rfl) h
end
theorem rj_box {w : World} {n : Nat} {x y : Value} {t : TypeId} (h : w.heap[n]? = some (.cells #[x, y] t (0, 0))) : w.cell? ⟨n, 1, none⟩ = some y := by rw [cell_of_block h]; rfl
theorem rj_put {w : World} {n : Nat} {u v x y : Value} (h : w.heap[n]? = some (.cells #[u, v] 31 (0, 0))) (hx : x.oneCell' = true) (hy : y.oneCell' = true) : (storeVar 31 ⟨n, 0, none⟩ (.agg #[x, y])).run Try.prog w = .ok () (w.setRow n #[x, y]) :=
  run_storeVar_row (P := Try.prog) w n 31 31 _ #[x, y] h (by kernel_rfl) rfl (by simp [hx, hy])
theorem pd_putJ {w : World} {n : Nat} {cs : Array Value} {f : Pd} (h : w.heap[n]? = some (.cells cs 35 (0, 0))) (hs : cs.size = 14) : (storeVar 35 ⟨n, 0, none⟩ (.agg (pdC f))).run Try.prog w = .ok () (w.setRow n (pdC f)) :=
  run_storeVar_row (P := Try.prog) w n 35 35 cs (pdC f) h (by kernel_rfl) hs (pdC_one f)
theorem slice_one {dv : Value} {p : Option Addr} {n c : Nat} (h : dv = .slice p n c) : dv.oneCell' = true := by rw [h]; rfl

end Go.Proofs.Ytbjoibgkhooljaa
