/-
  Rows of ints of one's own: appended to, an element taken out; slices of bytes and of slices of buffers that came in; chains by their numbers. No conditions.
-/
import Derived.Test.YtdchlnffbiooaaaGreatDoorVGoes
import Derived.Test.YtdchlnffbiooaaaGreatDoorVLaw
namespace Go.Proofs.YtdchlnffbiooaaaGreatDoor
open Go.RowKit Go.Sort Go.ChangeShapes Go.WideShapes Go.Deep

/-- A row of ints of one's own, in a block from B on. -/
def OwnInts (B : Nat) (w : World) (v : Value) (l : List Int) : Prop :=
  w.ownsRow B 3 1 v l.length (l.map (Value.int .i64)) ∧ l.length ≤ 100
theorem OwnInts.nil (B : Nat) (w : World) : OwnInts B w (.slice none 0 0) [] := ⟨w.ownsRow_nil _ _ _, by simp⟩
theorem OwnInts.lt {B : Nat} {w : World} {v : Value} {l : List Int} (h : OwnInts B w v l) : ∀ k, v.ownBlock = some k → B ≤ k ∧ k < w.heap.size := h.1.lt
theorem OwnInts.lower {B B' : Nat} {w : World} {v : Value} {l : List Int} (h : OwnInts B' w v l) (hB : B ≤ B') : OwnInts B w v l := by
  obtain ⟨⟨h1, h2⟩, h3⟩ := h
  refine ⟨⟨h1, ?_⟩, h3⟩
  rcases h2 with h2 | ⟨g, cap, cur, e, hg, r⟩
  · exact .inl h2
  · exact .inr ⟨g, cap, cur, e, Nat.le_trans hB hg, r⟩
theorem OwnInts.kept {B : Nat} {w w' : World} {v : Value} {l : List Int} (h : OwnInts B w v l) {row : Option Nat} (k : w.grownBy w' row) (hne : v.ownBlock = none ∨ v.ownBlock ≠ row) : OwnInts B w' v l := ⟨h.1.kept k hne, h.2⟩
theorem OwnInts.turned {B : Nat} {w w' : World} {v : Value} {l : List Int} (h : OwnInts B w v l) {S : Nat → Prop} (t : Turned S w w') (k : ∀ j, v.ownBlock = some j → ¬ S j) : OwnInts B w' v l := by
  obtain ⟨⟨h1, h2⟩, h3⟩ := h
  refine ⟨⟨h1, ?_⟩, h3⟩
  rcases h2 with h2 | ⟨g, cap, cur, rfl, hg, hb, r⟩
  · exact .inl h2
  · exact .inr ⟨g, cap, cur, rfl, hg, (t.block g (Array.getElem?_eq_some_iff.1 hb).1 (k g rfl)).trans hb, r⟩
theorem OwnInts.grown {B : Nat} {w w' : World} {v : Value} {l : List Int} (h : OwnInts B w v l) (k : w.grownBy w' none) : OwnInts B w' v l := h.turned (S := fun _ => False) (Turned.of k (fun j e => by cases e)) (fun _ _ h => h)
theorem OwnInts.form {B : Nat} {w : World} {v : Value} {l : List Int} (h : OwnInts B w v l) : ∃ p cap, v = .slice p l.length cap := by
  rcases h.1.2 with ⟨rfl, h0⟩ | ⟨g, cap, cur, rfl, _⟩
  · exact ⟨none, 0, by rw [h0]⟩
  · exact ⟨_, cap, rfl⟩
theorem OwnInts.at_ {B : Nat} {w : World} {v : Value} {l : List Int} (h : OwnInts B w v l) (i : Nat) (hi : i < l.length) :
    ∃ g cap, v = .slice (some ⟨g, 0, none⟩) l.length cap ∧ l.length ≤ cap ∧ cap ≤ maxLen ∧ B ≤ g ∧ g < w.heap.size ∧ ∀ (j : Nat) (hj : j < l.length), w.cell? ⟨g, j, none⟩ = some (.int .i64 l[j]) := by
  have hlt := h.lt
  have h2 := h.1.2
  rcases h2 with ⟨_, h0⟩ | ⟨g, cap, cur, rfl, hg, hb, hc, hm, _, _⟩
  · omega
  · refine ⟨g, cap, rfl, hc, hm, hg, (hlt g rfl).2, fun j hj => ?_⟩
    have h3 := h.1.cells (g := g) rfl j (.int .i64 l[j]) (by rw [List.getElem?_map, List.getElem?_eq_getElem hj]; rfl)
    rw [vadd_plain, Nat.zero_add] at h3
    exact h3

theorem grown_fresh {W w w' : World} {b : Option Nat} (k1 : W.grownBy w none) (k2 : w.grownBy w' b) (hb : ∀ j, b = some j → W.heap.size ≤ j) : W.grownBy w' none :=
  ⟨k2.os.trans k1.os, k2.tape.trans k1.tape, k2.output.trans k1.output, Nat.le_trans k1.size k2.size, fun j hj _ => (k2.block j (Nat.lt_of_lt_of_le hj k1.size) (fun e => by have := hb j e.symm; omega)).trans (k1.block j hj (by simp))⟩

/-- 'append(v, x...)' onto a row of one's own of what lies behind an address. -/
theorem OwnInts.append {B : Nat} {w : World} {v : Value} {l : List Int} (h : OwnInts B w v l) (hB : B ≤ w.heap.size) (ty : TypeId) (a : Addr) (c : Nat) (news : List Int) (hn : ∀ (j : Nat) (hj : j < news.length), w.cell? (a.add j) = some (.int .i64 news[j])) (hl : l.length + news.length ≤ 100) :
    ∃ v' w', (Builtin.append_ #[128, 128] ty #[v, .slice (some a) news.length c]).run Tryz.prog w = .ok v' w' ∧ OwnInts B w' v' (l ++ news) ∧ w.grownBy w' v.ownBlock ∧ (v'.ownBlock = v.ownBlock ∨ v'.ownBlock = some w.heap.size) := by
  obtain ⟨i0, hi⟩ : ∃ j, Tryz.prog.info? 3 = some j := Option.isSome_iff_exists.1 (by kernel_rfl)
  have hz : (Tryz.prog.info? 3).bind (·.zero) = some (.int .i64 0) := by kernel_rfl
  have hs : (Tryz.prog.info? 3).map (·.size) = some 1 := by kernel_rfl
  have hb : (Tryz.prog.info? 3).map (·.bytes) = some 8 := by kernel_rfl
  rw [hi] at hz hs hb
  simp only [Option.bind_some, Option.map_some, Option.some.injEq] at hz hs hb
  have hcell : ∀ (j : Nat) (u : Value), (news.map (Value.int .i64))[j]? = some u → w.cell? (a.add j) = some u := fun j u hu => by
    rw [List.getElem?_map] at hu
    by_cases hj : j < news.length
    · rw [List.getElem?_eq_getElem hj] at hu
      simp at hu
      rw [hn j hj, hu]
    · rw [List.getElem?_eq_none (by omega)] at hu
      cases hu
  have hone : ∀ u ∈ news.map (Value.int .i64), u.oneCell' = true := fun u hu => by obtain ⟨_, _, rfl⟩ := List.mem_map.1 hu; rfl
  obtain ⟨v', w', h1, h2, h3, h4⟩ := run_append_own (P := Tryz.prog) w B 128 ty 3 i0 (.int .i64 0) 1 8 Tryz.underlying128 hi hz hs hb rfl (by decide) v l.length (l.map (Value.int .i64)) h.1 a news.length c (news.map (Value.int .i64)) (by simp)
    hcell hone (by unfold maxLen; omega) (by omega) hB
  refine ⟨v', w', h1, ⟨by rw [List.length_append, List.map_append]; exact h2, by rw [List.length_append]; exact hl⟩, h3, ?_⟩
  rcases h.1.2 with ⟨rfl, h0⟩ | ⟨g, cap, cur, rfl, hg, hbk, hc, hm, hsz, _⟩
  · by_cases hm : news.length = 0
    · rw [h4.2 ⟨rfl, hm⟩]
      exact .inl rfl
    · have h5 := run_append_nil (P := Tryz.prog) w 128 ty 3 i0 (.int .i64 0) Tryz.underlying128 hi hz a news.length c (news.map (Value.int .i64)) (by rw [hs]; simp) hcell (by omega) (by omega) (by rw [hb]; omega)
      rw [h1] at h5
      injection h5 with h5
      rw [h5]
      exact .inr rfl
  · by_cases hroom : l.length + news.length ≤ cap
    · have h5 := run_append_room (P := Tryz.prog) w 128 ty 3 i0 Tryz.underlying128 hi g l.length cap cur hbk a news.length c (news.map (Value.int .i64)) (by rw [hs]; simp) hcell hone hroom (by rw [hs, hsz]; simp; omega)
      rw [h1] at h5
      injection h5 with h5
      rw [h5]
      exact .inl rfl
    · have h5 := run_append_grow (P := Tryz.prog) w 128 ty 3 i0 (.int .i64 0) Tryz.underlying128 hi hz ⟨g, 0, none⟩ l.length cap (l.map (Value.int .i64)) (by rw [hs]; simp) (h.1.cells (g := g) rfl) a news.length c (news.map (Value.int .i64)) (by rw [hs]; simp) hcell (by omega) (by omega) (by rw [hb]; exact growslice_fits (by omega) (by omega))
      rw [h1] at h5
      injection h5 with h5
      rw [h5]
      exact .inr rfl

theorem room_take {l : List Bf} (h : ∀ b ∈ l, 1 ≤ b.n ∧ b.n ≤ 65536) (hl : l.length ≤ 100) (j : Nat) : 0 ≤ roomOf (l.take j) ∧ roomOf (l.take j) ≤ 6553600 := by
  have h1 := roomOf_bd (l.take j) fun y hy => by have := h y (List.mem_of_mem_take hy); omega
  have h2 : (l.take j).length ≤ 100 := by rw [List.length_take]; omega
  omega

/-- 'append(v, x)'. -/
theorem OwnInts.push {B : Nat} {w : World} {v : Value} {l : List Int} (h : OwnInts B w v l) (hB : B ≤ w.heap.size) (x : Int) (hl : l.length + 1 ≤ 100) :
    ∃ v' w', (Builtin.append_ #[128, 128] 128 #[v, .slice (some ⟨w.heap.size, 0, none⟩) 1 1]).run Tryz.prog (w.alloc (.cells #[.int .i64 x] 3)) = .ok v' w' ∧ OwnInts B w' v' (l ++ [x]) ∧ w.grownBy w' v.ownBlock ∧ (v'.ownBlock = v.ownBlock ∨ ∃ j, v'.ownBlock = some j ∧ w.heap.size ≤ j) := by
  have ka := World.grownBy_alloc w (.cells #[.int .i64 x] 3) none
  obtain ⟨v', w', h1, h2, h3, h4⟩ := (h.grown ka).append (by have := ka.size; omega) 128 ⟨w.heap.size, 0, none⟩ 1 [x] (fun j hj => by
    have hj0 : j = 0 := by simpa using hj
    subst hj0
    simp [World.cell?_alloc_new, vadd_plain]) (by simpa using hl)
  refine ⟨v', w', h1, h2, ⟨h3.os.trans ka.os, h3.tape.trans ka.tape, h3.output.trans ka.output, Nat.le_trans ka.size h3.size, fun j hj hn => (h3.block j (Nat.lt_of_lt_of_le hj ka.size) hn).trans (ka.block j hj (by simp))⟩, ?_⟩
  rcases h4 with h4 | h4
  · exact .inl h4
  · exact .inr ⟨_, h4, ka.size⟩

/-- Two rows that lie in blocks of their own lie so still. -/
theorem apart_push {a a' b b' : Option Nat} {n7 n8 : Nat} (hne : a = none ∨ a ≠ b) (n1 : a' = a ∨ ∃ j, a' = some j ∧ n7 ≤ j) (n2 : b' = b ∨ ∃ j, b' = some j ∧ n8 ≤ j) (la : ∀ k, a' = some k → k < n8) (lb : ∀ k, b = some k → k < n7) : a' = none ∨ a' ≠ b' := by
  by_cases h0 : a' = none
  · exact .inl h0
  refine .inr fun e => ?_
  obtain ⟨k, hk⟩ := Option.ne_none_iff_exists'.1 h0
  have l1 := la k hk
  rcases n2 with n2 | ⟨j, n2, hj⟩
  · have hb : b = some k := by rw [← n2, ← e, hk]
    have l2 := lb k hb
    rcases n1 with n1 | ⟨j, n1, hj⟩
    · rcases hne with h | h
      · rw [n1, h] at hk; cases hk
      · exact h (by rw [← n1, e, n2])
    · rw [hk] at n1
      injection n1 with n1
      omega
  · rw [← e, hk] at n2
    injection n2 with n2
    omega
theorem OwnInts.beside {B : Nat} {w w' : World} {v u : Value} {l : List Int} (h : OwnInts B w v l) (k : w.grownBy w' u.ownBlock) (hne : u.ownBlock = none ∨ u.ownBlock ≠ v.ownBlock) : OwnInts B w' v l := by
  rcases hne with hn | hn
  · rw [hn] at k
    exact h.grown k
  · exact h.kept k (.inr fun e => hn e.symm)

section
variable {w w' : World} {q p g h : Nat} {lm : List UInt8} {base : Int} {n mb : Nat} {cs : List Oc} {off back taken told : Int}
/-- The numbers of the chains that are out lie in blocks that are there. -/
theorem blk_lt (s : VS w q p g h lm base n mb cs off back taken told) : ∀ x ∈ cs, x.blk < w.heap.size := by
  intro x hx
  have h1 := s.both.qs.heads x hx
  obtain ⟨_, h2, _⟩ := s.both.qs.nums x hx
  have h3 : 0 < x.c.of.length := by
    match x.c.of, h1 with
    | _ :: _, _ => simp
  exact World.block_lt_of_cell? w _ (h2 0 h3)
/-- What turns a block that is none of a queue's leaves it. -/
theorem VS.kept_row (s : VS w q p g h lm base n mb cs off back taken told) {r : Option Nat} (k : w.grownBy w' r) (hr : ∀ j, r = some j → j ≠ q ∧ j ≠ p ∧ j ≠ g ∧ j ≠ h ∧ j ≠ mb) (hx : ∀ x ∈ cs, r ≠ some x.blk) : VS w' q p g h lm base n mb cs off back taken told := by
  have l1 := s.both.qs.lts
  have l2 := lt_of_block s.both.ps.at_
  have keep : ∀ x, x < w.heap.size → some x ≠ r → w'.heap[x]? = w.heap[x]? := fun x hx hn => k.block x hx hn
  have nq : some q ≠ r := fun e => (hr q e.symm).1 rfl
  have np : some p ≠ r := fun e => (hr p e.symm).2.1 rfl
  have ng : some g ≠ r := fun e => (hr g e.symm).2.2.1 rfl
  have nh : some h ≠ r := fun e => (hr h e.symm).2.2.2.1 rfl
  have nm : some mb ≠ r := fun e => (hr mb e.symm).2.2.2.2 rfl
  have m : Mem w' g h lm := s.both.qs.mem.kept k ng nh
  refine ⟨⟨{ s.both.qs with mem := m, at_ := s.both.qs.at_.kept (keep _ l1.1 nq), tab := s.both.qs.tab.kept (keep _ l1.2.2.2 nm), nums := fun x hx' => ?_ }, { s.both.ps with mem := m, at_ := s.both.ps.at_.kept (keep _ l2 np) }⟩, s.oi, s.ui⟩
  obtain ⟨a1, a2, a3⟩ := s.both.qs.nums x hx'
  refine ⟨a1, fun i hi => ?_, a3⟩
  have hc := a2 i hi
  rw [World.cell?_of_block (w := w) (a := ⟨x.blk, i, none⟩) (keep _ (World.block_lt_of_cell? w _ hc) (fun e => hx x hx' e.symm))]
  exact hc
end

section
variable {P : Program} (w : World) {ops : Array Oper} {rest : List Oper} {o : Oper} {a : Act} {Q : Exit → Act → World → Prop}
/-- 'append' at the operation, by what its run is. -/
theorem wp_append_run {K : Act → World → Prop} (s x : Operand) (t : TypeId) (hop : o.op = Op.call { callee := Callee.builtin Builtin.append, args := #[s, x], argTypes := #[t, t] }) (v u v' : Value) (w' : World) (hs : a.eval s = v) (hx : a.eval x = u)
    (hr : (Builtin.append_ #[t, t] o.type #[v, u]).run P w = .ok v' w') (h : K (a.put o.dst v') w') : o.wp P a w K Q := by
  unfold Oper.wp execOp
  simp only [hop, resolve, invoke, builtin, Sem.run_bind, Sem.run_pure, Result.andThen_ok, List.map_toArray, List.map_cons, List.map_nil, hs, hx, hr]
  exact h
theorem wpList_append_run (hg : o.guard = none) (s x : Operand) (t : TypeId) (hop : o.op = Op.call { callee := Callee.builtin Builtin.append, args := #[s, x], argTypes := #[t, t] }) (v u v' : Value) (w' : World) (hs : a.eval s = v) (hx : a.eval x = u)
    (hr : (Builtin.append_ #[t, t] o.type #[v, u]).run P w = .ok v' w') (h : wpList P ops Q rest (a.put o.dst v') w') : wpList P ops Q (o :: rest) a w :=
  wpList_plain hg fun _ hK => wp_append_run w s x t hop v u v' w' hs hx hr (hK _ _ h)
end

/-- A slice of bytes that came in. -/
def ByteAt (w : World) (b o : Nat) (x : Int) : Prop := (0 ≤ x ∧ x ≤ 255) ∧ w.cell? ⟨b, o, none⟩ = some (.int .u8 x)
def ByteRow (w : World) (v : Value) (l : List Int) : Prop := RowAt (ByteAt w) 1 v l
theorem ByteRow.below {w w' : World} {v : Value} {l : List Int} (h : ByteRow w v l) (k : Below w.heap.size w w') : ByteRow w' v l := h.mono fun _ _ _ _ ⟨h0, h1⟩ =>
  ⟨h0, by rw [World.cell?_of_block (w := w) (k.block _ (World.block_lt_of_cell? w _ h1))]; exact h1⟩
theorem open_bytes {H : Type} {enc : TypeId × Value → H} {w : World} {fuel : Nat} {v : Value} {x : DataW H × List MemPlace} (h : DataW.trod enc Tryz.prog w 0 (fun _ => true) true fuel 54 [v] = some x) : ∃ l, ByteRow w v l := by
  refine open_row Tryz.underlying54 (by kernel_rfl) ?_ h
  intro a fuel cs x hc ht
  obtain ⟨_, hlen, hcell⟩ := World.cells?_some hc
  have hC : Tryz.prog.cellsOf 5 = 1 := by kernel_rfl
  rw [hC] at hlen hcell
  obtain ⟨u, rfl⟩ : ∃ u, cs = [u] := by
    match cs, hlen with
    | [u], _ => exact ⟨u, rfl⟩
  have c0 := hcell 0 (by omega)
  obtain ⟨n0, e0, _, w0⟩ := DataW.trod_int Tryz.underlying5 ht
  simp only [List.cons.injEq, and_true] at e0
  subst e0
  obtain ⟨b, o, sp⟩ := a
  have hs : sp = none := by simpa [Addr.add] using World.cell?_spot c0
  subst hs
  rw [vadd_plain] at c0
  refine ⟨n0, rfl, ?_, by simpa using c0⟩
  simp [Lit.wf, IntKind.min, IntKind.max, IntKind.bits, IntKind.signed] at w0
  omega

/-- Chains by their numbers: the one that has a number is struck. -/
theorem erase_head : ∀ (cs : List Oc) (_ : (cs.map fun x => x.c.head).Nodup) (k : Nat) (hk : k < cs.length), (cs.filter fun y => y.c.head != cs[k].c.head) = cs.eraseIdx k
  | [], _, k, hk => by simp at hk
  | c :: cs, hn, 0, hk => by
    simp only [List.map_cons, List.nodup_cons] at hn
    simp only [List.getElem_cons_zero, List.eraseIdx_zero, List.tail_cons, bne_self_eq_false, Bool.false_eq_true, not_false_eq_true, List.filter_cons_of_neg]
    refine List.filter_eq_self.2 fun d hd => ?_
    have : d.c.head ≠ c.c.head := fun e => hn.1 (List.mem_map.2 ⟨d, hd, e⟩)
    simpa using this
  | c :: cs, hn, k + 1, hk => by
    simp only [List.map_cons, List.nodup_cons] at hn
    have hk' : k < cs.length := by simpa using hk
    have hc : c.c.head ≠ cs[k].c.head := fun e => hn.1 (List.mem_map.2 ⟨_, List.getElem_mem hk', e.symm⟩)
    rw [List.getElem_cons_succ, List.eraseIdx_cons_succ, List.filter_cons_of_pos (by simpa using hc), erase_head cs hn.2 k hk']
theorem map_erase {α β : Type} (f : α → β) : ∀ (l : List α) (k : Nat), (l.eraseIdx k).map f = (l.map f).eraseIdx k
  | [], k => by simp
  | a :: l, 0 => by simp
  | a :: l, k + 1 => by simp [map_erase f l k]
theorem erase_parts (l : List Int) (k : Nat) : l.take k ++ l.drop (k + 1) = l.eraseIdx k := (List.eraseIdx_eq_take_drop_succ l k).symm

/-- 'append(append([]int{}, l[:k]...), l[k+1:]...)'. -/
theorem OwnInts.strike {B : Nat} {w : World} {g m c : Nat} {l : List Int} (h : OwnInts B w (.slice (some ⟨g, 0, none⟩) m c) l) (k : Nat) (hk : k < l.length) (off : Nat) (hoff : off = k + 1 ∨ l.length = k + 1) :
    ∃ v1 w1 v2 w2, (Builtin.append_ #[128, 128] 128 #[.slice (some ⟨w.heap.size, 0, none⟩) 0 0, .slice (some ⟨g, 0, none⟩) k c]).run Tryz.prog (w.alloc (.cells #[] 3)) = .ok v1 w1 ∧
      (Builtin.append_ #[128, 128] 128 #[v1, .slice (some ⟨g, off, none⟩) (l.length - (k + 1)) (c - (k + 1))]).run Tryz.prog w1 = .ok v2 w2 ∧ OwnInts w.heap.size w2 v2 (l.eraseIdx k) ∧ w.grownBy w2 none := by
  obtain ⟨g', cap, e, _, _, _, hg, hc⟩ := h.at_ k hk
  injection e with e
  injection e with e
  injection e with e
  subst e
  have ka := World.grownBy_alloc w (.cells #[] 3) none
  have hl := h.2
  have o0 : OwnInts w.heap.size (w.alloc (.cells #[] 3)) (.slice (some ⟨w.heap.size, 0, none⟩) 0 0) [] := ⟨w.ownsRow_made #[] 0 (Nat.le_refl _) (by unfold maxLen; omega) rfl, by simp⟩
  have hlk : (l.take k).length = k := by rw [List.length_take]; omega
  have hld : (l.drop (k + 1)).length = l.length - (k + 1) := by rw [List.length_drop]
  have hA1 : ([] : List Int).length + (l.take k).length ≤ 100 := by rw [hlk, List.length_nil]; omega
  have hA2 : ([] ++ l.take k).length + (l.drop (k + 1)).length ≤ 100 := by rw [List.nil_append, hlk, hld]; omega
  have cellA : ∀ (w' : World), w'.heap[g]? = w.heap[g]? → ∀ j (hj : j < l.length), w'.cell? ⟨g, j, none⟩ = some (.int .i64 l[j]) := fun w' hw j hj => by
    rw [World.cell?_of_block (w := w) (a := ⟨g, j, none⟩) hw]; exact hc j hj
  obtain ⟨v1, w1, h1, o1, k1, n1⟩ := o0.append (by have := ka.size; omega) 128 ⟨g, 0, none⟩ c (l.take k) (fun j hj => by
    rw [vadd_plain, Nat.zero_add, cellA _ (ka.block g hg (by simp)) j (by omega), List.getElem_take]) hA1
  rw [hlk] at h1
  have hb1 : w1.heap[g]? = w.heap[g]? := (k1.block g (Nat.lt_of_lt_of_le hg ka.size) (fun e => by injection e with e; have e2 : g = w.heap.size := e; omega)).trans (ka.block g hg (by simp))
  obtain ⟨v2, w2, h2, o2, k2, n2⟩ := o1.append (by have := ka.size; have := k1.size; omega) 128 ⟨g, off, none⟩ (c - (k + 1)) (l.drop (k + 1)) (fun j hj => by
    rw [vadd_plain]
    rcases hoff with rfl | hoff
    · rw [cellA _ hb1 _ (by omega), List.getElem_drop]
    · omega) hA2
  rw [hld] at h2
  have hn1 : ∀ j, v1.ownBlock = some j → w.heap.size ≤ j := fun j hj => (o1.lt j hj).1
  refine ⟨v1, w1, v2, w2, h1, h2, by rw [← erase_parts]; simpa using o2, ?_⟩
  exact grown_fresh (grown_fresh ka k1 (fun j hj => by injection hj with hj; have e2 : w.heap.size = j := hj; omega)) k2 hn1

/-- The chains that are out have numbers of their own. -/
theorem heads_nodup {w : World} {q g h : Nat} {lm : List UInt8} {base : Int} {n mb : Nat} {cs : List Oc} {off back : Int} {broken : Bool} (s : QS w q g h lm base n mb cs off back broken) : (cs.map fun x => x.c.head).Nodup := by
  obtain ⟨es, clock, _, F⟩ := s.tab
  have := F.keys
  rw [List.map_map] at this
  exact this

end Go.Proofs.YtdchlnffbiooaaaGreatDoor
