/-
  Layer 8: slices.Delete of one datagram; rows that are appended to; a joiner whose row is written anew; drop. Conditions: as said.
-/
import Derived.Test.YtbjoibgkhooljaaJoE
import Derived.Test.YtbjoibgkhooljaaRowsB
namespace Go.Proofs.Ytbjoibgkhooljaa
open Go.RowKit Go.Sort Go.Shelf
set_option linter.unusedVariables false

theorem info_dg : ∃ i z, Try.prog.info? 87 = some i ∧ i.zero = some z ∧ i.size = 13 ∧ i.bytes = 64 ∧ z.cells.size = 13 := by
  have h : (Try.prog.info? 87).map (fun i => (i.zero.map (fun z => z.cells.size), i.size, i.bytes)) = some (some 13, 13, 64) := by kernel_rfl
  cases hi : Try.prog.info? 87 with
  | none => rw [hi] at h; cases h
  | some i =>
    rw [hi] at h
    simp only [Option.map_some, Option.some.injEq, Prod.mk.injEq] at h
    obtain ⟨h1, h2, h3⟩ := h
    cases hz : i.zero with
    | none => rw [hz] at h1; cases h1
    | some z => rw [hz] at h1; exact ⟨i, z, rfl, hz, h2, h3, by simpa using h1⟩

set_option maxRecDepth 100000 in
set_option maxHeartbeats 400000 in
theorem delete_ok (w : World) (b cap i : Nat) (l : List Dg) (h : DgRow w (.slice (some ⟨b, 0, none⟩) l.length cap) l) (hi : i < l.length) (hl : l.length ≤ 1000000) :
    Calls Try.prog 78 #[.slice (some ⟨b, 0, none⟩) l.length cap, .int .i64 i, .int .i64 ((i : Int) + 1)] w fun e w' =>
      e = .returned (.slice (some ⟨b, 0, none⟩) (l.length - 1) cap) ∧ DgRow w' (.slice (some ⟨b, 0, none⟩) (l.length - 1) cap) (l.eraseIdx i) ∧ Turn w w' (fun k => k = b) := by
  obtain ⟨cur, hb, hnc, hcm, hcs, htake⟩ : ∃ cur, w.heap[b]? = some (.cells cur 87 (0, 0)) ∧ l.length ≤ cap ∧ cap ≤ maxLen ∧ cur.size = cap * 13 ∧ cur.toList.take (l.length * 13) = encA dgE l := by
    rcases h.2 with ⟨h1, _⟩ | ⟨g, cap', cur, h1, _, h2, h3, h4, h5, h6⟩
    · cases h1
    · injection h1 with h1 _ hc; injection h1 with h1; injection h1 with h1
      subst h1 hc
      exact ⟨cur, h2, h3, h4, h5, h6⟩
  have hcm0 := hcm
  unfold maxLen at hcm
  have hd : decide ((i : Int) = (i : Int) + 1) = false := by simp; omega
  obtain ⟨news, hnews⟩ : ∃ news, news = encA dgE (l.drop (i + 1)) := ⟨_, rfl⟩
  have hnl : news.length = (l.length - (i + 1)) * 13 := by rw [hnews, encA_length dgE_len, List.length_drop]
  have hcut : ∀ j u, news[j]? = some u → cur[(i + 1) * 13 + j]? = some u := fun j u hu => by
    have hj : j < news.length := (List.getElem?_eq_some_iff.1 hu).1
    have h1 : (encA dgE l)[(i + 1) * 13 + j]? = some u := by
      rw [← hu, hnews]
      have e := encA_append dgE (l.take (i + 1)) (l.drop (i + 1))
      rw [List.take_append_drop] at e
      have e2 := encA_length dgE_len (l.take (i + 1))
      rw [List.length_take] at e2
      rw [e, List.getElem?_append_right (by omega)]
      congr 1
      omega
    rw [← htake, List.getElem?_take, if_pos (by omega)] at h1
    simpa using h1
  obtain ⟨A, hA, hsrc⟩ : ∃ A : Addr, (if cap = i + 1 then (some ⟨b, 0, none⟩ : Option Addr) else some ⟨b, (i + 1) * 13, none⟩) = some A ∧ Hid (∀ j u, news[j]? = some u → w.drew.cell? (A.add j) = some u) := by
    by_cases hc : cap = i + 1
    · refine ⟨⟨b, 0, none⟩, by simp [hc], fun j u hu => ?_⟩
      have h0 : news.length = 0 := by rw [hnl]; omega
      rw [List.length_eq_zero_iff.1 h0] at hu
      simp at hu
    · refine ⟨⟨b, (i + 1) * 13, none⟩, by simp [hc], fun j u hu => ?_⟩
      rw [add_off]
      show w.cell? _ = _
      rw [cell_of_row _ _ _ _ _ _ hb]
      exact hcut j u hu
  have hone : Hid (∀ u ∈ news, u.oneCell' = true) := fun u hu => by
    rw [hnews] at hu
    obtain ⟨tm, _, hu⟩ := List.mem_flatMap.1 hu
    exact dgE_one tm u hu
  obtain ⟨i0, z0, hi0, hz0, hz1, hz2, hz3⟩ := info_dg
  obtain ⟨W1, hW1⟩ : ∃ W1, W1 = w.drew.setRow b (cur.toList.take (i * 13) ++ news ++ cur.toList.drop (i * 13 + news.length)).toArray := ⟨_, rfl⟩
  have hb1 : W1.heap[b]? = some (.cells (cur.toList.take (i * 13) ++ news ++ cur.toList.drop (i * 13 + news.length)).toArray 87 (0, 0)) := by rw [hW1]; exact setRow_heap w.drew b cur _ _ _ hb
  have hfit : i * 13 + news.length ≤ cur.size := by rw [hnl, hcs]; omega
  have hc1 : (cur.toList.take (i * 13) ++ news ++ cur.toList.drop (i * 13 + news.length)).toArray.size = cap * 13 := by
    rw [List.size_toArray, List.length_append, List.length_append, List.length_take, List.length_drop, Array.length_toList]
    omega
  obtain ⟨C1, hC1⟩ : ∃ C1, C1 = (cur.toList.take (i * 13) ++ news ++ cur.toList.drop (i * 13 + news.length)).toArray := ⟨_, rfl⟩
  rw [← hC1] at hb1 hc1
  obtain ⟨W2, hW2, hb2⟩ := run_clear_row (P := Try.prog) W1 71 87 _ Try.underlying71 Try.zeroValue87 b ((i + (l.length - (i + 1))) * 13) (l.length - (i + (l.length - (i + 1)))) (cap - (i + (l.length - (i + 1)))) C1 hb1 (by omega) 13 (by omega) rfl (by omega) (by kernel_rfl)
  have hfin : Hid (DgRow W2 (.slice (some ⟨b, 0, none⟩) (l.length - 1) cap) (l.eraseIdx i) ∧ Turn w W2 (fun k => k = b)) := by
    obtain ⟨zs, hzl, hW2e⟩ := hb2
    have ho : (i + (l.length - (i + 1))) * 13 = (l.length - 1) * 13 := by omega
    have hm1 : (l.length - (i + (l.length - (i + 1)))) * 13 = 13 := by omega
    rw [ho, hm1] at hW2e
    have hel : (l.eraseIdx i).length = l.length - 1 := List.length_eraseIdx_of_lt hi
    have hee : encA dgE (l.eraseIdx i) = encA dgE (l.take i) ++ news := by rw [List.eraseIdx_eq_take_drop_succ, encA_append, hnews]
    have hti : cur.toList.take (i * 13) = encA dgE (l.take i) := by
      have e1 := encA_append dgE (l.take i) (l.drop i)
      rw [List.take_append_drop] at e1
      have e2 := encA_length dgE_len (l.take i)
      rw [List.length_take] at e2
      have e3 : cur.toList.take (i * 13) = (cur.toList.take (l.length * 13)).take (i * 13) := by rw [List.take_take]; congr 1; omega
      rw [e3, htake, e1]
      exact List.take_left' (by omega)
    have hlc : (C1.toList).length = cap * 13 := by rw [Array.length_toList]; exact hc1
    have hct : C1.toList.take ((l.length - 1) * 13) = encA dgE (l.eraseIdx i) := by
      rw [hC1, hee, ← hti]
      refine List.take_left' ?_
      rw [List.length_append, List.length_take, Array.length_toList]
      omega
    refine ⟨⟨by rw [encA_length dgE_len], .inr ⟨b, cap, _, by rw [hel], Nat.zero_le _, by rw [hW2e]; exact setRow_heap W1 b C1 _ _ _ hb1, by omega, hcm0, ?_, ?_⟩⟩, ?_⟩
    · rw [List.size_toArray, List.length_append, List.length_append, List.length_take, List.length_drop, hlc, hzl, hm1]
      omega
    · rw [hel, ← hct]
      show (C1.toList.take ((l.length - 1) * 13) ++ zs ++ C1.toList.drop ((l.length - 1) * 13 + 13)).take ((l.length - 1) * 13) = _
      rw [List.append_assoc]
      exact List.take_left' (by rw [List.length_take, hlc]; omega)
    · rw [hW2e, hW1]
      exact ⟨rfl, rfl, rfl, by rw [size_setRow, size_setRow]; exact Nat.le_refl _, fun k _ hk => by rw [setRow_other _ _ _ _ hk, setRow_other _ _ _ _ hk]; rfl⟩
  have HB := Lib.hid hb
  have HHI := Lib.hid hi0
  have HZ1 := Lib.hid hz1
  have HHN := Lib.hid hnl
  have HHF := Lib.hid hfit
  have HW1 := Lib.hid hW1
  clear hi0 hz0 hz1 hz2 hz3 hb hnews hnl hcut hW1 hb1 hfit hc1 hC1 htake hcs h hb2
  go_enter Try.func78, Try.ntmps78
  go_wp2_with fail
  have hic : (i : Int) ≤ (cap : Int) := by omega
  have hjl : (i : Int) + 1 ≤ (l.length : Int) := by omega
  have hj0 : 0 ≤ (i : Int) + 1 := by omega
  go_region_law (refine step_append_in rfl (.tmp 22) (.tmp 25) 71 rfl 87 i0 13 Try.underlying71 HHI.out HZ1.out b i cap cur HB.out (by simp [Act.eval, Act.put]) A (l.length - (i + 1)) (cap - (i + 1)) news (by simp [Act.eval, Act.put]) HHN.out hsrc.out hone.out (by omega) HHF.out ?_; rw [← HW1.out])
  go_wp2
  go_ret
  exact ⟨by rw [show l.length - 1 = i + (l.length - (i + 1)) by omega]; rfl, hfin.out.1, hfin.out.2⟩

theorem info_pc : ∃ i z, Try.prog.info? 89 = some i ∧ i.zero = some z ∧ i.size = 3 ∧ i.bytes = 32 ∧ z.cells.size = 3 := by
  have h : (Try.prog.info? 89).map (fun i => (i.zero.map (fun z => z.cells.size), i.size, i.bytes)) = some (some 3, 3, 32) := by kernel_rfl
  cases hi : Try.prog.info? 89 with
  | none => rw [hi] at h; cases h
  | some i =>
    rw [hi] at h
    simp only [Option.map_some, Option.some.injEq, Prod.mk.injEq] at h
    obtain ⟨h1, h2, h3⟩ := h
    cases hz : i.zero with
    | none => rw [hz] at h1; cases h1
    | some z => rw [hz] at h1; exact ⟨i, z, rfl, hz, h2, h3, by simpa using h1⟩
theorem step_append_dg {ops : Array Oper} {o : Oper} {a : Act} {w : World} {K : Act → World → Prop} {Q : Exit → Act → World → Prop} {E : Prop}
    (hg : o.guard = none) (s x : Operand) (hop : o.op = Op.call { callee := Callee.builtin Builtin.append, args := #[s, x], argTypes := #[71, 71] })
    (v : Value) (l : List Dg) (hs : a.eval s = v) (hown : DgRow w v l) (hl : l.length ≤ 1000000) (ad : Addr) (c : Nat) (y : Dg) (hx : a.eval x = .slice (some ad) 1 c) (hc : ∀ j u, (dgE y)[j]? = some u → w.cell? (ad.add j) = some u)
    (hK : ∀ v' w', DgRow w' v' (l ++ [y]) → w.grownBy w' v.ownBlock → (v'.ownBlock = v.ownBlock ∨ v'.ownBlock = some w.heap.size) → K (a.put o.dst v') w') :
    if Region.wanted o (yielded ops a.tmps) = true then Oper.wp Try.prog o a w K Q else E := by
  have hw : Region.wanted o (yielded ops a.tmps) = true := by simp [Region.wanted, hg]
  rw [if_pos hw]
  obtain ⟨i, z, h1, h2, h3, h4, h5⟩ := info_dg
  obtain ⟨v', w', hr, g1, g2, g3⟩ := run_append_A (P := Try.prog) (w := w) dgE_len dgE_one (by decide) 71 87 i z 64 o.type Try.underlying71 h1 h2 h3 h4 (by decide) h5 v l hown (by omega) ad c y hc
  unfold Oper.wp
  simp only [execOp, hop, resolve, invoke, builtin, Sem.run_bind, Sem.run_pure, Result.andThen_ok, List.map_toArray, List.map_cons, List.map_nil, hs, hx, hr]
  exact hK v' w' g1 g2 g3
theorem step_append_pc {ops : Array Oper} {o : Oper} {a : Act} {w : World} {K : Act → World → Prop} {Q : Exit → Act → World → Prop} {E : Prop}
    (hg : o.guard = none) (s x : Operand) (hop : o.op = Op.call { callee := Callee.builtin Builtin.append, args := #[s, x], argTypes := #[85, 85] })
    (v : Value) (l : List Pc) (hs : a.eval s = v) (hown : PcRow w v l) (hl : l.length ≤ 1000000) (ad : Addr) (c : Nat) (y : Pc) (hx : a.eval x = .slice (some ad) 1 c) (hc : ∀ j u, (pcE y)[j]? = some u → w.cell? (ad.add j) = some u)
    (hK : ∀ v' w', PcRow w' v' (l ++ [y]) → w.grownBy w' v.ownBlock → (v'.ownBlock = v.ownBlock ∨ v'.ownBlock = some w.heap.size) → K (a.put o.dst v') w') :
    if Region.wanted o (yielded ops a.tmps) = true then Oper.wp Try.prog o a w K Q else E := by
  have hw : Region.wanted o (yielded ops a.tmps) = true := by simp [Region.wanted, hg]
  rw [if_pos hw]
  obtain ⟨i, z, h1, h2, h3, h4, h5⟩ := info_pc
  obtain ⟨v', w', hr, g1, g2, g3⟩ := run_append_A (P := Try.prog) (w := w) pcE_len pcE_one (by decide) 85 89 i z 32 o.type Try.underlying85 h1 h2 h3 h4 (by decide) h5 v l hown (by omega) ad c y hc
  unfold Oper.wp
  simp only [execOp, hop, resolve, invoke, builtin, Sem.run_bind, Sem.run_pure, Result.andThen_ok, List.map_toArray, List.map_cons, List.map_nil, hs, hx, hr]
  exact hK v' w' g1 g2 g3

/-- What a call leaves of a joiner: these datagrams; what is turned lay in it, what is new in it is new. -/
structure JoT (w w' : World) (g : Nat) (lim : Int) (v : Value) (l : List Dg) (v' : Value) (l' : List Dg) : Prop where
  jo : Jo w' g lim v' l'
  tn : Turn w w' (JoO g v l)
  nw : ∀ k, JoO g v' l' k → JoO g v l k ∨ w.heap.size ≤ k
theorem JoT.refl {w : World} {g : Nat} {lim : Int} {v : Value} {l : List Dg} (h : Jo w g lim v l) : JoT w w g lim v l v l := ⟨h, Turn.refl _ _, fun _ h => .inl h⟩
theorem JoT.trans {w w1 w2 : World} {g : Nat} {lim : Int} {v v1 v2 : Value} {l l1 l2 : List Dg} (h : JoT w w1 g lim v l v1 l1) (k : JoT w1 w2 g lim v1 l1 v2 l2) : JoT w w2 g lim v l v2 l2 :=
  ⟨k.jo, h.tn.trans' k.tn (fun j hj ho => (h.nw j ho).resolve_right (by omega)), fun j hj => by
    rcases k.nw j hj with e | e
    · exact h.nw j e
    · exact .inr (Nat.le_trans h.tn.size e)⟩
theorem JoT.grow {w w1 w2 : World} {g : Nat} {lim : Int} {v v1 : Value} {l l1 : List Dg} (h : JoT w w1 g lim v l v1 l1) (b : Below w1.heap.size w1 w2) : JoT w w2 g lim v l v1 l1 :=
  ⟨h.jo.grow b, h.tn.trans (Turn.of_below b), h.nw⟩
theorem JoT.from {w w0 w1 : World} {g : Nat} {lim : Int} {v v1 : Value} {l l1 : List Dg} (b : Below w.heap.size w w0) (hj : Jo w g lim v l) (h : JoT w0 w1 g lim v l v1 l1) : JoT w w1 g lim v l v1 l1 :=
  ⟨h.jo, (Turn.of_below b).trans h.tn, fun j hj => (h.nw j hj).imp id (fun e => Nat.le_trans b.size e)⟩
/-- The row of datagrams is written anew, and the field. -/
theorem Jo.rerow {w w2 : World} {g : Nat} {lim : Int} {v v' : Value} {l l' : List Dg} (h : Jo w g lim v l) (t : Turn w w2 (fun k => v.ownBlock = some k)) (hr : DgRow w2 v' l') (hb : ∀ k, v'.ownBlock = some k → v.ownBlock = some k ∨ w.heap.size ≤ k)
    (hm : ∀ x ∈ l', x ∈ l ∨ (x.ps = [] ∧ x.pp = none ∧ x.pc = 0)) (ha : l'.Pairwise fun x y => ∀ k, x.pv.ownBlock = some k → y.pv.ownBlock ≠ some k) :
    w2.heap[g]? = w.heap[g]? ∧ JoT w (w2.setCell ⟨g, 1, none⟩ v') g lim v l v' l' := by
  have hg : w2.heap[g]? = w.heap[g]? := t.block g h.lt (fun e => h.ne g e rfl)
  have hne : ∀ k, v'.ownBlock = some k → k ≠ g := fun k hk => by
    rcases hb k hk with e | e
    · exact h.ne k e
    · have := h.lt; omega
  have hset : ∀ k, k ≠ g → (w2.setCell ⟨g, 1, none⟩ v').heap[k]? = w2.heap[k]? := fun k hk => Below.heap_setCell _ _ _ _ hk
  refine ⟨hg, ⟨?_, hr.kept (by simp [World.setCell]) (fun b hb => hset b (hne b hb)), hne, fun x hx => ?_, ha⟩, ?_, fun k hk => ?_⟩
  · have := set_cells (hg.trans h.at_) v' (i := 1) (by show 1 < 3; decide)
    rw [this]
    rfl
  · rcases hm x hx with hx | ⟨e1, e2, e3⟩
    · obtain ⟨p1, p2⟩ := h.ps x hx
      refine ⟨p1.kept (by rw [show (w2.setCell ⟨g, 1, none⟩ v').heap.size = w2.heap.size by simp [World.setCell]]; exact t.size) (fun b hb => by
        rw [hset b (p2 b hb).1]
        exact t.block b (p1.lt b hb).2 (p2 b hb).2), fun k hk => ⟨(p2 k hk).1, fun e => ?_⟩⟩
      rcases hb k e with e | e
      · exact (p2 k hk).2 e
      · have := (p1.lt k hk).2; omega
    · have hp : x.pv = .slice none 0 0 := by unfold Dg.pv; rw [e1, e2, e3]; rfl
      refine ⟨?_, fun k hk => ?_⟩
      · rw [hp, e1]
        exact World.ownsRow_nil _ _ _ _
      · rw [hp] at hk; cases hk
  · refine Turn.setCell (O := JoO g v l) ?_ (.inl rfl) _ _
    exact t.mono (fun j _ e => .inr (.inl e))
  · rcases hk with rfl | hk | ⟨x, hx, hk⟩
    · exact .inl (.inl rfl)
    · exact (hb k hk).imp (fun e => .inr (.inl e)) id
    · rcases hm x hx with hx | ⟨e1, e2, e3⟩
      · exact .inl (.inr (.inr ⟨x, hx, hk⟩))
      · have hp : x.pv = .slice none 0 0 := by unfold Dg.pv; rw [e1, e2, e3]; rfl
        rw [hp] at hk; cases hk

set_option maxRecDepth 100000 in
set_option maxHeartbeats 1000000 in
theorem drop_ok {w : World} {g : Nat} {lim : Int} {v : Value} {l : List Dg} (h : Jo w g lim v l) (hl : l.length ≤ 1000000) (i : Nat) (hi : i < l.length) :
    Calls Try.prog 41 #[.pointer (some ⟨g, 0, none⟩), .int .i64 i] w fun e w' => e = .returned (.tuple #[]) ∧ ∃ v', JoT w w' g lim v l v' (l.eraseIdx i) := by
  obtain ⟨b, cap, cur, hv, _⟩ := h.row.block (by omega)
  subst hv
  have c1 := h.c1
  have hw : IntKind.i64.wrap ((i : Int) + 1) = (i : Int) + 1 := IntWalk.i64_in _ (by omega)
  have HJ := Lib.hid h
  have HD := Lib.hid (delete_ok w b cap i l h.row hi hl)
  clear h
  go_enter Try.func41, Try.ntmps41
  go_wp2_with fail
  refine HD.out.mono ?_
  rintro e w2 ⟨rfl, hr, t⟩
  have hR := HJ.out.rerow (w2 := w2) (v' := .slice (some ⟨b, 0, none⟩) (l.length - 1) cap) (l' := l.eraseIdx i) (t.mono (fun j _ e => by rw [e]; rfl)) hr (fun k hk => .inl hk) (fun x hx => .inl (List.mem_of_mem_eraseIdx hx)) (HJ.out.ap.sublist (List.eraseIdx_sublist _ _))
  have HR := Lib.hid hR.2
  have hg := hR.1.trans HJ.out.at_
  have f1 : w2.frozen? ⟨g, 1, none⟩ = false := by simp [World.frozen?, hg]
  have c2 : w2.cell? ⟨g, 1, none⟩ = some (.slice (some ⟨b, 0, none⟩) l.length cap) := by rw [cell_of_block hg]; rfl
  clear hR hg c1 hr t HD
  go_wp2_with fail
  go_end0
  exact ⟨rfl, _, HR.out⟩

end Go.Proofs.Ytbjoibgkhooljaa
