/-
  Layer 15: what is none; how a connection stands; what is waited for; a segment is sent. Conditions: as said.
-/
import Derived.Test.YtlajalfalepbhaaCnB
namespace Go.Proofs.Ytlajalfalepbhaa
open Go.RowKit
set_option linter.unusedVariables false

section
variable {w0 w w' : World} {fx : List (Nat × Obj)} {q : Bq} {v v' : Cn}
/-- A pointer to no connection that 'New' made: nil, or to a struct that names no maker. -/
def CnNone (w : World) (p : Option Addr) : Prop := p = none ∨ ∃ g, p = some ⟨g, 0, none⟩ ∧ w.cell? ⟨g, 27, none⟩ = some (.pointer none)
theorem info_cn : ∃ j, Try.prog.info? 49 = some j := Option.isSome_iff_exists.1 (by kernel_rfl)
set_option maxHeartbeats 400000 in
theorem cnone_no (h : CB w0 fx q v w) :
    Calls Try.prog 39 #[.pointer (some ⟨q.c, 0, none⟩)] w fun e w' => e = .returned (.bool false) ∧ w' = w := by
  have hm := h.c 27 (.pointer (some ⟨q.c, 0, none⟩)) (fun _ => rfl)
  obtain ⟨j, hj⟩ := info_cn
  have hq := Lib.run_neq_ptr_same (P := Try.prog) (w := w) ⟨q.c, 0, none⟩ Try.underlying22 hj
  clear h hj
  go_enter Try.func39, Try.ntmps39
  go_wp2
  go_ret
  exact ⟨rfl, rfl⟩
set_option maxHeartbeats 400000 in
theorem cnone_yes (w : World) (p : Option Addr) (hp : CnNone w p) :
    Calls Try.prog 39 #[.pointer p] w fun e w' => e = .returned (.bool true) ∧ w' = w := by
  rcases hp with rfl | ⟨g, rfl, hc⟩
  · go_enter Try.func39, Try.ntmps39
    go_wp2
    go_ret
    exact ⟨rfl, rfl⟩
  · have hq := neq_nil_ptr (P := Try.prog) w ⟨g, 0, none⟩ Try.underlying22
    go_enter Try.func39, Try.ntmps39
    go_wp2
    go_ret
    exact ⟨rfl, rfl⟩
set_option maxHeartbeats 400000 in
theorem state_ok (h : CB w0 fx q v w) :
    Calls Try.prog 12 #[.pointer (some ⟨q.c, 0, none⟩)] w fun e w' => e = .returned (.int .i64 v.st) ∧ w' = w := by
  have c2 := h.c 2 (.int .i64 v.st) (fun _ => rfl)
  have HH := Lib.hid h
  clear h
  go_enter Try.func12, Try.ntmps12
  go_wp2_with (go_at_call 39; refine (cnone_no HH.out).mono ?_; rintro e w' ⟨rfl, rfl⟩)
  go_ret
  exact ⟨rfl, rfl⟩
set_option maxHeartbeats 400000 in
theorem state_no (w : World) (p : Option Addr) (hp : CnNone w p) :
    Calls Try.prog 12 #[.pointer p] w fun e w' => e = .returned (.int .i64 9) ∧ w' = w := by
  have HH := Lib.hid hp
  clear hp
  go_enter Try.func12, Try.ntmps12
  go_wp2_with (go_at_call 39; refine (cnone_yes _ _ HH.out).mono ?_; rintro e w' ⟨rfl, rfl⟩)
  go_ret
  exact ⟨rfl, rfl⟩
set_option maxHeartbeats 400000 in
theorem want_ok (h : CB w0 fx q v w) :
    Calls Try.prog 62 #[.pointer (some ⟨q.c, 0, none⟩)] w fun e w' => e = .returned (.int .u32 (wantV v)) ∧ w' = w := by
  have c14 := h.c 14 (.pointer (some ⟨q.h, 0, none⟩)) (fun _ => rfl)
  have c15 := h.c 15 (.bool v.eof) (fun _ => rfl)
  have e1 : IntKind.u32.wrap (v.nx + 1) = (v.nx + 1) % 4294967296 := IntKind.wrap_u32 _
  have HH := Lib.hid h
  unfold wantV
  clear h
  go_enter Try.func62, Try.ntmps62
  cases hb : v.eof with
  | true =>
    rw [hb] at c15
    go_wp2_with (go_at_call 85; refine HH.out.rNext.mono ?_; rintro e w' ⟨rfl, rfl⟩)
    go_ret
    exact ⟨rfl, rfl⟩
  | false =>
    rw [hb] at c15
    go_wp2_with (go_at_call 85; refine HH.out.rNext.mono ?_; rintro e w' ⟨rfl, rfl⟩)
    go_ret
    exact ⟨rfl, rfl⟩
theorem sgE_one (f : Sg) : ∀ u ∈ sgE f, u.oneCell' = true := by
  intro u hu
  simp only [sgE, sgC, List.mem_cons, List.not_mem_nil, or_false] at hu
  rcases hu with rfl | rfl | rfl | rfl | rfl | rfl | rfl | rfl <;> rfl
theorem info_sg : ∃ i z, Try.prog.info? 28 = some i ∧ i.zero = some z ∧ i.size = 8 ∧ i.bytes = 64 ∧ z.cells.size = 8 := by
  have h : (Try.prog.info? 28).map (fun i => (i.zero.map (fun z => z.cells.size), i.size, i.bytes)) = some (some 8, 8, 64) := by kernel_rfl
  cases hi : Try.prog.info? 28 with
  | none => rw [hi] at h; cases h
  | some i =>
    rw [hi] at h
    simp only [Option.map_some, Option.some.injEq, Prod.mk.injEq] at h
    obtain ⟨h1, h2, h3⟩ := h
    cases hz : i.zero with
    | none => rw [hz] at h1; cases h1
    | some z => rw [hz] at h1; exact ⟨i, z, rfl, hz, h2, h3, by simpa using h1⟩
/-- Its slice of what was sent is appended to, and stored anew. -/
theorem CB.app {sl sl' : Value} {w1 w2 : World} (h : CB w0 fx q v w) (m : CnM w q sl v) (hsl : ∀ j, sl.ownBlock = some j → w0.heap.size ≤ j ∧ ∀ x ∈ fx, x.1 ≠ j) (k : Below w.heap.size w w1) (f : Sg) (hg : w1.grownBy w2 sl.ownBlock) (hr : RowA 8 sgE 28 w2 sl' (v.sent ++ [f])) (hb : sl'.ownBlock = sl.ownBlock ∨ sl'.ownBlock = some w1.heap.size) :
    w2.cell? ⟨q.c, 26, none⟩ = some sl ∧ w2.frozen? ⟨q.c, 26, none⟩ = false ∧ CB w0 fx q { v with sent := v.sent ++ [f] } (w2.setCell ⟨q.c, 26, none⟩ sl') := by
  obtain ⟨⟨a1, a2, a3, a4, a5⟩, _, _, _, _, a6⟩ := m.ap
  have t1 : Turn w w2 (fun j => sl.ownBlock = some j) := (Turn.of_below k).trans (Turn.of_grown hg (fun j e => e))
  have l := m.lts
  have kk : ∀ j, q.own j → w2.heap[j]? = w.heap[j]? := fun j hj => t1.block j (l j (.inl hj)) (fun e => a6 j e hj)
  have hc := (kk _ (.inl rfl)).trans m.at_
  have kc : ∀ j, j ≠ q.c → (w2.setCell ⟨q.c, 26, none⟩ sl').heap[j]? = w2.heap[j]? := fun j hj => Below.heap_setCell _ _ _ _ (by show j ≠ q.c; exact hj)
  have hb2 : ∀ j, sl'.ownBlock = some j → sl.ownBlock = some j ∨ w.heap.size ≤ j := fun j hj => by
    rcases hb with e | e
    · exact .inl (e ▸ hj)
    · rw [e] at hj
      injection hj with hj
      have := k.size
      exact .inr (by omega)
  refine ⟨by rw [cell_of_block hc]; rfl, by simp [World.frozen?, hc], h.turn m hsl (sl' := sl') ⟨?_, ?_, ?_, ?_, ?_⟩ hb2 ⟨h.ok.ck, h.ok.m1, h.ok.m2, h.ok.w1, h.ok.w2⟩ ((t1.mono (fun j _ e => .inr e)).setCell (.inl (.inl rfl)) 26 sl')⟩
  · exact set_cellsB hc sl' (by show 26 < 28; decide)
  · exact m.out.kept (fun j hj => by
      rcases hj with rfl | rfl
      · exact (kc _ (fun e => a1 e.symm)).trans (kk _ (.inr (.inl rfl)))
      · exact (kc _ (fun e => a2 e.symm)).trans (kk _ (.inr (.inr (.inl rfl)))))
  · exact m.inn.kept (fun j hj => by
      rcases hj with rfl | rfl
      · exact (kc _ (fun e => a3 e.symm)).trans (kk _ (.inr (.inr (.inr (.inl rfl)))))
      · exact (kc _ (fun e => a4 e.symm)).trans (kk _ (.inr (.inr (.inr (.inr (.inl rfl)))))))
  · exact (kc _ (fun e => a5 e.symm)).trans ((kk _ (.inr (.inr (.inr (.inr (.inr rfl)))))).trans m.ck)
  · refine hr.kept (by simp [World.setCell]) (fun b hb => kc b (fun e => ?_))
    rcases hb2 b hb with e2 | e2
    · exact a6 b e2 (.inl e)
    · have := l q.c (.inl (.inl rfl)); omega
theorem step_append_sg {ops : Array Oper} {o : Oper} {a : Act} {w : World} {K : Act → World → Prop} {Q : Exit → Act → World → Prop} {E : Prop}
    (hg : o.guard = none) (s x : Operand) (hop : o.op = Op.call { callee := Callee.builtin Builtin.append, args := #[s, x], argTypes := #[33, 33] })
    (v : Value) (l : List Sg) (hs : a.eval s = v) (hown : RowA 8 sgE 28 w v l) (hl : l.length ≤ 100000000) (ad : Addr) (c : Nat) (y : Sg) (hx : a.eval x = .slice (some ad) 1 c) (hc : ∀ j u, (sgE y)[j]? = some u → w.cell? (ad.add j) = some u)
    (hK : ∀ v' w', RowA 8 sgE 28 w' v' (l ++ [y]) → w.grownBy w' v.ownBlock → (v'.ownBlock = v.ownBlock ∨ v'.ownBlock = some w.heap.size) → K (a.put o.dst v') w') :
    if Region.wanted o (yielded ops a.tmps) = true then Oper.wp Try.prog o a w K Q else E := by
  have hw : Region.wanted o (yielded ops a.tmps) = true := by simp [Region.wanted, hg]
  rw [if_pos hw]
  obtain ⟨i, z, h1, h2, h3, h4, h5⟩ := info_sg
  obtain ⟨v', w', hr, g1, g2, g3⟩ := run_append_A (P := Try.prog) (w := w) sgE_len sgE_one (by decide) 33 28 i z 64 o.type Try.underlying33 h1 h2 h3 h4 (by decide) h5 v l hown hl ad c y hc
  unfold Oper.wp
  simp only [execOp, hop, resolve, invoke, builtin, Sem.run_bind, Sem.run_pure, Result.andThen_ok, List.map_toArray, List.map_cons, List.map_nil, hs, hx, hr]
  exact hK v' w' g1 g2 g3
theorem sgC_new (w : World) (y : Sg) : ∀ (j : Nat) (u : Value), (sgE y)[j]? = some u → (w.alloc (.cells (sgC y) 28)).cell? ((⟨w.heap.size, 0, none⟩ : Addr).add j) = some u := by
  intro j u hu
  rw [add_off, Nat.zero_add, cell_of_block (heap_alloc_new w _)]
  exact (List.getElem?_toArray (xs := sgE y)).trans hu
/-- A segment's box is written, a cell at a time. -/
theorem SgAt.set {w : World} {n : Nat} {f : Sg} (h : SgAt w n f) (i : Nat) (hi : i < 8) (x : Value) (f' : Sg) (he : (sgC f).setIfInBounds i x = sgC f') : SgAt (w.setCell ⟨n, i, none⟩ x) n f' := by
  unfold SgAt
  rw [← he]
  exact set_cellsB (show w.heap[n]? = some (.cells (sgC f) 28 (0, 0)) from h) x hi
set_option maxRecDepth 100000 in
set_option maxHeartbeats 2000000 in
theorem send_ok (h : CB w0 fx q v w) (s : Sg) (fl : Int) (hfl : bits .or .i64 s.fl 16 = fl) (hs : v.sent.length ≤ 100000000) :
    Calls Try.prog 60 #[.pointer (some ⟨q.c, 0, none⟩), .agg (sgC s)] w fun e w' => e = .returned (.tuple #[]) ∧ CB w0 fx q (sendV v s fl) w' := by
  have HH := Lib.hid h
  have HF := Lib.hid hfl
  have HS := Lib.hid hs
  clear h hfl hs
  go_enter Try.func60, Try.ntmps60
  go_upto_region 1 with fail
  have FA : Hid (SgAt (w.alloc (.cells (sgC s) 28)) w.heap.size s) := Lib.hid (sg_new w _ s rfl)
  have BL : Hid (Below w.heap.size w (w.alloc (.cells (sgC s) 28))) := Lib.hid ((Below.refl _ _).alloc (Nat.le_refl _) _)
  obtain ⟨n, hn⟩ : ∃ n, n = w.heap.size := ⟨_, rfl⟩
  rw [← hn] at FA
  have HN : Hid (w.heap.size ≤ n) := Lib.hid (by omega)
  generalize w.alloc _ = W1 at FA BL ⊢
  simp only [← hn]
  clear hn
  have H1 := Lib.hid (HH.out.grow BL.out)
  obtain ⟨b0, b1, b2, b3, b4, b5, b6, b7⟩ := FA.out.all
  have g0 := FA.out.free 0
  have g1 := FA.out.free 1
  have c0 := H1.out.c 0 (.int .i64 v.fr) (fun _ => rfl)
  have c1 := H1.out.c 1 (.int .i64 v.dt) (fun _ => rfl)
  go_region
  have FB : Hid (SgAt ((W1.setCell ⟨n, 0, none⟩ (.int .i64 v.fr)).setCell ⟨n, 1, none⟩ (.int .i64 v.dt)).drew n ⟨v.fr, v.dt, s.sq, s.ak, s.fl, s.wi, s.ms, s.da⟩) := Lib.hid ((FA.out.set 0 (by decide) _ ⟨v.fr, s.dt, s.sq, s.ak, s.fl, s.wi, s.ms, s.da⟩ rfl).set 1 (by decide) _ ⟨v.fr, v.dt, s.sq, s.ak, s.fl, s.wi, s.ms, s.da⟩ rfl)
  have BM : Hid (Below w.heap.size w ((W1.setCell ⟨n, 0, none⟩ (.int .i64 v.fr)).setCell ⟨n, 1, none⟩ (.int .i64 v.dt)).drew) := Lib.hid (((BL.out.setCell (by show w.heap.size ≤ n; exact HN.out) _).setCell (by show w.heap.size ≤ n; exact HN.out) _).drew)
  generalize World.drew _ = W2 at FB BM ⊢
  clear FA BL H1 b0 b1 b2 b3 b4 b5 b6 b7 g0 g1 c0 c1 W1
  obtain ⟨b0, b1, b2, b3, b4, b5, b6, b7⟩ := FB.out.all
  have g4 := FB.out.free 4
  have hf := HF.out
  go_upto_region 3 with fail
  have FA : Hid (SgAt (W2.setCell ⟨n, 4, none⟩ (.int .i64 fl)) n ⟨v.fr, v.dt, s.sq, s.ak, fl, s.wi, s.ms, s.da⟩) := Lib.hid (FB.out.set 4 (by decide) _ ⟨v.fr, v.dt, s.sq, s.ak, fl, s.wi, s.ms, s.da⟩ rfl)
  have BL : Hid (Below w.heap.size w (W2.setCell ⟨n, 4, none⟩ (.int .i64 fl))) := Lib.hid (BM.out.setCell (by show w.heap.size ≤ n; exact HN.out) _)
  generalize World.setCell _ _ _ = W3 at FA BL ⊢
  clear FB BM b0 b1 b2 b3 b4 b5 b6 b7 g4 hf W2
  have H3 := Lib.hid (HH.out.grow BL.out)
  have g3 := FA.out.free 3
  have b3 := FA.out.ak
  go_upto_region 4 with (go_at_call 62; refine (want_ok H3.out).mono ?_; rintro e W3 ⟨rfl, rfl⟩)
  have FB : Hid (SgAt (W3.setCell ⟨n, 3, none⟩ (.int .u32 (wantV v))) n ⟨v.fr, v.dt, s.sq, wantV v, fl, s.wi, s.ms, s.da⟩) := Lib.hid (FA.out.set 3 (by decide) _ ⟨v.fr, v.dt, s.sq, wantV v, fl, s.wi, s.ms, s.da⟩ rfl)
  have BM : Hid (Below w.heap.size w (W3.setCell ⟨n, 3, none⟩ (.int .u32 (wantV v)))) := Lib.hid (BL.out.setCell (by show w.heap.size ≤ n; exact HN.out) _)
  generalize World.setCell _ _ _ = W4 at FB BM ⊢
  clear FA BL H3 g3 b3 W3
  have H4 := Lib.hid (HH.out.grow BM.out)
  have c14 := H4.out.c 14 (.pointer (some ⟨q.h, 0, none⟩)) (fun _ => rfl)
  go_wp2_with fail
  refine H4.out.rWindow.mono ?_
  rintro e W5 ⟨rfl, dr⟩
  have FA : Hid (SgAt W5 n ⟨v.fr, v.dt, s.sq, wantV v, fl, s.wi, s.ms, s.da⟩) := Lib.hid (FB.out.grow dr.below)
  have BL : Hid (Below w.heap.size w W5) := Lib.hid (BM.out.trans (dr.below.mono BM.out.size))
  clear dr H4 FB BM c14 
  have g5 := FA.out.free 5
  have b5 := FA.out.wi
  go_upto_region 5 with fail
  have FB : Hid (SgAt (W5.setCell ⟨n, 5, none⟩ (.int .i64 v.W.length)) n (sgTo v s fl)) := Lib.hid (FA.out.set 5 (by decide) _ (sgTo v s fl) rfl)
  have BM : Hid (Below w.heap.size w (W5.setCell ⟨n, 5, none⟩ (.int .i64 v.W.length))) := Lib.hid (BL.out.setCell (by show w.heap.size ≤ n; exact HN.out) _)
  generalize World.setCell _ _ _ = W6 at FB BM ⊢
  clear FA BL g5 b5 W5 W4
  have H6 := Lib.hid (HH.out.keepBehind BM.out FB.out HN.out)
  have b5 : W6.cell? ⟨n, 5, none⟩ = some (.int .i64 v.W.length) := FB.out.wi
  have c16 := H6.out.c 16 (.int .i64 v.told) (fun _ => rfl)
  have f16 := H6.out.f 16
  go_upto_region 6 with fail
  have H7 := Lib.hid (H6.out.set 16 (.int .i64 v.W.length) { v with told := v.W.length } (by decide) (fun _ => rfl))
  generalize World.setCell _ _ _ = W7 at H7 ⊢
  clear b5 c16 f16 H6 FB BM W6
  have FB : Hid (SgAt W7 n (sgTo v s fl)) := Lib.hid H7.out.hd
  generalize hx : sgTo v s fl = x at FB H7
  have HX := Lib.hid hx
  clear hx
  obtain ⟨b0, b1, b2, b3, b4, b5, b6, b7⟩ := FB.out.all
  obtain ⟨sl, m, hsl⟩ := H7.out.ex
  have c26 := H7.out.c
  obtain ⟨p, c, rfl⟩ := m.row.shape
  have M := Lib.hid m
  have SL := Lib.hid hsl
  have c26 : W7.cell? ⟨q.c, 26, none⟩ = some (.slice p v.sent.length c) := by rw [cell_of_block M.out.at_]; rfl
  clear m hsl
  have BA : Hid (Below W7.heap.size W7 ((W7.alloc (.cells #[.int .i64 x.fr, .int .i64 x.dt, .int .u32 x.sq, .int .u32 x.ak, .int .i64 x.fl, .int .i64 x.wi, .int .i64 x.ms, .string x.da] 28)).drew)) := Lib.hid (((Below.refl _ _).alloc (Nat.le_refl _) _).drew)
  have HRW : Hid (RowA 8 sgE 28 ((W7.alloc (.cells #[.int .i64 x.fr, .int .i64 x.dt, .int .u32 x.sq, .int .u32 x.ak, .int .i64 x.fl, .int .i64 x.wi, .int .i64 x.ms, .string x.da] 28)).drew) (.slice p v.sent.length c) v.sent) := Lib.hid (M.out.row.kept BA.out.size (fun b hb => BA.out.block _ (M.out.lts b (.inr hb))))
  have HNW : Hid (∀ (j : Nat) (u : Value), (sgE x)[j]? = some u → ((W7.alloc (.cells #[.int .i64 x.fr, .int .i64 x.dt, .int .u32 x.sq, .int .u32 x.ak, .int .i64 x.fl, .int .i64 x.wi, .int .i64 x.ms, .string x.da] 28)).drew).cell? ((⟨W7.heap.size, 0, none⟩ : Addr).add j) = some u) := Lib.hid (sgC_new W7.drew x)
  have hl := HS.out
  have c26b : (W7.alloc (.cells #[.int .i64 x.fr, .int .i64 x.dt, .int .u32 x.sq, .int .u32 x.ak, .int .i64 x.fl, .int .i64 x.wi, .int .i64 x.ms, .string x.da] 28)).cell? ⟨q.c, 26, none⟩ = some (.slice p v.sent.length c) := (((Below.refl W7.heap.size W7).alloc (Nat.le_refl _) _).cell (p := ⟨q.c, 26, none⟩) H7.out.lt).trans c26
  go_region_law (refine step_append_sg rfl (.tmp 36) (.tmp 38) rfl (.slice p v.sent.length c) v.sent rfl HRW.out hl ⟨W7.heap.size, 0, none⟩ 1 x rfl HNW.out ?_; intro v' w2 hrow hgr hbl; obtain ⟨p', c', hv'⟩ := RowA.shape hrow; subst hv'; have A1 := CB.app H7.out M.out SL.out BA.out x hgr hrow hbl; have k1 := A1.1; have k2 := A1.2.1; have A2 := Lib.hid A1.2.2; clear A1 hrow hgr hbl)
  all_goals
    go_wp2_with fail
    go_end0
    have A3 := A2.out
    have hx := HX.out
    subst hx
    simp only [List.length_append, List.length_cons, List.length_nil, Nat.zero_add] at A3
    exact ⟨rfl, A3.let_⟩
end
end Go.Proofs.Ytlajalfalepbhaa
