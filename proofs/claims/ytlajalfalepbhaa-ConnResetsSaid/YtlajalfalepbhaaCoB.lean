/-
  Layer 15: the statements' own comparison at one segment each, their first segment, their way of waiting; awake. Conditions: as said.
-/
import Derived.Test.YtlajalfalepbhaaCoA
namespace Go.Proofs.Ytlajalfalepbhaa
open Go.RowKit
set_option linter.unusedVariables false

/-- A slice of one segment. -/
def OneAt (w : World) (v : Value) (x : Sg) : Prop := ∃ b c, v = .slice (some ⟨b, 0, none⟩) 1 c ∧ (∀ i u, (sgE x)[i]? = some u → w.cell? ⟨b, i, none⟩ = some u) ∧ b < w.heap.size
theorem OneAt.grow {w w' : World} {v : Value} {x : Sg} (h : OneAt w v x) (k : Below w.heap.size w w') : OneAt w' v x := by
  obtain ⟨b, c, rfl, hc, hb⟩ := h
  exact ⟨b, c, rfl, fun i u hu => (k.cell (p := ⟨b, i, none⟩) hb).trans (hc i u hu), Nat.lt_of_lt_of_le hb k.size⟩
theorem OneAt.row {w : World} {v : Value} {x : Sg} (h : RowA 8 sgE 28 w v [x]) : OneAt w v x := by
  obtain ⟨b, cap, rfl, _, _, hb, _, hr⟩ := h.elem sgE_len (by show 0 < 1; decide)
  refine ⟨b, cap, rfl, fun i u hu => ?_, hb⟩
  have := hr 0 (by show 0 < 1; decide) i u hu
  rw [Nat.zero_mul, Nat.zero_add] at this
  exact this
theorem OneAt.new (w : World) (x : Sg) (n : Nat) (hn : n = w.heap.size) : OneAt (w.alloc (.cells (sgC x) 28)) (.slice (some ⟨n, 0, none⟩) 1 1) x := by
  subst hn
  refine ⟨_, _, rfl, fun i u hu => ?_, by simp⟩
  have := sgC_new w x i u hu
  rw [add_off, Nat.zero_add] at this
  exact this
set_option maxRecDepth 100000 in
set_option maxHeartbeats 2000000 in
theorem same_one {w : World} {v1 v2 : Value} {x : Sg} (h1 : OneAt w v1 x) (h2 : OneAt w v2 x) (ho : x.ok) :
    Calls Try.prog 19 #[v1, v2] w fun e w' => e = .returned (.bool true) ∧ Dr w w' := by
  obtain ⟨b1, c1, rfl, k1, l1⟩ := h1
  obtain ⟨b2, c2, rfl, k2, l2⟩ := h2
  have hq : ∀ w, (Op.equalIn 10000 28 (.agg #[.int .i64 x.fr, .int .i64 x.dt, .int .u32 x.sq, .int .u32 x.ak, .int .i64 x.fl, .int .i64 x.wi, .int .i64 x.ms, .string x.da]) (.agg #[.int .i64 x.fr, .int .i64 x.dt, .int .u32 x.sq, .int .u32 x.ak, .int .i64 x.fl, .int .i64 x.wi, .int .i64 x.ms, .string x.da])).run Try.prog w = .ok true w := fun w => eqls x x ho ho true (by simp) w
  have K1 := Lib.hid k1
  have K2 := Lib.hid k2
  clear k1 k2 ho
  go_enter Try.func19, Try.ntmps19
  go_wp2_with fail
  go_loopw [5] (fun iv wr => ∃ k : Nat, k ≤ 1 ∧ iv = .int .i64 k ∧ Hid (Dr w wr)) (fun iv _ => 1 - (intOf iv).toNat)
  case atStart => exact ⟨0, by decide, rfl, Lib.hid (Dr.refl w)⟩
  case round =>
    obtain ⟨k, hk, rfl, D0⟩ := hrel
    by_cases h0 : k = 0
    · subst h0
      obtain ⟨m, hm⟩ := D0.out
      have a : ∀ b i u, w.cell? ⟨b, i, none⟩ = some u → wr.cell? ⟨b, i, none⟩ = some u := fun b i u h => by rw [hm]; exact h
      have a0 := a _ _ _ (K1.out 0 _ rfl)
      have a1 := a _ _ _ (K1.out 1 _ rfl)
      have a2 := a _ _ _ (K1.out 2 _ rfl)
      have a3 := a _ _ _ (K1.out 3 _ rfl)
      have a4 := a _ _ _ (K1.out 4 _ rfl)
      have a5 := a _ _ _ (K1.out 5 _ rfl)
      have a6 := a _ _ _ (K1.out 6 _ rfl)
      have a7 := a _ _ _ (K1.out 7 _ rfl)
      have z0 := a _ _ _ (K2.out 0 _ rfl)
      have z1 := a _ _ _ (K2.out 1 _ rfl)
      have z2 := a _ _ _ (K2.out 2 _ rfl)
      have z3 := a _ _ _ (K2.out 3 _ rfl)
      have z4 := a _ _ _ (K2.out 4 _ rfl)
      have z5 := a _ _ _ (K2.out 5 _ rfl)
      have z6 := a _ _ _ (K2.out 6 _ rfl)
      have z7 := a _ _ _ (K2.out 7 _ rfl)
      clear a hm
      go_wp2_with fail
      go_quiet (fail)
      have D1 : Hid (Dr w (wr.drewN nq)) := Lib.hid (D0.out.trans (drN _ _))
      go_wp2_with fail
      go_roundw
      case rel => exact ⟨1, by decide, rfl, D1⟩
      case measure => simp [intOf]
    · have h1 : k = 1 := by omega
      subst h1
      go_wp2_with fail
      go_ret
      exact ⟨rfl, D0.out⟩
theorem results_rowC {P : Program} (fn : Func) (a : Nat) (t : TypeId) (hf : fn.results = #[.cell a t]) (tm : Array Value) (n : Nat) (cs : Array Value) (d : TypeDesc) (w : World)
    (ha : tm[a]?.getD undef = .pointer (some ⟨n, 0, none⟩)) (hb : w.heap[n]? = some (.cells cs t (0, 0))) (hd : P.underlying t = some d) (hr : (match d with | .struct _ | .array _ _ => true | _ => false) = true) (hi : (P.info? t).map (·.size) = some cs.size) :
    (results fn tm).run P w = .ok (.agg cs) w := by
  have hl := run_loadVar_row (P := P) w n t t cs (0, 0) d hb hd hr hi
  unfold results
  rw [hf]
  simp [ha, asAddr, hl]

set_option maxHeartbeats 1000000 in
theorem synC (w : World) : Calls Try.prog 9 #[] w fun e w' => e = .returned (.agg (sgC exSyn)) ∧ Below w.heap.size w w' := by
  have BL := Lib.hid ((Below.refl w.heap.size w).alloc (Nat.le_refl _) (.cells (sgC exSyn) 28))
  have FA : Hid (SgAt (w.alloc (.cells (sgC exSyn) 28)) w.heap.size exSyn) := Lib.hid (sg_new w _ exSyn rfl)
  go_enter Try.func9, Try.ntmps9
  go_wp2_with fail
  exact bodyPost_ret (v := .agg (sgC exSyn)) (results_rowC _ 0 28 (by kernel_rfl) _ w.heap.size _ _ _ rfl FA.out Try.underlying28 rfl (by kernel_rfl)) rfl ⟨rfl, BL.out⟩
def exHow : Array Value := #[.int .i64 10, .int .i64 2, .int .i64 60, .int .i64 3, .int .i64 5]
set_option maxHeartbeats 1000000 in
theorem howC (w : World) : Calls Try.prog 10 #[] w fun e w' => e = .returned (.agg exHow) ∧ Below w.heap.size w w' := by
  have BL := Lib.hid ((Below.refl w.heap.size w).alloc (Nat.le_refl _) (.cells exHow 31))
  have FA : Hid ((w.alloc (.cells exHow 31)).heap[w.heap.size]? = some (.cells exHow 31 (0, 0))) := Lib.hid (heap_alloc_new _ _)
  go_enter Try.func10, Try.ntmps10
  go_wp2_with fail
  exact bodyPost_ret (v := .agg exHow) (results_rowC _ 0 31 (by kernel_rfl) _ w.heap.size _ _ _ rfl FA.out Try.underlying31 rfl (by kernel_rfl)) rfl ⟨rfl, BL.out⟩
section
variable {w0 w w' : World} {fx : List (Nat × Obj)} {q : Bq} {v v' : Cn}
set_option maxHeartbeats 1000000 in
theorem out_one (h : CB w0 fx q v w) {x : Sg} (hv : v.sent = [x]) :
    Calls Try.prog 11 #[.pointer (some ⟨q.c, 0, none⟩)] w fun e w' => ∃ (b c : Nat) (cur : Array Value), e = .returned (.slice (some ⟨b, 0, none⟩) 1 c) ∧ CB w0 ((b, .cells cur 28 (0, 0)) :: fx) q (outV v) w' ∧ (∀ (i : Nat) (u : Value), (sgE x)[i]? = some u → cur[i]? = some u) ∧ w0.heap.size ≤ b := by
  have HH := Lib.hid h
  have KN := Lib.hid (cnone_no h)
  obtain ⟨sl, m, hsl⟩ := h.ex
  have hl : v.sent.length = 1 := by rw [hv]; rfl
  obtain ⟨b, c, cur, rfl, hb, _, _, _, ht⟩ := m.row.block (by omega)
  have HB := Lib.hid hb
  have CUR : Hid (∀ (i : Nat) (u : Value), (sgE x)[i]? = some u → cur[i]? = some u) := Lib.hid (fun i u hu => by
    have e : cur.toList.take (v.sent.length * 8) = sgE x := by rw [ht, hv]; simp [encA]
    have h2 : (cur.toList.take (v.sent.length * 8))[i]? = some u := by rw [e]; exact hu
    rw [List.getElem?_take] at h2
    split at h2
    · rw [← Array.getElem?_toList]; exact h2
    · cases h2)
  have NB : Hid (w0.heap.size ≤ b) := Lib.hid (hsl b rfl).1
  rw [hl] at m hsl
  clear hb ht
  have M := Lib.hid m
  have SL := Lib.hid hsl
  have c26 : w.cell? ⟨q.c, 26, none⟩ = some (.slice (some ⟨b, 0, none⟩) 1 c) := by rw [cell_of_block m.at_]; rfl
  have f26 := h.f 26
  have A6 := Lib.hid m.ap.2.2.2.2.2
  have AP := Lib.hid m.ap
  clear h m hsl
  have HF : Hid (CB w0 ((b, .cells cur 28 (0, 0)) :: fx) q (outV v) (w.setCell ⟨q.c, 26, none⟩ (.slice none 0 0))) := Lib.hid (by
    obtain ⟨⟨a1, a2, a3, a4, a5⟩, _⟩ := AP.out
    have m := M.out
    have k : ∀ j, j ≠ q.c → (w.setCell ⟨q.c, 26, none⟩ (.slice none 0 0)).heap[j]? = w.heap[j]? := fun j hj => Below.heap_setCell _ _ _ _ (by show j ≠ q.c; exact hj)
    have C := HH.out.turn m SL.out (sl' := .slice none 0 0) (v' := outV v) (w' := w.setCell ⟨q.c, 26, none⟩ (.slice none 0 0)) ⟨set_cellsB m.at_ _ (by show 26 < 28; decide), m.out.kept (fun j hj => k j (by rcases hj with rfl | rfl; exact fun e => a1 e.symm; exact fun e => a2 e.symm)), m.inn.kept (fun j hj => k j (by rcases hj with rfl | rfl; exact fun e => a3 e.symm; exact fun e => a4 e.symm)), (k _ (fun e => a5 e.symm)).trans m.ck, ⟨rfl, .inl ⟨rfl, rfl⟩⟩⟩ (fun j hj => by cases hj) ⟨HH.out.ok.ck, HH.out.ok.m1, HH.out.ok.m2, HH.out.ok.w1, HH.out.ok.w2⟩ ((Turn.refl _ _).setCell (.inl (.inl rfl)) 26 _)
    refine ⟨⟨.slice none 0 0, ⟨set_cellsB m.at_ _ (by show 26 < 28; decide), m.out.kept (fun j hj => k j (by rcases hj with rfl | rfl; exact fun e => a1 e.symm; exact fun e => a2 e.symm)), m.inn.kept (fun j hj => k j (by rcases hj with rfl | rfl; exact fun e => a3 e.symm; exact fun e => a4 e.symm)), (k _ (fun e => a5 e.symm)).trans m.ck, ⟨rfl, .inl ⟨rfl, rfl⟩⟩⟩, fun j hj => by cases hj⟩, C.ok, C.bl, C.own, fun y hy => ?_⟩
    rcases List.mem_cons.1 hy with rfl | hy
    · exact ⟨(k _ (fun e => A6.out b rfl (.inl e))).trans HB.out, A6.out b rfl⟩
    · exact C.fx y hy)
  go_enter Try.func11, Try.ntmps11
  go_wp2_with fail
  refine KN.out.mono ?_
  rintro e w ⟨rfl, rfl⟩
  go_wp2_with fail
  go_ret
  exact ⟨b, c, cur, rfl, HF.out, CUR.out, NB.out⟩
/-- A kept slice of one segment. -/
theorem CB.one (h : CB w0 fx q v w) {b c : Nat} {cur : Array Value} {x : Sg} (hx : (b, Obj.cells cur 28 (0, 0)) ∈ fx) (hc : ∀ (i : Nat) (u : Value), (sgE x)[i]? = some u → cur[i]? = some u) : OneAt w (.slice (some ⟨b, 0, none⟩) 1 c) x :=
  ⟨b, c, rfl, fun i u hu => by rw [cell_of_block (h.fx _ hx).1]; exact hc i u hu, h.fxlt hx⟩
end
/-- Behind another world. -/
theorem CB.rebase {w0 w1 w : World} {fx : List (Nat × Obj)} {q : Bq} {v : Cn} (h : CB w1 fx q v w) (k : Below w0.heap.size w0 w1) : CB w0 fx q v w := by
  obtain ⟨sl, m, hs⟩ := h.ex
  exact ⟨⟨sl, m, fun j hj => ⟨Nat.le_trans k.size (hs j hj).1, (hs j hj).2⟩⟩, h.ok, k.trans (h.bl.mono k.size), fun j hj => Nat.le_trans k.size (h.own j hj), h.fx⟩
set_option maxRecDepth 100000 in
set_option maxHeartbeats 4000000 in
theorem awakeN (w : World) : Calls Try.prog 18 #[] w fun e w' => e = .returned (.bool true) ∧ Below w.heap.size w w' := by
  go_enter Try.func18, Try.ntmps18
  go_wp2_with fail
  refine (synC _).mono ?_
  rintro e w1 ⟨rfl, b1⟩
  go_wp2_with fail
  refine (howC _).mono ?_
  rintro e w2 ⟨rfl, b2⟩
  have B2 := Lib.hid (b1.trans (b2.mono b1.size))
  clear b1 b2
  go_wp2_with fail
  refine (new_ok w2 [] (fun x hx => by cases hx) exSyn 500 10 2 60 3 5 (by omega) (by kernel_rfl)).mono ?_
  rintro e w3 ⟨q, rfl, h⟩
  have H3 : Hid (CB w [] q exN w3) := Lib.hid (h.rebase B2.out)
  clear h
  rw [ex_n] at H3
  have KO := Lib.hid (out_one H3.out rfl)
  go_wp2_with fail
  refine KO.out.mono ?_
  rintro e w4 ⟨ba, ca, cua, rfl, h4, CA, -⟩
  have H4 : Hid (CB w _ q exA w4) := Lib.hid (by rw [ex_a]; exact h4)
  have KI := Lib.hid (in_ok H4.out exS1 exS_ok.2.1 (by decide) (by rw [ex_a]; decide))
  have HCA := Lib.hid CA
  clear h4 KO H3 CA
  go_wp2_with fail
  refine KI.out.mono ?_
  rintro e w5 ⟨rfl, h5⟩
  have H5 : Hid (CB w _ q exB w5) := Lib.hid h5
  have KI2 := Lib.hid (in_ok H5.out exS2 exS_ok.2.2 (by decide) (by rw [ex_b]; decide))
  clear h5 KI H4
  go_wp2_with fail
  refine KI2.out.mono ?_
  rintro e w6 ⟨rfl, h6⟩
  have H6 : Hid (CB w _ q exC w6) := Lib.hid h6
  rw [ex_c] at H6
  clear h6 KI2 H5
  have KO := Lib.hid (out_one H6.out rfl)
  go_wp2_with fail
  refine KO.out.mono ?_
  rintro e w7 ⟨bb, cb, cub, rfl, h7, CB_, -⟩
  have H7 := Lib.hid h7
  have HCB := Lib.hid CB_
  clear h7 KO H6 CB_
  have H8 := Lib.hid (H7.out.alloc (.cells (sgC ⟨10, 9, 500, 101, 18, 2048, 536, ⟨#[]⟩⟩) 28))
  have A8 := Lib.hid (H8.out.one (c := ca) (List.mem_cons_of_mem _ (List.mem_cons_self ..)) HCA.out)
  have N8 := Lib.hid (OneAt.new w7 ⟨10, 9, 500, 101, 18, 2048, 536, ⟨#[]⟩⟩ _ rfl)
  go_wp2_with fail
  refine (same_one A8.out N8.out (by refine ⟨?_, ?_, ?_, ?_, ?_, ?_, ?_, ?_⟩ <;> decide)).mono ?_
  rintro e w8 ⟨rfl, d8⟩
  have H9 := Lib.hid (H8.out.of_drew d8)
  clear d8 H7 H8 A8 N8 HCA
  have H8 := Lib.hid (H9.out.alloc (.cells (sgC ⟨10, 9, 501, 103, 16, 2046, 0, ⟨#[]⟩⟩) 28))
  have A8 := Lib.hid (H8.out.one (c := cb) (List.mem_cons_self ..) HCB.out)
  have N8 := Lib.hid (OneAt.new w8 ⟨10, 9, 501, 103, 16, 2046, 0, ⟨#[]⟩⟩ _ rfl)
  go_wp2_with fail
  refine (same_one A8.out N8.out (by refine ⟨?_, ?_, ?_, ?_, ?_, ?_, ?_, ?_⟩ <;> decide)).mono ?_
  rintro e w9 ⟨rfl, d8⟩
  have HA := Lib.hid (H8.out.of_drew d8)
  clear d8 H9 H8 A8 N8 HCB
  have KS : Hid (Calls Try.prog 12 #[.pointer (some ⟨q.c, 0, none⟩)] w9 fun e w' => e = .returned (.int .i64 2) ∧ w' = w9) := Lib.hid (state_ok HA.out)
  go_wp2_with fail
  refine KS.out.mono ?_
  rintro e w9 ⟨rfl, rfl⟩
  have KR : Hid (Calls Try.prog 14 #[.pointer (some ⟨q.c, 0, none⟩), .int .i64 9] w9 fun e w' => e = .returned (.string ⟨#[104, 105]⟩) ∧ CB w _ q _ w') := Lib.hid (read_ok HA.out 9 (by show 0 ≤ 99990000; decide))
  go_wp2_with fail
  refine KR.out.mono ?_
  rintro e wa ⟨rfl, ha⟩
  have HB := Lib.hid ha.bl
  clear ha KR KS HA
  go_wp2_with fail
  go_ret
  exact ⟨rfl, HB.out⟩
end Go.Proofs.Ytlajalfalepbhaa
