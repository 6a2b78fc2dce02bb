/-
  Layer 15: a segment that comes: whether it may count, a reset, what was never sent, the beginning, the window. Conditions: as said.
-/
import Derived.Test.YtlajalfalepbhaaCnJ
namespace Go.Proofs.Ytlajalfalepbhaa
open Go.RowKit
set_option linter.unusedVariables false

section
variable {w0 w w' : World} {fx : List (Nat × Obj)} {q : Bq} {v v' : Cn}
set_option maxRecDepth 100000 in
set_option maxHeartbeats 1000000 in
theorem never_ok (h : CB w0 fx q v w) (a : Int) :
    Calls Try.prog 45 #[.pointer (some ⟨q.c, 0, none⟩), .int .u32 a] w fun e w' => e = .returned (.bool (neverV v a)) ∧ w' = w := by
  have c5 := h.c 5 (.int .u32 v.una) (fun _ => rfl)
  have c7 := h.c 7 (.int .u32 v.top) (fun _ => rfl)
  have kL := Lib.hid (less_any w a v.una)
  have kT := Lib.hid (less_any w v.top a)
  unfold neverV
  generalize lessN a v.una = b at kL ⊢
  generalize lessN v.top a = d at kT ⊢
  clear h
  go_enter Try.func45, Try.ntmps45
  go_wp2_with fail
  refine kL.out.mono ?_
  rintro e w ⟨rfl, rfl⟩
  cases b with
  | true =>
    go_wp2_with fail
    go_ret
    exact ⟨rfl, rfl⟩
  | false =>
    go_wp2_with fail
    refine kT.out.mono ?_
    rintro e w ⟨rfl, rfl⟩
    go_wp2_with fail
    go_ret
    exact ⟨rfl, rfl⟩
/-- The numbers of the segment that told the window. -/
theorem CB.setT (h : CB w0 fx q v w) (x y : Int) : CB w0 fx q { v with tsq := x, tak := y } ((w.setCell ⟨q.c, 12, none⟩ (.int .u32 x)).setCell ⟨q.c, 13, none⟩ (.int .u32 y)) :=
  (h.set 12 (.int .u32 x) { v with tsq := x } (by decide) (fun _ => rfl)).set 13 (.int .u32 y) { v with tsq := x, tak := y } (by decide) (fun _ => rfl)
theorem sg_i64 {n : Int} (h : (Lit.int .i64 n).wf = true) : -9223372036854775808 ≤ n ∧ n ≤ 9223372036854775807 := by
  have : -9223372036854775808 ≤ n ∧ n ≤ 9223372036854775807 := by simpa [Lit.wf, IntKind.min, IntKind.max, IntKind.signed, IntKind.bits] using h
  exact this
set_option maxRecDepth 100000 in
set_option maxHeartbeats 1000000 in
theorem open_ok (h : CB w0 fx q v w) (s : Sg) (so : s.ok) :
    Calls Try.prog 64 #[.pointer (some ⟨q.c, 0, none⟩), .agg (sgC s)] w fun e w' => e = .returned (.tuple #[]) ∧ CB w0 fx q (openV v s) w' := by
  have WI := Lib.hid (sg_i64 so.2.2.2.2.2.1)
  have HH := Lib.hid h
  clear h so
  go_enter Try.func64, Try.ntmps64
  go_upto_region 1 with fail
  have FA : Hid (SgAt (w.alloc (.cells (sgC s) 28)) w.heap.size s) := Lib.hid (sg_new w _ s rfl)
  have BL : Hid (Below w.heap.size w (w.alloc (.cells (sgC s) 28))) := Lib.hid ((Below.refl _ _).alloc (Nat.le_refl _) _)
  have H1 := Lib.hid (HH.out.keepBehind BL.out FA.out (Nat.le_refl _))
  have n1 : ¬ w.heap.size = q.c := by have := HH.out.lt; omega
  have n2 : ¬ q.c = w.heap.size := by have := HH.out.lt; omega
  generalize w.alloc _ = W1 at H1 ⊢
  generalize w.heap.size = n at H1 n1 n2 ⊢
  clear FA BL HH
  obtain ⟨b0, b1, b2, b3, b4, b5, b6, b7⟩ := SgAt.all (show SgAt W1 n s from H1.out.hd)
  have c2 := H1.out.c 2 (.int .i64 v.st) (fun _ => rfl)
  have f2 := H1.out.f 2
  have c9 := H1.out.c 9 (.bool v.cl) (fun _ => rfl)
  have H2 : Hid (CB w0 ((n, .cells (sgC s) 28) :: fx) q { v with st := 2 } (W1.setCell ⟨q.c, 2, none⟩ (.int .i64 2))) := Lib.hid (H1.out.set 2 (.int .i64 2) { v with st := 2 } (by decide) (fun _ => rfl))
  go_upto_region 2 with fail
  generalize World.setCell _ _ _ = W2 at H2 ⊢
  clear c2 f2 c9 H1 b0 b1 b2 b3 b4 b5 b6 b7
  obtain ⟨b0, b1, b2, b3, b4, b5, b6, b7⟩ := SgAt.all (show SgAt W2 n s from H2.out.hd)
  have c2 := H2.out.c 2 (.int .i64 2) (fun _ => rfl)
  have f2 := H2.out.f 2
  have c9 := H2.out.c 9 (.bool v.cl) (fun _ => rfl)
  have c11 := H2.out.c 11 (.int .i64 v.win) (fun _ => rfl)
  have f11 := H2.out.f 11
  have c12 := H2.out.c 12 (.int .u32 v.tsq) (fun _ => rfl)
  have f12 := H2.out.f 12
  have c13 := H2.out.c 13 (.int .u32 v.tak) (fun _ => rfl)
  have f13 := H2.out.f 13
  cases hc : v.cl with
  | true =>
    have HV : Hid (openV v s = { v with st := 3, win := s.wi, tsq := s.sq, tak := s.ak }) := Lib.hid (by unfold openV; rw [if_pos hc])
    have H3 := Lib.hid ((((H2.out.set 2 (.int .i64 3) { v with st := 3 } (by decide) (fun _ => rfl)).set 11 (.int .i64 s.wi) { v with st := 3, win := s.wi } (by decide) (fun _ => rfl) (e9 := .inr WI.out)).setT s.sq s.ak).let_)
    rw [hc] at c9
    clear H2 hc
    go_wp2_with fail
    go_end0
    rw [HV.out]
    exact ⟨rfl, H3.out⟩
  | false =>
    have HV : Hid (openV v s = { v with st := 2, win := s.wi, tsq := s.sq, tak := s.ak }) := Lib.hid (by unfold openV; rw [if_neg (by rw [hc]; decide)])
    have H3 := Lib.hid (((H2.out.set 11 (.int .i64 s.wi) { v with st := 2, win := s.wi } (by decide) (fun _ => rfl) (e9 := .inr WI.out)).setT s.sq s.ak).let_)
    rw [hc] at c9
    clear H2 hc
    go_wp2_with fail
    go_end0
    rw [HV.out]
    exact ⟨rfl, H3.out⟩
set_option maxRecDepth 100000 in
set_option maxHeartbeats 1000000 in
theorem takeRst_ok (h : CB w0 fx q v w) (s : Sg) (hs : v.sent.length ≤ 100000000) :
    Calls Try.prog 43 #[.pointer (some ⟨q.c, 0, none⟩), .agg (sgC s)] w fun e w' => e = .returned (.tuple #[]) ∧ CB w0 fx q (takeRstV v s) w' := by
  have HS := Lib.hid hs
  have HH := Lib.hid h
  clear h hs
  go_enter Try.func43, Try.ntmps43
  go_upto_region 1 with fail
  have FA : Hid (SgAt (w.alloc (.cells (sgC s) 28)) w.heap.size s) := Lib.hid (sg_new w _ s rfl)
  have H1 := Lib.hid (HH.out.alloc (.cells (sgC s) 28))
  generalize w.alloc _ = W1 at FA H1 ⊢
  generalize w.heap.size = n at FA ⊢
  have b2 := FA.out.sq
  have kW : Hid (∀ k, Calls Try.prog 62 #[.pointer (some ⟨q.c, 0, none⟩)] (W1.drewN k) fun e w' => e = .returned (.int .u32 (wantV v)) ∧ w' = W1.drewN k) := Lib.hid (fun k => want_ok (H1.out.drewN k))
  by_cases he : s.sq = wantV v
  · have HV : Hid (takeRstV v s = { v with st := 9, rs := true }) := Lib.hid (by unfold takeRstV; rw [if_pos he])
    have g : (s.sq == wantV v) = true := by rw [he]; simp
    clear he HH
    go_quiet (first | (go_at_call 62; exact Calls.quiet_of_same (kW.out _)))
    have H2 := Lib.hid (H1.out.drewN nq)
    generalize W1.drewN nq = W2 at H2 ⊢
    clear H1 b2 FA kW
    have c2 := H2.out.c 2 (.int .i64 v.st) (fun _ => rfl)
    have f2 := H2.out.f 2
    have c3 := H2.out.c 3 (.bool v.rs) (fun _ => rfl)
    have f3 := H2.out.f 3
    have H3 := Lib.hid ((H2.out.set 2 (.int .i64 9) { v with st := 9 } (by decide) (fun _ => rfl)).set 3 (.bool true) { v with st := 9, rs := true } (by decide) (fun _ => rfl))
    go_wp2_with fail
    go_end0
    rw [HV.out]
    exact ⟨rfl, H3.out⟩
  · have HV : Hid (takeRstV v s = ackV v) := Lib.hid (by unfold takeRstV; rw [if_neg he])
    have g : (s.sq == wantV v) = false := beq_eq_false_iff_ne.2 he
    clear he HH
    go_quiet (first | (go_at_call 62; exact Calls.quiet_of_same (kW.out _)))
    have H2 := Lib.hid (H1.out.drewN nq)
    generalize W1.drewN nq = W2 at H2 ⊢
    clear H1 b2 FA kW
    have KA := Lib.hid (ack_ok H2.out HS.out)
    go_wp2_with fail
    refine KA.out.mono ?_
    rintro e W3 ⟨rfl, h3⟩
    have H3 := Lib.hid h3
    clear h3
    go_wp2_with fail
    exact bodyPost_ret (v := .tuple #[]) (results_none rfl _ _ _) rfl (by rw [HV.out]; exact ⟨rfl, H3.out⟩)
end
end Go.Proofs.Ytlajalfalepbhaa
