/-
  Layer 15: who receives; the Fin is acknowledged, the other one's is here; whether a segment tells the window, and the window that it tells. Conditions: as said.
-/
import Derived.Test.YtlajalfalepbhaaCnM
namespace Go.Proofs.Ytlajalfalepbhaa
open Go.RowKit
set_option linter.unusedVariables false

section
variable {w0 w w' : World} {fx : List (Nat × Obj)} {q : Bq} {v v' : Cn}
set_option maxHeartbeats 1000000 in
theorem receives_ok (h : CB w0 fx q v w) :
    Calls Try.prog 48 #[.pointer (some ⟨q.c, 0, none⟩)] w fun e w' => e = .returned (.bool (receivesV v)) ∧ w' = w := by
  have c2 := h.c 2 (.int .i64 v.st) (fun _ => rfl)
  unfold receivesV
  generalize v.st = x at c2 ⊢
  clear h
  by_cases h2 : x = 2
  · subst h2
    go_enter Try.func48, Try.ntmps48
    go_wp2
    go_ret
    exact ⟨rfl, rfl⟩
  have d2 : (x == 2) = false := beq_eq_false_iff_ne.2 h2
  by_cases h3 : x = 3
  · subst h3
    go_enter Try.func48, Try.ntmps48
    go_wp2
    go_ret
    exact ⟨rfl, rfl⟩
  have d3 : (x == 3) = false := beq_eq_false_iff_ne.2 h3
  by_cases h4 : x = 4
  · subst h4
    go_enter Try.func48, Try.ntmps48
    go_wp2
    go_ret
    exact ⟨rfl, rfl⟩
  have d4 : (x == 4) = false := beq_eq_false_iff_ne.2 h4
  have HD : Hid ((decide (x = 2) || decide (x = 3) || decide (x = 4)) = false) := Lib.hid (by simp [h2, h3, h4])
  clear h2 h3 h4
  go_enter Try.func48, Try.ntmps48
  go_wp2
  go_ret
  rw [HD.out]
  exact ⟨rfl, rfl⟩
set_option maxHeartbeats 400000 in
theorem linger_ok (h : CB w0 fx q v w) :
    Calls Try.prog 91 #[.pointer (some ⟨q.c, 0, none⟩)] w fun e w' => e = .returned (.tuple #[]) ∧ CB w0 fx q (lingerV v) w' := by
  have c2 := h.c 2 (.int .i64 v.st) (fun _ => rfl)
  have f2 := h.f 2
  have c24 := h.c 24 (.int .i64 v.lg) (fun _ => rfl)
  have f24 := h.f 24
  have c25 := h.c 25 (.int .i64 v.ml) (fun _ => rfl)
  have H2 := Lib.hid ((h.set 2 (.int .i64 6) { v with st := 6 } (by decide) (fun _ => rfl)).set 24 (.int .i64 v.ml) { v with st := 6, lg := v.ml } (by decide) (fun _ => rfl))
  clear h
  go_enter Try.func91, Try.ntmps91
  go_wp2_with fail
  go_end0
  exact ⟨rfl, H2.out⟩
set_option maxHeartbeats 2000000 in
theorem finAcked_ok (h : CB w0 fx q v w) :
    Calls Try.prog 69 #[.pointer (some ⟨q.c, 0, none⟩)] w fun e w' => e = .returned (.tuple #[]) ∧ CB w0 fx q (finAcked v) w' := by
  obtain ⟨R, hR⟩ : ∃ R, R = finAcked v := ⟨_, rfl⟩
  rw [← hR]
  unfold finAcked at hR
  have HH := Lib.hid h
  clear h
  have c2 := HH.out.c 2 (.int .i64 v.st) (fun _ => rfl)
  have f2 := HH.out.f 2
  go_enter Try.func69, Try.ntmps69
  by_cases h3 : v.st = 3
  · have HR := Lib.hid (hR.trans (if_pos h3))
    rw [h3] at c2
    clear hR h3
    have H9 := Lib.hid (HH.out.set 2 (.int .i64 4) { v with st := 4 } (by decide) (fun _ => rfl))
    go_wp2_with fail
    go_end0
    rw [HR.out]
    exact ⟨rfl, H9.out⟩
  have d3 : (v.st == 3) = false := beq_eq_false_iff_ne.2 h3
  replace hR := hR.trans (if_neg h3)
  clear h3
  by_cases h5 : v.st = 5
  · have HR := Lib.hid (hR.trans (if_pos h5))
    rw [h5] at c2
    clear hR h5
    have KL := Lib.hid (linger_ok HH.out)
    go_wp2_with fail
    refine KL.out.mono ?_
    rintro e W9 ⟨rfl, h9⟩
    have H9 := Lib.hid h9
    clear h9
    go_wp2_with fail
    go_end0
    rw [HR.out]
    exact ⟨rfl, H9.out⟩
  have d5 : (v.st == 5) = false := beq_eq_false_iff_ne.2 h5
  replace hR := hR.trans (if_neg h5)
  clear h5
  by_cases h8 : v.st = 8
  · have HR := Lib.hid (hR.trans (if_pos h8))
    rw [h8] at c2
    clear hR h8
    have H9 := Lib.hid (HH.out.set 2 (.int .i64 9) { v with st := 9 } (by decide) (fun _ => rfl))
    go_wp2_with fail
    go_end0
    rw [HR.out]
    exact ⟨rfl, H9.out⟩
  have d8 : (v.st == 8) = false := beq_eq_false_iff_ne.2 h8
  replace hR := hR.trans (if_neg h8)
  clear h8
  have HR := Lib.hid hR
  clear hR
  go_wp2_with fail
  go_end0
  rw [HR.out]
  exact ⟨rfl, HH.out⟩
set_option maxHeartbeats 2000000 in
theorem finHere_ok (h : CB w0 fx q v w) :
    Calls Try.prog 93 #[.pointer (some ⟨q.c, 0, none⟩)] w fun e w' => e = .returned (.tuple #[]) ∧ CB w0 fx q (finHere v) w' := by
  obtain ⟨R, hR⟩ : ∃ R, R = finHere v := ⟨_, rfl⟩
  rw [← hR]
  unfold finHere at hR
  have HH := Lib.hid h
  clear h
  have c15 := HH.out.c 15 (.bool v.eof) (fun _ => rfl)
  have f15 := HH.out.f 15
  have H1 : Hid (CB w0 fx q { v with eof := true } (w.setCell ⟨q.c, 15, none⟩ (.bool true))) := Lib.hid (HH.out.set 15 (.bool true) { v with eof := true } (by decide) (fun _ => rfl))
  go_enter Try.func93, Try.ntmps93
  go_upto_region 1 with fail
  generalize World.setCell _ _ _ = W1 at H1 ⊢
  clear c15 f15 HH
  have c2 := H1.out.c 2 (.int .i64 v.st) (fun _ => rfl)
  have f2 := H1.out.f 2
  by_cases h2 : v.st = 2
  · have HR := Lib.hid (hR.trans (if_pos h2))
    rw [h2] at c2
    clear hR h2
    have H9 := Lib.hid (H1.out.set 2 (.int .i64 7) { { v with eof := true } with st := 7 } (by decide) (fun _ => rfl))
    go_wp2_with fail
    go_end0
    rw [HR.out]
    exact ⟨rfl, H9.out⟩
  have d2 : (v.st == 2) = false := beq_eq_false_iff_ne.2 h2
  replace hR := hR.trans (if_neg h2)
  clear h2
  by_cases h3 : v.st = 3
  · have HR := Lib.hid (hR.trans (if_pos h3))
    rw [h3] at c2
    clear hR h3
    have H9 := Lib.hid (H1.out.set 2 (.int .i64 5) { { v with eof := true } with st := 5 } (by decide) (fun _ => rfl))
    go_wp2_with fail
    go_end0
    rw [HR.out]
    exact ⟨rfl, H9.out⟩
  have d3 : (v.st == 3) = false := beq_eq_false_iff_ne.2 h3
  replace hR := hR.trans (if_neg h3)
  clear h3
  by_cases h4 : v.st = 4
  · have HR := Lib.hid (hR.trans (if_pos h4))
    rw [h4] at c2
    clear hR h4
    have KL := Lib.hid (linger_ok H1.out)
    go_wp2_with fail
    refine KL.out.mono ?_
    rintro e W9 ⟨rfl, h9⟩
    have H9 := Lib.hid h9
    clear h9
    go_wp2_with fail
    go_end0
    rw [HR.out]
    exact ⟨rfl, H9.out⟩
  have d4 : (v.st == 4) = false := beq_eq_false_iff_ne.2 h4
  replace hR := hR.trans (if_neg h4)
  clear h4
  have HR := Lib.hid hR
  clear hR
  go_wp2_with fail
  go_end0
  rw [HR.out]
  exact ⟨rfl, H1.out⟩
set_option maxRecDepth 100000 in
set_option maxHeartbeats 2000000 in
theorem tells_ok (h : CB w0 fx q v w) (s : Sg) :
    Calls Try.prog 66 #[.pointer (some ⟨q.c, 0, none⟩), .agg (sgC s)] w fun e w' => e = .returned (.bool (tellsV v s)) ∧ CB w0 fx q v w' := by
  have HH := Lib.hid h
  obtain ⟨B, hB⟩ : ∃ B, B = tellsV v s := ⟨_, rfl⟩
  rw [← hB]
  unfold tellsV at hB
  have k1 := Lib.hid (fun wr => less_any wr s.ak v.una)
  generalize lessN s.ak v.una = b1 at k1 hB
  have kk : Hid (∀ (wr : World) (a b : Int) (r : Bool), (a = v.tsq ∧ b = s.sq ∧ r = lessN v.tsq s.sq) ∨ (a = s.ak ∧ b = v.tak ∧ r = lessN s.ak v.tak) → Calls Try.prog 63 #[.int .u32 a, .int .u32 b] wr fun e w' => e = .returned (.bool r) ∧ w' = wr) := Lib.hid (by
    rintro wr a b r (⟨rfl, rfl, rfl⟩ | ⟨rfl, rfl, rfl⟩) <;> exact less_any _ _ _)
  generalize lessN v.tsq s.sq = b2 at kk hB
  generalize lessN s.ak v.tak = b3 at kk hB
  clear h
  go_enter Try.func66, Try.ntmps66
  go_upto_region 1 with fail
  have FA : Hid (SgAt (w.alloc (.cells (sgC s) 28)) w.heap.size s) := Lib.hid (sg_new w _ s rfl)
  have BL : Hid (Below w.heap.size w (w.alloc (.cells (sgC s) 28))) := Lib.hid ((Below.refl _ _).alloc (Nat.le_refl _) _)
  have H1 := Lib.hid (HH.out.keepBehind BL.out FA.out (Nat.le_refl _))
  have n1 : ¬ w.heap.size = q.c := by have := HH.out.lt; omega
  have n2 : ¬ q.c = w.heap.size := by have := HH.out.lt; omega
  generalize w.alloc _ = W1 at H1 ⊢
  generalize w.heap.size = n at H1 n1 n2 ⊢
  clear FA BL HH
  have b_2 := SgAt.sq (show SgAt W1 n s from H1.out.hd)
  have b_3 := SgAt.ak (show SgAt W1 n s from H1.out.hd)
  have c5 := H1.out.c 5 (.int .u32 v.una) (fun _ => rfl)
  have HB0 := Lib.hid hB
  clear hB
  go_quiet (first | (go_at_call 63; exact Calls.quiet_of_same (k1.out _)))
  have H2 := Lib.hid (H1.out.drewN nq)
  generalize W1.drewN nq = W2 at H2 ⊢
  clear H1 b_2 b_3 c5
  have b_2 := SgAt.sq (show SgAt W2 n s from H2.out.hd)
  have b_3 := SgAt.ak (show SgAt W2 n s from H2.out.hd)
  have c12 := H2.out.c 12 (.int .u32 v.tsq) (fun _ => rfl)
  have c13 := H2.out.c 13 (.int .u32 v.tak) (fun _ => rfl)
  cases b1 with
  | true =>
    go_wp2_with fail
    go_ret
    rw [HB0.out]
    exact ⟨rfl, H2.out.let_⟩
  | false =>
    cases b2 with
    | true =>
      go_wp2_with fail
      go_quiet (first | (go_at_call 63; exact Calls.quiet_of_same (kk.out _ _ _ _ (by first | exact .inl ⟨rfl, rfl, rfl⟩ | exact .inr ⟨rfl, rfl, rfl⟩))))
      go_wp2_with fail
      go_ret
      rw [HB0.out]
      exact ⟨rfl, (H2.out.drewN _).let_⟩
    | false =>
      by_cases he : s.sq = v.tsq
      · have g : (s.sq == v.tsq) = true := by rw [he]; simp
        have HD : Hid (decide (s.sq = v.tsq) = true) := Lib.hid (decide_eq_true he)
        clear he
        go_wp2_with fail
        go_quiet (first | (go_at_call 63; exact Calls.quiet_of_same (kk.out _ _ _ _ (by first | exact .inl ⟨rfl, rfl, rfl⟩ | exact .inr ⟨rfl, rfl, rfl⟩))))
        go_wp2_with fail
        go_ret
        rw [HB0.out, HD.out]
        exact ⟨by cases b3 <;> rfl, (H2.out.drewN _).let_⟩
      · have g : (s.sq == v.tsq) = false := beq_eq_false_iff_ne.2 he
        have HD : Hid (decide (s.sq = v.tsq) = false) := Lib.hid (decide_eq_false he)
        clear he
        go_wp2_with fail
        go_quiet (first | (go_at_call 63; exact Calls.quiet_of_same (kk.out _ _ _ _ (by first | exact .inl ⟨rfl, rfl, rfl⟩ | exact .inr ⟨rfl, rfl, rfl⟩))))
        go_wp2_with fail
        go_ret
        rw [HB0.out, HD.out]
        exact ⟨rfl, (H2.out.drewN _).let_⟩
set_option maxRecDepth 100000 in
set_option maxHeartbeats 2000000 in
theorem winTo_ok (h : CB w0 fx q v w) (s : Sg) (so : s.ok) :
    Calls Try.prog 67 #[.pointer (some ⟨q.c, 0, none⟩), .agg (sgC s)] w fun e w' => e = .returned (.tuple #[]) ∧ CB w0 fx q (winTo v s) w' := by
  have WI := Lib.hid (sg_i64 so.2.2.2.2.2.1)
  have HH := Lib.hid h
  obtain ⟨x, hx⟩ : ∃ x, x = if v.win = 0 ∧ s.wi ≠ 0 ∧ v.nxt = v.una then 0 else v.left := ⟨_, rfl⟩
  have HV : Hid (winTo v s = { v with left := x, win := s.wi, tsq := s.sq, tak := s.ak }) := Lib.hid (by rw [hx]; rfl)
  clear h so
  go_enter Try.func67, Try.ntmps67
  go_upto_region 1 with fail
  have FA : Hid (SgAt (w.alloc (.cells (sgC s) 28)) w.heap.size s) := Lib.hid (sg_new w _ s rfl)
  have BL : Hid (Below w.heap.size w (w.alloc (.cells (sgC s) 28))) := Lib.hid ((Below.refl _ _).alloc (Nat.le_refl _) _)
  have H1 := Lib.hid (HH.out.keepBehind BL.out FA.out (Nat.le_refl _))
  have n1 : ¬ w.heap.size = q.c := by have := HH.out.lt; omega
  have n2 : ¬ q.c = w.heap.size := by have := HH.out.lt; omega
  generalize w.alloc _ = W1 at H1 ⊢
  generalize w.heap.size = n at H1 n1 n2 ⊢
  clear FA BL HH
  obtain ⟨b_0, b_1, b_2, b_3, b_4, b_5, b_6, b_7⟩ := SgAt.all (show SgAt W1 n s from H1.out.hd)
  have c11 := H1.out.c 11 (.int .i64 v.win) (fun _ => rfl)
  have c6 := H1.out.c 6 (.int .u32 v.nxt) (fun _ => rfl)
  have c5 := H1.out.c 5 (.int .u32 v.una) (fun _ => rfl)
  obtain ⟨B, hB⟩ : ∃ B, B = (decide (v.win = 0) && (decide (s.wi ≠ 0) && decide (v.nxt = v.una))) := ⟨_, rfl⟩
  go_cut [24] from 4 to 24 (fun v24 wx => v24 = .bool B ∧ Hid (CB w0 ((n, .cells (sgC s) 28) :: fx) q v wx))
  case first =>
    by_cases h1 : v.win = 0
    · have g1 : (v.win == 0) = true := by rw [h1]; rfl
      by_cases h2 : s.wi = 0
      · have g2 : (s.wi != 0) = false := by rw [h2]; rfl
        have HB : Hid (B = false) := Lib.hid (by rw [hB]; simp [h2])
        clear hx h1 h2 hB
        go_quiet (fail)
        have H3 := Lib.hid (H1.out.drewN nq)
        go_wp2_with fail
        go_meet
        case rel => exact ⟨by rw [HB.out], H3⟩
      · have g2 : (s.wi != 0) = true := by simpa using h2
        have g2b : (s.wi == 0) = false := beq_eq_false_iff_ne.2 h2
        have HB : Hid (B = (v.nxt == v.una)) := Lib.hid (by rw [hB, beq_i]; simp [h1, h2])
        clear hx h1 h2 hB
        generalize hB2 : (v.nxt == v.una) = B3 at HB
        go_quiet (fail)
        have H3 := Lib.hid (H1.out.drewN nq)
        go_wp2_with fail
        go_meet
        case rel => exact ⟨by rw [HB.out], H3⟩
    · have g1 : (v.win == 0) = false := beq_eq_false_iff_ne.2 h1
      have HB : Hid (B = false) := Lib.hid (by rw [hB]; simp [h1])
      clear hx h1 hB
      go_quiet (fail)
      have H3 := Lib.hid (H1.out.drewN nq)
      go_wp2_with fail
      go_meet
      case rel => exact ⟨by rw [HB.out], H3⟩
  case rest =>
    obtain ⟨rfl, H3⟩ := hcut
    rename World => W3
    have HX : Hid (x = if B = true then 0 else v.left) := Lib.hid (by
      rw [hx, hB]
      by_cases h1 : v.win = 0 <;> by_cases h2 : s.wi = 0 <;> by_cases h3 : v.nxt = v.una <;> simp [h1, h2, h3])
    clear hx hB c11 c6 c5 b_0 b_1 b_2 b_3 b_4 b_5 b_6 b_7 H1
    go_upto_if 24 with fail
    go_cut [] from 24 to 27 (fun wx => Hid (CB w0 ((n, .cells (sgC s) 28) :: fx) q { v with left := x } wx))
    case first =>
      have c18 := H3.out.c 18 (.int .i64 v.left) (fun _ => rfl)
      have f18 := H3.out.f 18
      cases B with
      | true =>
        have H4 := Lib.hid (H3.out.set 18 (.int .i64 0) { v with left := 0 } (by decide) (fun _ => rfl))
        go_wp2_with fail
        go_meet
        case rel =>
          rw [HX.out]
          exact H4
      | false =>
        go_wp2_with fail
        go_meet
        case rel =>
          rw [HX.out]
          exact H3
    case rest =>
      rename World => W4
      have H4 := hcut
      clear hcut HX H3
      obtain ⟨b_0, b_1, b_2, b_3, b_4, b_5, b_6, b_7⟩ := SgAt.all (show SgAt W4 n s from H4.out.hd)
      have c11 := H4.out.c 11 (.int .i64 v.win) (fun _ => rfl)
      have f11 := H4.out.f 11
      have c12 := H4.out.c 12 (.int .u32 v.tsq) (fun _ => rfl)
      have f12 := H4.out.f 12
      have c13 := H4.out.c 13 (.int .u32 v.tak) (fun _ => rfl)
      have f13 := H4.out.f 13
      have H5 := Lib.hid (((H4.out.set 11 (.int .i64 s.wi) { v with left := x, win := s.wi } (by decide) (fun _ => rfl) (e9 := .inr WI.out)).setT s.sq s.ak).let_)
      go_wp2_with fail
      go_end0
      rw [HV.out]
      exact ⟨rfl, H5.out⟩
end
end Go.Proofs.Ytlajalfalepbhaa
