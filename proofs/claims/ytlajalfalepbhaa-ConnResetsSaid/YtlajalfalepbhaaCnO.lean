/-
  Layer 15: data and the Fin of a segment are taken in. Conditions: as said.
-/
import Derived.Test.YtlajalfalepbhaaCnN
namespace Go.Proofs.Ytlajalfalepbhaa
open Go.RowKit
set_option linter.unusedVariables false

section
variable {w0 w w' : World} {fx : List (Nat × Obj)} {q : Bq} {v v' : Cn}
theorem sg_u32 {s : Sg} (so : s.ok) : (0 ≤ s.sq ∧ s.sq < 4294967296) ∧ (0 ≤ s.ak ∧ s.ak < 4294967296) := ⟨sq_u32 so.2.2.1, sq_u32 so.2.2.2.1⟩
set_option maxRecDepth 100000 in
set_option maxHeartbeats 2000000 in
theorem dataTo_ok (h : CB w0 fx q v w) (s : Sg) (so : s.ok) :
    Calls Try.prog 70 #[.pointer (some ⟨q.c, 0, none⟩), .agg (sgC s)] w fun e w' => e = .returned (.tuple #[]) ∧ CB w0 fx q (dataTo v s) w' := by
  have SI := Lib.hid (sg_u32 so).1
  have HH := Lib.hid h
  obtain ⟨R, hR⟩ : ∃ R, R = dataTo v s := ⟨_, rfl⟩
  rw [← hR]
  unfold dataTo at hR
  have HR := Lib.hid hR
  clear h so hR
  go_enter Try.func70, Try.ntmps70
  go_upto_region 1 with fail
  have FA : Hid (SgAt (w.alloc (.cells (sgC s) 28)) w.heap.size s) := Lib.hid (sg_new w _ s rfl)
  have BL : Hid (Below w.heap.size w (w.alloc (.cells (sgC s) 28))) := Lib.hid ((Below.refl _ _).alloc (Nat.le_refl _) _)
  have H1 := Lib.hid (HH.out.keepBehind BL.out FA.out (Nat.le_refl _))
  have n1 : ¬ w.heap.size = q.c := by have := HH.out.lt; omega
  have n2 : ¬ q.c = w.heap.size := by have := HH.out.lt; omega
  generalize w.alloc _ = W1 at H1 ⊢
  generalize w.heap.size = n at H1 n1 n2 ⊢
  clear FA BL HH
  have KR := Lib.hid (receives_ok H1.out)
  generalize receivesV v = B at KR HR
  go_wp2_with fail
  refine KR.out.mono ?_
  rintro e W1 ⟨rfl, rfl⟩
  clear KR
  cases B with
  | false =>
    go_wp2_with fail
    go_end0
    rw [HR.out]
    exact ⟨rfl, H1.out.let_⟩
  | true =>
    have HR2 : Hid (R = { v with nx := (v.nx + runW (putV v s)) % 4294967296, R := v.R ++ gotW (putV v s), W := (putV v s).drop (runW (putV v s)) }) := Lib.hid HR.out
    have c14 := H1.out.drew.c 14 (.pointer (some ⟨q.h, 0, none⟩)) (fun _ => rfl)
    have c14b := H1.out.c 14 (.pointer (some ⟨q.h, 0, none⟩)) (fun _ => rfl)
    obtain ⟨b_0, b_1, b_2, b_3, b_4, b_5, b_6, b_7⟩ := SgAt.all (show SgAt W1 n s from H1.out.hd)
    have KP := Lib.hid (H1.out.let_.drew.iPut s.sq SI.out s.da (putV v s) rfl)
    clear HR
    go_upto_region 2 with fail
    go_region_with (first | (go_at_call 92; refine KP.out.mono ?_; rintro e W6 ⟨rfl, h6⟩; have H6 := Lib.hid h6; clear h6))
    all_goals
      go_wp2_with fail
      go_end0
      rw [HR2.out]
      exact ⟨rfl, H6.out⟩
set_option maxRecDepth 100000 in
set_option maxHeartbeats 2000000 in
theorem finTo_ok (h : CB w0 fx q v w) (s : Sg) (so : s.da.size ≤ 100000) :
    Calls Try.prog 71 #[.pointer (some ⟨q.c, 0, none⟩), .agg (sgC s)] w fun e w' => e = .returned (.tuple #[]) ∧ CB w0 fx q (finTo v s) w' := by
  have HH := Lib.hid h
  obtain ⟨R, hR⟩ : ∃ R, R = finTo v s := ⟨_, rfl⟩
  rw [← hR]
  unfold finTo at hR
  have HR := Lib.hid hR
  have e2 : (s.da.size : Int) % 4294967296 = s.da.size := by omega
  clear h so hR
  go_enter Try.func71, Try.ntmps71
  go_upto_region 1 with fail
  have FA : Hid (SgAt (w.alloc (.cells (sgC s) 28)) w.heap.size s) := Lib.hid (sg_new w _ s rfl)
  have BL : Hid (Below w.heap.size w (w.alloc (.cells (sgC s) 28))) := Lib.hid ((Below.refl _ _).alloc (Nat.le_refl _) _)
  have H1 := Lib.hid (HH.out.keepBehind BL.out FA.out (Nat.le_refl _))
  have n1 : ¬ w.heap.size = q.c := by have := HH.out.lt; omega
  have n2 : ¬ q.c = w.heap.size := by have := HH.out.lt; omega
  generalize w.alloc _ = W1 at H1 ⊢
  generalize w.heap.size = n at H1 n1 n2 ⊢
  clear FA BL HH
  have KF := Lib.hid (has_k W1 s 0 1 (by decide) rfl)
  generalize hasF s.fl 0 = F at KF HR
  obtain ⟨b_0, b_1, b_2, b_3, b_4, b_5, b_6, b_7⟩ := SgAt.all (show SgAt W1 n s from H1.out.hd)
  go_wp2_with fail
  refine KF.out.mono ?_
  rintro e W2 ⟨rfl, d⟩
  have H2 := Lib.hid (H1.out.grow d)
  clear d H1 KF b_0 b_1 b_2 b_3 b_4 b_5 b_6 b_7
  cases F with
  | false =>
    go_wp2_with fail
    exact bodyPost_ret (v := .tuple #[]) (results_none rfl _ _ _) rfl (by rw [HR.out]; exact ⟨rfl, H2.out.let_⟩)
  | true =>
    have HR2 : Hid (R = finTo2 (finTo1 v s)) := Lib.hid HR.out
    clear HR
    obtain ⟨x, hx⟩ : ∃ x, x = (s.sq + (s.da.size : Int)) % 4294967296 := ⟨_, rfl⟩
    obtain ⟨B, hB⟩ : ∃ B, B = (!v.eof && decide (x = v.nx)) := ⟨_, rfl⟩
    have HD : Hid (finTo1 v s = if B then finHere v else v) := Lib.hid (by unfold finTo1; rw [hB, hx])
    have e1 := hx.symm
    clear hx
    go_upto_region 2 with fail
    go_cut [26] from 7 to 26 (fun v26 wx => v26 = .bool B ∧ Hid (CB w0 ((n, .cells (sgC s) 28) :: fx) q v wx))
    case first =>
      obtain ⟨b_0, b_1, b_2, b_3, b_4, b_5, b_6, b_7⟩ := SgAt.all (show SgAt W2 n s from H2.out.hd)
      have c14 := H2.out.c 14 (.pointer (some ⟨q.h, 0, none⟩)) (fun _ => rfl)
      have c15 := H2.out.c 15 (.bool v.eof) (fun _ => rfl)
      have kN : Hid (∀ k, Calls Try.prog 85 #[.pointer (some ⟨q.h, 0, none⟩)] (W2.drewN k) fun e w' => e = .returned (.int .u32 v.nx) ∧ w' = W2.drewN k) := Lib.hid (fun k => (H2.out.drewN k).rNext)
      cases he : v.eof with
      | true =>
        rw [he] at c15
        have HB : Hid (B = false) := Lib.hid (by rw [hB, he]; rfl)
        clear hB he
        go_quiet (fail)
        have H3 := Lib.hid (H2.out.drewN nq)
        go_wp2_with fail
        go_meet
        case rel => exact ⟨by rw [HB.out], H3⟩
      | false =>
        rw [he] at c15
        have HB : Hid (B = (x == v.nx)) := Lib.hid (by rw [hB, he, beq_i]; rfl)
        clear hB he
        generalize hY : (x == v.nx) = Y at HB
        go_quiet (first | (go_at_call 85; exact Calls.quiet_of_same (kN.out _)))
        have H3 := Lib.hid (H2.out.drewN nq)
        go_wp2_with fail
        go_meet
        case rel => exact ⟨by rw [HB.out], H3⟩
    case rest =>
      obtain ⟨rfl, H3⟩ := hcut
      rename World => W3
      clear e1 e2 hB H2
      go_upto_if 26 with fail
      go_cut [] from 26 to 28 (fun wx => Hid (CB w0 fx q (finTo1 v s) wx))
      case first =>
        cases B with
        | true =>
          have KH := Lib.hid (finHere_ok H3.out.let_)
          go_wp2_with fail
          refine KH.out.mono ?_
          rintro e W4 ⟨rfl, h4⟩
          have H4 := Lib.hid h4
          clear h4
          go_wp2_with fail
          go_meet
          case rel =>
            rw [HD.out]
            exact H4
        | false =>
          go_wp2_with fail
          go_meet
          case rel =>
            rw [HD.out]
            exact Lib.hid H3.out.let_
      case rest =>
        rename World => W4
        have H4 := hcut
        clear hcut HD H3
        generalize finTo1 v s = v1 at H4 HR2
        have c2 := H4.out.c 2 (.int .i64 v1.st) (fun _ => rfl)
        have c24 := H4.out.c 24 (.int .i64 v1.lg) (fun _ => rfl)
        have f24 := H4.out.f 24
        have c25 := H4.out.c 25 (.int .i64 v1.ml) (fun _ => rfl)
        unfold finTo2 at HR2
        by_cases h6 : v1.st = 6
        · have HD := Lib.hid (HR2.out.trans (if_pos h6))
          have H5 := Lib.hid (H4.out.set 24 (.int .i64 v1.ml) { v1 with lg := v1.ml } (by decide) (fun _ => rfl))
          rw [h6] at c2
          clear h6
          go_wp2_with fail
          go_end0
          rw [HD.out]
          exact ⟨rfl, H5.out⟩
        · have HD := Lib.hid (HR2.out.trans (if_neg h6))
          have g : (v1.st == 6) = false := beq_eq_false_iff_ne.2 h6
          clear h6
          go_wp2_with fail
          go_end0
          rw [HD.out]
          exact ⟨rfl, H4.out⟩
end
end Go.Proofs.Ytlajalfalepbhaa
