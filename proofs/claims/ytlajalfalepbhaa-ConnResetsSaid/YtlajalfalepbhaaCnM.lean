/-
  Layer 15: all ahead of a number was acknowledged: moveUna. Conditions: as said.
-/
import Derived.Test.YtlajalfalepbhaaCnL
namespace Go.Proofs.Ytlajalfalepbhaa
open Go.RowKit
set_option linter.unusedVariables false

section
variable {w0 w w' : World} {fx : List (Nat × Obj)} {q : Bq} {v v' : Cn}
theorem endV_in (v : Cn) : 0 ≤ endV v ∧ endV v < 4294967296 := ⟨Int.emod_nonneg _ (by decide), Int.emod_lt_of_pos _ (by decide)⟩
set_option maxRecDepth 100000 in
set_option maxHeartbeats 4000000 in
theorem una_ok (h : CB w0 fx q v w) (a : Int) (ha : 0 ≤ a ∧ a < 4294967296) :
    Calls Try.prog 65 #[.pointer (some ⟨q.c, 0, none⟩), .int .u32 a] w fun e w' => e = .returned (.tuple #[]) ∧ CB w0 fx q (unaV v a) w' := by
  obtain ⟨R, hR⟩ : ∃ R, R = unaV v a := ⟨_, rfl⟩
  rw [← hR]
  unfold unaV at hR
  have HR := Lib.hid hR
  have HA := Lib.hid ha
  have HH := Lib.hid h
  have c5 := h.c 5 (.int .u32 v.una) (fun _ => rfl)
  have f5 := h.f 5
  clear h ha hR
  go_enter Try.func65, Try.ntmps65
  go_upto_region 2 with fail
  have H1 : Hid (CB w0 fx q { v with una := a } (w.setCell ⟨q.c, 5, none⟩ (.int .u32 a))) := Lib.hid (HH.out.set 5 (.int .u32 a) { v with una := a } (by decide) (fun _ => rfl))
  generalize World.setCell _ _ _ = W1 at H1 ⊢
  clear c5 f5 HH
  have c8 := H1.out.c 8 (.pointer (some ⟨q.g, 0, none⟩)) (fun _ => rfl)
  have kE : Hid (Calls Try.prog 68 #[.pointer (some ⟨q.g, 0, none⟩)] W1 fun e w' => e = .returned (.int .u32 (endV v)) ∧ w' = W1) := Lib.hid H1.out.rEnd
  have kL := Lib.hid (fun wr => less_any wr (endV v) a)
  have EI := Lib.hid (endV_in v)
  obtain ⟨t, ht⟩ : ∃ t, t = if lessN (endV v) a then endV v else a := ⟨_, rfl⟩
  have HT := Lib.hid ht
  clear ht
  have TI : Hid (0 ≤ t ∧ t < 4294967296) := Lib.hid (by rw [HT.out]; split; exact EI.out; exact HA.out)
  go_wp2_with fail
  refine kE.out.mono ?_
  rintro e W1 ⟨rfl, rfl⟩
  go_wp2_with fail
  refine (kL.out _).mono ?_
  rintro e W1 ⟨rfl, rfl⟩
  go_upto_if 16 with fail
  go_cut [4] from 16 to 21 (fun v4 wx => v4 = .int .u32 t ∧ wx = W1)
  case first =>
    cases hb : lessN (endV v) a with
    | true =>
      rw [if_pos hb] at HT
      go_wp2_with fail
      refine kE.out.mono ?_
      rintro e W1 ⟨rfl, rfl⟩
      go_wp2_with fail
      go_meet
      case rel => exact ⟨by rw [HT.out], rfl⟩
    | false =>
      rw [if_neg (by rw [hb]; decide)] at HT
      go_wp2_with fail
      go_meet
      case rel => exact ⟨by rw [HT.out], rfl⟩
  case rest =>
    obtain ⟨rfl, rfl⟩ := hcut
    rename World => W1
    have KA := Lib.hid (H1.out.oAck t TI.out (ackTo v a) (by unfold ackTo; rw [← HT.out]))
    go_wp2_with fail
    refine KA.out.mono ?_
    rintro e W2 ⟨rfl, h2⟩
    have H2 : Hid (CB w0 fx q (una1 v a) W2) := Lib.hid h2
    clear h2 KA c8 kE kL EI HT TI HA H1
    generalize una1 v a = v1 at H2 HR
    have c5 := H2.out.c 5 (.int .u32 v1.una) (fun _ => rfl)
    have c6 := H2.out.c 6 (.int .u32 v1.nxt) (fun _ => rfl)
    have kL := Lib.hid (fun wr => less_any wr v1.nxt v1.una)
    go_wp2_with fail
    go_quiet (first | (go_at_call 63; exact Calls.quiet_of_same (kL.out _)))
    have H3 := Lib.hid (H2.out.drewN nq)
    generalize W2.drewN nq = W3 at H3 ⊢
    clear c5 c6 H2 kL
    go_upto_if 36 with fail
    go_cut [] from 36 to 43 (fun wx => Hid (CB w0 fx q (una2 v1) wx))
    case first =>
      have c5 := H3.out.c 5 (.int .u32 v1.una) (fun _ => rfl)
      have c6 := H3.out.c 6 (.int .u32 v1.nxt) (fun _ => rfl)
      have f6 := H3.out.f 6
      cases hb : lessN v1.nxt v1.una with
      | true =>
        have H4 : Hid (CB w0 fx q (una2 v1) _) := Lib.hid (by unfold una2; rw [if_pos hb]; exact H3.out.set 6 (.int .u32 v1.una) { v1 with nxt := v1.una } (by decide) (fun _ => rfl))
        go_wp2_with fail
        go_meet
        case rel => exact H4
      | false =>
        have HD : Hid (v1 = una2 v1) := Lib.hid (by unfold una2; rw [if_neg (by rw [hb]; decide)])
        rw [HD.out] at H3
        go_wp2_with fail
        go_meet
        case rel => exact H3
    case rest =>
      rename World => W4
      have H4 := hcut
      clear hcut
      generalize una2 v1 = v2 at H4 HR
      go_upto_region 7 with fail
      obtain ⟨B, hB⟩ : ∃ B, B = (v2.mr && !lessN v2.una v2.me) := ⟨_, rfl⟩
      go_cut [61] from 44 to 61 (fun v61 wx => v61 = .bool B ∧ Hid (CB w0 fx q v2 wx))
      case first =>
        have c21 := H4.out.c 21 (.bool v2.mr) (fun _ => rfl)
        have c5 := H4.out.c 5 (.int .u32 v2.una) (fun _ => rfl)
        have c22 := H4.out.c 22 (.int .u32 v2.me) (fun _ => rfl)
        have kL := Lib.hid (fun wr => less_any wr v2.una v2.me)
        cases hm : v2.mr with
        | true =>
          rw [hm] at c21
          have HB : Hid (B = !lessN v2.una v2.me) := Lib.hid (by rw [hB, hm, Bool.true_and])
          clear hB hm
          go_quiet (first | (go_at_call 63; exact Calls.quiet_of_same (kL.out _)))
          have H5 := Lib.hid (H4.out.drewN nq)
          go_wp2_with fail
          go_meet
          case rel => exact ⟨by rw [HB.out], H5⟩
        | false =>
          rw [hm] at c21
          have HB : Hid (B = false) := Lib.hid (by rw [hB, hm, Bool.false_and])
          clear hB hm
          go_quiet (fail)
          have H5 := Lib.hid (H4.out.drewN nq)
          go_wp2_with fail
          go_meet
          case rel => exact ⟨by rw [HB.out], H5⟩
      case rest =>
        obtain ⟨rfl, H5⟩ := hcut
        rename World => W5
        have HB := Lib.hid hB
        clear hB H4
        go_upto_if 61 with fail
        go_cut [] from 61 to 75 (fun wx => Hid (CB w0 fx q (una3 v2) wx))
        case first =>
          cases B with
          | false =>
            have HD : Hid (v2 = una3 v2) := Lib.hid (by unfold una3; rw [← HB.out, if_neg (by decide)])
            rw [HD.out] at H5
            go_wp2_with fail
            go_meet
            case rel => exact H5
          | true =>
            have c17 := H5.out.drew.c 17 (.pointer (some ⟨q.k, 0, none⟩)) (fun _ => rfl)
            have c17b := H5.out.c 17 (.pointer (some ⟨q.k, 0, none⟩)) (fun _ => rfl)
            have c23 := H5.out.c 23 (.int .i64 v2.ma) (fun _ => rfl)
            have KM := Lib.hid (H5.out.drew.kMeas v2.ma)
            have HD : Hid (una3 v2 = { v2 with ck := measV v2.ck v2.ma, mr := false, me := 0, ma := 0 }) := Lib.hid (by unfold una3; rw [← HB.out, if_pos rfl])
            go_upto_region 8 with fail
            go_region_with (first | (go_at_call 88; refine KM.out.mono ?_; rintro e W6 ⟨rfl, h6⟩; have H6 := Lib.hid h6; clear h6))
            all_goals
              clear c17 c17b c23 KM H5
              have c21 := H6.out.c 21 (.bool v2.mr) (fun _ => rfl)
              have c22 := H6.out.c 22 (.int .u32 v2.me) (fun _ => rfl)
              have c23 := H6.out.c 23 (.int .i64 v2.ma) (fun _ => rfl)
              have f21 := H6.out.f 21
              have f22 := H6.out.f 22
              have f23 := H6.out.f 23
              go_wp2_with fail
              go_meet
              case rel =>
                rw [HD.out]
                exact Lib.hid (H6.out.setM false 0 0)
        case rest =>
          rename World => W6
          have H6 := hcut
          clear hcut HB
          generalize una3 v2 = v3 at H6 HR
          have HV : Hid (R = { v3 with tries := 0, left := if v3.una = v3.top then 0 else v3.ck.t }) := HR
          clear HR
          have c19 := H6.out.c 19 (.int .i64 v3.tries) (fun _ => rfl)
          have f19 := H6.out.f 19
          have c18 := H6.out.c 18 (.int .i64 v3.left) (fun _ => rfl)
          have f18 := H6.out.f 18
          go_upto_region 12 with fail
          have H7 := Lib.hid ((H6.out.set 19 (.int .i64 0) { v3 with tries := 0 } (by decide) (fun _ => rfl)).set 18 (.int .i64 0) { v3 with tries := 0, left := 0 } (by decide) (fun _ => rfl))
          generalize World.setCell _ _ _ = W7 at H7 ⊢
          clear c19 f19 c18 f18 H6
          have c5 := H7.out.c 5 (.int .u32 v3.una) (fun _ => rfl)
          have c7 := H7.out.c 7 (.int .u32 v3.top) (fun _ => rfl)
          by_cases he : v3.una = v3.top
          · have g : (v3.una != v3.top) = false := by rw [he]; simp
            have HD := Lib.hid he
            rw [he] at c5
            clear he
            go_quiet (fail)
            have H8 := Lib.hid (H7.out.drewN nq)
            go_wp2_with fail
            go_end0
            rw [HV.out, if_pos HD.out]
            exact ⟨rfl, H8.out⟩
          · have g : (v3.una != v3.top) = true := by simpa using he
            have g2 : (v3.una == v3.top) = false := beq_eq_false_iff_ne.2 he
            have HD := Lib.hid he
            clear he
            go_quiet (fail)
            have H8 := Lib.hid (H7.out.drewN nq)
            generalize W7.drewN nq = W8 at H8 ⊢
            clear H7 c5 c7
            have c17 := H8.out.c 17 (.pointer (some ⟨q.k, 0, none⟩)) (fun _ => rfl)
            have c18 := H8.out.c 18 (.int .i64 0) (fun _ => rfl)
            have f18 := H8.out.f 18
            go_wp2_with fail
            refine H8.out.rWait.mono ?_
            rintro e W9 ⟨rfl, rfl⟩
            go_wp2_with fail
            go_end0
            rw [HV.out, if_neg HD.out]
            exact ⟨rfl, H8.out.set 18 (.int .i64 v3.ck.t) { v3 with tries := 0, left := v3.ck.t } (by decide) (fun _ => rfl)⟩
end
end Go.Proofs.Ytlajalfalepbhaa
