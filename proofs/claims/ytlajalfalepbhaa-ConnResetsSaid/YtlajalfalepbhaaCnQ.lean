/-
  Layer 15: a segment that counts is taken in; In. Conditions: as said.
-/
import Derived.Test.YtlajalfalepbhaaCnO
import Derived.Test.YtlajalfalepbhaaCnR
namespace Go.Proofs.Ytlajalfalepbhaa
open Go.RowKit
set_option linter.unusedVariables false

section
variable {w0 w w' : World} {fx : List (Nat × Obj)} {q : Bq} {v v' : Cn}
theorem take5_sent (v : Cn) (s : Sg) : (take5 v s).sent = v.sent ∧ (take5 v s).L.length ≤ v.L.length := by
  have h1 : ∀ v, (take1 v s).sent = v.sent ∧ (take1 v s).L = v.L := fun v => by unfold take1 openV; split <;> exact ⟨rfl, rfl⟩
  have h2 : ∀ v, (take2 v s).sent = v.sent ∧ (take2 v s).L.length ≤ v.L.length := fun v => by
    unfold take2
    split
    · have a1 : ∀ v, (una2 v).sent = v.sent ∧ (una2 v).L = v.L := fun v => by unfold una2; split <;> exact ⟨rfl, rfl⟩
      have a2 : ∀ v, (una3 v).sent = v.sent ∧ (una3 v).L = v.L := fun v => by unfold una3; split <;> exact ⟨rfl, rfl⟩
      show (una3 (una2 (una1 v s.ak))).sent = v.sent ∧ (una3 (una2 (una1 v s.ak))).L.length ≤ v.L.length
      rw [(a2 _).1, (a2 _).2, (a1 _).1, (a1 _).2]
      exact ⟨rfl, by show (v.L.drop _).length ≤ _; rw [List.length_drop]; omega⟩
    · exact ⟨rfl, Nat.le_refl _⟩
  have h3 : ∀ v, (take3 v s).sent = v.sent ∧ (take3 v s).L = v.L := fun v => by unfold take3 winTo; split <;> exact ⟨rfl, rfl⟩
  have h4 : ∀ v, (take4 v).sent = v.sent ∧ (take4 v).L = v.L := fun v => by
    unfold take4 finAcked lingerV
    split
    · split
      · exact ⟨rfl, rfl⟩
      · split
        · exact ⟨rfl, rfl⟩
        · split <;> exact ⟨rfl, rfl⟩
    · exact ⟨rfl, rfl⟩
  have h5 : ∀ v, (dataTo v s).sent = v.sent ∧ (dataTo v s).L = v.L := fun v => by unfold dataTo; split <;> exact ⟨rfl, rfl⟩
  have h6 : ∀ v, (finHere v).sent = v.sent ∧ (finHere v).L = v.L := fun v => by
    unfold finHere lingerV
    split
    · exact ⟨rfl, rfl⟩
    · split
      · exact ⟨rfl, rfl⟩
      · split <;> exact ⟨rfl, rfl⟩
  have h7 : ∀ v, (finTo v s).sent = v.sent ∧ (finTo v s).L = v.L := fun v => by
    have a1 : (finTo1 v s).sent = v.sent ∧ (finTo1 v s).L = v.L := by
      unfold finTo1
      split
      · exact h6 v
      · exact ⟨rfl, rfl⟩
    have a2 : ∀ v, (finTo2 v).sent = v.sent ∧ (finTo2 v).L = v.L := fun v => by unfold finTo2; split <;> exact ⟨rfl, rfl⟩
    unfold finTo
    split
    · exact ⟨(a2 _).1.trans a1.1, (a2 _).2.trans a1.2⟩
    · exact ⟨rfl, rfl⟩
  unfold take5
  rw [(h7 _).1, (h7 _).2, (h5 _).1, (h5 _).2, (h4 _).1, (h4 _).2, (h3 _).1, (h3 _).2, (h2 _).1]
  exact ⟨(h1 _).1, Nat.le_trans (h2 _).2 (by rw [(h1 _).2]; exact Nat.le_refl _)⟩
set_option maxRecDepth 100000 in
set_option maxHeartbeats 8000000 in
theorem take_ok (h : CB w0 fx q v w) (s : Sg) (so : s.ok) (sz : s.da.size ≤ 100000) (hs : v.sent.length ≤ 99990000) :
    Calls Try.prog 46 #[.pointer (some ⟨q.c, 0, none⟩), .agg (sgC s)] w fun e w' => e = .returned (.tuple #[]) ∧ CB w0 fx q (takeV v s) w' := by
  have SO := Lib.hid so
  have SZ := Lib.hid sz
  have SU := Lib.hid (sg_u32 so).2
  have HH := Lib.hid h
  obtain ⟨R, hR⟩ : ∃ R, R = takeV v s := ⟨_, rfl⟩
  have T5 := Lib.hid (take5_sent v s)
  have HS := Lib.hid hs
  rw [← hR]
  unfold takeV at hR
  obtain ⟨v5, h5⟩ : ∃ v5, v5 = take5 v s := ⟨_, rfl⟩
  rw [← h5] at hR T5
  unfold take5 at h5
  have HR := Lib.hid hR
  have H5 := Lib.hid h5
  clear h so sz hs hR h5
  go_enter Try.func46, Try.ntmps46
  go_upto_region 1 with fail
  have FA : Hid (SgAt (w.alloc (.cells (sgC s) 28)) w.heap.size s) := Lib.hid (sg_new w _ s rfl)
  have BL : Hid (Below w.heap.size w (w.alloc (.cells (sgC s) 28))) := Lib.hid ((Below.refl _ _).alloc (Nat.le_refl _) _)
  have H1 := Lib.hid (HH.out.keepBehind BL.out FA.out (Nat.le_refl _))
  have n1 : ¬ w.heap.size = q.c := by have := HH.out.lt; omega
  have n2 : ¬ q.c = w.heap.size := by have := HH.out.lt; omega
  generalize w.alloc _ = W1 at H1 ⊢
  generalize w.heap.size = n at H1 n1 n2 ⊢
  clear FA BL HH
  have c2 := H1.out.c 2 (.int .i64 v.st) (fun _ => rfl)
  obtain ⟨b_0, b_1, b_2, b_3, b_4, b_5, b_6, b_7⟩ := SgAt.all (show SgAt W1 n s from H1.out.hd)
  go_upto_if 9 with fail
  go_cut [] from 5 to 12 (fun wx => Hid (CB w0 ((n, .cells (sgC s) 28) :: fx) q (take1 v s) wx))
  case first =>
    have HD : Hid (take1 v s = if v.st = 1 then openV v s else v) := Lib.hid rfl
    by_cases h1 : v.st = 1
    · have KO := Lib.hid (open_ok H1.out s SO.out)
      rw [if_pos h1] at HD
      go_wp2_with fail
      refine KO.out.mono ?_
      rintro e W2 ⟨rfl, h2⟩
      have H2 := Lib.hid h2
      rw [← HD.out] at H2
      clear h2
      go_wp2_with fail
      go_meet
      case rel => exact H2
    · rw [if_neg h1] at HD
      rw [← HD.out] at H1
      go_wp2_with fail
      go_meet
      case rel => exact H1
  case rest =>
    clear H1 c2 b_0 b_1 b_2 b_3 b_4 b_5 b_6 b_7
    rename World => W1
    have H1 := hcut
    clear hcut
    generalize take1 v s = v1 at H1 H5
    obtain ⟨b_0, b_1, b_2, b_3, b_4, b_5, b_6, b_7⟩ := SgAt.all (show SgAt W1 n s from H1.out.hd)
    have c5 := H1.out.c 5 (.int .u32 v1.una) (fun _ => rfl)
    have kL := Lib.hid (fun wr => less_any wr v1.una s.ak)
    obtain ⟨B, hB⟩ : ∃ B, B = lessN v1.una s.ak := ⟨_, rfl⟩
    have HD : Hid (take2 v1 s = if B then unaV v1 s.ak else v1) := Lib.hid (by rw [hB]; rfl)
    rw [← hB] at kL
    clear hB
    go_upto_region 3 with fail
    go_quiet (first | (go_at_call 63; exact Calls.quiet_of_same (kL.out _)))
    have H2 := Lib.hid (H1.out.drewN nq)
    generalize W1.drewN nq = W2 at H2 ⊢
    clear H1 kL c5 b_0 b_1 b_2 b_3 b_4 b_5 b_6 b_7
    go_upto_if 19 with fail
    go_cut [] from 19 to 23 (fun wx => Hid (CB w0 ((n, .cells (sgC s) 28) :: fx) q (take2 v1 s) wx))
    case first =>
      obtain ⟨b_0, b_1, b_2, b_3, b_4, b_5, b_6, b_7⟩ := SgAt.all (show SgAt W2 n s from H2.out.hd)
      cases B with
      | true =>
        have KO := Lib.hid (una_ok H2.out s.ak SU.out)
        go_wp2_with fail
        refine KO.out.mono ?_
        rintro e W3 ⟨rfl, h3⟩
        have H3 := Lib.hid h3
        clear h3
        go_wp2_with fail
        go_meet
        case rel =>
          rw [HD.out]
          exact H3
      | false =>
        go_wp2_with fail
        go_meet
        case rel =>
          rw [HD.out]
          exact H2
    case rest =>
      clear H2 HD
      rename World => W2
      have H2 := hcut
      clear hcut
      generalize take2 v1 s = v2 at H2 H5
      obtain ⟨b_0, b_1, b_2, b_3, b_4, b_5, b_6, b_7⟩ := SgAt.all (show SgAt W2 n s from H2.out.hd)
      have KT := Lib.hid (tells_ok H2.out s)
      obtain ⟨B2, hB⟩ : ∃ B2, B2 = tellsV v2 s := ⟨_, rfl⟩
      have HD : Hid (take3 v2 s = if B2 then winTo v2 s else v2) := Lib.hid (by rw [hB]; rfl)
      rw [← hB] at KT
      clear hB
      go_wp2_with fail
      refine KT.out.mono ?_
      rintro e W3 ⟨rfl, h3⟩
      have H3 := Lib.hid h3
      clear h3 KT H2 b_0 b_1 b_2 b_3 b_4 b_5 b_6 b_7
      go_upto_if 26 with fail
      go_cut [] from 24 to 29 (fun wx => Hid (CB w0 ((n, .cells (sgC s) 28) :: fx) q (take3 v2 s) wx))
      case first =>
        obtain ⟨b_0, b_1, b_2, b_3, b_4, b_5, b_6, b_7⟩ := SgAt.all (show SgAt W3 n s from H3.out.hd)
        cases B2 with
        | true =>
          have KO := Lib.hid (winTo_ok H3.out s SO.out)
          go_wp2_with fail
          refine KO.out.mono ?_
          rintro e W4 ⟨rfl, h4⟩
          have H4 := Lib.hid h4
          clear h4
          go_wp2_with fail
          go_meet
          case rel =>
            rw [HD.out]
            exact H4
        | false =>
          go_wp2_with fail
          go_meet
          case rel =>
            rw [HD.out]
            exact H3
      case rest =>
        clear H3 HD
        rename World => W3
        have H3 := hcut
        clear hcut
        generalize take3 v2 s = v3 at H3 H5
        obtain ⟨B3, hB⟩ : ∃ B3, B3 = (v3.cl && decide (v3.una = (endV v3 + 1) % 4294967296)) := ⟨_, rfl⟩
        have HD : Hid (take4 v3 = if B3 then finAcked v3 else v3) := Lib.hid (by rw [hB]; rfl)
        go_upto_region 7 with fail
        go_cut [46] from 30 to 46 (fun v46 wx => v46 = .bool B3 ∧ Hid (CB w0 ((n, .cells (sgC s) 28) :: fx) q v3 wx))
        case first =>
          have c9 := H3.out.c 9 (.bool v3.cl) (fun _ => rfl)
          have c5 := H3.out.c 5 (.int .u32 v3.una) (fun _ => rfl)
          have c8 := H3.out.c 8 (.pointer (some ⟨q.g, 0, none⟩)) (fun _ => rfl)
          have kE : Hid (∀ k, Calls Try.prog 68 #[.pointer (some ⟨q.g, 0, none⟩)] (W3.drewN k) fun e w' => e = .returned (.int .u32 (endV v3)) ∧ w' = W3.drewN k) := Lib.hid (fun k => (H3.out.drewN k).rEnd)
          cases hm : v3.cl with
          | false =>
            rw [hm] at c9
            have HB : Hid (B3 = false) := Lib.hid (by rw [hB, hm]; rfl)
            clear hB hm
            go_quiet (fail)
            have H4 := Lib.hid (H3.out.drewN nq)
            go_wp2_with fail
            go_meet
            case rel => exact ⟨by rw [HB.out], H4⟩
          | true =>
            rw [hm] at c9
            obtain ⟨y, hy⟩ : ∃ y, y = (endV v3 + 1) % 4294967296 := ⟨_, rfl⟩
            have HB : Hid (B3 = (v3.una == y)) := Lib.hid (by rw [hB, hm, beq_i, hy]; rfl)
            have e1 := hy.symm
            generalize endV v3 = ee at kE e1
            clear hB hm hy
            generalize hY : (v3.una == y) = Y at HB
            go_quiet (first | (go_at_call 68; exact Calls.quiet_of_same (kE.out _)))
            have H4 := Lib.hid (H3.out.drewN nq)
            go_wp2_with fail
            go_meet
            case rel => exact ⟨by rw [HB.out], H4⟩
        case rest =>
          obtain ⟨rfl, H4⟩ := hcut
          clear hB H3
          rename World => W4
          go_upto_if 46 with fail
          go_cut [] from 46 to 48 (fun wx => Hid (CB w0 ((n, .cells (sgC s) 28) :: fx) q (take4 v3) wx))
          case first =>
            cases B3 with
            | true =>
              have KO := Lib.hid (finAcked_ok H4.out)
              go_wp2_with fail
              refine KO.out.mono ?_
              rintro e W5 ⟨rfl, h6⟩
              have H6 := Lib.hid h6
              clear h6
              go_wp2_with fail
              go_meet
              case rel =>
                rw [HD.out]
                exact H6
            | false =>
              go_wp2_with fail
              go_meet
              case rel =>
                rw [HD.out]
                exact H4
          case rest =>
            clear H4 HD
            rename World => W4
            have H4 := hcut
            clear hcut
            generalize take4 v3 = v4 at H4 H5
            obtain ⟨b_0, b_1, b_2, b_3, b_4, b_5, b_6, b_7⟩ := SgAt.all (show SgAt W4 n s from H4.out.hd)
            have KD := Lib.hid (dataTo_ok H4.out s SO.out)
            go_wp2_with fail
            refine KD.out.mono ?_
            rintro e W5 ⟨rfl, h6⟩
            have H6 := Lib.hid h6
            clear h6 KD H4 b_0 b_1 b_2 b_3 b_4 b_5 b_6 b_7
            obtain ⟨b_0, b_1, b_2, b_3, b_4, b_5, b_6, b_7⟩ := SgAt.all (show SgAt W5 n s from H6.out.hd)
            have KD := Lib.hid (finTo_ok H6.out s SZ.out)
            go_wp2_with fail
            refine KD.out.mono ?_
            rintro e W6 ⟨rfl, h7⟩
            have H7 := Lib.hid h7
            rw [← H5.out] at H7
            clear h7 KD H6 b_0 b_1 b_2 b_3 b_4 b_5 b_6 b_7 H5
            obtain ⟨m0, hm0⟩ : ∃ m0, m0 = v5.sent.length := ⟨_, rfl⟩
            have c26 : ∃ p c, W6.cell? ⟨q.c, 26, none⟩ = some (.slice p m0 c) := by
              obtain ⟨sl, m, _⟩ := H7.out.ex
              obtain ⟨p, c, rfl⟩ := m.row.shape
              exact ⟨p, c, by rw [cell_of_block m.at_, hm0]; rfl⟩
            obtain ⟨p1, cp1, c26⟩ := c26
            have KF := Lib.hid (flush_ok H7.out (by rw [T5.out.1]; exact HS.out))
            rw [← hm0] at HR
            have HM := Lib.hid hm0
            clear hm0
            go_wp2_with fail
            refine KF.out.mono ?_
            rintro e W7 ⟨rfl, h8⟩
            have H8 := Lib.hid h8
            clear h8 KF c26
            have L8 : Hid ((flushV v5).sent.length ≤ 100000000) := Lib.hid (by have := flush_len v5; have := T5.out.1; have := H7.out.llen; have := HS.out; rw [T5.out.1] at *; omega)
            clear H7
            generalize flushV v5 = v6 at H8 HR L8
            obtain ⟨b_0, b_1, b_2, b_3, b_4, b_5, b_6, b_7⟩ := SgAt.all (show SgAt W7 n s from H8.out.hd)
            obtain ⟨m6, hm6⟩ : ∃ m6, m6 = v6.sent.length := ⟨_, rfl⟩
            have c26 : ∃ p c, ∀ wx, Below W7.heap.size W7 wx → wx.cell? ⟨q.c, 26, none⟩ = some (.slice p m6 c) := by
              obtain ⟨sl, m, _⟩ := H8.out.ex
              obtain ⟨p, c, rfl⟩ := m.row.shape
              exact ⟨p, c, fun wx hb => by rw [hb.cell (p := ⟨q.c, 26, none⟩) H8.out.lt, cell_of_block m.at_, hm6]; rfl⟩
            obtain ⟨p2, cp2, hc26⟩ := c26
            have C26 := Lib.hid hc26
            have HM6 := Lib.hid hm6
            have HR2 : Hid (R = if (decide (0 < sgN s) && decide (v6.sent.length = m0)) = true then ackV v6 else v6) := Lib.hid HR.out
            rw [← hm6] at HR2
            clear hc26 hm6 HR
            have KN := Lib.hid (len_sg W7 s (by have := SZ.out; omega))
            generalize sgN s = N at KN HR2
            go_wp2_with fail
            refine KN.out.mono ?_
            rintro e W8 ⟨rfl, d⟩
            have H9 := Lib.hid (H8.out.grow d)
            have c26 := C26.out W8 d
            clear d KN H8 C26 b_0 b_1 b_2 b_3 b_4 b_5 b_6 b_7
            by_cases hN : 0 < N
            · have g1 : decide (0 < N) = true := decide_eq_true hN
              by_cases hm : m6 = m0
              · have g2 : ((m6 : Int) == (m0 : Int)) = true := by rw [hm]; simp
                have HD : Hid (R = ackV v6) := Lib.hid (by rw [HR2.out, g1, decide_eq_true hm]; rfl)
                clear hN hm
                have KA := Lib.hid (ack_ok H9.out L8.out)
                go_wp2_with fail
                refine KA.out.mono ?_
                rintro e W9 ⟨rfl, h10⟩
                have H10 := Lib.hid h10
                clear h10
                go_wp2_with fail
                go_end0
                rw [HD.out]
                exact ⟨rfl, H10.out.let_⟩
              · have g2 : ((m6 : Int) == (m0 : Int)) = false := beq_eq_false_iff_ne.2 (by omega)
                have HD : Hid (R = v6) := Lib.hid (by rw [HR2.out, g1, decide_eq_false hm]; rfl)
                clear hN hm
                go_wp2_with fail
                go_end0
                rw [HD.out]
                exact ⟨rfl, H9.out.let_⟩
            · have g1 : decide (0 < N) = false := decide_eq_false hN
              have HD : Hid (R = v6) := Lib.hid (by rw [HR2.out, g1]; rfl)
              clear hN
              go_wp2_with fail
              go_end0
              rw [HD.out]
              exact ⟨rfl, H9.out.let_⟩
end
end Go.Proofs.Ytlajalfalepbhaa
