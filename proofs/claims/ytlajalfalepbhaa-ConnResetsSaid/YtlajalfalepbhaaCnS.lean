/-
  Layer 15: a segment comes: In. Conditions: as said.
-/
import Derived.Test.YtlajalfalepbhaaCnQ
namespace Go.Proofs.Ytlajalfalepbhaa
open Go.RowKit
set_option linter.unusedVariables false

section
variable {w0 w w' : World} {fx : List (Nat × Obj)} {q : Bq} {v v' : Cn}
set_option maxRecDepth 100000 in
set_option maxHeartbeats 8000000 in
theorem in_ok (h : CB w0 fx q v w) (s : Sg) (so : s.ok) (sz : s.da.size ≤ 100000) (hs : v.sent.length ≤ 99990000) :
    Calls Try.prog 13 #[.pointer (some ⟨q.c, 0, none⟩), .agg (sgC s)] w fun e w' => e = .returned (.tuple #[]) ∧ CB w0 fx q (inV v s) w' := by
  have SO := Lib.hid so
  have SZ := Lib.hid sz
  have SU := Lib.hid (sg_u32 so).2
  have HS := Lib.hid hs
  have HS2 : Hid (v.sent.length ≤ 100000000) := Lib.hid (by omega)
  have HH := Lib.hid h
  obtain ⟨R, hR⟩ : ∃ R, R = inV v s := ⟨_, rfl⟩
  rw [← hR]
  unfold inV at hR
  have HR := Lib.hid hR
  clear h so sz hs hR
  go_enter Try.func13, Try.ntmps13
  go_upto_region 1 with fail
  have FA : Hid (SgAt (w.alloc (.cells (sgC s) 28)) w.heap.size s) := Lib.hid (sg_new w _ s rfl)
  have BL : Hid (Below w.heap.size w (w.alloc (.cells (sgC s) 28))) := Lib.hid ((Below.refl _ _).alloc (Nat.le_refl _) _)
  have H1 := Lib.hid (HH.out.keepBehind BL.out FA.out (Nat.le_refl _))
  have n1 : ¬ w.heap.size = q.c := by have := HH.out.lt; omega
  have n2 : ¬ q.c = w.heap.size := by have := HH.out.lt; omega
  generalize w.alloc _ = W1 at H1 ⊢
  generalize w.heap.size = n at H1 n1 n2 ⊢
  clear FA BL HH
  have KS := Lib.hid (state_ok H1.out)
  by_cases h9 : v.st = 9
  · rw [if_pos h9] at HR
    rw [h9] at KS
    clear h9
    go_wp2_with fail
    refine KS.out.mono ?_
    rintro e W1 ⟨rfl, rfl⟩
    go_wp2_with fail
    exact bodyPost_ret (v := .tuple #[]) (results_none rfl _ _ _) rfl (by rw [HR.out]; exact ⟨rfl, H1.out.let_⟩)
  · have g9 : (v.st == 9) = false := beq_eq_false_iff_ne.2 h9
    rw [if_neg h9] at HR
    clear h9
    go_wp2_with fail
    refine KS.out.mono ?_
    rintro e W1 ⟨rfl, rfl⟩
    clear KS
    have KC := Lib.hid (counts_ok H1.out s SZ.out)
    generalize countsV v s = C at KC HR
    obtain ⟨b_0, b_1, b_2, b_3, b_4, b_5, b_6, b_7⟩ := SgAt.all (show SgAt W1 n s from H1.out.hd)
    go_wp2_with fail
    refine KC.out.mono ?_
    rintro e W2 ⟨rfl, h2⟩
    have H2 := Lib.hid h2
    clear h2 KC H1 b_0 b_1 b_2 b_3 b_4 b_5 b_6 b_7 g9
    cases C with
    | false =>
      rw [if_pos rfl] at HR
      have KF := Lib.hid (has_k W2 s 2 4 (by decide) rfl)
      generalize hasF s.fl 2 = F at KF HR
      obtain ⟨b_0, b_1, b_2, b_3, b_4, b_5, b_6, b_7⟩ := SgAt.all (show SgAt W2 n s from H2.out.hd)
      go_wp2_with fail
      refine KF.out.mono ?_
      rintro e W3 ⟨rfl, d⟩
      have H3 := Lib.hid (H2.out.grow d)
      clear d H2 KF b_0 b_1 b_2 b_3 b_4 b_5 b_6 b_7
      cases F with
      | true =>
        rw [if_pos rfl] at HR
        go_wp2_with fail
        go_end0
        rw [HR.out]
        exact ⟨rfl, H3.out.let_⟩
      | false =>
        rw [if_neg (by decide)] at HR
        have KX := Lib.hid (ack_ok H3.out HS2.out)
        go_wp2_with fail
        refine KX.out.mono ?_
        rintro e WX ⟨rfl, h9⟩
        have H9 := Lib.hid h9
        clear h9 KX
        go_wp2_with fail
        go_end0
        rw [HR.out]
        exact ⟨rfl, H9.out.let_⟩
    | true =>
      rw [if_neg (by decide)] at HR
      have KF := Lib.hid (has_k W2 s 2 4 (by decide) rfl)
      generalize hasF s.fl 2 = F at KF HR
      obtain ⟨b_0, b_1, b_2, b_3, b_4, b_5, b_6, b_7⟩ := SgAt.all (show SgAt W2 n s from H2.out.hd)
      go_wp2_with fail
      refine KF.out.mono ?_
      rintro e W3 ⟨rfl, d⟩
      have H3 := Lib.hid (H2.out.grow d)
      clear d H2 KF b_0 b_1 b_2 b_3 b_4 b_5 b_6 b_7
      cases F with
      | true =>
        rw [if_pos rfl] at HR
        obtain ⟨b_0, b_1, b_2, b_3, b_4, b_5, b_6, b_7⟩ := SgAt.all (show SgAt W3 n s from H3.out.hd)
        have KX := Lib.hid (takeRst_ok H3.out s HS2.out)
        go_wp2_with fail
        refine KX.out.mono ?_
        rintro e WX ⟨rfl, h9⟩
        have H9 := Lib.hid h9
        clear h9 KX
        go_wp2_with fail
        go_end0
        rw [HR.out]
        exact ⟨rfl, H9.out.let_⟩
      | false =>
        rw [if_neg (by decide)] at HR
        have KF := Lib.hid (has_k W3 s 1 2 (by decide) rfl)
        generalize hasF s.fl 1 = F2 at KF HR
        obtain ⟨b_0, b_1, b_2, b_3, b_4, b_5, b_6, b_7⟩ := SgAt.all (show SgAt W3 n s from H3.out.hd)
        go_wp2_with fail
        refine KF.out.mono ?_
        rintro e W4 ⟨rfl, d⟩
        have H4 := Lib.hid (H3.out.grow d)
        clear d H3 KF b_0 b_1 b_2 b_3 b_4 b_5 b_6 b_7
        cases F2 with
        | true =>
          rw [if_pos rfl] at HR
          have KX := Lib.hid (ack_ok H4.out HS2.out)
          go_wp2_with fail
          refine KX.out.mono ?_
          rintro e WX ⟨rfl, h9⟩
          have H9 := Lib.hid h9
          clear h9 KX
          go_wp2_with fail
          go_end0
          rw [HR.out]
          exact ⟨rfl, H9.out.let_⟩
        | false =>
          rw [if_neg (by decide)] at HR
          have KF := Lib.hid (has_k W4 s 4 16 (by decide) rfl)
          generalize hasF s.fl 4 = F3 at KF HR
          obtain ⟨b_0, b_1, b_2, b_3, b_4, b_5, b_6, b_7⟩ := SgAt.all (show SgAt W4 n s from H4.out.hd)
          go_wp2_with fail
          refine KF.out.mono ?_
          rintro e W5 ⟨rfl, d⟩
          have H5 := Lib.hid (H4.out.grow d)
          clear d H4 KF b_0 b_1 b_2 b_3 b_4 b_5 b_6 b_7
          cases F3 with
          | false =>
            rw [if_pos rfl] at HR
            go_wp2_with fail
            go_end0
            rw [HR.out]
            exact ⟨rfl, H5.out.let_⟩
          | true =>
            rw [if_neg (by decide)] at HR
            obtain ⟨y, hy⟩ : ∃ y, y = (v.iss + 1) % 4294967296 := ⟨_, rfl⟩
            rw [← hy] at HR
            obtain ⟨B, hB⟩ : ∃ B, B = (decide (v.st = 1) && decide (s.ak ≠ y)) := ⟨_, rfl⟩
            have HR2 : Hid (R = if B = true then refuseV v s else if neverV v s.ak = true then ackV v else takeV v s) := Lib.hid (by
              rw [HR.out, hB]
              by_cases e1 : v.st = 1 <;> by_cases e2 : s.ak = y <;> simp [e1, e2])
            clear HR
            go_upto_region 11 with fail
            go_cut [35] from 35 to 50 (fun v35 wx => v35 = .bool B ∧ Hid (CB w0 ((n, .cells (sgC s) 28) :: fx) q v wx))
            case first =>
              obtain ⟨b_0, b_1, b_2, b_3, b_4, b_5, b_6, b_7⟩ := SgAt.all (show SgAt W5 n s from H5.out.hd)
              have c2 := H5.out.c 2 (.int .i64 v.st) (fun _ => rfl)
              have c4 := H5.out.c 4 (.int .u32 v.iss) (fun _ => rfl)
              have e1 := hy.symm
              clear hy
              by_cases h1 : v.st = 1
              · have g1 : (v.st == 1) = true := by rw [h1]; rfl
                have HB : Hid (B = (s.ak != y)) := Lib.hid (by rw [hB, h1]; by_cases e2 : s.ak = y <;> simp [e2])
                clear hB h1
                generalize hY : (s.ak != y) = Y at HB
                go_quiet (fail)
                have H6 := Lib.hid (H5.out.drewN nq)
                go_wp2_with fail
                go_meet
                case rel => exact ⟨by rw [HB.out], H6⟩
              · have g1 : (v.st == 1) = false := beq_eq_false_iff_ne.2 h1
                have HB : Hid (B = false) := Lib.hid (by rw [hB]; simp [h1])
                clear hB h1
                go_quiet (fail)
                have H6 := Lib.hid (H5.out.drewN nq)
                go_wp2_with fail
                go_meet
                case rel => exact ⟨by rw [HB.out], H6⟩
            case rest =>
              obtain ⟨rfl, H6⟩ := hcut
              rename World => W6
              clear H5 hB hy
              cases B with
              | true =>
                have HR := Lib.hid (HR2.out.trans (if_pos rfl))
                clear HR2
                obtain ⟨b_0, b_1, b_2, b_3, b_4, b_5, b_6, b_7⟩ := SgAt.all (show SgAt W6 n s from H6.out.hd)
                have KX := Lib.hid (refuse_ok H6.out s HS2.out)
                go_wp2_with fail
                refine KX.out.mono ?_
                rintro e WX ⟨rfl, h9⟩
                have H9 := Lib.hid h9
                clear h9 KX
                go_wp2_with fail
                go_end0
                rw [HR.out]
                exact ⟨rfl, H9.out.let_⟩
              | false =>
                have HR := Lib.hid (HR2.out.trans (if_neg (by decide)))
                clear HR2
                have KN := Lib.hid (never_ok H6.out s.ak)
                generalize neverV v s.ak = B at KN HR
                obtain ⟨b_0, b_1, b_2, b_3, b_4, b_5, b_6, b_7⟩ := SgAt.all (show SgAt W6 n s from H6.out.hd)
                go_wp2_with fail
                refine KN.out.mono ?_
                rintro e W6 ⟨rfl, rfl⟩
                clear KN
                cases B with
                | true =>
                  rw [if_pos rfl] at HR
                  have KX := Lib.hid (ack_ok H6.out HS2.out)
                  go_wp2_with fail
                  refine KX.out.mono ?_
                  rintro e WX ⟨rfl, h9⟩
                  have H9 := Lib.hid h9
                  clear h9 KX
                  go_wp2_with fail
                  go_end0
                  rw [HR.out]
                  exact ⟨rfl, H9.out.let_⟩
                | false =>
                  rw [if_neg (by decide)] at HR
                  have KX := Lib.hid (take_ok H6.out s SO.out SZ.out HS.out)
                  go_wp2_with fail
                  refine KX.out.mono ?_
                  rintro e WX ⟨rfl, h9⟩
                  have H9 := Lib.hid h9
                  clear h9 KX
                  go_wp2_with fail
                  go_end0
                  rw [HR.out]
                  exact ⟨rfl, H9.out.let_⟩
end
end Go.Proofs.Ytlajalfalepbhaa
