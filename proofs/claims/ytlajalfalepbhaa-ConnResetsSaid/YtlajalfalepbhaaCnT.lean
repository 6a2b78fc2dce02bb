/-
  Layer 15: a tick goes by. Conditions: as said.
-/
import Derived.Test.YtlajalfalepbhaaCnS
namespace Go.Proofs.Ytlajalfalepbhaa
open Go.RowKit
set_option linter.unusedVariables false

section
variable {w0 w w' : World} {fx : List (Nat × Obj)} {q : Bq} {v v' : Cn}
set_option maxHeartbeats 400000 in
theorem giveUp_ok (h : CB w0 fx q v w) :
    Calls Try.prog 97 #[.pointer (some ⟨q.c, 0, none⟩)] w fun e w' => e = .returned (.tuple #[]) ∧ CB w0 fx q (giveUpV v) w' := by
  have c2 := h.c 2 (.int .i64 v.st) (fun _ => rfl)
  have f2 := h.f 2
  have c3 := h.c 3 (.bool v.rs) (fun _ => rfl)
  have f3 := h.f 3
  have H2 := Lib.hid ((h.set 2 (.int .i64 9) { v with st := 9 } (by decide) (fun _ => rfl)).set 3 (.bool true) { v with st := 9, rs := true } (by decide) (fun _ => rfl))
  clear h
  go_enter Try.func97, Try.ntmps97
  go_wp2_with fail
  go_end0
  exact ⟨rfl, H2.out⟩
set_option maxHeartbeats 400000 in
theorem longer_ok (h : CB w0 fx q v w) :
    Calls Try.prog 81 #[.pointer (some ⟨q.c, 0, none⟩)] w fun e w' => e = .returned (.tuple #[]) ∧ CB w0 fx q (longerV v) w' := by
  have c17 := h.c 17 (.pointer (some ⟨q.k, 0, none⟩)) (fun _ => rfl)
  have KB := Lib.hid h.kBack
  clear h
  go_enter Try.func81, Try.ntmps81
  go_wp2_with fail
  refine KB.out.mono ?_
  rintro e W1 ⟨rfl, h1⟩
  have H1 := Lib.hid h1
  clear h1 KB c17
  have c17 := H1.out.c 17 (.pointer (some ⟨q.k, 0, none⟩)) (fun _ => rfl)
  have c18 := H1.out.c 18 (.int .i64 v.left) (fun _ => rfl)
  have f18 := H1.out.f 18
  have KW : Hid (Calls Try.prog 37 #[.pointer (some ⟨q.k, 0, none⟩)] W1 fun e w' => e = .returned (.int .i64 (backV v.ck).t) ∧ w' = W1) := Lib.hid H1.out.rWait
  go_wp2_with fail
  refine KW.out.mono ?_
  rintro e W1 ⟨rfl, rfl⟩
  go_wp2_with fail
  go_end0
  exact ⟨rfl, H1.out.set 18 (.int .i64 (backV v.ck).t) (longerV v) (by decide) (fun _ => rfl)⟩
theorem sub_send (v : Cn) (s : Sg) (fl : Int) : (sendV v s fl).sent.length = v.sent.length + 1 := by
  show (v.sent ++ [_]).length = _
  rw [List.length_append]; rfl
set_option maxRecDepth 100000 in
set_option maxHeartbeats 2000000 in
theorem againSyn_ok (h : CB w0 fx q v w) (hs : v.sent.length ≤ 100000000) :
    Calls Try.prog 80 #[.pointer (some ⟨q.c, 0, none⟩)] w fun e w' => e = .returned (.tuple #[]) ∧ CB w0 fx q (againSynV v) w' := by
  have HH := Lib.hid h
  have HS := Lib.hid hs
  obtain ⟨R, hR⟩ : ∃ R, R = againSynV v := ⟨_, rfl⟩
  rw [← hR]
  unfold againSynV at hR
  have HR := Lib.hid hR
  obtain ⟨y, hy⟩ : ∃ y, y = IntKind.i64.wrap (v.tries + 1) := ⟨_, rfl⟩
  have e1 := hy.symm
  have HT : Hid (triesV v = { v with tries := y }) := Lib.hid (by rw [hy]; rfl)
  have c19 := h.c 19 (.int .i64 v.tries) (fun _ => rfl)
  have f19 := h.f 19
  have H1 : Hid (CB w0 fx q { v with tries := y } (w.setCell ⟨q.c, 19, none⟩ (.int .i64 y))) := Lib.hid (h.set 19 (.int .i64 y) { v with tries := y } (by decide) (fun _ => rfl))
  clear h hs hR hy
  go_enter Try.func80, Try.ntmps80
  go_upto_region 1 with fail
  generalize World.setCell _ _ _ = W1 at H1 ⊢
  rw [HT.out] at HR
  clear c19 f19 e1 HT HH
  have c19 := H1.out.c 19 (.int .i64 y) (fun _ => rfl)
  have c20 := H1.out.c 20 (.int .i64 v.mt) (fun _ => rfl)
  by_cases hl : v.mt < y
  · have g : decide (v.mt < y) = true := decide_eq_true hl
    have HD := Lib.hid (HR.out.trans (if_pos hl))
    clear hl HR
    go_quiet (fail)
    have H2 := Lib.hid (H1.out.drewN nq)
    generalize W1.drewN nq = W2 at H2 ⊢
    clear H1 c19 c20
    have KG := Lib.hid (giveUp_ok H2.out)
    go_wp2_with fail
    refine KG.out.mono ?_
    rintro e W3 ⟨rfl, h3⟩
    have H3 := Lib.hid h3
    clear h3
    go_wp2_with fail
    exact bodyPost_ret (v := .tuple #[]) (results_none rfl _ _ _) rfl (by rw [HD.out]; exact ⟨rfl, H3.out⟩)
  · have g : decide (v.mt < y) = false := decide_eq_false hl
    have HD := Lib.hid (HR.out.trans (if_neg hl))
    clear hl HR
    go_quiet (fail)
    have H2 := Lib.hid (H1.out.drewN nq)
    generalize W1.drewN nq = W2 at H2 ⊢
    clear H1 c19 c20
    have c21 := H2.out.c 21 (.bool v.mr) (fun _ => rfl)
    have c22 := H2.out.c 22 (.int .u32 v.me) (fun _ => rfl)
    have c23 := H2.out.c 23 (.int .i64 v.ma) (fun _ => rfl)
    have f21 := H2.out.f 21
    have f22 := H2.out.f 22
    have f23 := H2.out.f 23
    go_upto_region 4 with fail
    have H3 := Lib.hid (H2.out.setM false 0 0)
    generalize World.setCell _ _ _ = W3 at H3 ⊢
    clear H2 c21 c22 c23 f21 f22 f23
    have KG := Lib.hid (longer_ok H3.out)
    go_wp2_with fail
    refine KG.out.mono ?_
    rintro e W4 ⟨rfl, h4⟩
    have H4 := Lib.hid h4
    clear h4 KG H3
    have KG := Lib.hid (syn_ok H4.out HS.out)
    go_wp2_with fail
    refine KG.out.mono ?_
    rintro e W5 ⟨rfl, h5⟩
    have H5 := Lib.hid h5
    clear h5 KG
    go_wp2_with fail
    go_end0
    rw [HD.out]
    exact ⟨rfl, H5.out⟩
set_option maxRecDepth 100000 in
set_option maxHeartbeats 4000000 in
theorem again_ok (h : CB w0 fx q v w) (hs : v.sent.length ≤ 99990000) :
    Calls Try.prog 82 #[.pointer (some ⟨q.c, 0, none⟩)] w fun e w' => e = .returned (.tuple #[]) ∧ CB w0 fx q (againV v) w' := by
  have HH := Lib.hid h
  have HS := Lib.hid hs
  obtain ⟨R, hR⟩ : ∃ R, R = againV v := ⟨_, rfl⟩
  rw [← hR]
  unfold againV at hR
  have HR := Lib.hid hR
  clear h hs hR
  have c11 := HH.out.c 11 (.int .i64 v.win) (fun _ => rfl)
  have c19 := HH.out.c 19 (.int .i64 v.tries) (fun _ => rfl)
  have f19 := HH.out.f 19
  obtain ⟨y, hy⟩ : ∃ y, y = IntKind.i64.wrap (v.tries + 1) := ⟨_, rfl⟩
  have e1 := hy.symm
  have HT : Hid (triesV v = { v with tries := y }) := Lib.hid (by rw [hy]; rfl)
  clear hy
  go_enter Try.func82, Try.ntmps82
  go_upto_if 7 with fail
  go_cut [] from 7 to 14 (fun wx => Hid (CB w0 fx q (again1 v) wx))
  case first =>
    by_cases h0 : v.win = 0
    · have HD : Hid (again1 v = v) := Lib.hid (by unfold again1; rw [if_pos h0])
      have g : (v.win != 0) = false := by rw [h0]; rfl
      go_wp2_with fail
      go_meet
      case rel =>
        rw [HD.out]
        exact HH
    · have HD : Hid (again1 v = { v with tries := y }) := Lib.hid (by unfold again1; rw [if_neg h0, HT.out])
      have g : (v.win != 0) = true := by simpa using h0
      have H1 := Lib.hid (HH.out.set 19 (.int .i64 y) { v with tries := y } (by decide) (fun _ => rfl))
      go_wp2_with fail
      go_meet
      case rel =>
        rw [HD.out]
        exact H1
  case rest =>
    rename World => W1
    have H1 := hcut
    clear hcut c11 c19 f19 e1 HT HH
    obtain ⟨v1, hv1⟩ : ∃ v1, v1 = again1 v := ⟨_, rfl⟩
    have S1 : Hid (v1.sent.length ≤ 99990000) := Lib.hid (by have := HS.out; rw [hv1]; unfold again1 triesV; split <;> exact this)
    have WW : Hid (v1.win = v.win) := Lib.hid (by rw [hv1]; unfold again1 triesV; split <;> rfl)
    have MT : Hid (v1.mt = v.mt) := Lib.hid (by rw [hv1]; unfold again1 triesV; split <;> rfl)
    rw [← hv1] at H1 HR
    rw [← WW.out, ← MT.out] at HR
    clear hv1 WW HS MT
    have c19 := H1.out.c 19 (.int .i64 v1.tries) (fun _ => rfl)
    have c20 := H1.out.c 20 (.int .i64 v1.mt) (fun _ => rfl)
    by_cases hl : v1.mt < v1.tries
    · have g : decide (v1.mt < v1.tries) = true := decide_eq_true hl
      have HD := Lib.hid (HR.out.trans (if_pos hl))
      clear hl HR
      go_upto_region 2 with fail
      go_quiet (fail)
      have H2 := Lib.hid (H1.out.drewN nq)
      generalize W1.drewN nq = W2 at H2 ⊢
      clear H1 c19 c20
      have KR := Lib.hid (rst_ok H2.out (by have := S1.out; omega))
      go_wp2_with fail
      refine KR.out.mono ?_
      rintro e W3 ⟨rfl, h3⟩
      have H3 := Lib.hid h3
      clear h3 KR H2
      have KG := Lib.hid (giveUp_ok H3.out)
      go_wp2_with fail
      refine KG.out.mono ?_
      rintro e W4 ⟨rfl, h4⟩
      have H4 := Lib.hid h4
      clear h4 KG
      go_wp2_with fail
      exact bodyPost_ret (v := .tuple #[]) (results_none rfl _ _ _) rfl (by rw [HD.out]; exact ⟨rfl, H4.out⟩)
    · have g : decide (v1.mt < v1.tries) = false := decide_eq_false hl
      have HD := Lib.hid (HR.out.trans (if_neg hl))
      clear hl HR
      go_upto_region 2 with fail
      go_quiet (fail)
      have H2 := Lib.hid (H1.out.drewN nq)
      generalize W1.drewN nq = W2 at H2 ⊢
      clear H1 c19 c20
      have c21 := H2.out.c 21 (.bool v1.mr) (fun _ => rfl)
      have c22 := H2.out.c 22 (.int .u32 v1.me) (fun _ => rfl)
      have c23 := H2.out.c 23 (.int .i64 v1.ma) (fun _ => rfl)
      have f21 := H2.out.f 21
      have f22 := H2.out.f 22
      have f23 := H2.out.f 23
      go_upto_region 6 with fail
      have H3 : Hid (CB w0 fx q (noMeas v1) _) := Lib.hid (H2.out.setM false 0 0)
      generalize World.setCell _ _ _ = W3 at H3 ⊢
      clear H2 c21 c22 c23 f21 f22 f23
      have KG := Lib.hid (longer_ok H3.out)
      go_wp2_with fail
      refine KG.out.mono ?_
      rintro e W4 ⟨rfl, h4⟩
      have H4 := Lib.hid h4
      clear h4 KG H3
      have c5 := H4.out.c 5 (.int .u32 v1.una) (fun _ => rfl)
      have c6 := H4.out.c 6 (.int .u32 v1.nxt) (fun _ => rfl)
      have f6 := H4.out.f 6
      go_upto_region 8 with fail
      have H5 : Hid (CB w0 fx q (again2 v1) _) := Lib.hid (H4.out.set 6 (.int .u32 v1.una) (again2 v1) (by decide) (fun _ => rfl))
      generalize World.setCell _ _ _ = W5 at H5 ⊢
      clear H4 c5 c6 f6
      have S2 : Hid ((again2 v1).sent.length ≤ 99990000) := Lib.hid S1.out
      have c11 := H5.out.c 11 (.int .i64 v1.win) (fun _ => rfl)
      generalize again2 v1 = v2 at H5 HD S2
      clear S1
      obtain ⟨x, hx⟩ : ∃ x, x = if v1.win = 0 then 1 else v1.win := ⟨_, rfl⟩
      rw [← hx] at HD
      go_upto_if 46 with fail
      go_cut [2] from 41 to 46 (fun v2_ wx => v2_ = .int .i64 x ∧ wx = W5)
      case first =>
        by_cases h0 : v1.win = 0
        · have g : (v1.win == 0) = true := by rw [h0]; rfl
          have HX := Lib.hid (hx.trans (if_pos h0))
          clear hx
          go_wp2_with fail
          go_meet
          case rel => exact ⟨by rw [HX.out], rfl⟩
        · have g : (v1.win == 0) = false := beq_eq_false_iff_ne.2 h0
          have HX := Lib.hid (hx.trans (if_neg h0))
          clear hx
          go_wp2_with fail
          go_meet
          case rel => exact ⟨by rw [HX.out], rfl⟩
      case rest =>
        obtain ⟨rfl, rfl⟩ := hcut
        rename World => W5
        clear hx c11
        have HE : Hid (R = if dataV v2 x = [] then sendFinV v2 else sendDataV v2 x) := HD
        clear HD
        have KD := Lib.hid (sendData_ok H5.out x (by have := S2.out; omega))
        go_wp2_with fail
        refine KD.out.mono ?_
        rintro e W6 ⟨rfl, h6⟩
        have H6 := Lib.hid h6
        clear h6 KD H5
        by_cases hd : dataV v2 x = []
        · have g : (dataV v2 x).isEmpty = true := by rw [hd]; rfl
          have HD := Lib.hid (HE.out.trans (if_pos hd))
          have HQ : Hid (sendDataV v2 x = v2) := Lib.hid (by unfold sendDataV; rw [if_pos hd])
          rw [HQ.out] at H6
          clear hd HE
          have KF := Lib.hid (sendFin_ok H6.out (by have := S2.out; omega))
          go_wp2_with fail
          refine KF.out.mono ?_
          rintro e W7 ⟨rfl, h7⟩
          have H7 := Lib.hid h7
          clear h7
          go_wp2_with fail
          go_end0
          rw [HD.out]
          exact ⟨rfl, H7.out⟩
        · have g : (dataV v2 x).isEmpty = false := by cases hq : dataV v2 x with | nil => exact absurd hq hd | cons a l => rfl
          have HD := Lib.hid (HE.out.trans (if_neg hd))
          clear hd HE
          go_wp2_with fail
          go_end0
          rw [HD.out]
          exact ⟨rfl, H6.out⟩
set_option maxRecDepth 100000 in
set_option maxHeartbeats 2000000 in
theorem ranOut_ok (h : CB w0 fx q v w) (hs : v.sent.length ≤ 99990000) :
    Calls Try.prog 53 #[.pointer (some ⟨q.c, 0, none⟩)] w fun e w' => e = .returned (.tuple #[]) ∧ CB w0 fx q (ranOutV v) w' := by
  have HH := Lib.hid h
  have HS := Lib.hid hs
  obtain ⟨R, hR⟩ : ∃ R, R = ranOutV v := ⟨_, rfl⟩
  rw [← hR]
  unfold ranOutV at hR
  have HR := Lib.hid hR
  clear h hs hR
  have c2 := HH.out.c 2 (.int .i64 v.st) (fun _ => rfl)
  go_enter Try.func53, Try.ntmps53
  by_cases h1 : v.st = 1
  · have HD := Lib.hid (HR.out.trans (if_pos h1))
    rw [h1] at c2
    clear h1 HR
    have KX := Lib.hid (againSyn_ok HH.out (by have := HS.out; omega))
    go_wp2_with fail
    refine KX.out.mono ?_
    rintro e W1 ⟨rfl, h9⟩
    have H9 := Lib.hid h9
    clear h9
    go_wp2_with fail
    go_end0
    rw [HD.out]
    exact ⟨rfl, H9.out⟩
  · have HD := Lib.hid (HR.out.trans (if_neg h1))
    have g1 : (v.st == 1) = false := beq_eq_false_iff_ne.2 h1
    clear h1 HR
    obtain ⟨B, hB⟩ : ∃ B, B = (decide (v.nxt = v.una) && decide (v.top = v.una)) := ⟨_, rfl⟩
    have HE : Hid (R = if B = true then probeV (longerV v) else againV v) := Lib.hid (by
      rw [HD.out, hB]
      by_cases e1 : v.nxt = v.una <;> by_cases e2 : v.top = v.una <;> simp [e1, e2])
    clear HD
    go_upto_region 3 with fail
    go_cut [12] from 12 to 32 (fun v12 wx => v12 = .bool B ∧ Hid (CB w0 fx q v wx))
    case first =>
      have c5 := HH.out.c 5 (.int .u32 v.una) (fun _ => rfl)
      have c6 := HH.out.c 6 (.int .u32 v.nxt) (fun _ => rfl)
      have c7 := HH.out.c 7 (.int .u32 v.top) (fun _ => rfl)
      by_cases h2 : v.nxt = v.una
      · have g2 : (v.nxt == v.una) = true := by rw [h2]; simp
        have HB : Hid (B = (v.top == v.una)) := Lib.hid (by rw [hB, beq_i, h2]; simp)
        clear hB h2
        generalize hY : (v.top == v.una) = Y at HB
        go_quiet (fail)
        have H3 := Lib.hid (HH.out.drewN nq)
        go_wp2_with fail
        go_meet
        case rel => exact ⟨by rw [HB.out], H3⟩
      · have g2 : (v.nxt == v.una) = false := beq_eq_false_iff_ne.2 h2
        have HB : Hid (B = false) := Lib.hid (by rw [hB]; simp [h2])
        clear hB h2
        go_quiet (fail)
        have H3 := Lib.hid (HH.out.drewN nq)
        go_wp2_with fail
        go_meet
        case rel => exact ⟨by rw [HB.out], H3⟩
    case rest =>
      obtain ⟨rfl, H3⟩ := hcut
      rename World => W3
      clear HH hB
      cases B with
      | true =>
        have HR := Lib.hid (HE.out.trans (if_pos rfl))
        clear HE
        have KG := Lib.hid (longer_ok H3.out)
        go_wp2_with fail
        refine KG.out.mono ?_
        rintro e W4 ⟨rfl, h4⟩
        have H4 := Lib.hid h4
        clear h4 KG H3
        have KG := Lib.hid (probe_ok H4.out (by have := HS.out; show v.sent.length ≤ _; omega))
        go_wp2_with fail
        refine KG.out.mono ?_
        rintro e W5 ⟨rfl, h5⟩
        have H5 := Lib.hid h5
        clear h5 KG
        go_wp2_with fail
        go_end0
        rw [HR.out]
        exact ⟨rfl, H5.out⟩
      | false =>
        have HR := Lib.hid (HE.out.trans (if_neg (by decide)))
        clear HE
        have KG := Lib.hid (again_ok H3.out HS.out)
        go_wp2_with fail
        refine KG.out.mono ?_
        rintro e W4 ⟨rfl, h4⟩
        have H4 := Lib.hid h4
        clear h4 KG
        go_wp2_with fail
        go_end0
        rw [HR.out]
        exact ⟨rfl, H4.out⟩
end
end Go.Proofs.Ytlajalfalepbhaa
