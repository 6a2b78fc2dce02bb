/-
  Layer 15: the calls of a connection's user. Conditions: as said.
-/
import Derived.Test.YtlajalfalepbhaaCnU
namespace Go.Proofs.Ytlajalfalepbhaa
open Go.RowKit
set_option linter.unusedVariables false

section
variable {w0 w w' : World} {fx : List (Nat × Obj)} {q : Bq} {v v' : Cn}
set_option maxHeartbeats 2000000 in
theorem takes_ok (h : CB w0 fx q v w) :
    Calls Try.prog 50 #[.pointer (some ⟨q.c, 0, none⟩)] w fun e w' => e = .returned (.bool (takesV v)) ∧ w' = w := by
  have HH := Lib.hid h
  have KS := Lib.hid (state_ok h)
  have c9 := h.c 9 (.bool v.cl) (fun _ => rfl)
  obtain ⟨B, hB⟩ : ∃ B, B = takesV v := ⟨_, rfl⟩
  rw [← hB]
  unfold takesV at hB
  generalize v.st = x at KS hB
  generalize v.cl = b at c9 hB
  clear h HH
  go_enter Try.func50, Try.ntmps50
  by_cases h1 : x = 1
  · subst h1
    have HB : Hid (B = !b) := Lib.hid (by rw [hB]; cases b <;> rfl)
    clear hB
    go_wp2_with fail
    refine KS.out.mono ?_
    rintro e w ⟨rfl, rfl⟩
    go_wp2_with fail
    go_ret
    exact ⟨by rw [HB.out]; rfl, rfl⟩
  have d1 : (x == 1) = false := beq_eq_false_iff_ne.2 h1
  by_cases h2 : x = 2
  · subst h2
    have HB : Hid (B = !b) := Lib.hid (by rw [hB]; cases b <;> rfl)
    clear hB
    go_wp2_with fail
    refine KS.out.mono ?_
    rintro e w ⟨rfl, rfl⟩
    go_wp2_with fail
    go_ret
    exact ⟨by rw [HB.out]; rfl, rfl⟩
  have d2 : (x == 2) = false := beq_eq_false_iff_ne.2 h2
  by_cases h7 : x = 7
  · subst h7
    have HB : Hid (B = !b) := Lib.hid (by rw [hB]; cases b <;> rfl)
    clear hB
    go_wp2_with fail
    refine KS.out.mono ?_
    rintro e w ⟨rfl, rfl⟩
    go_wp2_with fail
    go_ret
    exact ⟨by rw [HB.out]; rfl, rfl⟩
  have d7 : (x == 7) = false := beq_eq_false_iff_ne.2 h7
  have HB : Hid (B = false) := Lib.hid (by rw [hB]; simp [h1, h2, h7])
  clear hB h1 h2 h7
  go_wp2_with fail
  refine KS.out.mono ?_
  rintro e w ⟨rfl, rfl⟩
  go_wp2_with fail
  go_ret
  exact ⟨by rw [HB.out]; rfl, rfl⟩
set_option maxRecDepth 100000 in
set_option maxHeartbeats 2000000 in
theorem write_ok (h : CB w0 fx q v w) (D : ByteArray) (hs : v.sent.length ≤ 99990000) :
    Calls Try.prog 15 #[.pointer (some ⟨q.c, 0, none⟩), .string D] w fun e w' => e = .returned (.int .i64 (writeN v D : Nat)) ∧ CB w0 fx q (writeV v D) w' := by
  have HH := Lib.hid h
  have HS := Lib.hid hs
  have KT := Lib.hid (takes_ok h)
  have KW := Lib.hid (h.oWrite D)
  have c8 := h.c 8 (.pointer (some ⟨q.g, 0, none⟩)) (fun _ => rfl)
  obtain ⟨R, hR⟩ : ∃ R, R = writeV v D := ⟨_, rfl⟩
  obtain ⟨N, hN⟩ : ∃ N, N = writeN v D := ⟨_, rfl⟩
  rw [← hR, ← hN]
  unfold writeV at hR
  unfold writeN at hN
  generalize takesV v = B at KT hR hN
  have HR := Lib.hid hR
  have HN := Lib.hid hN
  clear h hs hR hN
  go_enter Try.func15, Try.ntmps15
  go_wp2_with fail
  refine KT.out.mono ?_
  rintro e w ⟨rfl, rfl⟩
  clear KT
  cases B with
  | false =>
    go_wp2_with fail
    go_ret
    rw [HR.out, HN.out]
    exact ⟨rfl, HH.out⟩
  | true =>
    rw [if_pos rfl] at HR HN
    rw [← HN.out] at KW HR
    go_wp2_with fail
    refine KW.out.mono ?_
    rintro e W2 ⟨rfl, h2⟩
    have KF := Lib.hid (flush_ok h2 HS.out)
    clear h2 KW c8
    go_wp2_with fail
    refine KF.out.mono ?_
    rintro e W3 ⟨rfl, h3⟩
    have H3 := Lib.hid h3
    clear h3 KF
    go_wp2_with fail
    go_ret
    rw [HR.out]
    exact ⟨rfl, H3.out⟩
set_option maxRecDepth 100000 in
set_option maxHeartbeats 2000000 in
theorem close_ok (h : CB w0 fx q v w) (hs : v.sent.length ≤ 99990000) :
    Calls Try.prog 16 #[.pointer (some ⟨q.c, 0, none⟩)] w fun e w' => e = .returned (.tuple #[]) ∧ CB w0 fx q (closeV v) w' := by
  have HH := Lib.hid h
  have HS := Lib.hid hs
  have KT := Lib.hid (takes_ok h)
  obtain ⟨R, hR⟩ : ∃ R, R = closeV v := ⟨_, rfl⟩
  rw [← hR]
  unfold closeV at hR
  generalize takesV v = B at KT hR
  have HR := Lib.hid hR
  clear h hs hR
  go_enter Try.func16, Try.ntmps16
  go_wp2_with fail
  refine KT.out.mono ?_
  rintro e w ⟨rfl, rfl⟩
  clear KT
  cases B with
  | false =>
    go_wp2_with fail
    exact bodyPost_ret (v := .tuple #[]) (results_none rfl _ _ _) rfl (by rw [HR.out]; exact ⟨rfl, HH.out⟩)
  | true =>
    rw [if_pos rfl] at HR
    have c9 := HH.out.c 9 (.bool v.cl) (fun _ => rfl)
    have f9 := HH.out.f 9
    have H1 : Hid (CB w0 fx q { v with cl := true } (w.setCell ⟨q.c, 9, none⟩ (.bool true))) := Lib.hid (HH.out.set 9 (.bool true) { v with cl := true } (by decide) (fun _ => rfl))
    go_upto_region 2 with fail
    generalize World.setCell _ _ _ = W1 at H1 ⊢
    clear c9 f9 HH
    have c2 := H1.out.c 2 (.int .i64 v.st) (fun _ => rfl)
    have f2 := H1.out.f 2
    by_cases h2 : v.st = 2
    · have HD : Hid (close1 v = { v with cl := true, st := 3 }) := Lib.hid (by unfold close1; rw [if_pos h2])
      rw [HD.out] at HR
      have H2 := Lib.hid (H1.out.set 2 (.int .i64 3) { v with cl := true, st := 3 } (by decide) (fun _ => rfl))
      rw [h2] at c2
      have KF := Lib.hid (flush_ok H2.out HS.out)
      clear h2 HD H2
      go_wp2_with fail
      refine KF.out.mono ?_
      rintro e W3 ⟨rfl, h3⟩
      have H3 := Lib.hid h3
      clear h3 KF
      go_wp2_with fail
      go_end0
      rw [HR.out]
      exact ⟨rfl, H3.out⟩
    · have g2 : (v.st == 2) = false := beq_eq_false_iff_ne.2 h2
      by_cases h7 : v.st = 7
      · have HD : Hid (close1 v = { v with cl := true, st := 8 }) := Lib.hid (by unfold close1; rw [if_neg h2, if_pos h7])
        rw [HD.out] at HR
        have H2 := Lib.hid (H1.out.set 2 (.int .i64 8) { v with cl := true, st := 8 } (by decide) (fun _ => rfl))
        rw [h7] at c2
        have KF := Lib.hid (flush_ok H2.out HS.out)
        clear h2 h7 HD H2
        go_wp2_with fail
        refine KF.out.mono ?_
        rintro e W3 ⟨rfl, h3⟩
        have H3 := Lib.hid h3
        clear h3 KF
        go_wp2_with fail
        go_end0
        rw [HR.out]
        exact ⟨rfl, H3.out⟩
      · have g7 : (v.st == 7) = false := beq_eq_false_iff_ne.2 h7
        have HD : Hid (close1 v = { v with cl := true }) := Lib.hid (by unfold close1; rw [if_neg h2, if_neg h7])
        rw [HD.out] at HR
        have KF := Lib.hid (flush_ok H1.out HS.out)
        clear h2 h7 HD
        go_wp2_with fail
        refine KF.out.mono ?_
        rintro e W3 ⟨rfl, h3⟩
        have H3 := Lib.hid h3
        clear h3 KF
        go_wp2_with fail
        go_end0
        rw [HR.out]
        exact ⟨rfl, H3.out⟩
set_option maxRecDepth 100000 in
set_option maxHeartbeats 2000000 in
theorem read_ok (h : CB w0 fx q v w) (n : Int) (hs : v.sent.length ≤ 99990000) :
    Calls Try.prog 14 #[.pointer (some ⟨q.c, 0, none⟩), .int .i64 n] w fun e w' => e = .returned (.string ⟨(v.R.take (readN v n)).toArray⟩) ∧ CB w0 fx q (readV v n) w' := by
  have HS : Hid ((readV1 v n).sent.length ≤ 99990000) := Lib.hid hs
  have KN := Lib.hid (cnone_no h)
  have KR := Lib.hid (h.iRead n)
  have c14 := h.c 14 (.pointer (some ⟨q.h, 0, none⟩)) (fun _ => rfl)
  obtain ⟨R, hR⟩ : ∃ R, R = readV v n := ⟨_, rfl⟩
  rw [← hR]
  unfold readV at hR
  generalize (⟨(v.R.take (readN v n)).toArray⟩ : ByteArray) = S at KR ⊢
  have HR := Lib.hid hR
  clear h hs hR
  go_enter Try.func14, Try.ntmps14
  go_wp2_with fail
  refine KN.out.mono ?_
  rintro e w ⟨rfl, rfl⟩
  go_wp2_with fail
  refine KR.out.mono ?_
  rintro e W1 ⟨rfl, h1⟩
  have H1 := Lib.hid h1
  clear h1 KR KN c14
  generalize readV1 v n = v1 at H1 HS HR
  have KV := Lib.hid (receives_ok H1.out)
  have HR2 : Hid (R = if (receivesV v1 && decide (v1.told < 536) && decide (536 ≤ v1.W.length)) = true then ackV v1 else v1) := Lib.hid HR.out
  generalize receivesV v1 = B at KV HR2
  clear HR
  go_wp2_with fail
  refine KV.out.mono ?_
  rintro e W1 ⟨rfl, rfl⟩
  clear KV
  have c16 := H1.out.c 16 (.int .i64 v1.told) (fun _ => rfl)
  have c14 := H1.out.c 14 (.pointer (some ⟨q.h, 0, none⟩)) (fun _ => rfl)
  cases B with
  | false =>
    have HD : Hid (R = v1) := Lib.hid (by rw [HR2.out]; rfl)
    go_wp2_with fail
    go_ret
    rw [HD.out]
    exact ⟨rfl, H1.out⟩
  | true =>
    by_cases ht : v1.told < 536
    · have g1 : decide (v1.told < 536) = true := decide_eq_true ht
      have KW := Lib.hid H1.out.rWindow
      clear ht
      go_wp2_with fail
      refine KW.out.mono ?_
      rintro e W2 ⟨rfl, d⟩
      have H2 := Lib.hid (H1.out.of_drew d)
      clear d KW c16 c14 H1
      by_cases hw : 536 ≤ v1.W.length
      · have g2 : decide ((536 : Int) ≤ (v1.W.length : Int)) = true := decide_eq_true (by omega)
        have g3 : decide (536 ≤ v1.W.length) = true := decide_eq_true hw
        have HD : Hid (R = ackV v1) := Lib.hid (by rw [HR2.out, g1, g3]; rfl)
        have KA := Lib.hid (ack_ok H2.out (by have := HS.out; omega))
        clear hw HR2
        go_wp2_with fail
        refine KA.out.mono ?_
        rintro e W3 ⟨rfl, h3⟩
        have H3 := Lib.hid h3
        clear h3
        go_wp2_with fail
        go_ret
        rw [HD.out]
        exact ⟨rfl, H3.out⟩
      · have g2 : decide ((536 : Int) ≤ (v1.W.length : Int)) = false := decide_eq_false (by omega)
        have g3 : decide (536 ≤ v1.W.length) = false := decide_eq_false hw
        have HD : Hid (R = v1) := Lib.hid (by rw [HR2.out, g1, g3]; rfl)
        clear hw HR2
        go_wp2_with fail
        go_ret
        rw [HD.out]
        exact ⟨rfl, H2.out⟩
    · have g1 : decide (v1.told < 536) = false := decide_eq_false ht
      have HD : Hid (R = v1) := Lib.hid (by rw [HR2.out, g1]; rfl)
      clear ht
      go_wp2_with fail
      go_ret
      rw [HD.out]
      exact ⟨rfl, H1.out⟩
end
end Go.Proofs.Ytlajalfalepbhaa
