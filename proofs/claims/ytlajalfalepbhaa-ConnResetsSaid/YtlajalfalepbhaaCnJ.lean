/-
  Layer 15: the walk of flush. Conditions: as said.
-/
import Derived.Test.YtlajalfalepbhaaCnI
namespace Go.Proofs.Ytlajalfalepbhaa
open Go.RowKit
set_option linter.unusedVariables false

section
variable {w0 w w' : World} {fx : List (Nat × Obj)} {q : Bq} {v v' : Cn}
theorem flushL_done (k : Nat) (v : Cn) (h : ¬ (0 < roomV v ∧ dataV v (roomV v) ≠ [])) : flushL k v = v := by
  cases k with
  | zero => rfl
  | succ k =>
    unfold flushL
    by_cases h1 : 0 < roomV v
    · rw [if_pos h1, if_pos (Decidable.not_not.1 (fun e => h ⟨h1, e⟩))]
    · rw [if_neg h1]
theorem flushL_more (k : Nat) (v : Cn) (h1 : 0 < roomV v) (h2 : dataV v (roomV v) ≠ []) : flushL (k + 1) v = flushL k (sendDataV v (roomV v)) := by
  show (if 0 < roomV v then _ else _) = _
  rw [if_pos h1, if_neg h2]
set_option maxRecDepth 100000 in
set_option maxHeartbeats 4000000 in
theorem flush_ok (h : CB w0 fx q v w) (hs : v.sent.length ≤ 99990000) :
    Calls Try.prog 52 #[.pointer (some ⟨q.c, 0, none⟩)] w fun e w' => e = .returned (.tuple #[]) ∧ CB w0 fx q (flushV v) w' := by
  have c2 := h.c 2 (.int .i64 v.st) (fun _ => rfl)
  obtain ⟨R, hR⟩ : ∃ R, R = flushV v := ⟨_, rfl⟩
  rw [← hR]
  unfold flushV at hR
  have HH := Lib.hid h
  have HS := Lib.hid hs
  have HR := Lib.hid hR
  clear h hs hR
  go_enter Try.func52, Try.ntmps52
  by_cases hf : flushes v.st = true
  · have HF := Lib.hid (HR.out.trans (if_pos hf))
    clear HR
    go_upto_block 0 with fail
    go_cut [] from 5 to 11 (fun wx => wx = w)
    case first =>
      unfold flushes at hf
      generalize v.st = x at c2 hf
      by_cases h2 : x = 2
      · subst h2
        go_wp2_with fail
        go_meet
        case rel => rfl
      have d2 : (x == 2) = false := beq_eq_false_iff_ne.2 h2
      by_cases h3 : x = 3
      · subst h3
        go_wp2_with fail
        go_meet
        case rel => rfl
      have d3 : (x == 3) = false := beq_eq_false_iff_ne.2 h3
      by_cases h5 : x = 5
      · subst h5
        go_wp2_with fail
        go_meet
        case rel => rfl
      have d5 : (x == 5) = false := beq_eq_false_iff_ne.2 h5
      by_cases h7 : x = 7
      · subst h7
        go_wp2_with fail
        go_meet
        case rel => rfl
      have d7 : (x == 7) = false := beq_eq_false_iff_ne.2 h7
      by_cases h8 : x = 8
      · subst h8
        go_wp2_with fail
        go_meet
        case rel => rfl
      exact absurd hf (by simp [h2, h3, h5, h7, h8])
    case rest =>
      subst hcut
      clear hf
      go_upto_block 1 with fail
      go_cut [] from 12 to 19 (fun wx => Hid (CB w0 fx q (flushL (v.L.length + 1) v) wx))
      case first =>
        go_wp2_with fail
        go_loopg [] (v.L.length + 1) (fun gk wr => ∃ v1, Hid (CB w0 fx q v1 wr) ∧ Hid (flushL gk v1 = flushL (v.L.length + 1) v) ∧ Hid (fuV v1 < gk) ∧ Hid (v1.sent.length + gk ≤ 100000000))
        case atStart => exact ⟨v, HH, Lib.hid rfl, Lib.hid (by unfold fuV; omega), Lib.hid (by have := HS.out; have := HH.out.llen; omega)⟩
        case round =>
          obtain ⟨v1, H1, L1, F1, S1⟩ := hrel
          have KR := Lib.hid (room_ok H1.out)
          go_wp2_with fail
          refine KR.out.mono ?_
          rintro e W1 ⟨rfl, d1⟩
          have H2 := Lib.hid (H1.out.of_drew d1)
          clear d1 H1 KR
          by_cases h1 : 0 < roomV v1
          · have KR := Lib.hid (room_ok H2.out)
            have g1 : decide (0 < roomV v1) = true := decide_eq_true h1
            have P1 := Lib.hid h1
            clear h1
            go_wp2_with fail
            refine KR.out.mono ?_
            rintro e W2 ⟨rfl, d1⟩
            have H3 := Lib.hid (H2.out.of_drew d1)
            clear d1 H2 KR g1
            have KD := Lib.hid (sendData_ok H3.out (roomV v1) (by have := S1.out; omega))
            go_wp2_with fail
            refine KD.out.mono ?_
            rintro e W3 ⟨rfl, h4⟩
            have H4 := Lib.hid h4
            have O3 := Lib.hid H3.out.ok.m1
            have L3 := Lib.hid H3.out.llen
            clear h4 H3 KD
            by_cases h2 : dataV v1 (roomV v1) = []
            · have g2 : (dataV v1 (roomV v1)).isEmpty = true := by rw [h2]; rfl
              have HD : Hid (sendDataV v1 (roomV v1) = flushL (v.L.length + 1) v) := Lib.hid (by
                rw [← L1.out, flushL_done gk v1 (fun e => e.2 h2)]
                unfold sendDataV
                rw [if_pos h2])
              rw [HD.out] at H4
              clear h2
              go_wp2_with fail
              go_meet
              case rel => exact H4
            · have g2 : (dataV v1 (roomV v1)).isEmpty = false := by cases hq : dataV v1 (roomV v1) with | nil => exact absurd hq h2 | cons a l => rfl
              have P2 := Lib.hid h2
              clear h2
              go_wp2_with fail
              go_roundg (gk - 1)
              case rel =>
                have ⟨f1, f2, f3⟩ := data_fu P1.out O3.out L3.out P2.out
                have a1 := F1.out
                have a2 := S1.out
                have e1 : gk = (gk - 1) + 1 := by omega
                have e2 := L1.out
                rw [e1, flushL_more _ _ P1.out P2.out] at e2
                exact ⟨sendDataV v1 (roomV v1), H4, Lib.hid e2, Lib.hid (by omega), Lib.hid (by rw [f3]; omega)⟩
              case measure =>
                have a1 := F1.out
                omega
          · have g1 : decide (0 < roomV v1) = false := decide_eq_false h1
            have HD : Hid (v1 = flushL (v.L.length + 1) v) := Lib.hid (by rw [← L1.out, flushL_done gk v1 (fun e => h1 e.1)])
            rw [HD.out] at H2
            clear h1
            go_wp2_with fail
            go_meet
            case rel => exact H2
      case rest =>
        rename World => W1
        have H1 := hcut
        clear hcut
        have S1 : Hid ((flushL (v.L.length + 1) v).sent.length ≤ 99999000) := Lib.hid (by have := flushL_len (v.L.length + 1) v; have := HS.out; have := HH.out.llen; omega)
        generalize flushL (v.L.length + 1) v = v1 at H1 HF S1
        clear HH HS c2
        have KR := Lib.hid (room_ok H1.out)
        go_wp2_with fail
        refine KR.out.mono ?_
        rintro e W1 ⟨rfl, d1⟩
        have H2 := Lib.hid (H1.out.of_drew d1)
        clear d1 H1 KR
        go_upto_if 22 with fail
        go_cut [] from 20 to 24 (fun wx => Hid (CB w0 fx q (flushF v1) wx))
        case first =>
          by_cases h1 : 0 < roomV v1
          · have HD : Hid (sendFinV v1 = flushF v1) := Lib.hid (by unfold flushF; rw [if_pos h1])
            have KF := Lib.hid (sendFin_ok H2.out (by have := S1.out; omega))
            go_wp2_with fail
            refine KF.out.mono ?_
            rintro e W3 ⟨rfl, h4⟩
            have H4 := Lib.hid h4
            rw [HD.out] at H4
            clear h4 KF
            go_wp2_with fail
            go_meet
            case rel => exact H4
          · have HD : Hid (v1 = flushF v1) := Lib.hid (by unfold flushF; rw [if_neg h1])
            rw [HD.out] at H2
            go_wp2_with fail
            go_meet
            case rel => exact H2
        case rest =>
          rename World => W2
          have H2 := hcut
          clear hcut S1
          generalize flushF v1 = v2 at H2 HF
          have c5 := H2.out.c 5 (.int .u32 v2.una) (fun _ => rfl)
          have c6 := H2.out.c 6 (.int .u32 v2.nxt) (fun _ => rfl)
          have c17 := H2.out.c 17 (.pointer (some ⟨q.k, 0, none⟩)) (fun _ => rfl)
          have c18 := H2.out.c 18 (.int .i64 v2.left) (fun _ => rfl)
          have f18 := H2.out.f 18
          have kW : Hid (∀ k, Calls Try.prog 79 #[.pointer (some ⟨q.c, 0, none⟩)] (W2.drewN k) fun e w' => e = .returned (.bool (waitsV v2)) ∧ Dr (W2.drewN k) w') := Lib.hid (fun k => waits_ok (H2.out.drewN k))
          by_cases h1 : v2.nxt = v2.una
          · have g1 : (v2.nxt == v2.una) = true := by rw [h1]; simp
            cases h2 : waitsV v2 with
            | true =>
              rw [h2] at kW
              by_cases h3 : v2.left = 0
              · have g3 : (v2.left == 0) = true := by rw [h3]; rfl
                have HD : Hid (R = { v2 with left := v2.ck.t }) := Lib.hid (by rw [HF.out]; unfold flushW; rw [if_pos ⟨h1, h2, h3⟩])
                clear h1 h2 h3
                go_wp2_with fail
                go_quiet (first | (go_at_call 79; exact Calls.quietDr (kW.out _)))
                have H3 := Lib.hid (H2.out.drewN nq)
                generalize W2.drewN nq = W3 at H3 ⊢
                clear c5 c6 c17 c18 f18 kW H2
                have c17 := H3.out.c 17 (.pointer (some ⟨q.k, 0, none⟩)) (fun _ => rfl)
                have c18 := H3.out.c 18 (.int .i64 v2.left) (fun _ => rfl)
                have f18 := H3.out.f 18
                go_wp2_with fail
                refine H3.out.rWait.mono ?_
                rintro e W3 ⟨rfl, rfl⟩
                go_wp2_with fail
                go_end0
                rw [HD.out]
                exact ⟨rfl, H3.out.set 18 (.int .i64 v2.ck.t) { v2 with left := v2.ck.t } (by decide) (fun _ => rfl)⟩
              · have g3 : (v2.left == 0) = false := beq_eq_false_iff_ne.2 h3
                have HD : Hid (R = v2) := Lib.hid (by rw [HF.out]; unfold flushW; rw [if_neg (fun e => h3 e.2.2)])
                clear h1 h2 h3
                go_wp2_with fail
                go_quiet (first | (go_at_call 79; exact Calls.quietDr (kW.out _)))
                go_wp2_with fail
                go_end0
                rw [HD.out]
                exact ⟨rfl, H2.out.drewN _⟩
            | false =>
              rw [h2] at kW
              have HD : Hid (R = v2) := Lib.hid (by rw [HF.out]; unfold flushW; rw [if_neg (fun e => by rw [h2] at e; exact absurd e.2.1 (by decide))])
              clear h1 h2
              go_wp2_with fail
              go_quiet (first | (go_at_call 79; exact Calls.quietDr (kW.out _)))
              go_wp2_with fail
              go_end0
              rw [HD.out]
              exact ⟨rfl, H2.out.drewN _⟩
          · have g1 : (v2.nxt == v2.una) = false := beq_eq_false_iff_ne.2 h1
            have HD : Hid (R = v2) := Lib.hid (by rw [HF.out]; unfold flushW; rw [if_neg (fun e => h1 e.1)])
            clear h1 kW
            go_wp2_with fail
            go_quiet (fail)
            go_wp2_with fail
            go_end0
            rw [HD.out]
            exact ⟨rfl, H2.out.drewN _⟩
  · have HF := Lib.hid (HR.out.trans (if_neg hf))
    clear HR
    unfold flushes at hf
    generalize v.st = x at c2 hf
    have d2 : (x == 2) = false := by by_cases e : x = 2; (subst e; exact absurd rfl hf); exact beq_eq_false_iff_ne.2 e
    have d3 : (x == 3) = false := by by_cases e : x = 3; (subst e; exact absurd rfl hf); exact beq_eq_false_iff_ne.2 e
    have d5 : (x == 5) = false := by by_cases e : x = 5; (subst e; exact absurd rfl hf); exact beq_eq_false_iff_ne.2 e
    have d7 : (x == 7) = false := by by_cases e : x = 7; (subst e; exact absurd rfl hf); exact beq_eq_false_iff_ne.2 e
    have d8 : (x == 8) = false := by by_cases e : x = 8; (subst e; exact absurd rfl hf); exact beq_eq_false_iff_ne.2 e
    clear hf
    go_wp2_with fail
    exact bodyPost_ret (v := .tuple #[]) (results_none rfl _ _ _) rfl (by rw [HF.out]; exact ⟨rfl, HH.out⟩)
end
end Go.Proofs.Ytlajalfalepbhaa
