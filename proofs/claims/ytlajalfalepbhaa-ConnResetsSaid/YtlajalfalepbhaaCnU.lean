/-
  Layer 15: Tick; its user's calls. Conditions: as said.
-/
import Derived.Test.YtlajalfalepbhaaCnT
namespace Go.Proofs.Ytlajalfalepbhaa
open Go.RowKit
set_option linter.unusedVariables false

section
variable {w0 w w' : World} {fx : List (Nat × Obj)} {q : Bq} {v v' : Cn}
set_option maxRecDepth 100000 in
set_option maxHeartbeats 4000000 in
theorem tick_ok (h : CB w0 fx q v w) (hs : v.sent.length ≤ 99990000) :
    Calls Try.prog 17 #[.pointer (some ⟨q.c, 0, none⟩)] w fun e w' => e = .returned (.tuple #[]) ∧ CB w0 fx q (tickV v) w' := by
  have HH := Lib.hid h
  have HS := Lib.hid hs
  obtain ⟨R, hR⟩ : ∃ R, R = tickV v := ⟨_, rfl⟩
  rw [← hR]
  unfold tickV at hR
  have HR := Lib.hid hR
  clear h hs hR
  have KS := Lib.hid (state_ok HH.out)
  go_enter Try.func17, Try.ntmps17
  by_cases h9 : v.st = 9
  · have HD := Lib.hid (HR.out.trans (if_pos h9))
    rw [h9] at KS
    clear h9
    go_wp2_with fail
    refine KS.out.mono ?_
    rintro e w ⟨rfl, rfl⟩
    go_wp2_with fail
    exact bodyPost_ret (v := .tuple #[]) (results_none rfl _ _ _) rfl (by rw [HD.out]; exact ⟨rfl, HH.out⟩)
  have g9 : (v.st == 9) = false := beq_eq_false_iff_ne.2 h9
  have HD := Lib.hid (HR.out.trans (if_neg h9))
  clear h9 HR
  go_wp2_with fail
  refine KS.out.mono ?_
  rintro e w ⟨rfl, rfl⟩
  clear KS
  have c21 := HH.out.c 21 (.bool v.mr) (fun _ => rfl)
  have c23 := HH.out.c 23 (.int .i64 v.ma) (fun _ => rfl)
  have f23 := HH.out.f 23
  go_upto_if 9 with fail
  go_cut [] from 9 to 18 (fun wx => Hid (CB w0 fx q (tick1 v) wx))
  case first =>
    have HT : Hid (tick1 v = if v.mr then { v with ma := IntKind.i64.wrap (v.ma + 1) } else v) := Lib.hid rfl
    obtain ⟨y, hy⟩ : ∃ y, y = IntKind.i64.wrap (v.ma + 1) := ⟨_, rfl⟩
    have e1 := hy.symm
    rw [← hy] at HT
    clear hy
    cases hm : v.mr with
    | true =>
      rw [if_pos hm] at HT
      have H1 := Lib.hid (HH.out.set 23 (.int .i64 y) { v with ma := y } (by decide) (fun _ => rfl))
      rw [hm] at c21
      clear hm
      go_wp2_with fail
      go_meet
      case rel =>
        rw [HT.out]
        exact H1
    | false =>
      rw [if_neg (by rw [hm]; decide)] at HT
      rw [hm] at c21
      clear hm
      go_wp2_with fail
      go_meet
      case rel =>
        rw [HT.out]
        exact HH
  case rest =>
    rename World => W1
    have H1 := hcut
    clear hcut c21 c23 f23 HH
    have S1 : Hid ((tick1 v).sent.length ≤ 99990000) := Lib.hid (by have := HS.out; unfold tick1; split <;> exact this)
    generalize tick1 v = v1 at H1 HD S1
    clear HS
    unfold tick3 at HD
    have c2 := H1.out.c 2 (.int .i64 v1.st) (fun _ => rfl)
    have f2 := H1.out.f 2
    have c24 := H1.out.c 24 (.int .i64 v1.lg) (fun _ => rfl)
    have f24 := H1.out.f 24
    go_upto_if 23 with fail
    go_cut [] from 19 to 38 (fun wx => ∃ v2, Hid (CB w0 fx q v2 wx) ∧ Hid (R = tick2 v2) ∧ Hid (v2.sent.length ≤ 99990000))
    case first =>
      by_cases h6 : v1.st = 6
      · obtain ⟨y, hy⟩ : ∃ y, y = IntKind.i64.wrap (v1.lg - 1) := ⟨_, rfl⟩
        rw [if_pos h6, ← hy] at HD
        have e1 := hy.symm
        clear hy
        have H2 : Hid (CB w0 fx q { v1 with lg := y } (W1.setCell ⟨q.c, 24, none⟩ (.int .i64 y))) := Lib.hid (H1.out.set 24 (.int .i64 y) { v1 with lg := y } (by decide) (fun _ => rfl))
        go_upto_region 5 with fail
        generalize World.setCell _ _ _ = W2 at H2 ⊢
        clear c2 f2 c24 f24 H1 e1 h6
        have c2 := H2.out.c 2 (.int .i64 v1.st) (fun _ => rfl)
        have f2 := H2.out.f 2
        have c24 := H2.out.c 24 (.int .i64 y) (fun _ => rfl)
        by_cases h0 : y = 0
        · rw [if_pos h0] at HD
          have g : (y == 0) = true := by rw [h0]; rfl
          subst h0
          have H3 := Lib.hid (H2.out.set 2 (.int .i64 9) { v1 with lg := 0, st := 9 } (by decide) (fun _ => rfl))
          go_wp2_with fail
          exact bodyPost_ret (v := .tuple #[]) (results_none rfl _ _ _) rfl (by rw [HD.out]; exact ⟨rfl, H3.out⟩)
        · rw [if_neg h0] at HD
          have g : (y == 0) = false := beq_eq_false_iff_ne.2 h0
          clear h0
          go_wp2_with fail
          go_meet
          case rel => exact ⟨_, H2, HD, S1⟩
      · rw [if_neg h6] at HD
        have g : (v1.st == 6) = false := beq_eq_false_iff_ne.2 h6
        clear h6
        go_wp2_with fail
        go_meet
        case rel => exact ⟨_, H1, HD, S1⟩
    case rest =>
      clear c2 f2 c24 f24 H1 S1 HD
      obtain ⟨v2, H2, HD, S2⟩ := hcut
      rename World => W2
      unfold tick2 at HD
      have c18 := H2.out.c 18 (.int .i64 v2.left) (fun _ => rfl)
      have f18 := H2.out.f 18
      by_cases h0 : v2.left = 0
      · rw [if_pos h0] at HD
        have g : (v2.left == 0) = true := by rw [h0]; rfl
        clear h0
        go_wp2_with fail
        exact bodyPost_ret (v := .tuple #[]) (results_none rfl _ _ _) rfl (by rw [HD.out]; exact ⟨rfl, H2.out⟩)
      · obtain ⟨y, hy⟩ : ∃ y, y = IntKind.i64.wrap (v2.left - 1) := ⟨_, rfl⟩
        rw [if_neg h0, ← hy] at HD
        have e1 := hy.symm
        have g : (v2.left == 0) = false := beq_eq_false_iff_ne.2 h0
        clear hy h0
        have H3 : Hid (CB w0 fx q { v2 with left := y } (W2.setCell ⟨q.c, 18, none⟩ (.int .i64 y))) := Lib.hid (H2.out.set 18 (.int .i64 y) { v2 with left := y } (by decide) (fun _ => rfl))
        go_upto_region 9 with fail
        generalize World.setCell _ _ _ = W3 at H3 ⊢
        clear c18 f18 H2 e1 g
        have c18 := H3.out.c 18 (.int .i64 y) (fun _ => rfl)
        by_cases hz : y = 0
        · rw [if_pos hz] at HD
          have g : (y == 0) = true := by rw [hz]; rfl
          subst hz
          have KX := Lib.hid (ranOut_ok H3.out S2.out)
          go_wp2_with fail
          refine KX.out.mono ?_
          rintro e W4 ⟨rfl, h9⟩
          have H9 := Lib.hid h9
          clear h9
          go_wp2_with fail
          go_end0
          rw [HD.out]
          exact ⟨rfl, H9.out⟩
        · rw [if_neg hz] at HD
          have g : (y == 0) = false := beq_eq_false_iff_ne.2 hz
          clear hz
          go_wp2_with fail
          go_end0
          rw [HD.out]
          exact ⟨rfl, H3.out⟩
end
end Go.Proofs.Ytlajalfalepbhaa
