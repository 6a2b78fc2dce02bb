/-
  Layer 15: what goes on where something is sent: moveOn. Conditions: as said.
-/
import Derived.Test.YtlajalfalepbhaaCnF
namespace Go.Proofs.Ytlajalfalepbhaa
open Go.RowKit
set_option linter.unusedVariables false

section
variable {w0 w w' : World} {fx : List (Nat × Obj)} {q : Bq} {v v' : Cn}
/-- The measure is written anew. -/
theorem CB.setM (h : CB w0 fx q v w) (b : Bool) (x y : Int) : CB w0 fx q { v with mr := b, me := x, ma := y } (((w.setCell ⟨q.c, 21, none⟩ (.bool b)).setCell ⟨q.c, 22, none⟩ (.int .u32 x)).setCell ⟨q.c, 23, none⟩ (.int .i64 y)) :=
  (((h.set 21 (.bool b) { v with mr := b } (by decide) (fun _ => rfl)).set 22 (.int .u32 x) { v with mr := b, me := x } (by decide) (fun _ => rfl)).set 23 (.int .i64 y) { v with mr := b, me := x, ma := y } (by decide) (fun _ => rfl))
set_option maxRecDepth 100000 in
set_option maxHeartbeats 2000000 in
theorem moveOn_ok (h : CB w0 fx q v w) (n : Int) :
    Calls Try.prog 95 #[.pointer (some ⟨q.c, 0, none⟩), .int .i64 n] w fun e w' => e = .returned (.tuple #[]) ∧ CB w0 fx q (moveOnV v n) w' := by
  have c6 := h.c 6 (.int .u32 v.nxt) (fun _ => rfl)
  have f6 := h.f 6
  have e0 : (v.nxt + n % 4294967296) % 4294967296 = (v.nxt + n) % 4294967296 := by omega
  obtain ⟨R, hR⟩ : ∃ R, R = moveOnV v n := ⟨_, rfl⟩
  have h1 : moveOn1 v n = { v with nxt := (v.nxt + n) % 4294967296 } := rfl
  rw [← hR]
  unfold moveOnV at hR
  generalize moveOn1 v n = v1 at h1 hR
  obtain ⟨y, hy⟩ : ∃ y, y = (v.nxt + n) % 4294967296 := ⟨_, rfl⟩
  rw [← hy] at e0 h1
  have HV := Lib.hid h1
  have HR := Lib.hid hR
  have HH := Lib.hid h
  clear h h1 hR hy
  go_enter Try.func95, Try.ntmps95
  go_upto_region 1 with fail
  have H1 := Lib.hid (HH.out.set 6 (.int .u32 y) { v with nxt := y } (by decide) (fun _ => rfl))
  rw [← HV.out] at H1
  generalize World.setCell _ _ _ = W1 at H1 ⊢
  clear c6 f6 e0 HH HV
  have c6 := H1.out.c 6 (.int .u32 v1.nxt) (fun _ => rfl)
  have c7 := H1.out.c 7 (.int .u32 v1.top) (fun _ => rfl)
  have kL := Lib.hid (fun wr => less_any wr v1.top v1.nxt)
  go_quiet (first | (go_at_call 63; exact Calls.quiet_of_same (kL.out _)))
  have H2 := Lib.hid (H1.out.drewN nq)
  generalize W1.drewN nq = W2 at H2 ⊢
  clear H1 kL c6 c7
  have c6 := H2.out.c 6 (.int .u32 v1.nxt) (fun _ => rfl)
  have c7 := H2.out.c 7 (.int .u32 v1.top) (fun _ => rfl)
  have f7 := H2.out.f 7
  go_upto_if 21 with fail
  go_cut [] from 21 to 42 (fun wx => Hid (CB w0 fx q (moveOn2 v1) wx))
  case first =>
    have HM : Hid (moveOn2 v1 = _) := Lib.hid (by unfold moveOn2; rfl)
    generalize hl0 : lessN v1.top v1.nxt = B
    cases B with
    | false =>
      go_wp2_with fail
      go_meet
      case rel =>
        rw [HM.out, if_neg (by rw [hl0]; decide)]
        exact H2
    | true =>
      go_upto_region 3 with fail
      have H3 := Lib.hid (H2.out.set 7 (.int .u32 v1.nxt) { v1 with top := v1.nxt } (by decide) (fun _ => rfl))
      generalize World.setCell _ _ _ = W3 at H3 ⊢
      clear c6 c7 f7 H2
      have c6 := H3.out.c 6 (.int .u32 v1.nxt) (fun _ => rfl)
      have c21 := H3.out.c 21 (.bool v1.mr) (fun _ => rfl)
      have f21 := H3.out.f 21
      have f22 := H3.out.f 22
      have f23 := H3.out.f 23
      have c22 := H3.out.c 22 (.int .u32 v1.me) (fun _ => rfl)
      have c23 := H3.out.c 23 (.int .i64 v1.ma) (fun _ => rfl)
      cases hm : v1.mr with
      | true =>
        rw [hm] at c21
        go_wp2_with fail
        go_meet
        case rel =>
          rw [HM.out, if_pos hl0, if_pos hm]
          exact H3
      | false =>
        rw [hm] at c21
        go_wp2_with fail
        go_meet
        case rel =>
          rw [HM.out, if_pos hl0, if_neg (by rw [hm]; decide)]
          exact Lib.hid (H3.out.setM true v1.nxt 0)
  case rest =>
    rename World => W3
    have H3 := hcut
    clear hcut
    generalize moveOn2 v1 = v2 at H3 HR
    have HR2 : Hid (R = if v2.left = 0 then { v2 with left := v2.ck.t } else v2) := Lib.hid HR.out
    clear HR
    have c17 := H3.out.c 17 (.pointer (some ⟨q.k, 0, none⟩)) (fun _ => rfl)
    have c18 := H3.out.c 18 (.int .i64 v2.left) (fun _ => rfl)
    have f18 := H3.out.f 18
    by_cases hl : v2.left = 0
    · have HR3 := Lib.hid (HR2.out.trans (if_pos hl))
      rw [hl] at c18
      go_wp2_with fail
      refine H3.out.rWait.mono ?_
      rintro e W3 ⟨rfl, rfl⟩
      go_wp2_with fail
      go_end0
      rw [HR3.out]
      exact ⟨rfl, H3.out.set 18 (.int .i64 v2.ck.t) { v2 with left := v2.ck.t } (by decide) (fun _ => rfl)⟩
    · have HR3 := Lib.hid (HR2.out.trans (if_neg hl))
      have d1 : (v2.left == 0) = false := by simpa using hl
      go_wp2_with fail
      go_end0
      rw [HR3.out]
      exact ⟨rfl, H3.out⟩
end
end Go.Proofs.Ytlajalfalepbhaa
