/-
  Layer 15: whether a segment may count; what it acknowledges; whether it tells the window. Conditions: as said.
-/
import Derived.Test.YtlajalfalepbhaaCnK
namespace Go.Proofs.Ytlajalfalepbhaa
open Go.RowKit
set_option linter.unusedVariables false

section
variable {w0 w w' : World} {fx : List (Nat × Obj)} {q : Bq} {v v' : Cn}
theorem len_le {s : Sg} (hz : s.da.size ≤ 100000) : s.da.size ≤ 140737488355328 ∧ sgN s ≤ 9223372036854775807 := by
  refine ⟨by omega, ?_⟩
  unfold sgN
  split <;> split <;> omega
set_option maxRecDepth 100000 in
set_option maxHeartbeats 1000000 in
theorem counts_ok (h : CB w0 fx q v w) (s : Sg) (so : s.da.size ≤ 100000) :
    Calls Try.prog 40 #[.pointer (some ⟨q.c, 0, none⟩), .agg (sgC s)] w fun e w' => e = .returned (.bool (countsV v s)) ∧ CB w0 fx q v w' := by
  have HH := Lib.hid h
  have HZ := Lib.hid (len_le so)
  clear h so
  unfold countsV
  obtain ⟨x, hx⟩ : ∃ x, x = winV v := ⟨_, rfl⟩
  have kM := Lib.hid (fun wr => may_any wr s.sq (sgN s) (wantV v) x HZ.out.2)
  rw [← hx]
  unfold winV at hx
  generalize mayN s.sq (sgN s) (wantV v) x = B at kM ⊢
  have HX := Lib.hid hx
  clear hx
  go_enter Try.func40, Try.ntmps40
  go_upto_region 1 with fail
  have FA : Hid (SgAt (w.alloc (.cells (sgC s) 28)) w.heap.size s) := Lib.hid (sg_new w _ s rfl)
  have BL : Hid (Below w.heap.size w (w.alloc (.cells (sgC s) 28))) := Lib.hid ((Below.refl _ _).alloc (Nat.le_refl _) _)
  have H1 := Lib.hid (HH.out.keepBehind BL.out FA.out (Nat.le_refl _))
  generalize w.alloc _ = W1 at H1 ⊢
  generalize w.heap.size = n at H1 ⊢
  clear FA BL HH
  have c14 := H1.out.c 14 (.pointer (some ⟨q.h, 0, none⟩)) (fun _ => rfl)
  go_wp2_with fail
  refine H1.out.rWindow.mono ?_
  rintro e W2 ⟨rfl, d⟩
  have H2 := Lib.hid (H1.out.of_drew d)
  clear d H1 c14
  go_upto_if 12 with fail
  go_cut [5] from 11 to 12 (fun v5 wx => v5 = .int .i64 x ∧ wx = W2)
  case first =>
    by_cases h0 : v.W.length = 0
    · have g : ((v.W.length : Int) == 0) = true := by rw [h0]; rfl
      rw [if_pos h0] at HX
      go_wp2_with fail
      go_meet
      case rel => exact ⟨by rw [HX.out], rfl⟩
    · have g : ((v.W.length : Int) == 0) = false := beq_eq_false_iff_ne.2 (by omega)
      rw [if_neg h0] at HX
      go_wp2_with fail
      go_meet
      case rel => exact ⟨by rw [HX.out], rfl⟩
  case rest =>
    obtain ⟨rfl, rfl⟩ := hcut
    rename World => W2
    obtain ⟨b0, b1, b2, b3, b4, b5, b6, b7⟩ := SgAt.all (show SgAt W2 n s from H2.out.hd)
    have H3 := Lib.hid H2.out.let_.drew
    have FS : Hid (SgAt W2.drew n s) := Lib.hid H2.out.hd
    clear HX
    go_upto_region 4 with fail
    go_region_with (first | (go_at_call 58; refine (len_sg _ s HZ.out.1).mono ?_; rintro e wl ⟨rfl, bl⟩; have HB := Lib.hid bl; clear bl; have b2b := (FS.out.grow HB.out).sq) | (go_at_call 62; first | (refine (want_ok H3.out).mono ?_) | (refine (want_ok (H3.out.grow HB.out)).mono ?_); rintro e wv ⟨rfl, rfl⟩) | (go_at_call 61; refine (kM.out _).mono ?_; rintro e wv ⟨rfl, rfl⟩))
    all_goals
      go_wp2_with fail
      go_ret
      exact ⟨rfl, H3.out.grow HB.out⟩
end
end Go.Proofs.Ytlajalfalepbhaa
