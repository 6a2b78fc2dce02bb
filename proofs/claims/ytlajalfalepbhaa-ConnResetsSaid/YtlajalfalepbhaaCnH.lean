/-
  Layer 15: data and the Fin are sent. Conditions: as said.
-/
import Derived.Test.YtlajalfalepbhaaCnG
namespace Go.Proofs.Ytlajalfalepbhaa
open Go.RowKit
set_option linter.unusedVariables false

section
variable {w0 w w' : World} {fx : List (Nat × Obj)} {q : Bq} {v v' : Cn}
set_option maxRecDepth 100000 in
set_option maxHeartbeats 2000000 in
theorem sendData_ok (h : CB w0 fx q v w) (n : Int) (hs : v.sent.length ≤ 100000000) :
    Calls Try.prog 77 #[.pointer (some ⟨q.c, 0, none⟩), .int .i64 n] w fun e w' => e = .returned (.bool (!(dataV v n).isEmpty)) ∧ CB w0 fx q (sendDataV v n) w' := by
  have c6 := h.c 6 (.int .u32 v.nxt) (fun _ => rfl)
  have c8 := h.c 8 (.pointer (some ⟨q.g, 0, none⟩)) (fun _ => rfl)
  have c10 := h.c 10 (.int .i64 v.mss) (fun _ => rfl)
  obtain ⟨x, hx⟩ : ∃ x, x = min n v.mss := ⟨_, rfl⟩
  have e1 : min n v.mss = x := hx.symm
  have hd : dataV v n = getS v.u v.nxt x v.L := by rw [hx]; rfl
  have hm := h.ok.m2
  have kG : Hid (∀ k, Calls Try.prog 94 #[.pointer (some ⟨q.g, 0, none⟩), .int .u32 v.nxt, .int .i64 x] (w.drewN k) fun e w' => e = .returned (.string ⟨(dataV v n).toArray⟩) ∧ Dr (w.drewN k) w') := Lib.hid (fun k => by rw [hd]; exact (h.drewN k).rGet _ _ (by omega))
  have he := str_e (dataV v n)
  obtain ⟨R, hR⟩ : ∃ R, R = sendDataV v n := ⟨_, rfl⟩
  rw [← hR]
  unfold sendDataV at hR
  have hz : (⟨(dataV v n).toArray⟩ : ByteArray).size = (dataV v n).length := rfl
  generalize dataV v n = D at kG he hR hz ⊢
  generalize (⟨D.toArray⟩ : ByteArray) = S at kG he hR hz
  have HR := Lib.hid hR
  have HS := Lib.hid hs
  have HH := Lib.hid h
  have HZ := Lib.hid hz
  clear h hx hd hm hR hs hz
  go_enter Try.func77, Try.ntmps77
  go_upto_region 1 with fail
  go_quiet (first | (go_at_call 94; exact Calls.quietDr (kG.out _)))
  have H1 := Lib.hid (HH.out.drewN nq)
  generalize w.drewN nq = W1 at H1 ⊢
  clear c6 c8 c10 kG HH
  have c6 := H1.out.c 6 (.int .u32 v.nxt) (fun _ => rfl)
  cases D with
  | nil =>
    have HR2 : Hid (R = v) := Lib.hid (HR.out.trans (if_pos rfl))
    have he2 : S.toList.isEmpty = true := he
    clear HR
    go_wp2_with fail
    go_ret
    rw [HR2.out]
    exact ⟨rfl, H1.out⟩
  | cons a l =>
    have HR2 : Hid (R = moveOnV (sendV v (segOf v.nxt 8 0 S) 24) (((a :: l).length : Nat) : Int)) := Lib.hid (HR.out.trans (if_neg (by simp)))
    have he2 : S.toList.isEmpty = false := he
    have KS := Lib.hid (send_ok H1.out (segOf v.nxt 8 0 S) 24 hor8 HS.out)
    clear HR he
    go_wp2_with fail
    refine KS.out.mono ?_
    rintro e W2 ⟨rfl, h2⟩
    have KM := Lib.hid (moveOn_ok h2 (S.size : Int))
    clear h2 KS H1 c6
    go_wp2_with fail
    refine KM.out.mono ?_
    rintro e W3 ⟨rfl, h3⟩
    have H3 := Lib.hid h3
    clear h3 KM
    go_wp2_with fail
    go_ret
    rw [HR2.out, ← HZ.out]
    exact ⟨rfl, H3.out⟩
set_option maxRecDepth 100000 in
set_option maxHeartbeats 1000000 in
theorem sendFin_ok (h : CB w0 fx q v w) (hs : v.sent.length ≤ 100000000) :
    Calls Try.prog 78 #[.pointer (some ⟨q.c, 0, none⟩)] w fun e w' => e = .returned (.tuple #[]) ∧ CB w0 fx q (sendFinV v) w' := by
  have KF := Lib.hid (finNext_ok h)
  have HH := Lib.hid h
  have HS := Lib.hid hs
  obtain ⟨R, hR⟩ : ∃ R, R = sendFinV v := ⟨_, rfl⟩
  rw [← hR]
  unfold sendFinV at hR
  generalize finNextV v = B at KF hR
  have HR := Lib.hid hR
  clear h hs hR
  go_enter Try.func78, Try.ntmps78
  go_wp2_with fail
  refine KF.out.mono ?_
  rintro e W1 ⟨rfl, d⟩
  have H1 := Lib.hid (HH.out.of_drew d)
  clear d HH KF
  cases B with
  | false =>
    go_wp2_with fail
    exact bodyPost_ret (v := .tuple #[]) (results_none rfl _ _ _) rfl (by rw [HR.out]; exact ⟨rfl, H1.out⟩)
  | true =>
    have c6 := H1.out.c 6 (.int .u32 v.nxt) (fun _ => rfl)
    have KS := Lib.hid (send_ok H1.out (segOf v.nxt 1 0 ⟨#[]⟩) 17 hor1 HS.out)
    go_wp2_with fail
    refine KS.out.mono ?_
    rintro e W2 ⟨rfl, h2⟩
    have KM := Lib.hid (moveOn_ok h2 1)
    clear h2 KS H1 c6
    go_wp2_with fail
    refine KM.out.mono ?_
    rintro e W3 ⟨rfl, h3⟩
    have H3 := Lib.hid h3
    clear h3 KM
    go_wp2_with fail
    go_end0
    rw [HR.out]
    exact ⟨rfl, H3.out⟩
end
end Go.Proofs.Ytlajalfalepbhaa
