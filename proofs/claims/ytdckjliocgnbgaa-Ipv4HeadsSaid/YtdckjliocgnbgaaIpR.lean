/-
  Layer 8: what any bytes are read as, on both sides (the statement Ipv4Reads as a contract). Conditions: none.
-/
import Derived.Test.YtdckjliocgnbgaaIpQ
namespace Go.Proofs.Ytdckjliocgnbgaa
open Go.RowKit
set_option linter.unusedVariables false

theorem wf_small (n : Nat) (h : n < 1000000) : (Lit.int .i64 (n : Int)).wf = true := Go.WalkArith.wf_i64 ⟨by omega, by omega⟩
theorem rdQ_ok (s : ByteArray) (h : s.size ≤ maxLen) : (rdQ s).ok := by
  have h4 := wd_lt s.data.toList 4
  have h8 := bt_lt s.data.toList 8
  have h9 := bt_lt s.data.toList 9
  refine ⟨wf_small _ (by omega), wf_small _ (by omega), wf_small _ (by omega), wf_small _ (by omega), ?_⟩
  show (s.extract (rdN s) (wd s.data.toList 2)).size ≤ maxLen
  rw [ByteArray.size_extract]
  omega
theorem rqP_ok (s : ByteArray) (h : s.size ≤ maxLen) : (rqP s).ok := by
  unfold rqP
  split
  · exact rdQ_ok s h
  · exact pdZ_ok

set_option maxRecDepth 100000 in
set_option maxHeartbeats 4000000 in
theorem reads_any (w : World) (s : ByteArray) (hm : s.size ≤ maxLen) :
    Calls Try.prog 5 #[.string s] w fun e w' => e = .returned (.bool true) ∧ Below w.heap.size w w' := by
  have hm2 : s.size ≤ 9223372036854775807 := by unfold maxLen at hm; omega
  by_cases hs : 3000 < s.size
  · go_enter Try.func5, Try.ntmps5
    go_wp2_with fail
    refine (awakeD _).mono ?_
    rintro e w1 ⟨rfl, b1⟩
    have B1 := Lib.hid b1
    clear b1
    go_wp2_with fail
    go_ret
    exact ⟨rfl, B1.out⟩
  · obtain ⟨R, hR⟩ : ∃ R, R = rqP s := ⟨_, rfl⟩
    obtain ⟨E, hE⟩ : ∃ E, E = rqE s := ⟨_, rfl⟩
    have k1 := Lib.hid (fun w => pdRead_any w s (by omega))
    have k2 := Lib.hid (fun w => dRead8_any w s (by omega))
    rw [← hR, ← hE] at k1 k2
    have hok : R.ok := by rw [hR]; exact rqP_ok s hm
    have hq := eqld R R hok hok true (decide_eq_true rfl)
    clear hR hE hok
    go_enter Try.func5, Try.ntmps5
    go_wp2_with fail
    refine (awakeD _).mono ?_
    rintro e w1 ⟨rfl, b1⟩
    have B1 := Lib.hid b1
    clear b1
    go_wp2_with fail
    refine (k1.out _).mono ?_
    rintro e w2 ⟨rfl, b2⟩
    have B2 := bstep B1 b2
    clear b2 B1
    have hst := pd_storeZ w2 R
    go_upto_region 6 with (refine wpList_storeW 29 _ _ rfl rfl _ w2.heap.size rfl rfl hst ?_)
    have P3 : Hid (PdAt (w2.alloc (.cells (pdC R) 29)) w2.heap.size R) := Lib.hid (pd_new _ _ _ rfl)
    have B3 := bstep B2 ((Below.refl w2.heap.size w2).alloc (Nat.le_refl _) (.cells (pdC R) 29))
    clear hst B2
    obtain ⟨n, hn⟩ : ∃ n, n = w2.heap.size := ⟨_, rfl⟩
    generalize w2.alloc _ = W3 at P3 B3 ⊢
    rw [← hn] at P3 ⊢
    clear hn
    go_wp2_with fail
    refine (k2.out _).mono ?_
    rintro e w4 ⟨rfl, b4⟩
    have B4 := bstep B3 b4
    have P4 := Lib.hid (P3.out.grow b4)
    clear b4 B3 P3
    have hst := pd_storeZ w4 R
    go_upto_region 7 with (refine wpList_storeW 29 _ _ rfl rfl _ w4.heap.size rfl rfl hst ?_)
    have P5 := Lib.hid (P4.out.grow ((Below.refl w4.heap.size w4).alloc (Nat.le_refl _) (.cells (pdC R) 29)))
    have Q5 : Hid (PdAt (w4.alloc (.cells (pdC R) 29)) w4.heap.size R) := Lib.hid (pd_new _ _ _ rfl)
    have B5 := bstep B4 ((Below.refl w4.heap.size w4).alloc (Nat.le_refl _) (.cells (pdC R) 29))
    clear hst B4 P4
    obtain ⟨m, hm⟩ : ∃ n, n = w4.heap.size := ⟨_, rfl⟩
    generalize w4.alloc _ = W5 at P5 Q5 B5 ⊢
    rw [← hm] at Q5 ⊢
    clear hm
    have ha := P5.out
    have hb := Q5.out
    go_wp2_with (first | (refine pd_ld (by rfl) _ rfl n rfl _ ha ?_) | (refine pd_ld (by rfl) _ rfl m rfl _ hb ?_) | (refine pd_eq (by rfl) _ _ _ rfl R R rfl rfl true hq ?_))
    go_ret
    exact ⟨by simp, B5.out⟩

end Go.Proofs.Ytdckjliocgnbgaa
