/-
  Layer 15: New: what may not be begins no connection; one that begins. Conditions: as said.
-/
import Derived.Test.YtlajalfalepbhaaCnX
namespace Go.Proofs.Ytlajalfalepbhaa
open Go.RowKit
set_option linter.unusedVariables false

set_option maxRecDepth 100000 in
set_option maxHeartbeats 4000000 in
/-- A clock that may not be. -/
theorem new_clock (w : World) (s : Sg) (iss f l m t lg : Int) (hb : l < 1 ∨ f < l ∨ m < f ∨ 1048576 < m) :
    Calls Try.prog 8 #[.agg (sgC s), .int .u32 iss, .agg #[.int .i64 f, .int .i64 l, .int .i64 m, .int .i64 t, .int .i64 lg]] w fun e w' => e = .returned (.tuple #[.pointer none, .int .i64 1]) ∧ Below w.heap.size w w' := by
  have HB := Lib.hid hb
  clear hb
  go_enter Try.func8, Try.ntmps8
  go_upto_region 1 with fail
  have FA : Hid (SgAt ((w.alloc (.cells (sgC s) 28)).alloc (.cells #[.int .i64 f, .int .i64 l, .int .i64 m, .int .i64 t, .int .i64 lg] 31)) w.heap.size s) := Lib.hid ((sg_new w _ s rfl).grow ((Below.refl _ _).alloc (Nat.le_refl _) _))
  have TA : Hid (TcpAt ((w.alloc (.cells (sgC s) 28)).alloc (.cells #[.int .i64 f, .int .i64 l, .int .i64 m, .int .i64 t, .int .i64 lg] 31)) (w.heap.size + 1) f l m t lg) := Lib.hid (by
    have h := heap_alloc_new (w.alloc (.cells (sgC s) 28)) (.cells #[.int .i64 f, .int .i64 l, .int .i64 m, .int .i64 t, .int .i64 lg] 31)
    rw [show (w.alloc (.cells (sgC s) 28)).heap.size = w.heap.size + 1 by simp] at h
    exact h)
  have BL : Hid (Below w.heap.size w ((w.alloc (.cells (sgC s) 28)).alloc (.cells #[.int .i64 f, .int .i64 l, .int .i64 m, .int .i64 t, .int .i64 lg] 31))) := Lib.hid (((Below.refl _ _).alloc (Nat.le_refl _) _).alloc (by simp) _)
  obtain ⟨n, hn⟩ : ∃ n, n = w.heap.size := ⟨_, rfl⟩
  obtain ⟨n5, hn5⟩ : ∃ n5, n5 = n + 1 := ⟨_, rfl⟩
  rw [← hn] at FA TA
  rw [← hn5] at TA
  generalize (w.alloc _).alloc _ = W1 at FA TA BL ⊢
  simp only [← hn, ← hn5]
  clear hn hn5
  obtain ⟨t0, t1, t2, t3, t4⟩ := TA.out.all
  go_wp2_with fail
  refine (cknew_bad W1 f l m HB.out).mono ?_
  rintro e W1 ⟨rfl, rfl⟩

  go_wp2_with fail
  go_ret2
  exact ⟨rfl, BL.out⟩
set_option maxRecDepth 100000 in
set_option maxHeartbeats 4000000 in
/-- What may not be else. -/
theorem new_bad (w : World) (s : Sg) (iss f l m t lg : Int) (hO : ¬ (l < 1 ∨ f < l ∨ m < f ∨ 1048576 < m)) (hb : (beginsV s && (withinV t 100 && withinV lg 1048576)) = false) :
    Calls Try.prog 8 #[.agg (sgC s), .int .u32 iss, .agg #[.int .i64 f, .int .i64 l, .int .i64 m, .int .i64 t, .int .i64 lg]] w fun e w' => e = .returned (.tuple #[.pointer none, .int .i64 1]) ∧ Below w.heap.size w w' := by
  have HO := Lib.hid hO
  have KB := Lib.hid (fun wr => begins_ok wr s)
  have KT := Lib.hid (fun wr => within_ok wr t 100)
  have KL := Lib.hid (fun wr => within_ok wr lg 1048576)
  generalize beginsV s = x1 at KB hb
  generalize withinV t 100 = x2 at KT hb
  generalize withinV lg 1048576 = x3 at KL hb
  clear hO
  go_enter Try.func8, Try.ntmps8
  go_upto_region 1 with fail
  have FA : Hid (SgAt ((w.alloc (.cells (sgC s) 28)).alloc (.cells #[.int .i64 f, .int .i64 l, .int .i64 m, .int .i64 t, .int .i64 lg] 31)) w.heap.size s) := Lib.hid ((sg_new w _ s rfl).grow ((Below.refl _ _).alloc (Nat.le_refl _) _))
  have TA : Hid (TcpAt ((w.alloc (.cells (sgC s) 28)).alloc (.cells #[.int .i64 f, .int .i64 l, .int .i64 m, .int .i64 t, .int .i64 lg] 31)) (w.heap.size + 1) f l m t lg) := Lib.hid (by
    have h := heap_alloc_new (w.alloc (.cells (sgC s) 28)) (.cells #[.int .i64 f, .int .i64 l, .int .i64 m, .int .i64 t, .int .i64 lg] 31)
    rw [show (w.alloc (.cells (sgC s) 28)).heap.size = w.heap.size + 1 by simp] at h
    exact h)
  have BL : Hid (Below w.heap.size w ((w.alloc (.cells (sgC s) 28)).alloc (.cells #[.int .i64 f, .int .i64 l, .int .i64 m, .int .i64 t, .int .i64 lg] 31))) := Lib.hid (((Below.refl _ _).alloc (Nat.le_refl _) _).alloc (by simp) _)
  obtain ⟨n, hn⟩ : ∃ n, n = w.heap.size := ⟨_, rfl⟩
  obtain ⟨n5, hn5⟩ : ∃ n5, n5 = n + 1 := ⟨_, rfl⟩
  rw [← hn] at FA TA
  rw [← hn5] at TA
  generalize (w.alloc _).alloc _ = W1 at FA TA BL ⊢
  simp only [← hn, ← hn5]
  clear hn hn5
  obtain ⟨t0, t1, t2, t3, t4⟩ := TA.out.all
  go_wp2_with fail
  refine (cknew_ok W1 f l m (by have := HO.out; omega) (by have := HO.out; omega) (by have := HO.out; omega) (by have := HO.out; omega)).mono ?_
  rintro e W2 ⟨rfl, hk, d⟩
  have F2 := Lib.hid (FA.out.grow d)
  have T2 := Lib.hid (TA.out.grow d)
  have B2 : Hid (Below w.heap.size w W2) := Lib.hid (BL.out.trans (d.mono BL.out.size))
  have K2 : Hid (CkAt W2 W1.heap.size ⟨l, m, f, false, 0, 0⟩) := Lib.hid hk
  have N2 : Hid (w.heap.size ≤ W1.heap.size) := Lib.hid BL.out.size
  generalize W1.heap.size = k at K2 N2 ⊢
  clear d hk FA TA BL t0 t1 t2 t3 t4
  obtain ⟨t0, t1, t2, t3, t4⟩ := T2.out.all
  obtain ⟨b0, b1, b2, b3, b4, b5, b6, b7⟩ := F2.out.all
  go_wp2_with fail
  refine (KB.out W2).mono ?_
  rintro e W3 ⟨rfl, d⟩
  have T3 := Lib.hid (T2.out.grow d)
  have B3 : Hid (Below w.heap.size w W3) := Lib.hid (B2.out.trans (d.mono B2.out.size))
  clear d F2 T2 B2 K2 N2 b0 b1 b2 b3 b4 b5 b6 b7 t0 t1 t2 t3 t4 KB
  obtain ⟨t0, t1, t2, t3, t4⟩ := T3.out.all
  cases x1 with
  | false =>
      go_wp2_with fail
      go_ret2
      exact ⟨rfl, B3.out⟩
  | true =>
    go_wp2_with fail
    refine (KT.out W3).mono ?_
    rintro e W3 ⟨rfl, rfl⟩
    cases x2 with
    | false =>
        go_wp2_with fail
        go_ret2
        exact ⟨rfl, B3.out⟩
    | true =>
      cases x3 with
      | true => exact absurd hb (by decide)
      | false =>
        go_wp2_with fail
        refine (KL.out W3).mono ?_
        rintro e W3 ⟨rfl, rfl⟩
        go_wp2_with fail
        go_ret2
        exact ⟨rfl, B3.out⟩
end Go.Proofs.Ytlajalfalepbhaa
