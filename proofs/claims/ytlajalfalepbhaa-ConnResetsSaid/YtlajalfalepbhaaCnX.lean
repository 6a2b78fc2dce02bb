/-
  Layer 15: New. Conditions: as said.
-/
import Derived.Test.YtlajalfalepbhaaCnW
import Derived.Test.YtlajalfalepbhaaCnV
namespace Go.Proofs.Ytlajalfalepbhaa
open Go.RowKit
set_option linter.unusedVariables false

def mssV (s : Sg) : Int := if s.ms ≤ 0 then 536 else min s.ms 536
def beginsV (s : Sg) : Bool := hasF s.fl 1 && !hasF s.fl 4 && !hasF s.fl 2 && !hasF s.fl 0
def withinV (x m : Int) : Bool := decide (1 ≤ x) && decide (x ≤ m)
def baseV (s : Sg) (iss f l m t lg : Int) : Cn :=
  { fr := s.dt, dt := s.fr, st := 1, rs := false, iss := iss, una := iss, nxt := (iss + 1) % 4294967296, top := (iss + 1) % 4294967296, u := (iss + 1) % 4294967296, L := [], cl := false, mss := mssV s, win := 0, tsq := 0, tak := 0, nx := (s.sq + 1) % 4294967296, R := [], W := List.replicate 2048 none, eof := false, told := 0, ck := ⟨l, m, f, false, 0, 0⟩, left := f, tries := 0, mt := t, mr := true, me := (iss + 1) % 4294967296, ma := 0, lg := 0, ml := lg, sent := [] }
def newV (s : Sg) (iss f l m t lg : Int) : Cn := synV (baseV s iss f l m t lg)
set_option maxHeartbeats 1000000 in
theorem mssOf_ok (w : World) (s : Sg) :
    Calls Try.prog 36 #[.agg (sgC s)] w fun e w' => e = .returned (.int .i64 (mssV s)) ∧ Below w.heap.size w w' := by
  obtain ⟨z, hz⟩ : ∃ z, z = mssV s := ⟨_, rfl⟩
  rw [← hz]
  unfold mssV at hz
  go_enter Try.func36, Try.ntmps36
  go_upto_region 1 with fail
  have FA : Hid (SgAt (w.alloc (.cells (sgC s) 28)) w.heap.size s) := Lib.hid (sg_new w _ s rfl)
  have BL : Hid (Below w.heap.size w (w.alloc (.cells (sgC s) 28))) := Lib.hid ((Below.refl _ _).alloc (Nat.le_refl _) _)
  generalize w.alloc _ = W1 at FA BL ⊢
  have c6 := FA.out.ms
  by_cases h : s.ms ≤ 0
  · rw [if_pos h] at hz
    have g : decide (s.ms ≤ 0) = true := decide_eq_true h
    have HZ := Lib.hid hz
    clear hz h
    go_wp2_with fail
    go_ret
    exact ⟨by rw [HZ.out]; rfl, BL.out⟩
  · rw [if_neg h] at hz
    have g : decide (s.ms ≤ 0) = false := decide_eq_false h
    have hx : min s.ms 536 = z := hz.symm
    clear hz h
    go_wp2_with fail
    go_ret
    exact ⟨rfl, BL.out⟩
set_option maxHeartbeats 1000000 in
theorem within_ok (w : World) (x m : Int) :
    Calls Try.prog 33 #[.int .i64 x, .int .i64 m] w fun e w' => e = .returned (.bool (withinV x m)) ∧ w' = w := by
  unfold withinV
  by_cases h : 1 ≤ x
  · have g : decide (1 ≤ x) = true := decide_eq_true h
    rw [g, Bool.true_and]
    clear h
    go_enter Try.func33, Try.ntmps33
    go_wp2_with fail
    go_ret
    exact ⟨rfl, rfl⟩
  · have g : decide (1 ≤ x) = false := decide_eq_false h
    rw [g, Bool.false_and]
    clear h
    go_enter Try.func33, Try.ntmps33
    go_wp2_with fail
    go_ret
    exact ⟨rfl, rfl⟩
set_option maxRecDepth 100000 in
set_option maxHeartbeats 2000000 in
theorem begins_ok (w : World) (s : Sg) :
    Calls Try.prog 32 #[.agg (sgC s)] w fun e w' => e = .returned (.bool (beginsV s)) ∧ Below w.heap.size w w' := by
  obtain ⟨B, hB⟩ : ∃ B, B = beginsV s := ⟨_, rfl⟩
  rw [← hB]
  unfold beginsV at hB
  have K1 := Lib.hid (fun wr => has_k wr s 1 2 (by decide) rfl)
  have K4 := Lib.hid (fun wr => has_k wr s 4 16 (by decide) rfl)
  have K2 := Lib.hid (fun wr => has_k wr s 2 4 (by decide) rfl)
  have K0 := Lib.hid (fun wr => has_k wr s 0 1 (by decide) rfl)
  generalize hasF s.fl 1 = b1 at K1 hB
  generalize hasF s.fl 4 = b4 at K4 hB
  generalize hasF s.fl 2 = b2 at K2 hB
  generalize hasF s.fl 0 = b0 at K0 hB
  have HB := Lib.hid hB
  clear hB
  go_enter Try.func32, Try.ntmps32
  go_upto_region 1 with fail
  have FA : Hid (SgAt (w.alloc (.cells (sgC s) 28)) w.heap.size s) := Lib.hid (sg_new w _ s rfl)
  have BL : Hid (Below w.heap.size w (w.alloc (.cells (sgC s) 28))) := Lib.hid ((Below.refl _ _).alloc (Nat.le_refl _) _)
  generalize w.alloc _ = W1 at FA BL ⊢
  generalize w.heap.size = n at FA ⊢
  obtain ⟨a0, a1, a2, a3, a4, a5, a6, a7⟩ := FA.out.all
  go_wp2_with fail
  refine (K1.out W1).mono ?_
  rintro e W2 ⟨rfl, d⟩
  have F2 := Lib.hid (FA.out.grow d)
  have B2 : Hid (Below w.heap.size w W2) := Lib.hid (BL.out.trans (d.mono BL.out.size))
  clear d K1 FA BL a0 a1 a2 a3 a4 a5 a6 a7
  cases b1 with
  | false =>
    go_wp2_with fail
    go_ret
    exact ⟨by rw [HB.out]; rfl, B2.out⟩
  | true =>
    obtain ⟨a0, a1, a2, a3, a4, a5, a6, a7⟩ := F2.out.all
    go_wp2_with fail
    refine (K4.out W2).mono ?_
    rintro e W3 ⟨rfl, d⟩
    have F3 := Lib.hid (F2.out.grow d)
    have B3 : Hid (Below w.heap.size w W3) := Lib.hid (B2.out.trans (d.mono B2.out.size))
    clear d K4 F2 B2 a0 a1 a2 a3 a4 a5 a6 a7
    cases b4 with
    | true =>
      go_wp2_with fail
      go_ret
      exact ⟨by rw [HB.out]; rfl, B3.out⟩
    | false =>
      obtain ⟨a0, a1, a2, a3, a4, a5, a6, a7⟩ := F3.out.all
      go_wp2_with fail
      refine (K2.out W3).mono ?_
      rintro e W4 ⟨rfl, d⟩
      have F4 := Lib.hid (F3.out.grow d)
      have B4 : Hid (Below w.heap.size w W4) := Lib.hid (B3.out.trans (d.mono B3.out.size))
      clear d K2 F3 B3 a0 a1 a2 a3 a4 a5 a6 a7
      cases b2 with
      | true =>
        go_wp2_with fail
        go_ret
        exact ⟨by rw [HB.out]; rfl, B4.out⟩
      | false =>
        obtain ⟨a0, a1, a2, a3, a4, a5, a6, a7⟩ := F4.out.all
        go_wp2_with fail
        refine (K0.out W4).mono ?_
        rintro e W5 ⟨rfl, d⟩
        have B5 : Hid (Below w.heap.size w W5) := Lib.hid (B4.out.trans (d.mono B4.out.size))
        clear d K0 F4 B4 a0 a1 a2 a3 a4 a5 a6 a7
        go_wp2_with fail
        go_ret
        exact ⟨by rw [HB.out]; rfl, B5.out⟩
/-- The way in which a connection waits, in a block of its own. -/
def TcpAt (w : World) (n : Nat) (f l m t lg : Int) : Prop := w.heap[n]? = some (.cells #[.int .i64 f, .int .i64 l, .int .i64 m, .int .i64 t, .int .i64 lg] 31 (0, 0))
theorem TcpAt.all {w : World} {n : Nat} {f l m t lg : Int} (h : TcpAt w n f l m t lg) : w.cell? ⟨n, 0, none⟩ = some (.int .i64 f) ∧ w.cell? ⟨n, 1, none⟩ = some (.int .i64 l) ∧ w.cell? ⟨n, 2, none⟩ = some (.int .i64 m) ∧ w.cell? ⟨n, 3, none⟩ = some (.int .i64 t) ∧ w.cell? ⟨n, 4, none⟩ = some (.int .i64 lg) := by
  refine ⟨?_, ?_, ?_, ?_, ?_⟩ <;> (rw [cell_of_block h]; rfl)
theorem TcpAt.grow {w w' : World} {n : Nat} {f l m t lg : Int} (h : TcpAt w n f l m t lg) (k : Below w.heap.size w w') : TcpAt w' n f l m t lg := (k.block n (lt_of_block h)).trans h
end Go.Proofs.Ytlajalfalepbhaa
