/-
  Layer 14: New, Measure; a clock that was made behind a world that stays; awake. Conditions: as said.
-/
import Derived.Test.YtlajalfalepbhaaRtA
namespace Go.Proofs.Ytlajalfalepbhaa
open Go.RowKit
set_option linter.unusedVariables false

set_option maxHeartbeats 800000 in
theorem cknew_bad (w : World) (f l m : Int) (h : l < 1 ∨ f < l ∨ m < f ∨ 1048576 < m) :
    Calls Try.prog 31 #[.int .i64 f, .int .i64 l, .int .i64 m] w fun e w' => e = .returned (.tuple #[.pointer none, .int .i64 1]) ∧ w = w' := by
  by_cases h1 : l < 1
  · clear h
    go_enter Try.func31, Try.ntmps31
    go_wp2
    go_ret2
    exact ⟨rfl, rfl⟩
  · by_cases h2 : f < l
    · clear h
      go_enter Try.func31, Try.ntmps31
      go_wp2
      go_ret2
      exact ⟨rfl, rfl⟩
    · by_cases h3 : m < f
      · clear h
        go_enter Try.func31, Try.ntmps31
        go_wp2
        go_ret2
        exact ⟨rfl, rfl⟩
      · have h4 : 1048576 < m := by omega
        clear h
        go_enter Try.func31, Try.ntmps31
        go_wp2
        go_ret2
        exact ⟨rfl, rfl⟩
set_option maxHeartbeats 800000 in
theorem cknew_ok (w : World) (f l m : Int) (h1 : ¬ l < 1) (h2 : ¬ f < l) (h3 : ¬ m < f) (h4 : ¬ 1048576 < m) :
    Calls Try.prog 31 #[.int .i64 f, .int .i64 l, .int .i64 m] w fun e w' => e = .returned (.tuple #[.pointer (some ⟨w.heap.size, 0, none⟩), .int .i64 0]) ∧ w'.heap[w.heap.size]? = some (ckO w.heap.size l m f false 0 0) ∧ Below w.heap.size w w' := by
  have HB := Lib.hid (heap_alloc_new w (.cells #[.int .i64 l, .int .i64 m, .int .i64 f, .bool false, .int .i64 0, .int .i64 0, .pointer none] 80))
  have BL := Lib.hid ((Below.refl w.heap.size w).alloc (Nat.le_refl _) (.cells #[.int .i64 l, .int .i64 m, .int .i64 f, .bool false, .int .i64 0, .int .i64 0, .pointer none] 80))
  go_enter Try.func31, Try.ntmps31
  go_upto_region 4 with fail
  clear h1 h2 h3 h4
  generalize w.alloc _ = W1 at HB BL ⊢
  obtain ⟨g, hg⟩ : ∃ g, g = w.heap.size := ⟨_, rfl⟩
  rw [← hg] at HB ⊢
  have HG := Lib.hid hg
  clear hg
  have k0 : W1.cell? ⟨g, 6, none⟩ = some (.pointer none) := by rw [cell_of_block HB.out]; rfl
  have k1 : W1.frozen? ⟨g, 6, none⟩ = false := by simp [World.frozen?, HB.out]
  go_wp2
  go_ret2
  have hg := HG.out
  subst hg
  exact ⟨rfl, set_cellsB HB.out _ (by show 6 < 7; decide), BL.out.setCell (by show w.heap.size ≤ w.heap.size; omega) _⟩
/-- The clock lies in block g. -/
def CkAt (w : World) (g : Nat) (c : CkV) : Prop := w.heap[g]? = some (ckO g c.l c.m c.t c.b c.a c.d)
set_option maxRecDepth 10000 in
set_option maxHeartbeats 2000000 in
theorem ckmeas_ok {w : World} {g : Nat} {c : CkV} (h : CkAt w g c) (hk : c.ok) (r : Int) :
    Calls Try.prog 88 #[.pointer (some ⟨g, 0, none⟩), .int .i64 r] w fun e w' => e = .returned (.tuple #[]) ∧ CkAt w' g (measV c r) ∧ Turn w w' (fun k => k = g) := by
  have hin := nxt_in hk (clampR_in r)
  have hR := clampR_in r
  obtain ⟨R, hRe⟩ : ∃ R, R = clampR r := ⟨_, rfl⟩
  have hP : measV c r = ⟨c.l, c.m, waitV c.l c.m (nxtA c R) (nxtD c R), true, nxtA c R, nxtD c R⟩ := by rw [hRe]; rfl
  rw [← hRe] at hin hR
  unfold clampR at hRe
  obtain ⟨y, hy⟩ : ∃ y, min r 1048576 = y := ⟨_, rfl⟩
  rw [hy] at hRe
  have hy2 : max 0 y = R := hRe.symm
  clear hRe
  rw [hP]
  clear hP
  obtain ⟨l, m, t, b, a, d⟩ := c
  obtain ⟨h1, h2, h3, h4, h5, h6, h7, h8⟩ := hk
  dsimp only at h1 h2 h3 h4 h5 h6 h7 h8
  unfold CkAt at h ⊢
  dsimp only at h ⊢
  obtain ⟨A, hA⟩ : ∃ A, nxtA ⟨l, m, t, b, a, d⟩ R = A := ⟨_, rfl⟩
  obtain ⟨D, hD⟩ : ∃ D, nxtD ⟨l, m, t, b, a, d⟩ R = D := ⟨_, rfl⟩
  rw [hA, hD] at hin ⊢
  obtain ⟨q, hq⟩ : ∃ q, q = A / 8 := ⟨_, rfl⟩
  obtain ⟨s, hs⟩ : ∃ s, max D 1 = s := ⟨_, rfl⟩
  obtain ⟨z, hz⟩ : ∃ z, z = q + s := ⟨_, rfl⟩
  obtain ⟨u, hu⟩ : ∃ u, min z m = u := ⟨_, rfl⟩
  obtain ⟨v, hv⟩ : ∃ v, max l u = v := ⟨_, rfl⟩
  have hw : waitV l m A D = v := by unfold waitV; rw [hs, ← hq, ← hz, hu, hv]
  rw [hw]
  have e0 : Int.tdiv A 8 = q := by rw [hq]; exact Int.tdiv_eq_ediv_of_nonneg hin.1
  have e1 : IntKind.i64.wrap q = q := IntWalk.i64_in _ (by omega)
  have e2 : IntKind.i64.wrap (q + s) = z := by rw [hz]; exact IntWalk.i64_in _ (by omega)
  have KC : Hid (∀ w : World, w.heap[g]? = some (ckO g l m t b a d) → (if b then Calls Try.prog 100 #[.pointer (some ⟨g, 0, none⟩), .int .i64 R] w fun e w' => e = .returned (.tuple #[]) ∧ w'.heap[g]? = some (ckO g l m t true A D) ∧ Turn w w' (fun k => k = g) else Calls Try.prog 101 #[.pointer (some ⟨g, 0, none⟩), .int .i64 R] w fun e w' => e = .returned (.tuple #[]) ∧ w'.heap[g]? = some (ckO g l m t true A D) ∧ Turn w w' (fun k => k = g))) := Lib.hid (by
    intro w h
    cases b with
    | true =>
      rw [if_pos rfl]
      exact ckfollow_ok h ⟨h5, h6⟩ ⟨h7, h8⟩ R hR A D (by rw [← hA]; rfl) (by rw [← hD]; rfl)
    | false =>
      rw [if_neg (by decide)]
      exact ckbegin_ok h R hR A D (by rw [← hA]; rfl) (by rw [← hD]; rfl))
  have HH := Lib.hid h
  obtain ⟨-, -, -, c3, -, -, c6, -⟩ := ck_cells h
  have C6 := Lib.hid c6
  clear h hin hq hz hw hA hD h1 h2 h3 h4 h5 h6 h7 h8 hR c6
  go_enter Try.func88, Try.ntmps88
  cases b with
  | true =>
    have KF := KC.out w HH.out
    rw [if_pos rfl] at KF
    have KK := Lib.hid KF
    clear KF KC
    go_wp2_with (first | (go_at_call 59; refine (cknone_no C6.out).mono ?_; rintro e w' ⟨rfl, rfl⟩) | (go_at_call 100; refine KK.out.mono ?_; rintro e w1 ⟨rfl, r1, r2⟩; have R1 := Lib.hid r1; have R2 := Lib.hid r2; clear r1 r2))
    clear c3
    obtain ⟨c0, c1, c2, -, c4, c5, -, f⟩ := ck_cells R1.out
    have f2 := f 2
    clear f
    go_region
    all_goals
      go_end0
      exact ⟨rfl, (ck_set R1.out 2 (by decide) _).trans rfl, turn_drewC (R2.out.setCell rfl 2 _)⟩
  | false =>
    have KF := KC.out w HH.out
    rw [if_neg (by decide)] at KF
    have KK := Lib.hid KF
    clear KF KC
    go_wp2_with (first | (go_at_call 59; refine (cknone_no C6.out).mono ?_; rintro e w' ⟨rfl, rfl⟩) | (go_at_call 101; refine KK.out.mono ?_; rintro e w1 ⟨rfl, r1, r2⟩; have R1 := Lib.hid r1; have R2 := Lib.hid r2; clear r1 r2))
    clear c3
    obtain ⟨c0, c1, c2, -, c4, c5, -, f⟩ := ck_cells R1.out
    have f2 := f 2
    clear f
    go_region
    all_goals
      go_end0
      exact ⟨rfl, (ck_set R1.out 2 (by decide) _).trans rfl, turn_drewC (R2.out.setCell rfl 2 _)⟩

theorem below_turnC {w w1 w2 : World} {B : Nat} {O : Nat → Prop} (h : Below B w w1) (t : Turn w1 w2 O) (hB : B ≤ w1.heap.size) (ho : ∀ k, O k → B ≤ k) : Below B w w2 :=
  h.trans ⟨t.os, t.tape, t.output, t.size, fun k hk => t.block k (Nat.lt_of_lt_of_le hk hB) (fun e => by have := ho k e; omega)⟩
/-- A clock that was made behind the world w; blocks that stay as they are beside it. -/
structure CkS (w w1 : World) (fx : List (Nat × Obj)) (g : Nat) (c : CkV) : Prop where
  at_ : CkAt w1 g c
  ok : c.ok
  bl : Below w.heap.size w w1
  g0 : w.heap.size ≤ g
  fx : ∀ x ∈ fx, w1.heap[x.1]? = some x.2 ∧ x.1 ≠ g
section
variable {w w1 w2 : World} {fx : List (Nat × Obj)} {g : Nat} {c : CkV}
theorem CkS.lt (h : CkS w w1 fx g c) : g < w1.heap.size := (Array.getElem?_eq_some_iff.1 h.at_).1
theorem CkS.step (h : CkS w w1 fx g c) {c' : CkV} (k : CkAt w2 g c') (ok : c'.ok) (t : Turn w1 w2 (fun k => k = g)) : CkS w w2 fx g c' :=
  ⟨k, ok, below_turnC h.bl t h.bl.size (fun k hk => by rw [hk]; exact h.g0), h.g0, fun x hx => ⟨(t.block x.1 (Array.getElem?_eq_some_iff.1 (h.fx x hx).1).1 (h.fx x hx).2).trans (h.fx x hx).1, (h.fx x hx).2⟩⟩
theorem CkS.grow (h : CkS w w1 fx g c) (k : Below w1.heap.size w1 w2) : CkS w w2 fx g c :=
  ⟨(k.block g h.lt).trans h.at_, h.ok, h.bl.trans (k.mono h.bl.size), h.g0, fun x hx => ⟨(k.block x.1 (Array.getElem?_eq_some_iff.1 (h.fx x hx).1).1).trans (h.fx x hx).1, (h.fx x hx).2⟩⟩
theorem kNew (w : World) (f l m : Int) (h1 : ¬ l < 1) (h2 : ¬ f < l) (h3 : ¬ m < f) (h4 : ¬ 1048576 < m) :
    Calls Try.prog 31 #[.int .i64 f, .int .i64 l, .int .i64 m] w fun e w' => ∃ g, e = .returned (.tuple #[.pointer (some ⟨g, 0, none⟩), .int .i64 0]) ∧ CkS w w' [] g ⟨l, m, f, false, 0, 0⟩ :=
  (cknew_ok w f l m h1 h2 h3 h4).mono fun e w' ⟨e1, e2, e3⟩ => ⟨_, e1, e2, ⟨by dsimp only; omega, by dsimp only; omega, by dsimp only; omega, by dsimp only; omega, by show (0:Int) ≤ 0; decide, by show (0:Int) ≤ 8388608; decide, by show (0:Int) ≤ 0; decide, by show (0:Int) ≤ 4194304; decide⟩, e3, Nat.le_refl _, fun x hx => by cases hx⟩
theorem kMeas (h : CkS w w1 fx g c) (r : Int) (c' : CkV) (hc : measV c r = c') :
    Calls Try.prog 88 #[.pointer (some ⟨g, 0, none⟩), .int .i64 r] w1 fun e w' => e = .returned (.tuple #[]) ∧ CkS w w' fx g c' :=
  (ckmeas_ok h.at_ h.ok r).mono fun e w' ⟨e1, e2, e3⟩ => by
    subst hc
    exact ⟨e1, h.step e2 (h.ok.meas r) e3⟩
theorem kBack (h : CkS w w1 fx g c) (c' : CkV) (hc : backV c = c') :
    Calls Try.prog 98 #[.pointer (some ⟨g, 0, none⟩)] w1 fun e w' => e = .returned (.tuple #[]) ∧ CkS w w' fx g c' :=
  (ckback_ok h.at_ ⟨Int.le_trans h.ok.l1 h.ok.lt, Int.le_trans h.ok.tm h.ok.m2⟩ _ rfl).mono fun e w' ⟨e1, e2, e3⟩ => by
    subst hc
    exact ⟨e1, h.step e2 h.ok.back e3⟩
theorem kWait (h : CkS w w1 fx g c) (t : Int) (ht : c.t = t) :
    Calls Try.prog 37 #[.pointer (some ⟨g, 0, none⟩)] w1 fun e w' => e = .returned (.int .i64 t) ∧ w1 = w' := by
  subst ht
  exact ckwait_ok h.at_
end
end Go.Proofs.Ytlajalfalepbhaa
