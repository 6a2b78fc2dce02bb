/-
  Layer 14: a clock as mathematics and in memory; what is none; New, Measure, Back, Wait. Conditions: as said.
-/
import Derived.Test.YtlajalfalepbhaaRbB
import Derived.BigRegion
import Derived.RegionTactic
import Derived.ChangeAlike
namespace Go.Proofs.Ytlajalfalepbhaa
open Go.RowKit
set_option linter.unusedVariables false

/-- A clock: its bounds, its wait, whether it has measured something, eight times the mean, four times how far it varies. -/
structure CkV where
  l : Int
  m : Int
  t : Int
  b : Bool
  a : Int
  d : Int
structure CkV.ok (c : CkV) : Prop where
  l1 : 1 ≤ c.l
  lt : c.l ≤ c.t
  tm : c.t ≤ c.m
  m2 : c.m ≤ 1048576
  a0 : 0 ≤ c.a
  a1 : c.a ≤ 8388608
  d0 : 0 ≤ c.d
  d1 : c.d ≤ 4194304
/-- How long, as it counts. -/
def clampR (r : Int) : Int := max 0 (min r 1048576)
theorem clampR_in (r : Int) : 0 ≤ clampR r ∧ clampR r ≤ 1048576 := by unfold clampR; omega
def nxtA (c : CkV) (R : Int) : Int := if c.b then c.a + (R - c.a / 8) else 8 * R
def nxtD (c : CkV) (R : Int) : Int := if c.b then c.d + (max (R - c.a / 8) (-(R - c.a / 8)) - c.d / 4) else 2 * R
def waitV (l m a d : Int) : Int := max l (min (a / 8 + max d 1) m)
/-- What a measure makes of it. -/
def measV (c : CkV) (r : Int) : CkV := ⟨c.l, c.m, waitV c.l c.m (nxtA c (clampR r)) (nxtD c (clampR r)), true, nxtA c (clampR r), nxtD c (clampR r)⟩
/-- What a longer wait makes of it. -/
def backV (c : CkV) : CkV := { c with t := min (2 * c.t) c.m }
theorem nxt_in {c : CkV} (h : c.ok) {R : Int} (hR : 0 ≤ R ∧ R ≤ 1048576) : 0 ≤ nxtA c R ∧ nxtA c R ≤ 8388608 ∧ 0 ≤ nxtD c R ∧ nxtD c R ≤ 4194304 := by
  obtain ⟨_, _, _, _, h1, h2, h3, h4⟩ := h
  unfold nxtA nxtD
  split <;> omega
theorem CkV.ok.meas {c : CkV} (h : c.ok) (r : Int) : (measV c r).ok := by
  have h1 := nxt_in h (clampR_in r)
  obtain ⟨a1, a2, a3, a4, _⟩ := h
  exact ⟨a1, by unfold measV waitV; dsimp only; omega, by unfold measV waitV; dsimp only; omega, a4, h1.1, h1.2.1, h1.2.2.1, h1.2.2.2⟩
theorem CkV.ok.back {c : CkV} (h : c.ok) : (backV c).ok := by
  obtain ⟨a1, a2, a3, a4, a5, a6, a7, a8⟩ := h
  exact ⟨a1, by unfold backV; dsimp only; omega, by unfold backV; dsimp only; omega, a4, a5, a6, a7, a8⟩

/-- The block of a clock. -/
def ckO (g : Nat) (l m t : Int) (b : Bool) (a d : Int) : Obj := .cells #[.int .i64 l, .int .i64 m, .int .i64 t, .bool b, .int .i64 a, .int .i64 d, .pointer (some ⟨g, 0, none⟩)] 80 (0, 0)
/-- A pointer to no clock that 'New' made: nil, or to a struct that names no maker. -/
def CkNone (w : World) (p : Option Addr) : Prop := p = none ∨ ∃ g, p = some ⟨g, 0, none⟩ ∧ w.cell? ⟨g, 6, none⟩ = some (.pointer none)
theorem ck_cells {w : World} {g : Nat} {l m t : Int} {b : Bool} {a d : Int} (h : w.heap[g]? = some (ckO g l m t b a d)) :
    w.cell? ⟨g, 0, none⟩ = some (.int .i64 l) ∧ w.cell? ⟨g, 1, none⟩ = some (.int .i64 m) ∧ w.cell? ⟨g, 2, none⟩ = some (.int .i64 t) ∧ w.cell? ⟨g, 3, none⟩ = some (.bool b) ∧ w.cell? ⟨g, 4, none⟩ = some (.int .i64 a) ∧ w.cell? ⟨g, 5, none⟩ = some (.int .i64 d) ∧ w.cell? ⟨g, 6, none⟩ = some (.pointer (some ⟨g, 0, none⟩)) ∧ ∀ i, w.frozen? ⟨g, i, none⟩ = false := by
  unfold ckO at h
  exact ⟨by rw [cell_of_block h]; rfl, by rw [cell_of_block h]; rfl, by rw [cell_of_block h]; rfl, by rw [cell_of_block h]; rfl, by rw [cell_of_block h]; rfl, by rw [cell_of_block h]; rfl, by rw [cell_of_block h]; rfl, fun i => by simp [World.frozen?, h]⟩
theorem ck_set {w : World} {g : Nat} {l m t : Int} {b : Bool} {a d : Int} (h : w.heap[g]? = some (ckO g l m t b a d)) (i : Nat) (hi : i < 7) (v : Value) :
    (w.setCell ⟨g, i, none⟩ v).heap[g]? = some (.cells ((#[.int .i64 l, .int .i64 m, .int .i64 t, .bool b, .int .i64 a, .int .i64 d, .pointer (some ⟨g, 0, none⟩)] : Array Value).setIfInBounds i v) 80 (0, 0)) :=
  set_cellsB h v hi

theorem info_ck : ∃ j, Try.prog.info? 80 = some j := Option.isSome_iff_exists.1 (by kernel_rfl)
set_option maxHeartbeats 400000 in
theorem cknone_no {w : World} {g : Nat} (hm : w.cell? ⟨g, 6, none⟩ = some (.pointer (some ⟨g, 0, none⟩))) :
    Calls Try.prog 59 #[.pointer (some ⟨g, 0, none⟩)] w fun e w' => e = .returned (.bool false) ∧ w = w' := by
  obtain ⟨j, hj⟩ := info_ck
  have hq := Lib.run_neq_ptr_same (P := Try.prog) (w := w) ⟨g, 0, none⟩ Try.underlying45 hj
  clear hj
  go_enter Try.func59, Try.ntmps59
  go_wp2
  go_ret
  exact ⟨rfl, rfl⟩
set_option maxHeartbeats 400000 in
theorem cknone_yes (w : World) (p : Option Addr) (hp : CkNone w p) :
    Calls Try.prog 59 #[.pointer p] w fun e w' => e = .returned (.bool true) ∧ w = w' := by
  rcases hp with rfl | ⟨g, rfl, hc⟩
  · go_enter Try.func59, Try.ntmps59
    go_wp2
    go_ret
    exact ⟨rfl, rfl⟩
  · have hq := neq_nil_ptr (P := Try.prog) w ⟨g, 0, none⟩ Try.underlying45
    go_enter Try.func59, Try.ntmps59
    go_wp2
    go_ret
    exact ⟨rfl, rfl⟩
set_option maxHeartbeats 400000 in
theorem ckwait_no (w : World) (p : Option Addr) (h : CkNone w p) :
    Calls Try.prog 37 #[.pointer p] w fun e w' => e = .returned (.int .i64 0) ∧ w = w' := by
  go_enter Try.func37, Try.ntmps37
  go_wp2_with (go_at_call 59; refine (cknone_yes _ _ h).mono ?_; rintro e w' ⟨rfl, rfl⟩)
  go_ret
  exact ⟨rfl, rfl⟩
set_option maxHeartbeats 400000 in
theorem ckback_no (w : World) (p : Option Addr) (h : CkNone w p) :
    Calls Try.prog 98 #[.pointer p] w fun e w' => e = .returned (.tuple #[]) ∧ w = w' := by
  go_enter Try.func98, Try.ntmps98
  go_wp2_with (go_at_call 59; refine (cknone_yes _ _ h).mono ?_; rintro e w' ⟨rfl, rfl⟩)
  exact bodyPost_ret (v := .tuple #[]) (results_none rfl _ _ _) rfl ⟨rfl, rfl⟩
set_option maxHeartbeats 400000 in
theorem ckmeas_no (w : World) (p : Option Addr) (h : CkNone w p) (r : Int) :
    Calls Try.prog 88 #[.pointer p, .int .i64 r] w fun e w' => e = .returned (.tuple #[]) ∧ w = w' := by
  go_enter Try.func88, Try.ntmps88
  go_wp2_with (go_at_call 59; refine (cknone_yes _ _ h).mono ?_; rintro e w' ⟨rfl, rfl⟩)
  exact bodyPost_ret (v := .tuple #[]) (results_none rfl _ _ _) rfl ⟨rfl, rfl⟩
set_option maxHeartbeats 400000 in
theorem ckwait_ok {w : World} {g : Nat} {l m t : Int} {b : Bool} {a d : Int} (h : w.heap[g]? = some (ckO g l m t b a d)) :
    Calls Try.prog 37 #[.pointer (some ⟨g, 0, none⟩)] w fun e w' => e = .returned (.int .i64 t) ∧ w = w' := by
  obtain ⟨-, -, c2, -, -, -, c6, -⟩ := ck_cells h
  have C6 := Lib.hid c6
  clear h c6
  go_enter Try.func37, Try.ntmps37
  go_wp2_with (go_at_call 59; refine (cknone_no C6.out).mono ?_; rintro e w' ⟨rfl, rfl⟩)
  go_ret
  exact ⟨rfl, rfl⟩
theorem turn_drewC {w w1 : World} {O : Nat → Prop} (h : Turn w w1 O) : Turn w w1.drew O := h.trans ⟨rfl, rfl, rfl, Nat.le_refl _, fun _ _ _ => rfl⟩
set_option maxHeartbeats 800000 in
theorem ckback_ok {w : World} {g : Nat} {l m t : Int} {b : Bool} {a d : Int} (h : w.heap[g]? = some (ckO g l m t b a d)) (ht : 1 ≤ t ∧ t ≤ 1048576) (t' : Int) (ht' : t' = min (2 * t) m) :
    Calls Try.prog 98 #[.pointer (some ⟨g, 0, none⟩)] w fun e w' => e = .returned (.tuple #[]) ∧ w'.heap[g]? = some (ckO g l m t' b a d) ∧ Turn w w' (fun k => k = g) := by
  obtain ⟨-, c1, c2, -, -, -, c6, f⟩ := ck_cells h
  have f2 := f 2
  have HH := Lib.hid h
  have C6 := Lib.hid c6
  have e1 : IntKind.i64.wrap (2 * t) = 2 * t := IntWalk.i64_in _ (by omega)
  obtain ⟨t2, h2⟩ : ∃ t2, t2 = 2 * t := ⟨_, rfl⟩
  have e3 := ht'.symm
  clear h c6 f ht ht' h2
  go_enter Try.func98, Try.ntmps98
  go_wp2_with (go_at_call 59; refine (cknone_no C6.out).mono ?_; rintro e w' ⟨rfl, rfl⟩)
  go_region
  all_goals
    go_end0
    exact ⟨rfl, (ck_set (w := w) HH.out 2 (by decide) (.int .i64 t')).trans rfl, turn_drewC ((Turn.refl _ _).setCell (O := fun k => k = g) rfl 2 _)⟩
set_option maxHeartbeats 800000 in
theorem ckbegin_ok {w : World} {g : Nat} {l m t : Int} {b : Bool} {a d : Int} (h : w.heap[g]? = some (ckO g l m t b a d)) (r : Int) (hr : 0 ≤ r ∧ r ≤ 1048576) (a' d' : Int) (ha : a' = 8 * r) (hd : d' = 2 * r) :
    Calls Try.prog 101 #[.pointer (some ⟨g, 0, none⟩), .int .i64 r] w fun e w' => e = .returned (.tuple #[]) ∧ w'.heap[g]? = some (ckO g l m t true a' d') ∧ Turn w w' (fun k => k = g) := by
  obtain ⟨-, -, -, -, -, -, -, f⟩ := ck_cells h
  have f3 := f 3
  have f4 := f 4
  have f5 := f 5
  have HH := Lib.hid h
  have e1 : IntKind.i64.wrap (8 * r) = a' := by rw [ha]; exact IntWalk.i64_in _ (by omega)
  have e2 : IntKind.i64.wrap (2 * r) = d' := by rw [hd]; exact IntWalk.i64_in _ (by omega)
  clear h f ha hd hr
  obtain ⟨-, -, -, c3, c4, c5, -, -⟩ := ck_cells HH.out
  go_enter Try.func101, Try.ntmps101
  go_wp2_with fail
  go_end0
  exact ⟨rfl, by rw [set_cellsB (set_cellsB (ck_set HH.out 3 (by decide) _) _ (by show 4 < 7; decide)) _ (by show 5 < 7; decide)]; rfl, (((Turn.refl _ (fun k => k = g)).setCell rfl 3 _).setCell rfl 4 _).setCell rfl 5 _⟩
set_option maxHeartbeats 800000 in
theorem ckfollow_ok {w : World} {g : Nat} {l m t : Int} {b : Bool} {a d : Int} (h : w.heap[g]? = some (ckO g l m t b a d)) (ha : 0 ≤ a ∧ a ≤ 8388608) (hd : 0 ≤ d ∧ d ≤ 4194304) (r : Int) (hr : 0 ≤ r ∧ r ≤ 1048576) (a' d' : Int) (ha' : a' = a + (r - a / 8)) (hd' : d' = d + (max (r - a / 8) (-(r - a / 8)) - d / 4)) :
    Calls Try.prog 100 #[.pointer (some ⟨g, 0, none⟩), .int .i64 r] w fun e w' => e = .returned (.tuple #[]) ∧ w'.heap[g]? = some (ckO g l m t b a' d') ∧ Turn w w' (fun k => k = g) := by
  obtain ⟨q, hq⟩ : ∃ q, q = a / 8 := ⟨_, rfl⟩
  obtain ⟨q4, hq4⟩ : ∃ q4, q4 = d / 4 := ⟨_, rfl⟩
  obtain ⟨x, hx⟩ : ∃ x, x = r - q := ⟨_, rfl⟩
  obtain ⟨s, hs⟩ : ∃ s, s = max x (-x) := ⟨_, rfl⟩
  rw [← hq, ← hx] at ha' hd'
  rw [← hs, ← hq4] at hd'
  obtain ⟨-, -, -, -, c4, c5, -, f⟩ := ck_cells h
  have f4 := f 4
  have f5 := f 5
  have HH := Lib.hid h
  have e0 : Int.tdiv a 8 = q := by rw [hq]; exact Int.tdiv_eq_ediv_of_nonneg ha.1
  have e4 : Int.tdiv d 4 = q4 := by rw [hq4]; exact Int.tdiv_eq_ediv_of_nonneg hd.1
  have e1 : IntKind.i64.wrap (r - q) = x := by rw [hx]; exact IntWalk.i64_in _ (by omega)
  have e2 : IntKind.i64.wrap (-x) = -x := IntWalk.i64_in _ (by omega)
  have e3 : max x (-x) = s := hs.symm
  have e5 : IntKind.i64.wrap q = q := IntWalk.i64_in _ (by omega)
  have e6 : IntKind.i64.wrap q4 = q4 := IntWalk.i64_in _ (by omega)
  obtain ⟨y, hy⟩ : ∃ y, y = s - q4 := ⟨_, rfl⟩
  have e7 : IntKind.i64.wrap (s - q4) = y := by rw [hy]; exact IntWalk.i64_in _ (by omega)
  have e8 : IntKind.i64.wrap (d + y) = d' := by rw [hd', ← hy]; exact IntWalk.i64_in _ (by omega)
  have e9 : IntKind.i64.wrap (a + x) = a' := by rw [ha']; exact IntWalk.i64_in _ (by omega)
  clear h f ha hd ha' hd' hq hq4 hx hs hy hr
  go_enter Try.func100, Try.ntmps100
  go_wp2_with fail
  go_region
  all_goals
    have h1 := ck_set (w := w) HH.out 5 (by decide) (.int .i64 d')
    have T1 : Hid (Turn w (w.setCell ⟨g, 5, none⟩ (.int .i64 d')) (fun k => k = g)) := Lib.hid ((Turn.refl _ (fun k => k = g)).setCell rfl 5 _)
    generalize w.setCell _ _ = w1 at h1 T1 ⊢
    have H1 : Hid (w1.drew.heap[g]? = some (ckO g l m t b a d')) := Lib.hid h1
    have T2 := Lib.hid (turn_drewC T1.out)
    generalize w1.drew = w2 at H1 T2 ⊢
    clear h1 c4 f4 T1
    obtain ⟨-, -, -, -, c4, -, -, f⟩ := ck_cells H1.out
    have f4 := f 4
    clear f
    go_wp2_with fail
    go_end0
    exact ⟨rfl, (ck_set H1.out 4 (by decide) _).trans rfl, T2.out.setCell rfl 4 _⟩
end Go.Proofs.Ytlajalfalepbhaa
