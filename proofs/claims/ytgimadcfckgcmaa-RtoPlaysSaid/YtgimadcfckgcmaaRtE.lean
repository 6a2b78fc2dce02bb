/-
  Layer 14: numbers that come in; two clocks side by side; a clock beside the document's; what measuring the same again and again comes to. Conditions: as said.
-/
import Derived.Test.YtgimadcfckgcmaaRtD
import Derived.Test.YtgimadcfckgcmaaNuB
namespace Go.Proofs.Ytgimadcfckgcmaa
open Go.RowKit Go.ChangeShapes Go.WideShapes Go.Deep
set_option linter.unusedVariables false

abbrev IsI64 (w : World) (p : Option Addr) (len : Nat) (l : List Int) : Prop := IsNums .i64 w p len l
abbrev IsU16 (w : World) (p : Option Addr) (len : Nat) (l : List Int) : Prop := IsNums .u16 w p len l
theorem open_i14 {H : Type} {enc : TypeId × Value → H} {w : World} {p : Option Addr} {len cap fuel : Nat} {x : DataW H × List MemPlace}
    (h : DataW.trod enc Try.prog w 0 (fun _ => true) true fuel 31 (Value.slice p len cap).cells.toList = some x) : ∃ l, IsI64 w p len l :=
  open_nums Try.underlying31 Try.underlying3 (by kernel_rfl) h
theorem open_u14 {H : Type} {enc : TypeId × Value → H} {w : World} {p : Option Addr} {len cap fuel : Nat} {x : DataW H × List MemPlace}
    (h : DataW.trod enc Try.prog w 0 (fun _ => true) true fuel 39 (Value.slice p len cap).cells.toList = some x) : ∃ l, IsU16 w p len l :=
  open_nums Try.underlying39 Try.underlying40 (by kernel_rfl) h
theorem sq_u16 {n : Int} (h : (Lit.int .u16 n).wf = true) : 0 ≤ n ∧ n < 65536 := by
  have : 0 ≤ n ∧ n ≤ 65535 := by simpa [Lit.wf, IntKind.min, IntKind.max, IntKind.signed, IntKind.bits] using h
  omega
theorem half_in (z : Int) (h : -9223372036854775808 ≤ z ∧ z ≤ 9223372036854775807) : ∃ y m : Int, Int.tdiv z 2 = y ∧ Int.tmod z 2 = m ∧ IntKind.i64.wrap y = y ∧ IntKind.i64.wrap m = m := by
  refine ⟨_, _, rfl, rfl, ?_, ?_⟩
  · rcases Int.le_total 0 z with hz | hz
    · rw [Int.tdiv_eq_ediv_of_nonneg hz]
      exact IntWalk.i64_in _ (by omega)
    · have e : Int.tdiv z 2 = -((-z) / 2) := by
        rw [← Int.tdiv_eq_ediv_of_nonneg (by omega : (0:Int) ≤ -z), Int.neg_tdiv, Int.neg_neg]
      rw [e]
      exact IntWalk.i64_in _ (by omega)
  · rcases Int.le_total 0 z with hz | hz
    · rw [Int.tmod_eq_emod_of_nonneg hz]
      exact IntWalk.i64_in _ (by omega)
    · have e : Int.tmod z 2 = -((-z) % 2) := by
        rw [← Int.tmod_eq_emod_of_nonneg (by omega : (0:Int) ≤ -z), Int.neg_tmod, Int.neg_neg]
      rw [e]
      exact IntWalk.i64_in _ (by omega)

/-- Two clocks side by side. -/
structure CkP (w w1 : World) (g g2 : Nat) (c c2 : CkV) : Prop where
  a : CkS w w1 [] g c
  b : CkS w w1 [] g2 c2
  ne : g ≠ g2
section
variable {w w1 w2 : World} {g g2 : Nat} {c c2 : CkV}
theorem CkP.grow (h : CkP w w1 g g2 c c2) (k : Below w1.heap.size w1 w2) : CkP w w2 g g2 c c2 := ⟨h.a.grow k, h.b.grow k, h.ne⟩
theorem CkS.turn (h : CkS w w1 [] g2 c2) (t : Turn w1 w2 (fun k => k = g)) (ne : g ≠ g2) (b : Below w.heap.size w w2) : CkS w w2 [] g2 c2 :=
  ⟨(t.block g2 h.lt (fun e => ne e.symm)).trans h.at_, h.ok, b, h.g0, fun x hx => by cases hx⟩
theorem pMeas1 (h : CkP w w1 g g2 c c2) (r : Int) :
    Calls Try.prog 9 #[.pointer (some ⟨g, 0, none⟩), .int .i64 r] w1 fun e w' => e = .returned (.tuple #[]) ∧ CkP w w' g g2 (measV c r) c2 :=
  (ckmeas_ok h.a.at_ h.a.ok r).mono fun e w' ⟨e1, e2, e3⟩ => by
    have k := h.a.step e2 (h.a.ok.meas r) e3
    exact ⟨e1, k, h.b.turn e3 h.ne k.bl, h.ne⟩
theorem pMeas2 (h : CkP w w1 g g2 c c2) (r : Int) :
    Calls Try.prog 9 #[.pointer (some ⟨g2, 0, none⟩), .int .i64 r] w1 fun e w' => e = .returned (.tuple #[]) ∧ CkP w w' g g2 c (measV c2 r) :=
  (ckmeas_ok h.b.at_ h.b.ok r).mono fun e w' ⟨e1, e2, e3⟩ => by
    have k := h.b.step e2 (h.b.ok.meas r) e3
    exact ⟨e1, h.a.turn e3 (fun e => h.ne e.symm) k.bl, k, h.ne⟩
theorem pBack1 (h : CkP w w1 g g2 c c2) :
    Calls Try.prog 10 #[.pointer (some ⟨g, 0, none⟩)] w1 fun e w' => e = .returned (.tuple #[]) ∧ CkP w w' g g2 (backV c) c2 :=
  (ckback_ok h.a.at_ ⟨Int.le_trans h.a.ok.l1 h.a.ok.lt, Int.le_trans h.a.ok.tm h.a.ok.m2⟩ _ rfl).mono fun e w' ⟨e1, e2, e3⟩ => by
    have k := h.a.step (c' := backV c) e2 h.a.ok.back e3
    exact ⟨e1, k, h.b.turn e3 h.ne k.bl, h.ne⟩
end

/-- How far eight times the mean is from eight times n; from below seven more. -/
def offV (n a : Int) : Int := if 8 * n ≤ a then a - 8 * n else 8 * n - a + 7
def itV : Nat → Int → Int
  | 0, v => v
  | j + 1, v => itV j v - itV j v / 8
def itD : Nat → Int → Int
  | 0, v => v
  | j + 1, v => itD j v - itD j v / 4
theorem itV_small : itV 200 8428608 ≤ 7 := by decide +kernel
theorem itD_small : itD 100 4194304 ≤ 3 := by decide +kernel
theorem itV_mono (j : Nat) : itV (j + 1) 8428608 ≤ max 7 (itV j 8428608) := by show itV j 8428608 - itV j 8428608 / 8 ≤ _; omega
theorem itV_le7 : ∀ j : Nat, itV (200 + j) 8428608 ≤ 7
  | 0 => itV_small
  | j + 1 => by have := itV_mono (200 + j); have := itV_le7 j; rw [show 200 + (j + 1) = 200 + j + 1 from rfl]; omega
theorem itD_le3 : ∀ j : Nat, itD (100 + j) 4194304 ≤ 3
  | 0 => itD_small
  | j + 1 => by
    have h := itD_le3 j
    rw [show 100 + (j + 1) = 100 + j + 1 from rfl]
    show itD (100 + j) 4194304 - itD (100 + j) 4194304 / 4 ≤ 3
    omega
theorem off_step (n a v : Int) (hv : offV n a ≤ v) : offV n (a + (n - a / 8)) ≤ v - v / 8 := by
  unfold offV at *
  split at hv <;> split <;> omega
theorem off_end (n a : Int) (h : offV n a ≤ 7) : a / 8 = n := by
  unfold offV at h
  split at h <;> omega
/-- Behind j measures of n. -/
structure StV (n : Int) (j : Nat) (c : CkV) : Prop where
  b : 1 ≤ j → c.b = true
  t : 1 ≤ j → c.t = waitV c.l c.m c.a c.d
  v : ∀ i, j = i + 1 → offV n c.a ≤ itV i 8428608
  d : ∀ i, j = 201 + i → c.d ≤ itD i 4194304
theorem StV.zero (n : Int) (c : CkV) : StV n 0 c := ⟨fun h => by omega, fun h => by omega, fun i h => by omega, fun i h => by omega⟩
theorem StV.step {n : Int} {j : Nat} {c : CkV} (h : StV n j c) (ok : c.ok) (hn : 0 ≤ n ∧ n ≤ 5000) : StV n (j + 1) (measV c n) := by
  have hc : clampR n = n := by unfold clampR; omega
  have ok2 := ok.meas n
  have e1 : (measV c n).a = nxtA c n := by show nxtA c (clampR n) = _; rw [hc]
  have e2 : (measV c n).d = nxtD c n := by show nxtD c (clampR n) = _; rw [hc]
  refine ⟨fun _ => rfl, fun _ => rfl, fun i hi => ?_, fun i hi => ?_⟩
  · obtain rfl : j = i := by omega
    cases j with
    | zero =>
      show offV n _ ≤ 8428608
      have := ok2.a0
      have := ok2.a1
      unfold offV
      split <;> omega
    | succ i =>
      have hv := off_step n c.a _ (h.v i rfl)
      rw [e1]
      unfold nxtA
      rw [if_pos (h.b (by omega))]
      exact hv
  · cases i with
    | zero => exact ok2.d1
    | succ i =>
      obtain rfl : j = 201 + i := by omega
      have hd := h.d i rfl
      have hx := off_end n c.a (Int.le_trans (h.v (200 + i) (by omega)) (itV_le7 i))
      rw [e2]
      unfold nxtD
      rw [if_pos (h.b (by omega)), hx]
      show _ ≤ itD i 4194304 - itD i 4194304 / 4
      omega
theorem StV.last {n : Int} {c : CkV} (h : StV n 400 c) (ok : c.ok) (hn : 0 ≤ n ∧ n ≤ 5000) (hl : c.l = 1) (hm : c.m = 1048576) : max n 1 ≤ c.t ∧ c.t ≤ n + 4 := by
  have hx := off_end n c.a (Int.le_trans (h.v 399 rfl) (itV_le7 199))
  have hd := Int.le_trans (h.d 199 rfl) (itD_le3 99)
  rw [h.t (by omega), hl, hm]
  unfold waitV
  rw [hx]
  omega
end Go.Proofs.Ytgimadcfckgcmaa
