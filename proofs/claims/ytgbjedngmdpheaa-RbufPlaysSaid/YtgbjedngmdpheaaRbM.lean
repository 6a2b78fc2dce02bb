/-
  Layer 12: both buffers beside one another; the contract of Great. Conditions: as said.
-/
import Derived.Test.YtgbjedngmdpheaaRbL
namespace Go.Proofs.Ytgbjedngmdpheaa
open Go.RowKit
set_option linter.unusedVariables false

theorem numsW_nones (nx : Int) (W : List (Option UInt8)) (k : Nat) : numsW nx (W ++ List.replicate k none) = numsW nx W := by
  induction W generalizing nx with
  | nil =>
    induction k generalizing nx with
    | zero => rfl
    | succ k ih =>
      rw [List.replicate_succ]
      exact ih _
  | cons o W ih =>
    cases o with
    | none => exact ih _
    | some x => show _ :: numsW _ (W ++ List.replicate k none) = _ :: _; rw [ih]
theorem Dp.more {nx : Int} {W : List (Option UInt8)} {D : List Hb} (h : Dp nx W D) (k : Nat) : Dp nx (W ++ List.replicate k none) D := by
  unfold Dp
  rw [numsW_nones]
  exact h
/-- The program's buffer, that was made behind w, and the document's, that lies in the box x. -/
structure PL (w W : World) (g gb n x : Nat) (nx : Int) (R : List UInt8) (V : List (Option UInt8)) (nd : Int) (S : ByteArray) (p : Option Addr) (c : Nat) (D : List Hb) : Prop where
  rb : RbS w W g gb n nx R V
  bx : W.heap[x]? = some (.cells #[.int .i64 n, .int .u32 nd, .string S, .slice p D.length c] 36 (0, 0))
  row : HbRow W (.slice p D.length c) D
  own : ∀ k, (Value.slice p D.length c).ownBlock = some k → k ≠ g ∧ k ≠ gb ∧ k ≠ x
  x0 : w.heap.size ≤ x
  xg : x ≠ g ∧ x ≠ gb
section
variable {w W W' : World} {g gb n x : Nat} {nx nx' nd nd' : Int} {R R' : List UInt8} {V V' : List (Option UInt8)} {S S' : ByteArray} {p p' : Option Addr} {c c' : Nat} {D D' : List Hb}
theorem PL.grow (h : PL w W g gb n x nx R V nd S p c D) (b : Below W.heap.size W W') : PL w W' g gb n x nx R V nd S p c D :=
  ⟨h.rb.grow b, (b.block x (Array.getElem?_eq_some_iff.1 h.bx).1).trans h.bx, h.row.kept b.size (fun k hk => b.block k (h.row.lt k hk).2), h.own, h.x0, h.xg⟩
theorem PL.prog (h : PL w W g gb n x nx R V nd S p c D) (k : Rb W' g gb n nx' R' V') (t : Turn W W' (fun k => k = g ∨ k = gb)) : PL w W' g gb n x nx' R' V' nd S p c D :=
  ⟨h.rb.step k t, (t.block x (Array.getElem?_eq_some_iff.1 h.bx).1 (fun e => e.elim h.xg.1 h.xg.2)).trans h.bx,
    h.row.kept t.size (fun k hk => t.block k (h.row.lt k hk).2 (fun e => e.elim (h.own k hk).1 (h.own k hk).2.1)), h.own, h.x0, h.xg⟩
theorem PL.doc (h : PL w W g gb n x nx R V nd S p c D) (r : HbRow W (.slice p' D'.length c') D') (o : ∀ k, (Value.slice p' D'.length c').ownBlock = some k → k ≠ g ∧ k ≠ gb ∧ k ≠ x) :
    PL w (W.setRow x #[.int .i64 n, .int .u32 nd', .string S', .slice p' D'.length c']) g gb n x nx R V nd' S' p' c' D' :=
  ⟨⟨h.rb.rb.kept (fun j hj => setRow_other _ _ _ _ (fun e => by subst e; exact hj.elim h.xg.1 h.xg.2)), below_setRowB h.rb.bl h.x0 _, h.rb.g0, h.rb.b0⟩,
    setRow_heap _ _ _ _ _ _ h.bx, r.kept (by rw [size_setRow]; exact Nat.le_refl _) (fun k hk => setRow_other _ _ _ _ (o k hk).2.2), o, h.x0, h.xg⟩
theorem PL.lts (h : PL w W g gb n x nx R V nd S p c D) : g < W.heap.size ∧ gb < W.heap.size ∧ x < W.heap.size :=
  ⟨h.rb.rb.lt, h.rb.rb.ltb, (Array.getElem?_eq_some_iff.1 h.bx).1⟩
end

/-- What Great answers. -/
def sumA (l : List Act12) : Nat := (l.map fun c => min c.s.size 20001).sum
def great12 (l : List Act12) : Bool := decide (100 < l.length) || decide (20000 < sumA l)
theorem sumA_take {l : List Act12} {k : Nat} {c : Act12} (h : l[k]? = some c) : sumA (l.take (k + 1)) = sumA (l.take k) + min c.s.size 20001 := by
  unfold sumA
  rw [List.take_add_one, h]
  simp
theorem sumA_le (l : List Act12) (k : Nat) : sumA (l.take k) ≤ k * 20001 := by
  induction k with
  | zero =>
    have h0 : sumA (l.take 0) = 0 := rfl
    omega
  | succ k ih =>
    cases h : l[k]? with
    | none =>
      have e : l.take (k + 1) = l.take k := by rw [List.take_add_one, h]; simp
      have e2 := congrArg sumA e
      omega
    | some c =>
      have e2 := sumA_take h
      omega
theorem sumA_mem {l : List Act12} {c : Act12} (h : c ∈ l) : min c.s.size 20001 ≤ sumA l := by
  unfold sumA
  induction l with
  | nil => cases h
  | cons d l ih =>
    rw [List.map_cons, List.sum_cons]
    rcases List.mem_cons.1 h with rfl | h
    · omega
    · have := ih h; omega
theorem great12_no {l : List Act12} (h : great12 l = false) : l.length ≤ 100 ∧ ∀ c ∈ l, c.s.size ≤ 20000 := by
  unfold great12 at h
  simp only [Bool.or_eq_false_iff, decide_eq_false_iff_not] at h
  refine ⟨by omega, fun c hc => ?_⟩
  have := sumA_mem hc
  omega
set_option maxHeartbeats 1000000 in
theorem Great12_any (w : World) (p : Option Addr) (len cap : Nat) (l : List Act12) (ha : IsActs12 w p len l) :
    Calls Try.prog 16 #[.slice p len cap] w fun e w' => e = .returned (.bool (great12 l)) ∧ w = w' := by
  have hlen := ha.1
  have hmax := ha.2.1
  unfold maxLen at hmax
  have HA := Lib.hid ha
  have HL := Lib.hid hlen
  clear ha hlen
  go_enter Try.func16, Try.ntmps16
  go_wp2
  go_loop [3, 4] (fun s i => ∃ k : Nat, k ≤ len ∧ k ≤ 101 ∧ i = .int .i64 k ∧ s = .int .i64 (sumA (l.take k) : Nat)) (fun _ i => len - (intOf i).toNat)
  case atStart => exact ⟨0, Nat.zero_le _, by omega, rfl, by simp [sumA]⟩
  case round =>
    obtain ⟨k, hk, hk2, rfl, rfl⟩ := hrel
    have hs := sumA_le l k
    by_cases hlt : k < len
    · have d1 : decide ((k : Int) < (len : Int)) = true := decide_eq_true (by omega)
      by_cases hlt2 : k ≤ 100
      · have d2 : decide ((k : Int) ≤ 100) = true := decide_eq_true (by omega)
        obtain ⟨b, o, c, rfl, hck, hfit, hat⟩ := HA.out.at_ k hlt
        have hcell := hat.2.2.2.2
        have HT := Lib.hid (sumA_take hck)
        generalize sumA (l.take k) = s at hs HT ⊢
        have q1 : (0 : Int) ≤ (k : Int) := by omega
        have q2 : (k : Int) < (len : Int) := by omega
        obtain ⟨m, hm⟩ : ∃ m : Nat, m = min c.s.size 20001 := ⟨_, rfl⟩
        have e1 : min (c.s.size : Int) 20001 = (m : Int) := by omega
        have e2 : IntKind.i64.wrap ((s : Int) + m) = (s : Int) + m := IntWalk.i64_in _ (by omega)
        have e3 : IntKind.i64.wrap ((k : Int) + 1) = (k : Int) + 1 := IntWalk.i64_in _ (by omega)
        have HM := Lib.hid hm
        clear hat hfit hck hm hs
        go_wp2_with fail
        go_round
        case rel => exact ⟨k + 1, by omega, by omega, by go_num, by rw [HT.out, ← HM.out, Int.natCast_add]⟩
        case measure => simp [intOf]; omega
      · have d2 : decide ((k : Int) ≤ 100) = false := decide_eq_false (by omega)
        have d3 : decide ((100 : Int) < (len : Int)) = true := decide_eq_true (by omega)
        have G : Hid (great12 l = true) := Lib.hid (by unfold great12; rw [HL.out, decide_eq_true (by omega)]; rfl)
        clear hs
        go_wp2_with fail
        go_ret
        exact ⟨by rw [G.out]; rfl, rfl⟩
    · obtain rfl : k = len := by omega
      have d1 : decide ((k : Int) < (k : Int)) = false := by simp
      have HLL : Hid (l.take k = l) := Lib.hid (List.take_of_length_le (by rw [HL.out]; exact Nat.le_refl _))
      rw [HLL.out] at hs ⊢
      by_cases hbig : 100 < k
      · have d3 : decide ((100 : Int) < (k : Int)) = true := decide_eq_true (by omega)
        have G : Hid (great12 l = true) := Lib.hid (by unfold great12; rw [HL.out, decide_eq_true hbig]; rfl)
        clear hs
        go_wp2_with fail
        go_ret
        exact ⟨by rw [G.out]; rfl, rfl⟩
      · have d3 : decide ((100 : Int) < (k : Int)) = false := decide_eq_false (by omega)
        have G : Hid (great12 l = decide (20000 < sumA l)) := Lib.hid (by unfold great12; rw [HL.out, decide_eq_false hbig]; rfl)
        generalize sumA l = s at hs G ⊢
        by_cases hs2 : 20000 < s
        · have d4 : decide ((20000 : Int) < (s : Int)) = true := decide_eq_true (by omega)
          have G2 : Hid (great12 l = true) := Lib.hid (by rw [G.out]; exact decide_eq_true hs2)
          clear hs hs2 G
          go_wp2_with fail
          go_ret
          exact ⟨by rw [G2.out]; rfl, rfl⟩
        · have d4 : decide ((20000 : Int) < (s : Int)) = false := decide_eq_false (by omega)
          have G2 : Hid (great12 l = false) := Lib.hid (by rw [G.out]; exact decide_eq_false hs2)
          clear hs hs2 G
          go_wp2_with fail
          go_ret
          exact ⟨by rw [G2.out]; rfl, rfl⟩
end Go.Proofs.Ytgbjedngmdpheaa
