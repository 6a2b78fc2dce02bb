/-
  Layer 15: the flags of a segment, how long it is; whether it may count; room, what is next, data, the Fin; what goes on. Conditions: as said.
-/
import Derived.Test.YtlajalfalepbhaaCnD
namespace Go.Proofs.Ytlajalfalepbhaa
open Go.RowKit
set_option linter.unusedVariables false

theorem and_powS (X k : Nat) : X &&& 2 ^ k = if X.testBit k = true then 2 ^ k else 0 := by
  apply Nat.eq_of_testBit_eq
  intro t
  rw [Nat.testBit_and, Nat.testBit_two_pow]
  by_cases e : k = t
  · subst e
    cases h : X.testBit k <;> simp
  · rw [decide_eq_false e, Bool.and_false]
    split
    · rw [Nat.testBit_two_pow, decide_eq_false e]
    · simp
theorem and_bitS (x : Int) (k : Nat) (hk : k < 63) : bits .and .i64 x ((2 ^ k : Nat) : Int) = if x / ((2 ^ k : Nat) : Int) % 2 = 1 then ((2 ^ k : Nat) : Int) else 0 := by
  have hp : 2 ^ k < 2 ^ 63 := Nat.pow_lt_pow_right (by decide) hk
  have h2 : (BitVec.ofInt 64 ((2 ^ k : Nat) : Int)).toNat = 2 ^ k := by
    rw [BitVec.ofInt_natCast, BitVec.toNat_ofNat]; exact Nat.mod_eq_of_lt (by omega)
  obtain ⟨X, hX⟩ : ∃ X, X = (BitVec.ofInt 64 x).toNat := ⟨_, rfl⟩
  have h1 : (X : Int) = x % 18446744073709551616 := by
    rw [hX, BitVec.toNat_ofInt, Int.toNat_of_nonneg (Int.emod_nonneg _ (by decide))]; rfl
  show IntKind.i64.wrap ((BitVec.ofInt 64 x &&& BitVec.ofInt 64 ((2 ^ k : Nat) : Int)).toNat : Int) = _
  rw [BitVec.toNat_and, h2, ← hX, and_powS, Nat.testBit_eq_decide_div_mod_eq]
  have hd : (X / 2 ^ k % 2 = 1) ↔ (x / ((2 ^ k : Nat) : Int) % 2 = 1) := by
    obtain ⟨q, hq⟩ : ∃ q : Int, x = (X : Int) + q * 18446744073709551616 := ⟨x / 18446744073709551616, by omega⟩
    obtain ⟨D, hD⟩ : ∃ D : Nat, D * 2 ^ k = 2 ^ 63 := ⟨2 ^ (63 - k), by rw [← Nat.pow_add]; congr 1; omega⟩
    have hpos : 0 < 2 ^ k := Nat.two_pow_pos k
    have e : x / ((2 ^ k : Nat) : Int) = ((X / 2 ^ k : Nat) : Int) + q * (2 * D) := by
      have h64 : (18446744073709551616 : Int) = ((2 ^ k : Nat) : Int) * (2 * (D : Int)) := by
        have : ((D * 2 ^ k : Nat) : Int) = ((2 ^ 63 : Nat) : Int) := by rw [hD]
        rw [Int.natCast_mul] at this
        have h63 : ((2 ^ 63 : Nat) : Int) = 9223372036854775808 := rfl
        rw [h63] at this
        rw [Int.mul_left_comm, Int.mul_comm ((2 ^ k : Nat) : Int), this]; rfl
      rw [hq, h64, show q * (((2 ^ k : Nat) : Int) * (2 * (D : Int))) = ((2 ^ k : Nat) : Int) * (q * (2 * (D : Int))) by rw [Int.mul_left_comm], Int.add_mul_ediv_left _ _ (by omega)]
      rw [← Int.natCast_ediv]
    rw [e]
    have : (((X / 2 ^ k : Nat) : Int) + q * (2 * D)) % 2 = ((X / 2 ^ k : Nat) : Int) % 2 := by
      rw [show q * (2 * (D : Int)) = 2 * (q * D) by rw [Int.mul_left_comm], Int.add_mul_emod_self_left]
    rw [this]
    omega
  by_cases hc : X / 2 ^ k % 2 = 1
  · rw [if_pos (hd.1 hc), decide_eq_true hc, if_pos rfl, IntWalk.i64_in _ (by omega)]
  · rw [if_neg (fun e => hc (hd.2 e)), decide_eq_false hc, if_neg (by decide)]
    decide
theorem and_2 (x : Int) : bits .and .i64 x 2 = if x / 2 % 2 = 1 then 2 else 0 := and_bitS x 1 (by decide)
theorem and_1 (x : Int) : bits .and .i64 x 1 = if x % 2 = 1 then 1 else 0 := by
  have := and_bitS x 0 (by decide)
  rw [show ((2 ^ 0 : Nat) : Int) = 1 from rfl, Int.ediv_one] at this
  exact this

theorem and_4 (x : Int) : bits .and .i64 x 4 = if x / 4 % 2 = 1 then 4 else 0 := and_bitS x 2 (by decide)
theorem and_16 (x : Int) : bits .and .i64 x 16 = if x / 16 % 2 = 1 then 16 else 0 := and_bitS x 4 (by decide)
theorem hasF_0 (x : Int) : hasF x 0 = decide (x % 2 = 1) := by
  unfold hasF
  rw [show ((2 ^ 0 : Nat) : Int) = 1 from rfl, Int.ediv_one]
set_option maxRecDepth 100000 in
set_option maxHeartbeats 1000000 in
theorem has_of (w : World) (s : Sg) (m : Int) (b : Bool) (x : Int) (hx : bits .and .i64 s.fl m = x) (hb : (!(x == 0)) = b) :
    Calls Try.prog 41 #[.agg (sgC s), .int .i64 m] w fun e w' => e = .returned (.bool b) ∧ Below w.heap.size w w' := by
  subst hb
  go_enter Try.func41, Try.ntmps41
  go_upto_region 1 with fail
  have FA : Hid (SgAt (w.alloc (.cells (sgC s) 28)) w.heap.size s) := Lib.hid (sg_new w _ s rfl)
  have BL : Hid (Below w.heap.size w (w.alloc (.cells (sgC s) 28))) := Lib.hid ((Below.refl _ _).alloc (Nat.le_refl _) _)
  generalize w.alloc _ = W1 at FA BL ⊢
  have c4 := FA.out.fl
  go_wp2_with fail
  go_ret
  exact ⟨rfl, BL.out⟩
theorem has_k (w : World) (s : Sg) (k : Nat) (m : Int) (hk : k < 63) (hm : m = ((2 ^ k : Nat) : Int)) :
    Calls Try.prog 41 #[.agg (sgC s), .int .i64 m] w fun e w' => e = .returned (.bool (hasF s.fl k)) ∧ Below w.heap.size w w' := by
  refine has_of w s m _ _ rfl ?_
  rw [hm, and_bitS s.fl k hk]
  unfold hasF
  have hp : ((2 ^ k : Nat) : Int) ≠ 0 := by have := Nat.two_pow_pos k; omega
  by_cases h : s.fl / ((2 ^ k : Nat) : Int) % 2 = 1
  · rw [if_pos h, decide_eq_true h, beq_eq_false_iff_ne.2 hp]
    rfl
  · rw [if_neg h, decide_eq_false h]
    rfl
set_option maxRecDepth 100000 in
set_option maxHeartbeats 1000000 in
theorem len_sg (w : World) (f : Sg) (hz : f.da.size ≤ 140737488355328) :
    Calls Try.prog 58 #[.agg (sgC f)] w fun e w' => e = .returned (.int .i64 (sgN f)) ∧ Below w.heap.size w w' := by
  have a1 := and_1 f.fl
  have a2 := and_2 f.fl
  have w1 : IntKind.i64.wrap ((f.da.size : Int) + 1) = (f.da.size : Int) + 1 := IntWalk.i64_in _ (by omega)
  have w2 : IntKind.i64.wrap ((f.da.size : Int) + 1 + 1) = (f.da.size : Int) + 1 + 1 := IntWalk.i64_in _ (by omega)
  have hN : sgN f = (f.da.size : Int) + (if f.fl / 2 % 2 = 1 then 1 else 0) + (if f.fl % 2 = 1 then 1 else 0) := rfl
  generalize sgN f = M at hN ⊢
  by_cases h2 : f.fl / 2 % 2 = 1 <;> by_cases h1 : f.fl % 2 = 1
  all_goals
    first | rw [if_pos h2] at hN a2 | rw [if_neg h2] at hN a2
    first | rw [if_pos h1] at hN a1 | rw [if_neg h1] at hN a1
    try rw [Int.add_zero] at hN
    try rw [Int.add_zero] at hN
    subst hN
    clear h1 h2 hz
    go_enter Try.func58, Try.ntmps58
    go_upto_region 1 with fail
    have FA : Hid (SgAt (w.alloc (.cells (sgC f) 28)) w.heap.size f) := Lib.hid (sg_new w _ f rfl)
    have BL : Hid (Below w.heap.size w (w.alloc (.cells (sgC f) 28))) := Lib.hid ((Below.refl _ _).alloc (Nat.le_refl _) _)
    generalize w.alloc _ = W1 at FA BL ⊢
    obtain ⟨c0, c1, c2, c3, c4, c5, c6, c7⟩ := FA.out.all
    go_wp2_with fail
    go_ret
    exact ⟨rfl, BL.out⟩
end Go.Proofs.Ytlajalfalepbhaa
