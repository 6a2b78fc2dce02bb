/-
  Layer 8: the sum of a text, as mathematics. No program is named here.
-/
import Derived.ProofKit
namespace Go.Proofs.Ytbjoibgkhooljaa
set_option linter.unusedVariables false

/-- The pairs of a text, added. -/
def tot : List UInt8 → Nat
  | [] => 0
  | [a] => 256 * a.toNat
  | a :: b :: l => 256 * a.toNat + b.toNat + tot l
/-- What is left of a number when what is above 65535 has been added to the rest, again and again. -/
def cm (n : Nat) : Nat := if n = 0 then 0 else (n - 1) % 65535 + 1
def sumT (l : List UInt8) : Nat := 65535 - cm (tot l)
theorem cm_le (n : Nat) : cm n ≤ 65535 := by unfold cm; split <;> omega
theorem cm_small {n : Nat} (h : n ≤ 65535) : cm n = n := by unfold cm; split <;> omega
theorem cm_step {n : Nat} (h : 65535 < n) : cm (n / 65536 + n % 65536) = cm n := by unfold cm; split <;> split <;> omega
theorem cm_mod (n : Nat) : cm n % 65535 = n % 65535 := by unfold cm; split <;> omega
theorem cm_pos {n : Nat} : 0 < cm n ↔ 0 < n := by unfold cm; split <;> omega
theorem cm_full {n : Nat} (h0 : 0 < n) (h : n % 65535 = 0) : cm n = 65535 := by unfold cm; split <;> omega
theorem cm_same {x y : Nat} (h : cm x = cm y) : x % 65535 = y % 65535 := by rw [← cm_mod x, ← cm_mod y, h]
theorem cm_add (a b : Nat) : cm (a + b) = cm (cm a + b) := by unfold cm; split <;> split <;> split <;> omega
theorem sumT_le (l : List UInt8) : sumT l ≤ 65535 := Nat.sub_le _ _
theorem tot_append : ∀ (a b : List UInt8), a.length % 2 = 0 → tot (a ++ b) = tot a + tot b
  | [], b, _ => by simp [tot]
  | [x], b, h => by simp at h
  | x :: y :: a, b, h => by
    have := tot_append a b (by simp at h; omega)
    simp only [List.cons_append, tot, this]
    omega
/-- The two bytes of a number below 65536, the greater first. -/
def two (n : Nat) : List UInt8 := [UInt8.ofNat (n / 256), UInt8.ofNat (n % 256)]
theorem tot_two {n : Nat} (h : n ≤ 65535) : tot (two n) = n := by
  simp only [two, tot, UInt8.toNat_ofNat']
  omega
theorem sum_zero {n : Nat} (h0 : 0 < n) (h : n % 65535 = 0) : 65535 - cm n = 0 := by rw [cm_full h0 h]
theorem rest_zero (t : Nat) : 0 < t + (65535 - cm t) ∧ (t + (65535 - cm t)) % 65535 = 0 := by
  have h1 := cm_mod t
  have h2 := cm_le t
  have h3 := @cm_pos t
  constructor
  · omega
  · omega
/-- With its sum behind it a text of an even length has the sum 0. -/
theorem sum_behind {a : List UInt8} (h : a.length % 2 = 0) : sumT (a ++ two (sumT a)) = 0 := by
  unfold sumT
  rw [tot_append _ _ h, tot_two (Nat.sub_le _ _)]
  exact sum_zero (rest_zero _).1 (rest_zero _).2
theorem sum_ahead (a : List UInt8) : sumT (two (sumT a) ++ a) = 0 := by
  unfold sumT
  rw [tot_append _ _ (by simp [two]), tot_two (Nat.sub_le _ _), Nat.add_comm]
  exact sum_zero (rest_zero _).1 (rest_zero _).2
theorem sum_swap {a b : List UInt8} (ha : a.length % 2 = 0) (hb : b.length % 2 = 0) : sumT (a ++ b) = sumT (b ++ a) := by
  unfold sumT
  rw [tot_append _ _ ha, tot_append _ _ hb, Nat.add_comm]
/-- A number in the text's own place of a nought. -/
theorem tot_put (a b : List UInt8) (h : a.length % 2 = 0) {n : Nat} (hn : n ≤ 65535) : tot (a ++ two n ++ b) = tot (a ++ [0, 0] ++ b) + n := by
  have e2 : (two n).length = 2 := rfl
  rw [tot_append (a ++ two n) b (by rw [List.length_append]; omega), tot_append a _ h, tot_two hn, tot_append (a ++ [0, 0]) b (by rw [List.length_append]; simp; omega), tot_append a _ h]
  simp [tot]
  omega
/-- The head with its sum in its place. -/
theorem sum_placed (a b : List UInt8) (h : a.length % 2 = 0) : sumT (a ++ two (sumT (a ++ [0, 0] ++ b)) ++ b) = 0 := by
  unfold sumT
  rw [tot_put a b h (Nat.sub_le _ _)]
  exact sum_zero (rest_zero _).1 (rest_zero _).2
/-- One byte is another. -/
theorem tot_set : ∀ (l : List UInt8) (k : Nat) (x : UInt8) (h : k < l.length), tot (l.set k x) + (if k % 2 = 0 then 256 else 1) * l[k].toNat = tot l + (if k % 2 = 0 then 256 else 1) * x.toNat
  | [], k, x, h => absurd h (by simp)
  | [a], 0, x, _ => by simp [tot]; omega
  | [a], k + 1, x, h => by simp at h
  | a :: b :: l, 0, x, _ => by simp [tot]; omega
  | a :: b :: l, 1, x, _ => by simp [tot]; omega
  | a :: b :: l, k + 2, x, h => by
    have := tot_set l k x (by simp at h; omega)
    have e : (k + 2) % 2 = k % 2 := by omega
    simp only [List.set_cons_succ, tot, List.getElem_cons_succ, e]
    omega
/-- A bit that is turned moves a byte by a power of two. -/
theorem turned (x : UInt8) (b : Nat) (hb : b < 8) : ((x ^^^ (1 <<< UInt8.ofNat b)).toNat = x.toNat + 2 ^ b) ∨ ((x ^^^ (1 <<< UInt8.ofNat b)).toNat + 2 ^ b = x.toNat) := by
  have : ∀ (b : Fin 8) (x : Fin 256), ((UInt8.ofNat x.1 ^^^ (1 <<< UInt8.ofNat b.1)).toNat = x.1 + 2 ^ b.1) ∨ ((UInt8.ofNat x.1 ^^^ (1 <<< UInt8.ofNat b.1)).toNat + 2 ^ b.1 = x.1) := by decide +kernel
  have h := this ⟨b, hb⟩ ⟨x.toNat, x.toNat_lt⟩
  simpa using h
theorem pow_cases {b : Nat} (hb : b < 8) : 2 ^ b = 1 ∨ 2 ^ b = 2 ∨ 2 ^ b = 4 ∨ 2 ^ b = 8 ∨ 2 ^ b = 16 ∨ 2 ^ b = 32 ∨ 2 ^ b = 64 ∨ 2 ^ b = 128 := by
  have : ∀ b : Fin 8, 2 ^ b.1 = 1 ∨ 2 ^ b.1 = 2 ∨ 2 ^ b.1 = 4 ∨ 2 ^ b.1 = 8 ∨ 2 ^ b.1 = 16 ∨ 2 ^ b.1 = 32 ∨ 2 ^ b.1 = 64 ∨ 2 ^ b.1 = 128 := by decide
  exact this ⟨b, hb⟩
/-- A bit that is turned turns the sum. -/
theorem sum_turned (l : List UInt8) (k b : Nat) (h : k < l.length) (hb : b < 8) : sumT (l.set k (l[k] ^^^ (1 <<< UInt8.ofNat b))) ≠ sumT l := by
  have e := tot_set l k (l[k] ^^^ (1 <<< UInt8.ofNat b)) h
  have t := turned l[k] b hb
  have p := pow_cases hb
  intro hs
  unfold sumT at hs
  have c1 := cm_le (tot (l.set k (l[k] ^^^ (1 <<< UInt8.ofNat b))))
  have c2 := cm_le (tot l)
  have hm := cm_same (show cm (tot (l.set k (l[k] ^^^ (1 <<< UInt8.ofNat b)))) = cm (tot l) by omega)
  generalize tot (l.set k (l[k] ^^^ (1 <<< UInt8.ofNat b))) = X at e hm
  generalize tot l = Y at e hm
  generalize (l[k] ^^^ (1 <<< UInt8.ofNat b)).toNat = U at e t
  generalize (l[k]).toNat = V at e t
  generalize 2 ^ b = D at t p
  clear hs c1 c2
  by_cases hk : k % 2 = 0
  · rw [if_pos hk] at e
    rcases p with p | p | p | p | p | p | p | p <;> subst p <;> rcases t with t | t <;> omega
  · rw [if_neg hk] at e
    rcases p with p | p | p | p | p | p | p | p <;> subst p <;> rcases t with t | t <;> omega

end Go.Proofs.Ytbjoibgkhooljaa
