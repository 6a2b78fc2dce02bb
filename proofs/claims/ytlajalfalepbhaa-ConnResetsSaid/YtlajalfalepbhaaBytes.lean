/-
  Plain facts on bytes: the bytes of a number, lowest first; the number that bytes are; bytes laid over bytes. No program is named here.
-/
import Derived.KernelRfl
import Derived.WalkKit
import Derived.Sort.Row
namespace Go.Proofs.Ytlajalfalepbhaa

/-- A byte as the walk writes it. -/
def eb (b : UInt8) : Value := .int .u8 (b.toNat : Int)

/-- The n lowest bytes of X, the lowest first. -/
def le (X n : Nat) : List UInt8 := (List.range n).map fun i => UInt8.ofNat (X / 256 ^ i)

/-- The number that bytes are, the lowest first. -/
def num : List UInt8 → Nat
  | [] => 0
  | b :: l => b.toNat + 256 * num l

theorem le_length (X n : Nat) : (le X n).length = n := by simp [le]
theorem le_succ (X n : Nat) : le X (n + 1) = le X n ++ [UInt8.ofNat (X / 256 ^ n)] := by simp [le, List.range_succ]

theorem num_lt : ∀ l : List UInt8, num l < 256 ^ l.length
  | [] => by simp [num]
  | b :: l => by
    have h := num_lt l
    have hb := b.toNat_lt
    simp only [num, List.length_cons, Nat.pow_succ]
    omega

theorem num_append : ∀ (l m : List UInt8), num (l ++ m) = num l + 256 ^ l.length * num m
  | [], m => by simp [num]
  | b :: l, m => by
    have h := num_append l m
    simp only [List.cons_append, num, List.length_cons, Nat.pow_succ, h, Nat.mul_add]
    rw [Nat.mul_comm (256 ^ l.length) 256, Nat.mul_assoc]
    omega

theorem num_le (X : Nat) : ∀ n, num (le X n) = X % 256 ^ n
  | 0 => by simp [le, num, Nat.mod_one]
  | n + 1 => by
    rw [le_succ, num_append, num_le X n, le_length]
    simp only [num, Nat.mul_zero, Nat.add_zero]
    have h := @Nat.mod_mul (256 ^ n) 256 X
    rw [Nat.pow_succ, h, UInt8.toNat_ofNat']

theorem le_num : ∀ l : List UInt8, le (num l) l.length = l := by
  intro l
  suffices h : ∀ (l : List UInt8) (n : Nat), n = l.length → le (num l) n = l from h l _ rfl
  intro l n hn
  apply List.ext_getElem
  · rw [le_length, hn]
  · intro i h1 h2
    simp only [le, List.getElem_map, List.getElem_range]
    have hs : l = l.take i ++ (l[i] :: l.drop (i + 1)) := by rw [List.getElem_cons_drop, List.take_append_drop]
    have hlen : (l.take i).length = i := by rw [List.length_take]; omega
    have hlt := num_lt (l.take i)
    rw [hlen] at hlt
    have hv : num l / 256 ^ i = l[i].toNat + 256 * num (l.drop (i + 1)) := by
      conv => lhs; rw [hs]
      rw [num_append, hlen]
      simp only [num]
      rw [Nat.add_mul_div_left _ _ (Nat.pow_pos (by decide)), Nat.div_eq_of_lt hlt, Nat.zero_add]
    rw [hv]
    apply UInt8.toNat_inj.1
    rw [UInt8.toNat_ofNat']
    have hb := l[i].toNat_lt
    omega

/-- c laid over l from place 'at' on. -/
def lay (l : List UInt8) (at_ : Nat) (c : List UInt8) : List UInt8 := l.take at_ ++ (c ++ l.drop (at_ + c.length))
theorem lay_length (l : List UInt8) (at_ : Nat) (c : List UInt8) (h : at_ + c.length ≤ l.length) : (lay l at_ c).length = l.length := by simp [lay]; omega

theorem le_get (X n i : Nat) (h : i < n) : (le X n)[i]'(by rw [le_length]; exact h) = UInt8.ofNat (X / 256 ^ i) := by simp [le]

end Go.Proofs.Ytlajalfalepbhaa
