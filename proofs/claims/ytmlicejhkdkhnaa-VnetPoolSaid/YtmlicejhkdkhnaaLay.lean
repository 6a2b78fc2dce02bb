/-
  Plain facts on a queue's bytes: what is put is got, and nothing beside it; what Add, Done and the descriptors leave where. No program is named here.
-/
import Derived.Test.YtmlicejhkdkhnaaNextDone
namespace Go.Proofs.Ytmlicejhkdkhnaa
open Go.RowKit Go.Sort

theorem vlay_get (l : List UInt8) (a : Nat) (c : List UInt8) (hc : a + c.length ≤ l.length) (i : Nat) : (lay l a c)[i]? = if a ≤ i ∧ i < a + c.length then c[i - a]? else l[i]? := by
  unfold lay
  by_cases h1 : i < a
  · rw [List.getElem?_append_left (by simp; omega), List.getElem?_take_of_lt h1, if_neg (by omega)]
  · rw [List.getElem?_append_right (by simp; omega)]
    have e1 : (l.take a).length = a := by rw [List.length_take]; omega
    rw [e1]
    by_cases h2 : i < a + c.length
    · rw [List.getElem?_append_left (by omega), if_pos ⟨by omega, h2⟩]
    · rw [List.getElem?_append_right (by omega), List.getElem?_drop, if_neg (by omega)]
      congr 1
      omega

theorem put_same (l : List UInt8) (a n x : Int) (ha : 0 ≤ a) (h1 : 1 ≤ n) (h2 : n ≤ 8) (h3 : a + n ≤ l.length) : getX (putL l a n x) a n = x.toNat % 256 ^ n.toNat := by
  have e : putE l a n = 0 := by
    rcases putE_cases l a n with ⟨h, _⟩ | ⟨_, _, h, _⟩ | ⟨_, _, _, _, e⟩
    · omega
    · omega
    · exact e
  have hl := putL_length l a n x
  have e2 : putE (putL l a n x) a n = 0 := by unfold putE at e ⊢; rw [hl]; exact e
  unfold getX
  rw [if_pos e2]
  unfold putL
  rw [if_pos e]
  have hlay : ((lay l a.toNat (le x.toNat n.toNat)).drop a.toNat).take n.toNat = le x.toNat n.toNat := by
    apply List.ext_getElem?
    intro i
    rw [List.getElem?_take]
    by_cases hi : i < n.toNat
    · rw [if_pos hi, List.getElem?_drop, vlay_get _ _ _ (by rw [le_length]; omega), if_pos ⟨by omega, by rw [le_length]; omega⟩]
      congr 1
      omega
    · rw [if_neg hi, List.getElem?_eq_none (by rw [le_length]; omega)]
  rw [hlay, num_le]

theorem put_apart (l : List UInt8) (a n x b m : Int) (h : a + n ≤ b ∨ b + m ≤ a) : getX (putL l a n x) b m = getX l b m := by
  have hl := putL_length l a n x
  rcases putE_cases l a n with ⟨_, e⟩ | ⟨_, _, _, e⟩ | ⟨h1, h2, h3, h4, e⟩
  · unfold putL; rw [if_neg (by rw [e]; decide)]
  · unfold putL; rw [if_neg (by rw [e]; decide)]
  · have he : putE (putL l a n x) b m = putE l b m := by unfold putE; rw [hl]
    unfold getX
    rw [he]
    by_cases hz : putE l b m = 0
    · rw [if_pos hz, if_pos hz]
      have hb : 0 ≤ b ∧ 1 ≤ m ∧ b + m ≤ l.length := by
        rcases putE_cases l b m with ⟨_, e'⟩ | ⟨_, _, _, e'⟩ | ⟨g1, g2, g3, g4, _⟩
        · rw [hz] at e'; cases e'
        · rw [hz] at e'; cases e'
        · omega
      unfold putL
      rw [if_pos e]
      congr 1
      apply List.ext_getElem?
      intro i
      rw [List.getElem?_take, List.getElem?_take]
      by_cases hi : i < m.toNat
      · rw [if_pos hi, if_pos hi, List.getElem?_drop, List.getElem?_drop, vlay_get _ _ _ (by rw [le_length]; omega), if_neg (by rw [le_length]; omega)]
      · rw [if_neg hi, if_neg hi]
    · rw [if_neg hz, if_neg hz]

theorem put2 (l : List UInt8) (a x : Int) (ha : 0 ≤ a) (h3 : a + 2 ≤ l.length) (h0 : 0 ≤ x) (h1 : x ≤ 65535) : (getX (putL l a 2 x) a 2 : Int) = x := by
  rw [put_same l a 2 x ha (by omega) (by omega) h3, show ((2 : Int).toNat) = 2 from rfl, show 256 ^ 2 = 65536 from rfl]; omega
theorem put4 (l : List UInt8) (a x : Int) (ha : 0 ≤ a) (h3 : a + 4 ≤ l.length) (h0 : 0 ≤ x) (h1 : x ≤ 4294967295) : (getX (putL l a 4 x) a 4 : Int) = x := by
  rw [put_same l a 4 x ha (by omega) (by omega) h3, show ((4 : Int).toNat) = 4 from rfl, show 256 ^ 4 = 4294967296 from rfl]; omega
theorem put8 (l : List UInt8) (a x : Int) (ha : 0 ≤ a) (h3 : a + 8 ≤ l.length) (h0 : 0 ≤ x) (h1 : x ≤ 4294967295) : (getX (putL l a 8 x) a 8 : Int) = x := by
  rw [put_same l a 8 x ha (by omega) (by omega) h3, show ((8 : Int).toNat) = 8 from rfl, show 256 ^ 8 = 18446744073709551616 from rfl]; omega

/-- A descriptor as it lies. -/
def Dsc (lm : List UInt8) (base j : Int) : Nat × Nat × Nat × Nat := (getX lm (base + 16 * j) 8, getX lm (base + 16 * j + 8) 4, getX lm (base + 16 * j + 12) 2, getX lm (base + 16 * j + 14) 2)
theorem dsc_put (lm : List UInt8) (base j a n x : Int) (h : a + n ≤ base + 16 * j ∨ base + 16 * j + 16 ≤ a) : Dsc (putL lm a n x) base j = Dsc lm base j := by
  unfold Dsc
  rw [put_apart _ _ _ _ _ _ (by omega), put_apart _ _ _ _ _ _ (by omega), put_apart _ _ _ _ _ _ (by omega), put_apart _ _ _ _ _ _ (by omega)]
theorem dsc_other (lm : List UInt8) (base j k x1 x2 x3 x4 : Int) (h : j ≠ k) : Dsc (descL lm (base + 16 * k) x1 x2 x3 x4) base j = Dsc lm base j := by
  unfold descL
  rw [dsc_put _ _ _ _ _ _ (by omega), dsc_put _ _ _ _ _ _ (by omega), dsc_put _ _ _ _ _ _ (by omega), dsc_put _ _ _ _ _ _ (by omega)]
theorem dsc_same (lm : List UInt8) (base k x1 x2 x3 x4 : Int) (hb : 0 ≤ base + 16 * k) (hl : base + 16 * k + 16 ≤ lm.length) (h1 : 0 ≤ x1) (h1' : x1 ≤ 4294967295) (h2 : 0 ≤ x2) (h2' : x2 ≤ 4294967295) (h3 : 0 ≤ x3) (h3' : x3 ≤ 65535) (h4 : 0 ≤ x4) (h4' : x4 ≤ 65535) :
    ((getX (descL lm (base + 16 * k) x1 x2 x3 x4) (base + 16 * k) 8 : Int) = x1) ∧ ((getX (descL lm (base + 16 * k) x1 x2 x3 x4) (base + 16 * k + 8) 4 : Int) = x2) ∧
    ((getX (descL lm (base + 16 * k) x1 x2 x3 x4) (base + 16 * k + 12) 2 : Int) = x3) ∧ ((getX (descL lm (base + 16 * k) x1 x2 x3 x4) (base + 16 * k + 14) 2 : Int) = x4) := by
  unfold descL
  refine ⟨?_, ?_, ?_, ?_⟩
  · rw [put_apart _ _ _ _ _ _ (by omega), put_apart _ _ _ _ _ _ (by omega), put_apart _ _ _ _ _ _ (by omega)]
    exact put8 _ _ _ hb (by omega) h1 h1'
  · rw [put_apart _ _ _ _ _ _ (by omega), put_apart _ _ _ _ _ _ (by omega)]
    exact put4 _ _ _ (by omega) (by rw [putL_length]; omega) h2 h2'
  · rw [put_apart _ _ _ _ _ _ (by omega)]
    exact put2 _ _ _ (by omega) (by rw [putL_length, putL_length]; omega) h3 h3'
  · exact put2 _ _ _ (by omega) (by rw [putL_length, putL_length, putL_length]; omega) h4 h4'

section
variable (lm : List UInt8) (base : Int) (n : Nat) (hb : 0 ≤ base) (n1 : 1 ≤ n) (n2 : n ≤ 64) (hl : base + usedAt n + 4 + 8 * n ≤ lm.length)
include hb n1 n2 hl

omit hb n1 n2 hl in
theorem used_ge : 18 * (n : Int) + 4 ≤ usedAt n := by unfold usedAt; omega

theorem vdone_usedI (told h k : Int) : usedI (vdoneL lm base n told h k) base n = (told + 1) % 65536 := by
  have hu := usedAt_bd (n := (n : Int)) (by omega) (by omega)
  unfold usedI vdoneL
  exact put2 _ _ _ (by omega) (by rw [putL_length, putL_length]; omega) (by omega) (by omega)
theorem vdone_num (told h k : Int) (h0 : 0 ≤ h) (h1 : h ≤ 4294967295) : usedNum (vdoneL lm base n told h k) base n told = h := by
  have hu := usedAt_bd (n := (n : Int)) (by omega) (by omega)
  have r0 : 0 ≤ told % (n : Int) := Int.emod_nonneg _ (by omega)
  have r1 : told % (n : Int) < n := Int.emod_lt_of_pos _ (by omega)
  unfold usedNum vdoneL
  generalize told % (n : Int) = r at r0 r1 ⊢
  rw [put_apart _ _ _ _ _ _ (by omega), put_apart _ _ _ _ _ _ (by omega)]
  exact put4 _ _ _ (by omega) (by omega) h0 h1
theorem vdone_len (told h k : Int) (h0 : 0 ≤ k) (h1 : k ≤ 4294967295) : usedLen (vdoneL lm base n told h k) base n told = k := by
  have hu := usedAt_bd (n := (n : Int)) (by omega) (by omega)
  have r0 : 0 ≤ told % (n : Int) := Int.emod_nonneg _ (by omega)
  have r1 : told % (n : Int) < n := Int.emod_lt_of_pos _ (by omega)
  unfold usedLen vdoneL
  generalize told % (n : Int) = r at r0 r1 ⊢
  rw [put_apart _ _ _ _ _ _ (by omega)]
  exact put4 _ _ _ (by omega) (by rw [putL_length]; omega) h0 h1
omit hb hl in
/-- Done leaves all that lies ahead of what is used. -/
theorem vdone_before (told h k b m : Int) (hbm : b + m ≤ base + usedAt n) : getX (vdoneL lm base n told h k) b m = getX lm b m := by
  have hu := usedAt_bd (n := (n : Int)) (by omega) (by omega)
  have r0 : 0 ≤ told % (n : Int) := Int.emod_nonneg _ (by omega)
  unfold vdoneL
  generalize told % (n : Int) = r at r0 ⊢
  rw [put_apart _ _ _ _ _ _ (by omega), put_apart _ _ _ _ _ _ (by omega), put_apart _ _ _ _ _ _ (by omega)]
end

end Go.Proofs.Ytmlicejhkdkhnaa
