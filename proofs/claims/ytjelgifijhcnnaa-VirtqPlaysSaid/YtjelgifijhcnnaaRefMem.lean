/-
  The contracts of the document's own answers on a memory's bytes: Put, Write, Get, Text. Condition: the bytes and the text are no longer than an int can tell together.
-/
import Derived.Test.YtjelgifijhcnnaaRef
import Derived.Lib.Strings
namespace Go.Proofs.Ytjelgifijhcnnaa
open Go.RowKit Go.Sort

/-- 'string(make([]byte, n))'. -/
theorem conv_zeros (w : World) (n : Nat) :
    (convert 37 9 (.slice (some ⟨w.heap.size, 0, none⟩) n n)).run Try.prog (w.alloc (.cells (zeros n) 5)) = .ok (.string ⟨(List.replicate n (0 : UInt8)).toArray⟩) (w.alloc (.cells (zeros n) 5)) := by
  refine conv_text _ _ 0 n n (List.replicate n 0) (by simp) fun j hj => ?_
  have hj' : j < n := by simpa using hj
  constructor
  · rw [cell_of_block (heap_alloc_new w _), getElem!_pos (List.replicate n (0 : UInt8)).toArray j hj]
    simp [zeros, eb, hj']
  · have hb := heap_alloc_new w (.cells (zeros n) 5)
    simp only [World.frozen?, hb]
    simp

theorem bsize (l : List UInt8) : (⟨l.toArray⟩ : ByteArray).size = l.length := rfl

theorem okR_put (l : List UInt8) (a n : Int) (h1 : 1 ≤ n) (h2 : n ≤ 8) : okR l.length a n = decide (putE l a n = 0) := by
  unfold okR
  rcases putE_cases l a n with ⟨x, e⟩ | ⟨_, _, x, e⟩ | ⟨_, _, x, y, e⟩
  · omega
  · rw [e, decide_eq_false (by omega)]; rfl
  · rw [e, decide_eq_true (by omega)]; rfl

theorem cut_put (l : List UInt8) (a n : Int) (h1 : 1 ≤ n) (h2 : n ≤ 8) : num (cutS ⟨l.toArray⟩ a n) = getX l a n := by
  unfold cutS getX
  rw [bsize, okR_put l a n h1 h2]
  by_cases h : putE l a n = 0
  · rw [if_pos (decide_eq_true h), if_pos h]
  · rw [if_neg (by simpa using h), if_neg h]
    rfl

set_option maxHeartbeats 400000 in
theorem refGet_all (w : World) (l : List UInt8) (a n : Int) (hl : l.length ≤ 9223372036854775807) :
    Calls Try.prog 89 #[.string ⟨l.toArray⟩, .int .i64 a, .int .i64 n] w
      fun e w' => e = .returned (.tuple #[.int .u64 (getX l a n : Int), .int .i64 (putE l a n)]) ∧ w = w' := by
  by_cases h1 : n < 1
  · have e : putE l a n = 1 := by unfold putE; rw [if_pos (.inl h1)]
    have e2 : getX l a n = 0 := by unfold getX; rw [if_neg (by rw [e]; decide)]
    rw [e, e2]
    clear e e2
    go_enter Try.func89, Try.ntmps89
    go_wp2
    go_ret2
    exact ⟨rfl, rfl⟩
  by_cases h2 : 8 < n
  · have e : putE l a n = 1 := by unfold putE; rw [if_pos (.inr h2)]
    have e2 : getX l a n = 0 := by unfold getX; rw [if_neg (by rw [e]; decide)]
    have d1 : decide (n < 1) = false := decide_eq_false h1
    rw [e, e2]
    clear e e2
    go_enter Try.func89, Try.ntmps89
    go_wp2
    go_ret2
    exact ⟨rfl, rfl⟩
  have d1 : decide (n < 1) = false := decide_eq_false h1
  have d2 : decide (8 < n) = false := decide_eq_false h2
  have c := refReadLittle_all w ⟨l.toArray⟩ a n hl
  rw [bsize, okR_put l a n (by omega) (by omega), cut_put l a n (by omega) (by omega)] at c
  rcases putE_cases l a n with ⟨x, e⟩ | ⟨_, _, x, e⟩ | ⟨_, _, x, y, e⟩
  · omega
  · have e2 : getX l a n = 0 := by unfold getX; rw [if_neg (by rw [e]; decide)]
    rw [e, e2] at c ⊢
    have C := Lib.hid c
    clear c e e2 h1 h2 x
    go_enter Try.func89, Try.ntmps89
    go_wp2_with fail
    refine C.out.mono ?_
    rintro e w' ⟨rfl, rfl⟩
    go_wp2_with fail
    go_ret2
    exact ⟨rfl, rfl⟩
  · rw [e] at c ⊢
    have C := Lib.hid c
    clear c e h1 h2 x y
    go_enter Try.func89, Try.ntmps89
    go_wp2_with fail
    refine C.out.mono ?_
    rintro e w' ⟨rfl, rfl⟩
    go_wp2_with fail
    go_ret2
    exact ⟨rfl, rfl⟩

theorem ext_bytes (l : List UInt8) (i j : Nat) : (ByteArray.extract ⟨l.toArray⟩ i j) = ⟨((l.drop i).take (j - i)).toArray⟩ := by
  apply ByteArray.ext
  apply Array.toList_inj.1
  rw [Lib.extract_data]

set_option maxHeartbeats 400000 in
theorem refText_all (w : World) (l : List UInt8) (a n : Int) (hl : l.length ≤ 9223372036854775807) :
    Calls Try.prog 88 #[.string ⟨l.toArray⟩, .int .i64 a, .int .i64 n] w
      fun e w' => e = .returned (.tuple #[.string ⟨(textS l a n).toArray⟩, .int .i64 (textE l a n)]) ∧ w = w' := by
  rcases textE_cases l a n with ⟨x, e⟩ | ⟨x, y, z, e⟩
  · have e2 : textS l a n = [] := by unfold textS; rw [if_neg (by rw [e]; decide)]
    rw [e, e2]
    clear e e2
    go_enter Try.func88, Try.ntmps88
    go_wp2_with fail
    refine (there_no _ _ _ _ (by omega) (by omega) x).mono ?_
    rintro e w' ⟨rfl, rfl⟩
    go_wp2_with fail
    go_ret2
    exact ⟨rfl, rfl⟩
  · obtain ⟨a, rfl⟩ := Int.eq_ofNat_of_zero_le x
    obtain ⟨n, rfl⟩ := Int.eq_ofNat_of_zero_le y
    have e2 : (⟨(textS l a n).toArray⟩ : ByteArray) = ByteArray.extract ⟨l.toArray⟩ a (a + n) := by
      unfold textS
      rw [if_pos e, ext_bytes, Int.toNat_natCast, Int.toNat_natCast, show a + n - a = n from by omega]
    rw [e, e2]
    clear e e2
    go_enter Try.func88, Try.ntmps88
    go_wp2_with fail
    refine (there_yes _ _ _ _ (by omega) (by omega) z (by omega)).mono ?_
    rintro e w' ⟨rfl, rfl⟩
    go_wp2_with fail
    go_ret2
    exact ⟨rfl, rfl⟩

set_option maxHeartbeats 400000 in
theorem refWrite_all (w : World) (l : List UInt8) (a : Int) (s : ByteArray) (hl : l.length ≤ 5000) (hs : s.size ≤ 5000) :
    Calls Try.prog 74 #[.string ⟨l.toArray⟩, .int .i64 a, .string s] w
      fun e w' => e = .returned (.tuple #[.string ⟨(writeL l a s.data.toList).toArray⟩, .int .i64 (textE l a s.size)]) ∧ w.grownBy w' none := by
  have hz : s.data.toList.length = s.size := by simp
  rcases textE_cases l a s.size with ⟨x, e⟩ | ⟨x, y, z, e⟩
  · have e2 : writeL l a s.data.toList = l := by unfold writeL; rw [hz, if_neg (by rw [e]; decide)]
    rw [e, e2]
    clear e e2 hz
    go_enter Try.func74, Try.ntmps74
    go_wp2_with fail
    refine (there_no _ _ _ _ (by omega) (by omega) x).mono ?_
    rintro e w' ⟨rfl, rfl⟩
    go_wp2_with fail
    go_ret2
    exact ⟨rfl, World.grownBy.refl _ _⟩
  · obtain ⟨a, rfl⟩ := Int.eq_ofNat_of_zero_le x
    have e2 : (⟨(writeL l a s.data.toList).toArray⟩ : ByteArray) = ByteArray.extract ⟨l.toArray⟩ 0 a ++ s ++ ByteArray.extract ⟨l.toArray⟩ (a + s.size) l.length := by
      unfold writeL
      rw [hz, if_pos e, ext_bytes, ext_bytes]
      apply ByteArray.ext
      apply Array.toList_inj.1
      rw [ByteArray.data_append, ByteArray.data_append, Int.toNat_natCast]
      simp only [lay, hz, Array.toList_append, List.drop_zero, Nat.sub_zero, List.append_assoc]
      rw [List.take_of_length_le (l := l.drop (a + s.size)) (by rw [List.length_drop]; omega)]
    rw [e, e2]
    clear e e2 hz
    have q1 : IntKind.i64.wrap ((a : Int) + s.size) = (a : Int) + s.size := IntWalk.i64_in _ (by omega)
    have q2 : (0 : Int) ≤ (a : Int) + s.size := by omega
    have q3 : ((a : Int) + s.size).toNat = a + s.size := by omega
    have q4 : (a : Int) ≤ l.length := by omega
    go_enter Try.func74, Try.ntmps74
    go_wp2_with fail
    refine (there_yes _ _ _ _ (by omega) (by omega) z (by omega)).mono ?_
    rintro e w' ⟨rfl, rfl⟩
    go_wp2_with fail
    go_quiet (fail)
    go_wp2_with fail
    go_ret2
    exact ⟨rfl, rfl, rfl, rfl, Nat.le_refl _, fun _ _ _ => rfl⟩

theorem writeL_put (l : List UInt8) (a n x : Int) (h1 : 1 ≤ n) (h2 : n ≤ 8) : writeL l a (leL x n) = putL l a n x ∧ textE l a (leL x n).length = putE l a n := by
  have e0 : leL x n = le x.toNat n.toNat := by unfold leL; rw [if_pos ⟨h1, h2⟩]
  have e1 : ((leL x n).length : Int) = n := by rw [e0, le_length]; omega
  have e2 : textE l a n = putE l a n := by
    unfold textE putE
    rw [if_neg (show ¬ (n < 1 ∨ 8 < n) by omega)]
    by_cases h : a < 0 ∨ (l.length : Int) < a + n
    · rw [if_pos h, if_pos (by omega)]
    · rw [if_neg h, if_neg (by omega)]
  refine ⟨?_, by rw [e1, e2]⟩
  unfold writeL putL
  rw [e1, e2, e0]

set_option maxHeartbeats 400000 in
theorem refPut_all (w : World) (l : List UInt8) (a n x : Int) (hl : l.length ≤ 5000) (hx : 0 ≤ x) (hx2 : Hid (x < 18446744073709551616)) :
    Calls Try.prog 45 #[.string ⟨l.toArray⟩, .int .i64 a, .int .i64 n, .int .u64 x] w
      fun e w' => e = .returned (.tuple #[.string ⟨(putL l a n x).toArray⟩, .int .i64 (putE l a n)]) ∧ w.grownBy w' none := by
  by_cases h1 : n < 1
  · have e : putE l a n = 1 := by unfold putE; rw [if_pos (.inl h1)]
    have e2 : putL l a n x = l := by unfold putL; rw [if_neg (by rw [e]; decide)]
    rw [e, e2]
    clear e e2
    go_enter Try.func45, Try.ntmps45
    go_wp2
    go_ret2
    exact ⟨rfl, World.grownBy.refl _ _⟩
  by_cases h2 : 8 < n
  · have e : putE l a n = 1 := by unfold putE; rw [if_pos (.inr h2)]
    have e2 : putL l a n x = l := by unfold putL; rw [if_neg (by rw [e]; decide)]
    have d1 : decide (n < 1) = false := decide_eq_false h1
    rw [e, e2]
    clear e e2
    go_enter Try.func45, Try.ntmps45
    go_wp2
    go_ret2
    exact ⟨rfl, World.grownBy.refl _ _⟩
  have d1 : decide (n < 1) = false := decide_eq_false h1
  have d2 : decide (8 < n) = false := decide_eq_false h2
  obtain ⟨e1, e2⟩ := writeL_put l a n x (by omega) (by omega)
  rw [← e1, ← e2]
  have hz : (leL x n).length ≤ 5000 := by unfold leL; rw [if_pos ⟨by omega, by omega⟩, le_length]; omega
  obtain ⟨t, ht⟩ : ∃ t, t = leL x n := ⟨_, rfl⟩
  rw [← ht] at hz ⊢
  have HT := Lib.hid ht
  clear e1 e2 h1 h2 ht
  go_enter Try.func45, Try.ntmps45
  go_wp2_with fail
  refine (refLittle_all w x n hx hx2).mono ?_
  rintro e w1 ⟨rfl, k1⟩
  rw [← HT.out]
  go_wp2_with fail
  refine (refWrite_all w1 l a ⟨t.toArray⟩ hl hz).mono ?_
  rintro e w2 ⟨rfl, k2⟩
  have k3 := k1.trans k2
  go_wp2_with fail
  go_ret2
  exact ⟨rfl, k3⟩

end Go.Proofs.Ytjelgifijhcnnaa
