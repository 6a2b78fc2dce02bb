/-
  The contracts of package virtq's area, more: a descriptor put, the buffer of a descriptor, all bytes wiped, an area found. Conditions as before.
-/
import Derived.Test.YtmlicejhkdkhnaaVirtB
namespace Go.Proofs.Ytmlicejhkdkhnaa
open Go.RowKit Go.Sort

/-- The bytes behind a descriptor's putting. -/
def descL (l : List UInt8) (a x1 x2 x3 x4 : Int) : List UInt8 := putL (putL (putL (putL l a 8 x1) (a + 8) 4 x2) (a + 12) 2 x3) (a + 14) 2 x4
theorem descL_length (l : List UInt8) (a x1 x2 x3 x4 : Int) : (descL l a x1 x2 x3 x4).length = l.length := by unfold descL; simp [putL_length]

theorem grown_kept {w w' : World} {h k : Nat} {o : Obj} (g : w.grownBy w' (some h)) (e : w.heap[k]? = some o) (hk : k ≠ h) : w'.heap[k]? = some o := by
  rw [g.block k (lt_of_block e) (fun h' => hk (by injection h'))]; exact e

set_option maxRecDepth 100000 in
set_option maxHeartbeats 1000000 in
theorem putDescriptor_any (w : World) (g h : Nat) (l : List UInt8) (m : Mem w g h l) (base n : Int) (hl : l.length ≤ 65536) (hb0 : 0 ≤ base) (hb1 : base ≤ 65536) (i : Int) (hi0 : 0 ≤ i) (hi1 : i ≤ 65535)
    (x1 x2 x3 x4 : Int) (h1 : 0 ≤ x1) (h2 : 0 ≤ x2) (h3 : 0 ≤ x3) (h4 : 0 ≤ x4) :
    Calls Try.prog 96 #[.agg #[.pointer (some ⟨g, 0, none⟩), .int .i64 base, .int .i64 n], .int .i64 i, .agg #[.int .u64 x1, .int .u64 x2, .int .u64 x3, .int .u64 x4]] w
      fun e w' => e = .returned (.tuple #[]) ∧ Mem w' g h (descL l (base + 16 * i) x1 x2 x3 x4) ∧ w.grownBy w' (some h) := by
  have m1 := (m.alloc (.cells #[.pointer (some ⟨g, 0, none⟩), .int .i64 base, .int .i64 n] 107)).alloc (.cells #[.int .u64 x1, .int .u64 x2, .int .u64 x3, .int .u64 x4] 154)
  have a1 := (area_box w g base n).kept (Below.heap_alloc (w.alloc (.cells #[.pointer (some ⟨g, 0, none⟩), .int .i64 base, .int .i64 n] 107)) (.cells #[.int .u64 x1, .int .u64 x2, .int .u64 x3, .int .u64 x4] 154) w.heap.size (by simp))
  have d1 := alloc_two w (.cells #[.pointer (some ⟨g, 0, none⟩), .int .i64 base, .int .i64 n] 107) (.cells #[.int .u64 x1, .int .u64 x2, .int .u64 x3, .int .u64 x4] 154)
  have k1 := (World.grownBy_alloc w (.cells #[.pointer (some ⟨g, 0, none⟩), .int .i64 base, .int .i64 n] 107) none).trans (World.grownBy_alloc _ (.cells #[.int .u64 x1, .int .u64 x2, .int .u64 x3, .int .u64 x4] 154) none)
  have hh := m.lt2
  unfold descL
  obtain ⟨L1, hL1⟩ : ∃ L, L = putL l (base + 16 * i) 8 x1 := ⟨_, rfl⟩
  obtain ⟨L2, hL2⟩ : ∃ L, L = putL L1 (base + 16 * i + 8) 4 x2 := ⟨_, rfl⟩
  obtain ⟨L3, hL3⟩ : ∃ L, L = putL L2 (base + 16 * i + 12) 2 x3 := ⟨_, rfl⟩
  have z1 : L1.length ≤ 9223372036854775807 := by rw [hL1, putL_length]; omega
  have z2 : L2.length ≤ 9223372036854775807 := by rw [hL2, putL_length]; exact z1
  have z3 : L3.length ≤ 9223372036854775807 := by rw [hL3, putL_length]; exact z2
  rw [← hL1, ← hL2, ← hL3]
  have H1 := Lib.hid hL1
  have H2 := Lib.hid hL2
  have H3 := Lib.hid hL3
  clear hL1 hL2 hL3
  go_enter Try.func96, Try.ntmps96
  go_wp2_with fail
  generalize (w.alloc _).alloc _ = W at m1 a1 d1 k1 ⊢
  have kb := k1.but (some h)
  have A := Lib.hid a1
  have D := Lib.hid d1
  have c0 := a1.c0
  have c1 := a1.c1
  have e0 := cell_of_block (i := 0) d1
  clear a1 d1
  go_wp2_with fail
  refine (Put_all W g h l m1 (by omega) _ 8 x1 h1).mono ?_
  rintro e w1 ⟨rfl, m2, k2⟩
  rw [← H1.out] at m2
  have a2 := A.out.kept (k2.block _ (lt_of_block A.out) (by simp; omega))
  have d2 := grown_kept k2 D.out (by omega)
  have kb2 := kb.trans k2
  clear A D m1 kb c0 e0 k2
  have m1 := m2
  have kb := kb2
  have A := Lib.hid a2
  have D := Lib.hid d2
  have c0 := a2.c0
  have e0 := cell_of_block (i := 1) d2
  clear a2 d2 m2 kb2
  go_wp2_with fail
  refine (Put_all w1 g h L1 m1 z1 _ 4 x2 h2).mono ?_
  rintro e w2 ⟨rfl, m2, k2⟩
  rw [← H2.out] at m2
  have a2 := A.out.kept (k2.block _ (lt_of_block A.out) (by simp; omega))
  have d2 := grown_kept k2 D.out (by omega)
  have kb2 := kb.trans k2
  clear A D m1 kb c0 e0 k2
  have m1 := m2
  have kb := kb2
  have A := Lib.hid a2
  have D := Lib.hid d2
  have c0 := a2.c0
  have e0 := cell_of_block (i := 2) d2
  clear a2 d2 m2 kb2
  go_wp2_with fail
  refine (Put_all w2 g h L2 m1 z2 _ 2 x3 h3).mono ?_
  rintro e w3 ⟨rfl, m2, k2⟩
  rw [← H3.out] at m2
  have a2 := A.out.kept (k2.block _ (lt_of_block A.out) (by simp; omega))
  have d2 := grown_kept k2 D.out (by omega)
  have kb2 := kb.trans k2
  clear A D m1 kb c0 e0 k2
  have m1 := m2
  have kb := kb2
  have A := Lib.hid a2
  have D := Lib.hid d2
  have c0 := a2.c0
  have e0 := cell_of_block (i := 3) d2
  clear a2 d2 m2 kb2
  go_wp2_with fail
  refine (Put_all w3 g h L3 m1 z3 _ 2 x4 h4).mono ?_
  rintro e w4 ⟨rfl, m2, k2⟩
  go_wp2_with fail
  go_end0
  exact ⟨rfl, m2, kb.trans k2⟩

theorem nat_and_two (x : Nat) : x &&& 2 = 2 * (x / 2 % 2) := by
  have ht : x.testBit 1 = decide (x / 2 % 2 = 1) := by rw [Nat.testBit_eq_decide_div_mod_eq]
  apply Nat.eq_of_testBit_eq
  intro i
  have h2 : Nat.testBit 2 i = decide (1 = i) := Nat.testBit_two_pow (n := 1) (m := i)
  rw [Nat.testBit_and, h2]
  by_cases h1 : x / 2 % 2 = 1
  · rw [h1, show 2 * 1 = 2 from rfl, h2]
    by_cases hi : 1 = i
    · subst hi; rw [ht, decide_eq_true h1]; rfl
    · rw [decide_eq_false hi, Bool.and_false]
  · rw [show x / 2 % 2 = 0 by omega, Nat.mul_zero, Nat.zero_testBit]
    by_cases hi : 1 = i
    · subst hi; rw [ht, decide_eq_false h1]; rfl
    · rw [decide_eq_false hi, Bool.and_false]
theorem and_two (x : Int) (h0 : 0 ≤ x) (h1 : x ≤ 65535) : bits .and .u64 x 2 = 2 * (x / 2 % 2) := by
  obtain ⟨k, rfl⟩ := Int.eq_ofNat_of_zero_le h0
  have := u64_and_nat k 2 (by omega) (by omega)
  rw [show ((2 : Nat) : Int) = 2 from rfl, nat_and_two] at this
  rw [this]
  omega
theorem and_one (x : Int) (h0 : 0 ≤ x) (h1 : x ≤ 65535) : bits .and .u64 x 1 = x % 2 := by
  obtain ⟨k, rfl⟩ := Int.eq_ofNat_of_zero_le h0
  have := u64_and_nat k 1 (by omega) (by omega)
  rw [show ((1 : Nat) : Int) = 1 from rfl, Nat.and_one_is_mod] at this
  rw [this]
  omega

/-- The buffer that a descriptor tells of, if it lies in so many bytes. -/
def dbuf (size x1 x2 x3 : Int) : (Int × Int × Bool) × Bool := if size < x2 ∨ size - x2 < x1 then ((0, 0, false), false) else ((x1, x2, x3 / 2 % 2 == 1), true)

theorem three_grown {v w : World} {g : Nat} (h : v.grownBy w none) (hg : v.heap.size ≤ g) (x0 x1 x2 : Value) :
    v.grownBy (((w.setCell ⟨g, 0, none⟩ x0).setCell ⟨g, 1, none⟩ x1).setCell ⟨g, 2, none⟩ x2) none := by
  have b : Below v.heap.size v w := ⟨h.os, h.tape, h.output, h.size, fun k hk => h.block k hk (by simp)⟩
  have c := ((b.setCell (p := ⟨g, 0, none⟩) hg x0).setCell (p := ⟨g, 1, none⟩) hg x1).setCell (p := ⟨g, 2, none⟩) hg x2
  exact ⟨c.os, c.tape, c.output, c.size, fun k hk _ => c.block k hk⟩

set_option maxRecDepth 100000 in
set_option maxHeartbeats 1000000 in
theorem buf_any (w : World) (g h : Nat) (l : List UInt8) (m : Mem w g h l) (base n : Int) (hl : l.length ≤ 65536)
    (x1 x2 x3 x4 : Int) (h1 : 0 ≤ x1) (h2 : 0 ≤ x2) (h3 : 0 ≤ x3) (h3' : x3 ≤ 65535) :
    Calls Try.prog 99 #[.agg #[.pointer (some ⟨g, 0, none⟩), .int .i64 base, .int .i64 n], .agg #[.int .u64 x1, .int .u64 x2, .int .u64 x3, .int .u64 x4]] w
      fun e w' => e = .returned (.tuple #[.agg #[.int .i64 (dbuf l.length x1 x2 x3).1.1, .int .i64 (dbuf l.length x1 x2 x3).1.2.1, .bool (dbuf l.length x1 x2 x3).1.2.2], .bool (dbuf l.length x1 x2 x3).2]) ∧ w.grownBy w' none := by
  have q0 : IntKind.u64.wrap (l.length : Int) = l.length := IntWalk.u64_in _ (by omega)
  have m1 := ((m.alloc (.cells #[.pointer (some ⟨g, 0, none⟩), .int .i64 base, .int .i64 n] 107)).alloc (.cells #[.int .u64 x1, .int .u64 x2, .int .u64 x3, .int .u64 x4] 154)).alloc (.cells #[.int .i64 0, .int .i64 0, .bool false] 83)
  have k1 := ((World.grownBy_alloc w (.cells #[.pointer (some ⟨g, 0, none⟩), .int .i64 base, .int .i64 n] 107) none).trans (World.grownBy_alloc _ (.cells #[.int .u64 x1, .int .u64 x2, .int .u64 x3, .int .u64 x4] 154) none)).trans (World.grownBy_alloc _ (.cells #[.int .i64 0, .int .i64 0, .bool false] 83) none)
  obtain ⟨N, hN⟩ : ∃ N : Int, N = l.length := ⟨_, rfl⟩
  have SC := fun w m => size_any w g h l m
  rw [← hN] at SC q0 ⊢
  have hN1 : 0 ≤ N := by omega
  have hN2 : N ≤ 65536 := by omega
  have SC' := Lib.hid SC
  clear hN SC
  by_cases hA : N < x2
  · have e1 : dbuf N x1 x2 x3 = ((0, 0, false), false) := if_pos (.inl hA)
    rw [e1]
    clear e1
    go_enter Try.func99, Try.ntmps99
    go_wp2_with fail
    refine (SC'.out _ m1).mono ?_
    rintro e w1 ⟨rfl, rfl⟩
    go_wp2_with fail
    refine bodyPost_ret (v := .tuple #[.agg #[.int .i64 0, .int .i64 0, .bool false], .bool false]) (by simp [results, Try.results99, go_sem]) rfl ⟨rfl, ?_⟩
    exact k1
  · by_cases hB : N - x2 < x1
    · have e1 : dbuf N x1 x2 x3 = ((0, 0, false), false) := if_pos (.inr hB)
      rw [e1]
      have hA' : decide (N < x2) = false := decide_eq_false hA
      have hA2 : x2 ≤ N := by omega
      have hB' : decide (N - x2 < x1) = true := decide_eq_true hB
      have q1 : IntKind.u64.wrap (N - x2) = N - x2 := IntWalk.u64_in _ (by omega)
      clear e1 hA
      go_enter Try.func99, Try.ntmps99
      go_wp2_with fail
      refine (SC'.out _ m1).mono ?_
      rintro e w1 ⟨rfl, rfl⟩
      go_wp2_with fail
      refine bodyPost_ret (v := .tuple #[.agg #[.int .i64 0, .int .i64 0, .bool false], .bool false]) (by simp [results, Try.results99, go_sem]) rfl ⟨rfl, ?_⟩
      exact k1
    · obtain ⟨X, hX⟩ : ∃ X, (x3 / 2 % 2 == 1) = X := ⟨_, rfl⟩
      have e1 : dbuf N x1 x2 x3 = ((x1, x2, X), true) := by unfold dbuf; rw [if_neg (by omega), hX]
      rw [e1]
      have hA' : decide (N < x2) = false := decide_eq_false hA
      have hA2 : x2 ≤ N := by omega
      have hB' : decide (N - x2 < x1) = false := decide_eq_false hB
      have hB2 : x1 ≤ N := by omega
      have q1 : IntKind.u64.wrap (N - x2) = N - x2 := IntWalk.u64_in _ (by omega)
      have hb : (bits .and .u64 x3 2 == 0) = !X := by
        rw [and_two x3 h3 h3', ← hX]
        by_cases hz : x3 / 2 % 2 = 1
        · rw [hz]; rfl
        · have : x3 / 2 % 2 = 0 := by omega
          rw [this]; rfl
      have hb2 : (bits .and .u64 x3 2 != 0) = X := by
        show (!(bits .and .u64 x3 2 == 0)) = X
        rw [hb, Bool.not_not]
      have k2 := ((World.grownBy_alloc w (.cells #[.pointer (some ⟨g, 0, none⟩), .int .i64 base, .int .i64 n] 107) none).trans (World.grownBy_alloc _ (.cells #[.int .u64 x1, .int .u64 x2, .int .u64 x3, .int .u64 x4] 154) none)).trans (World.grownBy_alloc _ (.cells #[.int .i64 x1, .int .i64 x2, .bool X] 83) none)
      clear e1 hA hB hX
      go_enter Try.func99, Try.ntmps99
      go_wp2_with fail
      refine (SC'.out _ m1).mono ?_
      rintro e w1 ⟨rfl, rfl⟩
      go_wp2_with fail
      refine bodyPost_ret (v := .tuple #[.agg #[.int .i64 x1, .int .i64 x2, .bool X], .bool true]) (by simp [results, Try.results99, go_sem]) rfl ⟨rfl, ?_⟩
      exact k2

end Go.Proofs.Ytmlicejhkdkhnaa
