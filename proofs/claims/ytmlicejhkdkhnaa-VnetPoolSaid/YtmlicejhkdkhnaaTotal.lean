/-
  The contracts of a memory's calls in one form each, for all arguments: what is answered and what the bytes are behind the call. Condition: the memory is one that New made and is not longer than an int can tell.
-/
import Derived.Test.YtmlicejhkdkhnaaMem
namespace Go.Proofs.Ytmlicejhkdkhnaa
open Go.RowKit Go.Sort

/-- The error of Put and Get. -/
def putE (l : List UInt8) (a n : Int) : Int := if n < 1 ∨ 8 < n then 1 else if a < 0 ∨ (l.length : Int) < a + n then 13 else 0
/-- The bytes behind Put. -/
def putL (l : List UInt8) (a n x : Int) : List UInt8 := if putE l a n = 0 then lay l a.toNat (le x.toNat n.toNat) else l
/-- The number of Get. -/
def getX (l : List UInt8) (a n : Int) : Nat := if putE l a n = 0 then num ((l.drop a.toNat).take n.toNat) else 0
/-- The error of Text and Write. -/
def textE (l : List UInt8) (a n : Int) : Int := if a < 0 ∨ n < 0 ∨ (l.length : Int) < a + n then 13 else 0
/-- The text of Text. -/
def textS (l : List UInt8) (a n : Int) : List UInt8 := if textE l a n = 0 then (l.drop a.toNat).take n.toNat else []
/-- The bytes behind Write. -/
def writeL (l : List UInt8) (a : Int) (s : List UInt8) : List UInt8 := if textE l a s.length = 0 then lay l a.toNat s else l

theorem putE_cases (l : List UInt8) (a n : Int) : ((n < 1 ∨ 8 < n) ∧ putE l a n = 1) ∨ (1 ≤ n ∧ n ≤ 8 ∧ (a < 0 ∨ (l.length : Int) < a + n) ∧ putE l a n = 13) ∨ (1 ≤ n ∧ n ≤ 8 ∧ 0 ≤ a ∧ a + n ≤ l.length ∧ putE l a n = 0) := by
  unfold putE
  by_cases h1 : n < 1 ∨ 8 < n
  · exact .inl ⟨h1, if_pos h1⟩
  · rw [if_neg h1]
    by_cases h2 : a < 0 ∨ (l.length : Int) < a + n
    · exact .inr (.inl ⟨by omega, by omega, h2, if_pos h2⟩)
    · exact .inr (.inr ⟨by omega, by omega, by omega, by omega, if_neg h2⟩)

theorem textE_cases (l : List UInt8) (a n : Int) : ((a < 0 ∨ n < 0 ∨ (l.length : Int) < a + n) ∧ textE l a n = 13) ∨ (0 ≤ a ∧ 0 ≤ n ∧ a + n ≤ l.length ∧ textE l a n = 0) := by
  unfold textE
  by_cases h1 : a < 0 ∨ n < 0 ∨ (l.length : Int) < a + n
  · exact .inl ⟨h1, if_pos h1⟩
  · exact .inr ⟨by omega, by omega, by omega, if_neg h1⟩

theorem putL_length (l : List UInt8) (a n x : Int) : (putL l a n x).length = l.length := by
  unfold putL
  rcases putE_cases l a n with ⟨_, e⟩ | ⟨_, _, _, e⟩ | ⟨_, _, _, _, e⟩
  · rw [if_neg (by rw [e]; decide)]
  · rw [if_neg (by rw [e]; decide)]
  · rw [if_pos e, lay_length _ _ _ (by rw [le_length]; omega)]

theorem writeL_length (l : List UInt8) (a : Int) (s : List UInt8) : (writeL l a s).length = l.length := by
  unfold writeL
  rcases textE_cases l a s.length with ⟨_, e⟩ | ⟨_, _, _, e⟩
  · rw [if_neg (by rw [e]; decide)]
  · rw [if_pos e, lay_length _ _ _ (by omega)]

section
variable (w : World) (g h : Nat) (l : List UInt8) (m : Mem w g h l) (hl : l.length ≤ 9223372036854775807)
include m hl

theorem Put_all (a n x : Int) (hx : 0 ≤ x) :
    Calls Try.prog 28 #[.pointer (some ⟨g, 0, none⟩), .int .i64 a, .int .i64 n, .int .u64 x] w
      fun e w' => e = .returned (.int .i64 (putE l a n)) ∧ Mem w' g h (putL l a n x) ∧ w.grownBy w' (some h) := by
  unfold putL
  rcases putE_cases l a n with ⟨h1, e⟩ | ⟨h1, h2, h3, e⟩ | ⟨h1, h2, h3, h4, e⟩
  · rw [e, if_neg (by decide)]
    exact (Put_arg w g h l m a n x h1).mono fun _ _ ⟨he, hw⟩ => ⟨he, hw ▸ m, hw ▸ World.grownBy.refl w _⟩
  · rw [e, if_neg (by decide)]
    exact (Put_no w g h l m a n x hl h1 h2 (by omega)).mono fun _ _ ⟨he, hw⟩ => ⟨he, hw ▸ m, hw ▸ World.grownBy.refl w _⟩
  · rw [e, if_pos rfl]
    obtain ⟨a', rfl⟩ := Int.eq_ofNat_of_zero_le h3
    obtain ⟨n', rfl⟩ := Int.eq_ofNat_of_zero_le (show (0 : Int) ≤ n by omega)
    obtain ⟨x', rfl⟩ := Int.eq_ofNat_of_zero_le hx
    exact Put_yes w g h l m a' n' x' hl (by omega) (by omega) (by omega)

theorem Get_all (a n : Int) :
    Calls Try.prog 80 #[.pointer (some ⟨g, 0, none⟩), .int .i64 a, .int .i64 n] w
      fun e w' => e = .returned (.tuple #[.int .u64 (getX l a n : Int), .int .i64 (putE l a n)]) ∧ w = w' := by
  unfold getX
  rcases putE_cases l a n with ⟨h1, e⟩ | ⟨h1, h2, h3, e⟩ | ⟨h1, h2, h3, h4, e⟩
  · rw [e, if_neg (by decide)]
    exact Get_arg w g h l m a n h1
  · rw [e, if_neg (by decide)]
    exact Get_no w g h l m a n hl h1 h2 (by omega)
  · rw [e, if_pos rfl]
    obtain ⟨a', rfl⟩ := Int.eq_ofNat_of_zero_le h3
    obtain ⟨n', rfl⟩ := Int.eq_ofNat_of_zero_le (show (0 : Int) ≤ n by omega)
    exact Get_yes w g h l m a' n' hl (by omega) (by omega) (by omega)

theorem Text_all (a n : Int) (hn : n ≤ 9223372036854775807) :
    Calls Try.prog 76 #[.pointer (some ⟨g, 0, none⟩), .int .i64 a, .int .i64 n] w
      fun e w' => e = .returned (.tuple #[.string ⟨(textS l a n).toArray⟩, .int .i64 (textE l a n)]) ∧ w = w' := by
  unfold textS
  rcases textE_cases l a n with ⟨h1, e⟩ | ⟨h1, h2, h3, e⟩
  · rw [e, if_neg (by decide)]
    exact Text_no w g h l m a n hl hn h1
  · rw [e, if_pos rfl]
    obtain ⟨a', rfl⟩ := Int.eq_ofNat_of_zero_le h1
    obtain ⟨n', rfl⟩ := Int.eq_ofNat_of_zero_le h2
    exact Text_yes w g h l m a' n' hl (by omega)

theorem Write_all (a : Int) (s : ByteArray) (hs : s.size ≤ 9223372036854775807) :
    Calls Try.prog 30 #[.pointer (some ⟨g, 0, none⟩), .int .i64 a, .string s] w
      fun e w' => e = .returned (.int .i64 (textE l a s.size)) ∧ Mem w' g h (writeL l a s.data.toList) ∧ w.grownBy w' (some h) := by
  have hz : s.data.toList.length = s.size := by simp
  unfold writeL
  rw [hz]
  rcases textE_cases l a s.size with ⟨h1, e⟩ | ⟨h1, h2, h3, e⟩
  · rw [e, if_neg (by decide)]
    exact (Write_no w g h l m a s hl hs (by omega)).mono fun _ _ ⟨he, hw⟩ => ⟨he, hw ▸ m, hw ▸ World.grownBy.refl w _⟩
  · rw [e, if_pos rfl]
    obtain ⟨a', rfl⟩ := Int.eq_ofNat_of_zero_le h1
    exact Write_yes w g h l m a' s hl (by omega)
end

/-- New, where it makes a memory. -/
theorem New_ok (w : World) (n : Int) (h1 : 1 ≤ n) (h2 : n ≤ 65536) :
    Calls Try.prog 8 #[.int .i64 n] w
      fun e w' => e = .returned (.tuple #[.pointer (some ⟨w.heap.size + 1, 0, none⟩), .int .i64 0]) ∧ Mem w' (w.heap.size + 1) w.heap.size (List.replicate n.toNat 0) ∧ w.grownBy w' none := by
  obtain ⟨n', rfl⟩ := Int.eq_ofNat_of_zero_le (show (0 : Int) ≤ n by omega)
  exact New_yes w n' (by omega) (by omega)

/-- What has only been written to blocks of the call's own. -/
theorem below_of {w w1 w2 : World} {r : Option Nat} {B : Nat} (h : Below B w w1) (k : w1.grownBy w2 r) (hB : B ≤ w1.heap.size) (hr : ∀ j, r = some j → B ≤ j) : Below B w w2 := h.grown k hB hr

theorem Below.of_none {w w' : World} (k : w.grownBy w' none) : Below w.heap.size w w' := (Below.refl _ _).grown k (Nat.le_refl _) (fun _ h => by cases h)

theorem textE_len (l l' : List UInt8) (a n : Int) (h : l.length = l'.length) : textE l a n = textE l' a n := by unfold textE; rw [h]
theorem textE_writeL (l : List UInt8) (b : Int) (s : List UInt8) (a n : Int) : textE (writeL l b s) a n = textE l a n := textE_len _ _ _ _ (writeL_length l b s)
theorem textE_all (l : List UInt8) (n : Int) (h : n = l.length) : textE l 0 n = 0 := by subst h; unfold textE; rw [if_neg (by omega)]

theorem textS_all (l : List UInt8) (n : Int) (h : n = l.length) : textS l 0 n = l := by
  have e := textE_all l n h
  unfold textS
  rw [if_pos e, h]
  simp

theorem awake_text : textS (putL (List.replicate (16 : Int).toNat 0) 2 4 258) 0 8 = [0, 0, 2, 1, 0, 0, 0, 0] := by decide +kernel
theorem awake_num : getX (putL (List.replicate (16 : Int).toNat 0) 2 4 258) 3 2 = 1 := by decide +kernel



end Go.Proofs.Ytmlicejhkdkhnaa
