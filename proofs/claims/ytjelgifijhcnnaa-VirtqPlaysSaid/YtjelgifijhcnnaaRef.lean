/-
  The contracts of the document's own answers for layer 1: bytes of numbers, numbers of bytes, and what is read, written and told of a memory's bytes. Condition: a text is no longer than an int can tell.
-/
import Derived.Test.YtjelgifijhcnnaaNumber
import Derived.Deep.QuietTactic
import Derived.BigQuiet
namespace Go.Proofs.Ytjelgifijhcnnaa
open Go.RowKit Go.Sort

set_option maxHeartbeats 400000 in
theorem there_yes (size a n : Int) (w : World) (h1 : 0 ≤ a) (h2 : 0 ≤ n) (h3 : a + n ≤ size) (h4 : size ≤ 9223372036854775807) :
    Calls Try.prog 90 #[.int .i64 size, .int .i64 a, .int .i64 n] w fun e w' => e = .returned (.bool true) ∧ w = w' := by
  have h5 : decide (n ≤ size - a) = true := decide_eq_true (by omega)
  go_enter Try.func90, Try.ntmps90
  go_wp2
  go_ret
  exact ⟨rfl, rfl⟩

set_option maxHeartbeats 400000 in
theorem there_no (size a n : Int) (w : World) (h0 : 0 ≤ size) (h4 : size ≤ 9223372036854775807) (h : a < 0 ∨ n < 0 ∨ size < a + n) :
    Calls Try.prog 90 #[.int .i64 size, .int .i64 a, .int .i64 n] w fun e w' => e = .returned (.bool false) ∧ w = w' := by
  by_cases h1 : a < 0
  · clear h
    go_enter Try.func90, Try.ntmps90
    go_wp2
    go_ret
    exact ⟨rfl, rfl⟩
  · by_cases h2 : n < 0
    · have h1' : 0 ≤ a := by omega
      clear h h1
      go_enter Try.func90, Try.ntmps90
      go_wp2
      go_ret
      exact ⟨rfl, rfl⟩
    · have h1' : 0 ≤ a := by omega
      have h2' : 0 ≤ n := by omega
      by_cases h3 : size < a
      · have h3' : decide (a ≤ size) = false := decide_eq_false (by omega)
        clear h h1 h2
        go_enter Try.func90, Try.ntmps90
        go_wp2
        go_ret
        exact ⟨rfl, rfl⟩
      · have h3' : a ≤ size := by omega
        have h5 : decide (n ≤ size - a) = false := decide_eq_false (by omega)
        clear h h1 h2 h3
        go_enter Try.func90, Try.ntmps90
        go_wp2
        go_ret
        exact ⟨rfl, rfl⟩

/-- 'string([]byte{v})'. -/
theorem conv_one (w : World) (v : Int) (h0 : 0 ≤ v) (h1 : v < 256) :
    (convert 37 9 (.slice (some ⟨w.heap.size, 0, none⟩) 1 1)).run Try.prog (w.alloc (.cells #[.int .u8 v] 5)) = .ok (.string ⟨[UInt8.ofNat v.toNat].toArray⟩) (w.alloc (.cells #[.int .u8 v] 5)) := by
  refine conv_text _ _ 0 1 1 [UInt8.ofNat v.toNat] rfl fun j hj => ?_
  have hj' : j = 0 := by have : j < 1 := hj; omega
  subst hj'
  constructor
  · rw [cell_of_block (heap_alloc_new w _)]
    show some (Value.int .u8 v) = some (eb (UInt8.ofNat v.toNat))
    unfold eb
    rw [UInt8.toNat_ofNat']
    congr 2
    omega
  · have hb := heap_alloc_new w (.cells #[.int .u8 v] 5)
    simp only [World.frozen?, hb]
    simp

theorem wrap_quo (y : Nat) (h : y < 18446744073709551616) : IntKind.u64.wrap ((y : Int) / 256) = ((y / 256 : Nat) : Int) := by
  rw [Int.natCast_ediv]
  exact IntWalk.u64_in _ (by omega)
theorem cat_lists (a : List UInt8) (b : Array UInt8) : (⟨a.toArray⟩ : ByteArray) ++ ⟨b⟩ = ⟨(a ++ b.toList).toArray⟩ := by
  apply ByteArray.ext
  apply Array.toList_inj.1
  simp
theorem ofNat_mod (y : Nat) : UInt8.ofNat (y % 256) = UInt8.ofNat y := by
  apply UInt8.toNat_inj.1
  rw [UInt8.toNat_ofNat', UInt8.toNat_ofNat']
  omega

set_option maxHeartbeats 400000 in
theorem refLittle_all (w : World) (x n : Int) (hx : 0 ≤ x) (hx2 : Hid (x < 18446744073709551616)) :
    Calls Try.prog 75 #[.int .u64 x, .int .i64 n] w fun e w' => e = .returned (.string ⟨(leL x n).toArray⟩) ∧ w.grownBy w' none := by
  obtain ⟨X, rfl⟩ := Int.eq_ofNat_of_zero_le hx
  by_cases h : 1 ≤ n ∧ n ≤ 8
  · obtain ⟨n, rfl⟩ := Int.eq_ofNat_of_zero_le (show (0 : Int) ≤ n by omega)
    unfold leL
    rw [if_pos h, Int.toNat_natCast, Int.toNat_natCast]
    obtain ⟨h1, h2⟩ := h
    have hn : n ≤ 8 := by omega
    have d0 : decide ((n : Int) ≤ 8) = true := decide_eq_true h2
    go_enter Try.func75, Try.ntmps75
    go_wp2
    go_loopw [0, 5, 6] (fun x s i wr => ∃ (k : Nat) (y : Nat), k ≤ n ∧ i = .int .i64 k ∧ x = .int .u64 y ∧ Hid (y < 18446744073709551616) ∧ Hid (y = X / 256 ^ k) ∧ s = .string ⟨(le X k).toArray⟩ ∧ w.grownBy wr none) (fun _ _ i _ => n - (intOf i).toNat)
    case atStart => exact ⟨0, X, Nat.zero_le _, rfl, rfl, Lib.hid (by have := hx2.out; omega), Lib.hid (by simp), rfl, World.grownBy.refl _ _⟩
    case round =>
      obtain ⟨k, y, hk, rfl, rfl, HB, HY, rfl, hg⟩ := hrel
      by_cases hlt : k < n
      · have hc := conv_one wr ((y : Int) % 256) (by omega) (by omega)
        have hl : (le X k).length ≤ 8 := by rw [le_length]; omega
        have hw := wrap_quo y HB.out
        go_wp2
        go_roundw
        case rel => exact ⟨k + 1, y / 256, by omega, by go_num, by go_num, Lib.hid (by have := HB.out; omega), Lib.hid (by rw [HY.out, Nat.pow_succ, Nat.div_div_eq_div_mul]), by rw [cat_lists, le_succ, HY.out, ofNat_mod], hg.trans (World.grownBy_alloc _ _ _)⟩
        case measure => simp [intOf]; omega
      · have hz : k = n := by omega
        subst hz
        go_wp2
        go_ret
        exact ⟨rfl, hg⟩
  · unfold leL
    rw [if_neg h]
    by_cases h1 : 1 ≤ n
    · have d1 : decide (n ≤ 8) = false := decide_eq_false (by omega)
      have d2 : (0 : Int) < n := by omega
      clear h
      go_enter Try.func75, Try.ntmps75
      go_wp2
      go_loop [0, 5, 6] (fun x s i => i = .int .i64 0 ∧ s = .string ⟨#[]⟩) (fun _ _ _ => 0)
      case atStart => exact ⟨rfl, rfl⟩
      case round =>
        obtain ⟨rfl, rfl⟩ := hrel
        go_wp2
        go_ret
        exact ⟨rfl, World.grownBy.refl _ _⟩
    · have d2 : decide ((0 : Int) < n) = false := decide_eq_false (by omega)
      clear h
      go_enter Try.func75, Try.ntmps75
      go_wp2
      go_loop [0, 5, 6] (fun x s i => i = .int .i64 0 ∧ s = .string ⟨#[]⟩) (fun _ _ _ => 0)
      case atStart => exact ⟨rfl, rfl⟩
      case round =>
        obtain ⟨rfl, rfl⟩ := hrel
        go_wp2
        go_ret
        exact ⟨rfl, World.grownBy.refl _ _⟩

theorem cat_lists2 (b : Array UInt8) (a : List UInt8) : (⟨b⟩ : ByteArray) ++ ⟨a.toArray⟩ = ⟨(b.toList ++ a).toArray⟩ := by
  apply ByteArray.ext
  apply Array.toList_inj.1
  simp



/-- One byte more in front. -/
theorem num_round (m : List UInt8) (b : UInt8) (h : m.length ≤ 7) :
    IntKind.u64.wrap (IntKind.u64.wrap ((num m : Int) * 256) + IntKind.u64.wrap (b.toNat : Int)) = (num (b :: m) : Int) := by
  have h1 := num_lt m
  have h2 : 256 ^ m.length ≤ 256 ^ 7 := Nat.pow_le_pow_right (by decide) h
  have hb := b.toNat_lt
  have h3 : num m < 72057594037927936 := by omega
  rw [IntWalk.u64_in ((num m : Int) * 256) (by omega), IntWalk.u64_in (b.toNat : Int) (by omega), IntWalk.u64_in _ (by omega)]
  simp only [num]
  omega

/-- Byte i of what was cut out. -/
theorem cut_get (s : ByteArray) (a n i : Nat) (hi : i < n) (h2 : a + i < s.size) : ((s.data.toList.drop a).take n)[i]? = some s[a + i] := by
  rw [List.getElem?_take_of_lt hi, List.getElem?_drop, Array.getElem?_toList, Array.getElem?_eq_getElem h2]
  rfl

theorem front_round (l : List UInt8) (k : Nat) (b : UInt8) (h : l[k]? = some b) (hl : l.length ≤ 8) :
    IntKind.u64.wrap (IntKind.u64.wrap ((num (l.take k).reverse : Int) * 256) + IntKind.u64.wrap (b.toNat : Int)) = (num (l.take (k + 1)).reverse : Int) := by
  have hk : k < l.length := (List.getElem?_eq_some_iff.1 h).1
  rw [num_round _ b (by rw [List.length_reverse, List.length_take]; omega), List.take_add_one, h]
  simp

theorem back_round (l : List UInt8) (k : Nat) (b : UInt8) (h : l[k]? = some b) (hl : l.length ≤ 8) :
    IntKind.u64.wrap (IntKind.u64.wrap ((num (l.drop (k + 1)) : Int) * 256) + IntKind.u64.wrap (b.toNat : Int)) = (num (l.drop k) : Int) := by
  obtain ⟨hk, he⟩ := List.getElem?_eq_some_iff.1 h
  rw [num_round _ b (by rw [List.length_drop]; omega), List.drop_eq_getElem_cons hk, he]



set_option maxHeartbeats 400000 in
theorem refReadLittle_yes (w : World) (s : ByteArray) (a n : Nat) (hs : s.size ≤ 9223372036854775807) (h1 : 1 ≤ n) (h2 : n ≤ 8) (h3 : a + n ≤ s.size) :
    Calls Try.prog 93 #[.string s, .int .i64 a, .int .i64 n] w
      fun e w' => e = .returned (.tuple #[.int .u64 (num ((s.data.toList.drop a).take n) : Int), .bool true]) ∧ w = w' := by
  have d1 : decide ((n : Int) < 1) = false := decide_eq_false (by omega)
  have d2 : decide ((8 : Int) < n) = false := decide_eq_false (by omega)
  obtain ⟨l, hl⟩ : ∃ l, l = (s.data.toList.drop a).take n := ⟨_, rfl⟩
  rw [← hl]
  have hz : l.length = n := by rw [hl]; simp; omega
  have HL := Lib.hid hl
  have HZ := Lib.hid hz
  clear hl hz
  go_enter Try.func93, Try.ntmps93
  go_wp2_with (go_at_call 90; refine (there_yes _ _ _ _ (by omega) (by omega) (by omega) (by omega)).mono ?_; rintro e w' ⟨rfl, rfl⟩)
  go_loop [8, 9] (fun x i => ∃ (k : Nat) (z : Int), k ≤ n ∧ i = .int .i64 z ∧ Hid (z = k - 1) ∧ z < n ∧ -1 ≤ z ∧ x = .int .u64 (num (l.drop k))) (fun _ i => (intOf i + 1).toNat)
  case atStart => exact ⟨n, (n : Int) - 1, Nat.le_refl _, rfl, Lib.hid rfl, by omega, by omega, by rw [List.drop_of_length_le (by rw [HZ.out]; exact Nat.le_refl _)]; rfl⟩
  case round =>
    obtain ⟨k, z, hk, rfl, Hz, hz1, hz2, rfl⟩ := hrel
    by_cases hlt : 0 ≤ z
    · obtain ⟨i, rfl⟩ := Int.eq_ofNat_of_zero_le hlt
      obtain rfl : k = i + 1 := by have := Hz.out; omega
      have hi : a + i < s.size := by omega
      have HR := Lib.hid (back_round l i s[a + i] (by rw [HL.out]; exact cut_get s a n i (by omega) hi) (by rw [HZ.out]; exact h2))
      clear Hz
      go_wp2
      go_round
      case rel => exact ⟨i, (i : Int) - 1, by omega, rfl, Lib.hid rfl, by omega, by omega, by rw [HR.out]⟩
      case measure => simp [intOf]
    · have hd : decide (0 ≤ z) = false := decide_eq_false hlt
      obtain rfl : k = 0 := by have := Hz.out; omega
      rw [List.drop_zero]
      clear Hz
      go_wp2
      go_ret2
      exact ⟨rfl, rfl⟩

set_option maxHeartbeats 400000 in
theorem refReadLittle_no (w : World) (s : ByteArray) (a n : Int) (hs : s.size ≤ 9223372036854775807) (h : okR s.size a n = false) :
    Calls Try.prog 93 #[.string s, .int .i64 a, .int .i64 n] w fun e w' => e = .returned (.tuple #[.int .u64 0, .bool false]) ∧ w = w' := by
  have h' : ¬ (1 ≤ n ∧ n ≤ 8 ∧ 0 ≤ a ∧ a + n ≤ s.size) := of_decide_eq_false h
  clear h
  by_cases h1 : n < 1
  · clear h'
    go_enter Try.func93, Try.ntmps93
    go_wp2
    go_ret2
    exact ⟨rfl, rfl⟩
  have d1 : decide (n < 1) = false := decide_eq_false h1
  by_cases h2 : 8 < n
  · clear h'
    go_enter Try.func93, Try.ntmps93
    go_wp2
    go_ret2
    exact ⟨rfl, rfl⟩
  have d2 : decide (8 < n) = false := decide_eq_false h2
  have h3 : a < 0 ∨ n < 0 ∨ (s.size : Int) < a + n := by omega
  clear h' h1 h2
  go_enter Try.func93, Try.ntmps93
  go_wp2_with (go_at_call 90; refine (there_no _ _ _ _ (by omega) (by omega) h3).mono ?_; rintro e w' ⟨rfl, rfl⟩)
  go_ret2
  exact ⟨rfl, rfl⟩



theorem refReadLittle_all (w : World) (s : ByteArray) (a n : Int) (hs : s.size ≤ 9223372036854775807) :
    Calls Try.prog 93 #[.string s, .int .i64 a, .int .i64 n] w
      fun e w' => e = .returned (.tuple #[.int .u64 (num (cutS s a n) : Int), .bool (okR s.size a n)]) ∧ w = w' := by
  unfold cutS
  cases h : okR s.size a n with
  | false =>
    rw [if_neg (by decide)]
    exact refReadLittle_no w s a n hs h
  | true =>
    obtain ⟨h1, h2, h3, h4⟩ := okR_yes h
    obtain ⟨a, rfl⟩ := Int.eq_ofNat_of_zero_le h3
    obtain ⟨n, rfl⟩ := Int.eq_ofNat_of_zero_le (show (0 : Int) ≤ n by omega)
    rw [if_pos rfl]
    exact refReadLittle_yes w s a n hs (by omega) (by omega) (by omega)



end Go.Proofs.Ytjelgifijhcnnaa
