/-
  Layer 8: the program's small functions: whether a packet may be, a text's sum, numbers as bytes, a number that stands in a text, an address. Conditions: a packet's numbers are numbers of their kind; a text is no longer than a string may be (a sum's: than 3,100,000,000 bytes).
-/
import Derived.Test.YtbjoibgkhooljaaIpA
import Derived.Test.YtbjoibgkhooljaaIpM
import Derived.Laws.Bits64b
namespace Go.Proofs.Ytbjoibgkhooljaa
open Go.RowKit Go.Sort
set_option linter.unusedVariables false

theorem bits_and_i64 (a b : Nat) (ha : a < 9223372036854775808) (hb : b < 9223372036854775808) : bits .and .i64 (a : Int) (b : Int) = ((a &&& b : Nat) : Int) := by
  have hx : a &&& b < 2 ^ 63 := Nat.and_lt_two_pow _ (by omega)
  have h1 : (BitVec.ofInt 64 (a : Int)).toNat = a := by
    rw [BitVec.ofInt_natCast, BitVec.toNat_ofNat]; exact Nat.mod_eq_of_lt (by omega)
  have h2 : (BitVec.ofInt 64 (b : Int)).toNat = b := by
    rw [BitVec.ofInt_natCast, BitVec.toNat_ofNat]; exact Nat.mod_eq_of_lt (by omega)
  show IntKind.i64.wrap ((BitVec.ofInt 64 (a : Int) &&& BitVec.ofInt 64 (b : Int)).toNat : Int) = _
  rw [BitVec.toNat_and, h1, h2]
  exact IntWalk.i64_in _ (by omega)
theorem bits_or_i64 (a b : Nat) (ha : a < 9223372036854775808) (hb : b < 9223372036854775808) : bits .or .i64 (a : Int) (b : Int) = ((a ||| b : Nat) : Int) := by
  have hx : a ||| b < 2 ^ 63 := Nat.or_lt_two_pow (by omega) (by omega)
  have h1 : (BitVec.ofInt 64 (a : Int)).toNat = a := by
    rw [BitVec.ofInt_natCast, BitVec.toNat_ofNat]; exact Nat.mod_eq_of_lt (by omega)
  have h2 : (BitVec.ofInt 64 (b : Int)).toNat = b := by
    rw [BitVec.ofInt_natCast, BitVec.toNat_ofNat]; exact Nat.mod_eq_of_lt (by omega)
  show IntKind.i64.wrap ((BitVec.ofInt 64 (a : Int) ||| BitVec.ofInt 64 (b : Int)).toNat : Int) = _
  rw [BitVec.toNat_or, h1, h2]
  exact IntWalk.i64_in _ (by omega)

theorem within_any (w : World) (x n : Int) :
    Calls Try.prog 71 #[.int .i64 x, .int .i64 n] w fun e w' => e = .returned (.bool (decide (0 ≤ x ∧ x ≤ n))) ∧ w = w' := by
  by_cases h : 0 ≤ x
  · have e : decide (0 ≤ x ∧ x ≤ n) = decide (x ≤ n) := by simp [h]
    rw [e]
    clear e
    go_enter Try.func71, Try.ntmps71
    go_wp2
    go_ret
    exact ⟨rfl, rfl⟩
  · have e : decide (0 ≤ x ∧ x ≤ n) = false := decide_eq_false (fun g => h g.1)
    rw [e]
    clear e
    go_enter Try.func71, Try.ntmps71
    go_wp2
    go_ret
    exact ⟨rfl, rfl⟩

theorem number_any (w : World) (x n : Int) (h0 : 0 ≤ x) (h1 : x ≤ 9223372036854775807) :
    Calls Try.prog 90 #[.int .i64 x, .int .i64 n] w fun e w' => e = .returned (.string ⟨(leL x n).reverse.toArray⟩) ∧ Below w.heap.size w w' := by
  have hw : IntKind.u64.wrap x = x := IntWalk.u64_in _ (by omega)
  go_enter Try.func90, Try.ntmps90
  go_wp2_with fail
  refine (Big_all _ x n h0).mono ?_
  rintro e w1 ⟨rfl, k1⟩
  go_wp2_with fail
  go_ret
  exact ⟨rfl, Below.of_none k1⟩

/-- A byte of a list, and the number that two are. -/
def bt (l : List UInt8) (k : Nat) : Nat := (l.getD k 0).toNat
def wd (l : List UInt8) (k : Nat) : Nat := 256 * bt l k + bt l (k + 1)
theorem bt_lt (l : List UInt8) (k : Nat) : bt l k < 256 := (l.getD k 0).toNat_lt
theorem wd_lt (l : List UInt8) (k : Nat) : wd l k < 65536 := by
  have := bt_lt l k
  have := bt_lt l (k + 1)
  unfold wd; omega
theorem num_wd (s : ByteArray) (k : Nat) (h : k + 2 ≤ s.size) : num (cutS s (k : Int) 2).reverse = wd s.data.toList k := by
  have hL : s.data.toList.length = s.size := by rw [Array.length_toList]; rfl
  have hc : cutS s k 2 = [s.data.toList.getD k 0, s.data.toList.getD (k + 1) 0] := by
    unfold cutS okR
    rw [if_pos (decide_eq_true (by omega))]
    show (s.data.toList.drop k).take 2 = _
    apply List.ext_getElem?
    intro i
    rw [List.getElem?_take, List.getElem?_drop]
    rcases i with _ | _ | i
    · have : k < s.data.toList.length := by omega
      simp [List.getD, List.getElem?_eq_getElem this]
    · have : k + 1 < s.data.toList.length := by omega
      simp [List.getD, List.getElem?_eq_getElem this]
    · simp; omega
  rw [hc]
  simp only [List.reverse_cons, List.reverse_nil, List.nil_append, List.cons_append, num, wd, bt]
  omega
theorem word_any (w : World) (s : ByteArray) (k : Nat) (hs : s.size ≤ 9223372036854775807) (h : k + 2 ≤ s.size) :
    Calls Try.prog 69 #[.string s, .int .i64 k] w fun e w' => e = .returned (.int .i64 (wd s.data.toList k)) ∧ Below w.heap.size w w' := by
  have hn := num_wd s k h
  have hl := wd_lt s.data.toList k
  have hw : IntKind.i64.wrap (wd s.data.toList k : Int) = (wd s.data.toList k : Int) := IntWalk.i64_in _ (by omega)
  generalize wd s.data.toList k = X at hn hw
  clear hl
  go_enter Try.func69, Try.ntmps69
  go_wp2_with fail
  refine (ReadBig_all w s k 2 hs).mono ?_
  rintro e w1 ⟨rfl, k1⟩
  rw [hn]
  go_wp2_with fail
  go_ret
  exact ⟨rfl, Below.of_none k1⟩

/-- The pairs of a text that is read byte by byte. -/
theorem tot_push : ∀ (l : List UInt8) (b : UInt8), tot (l ++ [b]) = tot l + (if l.length % 2 = 0 then 256 * b.toNat else b.toNat)
  | [], b => by simp [tot]
  | [x], b => by simp [tot]
  | x :: y :: l, b => by
    have := tot_push l b
    simp only [List.cons_append, tot, this, List.length_cons]
    by_cases h : l.length % 2 = 0
    · rw [if_pos h, if_pos (by omega)]; omega
    · rw [if_neg h, if_neg (by omega)]; omega
theorem tot_le : ∀ l : List UInt8, tot l ≤ 65535 * l.length
  | [] => by simp [tot]
  | [x] => by have := x.toNat_lt; simp only [tot, List.length_singleton]; omega
  | x :: y :: l => by
    have := tot_le l
    have := x.toNat_lt
    have := y.toNat_lt
    simp only [tot, List.length_cons]
    omega
theorem tot_next (l : List UInt8) (k : Nat) (X : UInt8) (h : l[k]? = some X) : tot (l.take (k + 1)) = tot (l.take k) + (if k % 2 = 0 then 256 * X.toNat else X.toNat) := by
  have hk : k < l.length := (List.getElem?_eq_some_iff.1 h).1
  rw [List.take_succ_eq_append_getElem hk, tot_push, (List.getElem?_eq_some_iff.1 h).2, List.length_take, Nat.min_eq_left (by omega)]
theorem tot_take_le (l : List UInt8) (k n : Nat) (h : k ≤ n) : tot (l.take k) ≤ 65535 * n := by
  have := tot_le (l.take k)
  rw [List.length_take] at this
  have h2 : min k l.length ≤ n := by omega
  exact Nat.le_trans this (Nat.mul_le_mul_left _ h2)
theorem tmod_two (k : Nat) : (k : Int).tmod 2 = ((k % 2 : Nat) : Int) := by rw [Int.tmod_eq_emod_of_nonneg (by omega)]; omega
theorem and_low (n : Nat) (h : n < 18446744073709551616) : bits .and .u64 (n : Int) 65535 = ((n % 65536 : Nat) : Int) := by
  have := bits_and_u64_nat n 65535 h (by decide)
  rw [show (n &&& 65535) = n % 65536 from Nat.and_two_pow_sub_one_eq_mod n 16] at this
  exact this

set_option maxRecDepth 100000 in
set_option maxHeartbeats 2000000 in
theorem Sum_any (w : World) (s : ByteArray) (hs : s.size ≤ 140737488355328) :
    Calls Try.prog 79 #[.string s] w fun e w' => e = .returned (.int .i64 (sumT s.data.toList)) ∧ Below w.heap.size w w' := by
  have hm := hs
  obtain ⟨R, hR⟩ : ∃ R, R = sumT s.data.toList := ⟨_, rfl⟩
  rw [← hR]
  have hr := Lib.run_convert_string_bytes (P := Try.prog) w 9 61 5 s Try.underlying9 Try.underlying61 Try.underlying5
  have hh := Lib.hid (bytes_holds w s)
  have hg := Lib.hid (bytes_grown w s)
  generalize Lib.bytesWorld w 5 s = w1 at hr hh hg
  obtain ⟨l, hl⟩ : ∃ l, l = s.data.toList := ⟨_, rfl⟩
  have hz : l.length = s.size := by rw [hl, Array.length_toList]; rfl
  rw [← hl] at hR
  have HR : Hid (R = 65535 - cm (tot l)) := Lib.hid hR
  clear hR
  obtain ⟨n, hn⟩ : ∃ n, n = s.size := ⟨_, rfl⟩
  have HL := Lib.hid hl
  have HZ := Lib.hid hz
  rw [← hn] at hr hm HZ
  have HN := Lib.hid hn
  clear hl hz hs
  go_enter Try.func79, Try.ntmps79
  go_wp2
  go_loopw [3, 9] (fun x i wr => ∃ k : Nat, k ≤ n ∧ i = .int .i64 k ∧ x = .int .u64 (tot (l.take k)) ∧ w1 = wr) (fun _ i _ => n - (intOf i).toNat)
  case atStart => exact ⟨0, by omega, rfl, rfl, rfl⟩
  case round =>
    obtain ⟨k, hk, rfl, rfl, rfl⟩ := hrel
    by_cases hlt : k < n
    · obtain ⟨X, hX⟩ : ∃ X, l[k]? = some X := ⟨l[k]'(by rw [HZ.out]; exact hlt), List.getElem?_eq_getElem _⟩
      have hc : w1.cell? ⟨w.heap.size, k, none⟩ = some (.int .u8 (X.toNat : Int)) := by
        have h1 := (hh.out k (by show k < s.size; rw [← HN.out]; exact hlt)).1
        rw [Nat.zero_add] at h1
        rw [h1]
        have h2 : s.data[k]? = some X := by rw [← hX, HL.out, Array.getElem?_toList]
        simp [eb, getElem!_def, h2]
      have ht := tot_next l k X hX
      have hb := tot_take_le l k n hk
      have hx := X.toNat_lt
      have hq : ((k : Int) == 0) = ((k : Int) == 0) := rfl
      generalize tot (l.take k) = T at ht hb ⊢
      have HT := Lib.hid ht
      clear ht hX hq
      by_cases h2 : k % 2 = 0
      · have e2 : ((k : Int).tmod 2 == 0) = true := by rw [tmod_two]; simp [h2]
        go_wp2
        go_roundw
        case rel => exact ⟨k + 1, by omega, by go_num, by rw [HT.out, if_pos h2]; go_num, trivial⟩
        case measure => simp [intOf]; omega
      · have e2 : ((k : Int).tmod 2 == 0) = false := by rw [tmod_two]; simp; omega
        go_wp2
        go_roundw
        case rel => exact ⟨k + 1, by omega, by go_num, by rw [HT.out, if_neg h2]; go_num, trivial⟩
        case measure => simp [intOf]; omega
    · have hz : k = n := by omega
      have htk : l.take k = l := List.take_of_length_le (by rw [HZ.out]; omega)
      have hb := tot_take_le l k n hk
      rw [htk] at hb ⊢
      subst hz
      clear htk
      have hg2 := Lib.hid (Below.of_none hg.out)
      generalize tot l = T at hb HR ⊢
      go_wp2
      go_loopw [3] (fun x wr => ∃ m : Nat, m ≤ T ∧ cm m = cm T ∧ x = .int .u64 m ∧ w1 = wr) (fun x _ => (intOf x).toNat)
      case atStart => exact ⟨T, Nat.le_refl _, rfl, rfl, rfl⟩
      case round =>
        obtain ⟨m, hmT, hcm, rfl, rfl⟩ := hrel
        have HC := Lib.hid hcm
        clear hcm
        have ea := and_low m (by omega)
        by_cases h65 : 65535 < m
        · go_wp2
          go_roundw
          case rel => exact ⟨m / 65536 + m % 65536, by omega, by rw [cm_step h65, HC.out], by go_num, trivial⟩
          case measure => simp [intOf]; omega
        · have e3 : cm m = m := cm_small (by omega)
          have e4 := HC.out
          have hRm : Hid (R = 65535 - m) := Lib.hid (by rw [HR.out, ← e4, e3])
          clear e3 e4 ea
          go_wp2
          go_ret
          exact ⟨by rw [hRm.out]; go_num, hg2.out⟩

end Go.Proofs.Ytbjoibgkhooljaa
