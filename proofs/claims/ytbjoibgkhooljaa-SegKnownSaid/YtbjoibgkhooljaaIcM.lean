/-
  Layer 9: a message's bytes and what bytes are read as, as mathematics. No program is named here.
-/
import Derived.Test.YtbjoibgkhooljaaIcA
import Derived.Test.YtbjoibgkhooljaaIpM
import Derived.Test.YtbjoibgkhooljaaNumber
namespace Go.Proofs.Ytbjoibgkhooljaa
open Go.RowKit Go.Sort
set_option linter.unusedVariables false

/-- The four bytes of a number, the greatest first. -/
def four (n : Nat) : List UInt8 := [UInt8.ofNat (n / 16777216), UInt8.ofNat (n / 65536), UInt8.ofNat (n / 256), UInt8.ofNat n]
theorem be4 (x : Int) : (leL x 4).reverse = four x.toNat := by
  simp [leL, le, List.range_succ, four]
/-- Whether a message's numbers are bytes. -/
def mayI (f : Ic) : Bool := decide (0 ≤ f.kd ∧ f.kd ≤ 255 ∧ 0 ≤ f.co ∧ f.co ≤ 255)
theorem mayI_all {f : Ic} (h : mayI f = true) : 0 ≤ f.kd ∧ f.kd ≤ 255 ∧ 0 ≤ f.co ∧ f.co ≤ 255 := of_decide_eq_true h
/-- What stands ahead of the sum and behind it, the sum, all bytes; why there are none. -/
def icA (f : Ic) : List UInt8 := [UInt8.ofNat f.kd.toNat] ++ [UInt8.ofNat f.co.toNat]
def icH (f : Ic) : List UInt8 := four f.re.toNat ++ f.da.data.toList
def icK (f : Ic) : Nat := sumT (icA f ++ two 0 ++ icH f)
def icL (f : Ic) : List UInt8 := icA f ++ two (icK f) ++ icH f
def icE (f : Ic) : Int := if mayI f = false then 1 else if 558 < f.da.size then 3 else 0
def icS (f : Ic) : ByteArray := if icE f = 0 then ⟨(icL f).toArray⟩ else ⟨#[]⟩
theorem icK_le (f : Ic) : icK f ≤ 65535 := sumT_le _
theorem list_size (s : ByteArray) : s.data.toList.length = s.size := by rw [Array.length_toList]; rfl
theorem icH_length (f : Ic) : (icH f).length = 4 + f.da.size := by rw [icH, List.length_append, list_size]; rfl
theorem icL_length (f : Ic) : (icL f).length = 8 + f.da.size := by
  rw [icL, List.length_append, List.length_append, icH_length, show (icA f).length = 2 from rfl, show (two (icK f)).length = 2 from rfl]; omega
theorem icE_zero {f : Ic} : icE f = 0 ↔ (mayI f = true ∧ f.da.size ≤ 558) := by
  unfold icE
  cases mayI f
  · simp
  · by_cases h : 558 < f.da.size
    · have : ¬ f.da.size ≤ 558 := by omega
      simp [h, this]
    · have : f.da.size ≤ 558 := by omega
      simp [h, this]
theorem icS_list {f : Ic} (h : icE f = 0) : (icS f).data.toList = icL f := by rw [icS, if_pos h]
theorem icS_size {f : Ic} (h : icE f = 0) : (icS f).size = 8 + f.da.size := by rw [← list_size, icS_list h, icL_length]
theorem icL_sum (f : Ic) : sumT (icL f) = 0 := sum_placed (icA f) (icH f) (by rw [show (icA f).length = 2 from rfl])
/-- A byte of a list; the number that four are. -/
def b9 (l : List UInt8) (k : Nat) : Nat := (l.getD k 0).toNat
theorem b9_lt (l : List UInt8) (k : Nat) : b9 l k < 256 := (l.getD k 0).toNat_lt
def r4 (l : List UInt8) : Nat := 16777216 * b9 l 4 + 65536 * b9 l 5 + 256 * b9 l 6 + b9 l 7
theorem r4_lt (l : List UInt8) : r4 l < 4294967296 := by
  have := b9_lt l 4
  have := b9_lt l 5
  have := b9_lt l 6
  have := b9_lt l 7
  unfold r4; omega
/-- What bytes are read as; why they are not. -/
def irQ (s : ByteArray) : Ic := ⟨b9 s.data.toList 0, b9 s.data.toList 1, r4 s.data.toList, s.extract 8 s.size⟩
def irE (s : ByteArray) : Int := if s.size < 8 then 7 else if 566 < s.size then 3 else if sumT s.data.toList = 0 then 0 else 9
def irP (s : ByteArray) : Ic := if irE s = 0 then irQ s else icZ
theorem irE_zero {s : ByteArray} : irE s = 0 ↔ (8 ≤ s.size ∧ s.size ≤ 566 ∧ sumT s.data.toList = 0) := by
  unfold irE
  by_cases h1 : s.size < 8
  · have : ¬ 8 ≤ s.size := by omega
    simp [h1, this]
  by_cases h2 : 566 < s.size
  · have : ¬ s.size ≤ 566 := by omega
    simp [h1, h2, this]
  have g1 : 8 ≤ s.size := by omega
  have g2 : s.size ≤ 566 := by omega
  by_cases h3 : sumT s.data.toList = 0
  · simp [h1, h2, h3, g1, g2]
  · simp [h1, h2, h3, g1, g2]
theorem wf_of (n : Nat) (h : n < 1000000) : (Lit.int .i64 (n : Int)).wf = true := Go.WalkArith.wf_i64 ⟨by omega, by omega⟩
theorem wf_of4 (n : Nat) (h : n < 4294967296) : (Lit.int .u32 (n : Int)).wf = true := by
  have : (n : Int) ≤ 4294967295 := by omega
  simp [Lit.wf, IntKind.min, IntKind.max, IntKind.signed, IntKind.bits]
  omega
theorem irQ_ok (s : ByteArray) (h : s.size ≤ maxLen) : (irQ s).ok := by
  have h0 := b9_lt s.data.toList 0
  have h1 := b9_lt s.data.toList 1
  refine ⟨wf_of _ (by omega), wf_of _ (by omega), wf_of4 _ (r4_lt _), ?_⟩
  show (s.extract 8 s.size).size ≤ maxLen
  rw [ByteArray.size_extract]
  omega
theorem irP_ok (s : ByteArray) (h : s.size ≤ maxLen) : (irP s).ok := by
  unfold irP
  split
  · exact irQ_ok s h
  · exact icZ_ok
theorem re_lt {f : Ic} (h : f.ok) : 0 ≤ f.re ∧ f.re < 4294967296 := by
  have := h.2.2.1
  simp [Lit.wf, IntKind.min, IntKind.max, IntKind.signed, IntKind.bits] at this
  omega
theorem byte_val {n : Nat} : (UInt8.ofNat n).toNat = n % 256 := UInt8.toNat_ofNat'
/-- What stands in the bytes of a message. -/
theorem icL_bytes (f : Ic) : ∃ x y : UInt8, icL f = UInt8.ofNat f.kd.toNat :: UInt8.ofNat f.co.toNat :: x :: y :: UInt8.ofNat (f.re.toNat / 16777216) :: UInt8.ofNat (f.re.toNat / 65536) :: UInt8.ofNat (f.re.toNat / 256) :: UInt8.ofNat f.re.toNat :: f.da.data.toList := ⟨_, _, rfl⟩
theorem drop_data (s : ByteArray) (k : Nat) : (s.extract k s.size).data.toList = s.data.toList.drop k := by
  rw [Lib.extract_data]
  exact List.take_of_length_le (by rw [List.length_drop, list_size]; exact Nat.le_refl _)
theorem same_data {s t : ByteArray} (h : s.data.toList = t.data.toList) : s = t := ByteArray.ext (Array.toList_inj.1 h)
/-- What has bytes is read from them. -/
theorem read_back9 (f : Ic) (hf : f.ok) (h : icE f = 0) : irE (icS f) = 0 ∧ irP (icS f) = f := by
  obtain ⟨hm, hz⟩ := icE_zero.1 h
  obtain ⟨k0, k1, c0, c1⟩ := mayI_all hm
  obtain ⟨e0, e1⟩ := re_lt hf
  have hE : irE (icS f) = 0 := irE_zero.2 ⟨by rw [icS_size h]; omega, by rw [icS_size h]; omega, by rw [icS_list h]; exact icL_sum f⟩
  refine ⟨hE, ?_⟩
  rw [irP, if_pos hE]
  obtain ⟨x, y, hL⟩ := icL_bytes f
  have hS := icS_list h
  rw [hL] at hS
  refine Ic.same ⟨?_, ?_, ?_, ?_⟩
  · show ((b9 (icS f).data.toList 0 : Nat) : Int) = f.kd
    rw [hS]
    show (((UInt8.ofNat f.kd.toNat).toNat : Nat) : Int) = f.kd
    rw [byte_val]; omega
  · show ((b9 (icS f).data.toList 1 : Nat) : Int) = f.co
    rw [hS]
    show (((UInt8.ofNat f.co.toNat).toNat : Nat) : Int) = f.co
    rw [byte_val]; omega
  · show ((r4 (icS f).data.toList : Nat) : Int) = f.re
    rw [hS]
    show ((16777216 * (UInt8.ofNat (f.re.toNat / 16777216)).toNat + 65536 * (UInt8.ofNat (f.re.toNat / 65536)).toNat + 256 * (UInt8.ofNat (f.re.toNat / 256)).toNat + (UInt8.ofNat f.re.toNat).toNat : Nat) : Int) = f.re
    rw [byte_val, byte_val, byte_val, byte_val]; omega
  · apply same_data
    show ((icS f).extract 8 (icS f).size).data.toList = _
    rw [drop_data, hS]
    rfl
theorem r4_bytes (a b c d : UInt8) (n : Nat) (h : n = 16777216 * a.toNat + 65536 * b.toNat + 256 * c.toNat + d.toNat) : four n = [a, b, c, d] := by
  have ha := a.toNat_lt
  have hb := b.toNat_lt
  have hc := c.toNat_lt
  have hd := d.toNat_lt
  subst h
  unfold four
  congr 1
  · apply UInt8.toNat_inj.1; rw [byte_val]; omega
  congr 1
  · apply UInt8.toNat_inj.1; rw [byte_val]; omega
  congr 1
  · apply UInt8.toNat_inj.1; rw [byte_val]; omega
  congr 1
  · apply UInt8.toNat_inj.1; rw [byte_val]; omega
/-- What is read has bytes, which but for their sum are those that it was read from. -/
theorem read_same (s : ByteArray) (h : irE s = 0) : icE (irQ s) = 0 ∧ (icS (irQ s)).size = s.size ∧ (icS (irQ s)).data.toList.take 2 = s.data.toList.take 2 ∧ (icS (irQ s)).data.toList.drop 4 = s.data.toList.drop 4 := by
  obtain ⟨h8, h566, hs⟩ := irE_zero.1 h
  have z : (irQ s).da.size = s.size - 8 := by show (s.extract 8 s.size).size = _; rw [ByteArray.size_extract]; omega
  have b0 := b9_lt s.data.toList 0
  have b1 := b9_lt s.data.toList 1
  have hE : icE (irQ s) = 0 := icE_zero.2 ⟨decide_eq_true ⟨Int.natCast_nonneg _, by show ((b9 s.data.toList 0 : Nat) : Int) ≤ 255; omega, Int.natCast_nonneg _, by show ((b9 s.data.toList 1 : Nat) : Int) ≤ 255; omega⟩, by omega⟩
  have hl : s.data.toList.length = s.size := list_size s
  have hd : (irQ s).da.data.toList = s.data.toList.drop 8 := drop_data s 8
  refine ⟨hE, by rw [icS_size hE, z]; omega, ?_, ?_⟩
  · rw [icS_list hE]
    have q0 : (irQ s).kd.toNat = b9 s.data.toList 0 := rfl
    have q1 : (irQ s).co.toNat = b9 s.data.toList 1 := rfl
    obtain ⟨x, y, hL⟩ := icL_bytes (irQ s)
    rw [hL, q0, q1]
    generalize s.data.toList = l at hl ⊢
    match l, hl with
    | [], hl => simp at hl; omega
    | [_], hl => simp at hl; omega
    | a :: b :: l, _ => simp [b9]
  · rw [icS_list hE]
    have hL : (icL (irQ s)).drop 4 = four (r4 s.data.toList) ++ s.data.toList.drop 8 := by rw [← hd]; rfl
    rw [hL]
    generalize s.data.toList = l at hl ⊢
    match l, hl with
    | a :: b :: c :: d :: e :: f :: g :: h :: l, _ =>
      rw [r4_bytes e f g h (r4 (a :: b :: c :: d :: e :: f :: g :: h :: l)) (by simp [r4, b9])]
      rfl
    | [], hl => simp at hl; omega
    | [_], hl => simp at hl; omega
    | [_, _], hl => simp at hl; omega
    | [_, _, _], hl => simp at hl; omega
    | [_, _, _, _], hl => simp at hl; omega
    | [_, _, _, _, _], hl => simp at hl; omega
    | [_, _, _, _, _, _], hl => simp at hl; omega
    | [_, _, _, _, _, _, _], hl => simp at hl; omega
/-- How much of a packet is quoted; the message that says that nobody is there. -/
def quN (s : ByteArray) : Nat := if s.size = 0 then 0 else min (4 * (b9 s.data.toList 0 % 16) + 8) s.size
def quC (c : Int) (s : ByteArray) : Ic := ⟨3, c % 256, 0, s.extract 0 (quN s)⟩
theorem quN_le (s : ByteArray) : quN s ≤ s.size ∧ quN s ≤ 68 ∧ (8 ≤ quN s ∨ quN s = s.size) := by
  unfold quN
  have := b9_lt s.data.toList 0
  split <;> omega
theorem quC_size (c : Int) (s : ByteArray) : (quC c s).da.size = quN s := by
  show (s.extract 0 (quN s)).size = _
  have := quN_le s
  rw [ByteArray.size_extract]; omega
theorem quC_ok (c : Int) (s : ByteArray) : (quC c s).ok := by
  refine ⟨by show (Lit.int .i64 3).wf = true; decide, ?_, by show (Lit.int .u32 0).wf = true; decide, ?_⟩
  · exact Go.WalkArith.wf_i64 (n := c % 256) ⟨by omega, by omega⟩
  · rw [quC_size]; have := quN_le s; unfold maxLen; omega
theorem quC_zero (c : Int) (s : ByteArray) : icE (quC c s) = 0 := by
  refine icE_zero.2 ⟨decide_eq_true ⟨(by decide : (0 : Int) ≤ 3), (by decide : (3 : Int) ≤ 255), ?_, ?_⟩, ?_⟩
  · show 0 ≤ c % 256; omega
  · show c % 256 ≤ 255; omega
  · rw [quC_size]; have := quN_le s; omega
/-- The message that answers one that asks for an echo. -/
def ecB (f : Ic) : Bool := decide (f.kd = 8 ∧ f.co = 0)
def ecC (f : Ic) : Ic := if ecB f = true then ⟨0, 0, f.re, f.da⟩ else icZ

end Go.Proofs.Ytbjoibgkhooljaa
