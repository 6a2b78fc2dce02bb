/-
  The contracts of the document's own answers for layer 1: bytes of numbers, numbers of bytes, and what is read, written and told of a memory's bytes. Condition: a text is no longer than an int can tell.
-/
import Derived.Test.YtmlicejhkdkhnaaNumber
import Derived.Deep.QuietTactic
import Derived.BigQuiet
namespace Go.Proofs.Ytmlicejhkdkhnaa
open Go.RowKit Go.Sort





/-- 'string([]byte{v})'. -/
theorem conv_one (w : World) (v : Int) (h0 : 0 ≤ v) (h1 : v < 256) :
    (convert 66 9 (.slice (some ⟨w.heap.size, 0, none⟩) 1 1)).run Try.prog (w.alloc (.cells #[.int .u8 v] 5)) = .ok (.string ⟨[UInt8.ofNat v.toNat].toArray⟩) (w.alloc (.cells #[.int .u8 v] 5)) := by
  refine conv_text _ _ 0 1 1 [UInt8.ofNat v.toNat] rfl fun j hj => ?_
  have hj' : j = 0 := by have : j < 1 := hj; omega
  subst hj'
  constructor
  · rw [cell_of_block (heap_alloc_new w _)]
    show some (Value.int .u8 v) = some (eb (UInt8.ofNat v.toNat))
    unfold eb
    rw [UInt8.toNat_ofNat']
    congr 2
    omega
  · have hb := heap_alloc_new w (.cells #[.int .u8 v] 5)
    simp only [World.frozen?, hb]
    simp

theorem wrap_quo (y : Nat) (h : y < 18446744073709551616) : IntKind.u64.wrap ((y : Int) / 256) = ((y / 256 : Nat) : Int) := by
  rw [Int.natCast_ediv]
  exact IntWalk.u64_in _ (by omega)
theorem cat_lists (a : List UInt8) (b : Array UInt8) : (⟨a.toArray⟩ : ByteArray) ++ ⟨b⟩ = ⟨(a ++ b.toList).toArray⟩ := by
  apply ByteArray.ext
  apply Array.toList_inj.1
  simp
theorem ofNat_mod (y : Nat) : UInt8.ofNat (y % 256) = UInt8.ofNat y := by
  apply UInt8.toNat_inj.1
  rw [UInt8.toNat_ofNat', UInt8.toNat_ofNat']
  omega



theorem cat_lists2 (b : Array UInt8) (a : List UInt8) : (⟨b⟩ : ByteArray) ++ ⟨a.toArray⟩ = ⟨(b.toList ++ a).toArray⟩ := by
  apply ByteArray.ext
  apply Array.toList_inj.1
  simp



/-- One byte more in front. -/
theorem num_round (m : List UInt8) (b : UInt8) (h : m.length ≤ 7) :
    IntKind.u64.wrap (IntKind.u64.wrap ((num m : Int) * 256) + IntKind.u64.wrap (b.toNat : Int)) = (num (b :: m) : Int) := by
  have h1 := num_lt m
  have h2 : 256 ^ m.length ≤ 256 ^ 7 := Nat.pow_le_pow_right (by decide) h
  have hb := b.toNat_lt
  have h3 : num m < 72057594037927936 := by omega
  rw [IntWalk.u64_in ((num m : Int) * 256) (by omega), IntWalk.u64_in (b.toNat : Int) (by omega), IntWalk.u64_in _ (by omega)]
  simp only [num]
  omega

/-- Byte i of what was cut out. -/
theorem cut_get (s : ByteArray) (a n i : Nat) (hi : i < n) (h2 : a + i < s.size) : ((s.data.toList.drop a).take n)[i]? = some s[a + i] := by
  rw [List.getElem?_take_of_lt hi, List.getElem?_drop, Array.getElem?_toList, Array.getElem?_eq_getElem h2]
  rfl

theorem front_round (l : List UInt8) (k : Nat) (b : UInt8) (h : l[k]? = some b) (hl : l.length ≤ 8) :
    IntKind.u64.wrap (IntKind.u64.wrap ((num (l.take k).reverse : Int) * 256) + IntKind.u64.wrap (b.toNat : Int)) = (num (l.take (k + 1)).reverse : Int) := by
  have hk : k < l.length := (List.getElem?_eq_some_iff.1 h).1
  rw [num_round _ b (by rw [List.length_reverse, List.length_take]; omega), List.take_add_one, h]
  simp

theorem back_round (l : List UInt8) (k : Nat) (b : UInt8) (h : l[k]? = some b) (hl : l.length ≤ 8) :
    IntKind.u64.wrap (IntKind.u64.wrap ((num (l.drop (k + 1)) : Int) * 256) + IntKind.u64.wrap (b.toNat : Int)) = (num (l.drop k) : Int) := by
  obtain ⟨hk, he⟩ := List.getElem?_eq_some_iff.1 h
  rw [num_round _ b (by rw [List.length_drop]; omega), List.drop_eq_getElem_cons hk, he]













end Go.Proofs.Ytmlicejhkdkhnaa
