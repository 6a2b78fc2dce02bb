/-
  Layer 6: the document's own functions on frames. Conditions: a frame's type is a number of its kind, its data no longer than a string may be.
-/
import Derived.Test.YtbjoibgkhooljaaEthD
import Derived.Test.YtbjoibgkhooljaaRef
namespace Go.Proofs.Ytbjoibgkhooljaa
open Go.RowKit Go.Sort
set_option linter.unusedVariables false

theorem conv_two (w : World) (u v : Int) (h0 : 0 ≤ u) (h1 : u < 256) (h2 : 0 ≤ v) (h3 : v < 256) :
    (convert 61 9 (.slice (some ⟨w.heap.size, 0, none⟩) 2 2)).run Try.prog (w.alloc (.cells #[.int .u8 u, .int .u8 v] 5)) = .ok (.string ⟨#[UInt8.ofNat u.toNat, UInt8.ofNat v.toNat]⟩) (w.alloc (.cells #[.int .u8 u, .int .u8 v] 5)) := by
  refine conv_text _ w.heap.size 0 2 2 [UInt8.ofNat u.toNat, UInt8.ofNat v.toNat] rfl ?_
  intro j hj
  have hj' : j < 2 := hj
  have hb := heap_alloc_new w (.cells #[.int .u8 u, .int .u8 v] 5)
  refine ⟨?_, by simp only [World.frozen?, hb]; simp⟩
  rw [cell_of_block hb]
  rcases j with _ | _ | j
  · show some (Value.int .u8 u) = some (eb (UInt8.ofNat u.toNat))
    unfold eb
    rw [UInt8.toNat_ofNat']
    congr 2
    omega
  · show some (Value.int .u8 v) = some (eb (UInt8.ofNat v.toNat))
    unfold eb
    rw [UInt8.toNat_ofNat']
    congr 2
    omega
  · omega
theorem six_get (l : List UInt8) (k : Nat) (hl : l.length = 6) (h : k < 6) : ∃ X : UInt8, l[k]? = some X ∧ l.take (k + 1) = l.take k ++ [X] := by
  refine ⟨l[k]'(by omega), List.getElem?_eq_getElem (by omega), ?_⟩
  rw [List.take_succ_eq_append_getElem (by omega)]
theorem conv_byte (w : World) (X : UInt8) :
    (convert 61 9 (.slice (some ⟨w.heap.size, 0, none⟩) 1 1)).run Try.prog (w.alloc (.cells #[.int .u8 (X.toNat : Int)] 5)) = .ok (.string ⟨#[X]⟩) (w.alloc (.cells #[.int .u8 (X.toNat : Int)] 5)) := by
  have h := conv_one w (X.toNat : Int) (by omega) (by have := X.toNat_lt; omega)
  rw [Int.toNat_natCast, UInt8.ofNat_toNat] at h
  exact h

theorem ref_list (f : Fr) (h1 : 0 ≤ f.ty) (h2 : f.ty ≤ 65535) : (⟨(f.to.list ++ f.fr.list).toArray⟩ : ByteArray) ++ ⟨#[UInt8.ofNat (f.ty / 256).toNat, UInt8.ofNat (f.ty % 256).toNat]⟩ ++ f.da = ⟨(frL f).toArray⟩ := by
  obtain ⟨X, hX⟩ := Int.eq_ofNat_of_zero_le h1
  have hl : (leL f.ty 2).reverse = [UInt8.ofNat (f.ty / 256).toNat, UInt8.ofNat (f.ty % 256).toNat] := by
    rw [hX]
    have e1 : ((X : Int) / 256).toNat = X / 256 := by omega
    have e2 : ((X : Int) % 256).toNat = X % 256 := by omega
    rw [e1, e2, ofNat_mod]
    simp [leL, le, List.range_succ]
  unfold frL
  rw [hl]
  apply ByteArray.ext
  apply Array.toList_inj.1
  simp



def forL (f : Fr) (me : Mac6) (k : Nat) : Bool := decide (f.to.list.take k = me.list.take k)
def allL (f : Fr) (k : Nat) : Bool := decide (f.to.list.take k = Mac6.all.list.take k)
theorem take_eq (l m : List UInt8) (k : Nat) (X Y : UInt8) (h1 : l.take (k + 1) = l.take k ++ [X]) (h2 : m.take (k + 1) = m.take k ++ [Y]) (h3 : l.length = 6) (h4 : m.length = 6) :
    decide (l.take (k + 1) = m.take (k + 1)) = (decide (l.take k = m.take k) && decide (X = Y)) := by
  rw [h1, h2, Bool.eq_iff_iff]
  simp only [Bool.and_eq_true, decide_eq_true_eq]
  constructor
  · intro h
    have := List.append_inj h (by simp [h3, h4])
    exact ⟨this.1, by simpa using this.2⟩
  · rintro ⟨a, rfl⟩
    rw [a]
theorem beq_u8 (X Y : UInt8) : ((X.toNat : Int) == (Y.toNat : Int)) = decide (X = Y) := by
  rw [Bool.eq_iff_iff]
  simp only [beq_iff_eq, decide_eq_true_eq, nat_u8]
theorem beq_255 (X : UInt8) : ((X.toNat : Int) == 255) = decide (X = 255) := beq_u8 X 255
theorem all_get (k : Nat) (h : k < 6) : Mac6.all.list.take (k + 1) = Mac6.all.list.take k ++ [255] := by
  rcases k with _ | _ | _ | _ | _ | _ | k <;> first | omega | rfl
theorem for_full (f : Fr) (me : Mac6) : (forL f me 6 || allL f 6) = forB f me := by
  have h1 : forL f me 6 = decide (f.to = me) := by
    unfold forL
    rw [Bool.eq_iff_iff]
    simp only [decide_eq_true_eq]
    exact ⟨fun h => Mac6.same h, fun h => by rw [h]⟩
  have h2 : allL f 6 = decide (f.to = Mac6.all) := by
    unfold allL
    rw [Bool.eq_iff_iff]
    simp only [decide_eq_true_eq]
    exact ⟨fun h => Mac6.same h, fun h => by rw [h]⟩
  rw [h1, h2]
  rfl


end Go.Proofs.Ytbjoibgkhooljaa
