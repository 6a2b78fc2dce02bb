/-
  Layer 13: contracts that tell what else is turned; an act in its box. Conditions: as said.
-/
import Derived.Test.YtcnongkkmjahfaaSbI
namespace Go.Proofs.Ytcnongkkmjahfaa
open Go.RowKit
set_option linter.unusedVariables false

section
variable {w w1 w2 : World} {g b n : Nat} {u u' : Int} {L L' : List UInt8}
theorem vWrite (h : SbS w w1 g b n u L) (D : ByteArray) (k : Nat) (hk : k = min D.size (n - L.length)) (L' : List UInt8) (hL : L' = L ++ D.data.toList.take k) :
    Calls Try.prog 9 #[.pointer (some ⟨g, 0, none⟩), .string D] w1 fun e w' => e = .returned (.int .i64 k) ∧ SbS w w' g b n u L' ∧ Turn w1 w' (fun j => j = g ∨ j = b) :=
  (sawrite_ok h.sb D k hk _ rfl).mono fun e w' ⟨h3, h4, h5⟩ => by
    subst hL
    exact ⟨h3, h.step h4 h5, h5⟩
theorem vAck (h : SbS w w1 g b n u L) (x : Int) (hx : 0 ≤ x ∧ x < 4294967296) (K : Nat) (hK : (K : Int) = if ahN u x ≤ L.length then ahN u x else 0) (u' : Int) (hu : u' = (u + K) % 4294967296) (L' : List UInt8) (hL : L' = L.drop K) :
    Calls Try.prog 11 #[.pointer (some ⟨g, 0, none⟩), .int .u32 x] w1 fun e w' => e = .returned (.int .i64 K) ∧ SbS w w' g b n u' L' ∧ Turn w1 w' (fun j => j = g ∨ j = b) :=
  (sack_ok h.sb x hx K hK u' hu).mono fun e w' ⟨h3, h4, h5⟩ => by
    subst hL
    exact ⟨h3, h.step h4 h5, h5⟩
theorem vGet (h : SbS w w1 g b n u L) (s x : Int) (hx : x ≤ 9223372036854775807) (S : ByteArray) (hS : S = ⟨(getS u s x L).toArray⟩) :
    Calls Try.prog 10 #[.pointer (some ⟨g, 0, none⟩), .int .u32 s, .int .i64 x] w1 fun e w' => e = .returned (.string S) ∧ SbS w w' g b n u L ∧ Below w1.heap.size w1 w' :=
  (sget_ok h.sb s x hx).mono fun e w' ⟨h3, h4⟩ => ⟨by rw [hS]; exact h3, h.grow h4, h4⟩
theorem vRoom (h : SbS w w1 g b n u L) (k : Nat) (hk : L.length + k = n) :
    Calls Try.prog 14 #[.pointer (some ⟨g, 0, none⟩)] w1 fun e w' => e = .returned (.int .i64 k) ∧ SbS w w' g b n u L ∧ Below w1.heap.size w1 w' :=
  (saroom_ok h.sb k hk).mono fun e w' ⟨h3, h4⟩ => ⟨h3, h.grow h4, h4⟩
end
theorem act_rangeB {w : World} {b o : Nat} {d a n : Int} {r : Bool} {s : ByteArray} (h : ActAt w b o ⟨d, a, r, n, s⟩) : w.rangeAt b o [.int .i64 d, .int .u32 a, .bool r, .int .i64 n, .string s] := by
  obtain ⟨h0, h1, h2, h3, h4⟩ := h
  intro j u hu
  match j, hu with
  | 0, hu => simp at hu; subst hu; exact h0
  | 1, hu => simp at hu; subst hu; exact h1
  | 2, hu => simp at hu; subst hu; exact h2
  | 3, hu => simp at hu; subst hu; exact h3
  | 4, hu => simp at hu; subst hu; exact h4
theorem cells5B {w : World} {n : Nat} {x y z v u : Value} {t : TypeId} (h : w.heap[n]? = some (.cells #[x, y, z, v, u] t (0, 0))) : w.cell? ⟨n, 0, none⟩ = some x ∧ w.cell? ⟨n, 1, none⟩ = some y ∧ w.cell? ⟨n, 2, none⟩ = some z ∧ w.cell? ⟨n, 3, none⟩ = some v ∧ w.cell? ⟨n, 4, none⟩ = some u :=
  ⟨by rw [cell_of_block h]; rfl, by rw [cell_of_block h]; rfl, by rw [cell_of_block h]; rfl, by rw [cell_of_block h]; rfl, by rw [cell_of_block h]; rfl⟩
/-- A stream that is written and acknowledged: all that was written, how much of it is gone. -/
structure StI (u : Int) (n t v : Nat) (G : ByteArray) (u' : Int) (L : List UInt8) : Prop where
  size : G.size = t
  le : v ≤ t
  row : L = G.data.toList.drop v
  len : t - v ≤ n
  num : u' = (u + v) % 4294967296
section
variable {u u' : Int} {n t v : Nat} {G : ByteArray} {L : List UInt8}
theorem StI.length (h : StI u n t v G u' L) : L.length = t - v := by rw [h.row, List.length_drop, Array.length_toList, ← h.size]; rfl
theorem StI.write (h : StI u n t v G u' L) (D : ByteArray) (K : Nat) (hK : K = min D.size (n - L.length)) : StI u n (t + K) v (G ++ D.extract 0 K) u' (L ++ D.data.toList.take K) := by
  have hl := h.length
  have e : (G ++ D.extract 0 K).data.toList = G.data.toList ++ D.data.toList.take K := by
    rw [list_addB rfl rfl, extract_listB D _ rfl, List.drop_zero]
  have hs : G.data.toList.length = t := by rw [Array.length_toList, ← h.size]; rfl
  have hd : D.data.toList.length = D.size := by rw [Array.length_toList]; rfl
  refine ⟨?_, by have := h.le; omega, ?_, by have := h.le; have := h.len; omega, h.num⟩
  · rw [size_ofB e, List.length_append, hs, List.length_take, hd]; omega
  · rw [e, List.drop_append_of_le_length (by rw [hs]; exact h.le), h.row]
theorem StI.ack (h : StI u n t v G u' L) (K : Nat) (hK : K ≤ t - v) (u2 : Int) (hu : u2 = (u' + K) % 4294967296) : StI u n t (v + K) G u2 (L.drop K) :=
  ⟨h.size, by have := h.le; omega, by rw [h.row, List.drop_drop], by have := h.len; omega, by rw [hu, h.num]; omega⟩
/-- What is told of the stream, from the place v + r on. -/
theorem StI.get (h : StI u n t v G u' L) (r : Nat) (hr : r < 4294967296) (x : Int) (hn : n ≤ 300) (s : Int) (hs : s = (u + ((v + r : Nat) : Int)) % 4294967296) (A B : Nat) (hA : A = v + r) (hB : (B : Int) = min (t : Int) ((A : Int) + min x 100000)) (hlt : A < t) (hx : 0 < x) :
    (⟨(getS u' s x L).toArray⟩ : ByteArray) = G.extract A B := by
  apply ByteArray.ext
  apply Array.ext'
  have ha : ahN u' s = r := by rw [hs, h.num]; unfold ahN; omega
  have := h.len
  rw [extract_listB G _ rfl]
  show getS u' s x L = _
  unfold getS
  rw [ha, Int.toNat_natCast, h.row, List.drop_drop, List.drop_take, ← hA]
  have hs2 : G.data.toList.length = t := by rw [Array.length_toList, ← h.size]; rfl
  by_cases hq : x.toNat ≤ t - A
  · rw [show B - A = x.toNat by omega]
  · rw [List.take_of_length_le (by rw [List.length_drop, hs2]; omega), List.take_of_length_le (by rw [List.length_drop, hs2]; omega)]
theorem StI.get_none (h : StI u n t v G u' L) (r : Nat) (hr : r < 4294967296) (x : Int) (s : Int) (hs : s = (u + ((v + r : Nat) : Int)) % 4294967296) (hno : ¬ (v + r < t ∧ 0 < x)) :
    (⟨(getS u' s x L).toArray⟩ : ByteArray) = ⟨#[]⟩ := by
  have ha : ahN u' s = r := by rw [hs, h.num]; unfold ahN; omega
  have e : getS u' s x L = [] := by
    unfold getS
    rw [ha, Int.toNat_natCast]
    by_cases h1 : v + r < t
    · rw [show x.toNat = 0 by omega, List.take_zero]
    · rw [List.drop_eq_nil_of_le (by rw [h.length]; omega), List.take_nil]
  rw [e]
theorem StI.all (h : StI u n t v G u' L) (hn : n ≤ 300) (hu : 0 ≤ u' ∧ u' < 4294967296) : (⟨(getS u' u' 3000 L).toArray⟩ : ByteArray) = G.extract v t := by
  apply ByteArray.ext
  apply Array.ext'
  rw [extract_listB G _ rfl]
  show getS u' u' 3000 L = _
  have := h.len
  have hs2 : G.data.toList.length = t := by rw [Array.length_toList, ← h.size]; rfl
  rw [getS_una hu, List.take_of_length_le (by rw [h.length]; show _ ≤ 3000; omega), h.row, List.take_of_length_le (by omega)]
end
end Go.Proofs.Ytcnongkkmjahfaa
