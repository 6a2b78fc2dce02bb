/-
  The contract of slices.Reverse at bytes: the bytes of the row stand from behind. Condition: none of them is frozen.
-/
import Derived.Test.YtbjoibgkhooljaaTotal
import Derived.RegionTactic
import Derived.BigRegion
import Derived.Deep.Draws
import Derived.Sort.WalkC
namespace Go.Proofs.Ytbjoibgkhooljaa
open Go.RowKit Go.Sort

/-- What the row holds after k exchanges. -/
def part (d : Array UInt8) (k : Nat) : Array UInt8 := (Array.range d.size).map fun t => if t < k ∨ d.size - k ≤ t then d[d.size - 1 - t]! else d[t]!

theorem part_size (d : Array UInt8) (k : Nat) : (part d k).size = d.size := by simp [part]
theorem part_get (d : Array UInt8) (k t : Nat) (h : t < d.size) : (part d k)[t]! = if t < k ∨ d.size - k ≤ t then d[d.size - 1 - t]! else d[t]! := by
  rw [getElem!_pos (part d k) t (by rw [part_size]; exact h)]
  simp [part]
theorem arr_ext {a b : Array UInt8} (hs : a.size = b.size) (h : ∀ t, t < a.size → a[t]! = b[t]!) : a = b := by
  apply Array.ext hs
  intro t h1 h2
  have := h t h1
  rwa [getElem!_pos a t h1, getElem!_pos b t h2] at this
theorem part_zero (d : Array UInt8) : part d 0 = d := by
  refine arr_ext (part_size d 0) fun t ht => ?_
  rw [part_size] at ht
  rw [part_get _ _ _ ht, if_neg (by omega)]
theorem part_end (d : Array UInt8) (k : Nat) (h : d.size ≤ 2 * k + 1) : part d k = d.reverse := by
  refine arr_ext (by rw [part_size, Array.size_reverse]) fun t ht => ?_
  rw [part_size] at ht
  rw [part_get _ _ _ ht, getElem!_pos d.reverse t (by simpa using ht), Array.getElem_reverse]
  by_cases c : t < k ∨ d.size - k ≤ t
  · rw [if_pos c, getElem!_pos d _ (by omega)]
  · rw [if_neg c, getElem!_pos d t ht]
    congr 1
    omega
theorem part_swp (d : Array UInt8) (k m : Nat) (h : k < m) (hm : m + k + 1 = d.size) : swp (part d k) k m = part d (k + 1) := by
  refine arr_ext (by rw [size_swp, part_size, part_size]) fun t ht => ?_
  rw [size_swp, part_size] at ht
  rw [part_get _ _ _ ht]
  unfold swp
  by_cases e2 : t = m
  · subst e2
    rw [getElem!_set_same _ _ _ (by simp [part_size]; omega), part_get _ _ _ (by omega), if_neg (by omega), if_pos (by omega)]
    congr 1
    omega
  · rw [getElem!_set_other _ _ _ _ e2]
    by_cases e1 : t = k
    · subst e1
      rw [getElem!_set_same _ _ _ (by simp [part_size]; omega), part_get _ _ _ (by omega), if_neg (by omega), if_pos (by omega)]
      congr 1
      omega
    · rw [getElem!_set_other _ _ _ _ e1, part_get _ _ _ ht]
      by_cases c : t < k ∨ d.size - k ≤ t
      · rw [if_pos c, if_pos (by omega)]
      · rw [if_neg c, if_neg (by omega)]

theorem cell_set_some {w : World} {p q : Addr} {x v : Value} (h : w.cell? q = some v) : ∃ v', (w.setCell p x).cell? q = some v' := by
  by_cases e : p = q
  · subst e; exact ⟨x, World.cell?_setCell_same w p x h⟩
  · exact ⟨v, (World.cell?_setCell_other w p q x e).trans h⟩

set_option maxRecDepth 100000 in
set_option maxHeartbeats 1000000 in
theorem rev_any (g off cap : Nat) (d : Array UInt8) (w : World) (hd : d.size ≤ 8) (hh : Holds eb w g off d) :
    Calls Try.prog 89 #[.slice (some ⟨g, off, none⟩) d.size cap] w fun e w' => e = .returned (.tuple #[]) ∧ ∃ q, w' = (putRow eb w g off d.reverse).drewN q := by
  go_enter Try.func89, Try.ntmps89
  go_wp2
  go_loopw [2, 3] (fun i j wr => ∃ (k : Nat) (z : Int) (q : Nat), i = .int .i64 k ∧ j = .int .i64 z ∧ Hid (z = d.size - 1 - k) ∧ 2 * k ≤ d.size + 1 ∧ z < 8 ∧ -3 ≤ z ∧ wr = (putRow eb w g off (part d k)).drewN q) (fun i _ _ => 8 - (intOf i).toNat)
  case atStart => exact ⟨0, (d.size : Int) - 1, 0, rfl, rfl, Lib.hid (by simp), by omega, by omega, by omega, by rw [part_zero, putRow_self _ _ _ _ _ hh]; rfl⟩
  case round =>
    obtain ⟨k, z, q, rfl, rfl, HZ, hk2, hz8, hz3, hwr⟩ := hrel
    by_cases hlt : (k : Int) < z
    · obtain ⟨m, rfl⟩ := Int.eq_ofNat_of_zero_le (show (0 : Int) ≤ z by omega)
      have hm : m + k + 1 = d.size := by have := HZ.out; omega
      have hkm : k < m := by omega
      have hH : Holds eb wr g off (part d k) := by rw [hwr]; exact holds_putRow eb w g off d (part d k) hh (part_size d k)
      have hE : (((putRow eb w g off (part d k)).drewN q).setCell ⟨g, off + k, none⟩ (eb (part d k)[m]!)).setCell ⟨g, off + m, none⟩ (eb (part d k)[k]!) = (putRow eb w g off (part d (k + 1))).drewN q := by
        rw [← part_swp d k m hkm hm, ← putRow_swp eb w g off (part d k) k m (by rw [part_size]; omega) (by rw [part_size]; omega)]
        rfl
      rw [← hwr] at hE
      obtain ⟨c1, f1⟩ := hH k (by rw [part_size]; omega)
      obtain ⟨c2, f2⟩ := hH m (by rw [part_size]; omega)
      obtain ⟨x, hx⟩ : ∃ x : Int, eb (part d k)[k]! = .int .u8 x := ⟨_, rfl⟩
      obtain ⟨y, hy⟩ : ∃ y : Int, eb (part d k)[m]! = .int .u8 y := ⟨_, rfl⟩
      rw [hx] at c1
      rw [hy] at c2
      rw [hx, hy] at hE
      obtain ⟨v', hy'⟩ := cell_set_some (w := wr.drew) (p := ⟨g, off + k, none⟩) (x := .int .u8 y) (q := ⟨g, off + m, none⟩) (v := .int .u8 y) c2
      have HE := Lib.hid hE
      have HM := Lib.hid hm
      have d1 : (m : Int) < d.size := by omega
      have d2 : (k : Int) < d.size := by omega
      clear hE hx hy hH hwr HZ hm
      go_wp2_with fail
      go_region
      go_wp2_with fail
      go_roundw
      case rel => exact ⟨k + 1, (m : Int) - 1, q + 1, by go_num, rfl, Lib.hid (by have := HM.out; omega), by have := HM.out; omega, by omega, by omega, by rw [HE.out]; rfl⟩
      case measure => simp [intOf]; omega
    · have hz := HZ.out
      have hP : (putRow eb w g off (part d k)) = putRow eb w g off d.reverse := by rw [part_end d k (by omega)]
      rw [hP] at hwr
      clear hP hz
      subst hwr
      go_wp2_with fail
      go_end0
      exact ⟨rfl, q, rfl⟩

end Go.Proofs.Ytbjoibgkhooljaa
