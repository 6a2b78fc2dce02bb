/-
  The contracts of mem.put and mem.get: a number laid into bytes, and read from them. Conditions: the bytes are at most eight and none of them is frozen.
-/
import Derived.Test.YtmlicejhkdkhnaaCalls
import Derived.Test.YtmlicejhkdkhnaaBytes
namespace Go.Proofs.Ytmlicejhkdkhnaa
open Go.RowKit Go.Sort

/-- What holds after k rounds of 'put'. -/
def half (X : Nat) (d : List UInt8) (k : Nat) : Array UInt8 := (le X k ++ d.drop k).toArray

theorem half_size (X : Nat) (d : List UInt8) (k : Nat) (h : k ≤ d.length) : (half X d k).size = d.length := by simp [half, le_length]; omega
theorem half_zero (X : Nat) (d : List UInt8) : half X d 0 = d.toArray := by simp [half, le]
theorem half_all (X : Nat) (d : List UInt8) : half X d d.length = (le X d.length).toArray := by simp [half]
theorem half_succ (X : Nat) (d : List UInt8) (k : Nat) (h : k < d.length) : (half X d k).setIfInBounds k (UInt8.ofNat (X / 256 ^ k)) = half X d (k + 1) := by
  unfold half
  rw [List.setIfInBounds_toArray, le_succ, List.set_append_right _ _ (by rw [le_length]; omega), le_length, Nat.sub_self, List.drop_eq_getElem_cons h, List.set_cons_zero, List.append_assoc]
  rfl

theorem byte_int (X k : Nat) : (X : Int) / 2 ^ (8 * k) % 256 = ((UInt8.ofNat (X / 256 ^ k)).toNat : Int) := by
  have h : (256 : Nat) ^ k = 2 ^ (8 * k) := by rw [Nat.pow_mul]
  rw [UInt8.toNat_ofNat', h, show (2 : Nat) ^ 8 = 256 from rfl, Int.natCast_emod, Int.natCast_ediv, Int.natCast_pow]
  rfl
theorem byte_of (X k : Nat) : Value.int .u8 ((X : Int) / 2 ^ (8 * k) % 256) = eb (UInt8.ofNat (X / 256 ^ k)) := by unfold eb; rw [byte_int]

set_option maxHeartbeats 400000 in
theorem put_any (g off cap : Nat) (X : Nat) (d : List UInt8) (w : World) (hd : d.length ≤ 8) (hh : Holds eb w g off d.toArray) :
    Calls Try.prog 54 #[.slice (some ⟨g, off, none⟩) d.length cap, .int .u64 X] w fun e w' => e = .returned (.tuple #[]) ∧ putRow eb w g off (le X d.length).toArray = w' := by
  go_enter Try.func54, Try.ntmps54
  go_wp2
  go_loopw [4, 7] (fun _ i wr => ∃ k : Nat, k ≤ d.length ∧ i = .int .i64 k ∧ wr = putRow eb w g off (half X d k)) (fun _ i _ => d.length - (intOf i).toNat)
  case atStart => exact ⟨0, Nat.zero_le _, rfl, by rw [half_zero]; exact (putRow_self eb w g off _ hh).symm⟩
  case round =>
    obtain ⟨k, hk, rfl, rfl⟩ := hrel
    by_cases hlt : k < d.length
    · have hf : w.frozen? ⟨g, off + k, none⟩ = false := (hh k (by simpa using hlt)).2
      have hc := cell?_putRow eb w g off d.toArray (half X d k) hh (by rw [half_size _ _ _ hk]; simp) k (by rw [half_size _ _ _ hk]; exact hlt)
      have HW : Hid (_ = _) := Lib.hid (putRow_set eb w g off (half X d k) k (UInt8.ofNat (X / 256 ^ k)) (by rw [half_size _ _ _ hk]; exact hlt))
      go_wp2
      go_roundw
      case rel => exact ⟨k + 1, hlt, by go_num, by rw [byte_of, HW.out, half_succ X d k hlt]⟩
      case measure => simp [intOf]; omega
    · have hz : k = d.length := by omega
      subst hz
      go_wp2
      go_end0
      exact ⟨rfl, by rw [half_all]⟩

theorem put_at (g off n cap : Nat) (X : Nat) (d : List UInt8) (w : World) (hz : d.length = n) (hd : n ≤ 8) (hh : Holds eb w g off d.toArray) :
    Calls Try.prog 54 #[.slice (some ⟨g, off, none⟩) n cap, .int .u64 X] w fun e w' => e = .returned (.tuple #[]) ∧ putRow eb w g off (le X n).toArray = w' := by
  subst hz
  exact put_any g off cap X d w hd hh

theorem num_take (d : List UInt8) (k : Nat) (h : k < d.length) : num (d.take (k + 1)) = num (d.take k) + 256 ^ k * d[k].toNat := by
  rw [List.take_succ_eq_append_getElem h, num_append, List.length_take, Nat.min_eq_left (by omega)]
  simp [num]

theorem or_round (d : List UInt8) (k : Nat) (h : k < d.length) (hd : d.length ≤ 8) :
    bits .or .u64 (num (d.take k) : Int) (IntKind.u64.wrap ((d[k].toNat : Int) * 2 ^ (8 * k))) = (num (d.take (k + 1)) : Int) := by
  have hp : (256 : Nat) ^ k = 2 ^ (8 * k) := by rw [Nat.pow_mul]
  have hb := d[k].toNat_lt
  have hk : 2 ^ (8 * k) ≤ 2 ^ 56 := Nat.pow_le_pow_right (by decide) (by omega)
  have hm : d[k].toNat * 2 ^ (8 * k) < 18446744073709551616 := by
    have h1 : d[k].toNat * 2 ^ (8 * k) ≤ 255 * 2 ^ 56 := Nat.mul_le_mul (by omega) hk
    omega
  have hn : num (d.take k) < 2 ^ (8 * k) := by
    have h1 := num_lt (d.take k)
    rw [List.length_take, Nat.min_eq_left (by omega), hp] at h1
    exact h1
  have hw : IntKind.u64.wrap ((d[k].toNat : Int) * 2 ^ (8 * k)) = ((d[k].toNat * 2 ^ (8 * k) : Nat) : Int) := by
    have e : (d[k].toNat : Int) * 2 ^ (8 * k) = ((d[k].toNat * 2 ^ (8 * k) : Nat) : Int) := by
      rw [Int.natCast_mul, Int.natCast_pow]; rfl
    rw [e]
    exact IntWalk.u64_in _ (by omega)
  rw [hw, u64_or_nat _ _ (by omega) hm, num_take d k h, hp, Nat.mul_comm (2 ^ (8 * k)), Nat.or_comm, ← Nat.shiftLeft_eq, ← Nat.shiftLeft_add_eq_or_of_lt hn, Nat.add_comm]

set_option maxHeartbeats 400000 in
theorem get_nil (w : World) :
    Calls Try.prog 101 #[.slice none 0 0] w fun e w' => e = .returned (.int .u64 0) ∧ w = w' := by
  go_enter Try.func101, Try.ntmps101
  go_wp2
  go_loop [3, 4, 7] (fun x _ i => x = .int .u64 0 ∧ i = .int .i64 0) (fun _ _ _ => 0)
  case atStart => exact ⟨rfl, rfl⟩
  case round =>
    obtain ⟨rfl, rfl⟩ := hrel
    go_wp2
    go_ret
    exact ⟨rfl, rfl⟩

set_option maxHeartbeats 400000 in
theorem get_any (g off cap : Nat) (d : List UInt8) (w : World) (hd : d.length ≤ 8) (hh : Holds eb w g off d.toArray) :
    Calls Try.prog 101 #[.slice (some ⟨g, off, none⟩) d.length cap] w fun e w' => e = .returned (.int .u64 (num d)) ∧ w = w' := by
  go_enter Try.func101, Try.ntmps101
  go_wp2
  go_loop [3, 4, 7] (fun x _ i => ∃ k : Nat, k ≤ d.length ∧ i = .int .i64 k ∧ x = .int .u64 (num (d.take k))) (fun _ _ i => d.length - (intOf i).toNat)
  case atStart => exact ⟨0, Nat.zero_le _, rfl, by simp [num]⟩
  case round =>
    obtain ⟨k, hk, rfl, rfl⟩ := hrel
    by_cases hlt : k < d.length
    · have hc : w.cell? ⟨g, off + k, none⟩ = some (.int .u8 (d[k].toNat : Int)) := by
        have h := (hh k (by simpa using hlt)).1
        simpa [eb, hlt] using h
      have hb : (d[k].toNat : Int) < 256 := by have := d[k].toNat_lt; omega
      have hb0 : (0 : Int) ≤ (d[k].toNat : Int) := by omega
      go_wp2
      go_round
      case rel => exact ⟨k + 1, hlt, by go_num, by rw [or_round d k hlt hd]⟩
      case measure => simp [intOf]; omega
    · have hz : k = d.length := by omega
      subst hz
      go_wp2
      go_ret
      exact ⟨rfl, rfl⟩

theorem get_at (g off n cap : Nat) (d : List UInt8) (w : World) (hz : d.length = n) (hd : n ≤ 8) (hh : Holds eb w g off d.toArray) :
    Calls Try.prog 101 #[.slice (some ⟨g, off, none⟩) n cap] w fun e w' => e = .returned (.int .u64 (num d)) ∧ w = w' := by
  subst hz
  exact get_any g off cap d w hd hh

end Go.Proofs.Ytmlicejhkdkhnaa
