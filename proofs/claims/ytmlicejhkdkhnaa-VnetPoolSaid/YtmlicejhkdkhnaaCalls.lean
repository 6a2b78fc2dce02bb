/-
  The contracts of the small functions of package mem: whether bytes are inside, whether a number may have so many, whether a memory is none. No conditions beyond the kinds of the numbers.
-/
import Derived.Test.YtmlicejhkdkhnaaRows
import Derived.WalkKit
import Derived.WalkSpells
import Derived.WalkLawsBesides
import Derived.Lib.Hide
import Derived.Lib.Builder
namespace Go.Proofs.Ytmlicejhkdkhnaa
open Go.RowKit

set_option maxHeartbeats 400000 in
theorem inside_yes (size at_ n : Int) (w : World) (h1 : 0 ≤ at_) (h2 : 0 ≤ n) (h3 : at_ + n ≤ size) (h4 : size ≤ 9223372036854775807) :
    Calls Try.prog 83 #[.int .i64 size, .int .i64 at_, .int .i64 n] w fun e w' => e = .returned (.bool true) ∧ w = w' := by
  have h5 : at_ ≤ size - n := by omega
  go_enter Try.func83, Try.ntmps83
  go_wp2
  go_ret
  exact ⟨rfl, rfl⟩

set_option maxHeartbeats 400000 in
theorem inside_no (size at_ n : Int) (w : World) (h0 : 0 ≤ size) (h4 : size ≤ 9223372036854775807) (h6 : n ≤ 9223372036854775807) (h : at_ < 0 ∨ n < 0 ∨ size < at_ + n) :
    Calls Try.prog 83 #[.int .i64 size, .int .i64 at_, .int .i64 n] w fun e w' => e = .returned (.bool false) ∧ w = w' := by
  by_cases h1 : at_ < 0
  · go_enter Try.func83, Try.ntmps83
    go_wp2
    go_ret
    exact ⟨rfl, rfl⟩
  · by_cases h2 : n < 0
    · have h1' : 0 ≤ at_ := by omega
      clear h h1
      go_enter Try.func83, Try.ntmps83
      go_wp2
      go_ret
      exact ⟨rfl, rfl⟩
    · have h1' : 0 ≤ at_ := by omega
      have h2' : 0 ≤ n := by omega
      have h3 : decide (at_ ≤ size - n) = false := decide_eq_false (by omega)
      clear h h1 h2
      go_enter Try.func83, Try.ntmps83
      go_wp2
      go_ret
      exact ⟨rfl, rfl⟩

set_option maxHeartbeats 400000 in
theorem mayHave_yes (n : Int) (w : World) (h1 : 1 ≤ n) (h2 : n ≤ 8) :
    Calls Try.prog 82 #[.int .i64 n] w fun e w' => e = .returned (.bool true) ∧ w = w' := by
  go_enter Try.func82, Try.ntmps82
  go_wp2
  go_ret
  exact ⟨rfl, rfl⟩

set_option maxHeartbeats 400000 in
theorem mayHave_no (n : Int) (w : World) (h : n < 1 ∨ 8 < n) :
    Calls Try.prog 82 #[.int .i64 n] w fun e w' => e = .returned (.bool false) ∧ w = w' := by
  by_cases h1 : n < 1
  · clear h
    go_enter Try.func82, Try.ntmps82
    go_wp2
    go_ret
    exact ⟨rfl, rfl⟩
  · have h1' : 1 ≤ n := by omega
    have h2 : decide (n ≤ 8) = false := decide_eq_false (by omega)
    clear h h1
    go_enter Try.func82, Try.ntmps82
    go_wp2
    go_ret
    exact ⟨rfl, rfl⟩

/-- A memory that 'New' made: its struct is block g, its bytes are block h. -/
def Mem (w : World) (g h : Nat) (l : List UInt8) : Prop :=
  w.heap[g]? = some (.cells #[.slice (some ⟨h, 0, none⟩) l.length l.length, .pointer (some ⟨g, 0, none⟩)] 68 (0, 0)) ∧
  w.heap[h]? = some (.cells (l.map fun b => Value.int .u8 (b.toNat : Int)).toArray 5 (0, 0))

theorem cell_of_block {w : World} {g i : Nat} {cs : Array Value} {t : TypeId} {m : Nat × Nat} (h : w.heap[g]? = some (.cells cs t m)) : w.cell? ⟨g, i, none⟩ = cs[i]? := by
  simp [World.cell?, h]

theorem Mem.bytes {w : World} {g h : Nat} {l : List UInt8} (m : Mem w g h l) : w.cell? ⟨g, 0, none⟩ = some (.slice (some ⟨h, 0, none⟩) l.length l.length) := cell_of_block m.1
theorem Mem.made {w : World} {g h : Nat} {l : List UInt8} (m : Mem w g h l) : w.cell? ⟨g, 1, none⟩ = some (.pointer (some ⟨g, 0, none⟩)) := cell_of_block m.1

theorem info_mem : ∃ j, Try.prog.info? 68 = some j := Option.isSome_iff_exists.1 (by kernel_rfl)

/-- A pointer to no memory that 'New' made: nil, or to a struct that names no maker. -/
def IsNone (w : World) (p : Option Addr) : Prop := p = none ∨ ∃ g, p = some ⟨g, 0, none⟩ ∧ w.cell? ⟨g, 1, none⟩ = some (.pointer none)

theorem neq_nil_ptr {P : Program} (w : World) {tp te : TypeId} (a : Addr) (hp : P.underlying tp = some (.pointer te)) :
    (binOp .neq tp (.pointer none) (.pointer (some a))).run P w = .ok (.bool true) w := by
  have h : ∀ d : Nat, (Op.equalIn (d + 1) tp (.pointer none) (.pointer (some a))).run P w = .ok false w := fun d => by
    simp [Op.equalIn, run_underlying hp, sizeOf, typeInfo]
  simp only [binOp]
  simp [Op.equal, Op.maxDepth, h 9999]

set_option maxHeartbeats 400000 in
theorem none_yes (w : World) (p : Option Addr) (hp : IsNone w p) :
    Calls Try.prog 81 #[.pointer p] w fun e w' => e = .returned (.bool true) ∧ w = w' := by
  rcases hp with rfl | ⟨g, rfl, hc⟩
  · go_enter Try.func81, Try.ntmps81
    go_wp2
    go_ret
    exact ⟨rfl, rfl⟩
  · have hq := neq_nil_ptr (P := Try.prog) w ⟨g, 0, none⟩ Try.underlying22
    go_enter Try.func81, Try.ntmps81
    go_wp2
    go_ret
    exact ⟨rfl, rfl⟩

set_option maxHeartbeats 400000 in
theorem none_no (w : World) (g h : Nat) (l : List UInt8) (m : Mem w g h l) :
    Calls Try.prog 81 #[.pointer (some ⟨g, 0, none⟩)] w fun e w' => e = .returned (.bool false) ∧ w = w' := by
  have hm := m.made
  obtain ⟨j, hj⟩ := info_mem
  have hq := Lib.run_neq_ptr_same (P := Try.prog) (w := w) ⟨g, 0, none⟩ Try.underlying22 hj
  clear m hj
  go_enter Try.func81, Try.ntmps81
  go_wp2
  go_ret
  exact ⟨rfl, rfl⟩

set_option maxHeartbeats 400000 in
theorem bytesAt_none (w : World) (p : Option Addr) (hp : IsNone w p) (at_ n : Int) :
    Calls Try.prog 56 #[.pointer p, .int .i64 at_, .int .i64 n] w fun e w' => e = .returned (.int .i64 2) ∧ w = w' := by
  go_enter Try.func56, Try.ntmps56
  go_wp2_with (go_at_call 81; refine (none_yes _ _ hp).mono ?_; rintro e w' ⟨rfl, rfl⟩)
  go_ret
  exact ⟨rfl, rfl⟩

set_option maxHeartbeats 400000 in
theorem bytesAt_yes (w : World) (g h : Nat) (l : List UInt8) (m : Mem w g h l) (at_ n : Int) (hl : l.length ≤ 9223372036854775807) (h1 : 0 ≤ at_) (h2 : 0 ≤ n) (h3 : at_ + n ≤ l.length) :
    Calls Try.prog 56 #[.pointer (some ⟨g, 0, none⟩), .int .i64 at_, .int .i64 n] w fun e w' => e = .returned (.int .i64 0) ∧ w = w' := by
  have hb := m.bytes
  go_enter Try.func56, Try.ntmps56
  go_wp2_with (first | (go_at_call 81; refine (none_no _ _ _ _ m).mono ?_; rintro e w' ⟨rfl, rfl⟩) | (go_at_call 83; refine (inside_yes _ _ _ _ h1 h2 h3 (by omega)).mono ?_; rintro e w' ⟨rfl, rfl⟩))
  go_ret
  exact ⟨rfl, rfl⟩

set_option maxHeartbeats 400000 in
theorem bytesAt_no (w : World) (g h : Nat) (l : List UInt8) (m : Mem w g h l) (at_ n : Int) (hl : l.length ≤ 9223372036854775807) (hn : n ≤ 9223372036854775807) (h1 : at_ < 0 ∨ n < 0 ∨ (l.length : Int) < at_ + n) :
    Calls Try.prog 56 #[.pointer (some ⟨g, 0, none⟩), .int .i64 at_, .int .i64 n] w fun e w' => e = .returned (.int .i64 13) ∧ w = w' := by
  have hb := m.bytes
  go_enter Try.func56, Try.ntmps56
  go_wp2_with (first | (go_at_call 81; refine (none_no _ _ _ _ m).mono ?_; rintro e w' ⟨rfl, rfl⟩) | (go_at_call 83; refine (inside_no _ _ _ _ (by omega) (by omega) hn h1).mono ?_; rintro e w' ⟨rfl, rfl⟩))
  go_ret
  exact ⟨rfl, rfl⟩

set_option maxHeartbeats 400000 in
theorem number_none (w : World) (p : Option Addr) (hp : IsNone w p) (at_ n : Int) :
    Calls Try.prog 53 #[.pointer p, .int .i64 at_, .int .i64 n] w fun e w' => e = .returned (.int .i64 2) ∧ w = w' := by
  go_enter Try.func53, Try.ntmps53
  go_wp2_with (go_at_call 81; refine (none_yes _ _ hp).mono ?_; rintro e w' ⟨rfl, rfl⟩)
  go_ret
  exact ⟨rfl, rfl⟩

set_option maxHeartbeats 400000 in
theorem number_arg (w : World) (g h : Nat) (l : List UInt8) (m : Mem w g h l) (at_ n : Int) (hn : n < 1 ∨ 8 < n) :
    Calls Try.prog 53 #[.pointer (some ⟨g, 0, none⟩), .int .i64 at_, .int .i64 n] w fun e w' => e = .returned (.int .i64 1) ∧ w = w' := by
  go_enter Try.func53, Try.ntmps53
  go_wp2_with (first | (go_at_call 81; refine (none_no _ _ _ _ m).mono ?_; rintro e w' ⟨rfl, rfl⟩) | (go_at_call 82; refine (mayHave_no _ _ hn).mono ?_; rintro e w' ⟨rfl, rfl⟩))
  go_ret
  exact ⟨rfl, rfl⟩

set_option maxHeartbeats 400000 in
theorem number_no (w : World) (g h : Nat) (l : List UInt8) (m : Mem w g h l) (at_ n : Int) (hl : l.length ≤ 9223372036854775807) (hn1 : 1 ≤ n) (hn2 : n ≤ 8) (h1 : at_ < 0 ∨ n < 0 ∨ (l.length : Int) < at_ + n) :
    Calls Try.prog 53 #[.pointer (some ⟨g, 0, none⟩), .int .i64 at_, .int .i64 n] w fun e w' => e = .returned (.int .i64 13) ∧ w = w' := by
  go_enter Try.func53, Try.ntmps53
  go_wp2_with (first | (go_at_call 81; refine (none_no _ _ _ _ m).mono ?_; rintro e w' ⟨rfl, rfl⟩) | (go_at_call 82; refine (mayHave_yes _ _ hn1 hn2).mono ?_; rintro e w' ⟨rfl, rfl⟩) | (go_at_call 56; refine (bytesAt_no _ _ _ _ m _ _ hl (by omega) h1).mono ?_; rintro e w' ⟨rfl, rfl⟩))
  go_ret
  exact ⟨rfl, rfl⟩

set_option maxHeartbeats 400000 in
theorem number_yes (w : World) (g h : Nat) (l : List UInt8) (m : Mem w g h l) (at_ n : Int) (hl : l.length ≤ 9223372036854775807) (hn1 : 1 ≤ n) (hn2 : n ≤ 8) (h1 : 0 ≤ at_) (h2 : at_ + n ≤ l.length) :
    Calls Try.prog 53 #[.pointer (some ⟨g, 0, none⟩), .int .i64 at_, .int .i64 n] w fun e w' => e = .returned (.int .i64 0) ∧ w = w' := by
  go_enter Try.func53, Try.ntmps53
  go_wp2_with (first | (go_at_call 81; refine (none_no _ _ _ _ m).mono ?_; rintro e w' ⟨rfl, rfl⟩) | (go_at_call 82; refine (mayHave_yes _ _ hn1 hn2).mono ?_; rintro e w' ⟨rfl, rfl⟩) | (go_at_call 56; refine (bytesAt_yes _ _ _ _ m _ _ hl h1 (by omega) h2).mono ?_; rintro e w' ⟨rfl, rfl⟩))
  go_ret
  exact ⟨rfl, rfl⟩

set_option maxHeartbeats 400000 in
theorem size_none (w : World) (p : Option Addr) (hp : IsNone w p) :
    Calls Try.prog 55 #[.pointer p] w fun e w' => e = .returned (.int .i64 0) ∧ w = w' := by
  go_enter Try.func55, Try.ntmps55
  go_wp2_with (go_at_call 81; refine (none_yes _ _ hp).mono ?_; rintro e w' ⟨rfl, rfl⟩)
  go_ret
  exact ⟨rfl, rfl⟩

set_option maxHeartbeats 400000 in
theorem size_any (w : World) (g h : Nat) (l : List UInt8) (m : Mem w g h l) :
    Calls Try.prog 55 #[.pointer (some ⟨g, 0, none⟩)] w fun e w' => e = .returned (.int .i64 l.length) ∧ w = w' := by
  have hb := m.bytes
  go_enter Try.func55, Try.ntmps55
  go_wp2_with (go_at_call 81; refine (none_no _ _ _ _ m).mono ?_; rintro e w' ⟨rfl, rfl⟩)
  go_ret
  exact ⟨rfl, rfl⟩

end Go.Proofs.Ytmlicejhkdkhnaa
