/-
  The contracts of the document's own answers for layer 2, the plain ones: sizes of queues, what bars one, a number in a memory's bytes and of them. Condition: the bytes are at most 5000.
-/
import Derived.Test.YtjelgifijhcnnaaRefMem
namespace Go.Proofs.Ytjelgifijhcnnaa
open Go.RowKit Go.Sort

/-- Bounds of a block that was laid behind another one. -/
theorem alloc_two (w : World) (a b : Obj) : ((w.alloc a).alloc b).heap[w.heap.size + 1]? = some b := by
  have e1 : (w.alloc a).heap.size = w.heap.size + 1 := by simp
  have h := heap_alloc_new (w.alloc a) b
  rw [e1] at h
  exact h

/-- A queue may have so many entries. -/
def isSize (n : Int) : Prop := n = 1 ∨ n = 2 ∨ n = 4 ∨ n = 8 ∨ n = 16 ∨ n = 32 ∨ n = 64
instance (n : Int) : Decidable (isSize n) := by unfold isSize; infer_instance
/-- Where the used ring begins. -/
def usedAt (n : Int) : Int := (18 * n + 7) / 4 * 4
/-- How many bytes a queue has. -/
def bytesOf (n : Int) : Int := if isSize n then usedAt n + 4 + 8 * n else 0
/-- What bars a queue. -/
def barOf (size base n : Int) : Int := if ¬ isSize n ∨ base < 0 ∨ base % 16 ≠ 0 then 1 else if size < base ∨ size - base < bytesOf n then 13 else 0

theorem isSize.range {n : Int} (h : isSize n) : 1 ≤ n ∧ n ≤ 64 := by unfold isSize at h; omega
theorem usedAt_bd {n : Int} (h1 : 1 ≤ n) (h2 : n ≤ 64) : 0 ≤ usedAt n ∧ usedAt n ≤ 1200 := by unfold usedAt; omega
theorem bytesOf_bd (n : Int) : 0 ≤ bytesOf n ∧ bytesOf n ≤ 2000 := by
  unfold bytesOf
  split
  · rename_i h
    have := h.range
    have := usedAt_bd this.1 this.2
    omega
  · omega

set_option maxHeartbeats 400000 in
theorem sized_yes (n : Int) (w : World) (h : isSize n) :
    Calls Try.prog 37 #[.int .i64 n] w fun e w' => e = .returned (.bool true) ∧ w = w' := by
  rcases h with rfl | rfl | rfl | rfl | rfl | rfl | rfl
  all_goals
    go_enter Try.func37, Try.ntmps37
    go_wp2
    go_ret
    exact ⟨rfl, rfl⟩

set_option maxHeartbeats 400000 in
theorem sized_no (n : Int) (w : World) (h : ¬ isSize n) :
    Calls Try.prog 37 #[.int .i64 n] w fun e w' => e = .returned (.bool false) ∧ w = w' := by
  unfold isSize at h
  have h1 : (n == 1) = false := beq_eq_false_iff_ne.2 (by omega)
  have h2 : (n == 2) = false := beq_eq_false_iff_ne.2 (by omega)
  have h4 : (n == 4) = false := beq_eq_false_iff_ne.2 (by omega)
  have h8 : (n == 8) = false := beq_eq_false_iff_ne.2 (by omega)
  have h16 : (n == 16) = false := beq_eq_false_iff_ne.2 (by omega)
  have h32 : (n == 32) = false := beq_eq_false_iff_ne.2 (by omega)
  have h64 : (n == 64) = false := beq_eq_false_iff_ne.2 (by omega)
  clear h
  go_enter Try.func37, Try.ntmps37
  go_wp2
  go_ret
  exact ⟨rfl, rfl⟩

set_option maxHeartbeats 400000 in
theorem used_any (n : Int) (w : World) (h1 : 1 ≤ n) (h2 : n ≤ 64) :
    Calls Try.prog 70 #[.int .i64 n] w fun e w' => e = .returned (.int .i64 (usedAt n)) ∧ w = w' := by
  go_enter Try.func70, Try.ntmps70
  go_wp2
  go_loop [3] (fun a => ∃ v : Int, 18 * n + 4 ≤ v ∧ v ≤ (18 * n + 7) / 4 * 4 ∧ a = .int .i64 v) (fun a => (18 * n + 10 - intOf a).toNat)
  case atStart => exact ⟨18 * n + 4, by omega, by omega, by congr 1; omega⟩
  case round =>
    obtain ⟨v, hv1, hv2, rfl⟩ := hrel
    by_cases hz : v % 4 = 0
    · have hb : (v % 4 == 0) = true := beq_iff_eq.2 hz
      have hq : usedAt n = v := by unfold usedAt; omega
      have HQ := Lib.hid hq
      clear hq hz
      go_wp2
      go_ret
      exact ⟨by rw [HQ.out]; rfl, rfl⟩
    · have hb : (v % 4 == 0) = false := beq_eq_false_iff_ne.2 hz
      go_wp2
      go_round
      case rel => exact ⟨v + 1, by omega, by omega, rfl⟩
      case measure => simp [intOf]; omega

set_option maxHeartbeats 400000 in
theorem bytes_any (n : Int) (w : World) :
    Calls Try.prog 38 #[.int .i64 n] w fun e w' => e = .returned (.int .i64 (bytesOf n)) ∧ w = w' := by
  unfold bytesOf
  by_cases h : isSize n
  · rw [if_pos h]
    have hr := h.range
    have hu := usedAt_bd hr.1 hr.2
    obtain ⟨hr1, hr2⟩ := hr
    obtain ⟨hu1, hu2⟩ := hu
    go_enter Try.func38, Try.ntmps38
    go_wp2_with (first | (go_at_call 37; refine (sized_yes _ _ h).mono ?_; rintro e w' ⟨rfl, rfl⟩) | (go_at_call 70; refine (used_any _ _ hr1 hr2).mono ?_; rintro e w' ⟨rfl, rfl⟩))
    go_ret
    exact ⟨rfl, rfl⟩
  · rw [if_neg h]
    go_enter Try.func38, Try.ntmps38
    go_wp2_with (go_at_call 37; refine (sized_no _ _ h).mono ?_; rintro e w' ⟨rfl, rfl⟩)
    go_ret
    exact ⟨rfl, rfl⟩

set_option maxHeartbeats 400000 in
theorem at_any (size base n : Int) (w : World) (h0 : 0 ≤ size) (h1 : size ≤ 9223372036854775807) :
    Calls Try.prog 15 #[.int .i64 size, .int .i64 base, .int .i64 n] w fun e w' => e = .returned (.int .i64 (barOf size base n)) ∧ w = w' := by
  unfold barOf
  by_cases hs : isSize n
  · by_cases hb : base < 0
    · rw [if_pos (.inr (.inl hb))]
      go_enter Try.func15, Try.ntmps15
      go_wp2_with (go_at_call 37; refine (sized_yes _ _ hs).mono ?_; rintro e w' ⟨rfl, rfl⟩)
      go_ret
      exact ⟨rfl, rfl⟩
    · have hb' : 0 ≤ base := by omega
      have hb2 : decide (base < 0) = false := decide_eq_false hb
      by_cases hm : base % 16 = 0
      · rw [if_neg (by intro h; rcases h with h | h | h; exact h hs; omega; omega)]
        have hm' : (base % 16 == 0) = true := beq_iff_eq.2 hm
        by_cases hl : size < base
        · rw [if_pos (.inl hl)]
          clear hm hb
          go_enter Try.func15, Try.ntmps15
          go_wp2_with (go_at_call 37; refine (sized_yes _ _ hs).mono ?_; rintro e w' ⟨rfl, rfl⟩)
          go_ret
          exact ⟨rfl, rfl⟩
        · have hl' : decide (size < base) = false := decide_eq_false hl
          have hbd := bytesOf_bd n
          obtain ⟨B, hB⟩ : ∃ B, B = bytesOf n := ⟨_, rfl⟩
          rw [← hB] at hbd ⊢
          have BC := fun w => bytes_any n w
          rw [← hB] at BC
          have BC' := Lib.hid BC
          obtain ⟨hB1, hB2⟩ := hbd
          by_cases hk : size - base < B
          · rw [if_pos (.inr hk)]
            have hk' : decide (size - base < B) = true := decide_eq_true hk
            clear hm hb hB BC
            go_enter Try.func15, Try.ntmps15
            go_wp2_with (first | (go_at_call 37; refine (sized_yes _ _ hs).mono ?_; rintro e w' ⟨rfl, rfl⟩) | (go_at_call 38; refine (BC'.out _).mono ?_; rintro e w' ⟨rfl, rfl⟩))
            go_ret
            exact ⟨rfl, rfl⟩
          · rw [if_neg (by omega)]
            have hk' : decide (size - base < B) = false := decide_eq_false hk
            clear hm hb hB BC
            go_enter Try.func15, Try.ntmps15
            go_wp2_with (first | (go_at_call 37; refine (sized_yes _ _ hs).mono ?_; rintro e w' ⟨rfl, rfl⟩) | (go_at_call 38; refine (BC'.out _).mono ?_; rintro e w' ⟨rfl, rfl⟩))
            go_ret
            exact ⟨rfl, rfl⟩
      · rw [if_pos (.inr (.inr hm))]
        have hm' : (base % 16 == 0) = false := beq_eq_false_iff_ne.2 hm
        clear hm hb
        go_enter Try.func15, Try.ntmps15
        go_wp2_with (go_at_call 37; refine (sized_yes _ _ hs).mono ?_; rintro e w' ⟨rfl, rfl⟩)
        go_ret
        exact ⟨rfl, rfl⟩
  · rw [if_pos (.inl hs)]
    go_enter Try.func15, Try.ntmps15
    go_wp2_with (go_at_call 37; refine (sized_no _ _ hs).mono ?_; rintro e w' ⟨rfl, rfl⟩)
    go_ret
    exact ⟨rfl, rfl⟩

set_option maxHeartbeats 400000 in
theorem rput_any (w : World) (l : List UInt8) (a n x : Int) (hl : l.length ≤ 5000) (hx : 0 ≤ x) (hx2 : x < 9223372036854775807) :
    Calls Try.prog 72 #[.string ⟨l.toArray⟩, .int .i64 a, .int .i64 n, .int .i64 x] w
      fun e w' => e = .returned (.string ⟨(putL l a n x).toArray⟩) ∧ w.grownBy w' none := by
  have X2 : Hid (x < 18446744073709551616) := Lib.hid (by omega)
  have hw : IntKind.u64.wrap x = x := IntWalk.u64_in _ (by omega)
  go_enter Try.func72, Try.ntmps72
  go_wp2_with fail
  refine (refPut_all w l a n x hl hx X2).mono ?_
  rintro e w1 ⟨rfl, k1⟩
  go_wp2_with fail
  go_ret
  exact ⟨rfl, k1⟩

set_option maxHeartbeats 400000 in
theorem rget_any (w : World) (l : List UInt8) (a n : Int) (hl : l.length ≤ 9223372036854775807) :
    Calls Try.prog 73 #[.string ⟨l.toArray⟩, .int .i64 a, .int .i64 n] w
      fun e w' => e = .returned (.int .i64 (wrap64 (getX l a n : Int))) ∧ w = w' := by
  obtain ⟨X, hX⟩ : ∃ X : Int, X = (getX l a n : Int) := ⟨_, rfl⟩
  have RC := fun w => refGet_all w l a n hl
  rw [← hX] at RC ⊢
  have RC' := Lib.hid RC
  clear RC hX
  go_enter Try.func73, Try.ntmps73
  go_wp2_with fail
  refine (RC'.out w).mono ?_
  rintro e w1 ⟨rfl, rfl⟩
  go_wp2_with fail
  go_ret
  exact ⟨rfl, rfl⟩

theorem set_block {w : World} {g : Nat} {cs : Array Value} {t : TypeId} {m : Nat × Nat} (h : w.heap[g]? = some (.cells cs t m)) (i : Nat) (v : Value) : (w.setCell ⟨g, i, none⟩ v).heap[g]? = some (.cells (cs.setIfInBounds i v) t m) := by
  simp [World.setCell, Array.getElem?_modify, h]
theorem frozen_of_block {w : World} {g i : Nat} {cs : Array Value} {t : TypeId} (h : w.heap[g]? = some (.cells cs t (0, 0))) : w.frozen? ⟨g, i, none⟩ = false := by
  simp [World.frozen?, h]

end Go.Proofs.Ytjelgifijhcnnaa
