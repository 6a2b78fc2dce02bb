/-
  The contracts of package virtq: an area found, all its bytes wiped. Conditions: the memory is one that New made, of at most 65536 bytes, or none.
-/
import Derived.Test.YtmlicejhkdkhnaaVirtC
import Derived.Test.YtmlicejhkdkhnaaVirtD
namespace Go.Proofs.Ytmlicejhkdkhnaa
open Go.RowKit Go.Sort

/-- What find answers: the area as a value. -/
def foundV (g : Nat) (base n E : Int) : Value := if E = 0 then .agg #[.pointer (some ⟨g, 0, none⟩), .int .i64 base, .int .i64 n] else .agg #[.pointer none, .int .i64 0, .int .i64 0]

theorem barOf_cases (size base n : Int) : ((¬ isSize n ∨ base < 0 ∨ base % 16 ≠ 0) ∧ barOf size base n = 1) ∨
    (isSize n ∧ 0 ≤ base ∧ base % 16 = 0 ∧ ¬ (base ≤ size - bytesOf n) ∧ barOf size base n = 13) ∨ (isSize n ∧ 0 ≤ base ∧ base % 16 = 0 ∧ base ≤ size - bytesOf n ∧ barOf size base n = 0) := by
  have hb := bytesOf_bd n
  unfold barOf
  by_cases h1 : ¬ isSize n ∨ base < 0 ∨ base % 16 ≠ 0
  · exact .inl ⟨h1, if_pos h1⟩
  · rw [if_neg h1]
    have hs : isSize n := Classical.byContradiction fun h => h1 (.inl h)
    have hs0 : 0 ≤ base := by by_cases h : base < 0; exact absurd (.inr (.inl h)) h1; omega
    have hs1 : base % 16 = 0 := Classical.byContradiction fun h => h1 (.inr (.inr h))
    by_cases h2 : size < base ∨ size - base < bytesOf n
    · exact .inr (.inl ⟨hs, hs0, hs1, by omega, if_pos h2⟩)
    · exact .inr (.inr ⟨hs, hs0, hs1, by omega, if_neg h2⟩)

set_option maxRecDepth 100000 in
set_option maxHeartbeats 1000000 in
theorem find_none (w : World) (p : Option Addr) (hp : IsNone w p) (base n : Int) :
    Calls Try.prog 57 #[.pointer p, .int .i64 base, .int .i64 n] w fun e w' => e = .returned (.tuple #[.agg #[.pointer none, .int .i64 0, .int .i64 0], .int .i64 2]) ∧ w.grownBy w' none := by
  have hp' : IsNone (w.alloc (.cells #[.pointer none, .int .i64 0, .int .i64 0] 107)) p := by
    rcases hp with rfl | ⟨g, rfl, hc⟩
    · exact .inl rfl
    · exact .inr ⟨g, rfl, by rw [World.cell?_alloc_lt _ _ _ (World.block_lt_of_cell? w _ hc)]; exact hc⟩
  go_enter Try.func57, Try.ntmps57
  go_wp2_with fail
  refine (size_none _ _ hp').mono ?_
  rintro e w1 ⟨rfl, rfl⟩
  go_wp2_with fail
  exact bodyPost_ret (v := .tuple #[.agg #[.pointer none, .int .i64 0, .int .i64 0], .int .i64 2]) (by simp [results, Try.results57, go_sem]) rfl ⟨rfl, World.grownBy_alloc _ _ _⟩

set_option maxRecDepth 100000 in
set_option maxHeartbeats 1000000 in
theorem find_any (w : World) (g h : Nat) (l : List UInt8) (m : Mem w g h l) (base n : Int) (hl0 : 1 ≤ l.length) (hl : l.length ≤ 65536) (hn : n ≤ 9223372036854775807) (hbs : base ≤ 9223372036854775807) :
    Calls Try.prog 57 #[.pointer (some ⟨g, 0, none⟩), .int .i64 base, .int .i64 n] w
      fun e w' => e = .returned (.tuple #[foundV g base n (barOf l.length base n), .int .i64 (barOf l.length base n)]) ∧ w.grownBy w' none := by
  have m1 := m.alloc (.cells #[.pointer none, .int .i64 0, .int .i64 0] 107)
  have hb := bytesOf_bd n
  obtain ⟨hb0, hb1⟩ := hb
  have IC := fun w => vinside_any l base (bytesOf n) w (by omega) hb0 (by omega)
  have MC := fun w => vmayHave_any n w hn
  have BC := fun w => vbytes_any n w hn
  have SC := fun w m => size_any w g h l m
  rcases barOf_cases l.length base n with ⟨h1, e1⟩ | ⟨h1, h2, h3, h4, e1⟩ | ⟨h1, h2, h3, h4, e1⟩
  · rw [e1, show foundV g base n 1 = .agg #[.pointer none, .int .i64 0, .int .i64 0] from rfl]
    clear e1
    obtain ⟨N, hN⟩ : ∃ N : Int, N = l.length := ⟨_, rfl⟩
    rw [← hN] at SC
    have N1 : (N == 0) = false := beq_eq_false_iff_ne.2 (by omega)
    have SC' := Lib.hid SC
    clear SC IC BC hN
    by_cases hs : isSize n
    · rw [decide_eq_true hs] at MC
      have MC' := Lib.hid MC
      clear MC
      by_cases hn0 : base < 0
      · clear h1
        go_enter Try.func57, Try.ntmps57
        go_wp2_with fail
        refine (SC'.out _ m1).mono ?_
        rintro e w1 ⟨rfl, rfl⟩
        go_wp2_with fail
        refine (MC'.out _).mono ?_
        rintro e w1 ⟨rfl, rfl⟩
        go_wp2_with fail
        exact bodyPost_ret (v := .tuple #[.agg #[.pointer none, .int .i64 0, .int .i64 0], .int .i64 1]) (by simp [results, Try.results57, go_sem]) rfl ⟨rfl, World.grownBy_alloc _ _ _⟩
      · have h2 : 0 ≤ base := by omega
        have h3 : (base % 16 == 0) = false := beq_eq_false_iff_ne.2 (by rcases h1 with h | h | h; exact absurd hs h; omega; exact h)
        have h4 : decide (base < 0) = false := decide_eq_false hn0
        clear h1 hn0
        go_enter Try.func57, Try.ntmps57
        go_wp2_with fail
        refine (SC'.out _ m1).mono ?_
        rintro e w1 ⟨rfl, rfl⟩
        go_wp2_with fail
        refine (MC'.out _).mono ?_
        rintro e w1 ⟨rfl, rfl⟩
        go_wp2_with fail
        exact bodyPost_ret (v := .tuple #[.agg #[.pointer none, .int .i64 0, .int .i64 0], .int .i64 1]) (by simp [results, Try.results57, go_sem]) rfl ⟨rfl, World.grownBy_alloc _ _ _⟩
    · rw [decide_eq_false hs] at MC
      have MC' := Lib.hid MC
      clear MC h1
      go_enter Try.func57, Try.ntmps57
      go_wp2_with fail
      refine (SC'.out _ m1).mono ?_
      rintro e w1 ⟨rfl, rfl⟩
      go_wp2_with fail
      refine (MC'.out _).mono ?_
      rintro e w1 ⟨rfl, rfl⟩
      go_wp2_with fail
      exact bodyPost_ret (v := .tuple #[.agg #[.pointer none, .int .i64 0, .int .i64 0], .int .i64 1]) (by simp [results, Try.results57, go_sem]) rfl ⟨rfl, World.grownBy_alloc _ _ _⟩
  all_goals
    have hi := textE_in l base (bytesOf n) hb0
    rw [decide_eq_true h2, Bool.true_and] at hi
    rw [decide_eq_true h1] at MC
    have h3' : (base % 16 == 0) = true := beq_iff_eq.2 h3
    have h5 : decide (base < 0) = false := decide_eq_false (by omega)
  · rw [decide_eq_false h4] at hi
    rw [e1, show foundV g base n 13 = .agg #[.pointer none, .int .i64 0, .int .i64 0] from rfl]
    rw [hi] at IC
    obtain ⟨N, hN⟩ : ∃ N : Int, N = l.length := ⟨_, rfl⟩
    rw [← hN] at SC IC
    have N1 : (N == 0) = false := beq_eq_false_iff_ne.2 (by omega)
    obtain ⟨B, hB⟩ : ∃ B : Int, B = bytesOf n := ⟨_, rfl⟩
    rw [← hB] at IC BC
    have SC' := Lib.hid SC
    have IC' := Lib.hid IC
    have BC' := Lib.hid BC
    have MC' := Lib.hid MC
    clear SC IC BC MC hN hB hi e1 h1 h3 h4
    go_enter Try.func57, Try.ntmps57
    go_wp2_with fail
    refine (SC'.out _ m1).mono ?_
    rintro e w1 ⟨rfl, rfl⟩
    go_wp2_with fail
    refine (MC'.out _).mono ?_
    rintro e w1 ⟨rfl, rfl⟩
    go_wp2_with fail
    refine (SC'.out _ m1).mono ?_
    rintro e w1 ⟨rfl, rfl⟩
    go_wp2_with fail
    refine (BC'.out _).mono ?_
    rintro e w1 ⟨rfl, rfl⟩
    go_wp2_with fail
    refine (IC'.out _).mono ?_
    rintro e w1 ⟨rfl, rfl⟩
    go_wp2_with fail
    exact bodyPost_ret (v := .tuple #[.agg #[.pointer none, .int .i64 0, .int .i64 0], .int .i64 13]) (by simp [results, Try.results57, go_sem]) rfl ⟨rfl, World.grownBy_alloc _ _ _⟩
  · rw [decide_eq_true h4] at hi
    rw [e1, show foundV g base n 0 = .agg #[.pointer (some ⟨g, 0, none⟩), .int .i64 base, .int .i64 n] from rfl]
    rw [hi] at IC
    obtain ⟨N, hN⟩ : ∃ N : Int, N = l.length := ⟨_, rfl⟩
    rw [← hN] at SC IC
    have N1 : (N == 0) = false := beq_eq_false_iff_ne.2 (by omega)
    obtain ⟨B, hB⟩ : ∃ B : Int, B = bytesOf n := ⟨_, rfl⟩
    rw [← hB] at IC BC
    have SC' := Lib.hid SC
    have IC' := Lib.hid IC
    have BC' := Lib.hid BC
    have MC' := Lib.hid MC
    clear SC IC BC MC hN hB hi e1 h1 h3 h4
    go_enter Try.func57, Try.ntmps57
    go_wp2_with fail
    refine (SC'.out _ m1).mono ?_
    rintro e w1 ⟨rfl, rfl⟩
    go_wp2_with fail
    refine (MC'.out _).mono ?_
    rintro e w1 ⟨rfl, rfl⟩
    go_wp2_with fail
    refine (SC'.out _ m1).mono ?_
    rintro e w1 ⟨rfl, rfl⟩
    go_wp2_with fail
    refine (BC'.out _).mono ?_
    rintro e w1 ⟨rfl, rfl⟩
    go_wp2_with fail
    refine (IC'.out _).mono ?_
    rintro e w1 ⟨rfl, rfl⟩
    go_wp2_with fail
    exact bodyPost_ret (v := .tuple #[.agg #[.pointer (some ⟨g, 0, none⟩), .int .i64 base, .int .i64 n], .int .i64 0]) (by simp [results, Try.results57, go_sem]) rfl ⟨rfl, World.grownBy_alloc _ _ _⟩

end Go.Proofs.Ytmlicejhkdkhnaa
