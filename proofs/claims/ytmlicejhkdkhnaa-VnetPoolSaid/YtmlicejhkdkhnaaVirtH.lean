/-
  The contracts of package virtq's New, Open and Reset. Conditions: the memory is one that New made, of at most 65536 bytes, or none.
-/
import Derived.Test.YtmlicejhkdkhnaaVirtG
namespace Go.Proofs.Ytmlicejhkdkhnaa
open Go.RowKit Go.Sort

/-- The bytes behind New and Reset. -/
def wipeL (l : List UInt8) (base n : Int) : List UInt8 := writeL l base (List.replicate (bytesOf n).toNat 0)
theorem wipeL_length (l : List UInt8) (base n : Int) : (wipeL l base n).length = l.length := writeL_length _ _ _

theorem eight_block {w : World} {g : Nat} {t : TypeId} {m : Nat × Nat} {y0 y1 y2 y3 y4 y5 y6 y7 : Value} (h : w.heap[g]? = some (.cells #[y0, y1, y2, y3, y4, y5, y6, y7] t m)) (x0 x1 x2 x3 x4 x5 x6 x7 : Value) :
    ((((((((w.setCell ⟨g, 0, none⟩ x0).setCell ⟨g, 1, none⟩ x1).setCell ⟨g, 2, none⟩ x2).setCell ⟨g, 3, none⟩ x3).setCell ⟨g, 4, none⟩ x4).setCell ⟨g, 5, none⟩ x5).setCell ⟨g, 6, none⟩ x6).setCell ⟨g, 7, none⟩ x7).heap[g]? = some (.cells #[x0, x1, x2, x3, x4, x5, x6, x7] t m) := by
  have h0 : (w.setCell ⟨g, 0, none⟩ x0).heap[g]? = some (.cells #[x0, y1, y2, y3, y4, y5, y6, y7] t m) := set_block h 0 x0
  have h1 : ((w.setCell ⟨g, 0, none⟩ x0).setCell ⟨g, 1, none⟩ x1).heap[g]? = some (.cells #[x0, x1, y2, y3, y4, y5, y6, y7] t m) := set_block h0 1 x1
  have h2 : (((w.setCell ⟨g, 0, none⟩ x0).setCell ⟨g, 1, none⟩ x1).setCell ⟨g, 2, none⟩ x2).heap[g]? = some (.cells #[x0, x1, x2, y3, y4, y5, y6, y7] t m) := set_block h1 2 x2
  have h3 : ((((w.setCell ⟨g, 0, none⟩ x0).setCell ⟨g, 1, none⟩ x1).setCell ⟨g, 2, none⟩ x2).setCell ⟨g, 3, none⟩ x3).heap[g]? = some (.cells #[x0, x1, x2, x3, y4, y5, y6, y7] t m) := set_block h2 3 x3
  have h4 : (((((w.setCell ⟨g, 0, none⟩ x0).setCell ⟨g, 1, none⟩ x1).setCell ⟨g, 2, none⟩ x2).setCell ⟨g, 3, none⟩ x3).setCell ⟨g, 4, none⟩ x4).heap[g]? = some (.cells #[x0, x1, x2, x3, x4, y5, y6, y7] t m) := set_block h3 4 x4
  have h5 : ((((((w.setCell ⟨g, 0, none⟩ x0).setCell ⟨g, 1, none⟩ x1).setCell ⟨g, 2, none⟩ x2).setCell ⟨g, 3, none⟩ x3).setCell ⟨g, 4, none⟩ x4).setCell ⟨g, 5, none⟩ x5).heap[g]? = some (.cells #[x0, x1, x2, x3, x4, x5, y6, y7] t m) := set_block h4 5 x5
  have h6 : (((((((w.setCell ⟨g, 0, none⟩ x0).setCell ⟨g, 1, none⟩ x1).setCell ⟨g, 2, none⟩ x2).setCell ⟨g, 3, none⟩ x3).setCell ⟨g, 4, none⟩ x4).setCell ⟨g, 5, none⟩ x5).setCell ⟨g, 6, none⟩ x6).heap[g]? = some (.cells #[x0, x1, x2, x3, x4, x5, x6, y7] t m) := set_block h5 6 x6
  have h7 : ((((((((w.setCell ⟨g, 0, none⟩ x0).setCell ⟨g, 1, none⟩ x1).setCell ⟨g, 2, none⟩ x2).setCell ⟨g, 3, none⟩ x3).setCell ⟨g, 4, none⟩ x4).setCell ⟨g, 5, none⟩ x5).setCell ⟨g, 6, none⟩ x6).setCell ⟨g, 7, none⟩ x7).heap[g]? = some (.cells #[x0, x1, x2, x3, x4, x5, x6, x7] t m) := set_block h6 7 x7
  exact h7
theorem eight_grown (w : World) (g : Nat) (x0 x1 x2 x3 x4 x5 x6 x7 : Value) :
    w.grownBy ((((((((w.setCell ⟨g, 0, none⟩ x0).setCell ⟨g, 1, none⟩ x1).setCell ⟨g, 2, none⟩ x2).setCell ⟨g, 3, none⟩ x3).setCell ⟨g, 4, none⟩ x4).setCell ⟨g, 5, none⟩ x5).setCell ⟨g, 6, none⟩ x6).setCell ⟨g, 7, none⟩ x7) (some g) :=
  (((((((grown_setCell w g 0 x0).trans (grown_setCell _ g 1 x1)).trans (grown_setCell _ g 2 x2)).trans (grown_setCell _ g 3 x3)).trans (grown_setCell _ g 4 x4)).trans (grown_setCell _ g 5 x5)).trans (grown_setCell _ g 6 x6)).trans (grown_setCell _ g 7 x7)

set_option maxRecDepth 100000 in
set_option maxHeartbeats 1000000 in
theorem Reset_any (w : World) (q g h : Nat) (l : List UInt8) (m : Mem w g h l) (base n : Int) (mp : Option Nat) (off back : Int) (broken : Bool) (hq : QAt w q g base n mp off back broken) (hl : l.length ≤ 65536) (hn : n ≤ 64) :
    Calls Try.prog 58 #[.pointer (some ⟨q, 0, none⟩)] w
      fun e w' => e = .returned (.tuple #[]) ∧ ∃ mb, w.heap.size ≤ mb ∧ QAt w' q g base n (some mb) 0 0 false ∧ IsTab w' mb [] ∧ Mem w' g h (wipeL l base n) ∧ Turned (fun k => k = h ∨ k = q) w w' := by
  have h7 := hq.c7
  have c0 := hq.c0
  have c1 := hq.c1
  have c2 := hq.c2
  have hqh : q ≠ h := by
    rintro rfl
    have h1 := m.2
    rw [hq] at h1
    injection h1 with h1
    injection h1 with _ h2
    exact absurd h2 (by decide)
  have hqg : g ≠ q := by
    rintro rfl
    have h1 := m.1
    rw [hq] at h1
    injection h1 with h1
    injection h1 with _ h2
    exact absurd h2 (by decide)
  have hlt := lt_of_block hq
  have H := Lib.hid hq
  clear hq
  go_enter Try.func58, Try.ntmps58
  go_wp2_with (go_at_call 87; refine (qnone_no _ _ h7).mono ?_; rintro e w' ⟨rfl, rfl⟩)
  refine (wipe_any _ g h l m base n hl hn).mono ?_
  rintro e w1 ⟨rfl, m1, k1⟩
  have q1 : QAt w1 q g base n mp off back broken := H.out.kept (k1.block _ hlt (fun e => hqh (by injection e)))
  have t1 : Turned (fun k => k = h ∨ k = q) w w1 := Turned.of k1 (fun j e => .inl (by injection e with e; exact e.symm))
  clear c0 c1 c2 h7 k1
  have hmm := @run_makeMap Try.prog
  have c0 := q1.c0
  have c1 := q1.c1
  have c2 := q1.c2
  have c3 := q1.c3
  have c4 := q1.c4
  have c5 := q1.c5
  have c6 := q1.c6
  have c7 := q1.c7
  have fz := q1.fz
  have f0 := fz 0
  have f1 := fz 1
  have f2 := fz 2
  have f3 := fz 3
  have f4 := fz 4
  have f5 := fz 5
  have f6 := fz 6
  have f7 := fz 7
  clear fz f0 f1 f2 f3 f4 f5 f6 f7
  have q2 : QAt (w1.alloc (.map #[] 0)) q g base n mp off back broken := q1.kept (Below.heap_alloc _ _ _ (lt_of_block q1))
  have d0 := q2.c0
  have d1 := q2.c1
  have d2 := q2.c2
  have d3 := q2.c3
  have d4 := q2.c4
  have d5 := q2.c5
  have d6 := q2.c6
  have d7 := q2.c7
  have fz := q2.fz
  have f0 := fz 0
  have f1 := fz 1
  have f2 := fz 2
  have f3 := fz 3
  have f4 := fz 4
  have f5 := fz 5
  have f6 := fz 6
  have f7 := fz 7
  clear fz
  have Q2 := Lib.hid q2
  have tb := tab_made w1
  have sz := t1.size
  clear q1 q2
  go_wp2_with fail
  go_end0
  have kb := eight_grown (w1.alloc (.map #[] 0)) q (.pointer (some ⟨g, 0, none⟩)) (.int .i64 base) (.int .i64 n) (.map (some w1.heap.size)) (.int .u16 0) (.int .u16 0) (.bool false) (.pointer (some ⟨q, 0, none⟩))
  have ta := t1.step (World.grownBy_alloc w1 (.map #[] 0) none) (fun j e => by cases e)
  have hs1 : q < w1.heap.size := by have := t1.size; omega
  refine ⟨rfl, w1.heap.size, sz, eight_block Q2.out _ _ _ _ _ _ _ _, tb.kept (kb.block _ tb.lt (fun e => by injection e with e; omega)), ?_, ta.step kb (fun j e => .inl (.inr (by injection e with e; exact e.symm)))⟩
  exact (m1.alloc _).kept kb (fun e => hqg (by injection e)) (fun e => hqh (by injection e with e; exact e.symm))

/-- The cells of a queue that nobody made. -/
def bareQ : Array Value := #[.pointer none, .int .i64 0, .int .i64 0, .map none, .int .u16 0, .int .u16 0, .bool false, .pointer none]

set_option maxRecDepth 100000 in
set_option maxHeartbeats 1000000 in
theorem New_none (w : World) (p : Option Addr) (hp : IsNone w p) (base n : Int) :
    Calls Try.prog 32 #[.pointer p, .int .i64 base, .int .i64 n] w fun e w' => e = .returned (.tuple #[.pointer none, .int .i64 2]) ∧ w.grownBy w' none := by
  go_enter Try.func32, Try.ntmps32
  go_wp2_with fail
  refine (find_none w p hp base n).mono ?_
  rintro e w1 ⟨rfl, k1⟩
  go_wp2_with fail
  go_ret2
  exact ⟨rfl, k1.trans (World.grownBy_alloc _ _ _)⟩

set_option maxRecDepth 100000 in
set_option maxHeartbeats 1000000 in
theorem Open_none (w : World) (p : Option Addr) (hp : IsNone w p) (base n : Int) :
    Calls Try.prog 35 #[.pointer p, .int .i64 base, .int .i64 n] w fun e w' => e = .returned (.tuple #[.pointer none, .int .i64 2]) ∧ w.grownBy w' none := by
  go_enter Try.func35, Try.ntmps35
  go_wp2_with fail
  refine (find_none w p hp base n).mono ?_
  rintro e w1 ⟨rfl, k1⟩
  go_wp2_with fail
  go_ret2
  exact ⟨rfl, k1.trans (World.grownBy_alloc _ _ _)⟩

section
variable (w : World) (g h : Nat) (l : List UInt8) (m : Mem w g h l) (base n : Int) (hl0 : 1 ≤ l.length) (hl : l.length ≤ 65536) (hn : n ≤ 9223372036854775807) (hbs : base ≤ 9223372036854775807)
include m hl0 hl hn hbs

set_option maxRecDepth 100000 in
set_option maxHeartbeats 1000000 in
theorem vNew_err (E : Int) (hE : barOf l.length base n = E) (hz : (E == 0) = false) :
    Calls Try.prog 32 #[.pointer (some ⟨g, 0, none⟩), .int .i64 base, .int .i64 n] w fun e w' => e = .returned (.tuple #[.pointer none, .int .i64 E]) ∧ w.grownBy w' none := by
  have FC := find_any w g h l m base n hl0 hl hn hbs
  have hv : foundV g base n E = .agg #[.pointer none, .int .i64 0, .int .i64 0] := by unfold foundV; rw [if_neg (by simpa using hz)]
  rw [hE, hv] at FC
  have FC' := Lib.hid FC
  clear FC hv hE
  go_enter Try.func32, Try.ntmps32
  go_wp2_with fail
  refine FC'.out.mono ?_
  rintro e w1 ⟨rfl, k1⟩
  go_wp2_with fail
  go_ret2
  exact ⟨rfl, k1.trans (World.grownBy_alloc _ _ _)⟩

set_option maxRecDepth 100000 in
set_option maxHeartbeats 1000000 in
theorem Open_err (E : Int) (hE : barOf l.length base n = E) (hz : (E == 0) = false) :
    Calls Try.prog 35 #[.pointer (some ⟨g, 0, none⟩), .int .i64 base, .int .i64 n] w fun e w' => e = .returned (.tuple #[.pointer none, .int .i64 E]) ∧ w.grownBy w' none := by
  have FC := find_any w g h l m base n hl0 hl hn hbs
  have hv : foundV g base n E = .agg #[.pointer none, .int .i64 0, .int .i64 0] := by unfold foundV; rw [if_neg (by simpa using hz)]
  rw [hE, hv] at FC
  have FC' := Lib.hid FC
  clear FC hv hE
  go_enter Try.func35, Try.ntmps35
  go_wp2_with fail
  refine FC'.out.mono ?_
  rintro e w1 ⟨rfl, k1⟩
  go_wp2_with fail
  go_ret2
  exact ⟨rfl, k1.trans (World.grownBy_alloc _ _ _)⟩

set_option maxRecDepth 100000 in
set_option maxHeartbeats 1000000 in
theorem Open_ok (hE : barOf l.length base n = 0) :
    Calls Try.prog 35 #[.pointer (some ⟨g, 0, none⟩), .int .i64 base, .int .i64 n] w
      fun e w' => ∃ p, e = .returned (.tuple #[.pointer (some ⟨p, 0, none⟩), .int .i64 0]) ∧ w.heap.size ≤ p ∧ PAt w' p g base n 0 0 ∧ w.grownBy w' none := by
  have FC := find_any w g h l m base n hl0 hl hn hbs
  rw [hE, show foundV g base n 0 = .agg #[.pointer (some ⟨g, 0, none⟩), .int .i64 base, .int .i64 n] from rfl] at FC
  have FC' := Lib.hid FC
  clear FC hE
  go_enter Try.func35, Try.ntmps35
  go_wp2_with fail
  refine FC'.out.mono ?_
  rintro e w1 ⟨rfl, k1⟩
  go_wp2_with fail
  go_ret2
  exact ⟨w1.heap.size + 1, rfl, by have := k1.size; omega, alloc_two _ _ _, (k1.trans (World.grownBy_alloc _ _ _)).trans (World.grownBy_alloc _ _ _)⟩

set_option maxRecDepth 100000 in
set_option maxHeartbeats 1000000 in
theorem vNew_ok (hE : barOf l.length base n = 0) :
    Calls Try.prog 32 #[.pointer (some ⟨g, 0, none⟩), .int .i64 base, .int .i64 n] w
      fun e w' => ∃ q mb, e = .returned (.tuple #[.pointer (some ⟨q, 0, none⟩), .int .i64 0]) ∧ w.heap.size ≤ q ∧ w.heap.size ≤ mb ∧ QAt w' q g base n (some mb) 0 0 false ∧ IsTab w' mb [] ∧ Mem w' g h (wipeL l base n) ∧ Turned (fun k => k = h) w w' := by
  have FC := find_any w g h l m base n hl0 hl hn hbs
  have hn64 : n ≤ 64 := by
    rcases barOf_cases l.length base n with ⟨_, e⟩ | ⟨_, _, _, _, e⟩ | ⟨h1, _⟩
    · rw [hE] at e; exact absurd e (by decide)
    · rw [hE] at e; exact absurd e (by decide)
    · exact h1.range.2
  rw [hE, show foundV g base n 0 = .agg #[.pointer (some ⟨g, 0, none⟩), .int .i64 base, .int .i64 n] from rfl] at FC
  have FC' := Lib.hid FC
  clear FC hE
  go_enter Try.func32, Try.ntmps32
  go_wp2_with fail
  refine FC'.out.mono ?_
  rintro e w1 ⟨rfl, k1⟩
  have m1 := m.same k1
  have kz := k1.size
  have k2 := (k1.trans (World.grownBy_alloc w1 (.cells #[.pointer (some ⟨g, 0, none⟩), .int .i64 base, .int .i64 n] 107) none)).trans (World.grownBy_alloc _ (.cells #[.pointer (some ⟨g, 0, none⟩), .int .i64 base, .int .i64 n, .map none, .int .u16 0, .int .u16 0, .bool false, .pointer (some ⟨w1.heap.size + 1, 0, none⟩)] 112) none)
  have m2 := (m1.alloc (.cells #[.pointer (some ⟨g, 0, none⟩), .int .i64 base, .int .i64 n] 107)).alloc (.cells #[.pointer (some ⟨g, 0, none⟩), .int .i64 base, .int .i64 n, .map none, .int .u16 0, .int .u16 0, .bool false, .pointer (some ⟨w1.heap.size + 1, 0, none⟩)] 112)
  have q2 : QAt ((w1.alloc (.cells #[.pointer (some ⟨g, 0, none⟩), .int .i64 base, .int .i64 n] 107)).alloc (.cells #[.pointer (some ⟨g, 0, none⟩), .int .i64 base, .int .i64 n, .map none, .int .u16 0, .int .u16 0, .bool false, .pointer (some ⟨w1.heap.size + 1, 0, none⟩)] 112)) (w1.heap.size + 1) g base n none 0 0 false := alloc_two _ _ _
  have Q2 := Lib.hid q2
  clear q2
  go_wp2_with fail
  refine (Reset_any _ _ g h l m2 base n none 0 0 false Q2.out hl hn64).mono ?_
  rintro e w2 ⟨rfl, mb, s1, s2, s3, s4, s5⟩
  have s1' : w.heap.size ≤ mb := by have := k2.size; omega
  have s5' : Turned (fun k => k = h) w w2 := (Turned.of k2 (fun j e => by cases e)).then s5 (fun j hj => by
    rcases hj with rfl | rfl
    · exact .inl rfl
    · exact .inr (by omega))
  clear s1 s5
  go_wp2_with fail
  go_ret2
  exact ⟨w1.heap.size + 1, mb, rfl, by omega, s1', s2, s3, s4, s5'⟩
end

end Go.Proofs.Ytmlicejhkdkhnaa
