/-
  The contracts of package virtq's area (where a queue lies in a memory): numbers got and put, the places of entries, the indices. Conditions: the memory is one that New made and has at most 65536 bytes; the base is not below 0, nor above 65536; from 1 to 64 entries.
-/
import Derived.Test.YtmlicejhkdkhnaaVirtA
namespace Go.Proofs.Ytmlicejhkdkhnaa
open Go.RowKit Go.Sort

/-- An area as a value. -/
def areaV (g : Nat) (base n : Int) : Value := .agg #[.pointer (some ⟨g, 0, none⟩), .int .i64 base, .int .i64 n]

theorem Mem.drew {w : World} {g h : Nat} {l : List UInt8} (m : Mem w g h l) : Mem w.drew g h l := m
theorem Mem.alloc {w : World} {g h : Nat} {l : List UInt8} (m : Mem w g h l) (o : Obj) : Mem (w.alloc o) g h l := m.same (World.grownBy_alloc w o none)
theorem grown_drew {w w' : World} {r : Option Nat} (h : w.drew.grownBy w' r) : w.grownBy w' r := ⟨h.os, h.tape, h.output, h.size, h.block⟩

/-- w' is w behind one draw. -/
def Drew (w w' : World) : Prop := w' = w.drew
theorem Drew.grown {w w' : World} (d : Drew w w') : w.grownBy w' none := by subst d; exact ⟨rfl, rfl, rfl, Nat.le_refl _, fun _ _ _ => rfl⟩
theorem Drew.block {w w' : World} (d : Drew w w') (k : Nat) : w'.heap[k]? = w.heap[k]? := by subst d; rfl
theorem Drew.size {w w' : World} (d : Drew w w') : w'.heap.size = w.heap.size := by subst d; rfl

/-- A region that draws its order and ends in a row of operations in one forced order, behind operations that leave the world as it is. -/
theorem region_tail {P : Program} {id : Nat} {Q : Exit → Act → World → Prop} {a : Act} {w : World} {l : List Oper} (n : Nat) (hm : P.follows .mixedOrders = true) (hB : Region.lexTailB .any l.toArray n = true)
    (h : ∀ w', Drew w w' → wpStill P l.toArray w' (fun a' => wpList P l.toArray Q (l.drop n) a' w') (l.take n) a) : (Code.region id l.toArray true).wp P Q a w :=
  wp_region_still_tail n hm hB (h _ rfl)

/-- Block b is a boxed area. -/
def AreaAt (w : World) (b g : Nat) (base n : Int) : Prop := w.heap[b]? = some (.cells #[.pointer (some ⟨g, 0, none⟩), .int .i64 base, .int .i64 n] 107 (0, 0))
theorem AreaAt.c0 {w : World} {b g : Nat} {base n : Int} (h : AreaAt w b g base n) : w.cell? ⟨b, 0, none⟩ = some (.pointer (some ⟨g, 0, none⟩)) := cell_of_block h
theorem AreaAt.c1 {w : World} {b g : Nat} {base n : Int} (h : AreaAt w b g base n) : w.cell? ⟨b, 1, none⟩ = some (.int .i64 base) := cell_of_block h
theorem AreaAt.c2 {w : World} {b g : Nat} {base n : Int} (h : AreaAt w b g base n) : w.cell? ⟨b, 2, none⟩ = some (.int .i64 n) := cell_of_block h
theorem AreaAt.kept {w w' : World} {b g : Nat} {base n : Int} (h : AreaAt w b g base n) (k : w'.heap[b]? = w.heap[b]?) : AreaAt w' b g base n := k.trans h
theorem area_box (w : World) (g : Nat) (base n : Int) : AreaAt (w.alloc (.cells #[.pointer (some ⟨g, 0, none⟩), .int .i64 base, .int .i64 n] 107)) w.heap.size g base n := heap_alloc_new w _

theorem still_of {P : Program} {f : FuncId} {args : Array Value} {w : World} {v : Value} (h : Calls P f args w fun e w' => e = .returned v ∧ w = w') : Calls P f args w fun e w' => e = .returned v ∧ w' = w := h.mono fun _ _ ⟨h1, h2⟩ => ⟨h1, h2.symm⟩

theorem getX_lt (l : List UInt8) (a : Int) (n : Nat) : getX l a n < 256 ^ n := by
  unfold getX
  split
  · rw [Int.toNat_natCast]
    have h := num_lt ((l.drop a.toNat).take n)
    have h3 : ((l.drop a.toNat).take n).length ≤ n := by rw [List.length_take]; omega
    exact Nat.lt_of_lt_of_le h (Nat.pow_le_pow_right (by decide) h3)
  · exact Nat.pow_pos (by decide)
theorem getX2 (l : List UInt8) (a : Int) : ∃ X : Int, X = (getX l a 2 : Int) ∧ 0 ≤ X ∧ X ≤ 65535 := ⟨_, rfl, by have := getX_lt l a 2; have e : ((2 : Nat) : Int) = 2 := rfl; rw [e] at this; omega, by have := getX_lt l a 2; have e : ((2 : Nat) : Int) = 2 := rfl; rw [e] at this; omega⟩
theorem getX4 (l : List UInt8) (a : Int) : ∃ X : Int, X = (getX l a 4 : Int) ∧ 0 ≤ X ∧ X ≤ 4294967295 := ⟨_, rfl, by have := getX_lt l a 4; have e : ((4 : Nat) : Int) = 4 := rfl; rw [e] at this; omega, by have := getX_lt l a 4; have e : ((4 : Nat) : Int) = 4 := rfl; rw [e] at this; omega⟩

set_option maxHeartbeats 400000 in
theorem aget_any (w : World) (g h : Nat) (l : List UInt8) (m : Mem w g h l) (base n a k : Int) (hl : l.length ≤ 65536) :
    Calls Try.prog 74 #[.agg #[.pointer (some ⟨g, 0, none⟩), .int .i64 base, .int .i64 n], .int .i64 a, .int .i64 k] w
      fun e w' => e = .returned (.int .u64 (getX l a k : Int)) ∧ w.grownBy w' none := by
  have m1 := m.alloc (.cells #[.pointer (some ⟨g, 0, none⟩), .int .i64 base, .int .i64 n] 107)
  have hl' : l.length ≤ 9223372036854775807 := by omega
  go_enter Try.func74, Try.ntmps74
  go_wp2_with fail
  refine (Get_all _ g h l m1 hl' _ _).mono ?_
  rintro e w1 ⟨rfl, rfl⟩
  go_wp2_with fail
  go_ret
  exact ⟨rfl, World.grownBy_alloc _ _ _⟩

section
variable (w : World) (g h : Nat) (l : List UInt8) (m : Mem w g h l) (base n : Int) (hl : l.length ≤ 65536) (hb0 : 0 ≤ base) (hb1 : base ≤ 65536) (hn1 : 1 ≤ n) (hn2 : n ≤ 64)
include m hl hb0 hb1 hn1 hn2

set_option maxRecDepth 100000 in
set_option maxHeartbeats 400000 in
theorem offeredIndex_any :
    Calls Try.prog 73 #[.agg #[.pointer (some ⟨g, 0, none⟩), .int .i64 base, .int .i64 n]] w
      fun e w' => e = .returned (.int .u16 (getX l (base + 16 * n + 2) 2 : Int)) ∧ w.grownBy w' none := by
  obtain ⟨X, hX, x0, x1⟩ := getX2 l (base + 16 * n + 2)
  have AC := fun w m => aget_any w g h l m base n (base + 16 * n + 2) 2 hl
  rw [← hX] at AC ⊢
  have AC' := Lib.hid AC
  clear AC hX
  have m1 := m.alloc (.cells #[.pointer (some ⟨g, 0, none⟩), .int .i64 base, .int .i64 n] 107)
  have a1 := area_box w g base n
  have k1 := World.grownBy_alloc w (.cells #[.pointer (some ⟨g, 0, none⟩), .int .i64 base, .int .i64 n] 107) none
  go_enter Try.func73, Try.ntmps73
  go_wp2_with fail
  generalize w.alloc _ = W at m1 a1 k1 ⊢
  refine region_tail 8 (by kernel_rfl) (by kernel_rfl) (fun W2 d => ?_)
  have m2 := m1.same d.grown
  have a2 := a1.kept (d.block _)
  have k2 := k1.trans d.grown
  have c0 := a2.c0
  have c1 := a2.c1
  have c2 := a2.c2
  have q1 : IntKind.i64.wrap (base + 16 * n) = base + 16 * n := IntWalk.i64_in _ (by omega)
  have q2 : IntKind.i64.wrap (base + 16 * n + 2) = base + 16 * n + 2 := IntWalk.i64_in _ (by omega)
  simp only [List.take_succ_cons, List.take_zero, List.drop_succ_cons, List.drop_zero]
  repeat still_step
  still_call (still_of (offeredFrom_any _ _ hn1 hn2))
  repeat still_step
  refine wpStill_nil ?_
  clear q1 q2
  go_wp2_with fail
  refine (AC'.out _ m2).mono ?_
  rintro e w1 ⟨rfl, k3⟩
  go_wp2_with fail
  go_ret
  exact ⟨rfl, k2.trans k3⟩

set_option maxRecDepth 100000 in
set_option maxHeartbeats 400000 in
theorem usedIndex_any :
    Calls Try.prog 79 #[.agg #[.pointer (some ⟨g, 0, none⟩), .int .i64 base, .int .i64 n]] w
      fun e w' => e = .returned (.int .u16 (getX l (base + usedAt n + 2) 2 : Int)) ∧ w.grownBy w' none := by
  obtain ⟨u0, u1⟩ := usedAt_bd hn1 hn2
  obtain ⟨X, hX, x0, x1⟩ := getX2 l (base + usedAt n + 2)
  have AC := fun w m => aget_any w g h l m base n (base + usedAt n + 2) 2 hl
  rw [← hX] at AC ⊢
  have AC' := Lib.hid AC
  clear AC hX
  have m1 := m.alloc (.cells #[.pointer (some ⟨g, 0, none⟩), .int .i64 base, .int .i64 n] 107)
  have a1 := area_box w g base n
  have k1 := World.grownBy_alloc w (.cells #[.pointer (some ⟨g, 0, none⟩), .int .i64 base, .int .i64 n] 107) none
  go_enter Try.func79, Try.ntmps79
  go_wp2_with fail
  generalize w.alloc _ = W at m1 a1 k1 ⊢
  refine region_tail 8 (by kernel_rfl) (by kernel_rfl) (fun W2 d => ?_)
  have m2 := m1.same d.grown
  have a2 := a1.kept (d.block _)
  have k2 := k1.trans d.grown
  have c0 := a2.c0
  have c1 := a2.c1
  have c2 := a2.c2
  have q1 : IntKind.i64.wrap (base + usedAt n) = base + usedAt n := IntWalk.i64_in _ (by omega)
  have q2 : IntKind.i64.wrap (base + usedAt n + 2) = base + usedAt n + 2 := IntWalk.i64_in _ (by omega)
  simp only [List.take_succ_cons, List.take_zero, List.drop_succ_cons, List.drop_zero]
  repeat still_step
  still_call (still_of (usedFrom_any _ _ hn1 hn2))
  repeat still_step
  refine wpStill_nil ?_
  clear q1 q2
  go_wp2_with fail
  refine (AC'.out _ m2).mono ?_
  rintro e w1 ⟨rfl, k3⟩
  go_wp2_with fail
  go_ret
  exact ⟨rfl, k2.trans k3⟩

omit m hl in
set_option maxRecDepth 100000 in
set_option maxHeartbeats 400000 in
theorem offeredAt_any (i : Int) (hi0 : 0 ≤ i) (hi1 : i ≤ 65535) :
    Calls Try.prog 70 #[.agg #[.pointer (some ⟨g, 0, none⟩), .int .i64 base, .int .i64 n], .int .u16 i] w
      fun e w' => e = .returned (.int .i64 (base + 16 * n + 4 + 2 * (i % n))) ∧ w.grownBy w' none := by
  have a1 := area_box w g base n
  have k1 := World.grownBy_alloc w (.cells #[.pointer (some ⟨g, 0, none⟩), .int .i64 base, .int .i64 n] 107) none
  have hr0 : 0 ≤ i % n := Int.emod_nonneg _ (by omega)
  have hr1 : i % n < n := Int.emod_lt_of_pos _ (by omega)
  have hnz : (n == 0) = false := beq_eq_false_iff_ne.2 (by omega)
  have hmod : i.tmod n = i % n := Int.tmod_eq_emod_of_nonneg hi0
  obtain ⟨r, hr⟩ : ∃ r, i % n = r := ⟨_, rfl⟩
  rw [hr] at hmod hr0 hr1 ⊢
  go_enter Try.func70, Try.ntmps70
  go_wp2_with fail
  generalize w.alloc _ = W at a1 k1 ⊢
  have c0 := a1.c0
  have c1 := a1.c1
  have c2 := a1.c2
  have q1 : IntKind.i64.wrap (base + 16 * n) = base + 16 * n := IntWalk.i64_in _ (by omega)
  have q2 : IntKind.i64.wrap (base + 16 * n + 4) = base + 16 * n + 4 := IntWalk.i64_in _ (by omega)
  have q3 : IntKind.i64.wrap (2 * r) = 2 * r := IntWalk.i64_in _ (by omega)
  have q4 : IntKind.i64.wrap (base + 16 * n + 4 + 2 * r) = base + 16 * n + 4 + 2 * r := IntWalk.i64_in _ (by omega)
  have q5 : IntKind.i64.wrap r = r := IntWalk.i64_in _ (by omega)
  have q6 : IntKind.i64.wrap i = i := IntWalk.i64_in _ (by omega)
  go_quiet ((go_at_call 97; exact Calls.quiet_of_same (still_of (offeredFrom_any _ _ hn1 hn2))))
  go_wp2_with fail
  go_ret
  refine ⟨rfl, ?_⟩
  exact ⟨k1.os, k1.tape, k1.output, k1.size, k1.block⟩

omit m hl in
set_option maxRecDepth 100000 in
set_option maxHeartbeats 400000 in
theorem vusedAt_any (i : Int) (hi0 : 0 ≤ i) (hi1 : i ≤ 65535) :
    Calls Try.prog 77 #[.agg #[.pointer (some ⟨g, 0, none⟩), .int .i64 base, .int .i64 n], .int .u16 i] w
      fun e w' => e = .returned (.int .i64 (base + usedAt n + 4 + 8 * (i % n))) ∧ w.grownBy w' none := by
  obtain ⟨u0, u1⟩ := usedAt_bd hn1 hn2
  have a1 := area_box w g base n
  have k1 := World.grownBy_alloc w (.cells #[.pointer (some ⟨g, 0, none⟩), .int .i64 base, .int .i64 n] 107) none
  have hr0 : 0 ≤ i % n := Int.emod_nonneg _ (by omega)
  have hr1 : i % n < n := Int.emod_lt_of_pos _ (by omega)
  have hnz : (n == 0) = false := beq_eq_false_iff_ne.2 (by omega)
  have hmod : i.tmod n = i % n := Int.tmod_eq_emod_of_nonneg hi0
  obtain ⟨r, hr⟩ : ∃ r, i % n = r := ⟨_, rfl⟩
  rw [hr] at hmod hr0 hr1 ⊢
  go_enter Try.func77, Try.ntmps77
  go_wp2_with fail
  generalize w.alloc _ = W at a1 k1 ⊢
  have c0 := a1.c0
  have c1 := a1.c1
  have c2 := a1.c2
  have q1 : IntKind.i64.wrap (base + usedAt n) = base + usedAt n := IntWalk.i64_in _ (by omega)
  have q2 : IntKind.i64.wrap (base + usedAt n + 4) = base + usedAt n + 4 := IntWalk.i64_in _ (by omega)
  have q3 : IntKind.i64.wrap (8 * r) = 8 * r := IntWalk.i64_in _ (by omega)
  have q4 : IntKind.i64.wrap (base + usedAt n + 4 + 8 * r) = base + usedAt n + 4 + 8 * r := IntWalk.i64_in _ (by omega)
  have q5 : IntKind.i64.wrap r = r := IntWalk.i64_in _ (by omega)
  have q6 : IntKind.i64.wrap i = i := IntWalk.i64_in _ (by omega)
  go_quiet ((go_at_call 100; exact Calls.quiet_of_same (still_of (usedFrom_any _ _ hn1 hn2))))
  go_wp2_with fail
  go_ret
  refine ⟨rfl, ?_⟩
  exact ⟨k1.os, k1.tape, k1.output, k1.size, k1.block⟩
end

end Go.Proofs.Ytmlicejhkdkhnaa
