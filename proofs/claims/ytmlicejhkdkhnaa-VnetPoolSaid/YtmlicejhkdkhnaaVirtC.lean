/-
  The contracts of package virtq's area, that write: indices put, a descriptor got and put, all bytes wiped. Conditions: the memory is one that New made and has at most 65536 bytes; the base is not below 0, nor above 65536; from 1 to 64 entries.
-/
import Derived.Test.YtmlicejhkdkhnaaVirtB
namespace Go.Proofs.Ytmlicejhkdkhnaa
open Go.RowKit Go.Sort

section
variable (w : World) (g h : Nat) (l : List UInt8) (m : Mem w g h l) (base n : Int) (hl : l.length ≤ 65536) (hb0 : 0 ≤ base) (hb1 : base ≤ 65536) (hn1 : 1 ≤ n) (hn2 : n ≤ 64)
include m hl hb0 hb1 hn1 hn2

set_option maxRecDepth 100000 in
set_option maxHeartbeats 400000 in
theorem putOfferedIndex_any (x : Int) (hx0 : 0 ≤ x) (hx1 : x ≤ 65535) :
    Calls Try.prog 71 #[.agg #[.pointer (some ⟨g, 0, none⟩), .int .i64 base, .int .i64 n], .int .u16 x] w
      fun e w' => e = .returned (.tuple #[]) ∧ Mem w' g h (putL l (base + 16 * n + 2) 2 x) ∧ w.grownBy w' (some h) := by
  have m1 := m.alloc (.cells #[.pointer (some ⟨g, 0, none⟩), .int .i64 base, .int .i64 n] 107)
  have a1 := area_box w g base n
  have k1 := World.grownBy_alloc w (.cells #[.pointer (some ⟨g, 0, none⟩), .int .i64 base, .int .i64 n] 107) none
  go_enter Try.func71, Try.ntmps71
  go_wp2_with fail
  generalize w.alloc _ = W at m1 a1 k1 ⊢
  refine region_tail 11 (by kernel_rfl) (by kernel_rfl) (fun W2 d => ?_)
  have m2 := m1.same d.grown
  have a2 := a1.kept (d.block _)
  have k2 := k1.trans d.grown
  have c0 := a2.c0
  have c1 := a2.c1
  have c2 := a2.c2
  have q1 : IntKind.i64.wrap (base + 16 * n) = base + 16 * n := IntWalk.i64_in _ (by omega)
  have q2 : IntKind.i64.wrap (base + 16 * n + 2) = base + 16 * n + 2 := IntWalk.i64_in _ (by omega)
  have q3 : IntKind.u64.wrap x = x := IntWalk.u64_in _ (by omega)
  simp only [List.take_succ_cons, List.take_zero, List.drop_succ_cons, List.drop_zero]
  repeat still_step
  still_call (still_of (offeredFrom_any _ _ hn1 hn2))
  repeat still_step
  refine wpStill_nil ?_
  clear q1 q2 q3
  go_wp2_with fail
  refine (Put_all W2 g h l m2 (by omega) _ _ _ hx0).mono ?_
  rintro e w1 ⟨rfl, m3, k3⟩
  go_wp2_with fail
  go_end0
  exact ⟨rfl, m3, (k2.but _).trans k3⟩

set_option maxRecDepth 100000 in
set_option maxHeartbeats 400000 in
theorem putUsedIndex_any (x : Int) (hx0 : 0 ≤ x) (hx1 : x ≤ 65535) :
    Calls Try.prog 78 #[.agg #[.pointer (some ⟨g, 0, none⟩), .int .i64 base, .int .i64 n], .int .u16 x] w
      fun e w' => e = .returned (.tuple #[]) ∧ Mem w' g h (putL l (base + usedAt n + 2) 2 x) ∧ w.grownBy w' (some h) := by
  obtain ⟨u0, u1⟩ := usedAt_bd hn1 hn2
  have m1 := m.alloc (.cells #[.pointer (some ⟨g, 0, none⟩), .int .i64 base, .int .i64 n] 107)
  have a1 := area_box w g base n
  have k1 := World.grownBy_alloc w (.cells #[.pointer (some ⟨g, 0, none⟩), .int .i64 base, .int .i64 n] 107) none
  go_enter Try.func78, Try.ntmps78
  go_wp2_with fail
  generalize w.alloc _ = W at m1 a1 k1 ⊢
  refine region_tail 11 (by kernel_rfl) (by kernel_rfl) (fun W2 d => ?_)
  have m2 := m1.same d.grown
  have a2 := a1.kept (d.block _)
  have k2 := k1.trans d.grown
  have c0 := a2.c0
  have c1 := a2.c1
  have c2 := a2.c2
  have q1 : IntKind.i64.wrap (base + usedAt n) = base + usedAt n := IntWalk.i64_in _ (by omega)
  have q2 : IntKind.i64.wrap (base + usedAt n + 2) = base + usedAt n + 2 := IntWalk.i64_in _ (by omega)
  have q3 : IntKind.u64.wrap x = x := IntWalk.u64_in _ (by omega)
  simp only [List.take_succ_cons, List.take_zero, List.drop_succ_cons, List.drop_zero]
  repeat still_step
  still_call (still_of (usedFrom_any _ _ hn1 hn2))
  repeat still_step
  refine wpStill_nil ?_
  clear q1 q2 q3
  go_wp2_with fail
  refine (Put_all W2 g h l m2 (by omega) _ _ _ hx0).mono ?_
  rintro e w1 ⟨rfl, m3, k3⟩
  go_wp2_with fail
  go_end0
  exact ⟨rfl, m3, (k2.but _).trans k3⟩
end

/-- A block of a boxed descriptor. -/
def DescAt (w : World) (r : Nat) (a b c d : Int) : Prop := w.heap[r]? = some (.cells #[.int .u64 a, .int .u64 b, .int .u64 c, .int .u64 d] 154 (0, 0))

/-- What a cell holds, as a name. -/
def cellv (w : World) (r j : Nat) : Value := (w.cell? ⟨r, j, none⟩).getD undef
/-- A block of four cells. -/
def Four (w : World) (r : Nat) (t : TypeId) : Prop := ∃ y0 y1 y2 y3, w.heap[r]? = some (.cells #[y0, y1, y2, y3] t (0, 0))
theorem Four.all {w : World} {r : Nat} {t : TypeId} (h : Four w r t) :
    w.frozen? ⟨r, 0, none⟩ = false ∧ w.frozen? ⟨r, 1, none⟩ = false ∧ w.frozen? ⟨r, 2, none⟩ = false ∧ w.frozen? ⟨r, 3, none⟩ = false ∧
    w.cell? ⟨r, 0, none⟩ = some (cellv w r 0) ∧ w.cell? ⟨r, 1, none⟩ = some (cellv w r 1) ∧ w.cell? ⟨r, 2, none⟩ = some (cellv w r 2) ∧ w.cell? ⟨r, 3, none⟩ = some (cellv w r 3) := by
  obtain ⟨y0, y1, y2, y3, h⟩ := h
  have c := fun j => cell_of_block (i := j) h
  refine ⟨frozen_of_block h, frozen_of_block h, frozen_of_block h, frozen_of_block h, ?_, ?_, ?_, ?_⟩
  all_goals (unfold cellv; rw [c]; rfl)

theorem out_cells {w : World} {g : Nat} {t : TypeId} {y0 y1 y2 y3 : Value} (h : w.heap[g]? = some (.cells #[y0, y1, y2, y3] t (0, 0))) (x0 x1 x2 x3 : Value) :
    ((((w.setCell ⟨g, 0, none⟩ x0).setCell ⟨g, 1, none⟩ x1).setCell ⟨g, 2, none⟩ x2).setCell ⟨g, 3, none⟩ x3).heap[g]? = some (.cells #[x0, x1, x2, x3] t (0, 0)) :=
  set_block (set_block (set_block (set_block h 0 x0) 1 x1) 2 x2) 3 x3
theorem four_grown {v w : World} {g : Nat} (h : v.grownBy w none) (hg : v.heap.size ≤ g) (x0 x1 x2 x3 : Value) :
    v.grownBy ((((w.setCell ⟨g, 0, none⟩ x0).setCell ⟨g, 1, none⟩ x1).setCell ⟨g, 2, none⟩ x2).setCell ⟨g, 3, none⟩ x3) none := by
  have b : Below v.heap.size v w := ⟨h.os, h.tape, h.output, h.size, fun k hk => h.block k hk (by simp)⟩
  have c := (((b.setCell (p := ⟨g, 0, none⟩) hg x0).setCell (p := ⟨g, 1, none⟩) hg x1).setCell (p := ⟨g, 2, none⟩) hg x2).setCell (p := ⟨g, 3, none⟩) hg x3
  exact ⟨c.os, c.tape, c.output, c.size, fun k hk _ => c.block k hk⟩
theorem four_other (w : World) {g k : Nat} (hk : k ≠ g) (x0 x1 x2 x3 : Value) :
    ((((w.setCell ⟨g, 0, none⟩ x0).setCell ⟨g, 1, none⟩ x1).setCell ⟨g, 2, none⟩ x2).setCell ⟨g, 3, none⟩ x3).heap[k]? = w.heap[k]? := by
  rw [Below.heap_setCell _ _ _ _ hk, Below.heap_setCell _ _ _ _ hk, Below.heap_setCell _ _ _ _ hk, Below.heap_setCell _ _ _ _ hk]

/-- What stays through descriptor's calls. -/
def DescS (w w' : World) (b r g h : Nat) (base n : Int) (l : List UInt8) : Prop := AreaAt w' b g base n ∧ Mem w' g h l ∧ Four w' r 154 ∧ w.grownBy w' none ∧ w.heap.size ≤ r ∧ b ≠ r ∧ g < w.heap.size ∧ h < w.heap.size

theorem DescS.next {w w1 w2 : World} {b r g h : Nat} {base n : Int} {l : List UInt8} (s : DescS w w1 b r g h base n l) (k : w1.grownBy w2 none) : DescS w w2 b r g h base n l := by
  obtain ⟨s1, s2, ⟨y0, y1, y2, y3, s3⟩, s4, s5⟩ := s
  exact ⟨s1.kept (k.block _ (lt_of_block s1) (by simp)), s2.same k, ⟨y0, y1, y2, y3, (k.block _ (lt_of_block s3) (by simp)).trans s3⟩, s4.trans k, s5⟩
theorem DescS.stored {w w1 : World} {b r g h : Nat} {base n : Int} {l : List UInt8} (s : DescS w w1 b r g h base n l) (x0 x1 x2 x3 : Value) :
    DescS w ((((w1.setCell ⟨r, 0, none⟩ x0).setCell ⟨r, 1, none⟩ x1).setCell ⟨r, 2, none⟩ x2).setCell ⟨r, 3, none⟩ x3) b r g h base n l := by
  obtain ⟨s1, s2, ⟨y0, y1, y2, y3, s3⟩, s4, s5, s6, s7, s8⟩ := s
  exact ⟨s1.kept (four_other _ s6 _ _ _ _), ⟨(four_other _ (by omega) _ _ _ _).trans s2.1, (four_other _ (by omega) _ _ _ _).trans s2.2⟩, ⟨x0, x1, x2, x3, out_cells s3 _ _ _ _⟩, four_grown s4 s5 _ _ _ _, s5, s6, s7, s8⟩
theorem DescS.drew {w w1 : World} {b r g h : Nat} {base n : Int} {l : List UInt8} (s : DescS w w1 b r g h base n l) : DescS w w1.drew b r g h base n l := s.next (Drew.grown (w := w1) rfl)
theorem DescS.all {w w' : World} {b r g h : Nat} {base n : Int} {l : List UInt8} (s : DescS w w' b r g h base n l) :
    w'.cell? ⟨b, 0, none⟩ = some (.pointer (some ⟨g, 0, none⟩)) ∧ w'.cell? ⟨b, 1, none⟩ = some (.int .i64 base) ∧ w'.cell? ⟨b, 2, none⟩ = some (.int .i64 n) ∧
      w'.frozen? ⟨r, 0, none⟩ = false ∧ w'.frozen? ⟨r, 1, none⟩ = false ∧ w'.frozen? ⟨r, 2, none⟩ = false ∧ w'.frozen? ⟨r, 3, none⟩ = false ∧
      w'.cell? ⟨r, 0, none⟩ = some (cellv w' r 0) ∧ w'.cell? ⟨r, 1, none⟩ = some (cellv w' r 1) ∧ w'.cell? ⟨r, 2, none⟩ = some (cellv w' r 2) ∧ w'.cell? ⟨r, 3, none⟩ = some (cellv w' r 3) ∧ DescS w w' b r g h base n l := by
  obtain ⟨f0, f1, f2, f3, d0, d1, d2, d3⟩ := s.2.2.1.all
  exact ⟨s.1.c0, s.1.c1, s.1.c2, f0, f1, f2, f3, d0, d1, d2, d3, s⟩

set_option maxRecDepth 100000 in
set_option maxHeartbeats 1000000 in
theorem descriptor_any (w : World) (g h : Nat) (l : List UInt8) (m : Mem w g h l) (base n : Int) (hl : l.length ≤ 65536) (hb0 : 0 ≤ base) (hb1 : base ≤ 65536) (i : Int) (hi0 : 0 ≤ i) (hi1 : i ≤ 65535) :
    Calls Try.prog 98 #[.agg #[.pointer (some ⟨g, 0, none⟩), .int .i64 base, .int .i64 n], .int .i64 i] w
      fun e w' => e = .returned (.agg #[.int .u64 (getX l (base + 16 * i) 8 : Int), .int .u64 (getX l (base + 16 * i + 8) 4 : Int), .int .u64 (getX l (base + 16 * i + 12) 2 : Int), .int .u64 (getX l (base + 16 * i + 14) 2 : Int)]) ∧ w.grownBy w' none := by
  have AC := Lib.hid (fun w m a k => aget_any w g h l m base n a k hl)
  have s1 : DescS w ((w.alloc (.cells #[.pointer (some ⟨g, 0, none⟩), .int .i64 base, .int .i64 n] 107)).alloc (.cells #[.int .u64 0, .int .u64 0, .int .u64 0, .int .u64 0] 154)) w.heap.size (w.heap.size + 1) g h base n l := by
    refine ⟨(area_box w g base n).kept ?_, (m.alloc _).alloc _, ⟨_, _, _, _, alloc_two _ _ _⟩, (World.grownBy_alloc w _ none).trans (World.grownBy_alloc _ _ none), by omega, by omega, m.lt1, m.lt2⟩
    rw [Below.heap_alloc _ _ _ (by simp)]
  have q1 : IntKind.i64.wrap (base + 16 * i + 8) = base + 16 * i + 8 := IntWalk.i64_in _ (by omega)
  have q2 : IntKind.i64.wrap (base + 16 * i + 12) = base + 16 * i + 12 := IntWalk.i64_in _ (by omega)
  have q3 : IntKind.i64.wrap (base + 16 * i + 14) = base + 16 * i + 14 := IntWalk.i64_in _ (by omega)
  go_enter Try.func98, Try.ntmps98
  go_wp2_with fail
  generalize (w.alloc _).alloc _ = W at s1 ⊢
  have hS := s1.drew.all
  clear s1
  go_region_held3 (fun w' => w'.cell? ⟨w.heap.size, 0, none⟩ = some (.pointer (some ⟨g, 0, none⟩)) ∧ w'.cell? ⟨w.heap.size, 1, none⟩ = some (.int .i64 base) ∧ w'.cell? ⟨w.heap.size, 2, none⟩ = some (.int .i64 n) ∧
      w'.frozen? ⟨w.heap.size + 1, 0, none⟩ = false ∧ w'.frozen? ⟨w.heap.size + 1, 1, none⟩ = false ∧ w'.frozen? ⟨w.heap.size + 1, 2, none⟩ = false ∧ w'.frozen? ⟨w.heap.size + 1, 3, none⟩ = false ∧
      w'.cell? ⟨w.heap.size + 1, 0, none⟩ = some (cellv w' (w.heap.size + 1) 0) ∧ w'.cell? ⟨w.heap.size + 1, 1, none⟩ = some (cellv w' (w.heap.size + 1) 1) ∧ w'.cell? ⟨w.heap.size + 1, 2, none⟩ = some (cellv w' (w.heap.size + 1) 2) ∧ w'.cell? ⟨w.heap.size + 1, 3, none⟩ = some (cellv w' (w.heap.size + 1) 3) ∧ DescS w w' w.heap.size (w.heap.size + 1) g h base n l)
    (first | exact hS | exact (DescS.next (by assumption) k).all | (go_split_ands; exact (DescS.stored (by assumption) _ _ _ _).all) | (go_split_ands; exact (DescS.next (by assumption) k).all))
    (first | (go_at_call 74; go_split_ands; refine (AC.out _ (by rename_i s; exact s.2.1) _ _).mono ?_; rintro e w1 ⟨rfl, k⟩))
  have sz := DescS.next (by assumption) k
  obtain ⟨-, -, ⟨y0, y1, y2, y3, z3⟩, z4, z5, -⟩ := sz
  have o := out_cells z3 (.int .u64 (getX l (base + 16 * i) 8 : Int)) (.int .u64 (getX l (base + 16 * i + 8) 4 : Int)) (.int .u64 (getX l (base + 16 * i + 12) 2 : Int)) (.int .u64 (getX l (base + 16 * i + 14) 2 : Int))
  have p0 := cell_of_block (i := 0) o
  have p1 := cell_of_block (i := 1) o
  have p2 := cell_of_block (i := 2) o
  have p3 := cell_of_block (i := 3) o
  have kz := four_grown z4 z5 (.int .u64 (getX l (base + 16 * i) 8 : Int)) (.int .u64 (getX l (base + 16 * i + 8) 4 : Int)) (.int .u64 (getX l (base + 16 * i + 12) 2 : Int)) (.int .u64 (getX l (base + 16 * i + 14) 2 : Int))
  clear o z3
  go_wp2_with fail
  exact bodyPost_ret (v := .agg #[.int .u64 (getX l (base + 16 * i) 8 : Int), .int .u64 (getX l (base + 16 * i + 8) 4 : Int), .int .u64 (getX l (base + 16 * i + 12) 2 : Int), .int .u64 (getX l (base + 16 * i + 14) 2 : Int)]) (by simp [results, Try.results98, go_sem, p0, p1, p2, p3]) rfl ⟨rfl, kz⟩

end Go.Proofs.Ytmlicejhkdkhnaa
