/-
  Layer 8: pieces: where one ends, whether two clash; a piece among pieces. Conditions: as said.
-/
import Derived.Test.YtbjoibgkhooljaaJoA
import Derived.BigQuiet
namespace Go.Proofs.Ytbjoibgkhooljaa
open Go.RowKit Go.Sort Go.Shelf
set_option linter.unusedVariables false

/-- A piece's numbers are small. -/
structure Pc.fine (x : Pc) : Prop where
  lo : 0 ≤ x.o
  hi : x.o ≤ 100000
  sz : x.da.size ≤ 100000
theorem Pc.fine.ok {x : Pc} (h : x.fine) : x.ok := ⟨Go.WalkArith.wf_i64 ⟨by have := h.lo; omega, by have := h.hi; omega⟩, by have := h.sz; unfold maxLen; omega⟩
def pEnd (x : Pc) : Int := x.o + x.da.size
/-- x reaches above the end that y gives. -/
def aboveP (x y : Pc) : Bool := !y.mo && decide (pEnd y < pEnd x)
def clashP (x y : Pc) : Bool := decide (max x.o y.o < min (pEnd x) (pEnd y)) || (!x.mo && !y.mo) || aboveP x y || aboveP y x

set_option maxHeartbeats 400000 in
theorem pend_any (w : World) (x : Pc) (hx : x.fine) :
    Calls Try.prog 75 #[.agg #[.int .i64 x.o, .string x.da, .bool x.mo]] w fun e w' => e = .returned (.int .i64 (pEnd x)) ∧ Below w.heap.size w w' := by
  obtain ⟨h1, h2, h3⟩ := hx
  have hm : x.da.size ≤ 9223372036854775807 := by omega
  have hw : IntKind.i64.wrap (x.o + (x.da.size : Int)) = pEnd x := IntWalk.i64_in _ (by omega)
  go_enter Try.func75, Try.ntmps75
  go_wp2
  go_ret
  exact ⟨rfl, (Below.refl _ _).alloc (Nat.le_refl _) _⟩

/-- A piece in a box. -/
def PcAt (w : World) (n : Nat) (x : Pc) : Prop := w.heap[n]? = some (.cells #[.int .i64 x.o, .string x.da, .bool x.mo] 89 (0, 0))
theorem PcAt.grow {w w' : World} {n : Nat} {x : Pc} (h : PcAt w n x) (b : Below w.heap.size w w') : PcAt w' n x := (b.block n (Array.getElem?_eq_some_iff.1 h).1).trans h
theorem PcAt.all {w : World} {n : Nat} {x : Pc} (h : PcAt w n x) : w.cell? ⟨n, 0, none⟩ = some (.int .i64 x.o) ∧ w.cell? ⟨n, 1, none⟩ = some (.string x.da) ∧ w.cell? ⟨n, 2, none⟩ = some (.bool x.mo) := by
  unfold PcAt at h
  refine ⟨?_, ?_, ?_⟩ <;> (rw [cell_of_block h]; rfl)
theorem PcAt.cells {w : World} {n : Nat} {x : Pc} (h : PcAt w n x) : w.cell? ⟨n, 0, none⟩ = some (.int .i64 x.o) ∧ w.cell? ⟨n, 1, none⟩ = some (.string x.da) ∧ w.cell? ⟨n, 2, none⟩ = some (.bool x.mo) := h.all
/-- Two boxes of pieces, made since. -/
structure Pc2 (w W : World) (n m : Nat) (x y : Pc) : Prop where
  a : PcAt W n x
  b : PcAt W m y
  bl : Below w.heap.size w W
theorem Pc2.grow {w W W' : World} {n m : Nat} {x y : Pc} (h : Pc2 w W n m x y) (b : Below W.heap.size W W') : Pc2 w W' n m x y := ⟨h.a.grow b, h.b.grow b, h.bl.trans (b.mono h.bl.size)⟩
theorem pc2_new (w : World) (x y : Pc) : Pc2 w ((w.alloc (.cells #[.int .i64 x.o, .string x.da, .bool x.mo] 89)).alloc (.cells #[.int .i64 y.o, .string y.da, .bool y.mo] 89)) w.heap.size (w.heap.size + 1) x y := by
  refine ⟨?_, ?_, ((Below.refl _ _).alloc (Nat.le_refl _) _).alloc (by simp) _⟩
  · have h1 : PcAt (w.alloc (.cells #[.int .i64 x.o, .string x.da, .bool x.mo] 89)) w.heap.size x := heap_alloc_new w _
    exact h1.grow ((Below.refl _ _).alloc (Nat.le_refl _) _)
  · have h1 := heap_alloc_new (w.alloc (.cells #[.int .i64 x.o, .string x.da, .bool x.mo] 89)) (.cells #[.int .i64 y.o, .string y.da, .bool y.mo] 89)
    simpa [PcAt] using h1
theorem Pc2.drewn {w W W' : World} {n m : Nat} {x y : Pc} (h : Pc2 w W n m x y) (b : Below W.heap.size W W') : Pc2 w W' n m x y := h.grow b

set_option maxHeartbeats 1000000 in
theorem above_any (w : World) (x y : Pc) (hx : x.fine) (hy : y.fine) :
    Calls Try.prog 92 #[.agg #[.int .i64 x.o, .string x.da, .bool x.mo], .agg #[.int .i64 y.o, .string y.da, .bool y.mo]] w fun e w' => e = .returned (.bool (aboveP x y)) ∧ Below w.heap.size w w' := by
  have P0 := Lib.hid (pc2_new w x y)
  have HX := Lib.hid (fun w => pend_any w x hx)
  have HY := Lib.hid (fun w => pend_any w y hy)
  have HR : Hid (aboveP x y = (!y.mo && decide (pEnd y < pEnd x))) := Lib.hid rfl
  generalize pEnd x = EX at HX HR
  generalize pEnd y = EY at HY HR
  generalize aboveP x y = R at HR ⊢
  clear hx hy
  obtain ⟨xo, xd, xm⟩ := x
  obtain ⟨yo, yd, ym⟩ := y
  dsimp only at P0 HX HY HR ⊢
  go_enter Try.func92, Try.ntmps92
  go_upto_region 1 with fail
  generalize (w.alloc _).alloc _ = W1 at P0 ⊢
  obtain ⟨m, hm⟩ : ∃ m, m = w.heap.size + 1 := ⟨_, rfl⟩
  rw [← hm] at P0 ⊢
  clear hm
  obtain ⟨n, hn⟩ : ∃ n, n = w.heap.size := ⟨_, rfl⟩
  rw [← hn] at P0 ⊢
  clear hn
  cases ym
  · have HR2 : Hid (R = decide (EY < EX)) := Lib.hid (by rw [HR.out]; simp)
    clear HR
    obtain ⟨x0, x1, x2⟩ := P0.out.a.cells
    obtain ⟨y0, y1, y2⟩ := P0.out.b.cells
    dsimp only at x0 x1 x2 y0 y1 y2
    go_region_with ((go_at_call 75; (first | (with_reducible refine (HX.out _).mono ?_) | (with_reducible refine (HY.out _).mono ?_)); rintro e w' ⟨rfl, bx⟩; have P0 : Hid (Pc2 w w' n m ⟨xo, xd, xm⟩ ⟨yo, yd, false⟩) := Lib.hid (by first | exact P0.out.grow bx | exact P0.out.grow ((Below.refl _ _).drew.trans bx)); clear x0 x1 x2 y0 y1 y2 bx; obtain ⟨x0, x1, x2⟩ := P0.out.a.cells; obtain ⟨y0, y1, y2⟩ := P0.out.b.cells; dsimp only at x0 x1 x2 y0 y1 y2))
    all_goals
      go_wp2
      go_ret
      exact ⟨by rw [HR2.out] <;> rfl, P0.out.bl⟩
  · have HR2 : Hid (R = false) := Lib.hid (by rw [HR.out]; rfl)
    clear HR
    obtain ⟨y0, y1, y2⟩ := P0.out.b.cells
    dsimp only at y0 y1 y2
    go_quiet (fail)
    go_wp2
    go_ret
    exact ⟨by rw [HR2.out] <;> rfl, below_drewN P0.out.bl _⟩

set_option maxRecDepth 100000 in
set_option maxHeartbeats 4000000 in
theorem clash_any (w : World) (x y : Pc) (hx : x.fine) (hy : y.fine) :
    Calls Try.prog 77 #[.agg #[.int .i64 x.o, .string x.da, .bool x.mo], .agg #[.int .i64 y.o, .string y.da, .bool y.mo]] w fun e w' => e = .returned (.bool (clashP x y)) ∧ Below w.heap.size w w' := by
  have P0 := Lib.hid (pc2_new w x y)
  have HX := Lib.hid (fun w => pend_any w x hx)
  have HY := Lib.hid (fun w => pend_any w y hy)
  have HA := Lib.hid (fun w => above_any w x y hx hy)
  have HC := Lib.hid (fun w => above_any w y x hy hx)
  have HR : Hid (clashP x y = (decide (max x.o y.o < min (pEnd x) (pEnd y)) || (!x.mo && !y.mo) || aboveP x y || aboveP y x)) := Lib.hid rfl
  generalize pEnd x = EX at HX HR
  generalize pEnd y = EY at HY HR
  generalize aboveP x y = A1 at HA HR
  generalize aboveP y x = A2 at HC HR
  generalize clashP x y = R at HR ⊢
  clear hx hy
  obtain ⟨xo, xd, xm⟩ := x
  obtain ⟨yo, yd, ym⟩ := y
  dsimp only at P0 HX HY HA HC HR ⊢
  go_enter Try.func77, Try.ntmps77
  go_upto_region 1 with fail
  generalize (w.alloc _).alloc _ = W1 at P0 ⊢
  obtain ⟨m, hm⟩ : ∃ m, m = w.heap.size + 1 := ⟨_, rfl⟩
  rw [← hm] at P0 ⊢
  clear hm
  obtain ⟨n, hn⟩ : ∃ n, n = w.heap.size := ⟨_, rfl⟩
  rw [← hn] at P0 ⊢
  clear hn
  obtain ⟨B, hB⟩ : ∃ B, B = decide (max xo yo < min EX EY) := ⟨_, rfl⟩
  rw [← hB] at HR
  have HB := Lib.hid hB
  clear hB
  go_cut [5] from 6 to 17 (fun v5 wx => v5 = .bool B ∧ Hid (Pc2 w wx n m ⟨xo, xd, xm⟩ ⟨yo, yd, ym⟩))
  case first =>
    refine wp_region_noPanic ?_
    refine region_heldE (S := fun w' => Pc2 w w' n m ⟨xo, xd, xm⟩ ⟨yo, yd, ym⟩) (by kernel_rfl) (fun V d => P0.out.grow d.below) (fun V d hS => ?_)
    clear d P0
    refine wpAnyH_take (i := 0) (oi := ⟨some 6, Op.fieldAddr 89 (Operand.tmp 2) 0, _, _, _, none⟩) (v := (.pointer (some ⟨n, 0, none⟩))) rfl (by kernel_rfl) (by kernel_rfl) (by kernel_rfl) (fun _ _ _ h => h) (Or.inl ⟨by rfl, fun w' h' => ?_⟩) hS ?_
    · clear h'
      go_simp
    simp only [Act.put]
    refine wpAnyH_take (i := 1) (oi := ⟨some 7, Op.load 3 (Operand.tmp 6), _, _, _, none⟩) (v := (.int .i64 xo)) rfl (by kernel_rfl) (by kernel_rfl) (by kernel_rfl) (fun _ _ _ h => h) (Or.inl ⟨by rfl, fun w' h' => ?_⟩) hS ?_
    · have c0 := (show w'.cell? ⟨n, 0, none⟩ = some (.int .i64 xo) from h'.a.all.1)
      clear h'
      go_simp
    simp only [Act.put]
    refine wpAnyH_take (i := 2) (oi := ⟨some 8, Op.fieldAddr 89 (Operand.tmp 3) 0, _, _, _, none⟩) (v := (.pointer (some ⟨m, 0, none⟩))) rfl (by kernel_rfl) (by kernel_rfl) (by kernel_rfl) (fun _ _ _ h => h) (Or.inl ⟨by rfl, fun w' h' => ?_⟩) hS ?_
    · clear h'
      go_simp
    simp only [Act.put]
    refine wpAnyH_take (i := 3) (oi := ⟨some 9, Op.load 3 (Operand.tmp 8), _, _, _, none⟩) (v := (.int .i64 yo)) rfl (by kernel_rfl) (by kernel_rfl) (by kernel_rfl) (fun _ _ _ h => h) (Or.inl ⟨by rfl, fun w' h' => ?_⟩) hS ?_
    · have c0 := (show w'.cell? ⟨m, 0, none⟩ = some (.int .i64 yo) from h'.b.all.1)
      clear h'
      go_simp
    simp only [Act.put]
    refine wpAnyH_take (i := 4) (oi := ⟨some 10, Op.call { callee := Callee.builtin Builtin.max, args := #[(Operand.tmp 7), (Operand.tmp 9)], argTypes := #[3, 3] }, _, _, _, none⟩) (v := (.int .i64 (max xo yo))) rfl (by kernel_rfl) (by kernel_rfl) (by kernel_rfl) (fun _ _ _ h => h) (Or.inl ⟨by rfl, fun w' h' => ?_⟩) hS ?_
    · clear h'
      go_simp
    simp only [Act.put]
    refine wpAnyH_take (i := 5) (oi := ⟨some 11, Op.load 89 (Operand.tmp 2), _, _, _, none⟩) (v := (.agg #[.int .i64 xo, .string xd, .bool xm])) rfl (by kernel_rfl) (by kernel_rfl) (by kernel_rfl) (fun _ _ _ h => h) (Or.inl ⟨by rfl, fun w' h' => ?_⟩) hS ?_
    · have c0 := (show w'.cell? ⟨n, 0, none⟩ = some (.int .i64 xo) from h'.a.all.1)
      have c1 := (show w'.cell? ⟨n, 1, none⟩ = some (.string xd) from h'.a.all.2.1)
      have c2 := (show w'.cell? ⟨n, 2, none⟩ = some (.bool xm) from h'.a.all.2.2)
      clear h'
      go_simp
    simp only [Act.put]
    refine wpAnyH_take (i := 7) (oi := ⟨some 13, Op.load 89 (Operand.tmp 3), _, _, _, none⟩) (v := (.agg #[.int .i64 yo, .string yd, .bool ym])) rfl (by kernel_rfl) (by kernel_rfl) (by kernel_rfl) (fun _ _ _ h => h) (Or.inl ⟨by rfl, fun w' h' => ?_⟩) hS ?_
    · have c0 := (show w'.cell? ⟨m, 0, none⟩ = some (.int .i64 yo) from h'.b.all.1)
      have c1 := (show w'.cell? ⟨m, 1, none⟩ = some (.string yd) from h'.b.all.2.1)
      have c2 := (show w'.cell? ⟨m, 2, none⟩ = some (.bool ym) from h'.b.all.2.2)
      clear h'
      go_simp
    simp only [Act.put]
    refine wpAnyH_ready (rs := [6]) (by kernel_rfl) (by simp) ?_
    refine AllReadyH.cons rfl (fun K hK => ?_) AllReadyH.nil
    go_simp
    refine (HX.out _).mono ?_
    rintro e w1 ⟨rfl, bx⟩
    have S1 := Pc2.grow hS bx
    clear bx
    go_simp
    refine hK.out _ _ S1 (fun _ => ?_)
    clear hK K
    refine wpAnyH_ready (rs := [8]) (by kernel_rfl) (by simp) ?_
    refine AllReadyH.cons rfl (fun K hK => ?_) AllReadyH.nil
    go_simp
    refine (HY.out _).mono ?_
    rintro e w2 ⟨rfl, bx⟩
    have S2 := Pc2.grow S1 bx
    clear bx
    go_simp
    refine hK.out _ _ S2 (fun _ => ?_)
    clear hK K
    refine wpAnyH_take (i := 9) (oi := ⟨some 15, Op.call { callee := Callee.builtin Builtin.min, args := #[(Operand.tmp 12), (Operand.tmp 14)], argTypes := #[3, 3] }, _, _, _, none⟩) (v := (.int .i64 (min EX EY))) rfl (by kernel_rfl) (by kernel_rfl) (by kernel_rfl) (fun _ _ _ h => h) (Or.inl ⟨by rfl, fun w' h' => ?_⟩) S2 ?_
    · clear h'
      go_simp
    simp only [Act.put]
    refine wpAnyH_take (i := 10) (oi := ⟨some 16, Op.binOp BinOp.lss 3 (Operand.tmp 10) (Operand.tmp 15) 3, _, _, _, none⟩) (v := (.bool B)) rfl (by kernel_rfl) (by kernel_rfl) (by kernel_rfl) (fun _ _ _ h => h) (Or.inl ⟨by rfl, fun w' h' => ?_⟩) S2 ?_
    · have c0 := HB.out
      clear h'
      go_simp
    simp only [Act.put]
    refine wpAnyH_take (i := 11) (oi := ⟨some 5, Op.assign (Operand.tmp 16), _, _, _, none⟩) (v := (.bool B)) rfl (by kernel_rfl) (by kernel_rfl) (by kernel_rfl) (fun _ _ _ h => h) (Or.inl ⟨by rfl, fun w' h' => ?_⟩) S2 ?_
    · clear h'
      go_simp
    simp only [Act.put]
    refine wpAnyH_done (by kernel_rfl) (NoPanic.normal ?_) _
    go_wp2_with fail
    go_meet
    case rel => exact ⟨rfl, Lib.hid S2⟩
  case rest =>
    obtain ⟨rfl, PX⟩ := hcut
    clear P0 HX HY HB
    obtain ⟨x0, x1, x2⟩ := PX.out.a.cells
    obtain ⟨y0, y1, y2⟩ := PX.out.b.cells
    dsimp only at x0 x1 x2 y0 y1 y2
    cases B
    · cases xm <;> cases ym
      · go_wp2
        go_ret
        exact ⟨by rw [HR.out] <;> rfl, PX.out.bl⟩
      all_goals
        cases A1
        · go_wp2_with (go_at_call 92; (first | (with_reducible refine (HA.out _).mono ?_) | (with_reducible refine (HC.out _).mono ?_)); rintro e w' ⟨rfl, bx⟩; have PX := Lib.hid (PX.out.grow bx); clear x0 x1 x2 y0 y1 y2 bx; obtain ⟨x0, x1, x2⟩ := PX.out.a.cells; obtain ⟨y0, y1, y2⟩ := PX.out.b.cells; dsimp only at x0 x1 x2 y0 y1 y2)
          go_ret
          exact ⟨by rw [HR.out]; simp, PX.out.bl⟩
        · go_wp2_with (go_at_call 92; (first | (with_reducible refine (HA.out _).mono ?_) | (with_reducible refine (HC.out _).mono ?_)); rintro e w' ⟨rfl, bx⟩; have PX := Lib.hid (PX.out.grow bx); clear x0 x1 x2 y0 y1 y2 bx; obtain ⟨x0, x1, x2⟩ := PX.out.a.cells; obtain ⟨y0, y1, y2⟩ := PX.out.b.cells; dsimp only at x0 x1 x2 y0 y1 y2)
          go_ret
          exact ⟨by rw [HR.out]; simp, PX.out.bl⟩
    · go_wp2
      go_ret
      exact ⟨by rw [HR.out] <;> rfl, PX.out.bl⟩

end Go.Proofs.Ytbjoibgkhooljaa
