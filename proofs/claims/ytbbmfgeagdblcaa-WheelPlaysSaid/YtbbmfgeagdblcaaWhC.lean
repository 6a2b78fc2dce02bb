/-
  Layer 5: the order in which timers are told: cmp.Compare, cmp.Or, inOrder. No conditions.
-/
import Derived.Test.YtbbmfgeagdblcaaWhB
import Derived.Sort.Grow
import Derived.StillTailTactics
import Derived.Deep.RegionHeld3
namespace Go.Proofs.Ytbbmfgeagdblcaa
open Go.RowKit Go.Sort

def Drew (w w' : World) : Prop := w' = w.drew
theorem Drew.grown {w w' : World} (d : Drew w w') : w.grownBy w' none := by subst d; exact ⟨rfl, rfl, rfl, Nat.le_refl _, fun _ _ _ => rfl⟩
theorem Drew.block {w w' : World} (d : Drew w w') (k : Nat) : w'.heap[k]? = w.heap[k]? := by subst d; rfl
theorem Drew.size {w w' : World} (d : Drew w w') : w'.heap.size = w.heap.size := by subst d; rfl
theorem Drew.turn {w w' : World} (d : Drew w w') (O : Nat → Prop) : Turn w w' O := Turn.of_grown d.grown (fun j h => by cases h)
/-- A region that draws its order, from a world behind the draw that is a letter. -/
theorem region_held {P : Program} {id : Nat} {ops : Array Oper} {Q : Exit → Act → World → Prop} {S : World → Prop} {a : Act} {w : World} (hm : P.follows .mixedOrders = true) (hS : ∀ w', Drew w w' → S w')
    (h : ∀ w', Drew w w' → S w' → wpAnyH P .any ops Q S ops.size (Array.replicate ops.size false) a w') : (Code.region id ops true).wp P Q a w :=
  wp_region_held hm (h _ rfl (hS _ rfl))

theorem ret_int {k : IntKind} {a b : Int} (h : a = b) : Ending.returned (.int k a) = .returned (.int k b) := by rw [h]

def orI (x y : Int) : Int := if x = 0 then y else x
def cmpI (x y : Int) : Int := if x < y then -1 else if y < x then 1 else 0

set_option maxHeartbeats 400000 in
theorem isNaN_any (x : Int) (w : World) : Calls Try.prog 82 #[.int .i64 x] w fun e w' => e = .returned (.bool false) ∧ w = w' := by
  go_enter Try.func82, Try.ntmps82
  go_wp2
  go_ret
  exact ⟨rfl, rfl⟩
set_option maxHeartbeats 400000 in
theorem compare_any (x y : Int) (w : World) : Calls Try.prog 61 #[.int .i64 x, .int .i64 y] w fun e w' => e = .returned (.int .i64 (cmpI x y)) ∧ w = w' := by
  unfold cmpI
  by_cases h1 : x < y
  · rw [if_pos h1]
    go_enter Try.func61, Try.ntmps61
    go_wp2_with (go_at_call 82; refine (isNaN_any _ _).mono ?_; rintro e w' ⟨rfl, rfl⟩)
    go_ret
    exact ⟨rfl, rfl⟩
  · have h1' : decide (x < y) = false := by simpa using h1
    rw [if_neg h1]
    by_cases h2 : y < x
    · rw [if_pos h2]
      clear h1
      go_enter Try.func61, Try.ntmps61
      go_wp2_with (go_at_call 82; refine (isNaN_any _ _).mono ?_; rintro e w' ⟨rfl, rfl⟩)
      go_ret
      exact ⟨rfl, rfl⟩
    · have h2' : decide (y < x) = false := by simpa using h2
      rw [if_neg h2]
      clear h1 h2
      go_enter Try.func61, Try.ntmps61
      go_wp2_with (go_at_call 82; refine (isNaN_any _ _).mono ?_; rintro e w' ⟨rfl, rfl⟩)
      go_ret
      exact ⟨rfl, rfl⟩

set_option maxHeartbeats 400000 in
theorem or_any (w : World) (b c : Nat) (x y : Int) (h0 : w.cell? ⟨b, 0, none⟩ = some (.int .i64 x)) (h1 : w.cell? ⟨b, 1, none⟩ = some (.int .i64 y)) :
    Calls Try.prog 60 #[.slice (some ⟨b, 0, none⟩) 2 c] w fun e w' => e = .returned (.int .i64 (orI x y)) ∧ w = w' := by
  unfold orI
  go_enter Try.func60, Try.ntmps60
  go_wp2
  go_loop [8] (fun i => ∃ k : Nat, k ≤ 2 ∧ i = .int .i64 k ∧ (1 ≤ k → x = 0) ∧ (2 ≤ k → y = 0)) (fun i => 2 - (intOf i).toNat)
  case atStart => exact ⟨0, by omega, rfl, fun h => by omega, fun h => by omega⟩
  case round =>
    obtain ⟨k, hk, rfl, hx, hy⟩ := hrel
    match k, hk, hx, hy with
    | 0, _, _, _ =>
      by_cases hx0 : x = 0
      · subst hx0
        go_wp2
        go_round
        case rel => exact ⟨1, by omega, rfl, by simp, by simp⟩
        case measure => simp [intOf]
      · have hxb : (x != 0) = true := by simpa using hx0
        go_wp2
        go_ret
        exact ⟨rfl, rfl⟩
    | 1, _, hx, _ =>
      obtain rfl := hx (by omega)
      by_cases hy0 : y = 0
      · subst hy0
        go_wp2
        go_round
        case rel => exact ⟨2, by omega, rfl, by simp, by simp⟩
        case measure => simp [intOf]
      · have hyb : (y != 0) = true := by simpa using hy0
        go_wp2
        go_ret
        exact ⟨rfl, rfl⟩
    | 2, _, hx, hy =>
      obtain rfl := hx (by omega)
      obtain rfl := hy (by omega)
      go_wp2
      go_ret
      exact ⟨rfl, rfl⟩

/-- Which of two timers is told first. -/
def cmpT {X : Type} (x y : Tm X) : Int := orI (cmpI x.due y.due) (cmpI x.id y.id)

/-- Two blocks that a call has laid. -/
def TwoS (t : TypeId) (w0 w : World) (xs ys : List Value) : Prop := w.heap[w0.heap.size]? = some (.cells xs.toArray t (0, 0)) ∧ w.heap[w0.heap.size + 1]? = some (.cells ys.toArray t (0, 0))
section
variable {t : TypeId} {w0 w w' : World} {xs ys : List Value} {a b c : Value}
theorem TwoS.kept (h : TwoS t w0 w xs ys) (k : ∀ x, x < w.heap.size → w'.heap[x]? = w.heap[x]?) : TwoS t w0 w' xs ys :=
  ⟨(k _ (Array.getElem?_eq_some_iff.1 h.1).1).trans h.1, (k _ (Array.getElem?_eq_some_iff.1 h.2).1).trans h.2⟩
theorem TwoS.alloc (h : TwoS t w0 w xs ys) (o : Obj) : TwoS t w0 (w.alloc o) xs ys := h.kept fun x hx => (World.grownBy_alloc w o none).block x hx (by simp)
theorem TwoS.x0 (h : TwoS t w0 w [a, b, c] ys) : w.cell? ⟨w0.heap.size, 0, none⟩ = some a := cell_of_cells h.1
theorem TwoS.x1 (h : TwoS t w0 w [a, b, c] ys) : w.cell? ⟨w0.heap.size, 1, none⟩ = some b := cell_of_cells h.1
theorem TwoS.y0 (h : TwoS t w0 w xs [a, b, c]) : w.cell? ⟨w0.heap.size + 1, 0, none⟩ = some a := cell_of_cells h.2
theorem TwoS.y1 (h : TwoS t w0 w xs [a, b, c]) : w.cell? ⟨w0.heap.size + 1, 1, none⟩ = some b := cell_of_cells h.2
end

set_option maxRecDepth 100000 in
set_option maxHeartbeats 1000000 in
theorem inOrder_anyI (x y : Tm Int) (w : World) :
    Calls Try.prog 41 #[.agg (Tm.cells (Value.int .i64) x).toArray, .agg (Tm.cells (Value.int .i64) y).toArray] w fun e w' => e = .returned (.int .i64 (cmpT x y)) ∧ ∃ q os', w' = grow (w.drewN q) os' := by
  obtain ⟨xi, xd, xx⟩ := x
  obtain ⟨yi, yd, yx⟩ := y
  show Calls Try.prog 41 #[.agg #[.int .i64 xi, .int .i64 xd, (Value.int .i64) xx], .agg #[.int .i64 yi, .int .i64 yd, (Value.int .i64) yx]] w fun e w' => e = .returned (.int .i64 (orI (cmpI xd yd) (cmpI xi yi))) ∧ ∃ q os', w' = grow (w.drewN q) os'
  have hc1 := fun w => compare_any xd yd w
  have hc2 := fun w => compare_any xi yi w
  generalize cmpI xd yd = r1 at hc1 ⊢
  generalize cmpI xi yi = r2 at hc2 ⊢
  have s1 : TwoS 79 w ((w.alloc (.cells #[.int .i64 xi, .int .i64 xd, (Value.int .i64) xx] 79)).alloc (.cells #[.int .i64 yi, .int .i64 yd, (Value.int .i64) yx] 79)) [.int .i64 xi, .int .i64 xd, (Value.int .i64) xx] [.int .i64 yi, .int .i64 yd, (Value.int .i64) yx] :=
    ⟨heap_alloc2_old w _ _, heap_alloc2_new w _ _⟩
  go_enter Try.func41, Try.ntmps41
  go_wp2_with fail
  generalize HW : (w.alloc _).alloc _ = W1 at s1 ⊢
  refine wp_region_noPanic ?_
  refine region_held (S := fun w' => TwoS 79 w w' [.int .i64 xi, .int .i64 xd, (Value.int .i64) xx] [.int .i64 yi, .int .i64 yd, (Value.int .i64) yx]) (by kernel_rfl) (fun V d => s1.kept (fun x _ => d.block x)) (fun V d hS => ?_)
  refine wpAnyH_take (i := 0) (v := (.pointer (some ⟨w.heap.size, 1, none⟩))) rfl (by kernel_rfl) (by kernel_rfl) (by kernel_rfl) (fun _ _ _ h => h) (Or.inl ⟨by rfl, fun w' h' => ?_⟩) hS ?_
  · clear h'
    go_simp
  simp only [Act.put]
  refine wpAnyH_take (i := 1) (v := (.int .i64 xd)) rfl (by kernel_rfl) (by kernel_rfl) (by kernel_rfl) (fun _ _ _ h => h) (Or.inl ⟨by rfl, fun w' h' => ?_⟩) hS ?_
  · have c0 := h'.x1
    clear h'
    go_simp
  simp only [Act.put]
  refine wpAnyH_take (i := 2) (v := (.pointer (some ⟨w.heap.size + 1, 1, none⟩))) rfl (by kernel_rfl) (by kernel_rfl) (by kernel_rfl) (fun _ _ _ h => h) (Or.inl ⟨by rfl, fun w' h' => ?_⟩) hS ?_
  · clear h'
    go_simp
  simp only [Act.put]
  refine wpAnyH_take (i := 3) (v := (.int .i64 yd)) rfl (by kernel_rfl) (by kernel_rfl) (by kernel_rfl) (fun _ _ _ h => h) (Or.inl ⟨by rfl, fun w' h' => ?_⟩) hS ?_
  · have c0 := h'.y1
    clear h'
    go_simp
  simp only [Act.put]
  refine wpAnyH_take (i := 5) (v := (.pointer (some ⟨w.heap.size, 0, none⟩))) rfl (by kernel_rfl) (by kernel_rfl) (by kernel_rfl) (fun _ _ _ h => h) (Or.inl ⟨by rfl, fun w' h' => ?_⟩) hS ?_
  · clear h'
    go_simp
  simp only [Act.put]
  refine wpAnyH_take (i := 6) (v := (.int .i64 xi)) rfl (by kernel_rfl) (by kernel_rfl) (by kernel_rfl) (fun _ _ _ h => h) (Or.inl ⟨by rfl, fun w' h' => ?_⟩) hS ?_
  · have c0 := h'.x0
    clear h'
    go_simp
  simp only [Act.put]
  refine wpAnyH_take (i := 7) (v := (.pointer (some ⟨w.heap.size + 1, 0, none⟩))) rfl (by kernel_rfl) (by kernel_rfl) (by kernel_rfl) (fun _ _ _ h => h) (Or.inl ⟨by rfl, fun w' h' => ?_⟩) hS ?_
  · clear h'
    go_simp
  simp only [Act.put]
  refine wpAnyH_take (i := 8) (v := (.int .i64 yi)) rfl (by kernel_rfl) (by kernel_rfl) (by kernel_rfl) (fun _ _ _ h => h) (Or.inl ⟨by rfl, fun w' h' => ?_⟩) hS ?_
  · have c0 := h'.y0
    clear h'
    go_simp
  simp only [Act.put]
  refine wpAnyH_ready (rs := [4]) (by kernel_rfl) (by simp) ?_
  refine AllReadyH.cons rfl (fun K hK => ?_) AllReadyH.nil
  go_simp
  refine (hc1 _).mono ?_
  rintro e w2 ⟨rfl, rfl⟩
  go_simp
  refine hK.out _ _ hS (fun _ => ?_)
  clear hK K
  refine wpAnyH_ready (rs := [9]) (by kernel_rfl) (by simp) ?_
  refine AllReadyH.cons rfl (fun K hK => ?_) AllReadyH.nil
  go_simp
  refine (hc2 _).mono ?_
  rintro e w2 ⟨rfl, rfl⟩
  go_simp
  refine hK.out _ _ hS (fun _ => ?_)
  clear hK K
  refine wpAnyH_ready (rs := [10]) (by kernel_rfl) (by simp) ?_
  refine AllReadyH.cons rfl (fun K hK => ?_) AllReadyH.nil
  go_simp
  have hS2 := hS.alloc (.cells #[.int .i64 r1, .int .i64 r2] 3)
  refine hK.out _ _ hS2 (fun _ => ?_)
  clear hK K
  refine wpAnyH_ready (rs := [11]) (by kernel_rfl) (by simp) ?_
  refine AllReadyH.cons rfl (fun K hK => ?_) AllReadyH.nil
  go_simp
  refine (or_any _ V.heap.size 2 r1 r2 (cell_of_cells (_root_.Go.heap_alloc_new V _)) (cell_of_cells (_root_.Go.heap_alloc_new V _))).mono ?_
  rintro e w2 ⟨rfl, rfl⟩
  go_simp
  refine hK.out _ _ hS2 (fun _ => ?_)
  clear hK K
  refine wpAnyH_take (i := 12) (oi := ⟨some 4, Op.assign (Operand.tmp 16), _, _, _, none⟩) (v := (.int .i64 (orI r1 r2))) rfl (by kernel_rfl) (by kernel_rfl) (by kernel_rfl) (fun _ _ _ h => h) (Or.inl ⟨by rfl, fun w' h' => ?_⟩) hS2 ?_
  · clear h'
    go_simp
  simp only [Act.put]
  refine wpAnyH_done (by kernel_rfl) (NoPanic.normal ?_) _
  clear hS hS2 s1 hc1 hc2
  go_wp2_with fail
  go_ret
  unfold Drew at d
  exact ⟨rfl, 1, _, by simp only [d, ← HW, alloc_eq_grow, grow_grow, drew_grow]; rfl⟩
set_option maxRecDepth 100000 in
set_option maxHeartbeats 1000000 in
theorem inOrder_anyS (x y : Tm ByteArray) (w : World) :
    Calls Try.prog 56 #[.agg (Tm.cells Value.string x).toArray, .agg (Tm.cells Value.string y).toArray] w fun e w' => e = .returned (.int .i64 (cmpT x y)) ∧ ∃ q os', w' = grow (w.drewN q) os' := by
  obtain ⟨xi, xd, xx⟩ := x
  obtain ⟨yi, yd, yx⟩ := y
  show Calls Try.prog 56 #[.agg #[.int .i64 xi, .int .i64 xd, Value.string xx], .agg #[.int .i64 yi, .int .i64 yd, Value.string yx]] w fun e w' => e = .returned (.int .i64 (orI (cmpI xd yd) (cmpI xi yi))) ∧ ∃ q os', w' = grow (w.drewN q) os'
  have hc1 := fun w => compare_any xd yd w
  have hc2 := fun w => compare_any xi yi w
  generalize cmpI xd yd = r1 at hc1 ⊢
  generalize cmpI xi yi = r2 at hc2 ⊢
  have s1 : TwoS 111 w ((w.alloc (.cells #[.int .i64 xi, .int .i64 xd, Value.string xx] 111)).alloc (.cells #[.int .i64 yi, .int .i64 yd, Value.string yx] 111)) [.int .i64 xi, .int .i64 xd, Value.string xx] [.int .i64 yi, .int .i64 yd, Value.string yx] :=
    ⟨heap_alloc2_old w _ _, heap_alloc2_new w _ _⟩
  go_enter Try.func56, Try.ntmps56
  go_wp2_with fail
  generalize HW : (w.alloc _).alloc _ = W1 at s1 ⊢
  refine wp_region_noPanic ?_
  refine region_held (S := fun w' => TwoS 111 w w' [.int .i64 xi, .int .i64 xd, Value.string xx] [.int .i64 yi, .int .i64 yd, Value.string yx]) (by kernel_rfl) (fun V d => s1.kept (fun x _ => d.block x)) (fun V d hS => ?_)
  refine wpAnyH_take (i := 0) (v := (.pointer (some ⟨w.heap.size, 1, none⟩))) rfl (by kernel_rfl) (by kernel_rfl) (by kernel_rfl) (fun _ _ _ h => h) (Or.inl ⟨by rfl, fun w' h' => ?_⟩) hS ?_
  · clear h'
    go_simp
  simp only [Act.put]
  refine wpAnyH_take (i := 1) (v := (.int .i64 xd)) rfl (by kernel_rfl) (by kernel_rfl) (by kernel_rfl) (fun _ _ _ h => h) (Or.inl ⟨by rfl, fun w' h' => ?_⟩) hS ?_
  · have c0 := h'.x1
    clear h'
    go_simp
  simp only [Act.put]
  refine wpAnyH_take (i := 2) (v := (.pointer (some ⟨w.heap.size + 1, 1, none⟩))) rfl (by kernel_rfl) (by kernel_rfl) (by kernel_rfl) (fun _ _ _ h => h) (Or.inl ⟨by rfl, fun w' h' => ?_⟩) hS ?_
  · clear h'
    go_simp
  simp only [Act.put]
  refine wpAnyH_take (i := 3) (v := (.int .i64 yd)) rfl (by kernel_rfl) (by kernel_rfl) (by kernel_rfl) (fun _ _ _ h => h) (Or.inl ⟨by rfl, fun w' h' => ?_⟩) hS ?_
  · have c0 := h'.y1
    clear h'
    go_simp
  simp only [Act.put]
  refine wpAnyH_take (i := 5) (v := (.pointer (some ⟨w.heap.size, 0, none⟩))) rfl (by kernel_rfl) (by kernel_rfl) (by kernel_rfl) (fun _ _ _ h => h) (Or.inl ⟨by rfl, fun w' h' => ?_⟩) hS ?_
  · clear h'
    go_simp
  simp only [Act.put]
  refine wpAnyH_take (i := 6) (v := (.int .i64 xi)) rfl (by kernel_rfl) (by kernel_rfl) (by kernel_rfl) (fun _ _ _ h => h) (Or.inl ⟨by rfl, fun w' h' => ?_⟩) hS ?_
  · have c0 := h'.x0
    clear h'
    go_simp
  simp only [Act.put]
  refine wpAnyH_take (i := 7) (v := (.pointer (some ⟨w.heap.size + 1, 0, none⟩))) rfl (by kernel_rfl) (by kernel_rfl) (by kernel_rfl) (fun _ _ _ h => h) (Or.inl ⟨by rfl, fun w' h' => ?_⟩) hS ?_
  · clear h'
    go_simp
  simp only [Act.put]
  refine wpAnyH_take (i := 8) (v := (.int .i64 yi)) rfl (by kernel_rfl) (by kernel_rfl) (by kernel_rfl) (fun _ _ _ h => h) (Or.inl ⟨by rfl, fun w' h' => ?_⟩) hS ?_
  · have c0 := h'.y0
    clear h'
    go_simp
  simp only [Act.put]
  refine wpAnyH_ready (rs := [4]) (by kernel_rfl) (by simp) ?_
  refine AllReadyH.cons rfl (fun K hK => ?_) AllReadyH.nil
  go_simp
  refine (hc1 _).mono ?_
  rintro e w2 ⟨rfl, rfl⟩
  go_simp
  refine hK.out _ _ hS (fun _ => ?_)
  clear hK K
  refine wpAnyH_ready (rs := [9]) (by kernel_rfl) (by simp) ?_
  refine AllReadyH.cons rfl (fun K hK => ?_) AllReadyH.nil
  go_simp
  refine (hc2 _).mono ?_
  rintro e w2 ⟨rfl, rfl⟩
  go_simp
  refine hK.out _ _ hS (fun _ => ?_)
  clear hK K
  refine wpAnyH_ready (rs := [10]) (by kernel_rfl) (by simp) ?_
  refine AllReadyH.cons rfl (fun K hK => ?_) AllReadyH.nil
  go_simp
  have hS2 := hS.alloc (.cells #[.int .i64 r1, .int .i64 r2] 3)
  refine hK.out _ _ hS2 (fun _ => ?_)
  clear hK K
  refine wpAnyH_ready (rs := [11]) (by kernel_rfl) (by simp) ?_
  refine AllReadyH.cons rfl (fun K hK => ?_) AllReadyH.nil
  go_simp
  refine (or_any _ V.heap.size 2 r1 r2 (cell_of_cells (_root_.Go.heap_alloc_new V _)) (cell_of_cells (_root_.Go.heap_alloc_new V _))).mono ?_
  rintro e w2 ⟨rfl, rfl⟩
  go_simp
  refine hK.out _ _ hS2 (fun _ => ?_)
  clear hK K
  refine wpAnyH_take (i := 12) (oi := ⟨some 4, Op.assign (Operand.tmp 16), _, _, _, none⟩) (v := (.int .i64 (orI r1 r2))) rfl (by kernel_rfl) (by kernel_rfl) (by kernel_rfl) (fun _ _ _ h => h) (Or.inl ⟨by rfl, fun w' h' => ?_⟩) hS2 ?_
  · clear h'
    go_simp
  simp only [Act.put]
  refine wpAnyH_done (by kernel_rfl) (NoPanic.normal ?_) _
  clear hS hS2 s1 hc1 hc2
  go_wp2_with fail
  go_ret
  unfold Drew at d
  exact ⟨rfl, 1, _, by simp only [d, ← HW, alloc_eq_grow, grow_grow, drew_grow]; rfl⟩

end Go.Proofs.Ytbbmfgeagdblcaa
