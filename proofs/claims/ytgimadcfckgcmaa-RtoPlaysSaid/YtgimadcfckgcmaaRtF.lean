/-
  Layer 14: the document's New; a clock beside the document's, in a box of the statement's own. Conditions: as said.
-/
import Derived.Test.YtgimadcfckgcmaaRtE
import Derived.StillTailTactics
namespace Go.Proofs.Ytgimadcfckgcmaa
open Go.RowKit
set_option linter.unusedVariables false

theorem region_tailT {P : Program} {id : Nat} {Q : Exit → Act → World → Prop} {a : Act} {w : World} {l : List Oper} (n : Nat) (hm : P.follows .mixedOrders = true) (hB : Region.lexTailB .any l.toArray n = true)
    (h : ∀ w', Below w.heap.size w w' → wpStill P l.toArray w' (fun a' => wpList P l.toArray Q (l.drop n) a' w') (l.take n) a) : (Code.region id l.toArray true).wp P Q a w :=
  wp_region_still_tail n hm hB (h _ (Below.refl _ _).drew)
set_option maxRecDepth 10000 in
set_option maxHeartbeats 2000000 in
theorem rNew_ok (w : World) (f l m : Int) (h1 : ¬ l < 1) (h2 : ¬ f < l) (h3 : ¬ m < f) (h4 : ¬ 1048576 < m) :
    Calls Try.prog 12 #[.int .i64 f, .int .i64 l, .int .i64 m] w fun e w' => e = .returned (.tuple #[.agg #[.int .i64 l, .int .i64 m, .int .i64 0, .int .i64 0, .bool false, .int .i64 f], .int .i64 0]) ∧ Below w.heap.size w w' := by
  have B1 := Lib.hid ((Below.refl w.heap.size w).alloc (Nat.le_refl _) (dkO 0 0 0 0 false 0))
  have X1 := Lib.hid (heap_alloc_new w (dkO 0 0 0 0 false 0))
  have d1 : decide (l < 1) = false := decide_eq_false h1
  have d2 : decide (f < l) = false := decide_eq_false h2
  have d3 : decide (m < f) = false := decide_eq_false h3
  have d4 : decide (1048576 < m) = false := decide_eq_false h4
  clear h1 h2 h3 h4
  go_enter Try.func12, Try.ntmps12
  go_upto_region 1 with fail
  unfold dkO at X1 B1
  generalize w.alloc _ = W1 at X1 B1 ⊢
  obtain ⟨n1, hn1⟩ : ∃ n1, n1 = w.heap.size := ⟨_, rfl⟩
  rw [← hn1] at X1 ⊢
  have HN := Lib.hid hn1
  clear hn1
  have ST := Lib.hid (st_dk (l' := l) (m' := m) (a' := 0) (d' := 0) (b' := false) (t' := f) (show W1.heap[n1]? = some (dkO 0 0 0 0 false 0) from X1.out))
  have RW := Lib.hid (dk_row (l' := l) (m' := m) (a' := 0) (d' := 0) (b' := false) (t' := f) (show W1.heap[n1]? = some (dkO 0 0 0 0 false 0) from X1.out))
  have B4 := Lib.hid (below_setRowT B1.out (show w.heap.size ≤ n1 by rw [HN.out]; exact Nat.le_refl _) #[.int .i64 l, .int .i64 m, .int .i64 0, .int .i64 0, .bool false, .int .i64 f])
  clear X1 B1
  go_wp2_with (refine wpList_storeT 33 _ _ rfl rfl _ n1 rfl rfl ST.out ?_)
  exact bodyPost_ret (results_rowT2 _ 6 7 33 (by kernel_rfl) _ n1 _ _ _ _ rfl rfl RW.out Try.underlying33 rfl (by kernel_rfl)) rfl ⟨rfl, B4.out⟩
set_option maxRecDepth 10000 in
set_option maxHeartbeats 4000000 in
theorem rNew_bad (w : World) (f l m : Int) (h : l < 1 ∨ f < l ∨ m < f ∨ 1048576 < m) :
    Calls Try.prog 12 #[.int .i64 f, .int .i64 l, .int .i64 m] w fun e w' => e = .returned (.tuple #[.agg #[.int .i64 0, .int .i64 0, .int .i64 0, .int .i64 0, .bool false, .int .i64 0], .int .i64 1]) ∧ Below w.heap.size w w' := by
  have B1 := Lib.hid ((Below.refl w.heap.size w).alloc (Nat.le_refl _) (dkO 0 0 0 0 false 0))
  have X1 := Lib.hid (heap_alloc_new w (dkO 0 0 0 0 false 0))
  have HH := Lib.hid h
  clear h
  go_enter Try.func12, Try.ntmps12
  go_upto_region 1 with fail
  unfold dkO at X1 B1
  generalize w.alloc _ = W1 at X1 B1 ⊢
  obtain ⟨n1, hn1⟩ : ∃ n1, n1 = w.heap.size := ⟨_, rfl⟩
  rw [← hn1] at X1 ⊢
  have HN := Lib.hid hn1
  clear hn1
  have ST := Lib.hid (st_dk (l' := 0) (m' := 0) (a' := 0) (d' := 0) (b' := false) (t' := 0) (show W1.heap[n1]? = some (dkO 0 0 0 0 false 0) from X1.out))
  have RW := Lib.hid (dk_row (l' := 0) (m' := 0) (a' := 0) (d' := 0) (b' := false) (t' := 0) (show W1.heap[n1]? = some (dkO 0 0 0 0 false 0) from X1.out))
  have B4 := Lib.hid (below_setRowT B1.out (show w.heap.size ≤ n1 by rw [HN.out]; exact Nat.le_refl _) #[.int .i64 0, .int .i64 0, .int .i64 0, .int .i64 0, .bool false, .int .i64 0])
  clear X1 B1
  have h := HH.out
  clear HH
  by_cases h1 : l < 1
  · have d1 : decide (l < 1) = true := decide_eq_true h1
    clear h
    go_wp2_with (refine wpList_storeT 33 _ _ rfl rfl _ n1 rfl rfl ST.out ?_)
    exact bodyPost_ret (results_rowT2 _ 6 7 33 (by kernel_rfl) _ n1 _ _ _ _ rfl rfl RW.out Try.underlying33 rfl (by kernel_rfl)) rfl ⟨rfl, B4.out⟩
  · have d1 : decide (l < 1) = false := decide_eq_false h1
    by_cases h2 : f < l
    · have d2 : decide (f < l) = true := decide_eq_true h2
      clear h
      go_wp2_with (refine wpList_storeT 33 _ _ rfl rfl _ n1 rfl rfl ST.out ?_)
      exact bodyPost_ret (results_rowT2 _ 6 7 33 (by kernel_rfl) _ n1 _ _ _ _ rfl rfl RW.out Try.underlying33 rfl (by kernel_rfl)) rfl ⟨rfl, B4.out⟩
    · have d2 : decide (f < l) = false := decide_eq_false h2
      by_cases h3 : m < f
      · have d3 : decide (m < f) = true := decide_eq_true h3
        clear h
        go_wp2_with (refine wpList_storeT 33 _ _ rfl rfl _ n1 rfl rfl ST.out ?_)
        exact bodyPost_ret (results_rowT2 _ 6 7 33 (by kernel_rfl) _ n1 _ _ _ _ rfl rfl RW.out Try.underlying33 rfl (by kernel_rfl)) rfl ⟨rfl, B4.out⟩
      · have d3 : decide (m < f) = false := decide_eq_false h3
        have d4 : decide (1048576 < m) = true := decide_eq_true (by omega)
        clear h
        go_wp2_with (refine wpList_storeT 33 _ _ rfl rfl _ n1 rfl rfl ST.out ?_)
        exact bodyPost_ret (results_rowT2 _ 6 7 33 (by kernel_rfl) _ n1 _ _ _ _ rfl rfl RW.out Try.underlying33 rfl (by kernel_rfl)) rfl ⟨rfl, B4.out⟩

/-- A clock, and the document's in a box of the statement's own. -/
structure CkD (w w1 : World) (g x : Nat) (c c2 : CkV) : Prop where
  ck : CkS w w1 [(x, dkO c2.l c2.m c2.a c2.d c2.b c2.t)] g c
  x0 : w.heap.size ≤ x
section
variable {w w1 w2 : World} {g x : Nat} {c c2 : CkV}
theorem CkD.grow (h : CkD w w1 g x c c2) (k : Below w1.heap.size w1 w2) : CkD w w2 g x c c2 := ⟨h.ck.grow k, h.x0⟩
theorem CkD.bx (h : CkD w w1 g x c c2) : w1.heap[x]? = some (dkO c2.l c2.m c2.a c2.d c2.b c2.t) := (h.ck.fx _ (.head _)).1
theorem CkD.put (h : CkD w w1 g x c c2) (c3 : CkV) : CkD w (w1.setRow x #[.int .i64 c3.l, .int .i64 c3.m, .int .i64 c3.a, .int .i64 c3.d, .bool c3.b, .int .i64 c3.t]) g x c c3 := by
  have hne := (h.ck.fx _ (.head _)).2
  refine ⟨⟨(setRow_other w1 x g _ (fun e => hne e.symm)).trans h.ck.at_, h.ck.ok, below_setRowT h.ck.bl h.x0 _, h.ck.g0, fun y hy => ?_⟩, h.x0⟩
  rw [List.mem_singleton.1 hy]
  exact ⟨dk_row h.bx, hne⟩
theorem dMeas (h : CkD w w1 g x c c2) (r : Int) (c' : CkV) (hc : measV c r = c') :
    Calls Try.prog 9 #[.pointer (some ⟨g, 0, none⟩), .int .i64 r] w1 fun e w' => e = .returned (.tuple #[]) ∧ CkD w w' g x c' c2 :=
  (kMeas h.ck r c' hc).mono fun e w' ⟨e1, e2⟩ => ⟨e1, e2, h.x0⟩
theorem dBack (h : CkD w w1 g x c c2) (c' : CkV) (hc : backV c = c') :
    Calls Try.prog 10 #[.pointer (some ⟨g, 0, none⟩)] w1 fun e w' => e = .returned (.tuple #[]) ∧ CkD w w' g x c' c2 :=
  (kBack h.ck c' hc).mono fun e w' ⟨e1, e2⟩ => ⟨e1, e2, h.x0⟩
theorem rMeasD (c : CkV) (hk : c.ok) (r : Int) (c' : CkV) (hc : measV c r = c') (w : World) :
    Calls Try.prog 13 #[.agg #[.int .i64 c.l, .int .i64 c.m, .int .i64 c.a, .int .i64 c.d, .bool c.b, .int .i64 c.t], .int .i64 r] w fun e w' => e = .returned (.agg #[.int .i64 c'.l, .int .i64 c'.m, .int .i64 c'.a, .int .i64 c'.d, .bool c'.b, .int .i64 c'.t]) ∧ Below w.heap.size w w' := by
  subst hc
  exact rMeas w c hk r
theorem rBackD (c : CkV) (hk : c.ok) (c' : CkV) (hc : backV c = c') (w : World) :
    Calls Try.prog 14 #[.agg #[.int .i64 c.l, .int .i64 c.m, .int .i64 c.a, .int .i64 c.d, .bool c.b, .int .i64 c.t]] w fun e w' => e = .returned (.agg #[.int .i64 c'.l, .int .i64 c'.m, .int .i64 c'.a, .int .i64 c'.d, .bool c'.b, .int .i64 c'.t]) ∧ Below w.heap.size w w' := by
  subst hc
  have h1 := hk.l1
  have h2 := hk.lt
  have h3 := hk.tm
  have h4 := hk.m2
  exact rBack w c.l c.m c.a c.d c.b c.t (min (2 * c.t) c.m) ⟨by omega, by omega⟩ (by rw [bound_same _ _ _ (by omega)]; omega)
end
end Go.Proofs.Ytgimadcfckgcmaa
