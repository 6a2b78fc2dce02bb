/-
  Layer 5: the document's wheel: Next, Cancel. Conditions: as said.
-/
import Derived.Test.YtbbmfgeagdblcaaWhP
namespace Go.Proofs.Ytbbmfgeagdblcaa
open Go.RowKit Go.Sort Go.Shelf

/-- The document's timers, as a slice reads. -/
abbrev RRow (w : World) (v : Value) (L : List (Tm Int)) : Prop := Row 77 (Value.int .i64) w v L
/-- The document's wheel, as a value. -/
abbrev rVal (p : Option Addr) (n c : Nat) (now last : Int) : Value := .agg #[.slice p n c, .int .i64 now, .int .i64 last]

theorem info_rt : ∃ i z, Try.prog.info? 77 = some i ∧ i.zero = some z ∧ i.size = 3 ∧ i.bytes = 24 ∧ z.cells.size = 3 := by
  have h : (Try.prog.info? 77).map (fun i => (i.zero.map (fun z => z.cells.size), i.size, i.bytes)) = some (some 3, 3, 24) := by kernel_rfl
  cases hi : Try.prog.info? 77 with
  | none => rw [hi] at h; cases h
  | some i =>
    rw [hi] at h
    simp only [Option.map_some, Option.some.injEq, Prod.mk.injEq] at h
    obtain ⟨h1, h2, h3⟩ := h
    cases hz : i.zero with
    | none => rw [hz] at h1; cases h1
    | some z => rw [hz] at h1; exact ⟨i, z, rfl, hz, h2, h3, by simpa using h1⟩

theorem least_cons {X : Type} (t : Tm X) (l : List (Tm X)) (j : Nat) : least ((t :: l).take (j + 1)) ≠ none := fun h => by
  have := least_none.1 h
  simp at this

set_option maxRecDepth 100000 in
set_option maxHeartbeats 1000000 in
theorem rNext (w : World) (p : Option Addr) (c : Nat) (now last : Int) (L : List (Tm Int)) (h : RRow w (.slice p L.length c) L) (hL : L.length ≤ 100000) :
    Calls Try.prog 18 #[rVal p L.length c now last] w fun e w' => e = .returned (.tuple #[.int .i64 ((least L).getD 0), .bool (least L).isSome]) ∧ Turn w w' (fun _ => False) := by
  have T0 := (Turn.refl w (fun _ => False)).alloc (.cells #[.slice p L.length c, .int .i64 now, .int .i64 last] 28)
  by_cases h0 : L = []
  · subst h0
    go_enter Try.func18, Try.ntmps18
    go_wp2_with fail
    go_ret2
    exact ⟨rfl, T0⟩
  · have hpos : 0 < L.length := by
      rcases Nat.eq_zero_or_pos L.length with h | h
      · exact absurd (List.length_eq_zero_iff.1 h) h0
      · exact h
    obtain ⟨b, cap, hv, _, _, hbl, hE⟩ := Row.elem h hpos
    injection hv with hp _ hc
    subst hp hc
    have HD := Lib.hid (fun (j : Nat) (hj : j < L.length) => hE j hj 1 (.int .i64 L[j].due) rfl)
    have hz := HD.out 0 hpos
    rw [Nat.zero_mul, Nat.zero_add] at hz
    have hbn : b ≠ w.heap.size := by omega
    have hne : ((L.length : Int) == 0) = false := by simp; omega
    have hl1 : (0 : Int) < (L.length : Int) := by omega
    have HL1 : Hid (least (L.take 1) = some L[0].due) := Lib.hid (by rw [take_one L 0 hpos]; rfl)
    have HSN := Lib.hid (fun (j : Nat) (hj : j < L.length) (d : Int) (h : least (L.take j) = some d) => (show least (L.take (j + 1)) = some (if L[j].due < d then L[j].due else d) by rw [take_one L j hj, least_snoc, h]))
    clear h hE
    generalize L[0].due = d0 at hz HL1
    go_enter Try.func18, Try.ntmps18
    go_wp2_with fail
    go_loop [4, 5] (fun m i => ∃ (j : Nat) (d : Int), 1 ≤ j ∧ j ≤ L.length ∧ i = .int .i64 j ∧ m = .int .i64 d ∧ Hid (least (L.take j) = some d)) (fun _ i => L.length - (intOf i).toNat)
    case atStart => exact ⟨1, d0, Nat.le_refl _, hpos, rfl, rfl, HL1⟩
    case round =>
      obtain ⟨j, d, hj1, hj, rfl, rfl, HL⟩ := hrel
      by_cases hjl : j < L.length
      · have hd : decide ((j : Int) < (L.length : Int)) = true := by simp; omega
        have hjb : (j : Int) < (L.length : Int) := by omega
        have cj := HD.out j hjl
        have hs := HSN.out j hjl d HL.out
        generalize L[j].due = t at cj hs
        have HS := Lib.hid hs
        clear hs hz HL1
        by_cases hlt : t < d
        · have hlt2 : decide (t < d) = true := by simpa using hlt
          go_wp2_with fail
          go_round
          case rel => exact ⟨j + 1, t, by omega, by omega, by go_num, rfl, by rw [HS.out, if_pos hlt]; exact Lib.hid rfl⟩
          case measure => simp [intOf]; omega
        · have hlt2 : decide (t < d) = false := by simpa using hlt
          go_wp2_with fail
          go_round
          case rel => exact ⟨j + 1, d, by omega, by omega, by go_num, rfl, by rw [HS.out, if_neg hlt]; exact Lib.hid rfl⟩
          case measure => simp [intOf]; omega
      · have hjj : j = L.length := by omega
        have hd : decide ((j : Int) < (L.length : Int)) = false := by simp; omega
        have HF : Hid (least L = some d) := Lib.hid (by have := HL.out; rw [hjj, List.take_length] at this; exact this)
        clear hjj HL hz HL1
        go_wp2_with fail
        go_ret2
        exact ⟨by rw [HF.out]; rfl, T0⟩

theorem shorter {id : Int} {L : List (Tm Int)} : decide ((without id L).length < L.length) = holdsId id L := by
  rw [Bool.eq_iff_iff]
  unfold without holdsId
  rw [decide_eq_true_eq, List.any_eq_true, List.length_filter_lt_length_iff_exists]
  simp
theorem without_take {id : Int} {L : List (Tm Int)} (j : Nat) (hj : j < L.length) : without id (L.take (j + 1)) = if L[j].id = id then without id (L.take j) else without id (L.take j) ++ [L[j]] := by
  rw [take_one L j hj]
  unfold without
  rw [List.filter_append]
  by_cases h : L[j].id = id <;> simp [h]

/-- While the document's Cancel goes through its timers: its box, its result's block, and what is kept so far. -/
def RcS (w wr : World) (bx : Value) (now last : Int) (va : Value) (l : List (Tm Int)) : Prop :=
  wr.heap[w.heap.size]? = some (.cells #[bx, .int .i64 now, .int .i64 last] 28 (0, 0)) ∧ (∃ x y z, wr.heap[w.heap.size + 1]? = some (.cells #[x, y, z] 28 (0, 0))) ∧
    RRow wr va l ∧ (∀ k, va.ownBlock = some k → w.heap.size + 2 ≤ k) ∧ Turn w wr (fun _ => False)
theorem RcS.grown {w wr w' : World} {bx va va' : Value} {now last : Int} {l l' : List (Tm Int)} (h : RcS w wr bx now last va l) (hr : RRow w' va' l') (hg : wr.grownBy w' va.ownBlock) (hb : va'.ownBlock = va.ownBlock ∨ va'.ownBlock = some wr.heap.size) : RcS w w' bx now last va' l' := by
  obtain ⟨h1, ⟨x, y, z, h2⟩, h3, h4, h5⟩ := h
  have z1 := (Array.getElem?_eq_some_iff.1 h2).1
  refine ⟨(hg.block _ (Array.getElem?_eq_some_iff.1 h1).1 (fun e => by have := h4 _ e.symm; omega)).trans h1, ⟨x, y, z, (hg.block _ z1 (fun e => by have := h4 _ e.symm; omega)).trans h2⟩, hr, fun k hk => ?_, h5.step (Turn.of_grown (O := fun j => va.ownBlock = some j) hg (fun j h => h)) (fun j hj => by have := h4 j hj; omega)⟩
  rcases hb with hb | hb
  · exact h4 k (by rw [← hb]; exact hk)
  · rw [hb] at hk; injection hk with hk; omega
theorem r_cells {w : World} {g : Nat} {t : TypeId} {y0 y1 y2 : Value} (h : w.heap[g + 1]? = some (.cells #[y0, y1, y2] t (0, 0))) (x0 x1 x2 z : Value) (j : Nat) :
    ((((w.setCell ⟨g, 0, none⟩ z).setCell ⟨g + 1, 0, none⟩ x0).setCell ⟨g + 1, 1, none⟩ x1).setCell ⟨g + 1, 2, none⟩ x2).cell? ⟨g + 1, j, none⟩ = #[x0, x1, x2][j]? := by
  have h2 : (w.setCell ⟨g, 0, none⟩ z).heap[g + 1]? = some (.cells #[y0, y1, y2] t (0, 0)) := by rw [heap_setCell_other _ _ _ _ (by simp)]; exact h
  rw [cell_of_cells (heap_setCell_same _ _ 2 _ _ x2 (heap_setCell_same _ _ 1 _ _ x1 (heap_setCell_same _ _ 0 _ _ x0 h2)))]
  rfl
theorem RcS.alloc {w wr : World} {bx va : Value} {now last : Int} {l : List (Tm Int)} (h : RcS w wr bx now last va l) (o : Obj) : RcS w (wr.alloc o) bx now last va l := by
  obtain ⟨h1, ⟨x, y, z, h2⟩, h3, h4, h5⟩ := h
  have k := World.grownBy_alloc wr o none
  exact ⟨(k.block _ (Array.getElem?_eq_some_iff.1 h1).1 (by simp)).trans h1, ⟨x, y, z, (k.block _ (Array.getElem?_eq_some_iff.1 h2).1 (by simp)).trans h2⟩, h3.kept k (by cases va.ownBlock <;> simp), h4, h5.alloc o⟩

set_option maxRecDepth 100000 in
set_option maxHeartbeats 1000000 in
theorem rCancel (w : World) (p : Option Addr) (c : Nat) (now last : Int) (L : List (Tm Int)) (id : Int) (h : RRow w (.slice p L.length c) L) (hL : L.length ≤ 100000) :
    Calls Try.prog 13 #[rVal p L.length c now last, .int .i64 id] w fun e w' => ∃ p' c', e = .returned (.tuple #[rVal p' (without id L).length c' now last, .bool (holdsId id L)]) ∧
      RRow w' (.slice p' (without id L).length c') (without id L) ∧ (∀ k, (Value.slice p' (without id L).length c').ownBlock = some k → w.heap.size ≤ k) ∧ Turn w w' (fun _ => False) := by
  have S0 : RcS w ((w.alloc (.cells #[.slice p L.length c, .int .i64 now, .int .i64 last] 28)).alloc (.cells #[.slice none 0 0, .int .i64 0, .int .i64 0] 28)) (.slice p L.length c) now last (.slice none 0 0) [] :=
    ⟨heap_alloc2_old w _ _, ⟨_, _, _, heap_alloc2_new w _ _⟩, World.ownsRow_nil _ _ _ _, fun k hk => by simp [Value.ownBlock] at hk, ((Turn.refl w _).alloc _).alloc _⟩
  obtain ⟨i0, z0, hi, hz0, hz1, hz2, hz3⟩ := info_rt
  have HI := Lib.hid hi
  have HZ0 := Lib.hid hz0
  have HZ1 := Lib.hid hz1
  have HZ2 := Lib.hid hz2
  have HZ3 := Lib.hid hz3
  have h64 : 24 ≤ 64 := by decide
  have R := Lib.hid h
  have HSH := Lib.hid (shorter (id := id) (L := L))
  clear hi hz0 hz1 hz2 hz3 h
  go_enter Try.func13, Try.ntmps13
  go_wp2_with fail
  generalize (w.alloc _).alloc _ = W0 at S0 ⊢
  go_loopw [6, 7] (fun va i wr => ∃ j : Nat, j ≤ L.length ∧ i = .int .i64 j ∧ RcS w wr (.slice p L.length c) now last va (without id (L.take j))) (fun _ i _ => L.length - (intOf i).toNat)
  case atStart => exact ⟨0, Nat.zero_le _, rfl, S0⟩
  case round =>
    obtain ⟨j, hj, rfl, S⟩ := hrel
    have b0 := (cell_of_cells (i := 0) S.1 : wr.cell? ⟨w.heap.size, 0, none⟩ = some (.slice p L.length c))
    by_cases hjl : j < L.length
    · have hd : decide ((j : Int) < (L.length : Int)) = true := by simp; omega
      have hjb : (j : Int) < (L.length : Int) := by omega
      have R2 := R.out.turn S.2.2.2.2 (fun _ _ h => h)
      obtain ⟨b, cap, hv, _, _, hbl, hE⟩ := Row.elem R2 (by omega)
      injection hv with hp _ hc
      subst hp hc
      have hE2 := hE j hjl
      have hwt := without_take (id := id) j hjl
      have hll : (without id (L.take j)).length ≤ 100000000 := by have h1 : (without id (L.take j)).length ≤ (L.take j).length := List.length_filter_le _ _; have h2 := List.length_take_le j L; omega
      clear hE R2
      generalize L[j] = t at hE2 hwt
      obtain ⟨ti, td, tx⟩ := t
      have e0 := (hE2 0 (.int .i64 ti) rfl : wr.cell? ⟨b, j * 3 + 0, none⟩ = some (.int .i64 ti))
      rw [Nat.add_zero] at e0
      have HE := Lib.hid hE2
      have HWT := Lib.hid hwt
      have HS := Lib.hid S
      clear hE2 hwt S
      by_cases hid : ti = id
      · have hb1 : (ti != id) = false := by simpa using hid
        go_wp2_with fail
        go_roundw
        case rel => exact ⟨j + 1, by omega, by go_num, by rw [HWT.out, if_pos hid]; exact HS.out⟩
        case measure => simp [intOf]; omega
      · have hb1 : (ti != id) = true := by simpa using hid
        have HS2 := Lib.hid (HS.out.alloc (.cells #[.int .i64 ti, .int .i64 td, .int .i64 tx] 77))
        have HNW := Lib.hid (cells_new (e := Value.int .i64) wr ⟨ti, td, tx⟩ 77)
        go_wp2_with (first | (refine wpList_load_mid rfl 77 (.tmp 28) rfl b (j * 3) rfl [.int .i64 ti, .int .i64 td, .int .i64 tx] _ HE.out Try.underlying77 rfl (by kernel_rfl) ?_) | (refine wpList_append_row rfl (.tmp 24) (.tmp 30) 26 rfl 77 i0 z0 24 Try.underlying26 HI.out HZ0.out HZ1.out HZ2.out h64 HZ3.out (Value.int .i64) (fun _ => rfl) u6 (without id (L.take j)) rfl HS2.out.2.2.1 hll ⟨wr.heap.size, 0, none⟩ 1 ⟨ti, td, tx⟩ rfl HNW.out ?_; intro v' w2 hrow hgr hbl2; have HS3 := Lib.hid (HS2.out.grown hrow hgr hbl2); clear hrow hgr hbl2))
        go_roundw
        case rel => exact ⟨j + 1, by omega, by go_num, by rw [HWT.out, if_neg hid]; exact HS3.out⟩
        case measure => simp [intOf]; omega
    · have hjj : j = L.length := by omega
      have hd : decide ((j : Int) < (L.length : Int)) = false := by simp; omega
      subst hjj
      rw [List.take_length] at S
      obtain ⟨p', c', hv'⟩ := Row.shape S.2.2.1
      subst hv'
      have b1 := (cell_of_cells (i := 1) S.1 : wr.cell? ⟨w.heap.size, 1, none⟩ = some (.int .i64 now))
      have b2 := (cell_of_cells (i := 2) S.1 : wr.cell? ⟨w.heap.size, 2, none⟩ = some (.int .i64 last))
      have f0 := (frozen_of_cells (i := 0) S.1)
      obtain ⟨x, y, z, hr⟩ := S.2.1
      have r0 := (cell_of_cells (i := 0) hr : wr.cell? ⟨w.heap.size + 1, 0, none⟩ = some x)
      have r1 := (cell_of_cells (i := 1) hr : wr.cell? ⟨w.heap.size + 1, 1, none⟩ = some y)
      have r2 := (cell_of_cells (i := 2) hr : wr.cell? ⟨w.heap.size + 1, 2, none⟩ = some z)
      have g0 := (frozen_of_cells (i := 0) hr)
      have g1 := (frozen_of_cells (i := 1) hr)
      have g2 := (frozen_of_cells (i := 2) hr)
      have HS := Lib.hid S
      clear S
      go_wp2_with fail
      have q0 := r_cells hr (.slice p' (without id L).length c') (.int .i64 now) (.int .i64 last) (.slice p' (without id L).length c') 0
      have q1 := r_cells hr (.slice p' (without id L).length c') (.int .i64 now) (.int .i64 last) (.slice p' (without id L).length c') 1
      have q2 := r_cells hr (.slice p' (without id L).length c') (.int .i64 now) (.int .i64 last) (.slice p' (without id L).length c') 2
      refine bodyPost_ret (v := .tuple #[rVal p' (without id L).length c' now last, .bool (holdsId id L)]) (by rw [← HSH.out]; simp [results, Try.results13, go_sem, q0, q1, q2]) rfl ⟨p', c', rfl, ?_, ?_, ?_⟩
      · exact ((((HS.out.2.2.1.set _ (fun k hk => by have := HS.out.2.2.2.1 k hk; omega)).set _ (fun k hk => by have := HS.out.2.2.2.1 k hk; omega)).set _ (fun k hk => by have := HS.out.2.2.2.1 k hk; omega)).set _ (fun k hk => by have := HS.out.2.2.2.1 k hk; omega))
      · intro k hk; have := HS.out.2.2.2.1 k hk; omega
      · exact HS.out.2.2.2.2.step (((((Turn.refl wr (fun j => w.heap.size ≤ j)).setCell (Nat.le_refl _) _ _).setCell (Nat.le_succ _) _ _).setCell (Nat.le_succ _) _ _).setCell (Nat.le_succ _) _ _) (fun j hj => hj)

theorem turn_drew (w : World) (O : Nat → Prop) : Turn w w.drew O := ⟨rfl, rfl, rfl, Nat.le_refl _, fun _ _ _ => rfl⟩

set_option maxRecDepth 100000 in
set_option maxHeartbeats 1000000 in
/-- The document's Set, where it refuses. -/
theorem rSet_bad (w : World) (p : Option Addr) (c : Nat) (now last : Int) (L : List (Tm Int)) (due x : Int) (hb : due < 0 ∨ 256 ≤ L.length) :
    Calls Try.prog 11 #[rVal p L.length c now last, .int .i64 due, .int .i64 x] w fun e w' => e = .returned (.tuple #[rVal p L.length c now last, .int .i64 0, .int .i64 (if due < 0 then 1 else 6)]) ∧ Turn w w' (fun _ => False) := by
  by_cases hd : due < 0
  · have hd2 : decide (due < 0) = true := by simpa using hd
    rw [if_pos hd]
    go_enter Try.func11, Try.ntmps11
    go_wp2_with fail
    refine bodyPost_ret (v := .tuple #[rVal p L.length c now last, .int .i64 0, .int .i64 1]) (by simp [results, Try.results11, go_sem]) rfl ⟨rfl, ((Turn.refl w _).alloc _).alloc _⟩
  · have hd2 : decide (due < 0) = false := by simpa using hd
    have hl : decide ((L.length : Int) ≥ 256) = true := by simp; omega
    have hl2 : decide ((256 : Int) ≤ (L.length : Int)) = true := by simp; omega
    rw [if_neg hd]
    go_enter Try.func11, Try.ntmps11
    go_wp2_with fail
    refine bodyPost_ret (v := .tuple #[rVal p L.length c now last, .int .i64 0, .int .i64 6]) (by simp [results, Try.results11, go_sem]) rfl ⟨rfl, ((Turn.refl w _).alloc _).alloc _⟩

set_option maxRecDepth 100000 in
set_option maxHeartbeats 1000000 in
/-- The document's Set, where it does. -/
theorem rSet_ok (w : World) (p : Option Addr) (c : Nat) (now last : Int) (L : List (Tm Int)) (due x : Int) (h : RRow w (.slice p L.length c) L) (hdue : 0 ≤ due) (hl256 : L.length < 256) (hlast : 0 ≤ last) (hlast2 : last ≤ 1000000) :
    Calls Try.prog 11 #[rVal p L.length c now last, .int .i64 due, .int .i64 x] w fun e w' => ∃ p' c', e = .returned (.tuple #[rVal p' (L.length + 1) c' now (last + 1), .int .i64 (last + 1), .int .i64 0]) ∧
      RRow w' (.slice p' (L.length + 1) c') (L ++ [⟨last + 1, due, x⟩]) ∧ (∀ k, (Value.slice p' (L.length + 1) c').ownBlock = some k → w.heap.size ≤ k) ∧ Turn w w' (fun _ => False) := by
  have S1 : RcS w ((w.alloc (.cells #[.slice p L.length c, .int .i64 now, .int .i64 (last + 1)] 28)).alloc (.cells #[.slice none 0 0, .int .i64 0, .int .i64 0] 28)) (.slice p L.length c) now (last + 1) (.slice none 0 0) [] :=
    ⟨heap_alloc2_old w _ _, ⟨_, _, _, heap_alloc2_new w _ _⟩, World.ownsRow_nil _ _ _ _, fun k hk => by simp [Value.ownBlock] at hk, ((Turn.refl w _).alloc _).alloc _⟩
  have R1 := h.turn S1.2.2.2.2 (fun _ _ h => h)
  obtain ⟨i0, z0, hi, hz0, hz1, hz2, hz3⟩ := info_rt
  have HI := Lib.hid hi
  have HZ0 := Lib.hid hz0
  have HZ1 := Lib.hid hz1
  have HZ2 := Lib.hid hz2
  have HZ3 := Lib.hid hz3
  have h64 : 24 ≤ 64 := by decide
  have hw1 : IntKind.i64.wrap (last + 1) = last + 1 := IntWalk.i64_in _ (by omega)
  have hd2 : decide (due < 0) = false := by simp; omega
  have hl : decide ((L.length : Int) ≥ 256) = false := by simp; omega
  have hl2 : decide ((256 : Int) ≤ (L.length : Int)) = false := by simp; omega
  have hll : ([] : List (Tm Int)).length + L.length ≤ 100000000 := by simp; omega
  have hll2 : L.length ≤ 100000000 := by omega
  have HS1 := Lib.hid S1
  have HR1 := Lib.hid R1
  clear hi hz0 hz1 hz2 hz3 h S1 R1
  go_enter Try.func11, Try.ntmps11
  go_wp2_with (first | (refine wpList_append_rows rfl (.tmp 22) (.tmp 24) 26 rfl 77 i0 z0 24 Try.underlying26 HI.out HZ0.out HZ1.out HZ2.out h64 HZ3.out (Value.int .i64) (fun _ => rfl) (.slice none 0 0) [] rfl HS1.out.2.2.1 (.slice p L.length c) L rfl HR1.out hll ?_; intro v2 w2 hrow hgr hbl; have HS2 := Lib.hid (HS1.out.grown hrow hgr hbl); have k2 := cell_of_cells (i := 2) HS2.out.1; have HS2a := Lib.hid (HS2.out.alloc (.cells #[.int .i64 (last + 1), .int .i64 due, .int .i64 x] 77)); have HNW := Lib.hid (cells_new (e := Value.int .i64) w2 ⟨last + 1, due, x⟩ 77); clear hrow hgr hbl) | (refine wpList_append_row rfl (.tmp 26) (.tmp 32) 26 rfl 77 i0 z0 24 Try.underlying26 HI.out HZ0.out HZ1.out HZ2.out h64 HZ3.out (Value.int .i64) (fun _ => rfl) v2 ([] ++ L) rfl HS2a.out.2.2.1 hll2 ⟨w2.heap.size, 0, none⟩ 1 ⟨last + 1, due, x⟩ rfl HNW.out ?_; intro v3 w3 hrow hgr hbl; have HS3 := Lib.hid (HS2a.out.grown hrow hgr hbl); obtain ⟨p', c', hv'⟩ := Row.shape hrow; subst hv'; have c0 := frozen_of_cells (i := 0) HS3.out.1; have b0 := cell_of_cells (i := 0) HS3.out.1; have b1 := cell_of_cells (i := 1) HS3.out.1; have b2 := cell_of_cells (i := 2) HS3.out.1; obtain ⟨ux, uy, uz, hr⟩ := HS3.out.2.1; have r0 := cell_of_cells (i := 0) hr; have r1 := cell_of_cells (i := 1) hr; have r2 := cell_of_cells (i := 2) hr; have g0 := frozen_of_cells (i := 0) hr; have g1 := frozen_of_cells (i := 1) hr; have g2 := frozen_of_cells (i := 2) hr; clear hrow hgr hbl))
  go_region
  go_wp2_with fail
  have q0 := r_cells hr (.slice p' (L.length + 1) c') (.int .i64 now) (.int .i64 (last + 1)) (.slice p' (L.length + 1) c') 0
  have q1 := r_cells hr (.slice p' (L.length + 1) c') (.int .i64 now) (.int .i64 (last + 1)) (.slice p' (L.length + 1) c') 1
  have q2 := r_cells hr (.slice p' (L.length + 1) c') (.int .i64 now) (.int .i64 (last + 1)) (.slice p' (L.length + 1) c') 2
  have HS4 : RcS w w3 (.slice p L.length c) now (last + 1) (.slice p' (L.length + 1) c') (L ++ [⟨last + 1, due, x⟩]) := by
    have h := HS3.out
    simp only [List.nil_append, List.length_append, List.length_singleton] at h
    exact h
  refine bodyPost_ret (v := .tuple #[rVal p' (L.length + 1) c' now (last + 1), .int .i64 (last + 1), .int .i64 0]) (by simp [results, Try.results11, go_sem, q0, q1, q2]) rfl ⟨p', c', rfl, ?_, ?_, ?_⟩
  · exact ((((HS4.2.2.1.set _ (fun k hk => by have := HS4.2.2.2.1 k hk; omega)).set _ (fun k hk => by have := HS4.2.2.2.1 k hk; omega)).set _ (fun k hk => by have := HS4.2.2.2.1 k hk; omega)).set _ (fun k hk => by have := HS4.2.2.2.1 k hk; omega)).turn (turn_drew _ (fun _ => False)) (fun _ _ h => h)
  · intro k hk; have := HS4.2.2.2.1 k hk; omega
  · exact (HS4.2.2.2.2.step (((((Turn.refl w3 (fun j => w.heap.size ≤ j)).setCell (Nat.le_refl _) _ _).setCell (Nat.le_succ _) _ _).setCell (Nat.le_succ _) _ _).setCell (Nat.le_succ _) _ _) (fun j hj => hj)).trans (turn_drew _ _)

end Go.Proofs.Ytbbmfgeagdblcaa
