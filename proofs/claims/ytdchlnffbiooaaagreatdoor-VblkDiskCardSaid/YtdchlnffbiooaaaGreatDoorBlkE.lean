/-
  Layer 3: what a port reads: a buffer's text, the sector that a head and data tell. Conditions: as said at each.
-/
import Derived.Test.YtdchlnffbiooaaaGreatDoorBlkD
namespace Go.Proofs.YtdchlnffbiooaaaGreatDoor
open Go.RowKit Go.Sort

set_option maxRecDepth 100000 in
set_option maxHeartbeats 1000000 in
theorem rtext_any (w : World) (r g p u h : Nat) (lm : List UInt8) (hr : RAt w r g p u) (m : Mem w g h lm) (l2 : lm.length ≤ 65536) (x : Bf) (hx : x.n ≤ 9223372036854775807) :
    Calls Tryz.prog 60 #[.pointer (some ⟨r, 0, none⟩), .agg #[.int .i64 x.a, .int .i64 x.n, .bool x.wr]] w fun e w' => e = .returned (.string ⟨(textS lm x.a x.n).toArray⟩) ∧ w.grownBy w' none := by
  obtain ⟨xa, xn, xw⟩ := x
  simp only at hx ⊢
  have ka := World.grownBy_alloc w (.cells #[.int .i64 xa, .int .i64 xn, .bool xw] 90) none
  have hb := heap_alloc_new w (.cells #[.int .i64 xa, .int .i64 xn, .bool xw] 90)
  have hr1 := hr.kept (ka.block _ (lt_of_block hr) (by simp))
  have m1 := m.same ka
  clear hr m
  go_enter Tryz.func60, Tryz.ntmps60
  go_wp2_with fail
  generalize w.alloc _ = W1 at ka hb hr1 m1 ⊢
  refine wp_region_noPanic ?_
  refine region_held (S := fun w' => RAt w' r g p u ∧ w'.cell? ⟨w.heap.size, 0, none⟩ = some (.int .i64 xa) ∧ w'.cell? ⟨w.heap.size, 1, none⟩ = some (.int .i64 xn)) (by kernel_rfl)
    (fun V d => ⟨hr1.kept (d.block _), (World.cell?_of_block (w := W1) (a := ⟨w.heap.size, 0, none⟩) (d.block _)).trans (cell_of_block hb), (World.cell?_of_block (w := W1) (a := ⟨w.heap.size, 1, none⟩) (d.block _)).trans (cell_of_block hb)⟩) (fun V d hS => ?_)
  have mV := m1.same d.grown
  have kV := ka.trans d.grown
  clear hb hr1 m1 ka d
  refine wpAnyH_take (i := 0) (v := (.pointer (some ⟨r, 0, none⟩))) rfl (by kernel_rfl) (by kernel_rfl) (by kernel_rfl) (fun _ _ _ h => h) (Or.inl ⟨by rfl, fun w' h' => ?_⟩) hS ?_
  · clear h'
    go_simp
  simp only [Act.put]
  refine wpAnyH_take (i := 1) (v := (.pointer (some ⟨r, 0, none⟩))) rfl (by kernel_rfl) (by kernel_rfl) (by kernel_rfl) (fun _ _ _ h => h) (Or.inl ⟨by rfl, fun w' h' => ?_⟩) hS ?_
  · clear h'
    go_simp
  simp only [Act.put]
  refine wpAnyH_take (i := 2) (v := (.pointer (some ⟨r, 0, none⟩))) rfl (by kernel_rfl) (by kernel_rfl) (by kernel_rfl) (fun _ _ _ h => h) (Or.inl ⟨by rfl, fun w' h' => ?_⟩) hS ?_
  · clear h'
    go_simp
  simp only [Act.put]
  refine wpAnyH_take (i := 3) (v := (.pointer (some ⟨g, 0, none⟩))) rfl (by kernel_rfl) (by kernel_rfl) (by kernel_rfl) (fun _ _ _ h => h) (Or.inl ⟨by rfl, fun w' h' => ?_⟩) hS ?_
  · have cc := h'.1.c0
    clear h'
    go_simp
  simp only [Act.put]
  refine wpAnyH_take (i := 4) (v := (.pointer (some ⟨w.heap.size, 0, none⟩))) rfl (by kernel_rfl) (by kernel_rfl) (by kernel_rfl) (fun _ _ _ h => h) (Or.inl ⟨by rfl, fun w' h' => ?_⟩) hS ?_
  · clear h'
    go_simp
  simp only [Act.put]
  refine wpAnyH_take (i := 5) (v := (.int .i64 xa)) rfl (by kernel_rfl) (by kernel_rfl) (by kernel_rfl) (fun _ _ _ h => h) (Or.inl ⟨by rfl, fun w' h' => ?_⟩) hS ?_
  · have cc := h'.2.1
    clear h'
    go_simp
  simp only [Act.put]
  refine wpAnyH_take (i := 6) (v := (.pointer (some ⟨w.heap.size, 1, none⟩))) rfl (by kernel_rfl) (by kernel_rfl) (by kernel_rfl) (fun _ _ _ h => h) (Or.inl ⟨by rfl, fun w' h' => ?_⟩) hS ?_
  · clear h'
    go_simp
  simp only [Act.put]
  refine wpAnyH_take (i := 7) (v := (.int .i64 xn)) rfl (by kernel_rfl) (by kernel_rfl) (by kernel_rfl) (fun _ _ _ h => h) (Or.inl ⟨by rfl, fun w' h' => ?_⟩) hS ?_
  · have cc := h'.2.2
    clear h'
    go_simp
  simp only [Act.put]
  refine wpAnyH_ready (rs := [8]) (by kernel_rfl) (by simp) ?_
  refine AllReadyH.cons rfl (fun K hK => ?_) AllReadyH.nil
  go_simp
  refine (Text_all (w := V) (g := g) (h := h) (l := lm) mV (by omega) xa xn hx).mono ?_
  rintro e w2 ⟨rfl, rfl⟩
  go_simp
  refine hK.out _ _ hS (fun _ => ?_)
  clear hK K
  refine wpAnyH_take (i := 9) (v := (.tuple #[.string ⟨(textS lm xa xn).toArray⟩, .int .i64 (textE lm xa xn)])) rfl (by kernel_rfl) (by kernel_rfl) (by kernel_rfl) (fun _ _ _ h => h) (Or.inl ⟨by rfl, fun w' h' => ?_⟩) hS ?_
  · clear h'
    go_simp
  simp only [Act.put]
  refine wpAnyH_take (i := 10) (oi := ⟨some 17, Op.extract (Operand.tmp 7) 0, _, _, _, _⟩) (v := (.string ⟨(textS lm xa xn).toArray⟩)) rfl (by kernel_rfl) (by kernel_rfl) (by kernel_rfl) (fun _ _ _ h => h) (Or.inl ⟨by rfl, fun w' h' => ?_⟩) hS ?_
  · clear h'
    go_simp
  simp only [Act.put]
  refine wpAnyH_take (i := 11) (oi := ⟨some 18, Op.extract (Operand.tmp 7) 1, _, _, _, _⟩) (v := (.int .i64 (textE lm xa xn))) rfl (by kernel_rfl) (by kernel_rfl) (by kernel_rfl) (fun _ _ _ h => h) (Or.inl ⟨by rfl, fun w' h' => ?_⟩) hS ?_
  · clear h'
    go_simp
  simp only [Act.put]
  refine wpAnyH_take (i := 12) (oi := ⟨some 5, Op.assign (Operand.tmp 17), _, _, _, _⟩) (v := (.string ⟨(textS lm xa xn).toArray⟩)) rfl (by kernel_rfl) (by kernel_rfl) (by kernel_rfl) (fun _ _ _ h => h) (Or.inl ⟨by rfl, fun w' h' => ?_⟩) hS ?_
  · clear h'
    go_simp
  simp only [Act.put]
  refine wpAnyH_take (i := 13) (oi := ⟨some 6, Op.assign (Operand.tmp 18), _, _, _, _⟩) (v := (.int .i64 (textE lm xa xn))) rfl (by kernel_rfl) (by kernel_rfl) (by kernel_rfl) (fun _ _ _ h => h) (Or.inl ⟨by rfl, fun w' h' => ?_⟩) hS ?_
  · clear h'
    go_simp
  simp only [Act.put]
  refine wpAnyH_done (by kernel_rfl) (NoPanic.normal ?_) _
  clear hS mV
  go_wp2_with fail
  go_ret
  exact ⟨rfl, kV⟩

/-- The number that a head or data tell as the sector. -/
def tellX (s : Shp) (head data : ByteArray) : Int := if s.sec = 1 then num (cutS head 8 8) else if s.sec = 2 then num (cutS data 0 8) else 0
theorem tellX_pos (s : Shp) (a b : ByteArray) : 0 ≤ tellX s a b := by
  unfold tellX
  split
  · omega
  · split <;> omega

theorem Little_read (w : World) (s : ByteArray) (a n : Int) (hs : s.size ≤ 9223372036854775807) (X : Int) (hX : X = num (cutS s a n)) :
    Calls Tryz.prog 61 #[.string s, .int .i64 a, .int .i64 n] w fun e w' => ∃ b, e = .returned (.tuple #[.int .u64 X, .bool b]) ∧ w.grownBy w' none := by
  subst hX
  exact (ReadLittle_all w s a n hs).mono fun _ _ ⟨h1, h2⟩ => ⟨_, h1, h2⟩

/-- What it answers, as values. -/
def sectV (X : Int) : Int × Bool := if 9223372036854775807 < X then (0, false) else (X, true)
theorem sectV_yes {X : Int} (h : 9223372036854775807 < X) : sectV X = (0, false) := if_pos h
theorem sectV_no {X : Int} (h : ¬ 9223372036854775807 < X) : sectV X = (X, true) := if_neg h

set_option maxRecDepth 100000 in
set_option maxHeartbeats 1000000 in
theorem sectorOf_any (w : World) (s : Shp) (hd da : ByteArray) (h1 : hd.size ≤ 9223372036854775807) (h2 : da.size ≤ 9223372036854775807) :
    Calls Tryz.prog 65 #[s.val, .string hd, .string da] w fun e w' => e = .returned (.tuple #[.int .i64 (sectV (tellX s hd da)).1, .bool (sectV (tellX s hd da)).2]) ∧ w.grownBy w' none := by
  have hX0 := tellX_pos s hd da
  obtain ⟨X, hXX⟩ : ∃ X, X = tellX s hd da := ⟨_, rfl⟩
  rw [← hXX] at hX0 ⊢
  obtain ⟨sk, sn, sl, sb, ss⟩ := s
  unfold Shp.val
  unfold tellX at hXX
  simp only at hXX
  have ka := World.grownBy_alloc w (.cells #[.int .i64 sk, .int .u64 sn, .int .i64 sl, .bool sb, .int .i64 ss] 74) none
  obtain ⟨S1, hS1⟩ : ∃ S, S = (sectV X).1 := ⟨_, rfl⟩
  obtain ⟨S2, hS2⟩ : ∃ S, S = (sectV X).2 := ⟨_, rfl⟩
  rw [← hS1, ← hS2]
  have H1 := Lib.hid hS1
  have H2 := Lib.hid hS2
  clear hS1 hS2
  by_cases g1 : ss = 1
  · subst g1
    rw [if_pos rfl] at hXX
    have HX := Lib.hid hXX
    clear hXX
    by_cases hX : 9223372036854775807 < X
    · have e1 : S1 = 0 := by rw [H1.out, sectV_yes hX]
      have e2 : S2 = false := by rw [H2.out, sectV_yes hX]
      subst e1 e2
      go_enter Tryz.func65, Tryz.ntmps65
      go_wp2_with fail
      refine (Little_read _ hd 8 8 h1 X HX.out).mono ?_
      rintro e w1 ⟨b, rfl, kr⟩
      go_wp2_with fail
      go_ret2
      exact ⟨rfl, ka.trans kr⟩
    · have e1 : X = S1 := by rw [H1.out, sectV_no hX]
      have e2 : S2 = true := by rw [H2.out, sectV_no hX]
      subst e1 e2
      have hX1 : X ≤ 9223372036854775807 := by omega
      have d1 : decide (9223372036854775807 < X) = false := decide_eq_false hX
      have hw : IntKind.i64.wrap X = X := IntWalk.i64_in _ (by omega)
      clear hX
      go_enter Tryz.func65, Tryz.ntmps65
      go_wp2_with fail
      refine (Little_read _ hd 8 8 h1 X HX.out).mono ?_
      rintro e w1 ⟨b, rfl, kr⟩
      go_wp2_with fail
      go_ret2
      exact ⟨rfl, ka.trans kr⟩
  · rw [if_neg g1] at hXX
    have n1 : (ss == 1) = false := beq_eq_false_iff_ne.2 g1
    clear g1
    by_cases g2 : ss = 2
    · subst g2
      rw [if_pos rfl] at hXX
      have HX := Lib.hid hXX
      clear hXX
      by_cases hX : 9223372036854775807 < X
      · have e1 : S1 = 0 := by rw [H1.out, sectV_yes hX]
        have e2 : S2 = false := by rw [H2.out, sectV_yes hX]
        subst e1 e2
        go_enter Tryz.func65, Tryz.ntmps65
        go_wp2_with fail
        refine (Little_read _ da 0 8 h2 X HX.out).mono ?_
        rintro e w1 ⟨b, rfl, kr⟩
        go_wp2_with fail
        go_ret2
        exact ⟨rfl, ka.trans kr⟩
      · have e1 : X = S1 := by rw [H1.out, sectV_no hX]
        have e2 : S2 = true := by rw [H2.out, sectV_no hX]
        subst e1 e2
        have hX1 : X ≤ 9223372036854775807 := by omega
        have d1 : decide (9223372036854775807 < X) = false := decide_eq_false hX
        have hw : IntKind.i64.wrap X = X := IntWalk.i64_in _ (by omega)
        clear hX
        go_enter Tryz.func65, Tryz.ntmps65
        go_wp2_with fail
        refine (Little_read _ da 0 8 h2 X HX.out).mono ?_
        rintro e w1 ⟨b, rfl, kr⟩
        go_wp2_with fail
        go_ret2
        exact ⟨rfl, ka.trans kr⟩
    · rw [if_neg g2] at hXX
      have n2 : (ss == 2) = false := beq_eq_false_iff_ne.2 g2
      clear g2
      subst hXX
      have e1 : S1 = 0 := by rw [H1.out, sectV_no (by decide)]
      have e2 : S2 = true := by rw [H2.out, sectV_no (by decide)]
      subst e1 e2
      go_enter Tryz.func65, Tryz.ntmps65
      go_wp2_with fail
      go_ret2
      exact ⟨rfl, ka⟩

end Go.Proofs.YtdchlnffbiooaaaGreatDoor
