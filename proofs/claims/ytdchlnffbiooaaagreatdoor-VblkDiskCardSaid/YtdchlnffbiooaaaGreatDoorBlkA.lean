/-
  Layer 3: a driver's struct and a port's, whether they are none, where a slot lies, why nothing may lie at a base. Conditions: as said at each.
-/
import Derived.Test.YtdchlnffbiooaaaGreatDoorVSide
import Derived.Test.YtdchlnffbiooaaaGreatDoorVGoes
namespace Go.Proofs.YtdchlnffbiooaaaGreatDoor
open Go.RowKit Go.Sort

/-- A driver that New made. -/
def KAt (w : World) (b g : Nat) (base sectors limit : Int) (q o : Nat) (last now : Int) (dead : Bool) : Prop :=
  w.heap[b]? = some (.cells #[.pointer (some ⟨g, 0, none⟩), .int .i64 base, .int .i64 sectors, .int .i64 limit, .pointer (some ⟨q, 0, none⟩), .map (some o), .int .i64 last, .int .i64 now, .bool dead, .pointer (some ⟨b, 0, none⟩)] 64 (0, 0))
/-- A port that Open made. -/
def RAt (w : World) (r g p o : Nat) : Prop :=
  w.heap[r]? = some (.cells #[.pointer (some ⟨g, 0, none⟩), .pointer (some ⟨p, 0, none⟩), .map (some o), .pointer (some ⟨r, 0, none⟩)] 70 (0, 0))

section
variable {w : World} {b g : Nat} {base sectors limit : Int} {q o : Nat} {last now : Int} {dead : Bool}
theorem KAt.c0 (h : KAt w b g base sectors limit q o last now dead) : w.cell? ⟨b, 0, none⟩ = some (.pointer (some ⟨g, 0, none⟩)) := cell_of_block h
theorem KAt.c1 (h : KAt w b g base sectors limit q o last now dead) : w.cell? ⟨b, 1, none⟩ = some (.int .i64 base) := cell_of_block h
theorem KAt.c2 (h : KAt w b g base sectors limit q o last now dead) : w.cell? ⟨b, 2, none⟩ = some (.int .i64 sectors) := cell_of_block h
theorem KAt.c3 (h : KAt w b g base sectors limit q o last now dead) : w.cell? ⟨b, 3, none⟩ = some (.int .i64 limit) := cell_of_block h
theorem KAt.c4 (h : KAt w b g base sectors limit q o last now dead) : w.cell? ⟨b, 4, none⟩ = some (.pointer (some ⟨q, 0, none⟩)) := cell_of_block h
theorem KAt.c5 (h : KAt w b g base sectors limit q o last now dead) : w.cell? ⟨b, 5, none⟩ = some (.map (some o)) := cell_of_block h
theorem KAt.c6 (h : KAt w b g base sectors limit q o last now dead) : w.cell? ⟨b, 6, none⟩ = some (.int .i64 last) := cell_of_block h
theorem KAt.c7 (h : KAt w b g base sectors limit q o last now dead) : w.cell? ⟨b, 7, none⟩ = some (.int .i64 now) := cell_of_block h
theorem KAt.c8 (h : KAt w b g base sectors limit q o last now dead) : w.cell? ⟨b, 8, none⟩ = some (.bool dead) := cell_of_block h
theorem KAt.c9 (h : KAt w b g base sectors limit q o last now dead) : w.cell? ⟨b, 9, none⟩ = some (.pointer (some ⟨b, 0, none⟩)) := cell_of_block h
theorem KAt.fz (h : KAt w b g base sectors limit q o last now dead) (i : Nat) : w.frozen? ⟨b, i, none⟩ = false := frozen_of_block h
theorem KAt.kept {w' : World} (h : KAt w b g base sectors limit q o last now dead) (k : w'.heap[b]? = w.heap[b]?) : KAt w' b g base sectors limit q o last now dead := k.trans h
end
section
variable {w : World} {r g p o : Nat}
theorem RAt.c0 (h : RAt w r g p o) : w.cell? ⟨r, 0, none⟩ = some (.pointer (some ⟨g, 0, none⟩)) := cell_of_block h
theorem RAt.c1 (h : RAt w r g p o) : w.cell? ⟨r, 1, none⟩ = some (.pointer (some ⟨p, 0, none⟩)) := cell_of_block h
theorem RAt.c2 (h : RAt w r g p o) : w.cell? ⟨r, 2, none⟩ = some (.map (some o)) := cell_of_block h
theorem RAt.c3 (h : RAt w r g p o) : w.cell? ⟨r, 3, none⟩ = some (.pointer (some ⟨r, 0, none⟩)) := cell_of_block h
theorem RAt.fz (h : RAt w r g p o) (i : Nat) : w.frozen? ⟨r, i, none⟩ = false := frozen_of_block h
theorem RAt.kept {w' : World} (h : RAt w r g p o) (k : w'.heap[r]? = w.heap[r]?) : RAt w' r g p o := k.trans h
end

/-- A pointer to no driver that New made; to no port that Open made. -/
def NoK (w : World) (p : Option Addr) : Prop := p = none ∨ ∃ g, p = some ⟨g, 0, none⟩ ∧ w.cell? ⟨g, 9, none⟩ = some (.pointer none)
def NoR (w : World) (p : Option Addr) : Prop := p = none ∨ ∃ g, p = some ⟨g, 0, none⟩ ∧ w.cell? ⟨g, 3, none⟩ = some (.pointer none)

theorem info_blk : ∃ j, Tryz.prog.info? 64 = some j := Option.isSome_iff_exists.1 (by kernel_rfl)
theorem info_bport : ∃ j, Tryz.prog.info? 70 = some j := Option.isSome_iff_exists.1 (by kernel_rfl)

set_option maxHeartbeats 400000 in
theorem knone_yes (w : World) (p : Option Addr) (hp : NoK w p) :
    Calls Tryz.prog 20 #[.pointer p] w fun e w' => e = .returned (.bool true) ∧ w = w' := by
  rcases hp with rfl | ⟨g, rfl, hc⟩
  · go_enter Tryz.func20, Tryz.ntmps20
    go_wp2
    go_ret
    exact ⟨rfl, rfl⟩
  · have hq := neq_nil_ptr (P := Tryz.prog) w ⟨g, 0, none⟩ Tryz.underlying28
    go_enter Tryz.func20, Tryz.ntmps20
    go_wp2
    go_ret
    exact ⟨rfl, rfl⟩
set_option maxHeartbeats 400000 in
theorem knone_no (w : World) (q : Nat) (hm : w.cell? ⟨q, 9, none⟩ = some (.pointer (some ⟨q, 0, none⟩))) :
    Calls Tryz.prog 20 #[.pointer (some ⟨q, 0, none⟩)] w fun e w' => e = .returned (.bool false) ∧ w = w' := by
  obtain ⟨j, hj⟩ := info_blk
  have hq := Lib.run_neq_ptr_same (P := Tryz.prog) (w := w) ⟨q, 0, none⟩ Tryz.underlying28 hj
  clear hj
  go_enter Tryz.func20, Tryz.ntmps20
  go_wp2
  go_ret
  exact ⟨rfl, rfl⟩
set_option maxHeartbeats 400000 in
theorem rnone_yes (w : World) (p : Option Addr) (hp : NoR w p) :
    Calls Tryz.prog 28 #[.pointer p] w fun e w' => e = .returned (.bool true) ∧ w = w' := by
  rcases hp with rfl | ⟨g, rfl, hc⟩
  · go_enter Tryz.func28, Tryz.ntmps28
    go_wp2
    go_ret
    exact ⟨rfl, rfl⟩
  · have hq := neq_nil_ptr (P := Tryz.prog) w ⟨g, 0, none⟩ Tryz.underlying31
    go_enter Tryz.func28, Tryz.ntmps28
    go_wp2
    go_ret
    exact ⟨rfl, rfl⟩
set_option maxHeartbeats 400000 in
theorem rnone_no (w : World) (q : Nat) (hm : w.cell? ⟨q, 3, none⟩ = some (.pointer (some ⟨q, 0, none⟩))) :
    Calls Tryz.prog 28 #[.pointer (some ⟨q, 0, none⟩)] w fun e w' => e = .returned (.bool false) ∧ w = w' := by
  obtain ⟨j, hj⟩ := info_bport
  have hq := Lib.run_neq_ptr_same (P := Tryz.prog) (w := w) ⟨q, 0, none⟩ Tryz.underlying31 hj
  clear hj
  go_enter Tryz.func28, Tryz.ntmps28
  go_wp2
  go_ret
  exact ⟨rfl, rfl⟩

set_option maxHeartbeats 400000 in
theorem kdead_none (w : World) (p : Option Addr) (hp : NoK w p) :
    Calls Tryz.prog 14 #[.pointer p] w fun e w' => e = .returned (.bool false) ∧ w = w' := by
  go_enter Tryz.func14, Tryz.ntmps14
  go_wp2_with (go_at_call 20; refine (knone_yes _ _ hp).mono ?_; rintro e w' ⟨rfl, rfl⟩)
  go_ret
  exact ⟨rfl, rfl⟩
set_option maxHeartbeats 400000 in
theorem kdead_any (w : World) (b g : Nat) (base sectors limit : Int) (q o : Nat) (last now : Int) (dead : Bool) (hk : KAt w b g base sectors limit q o last now dead) :
    Calls Tryz.prog 14 #[.pointer (some ⟨b, 0, none⟩)] w fun e w' => e = .returned (.bool dead) ∧ w = w' := by
  have h8 := hk.c8
  have h9 := hk.c9
  clear hk
  go_enter Tryz.func14, Tryz.ntmps14
  go_wp2_with (go_at_call 20; refine (knone_no _ _ h9).mono ?_; rintro e w' ⟨rfl, rfl⟩)
  go_ret
  exact ⟨rfl, rfl⟩
set_option maxHeartbeats 400000 in
theorem kflight_none (w : World) (p : Option Addr) (hp : NoK w p) :
    Calls Tryz.prog 13 #[.pointer p] w fun e w' => e = .returned (.int .i64 0) ∧ w = w' := by
  go_enter Tryz.func13, Tryz.ntmps13
  go_wp2_with (go_at_call 20; refine (knone_yes _ _ hp).mono ?_; rintro e w' ⟨rfl, rfl⟩)
  go_ret
  exact ⟨rfl, rfl⟩
set_option maxHeartbeats 400000 in
theorem kflight_any (w : World) (b g : Nat) (base sectors limit : Int) (q o : Nat) (last now : Int) (dead : Bool) (hk : KAt w b g base sectors limit q o last now dead) (es : List (Int × Value)) (ht : IsTab w o es) :
    Calls Tryz.prog 13 #[.pointer (some ⟨b, 0, none⟩)] w fun e w' => e = .returned (.int .i64 es.length) ∧ w = w' := by
  have h5 := hk.c5
  have h9 := hk.c9
  clear hk
  go_enter Tryz.func13, Tryz.ntmps13
  go_wp2_with (first | (go_at_call 20; refine (knone_no _ _ h9).mono ?_; rintro e w' ⟨rfl, rfl⟩) | (at_len; refine wpList_len_tab _ rfl _ 62 rfl 3 84 Tryz.underlying62 o es ht rfl ?_))
  go_ret
  exact ⟨rfl, rfl⟩

set_option maxHeartbeats 400000 in
/-- Where a slot lies. -/
theorem kat_any (w : World) (b g : Nat) (base sectors limit : Int) (q o : Nat) (last now : Int) (dead : Bool) (hk : KAt w b g base sectors limit q o last now dead) (b0 : 0 ≤ base) (b1 : base ≤ 65536) (i : Int) (i0 : 0 ≤ i) (i1 : i ≤ 8) :
    Calls Tryz.prog 25 #[.pointer (some ⟨b, 0, none⟩), .int .i64 i] w fun e w' => e = .returned (.int .i64 (base + 848 + 96 * i)) ∧ w = w' := by
  have h1 := hk.c1
  clear hk
  go_enter Tryz.func25, Tryz.ntmps25
  go_wp2
  go_ret
  exact ⟨rfl, rfl⟩

/-- Why nothing may lie at a base. -/
def blkBar (size base : Int) (fair : Bool) : Int :=
  if !fair || decide (base < 0) || decide (base % 16 ≠ 0) then 1 else if size - 1616 < base then 13 else 0
set_option maxHeartbeats 400000 in
theorem brefuse_none (w : World) (p : Option Addr) (hp : IsNone w p) (base : Int) (fair : Bool) :
    Calls Tryz.prog 15 #[.pointer p, .int .i64 base, .bool fair] w fun e w' => e = .returned (.int .i64 2) ∧ w = w' := by
  go_enter Tryz.func15, Tryz.ntmps15
  go_wp2_with (go_at_call 36; refine (size_none _ _ hp).mono ?_; rintro e w' ⟨rfl, rfl⟩)
  go_ret
  exact ⟨rfl, rfl⟩
set_option maxHeartbeats 400000 in
theorem brefuse_any (w : World) (g h : Nat) (lm : List UInt8) (m : Mem w g h lm) (l1 : 1 ≤ lm.length) (l2 : lm.length ≤ 65536) (base : Int) (fair : Bool) :
    Calls Tryz.prog 15 #[.pointer (some ⟨g, 0, none⟩), .int .i64 base, .bool fair] w fun e w' => e = .returned (.int .i64 (blkBar lm.length base fair)) ∧ w = w' := by
  obtain ⟨n, hn⟩ : ∃ n : Nat, n = lm.length := ⟨_, rfl⟩
  have SC := Lib.hid (size_any w g h lm m)
  rw [← hn] at l1 l2 SC ⊢
  have hz : ((n : Int) == 0) = false := beq_eq_false_iff_ne.2 (by omega)
  clear m hn
  cases fair with
  | false =>
    go_enter Tryz.func15, Tryz.ntmps15
    go_wp2_with (go_at_call 36; refine SC.out.mono ?_; rintro e w' ⟨rfl, rfl⟩)
    go_ret
    exact ⟨rfl, rfl⟩
  | true =>
    by_cases h0 : base < 0
    · have hv : blkBar n base true = 1 := by unfold blkBar; simp [h0]
      rw [hv]
      clear hv
      go_enter Tryz.func15, Tryz.ntmps15
      go_wp2_with (go_at_call 36; refine SC.out.mono ?_; rintro e w' ⟨rfl, rfl⟩)
      go_ret
      exact ⟨rfl, rfl⟩
    · by_cases h1 : base % 16 = 0
      · have h1' : (base % 16 != 0) = false := by simp [h1]
        have h0' : 0 ≤ base := by omega
        by_cases h2 : (n : Int) - 1616 < base
        · have hv : blkBar n base true = 13 := by unfold blkBar; simp [h0', h1, h2]
          rw [hv]
          clear hv h1 h0
          go_enter Tryz.func15, Tryz.ntmps15
          go_wp2_with (go_at_call 36; refine SC.out.mono ?_; rintro e w' ⟨rfl, rfl⟩)
          go_ret
          exact ⟨rfl, rfl⟩
        · have hv : blkBar n base true = 0 := by unfold blkBar; simp [h1]; omega
          have h2' : decide ((n : Int) - 1616 < base) = false := decide_eq_false h2
          rw [hv]
          clear hv h1 h0 h2
          go_enter Tryz.func15, Tryz.ntmps15
          go_wp2_with (go_at_call 36; refine SC.out.mono ?_; rintro e w' ⟨rfl, rfl⟩)
          go_ret
          exact ⟨rfl, rfl⟩
      · have hv : blkBar n base true = 1 := by unfold blkBar; simp [h1]
        have h1' : (base % 16 != 0) = true := by simp [h1]
        have h0' : 0 ≤ base := by omega
        rw [hv]
        clear hv h1 h0
        go_enter Tryz.func15, Tryz.ntmps15
        go_wp2_with (go_at_call 36; refine SC.out.mono ?_; rintro e w' ⟨rfl, rfl⟩)
        go_ret
        exact ⟨rfl, rfl⟩

end Go.Proofs.YtdchlnffbiooaaaGreatDoor
