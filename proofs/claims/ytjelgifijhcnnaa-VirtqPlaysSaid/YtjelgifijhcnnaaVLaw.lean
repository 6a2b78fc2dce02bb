/-
  Contracts of the statements' own functions of layer 2: are two slices of the same buffers the same; are acts too many. No conditions.
-/
import Derived.Test.YtjelgifijhcnnaaVArgs
import Derived.Deep.QuietTactic
import Derived.BigQuiet
namespace Go.Proofs.Ytjelgifijhcnnaa
open Go.RowKit Go.Sort

theorem grown_drewN (w : World) (n : Nat) : w.grownBy (w.drewN n) none := ⟨rfl, rfl, rfl, Nat.le_refl _, fun _ _ _ => rfl⟩

set_option maxRecDepth 100000 in
set_option maxHeartbeats 1000000 in
theorem same_any (w : World) (v u : Value) (l : List Bf) (hv : IsBufs w v l) (hu : IsBufs w u l) :
    Calls Try.prog 42 #[v, u] w fun e w' => e = .returned (.bool true) ∧ w.grownBy w' none := by
  obtain ⟨p, cap, rfl, hle⟩ := hv.form
  obtain ⟨r, cap2, rfl, _⟩ := hu.form
  have HV := Lib.hid hv
  have HU := Lib.hid hu
  clear hv hu
  go_enter Try.func42, Try.ntmps42
  go_wp2_with fail
  go_loopw [5] (fun iv wr => ∃ (k : Nat), k ≤ l.length ∧ iv = .int .i64 k ∧ w.grownBy wr none) (fun iv _ => l.length - (intOf iv).toNat)
  case atStart => exact ⟨0, Nat.zero_le _, rfl, World.grownBy.refl _ _⟩
  case round =>
    obtain ⟨k, hk, rfl, kg⟩ := hrel
    by_cases hlt : k < l.length
    · obtain ⟨b, o, x, rfl, hx, c0, c1, c2⟩ := (HV.out.grown kg).at_ k hlt
      obtain ⟨b', o', x', rfl, hx', d0, d1, d2⟩ := (HU.out.grown kg).at_ k hlt
      rw [hx] at hx'
      injection hx' with hx'
      subst hx'
      obtain ⟨xa, xn, xw⟩ := x
      simp only at c0 c1 c2 d0 d1 d2
      clear hx
      go_wp2_with fail
      go_quiet (fail)
      go_wp2_with fail
      go_roundw
      case rel => exact ⟨k + 1, by omega, by go_num, kg.trans (grown_drewN wr nq)⟩
      case measure => simp [intOf]; omega
    · have hd : decide ((k : Int) < l.length) = false := decide_eq_false (by omega)
      go_wp2_with fail
      go_ret
      exact ⟨rfl, kg⟩

/-- What Great answers. -/
def great2 (l : List Act2) : Bool := decide (80 < l.length) || (l.take 81).any fun c => decide (100 < c.l.length)
theorem great2_no {l : List Act2} (h : great2 l = false) : l.length ≤ 80 ∧ ∀ c ∈ l, c.l.length ≤ 100 := by
  unfold great2 at h
  simp only [Bool.or_eq_false_iff, decide_eq_false_iff_not, List.any_eq_false, decide_eq_true_eq] at h
  refine ⟨by omega, fun c hc => ?_⟩
  have := h.2 c (by rw [List.take_of_length_le (by omega)]; exact hc)
  omega
/-- Up to place k nothing was found. -/
def Small2 (l : List Act2) (k : Nat) : Prop := ∀ c ∈ l.take k, c.l.length ≤ 100
theorem Small2.zero (l : List Act2) : Small2 l 0 := by simp [Small2]
theorem Small2.succ {l : List Act2} {k : Nat} {c : Act2} (h : Small2 l k) (hc : l[k]? = some c) (hs : c.l.length ≤ 100) : Small2 l (k + 1) := by
  intro d hd
  rw [List.take_add_one, hc] at hd
  simp only [Option.toList_some, List.mem_append, List.mem_singleton] at hd
  rcases hd with hd | rfl
  · exact h d hd
  · exact hs
theorem great2_hit {l : List Act2} {k : Nat} {c : Act2} (hk : k ≤ 80) (hc : l[k]? = some c) (hs : 100 < c.l.length) : great2 l = true := by
  unfold great2
  simp only [Bool.or_eq_true, decide_eq_true_eq, List.any_eq_true]
  refine Or.inr ⟨c, ?_, hs⟩
  rw [List.mem_take_iff_getElem]
  obtain ⟨hlt, he⟩ := List.getElem?_eq_some_iff.1 hc
  exact ⟨k, by omega, he⟩
theorem great2_end {l : List Act2} {k : Nat} (h : Small2 l k) (hk : l.length ≤ k ∨ 81 ≤ k) : great2 l = decide (80 < l.length) := by
  unfold great2
  have h2 : ((l.take 81).any fun c => decide (100 < c.l.length)) = false := by
    simp only [List.any_eq_false, decide_eq_true_eq]
    intro c hc
    have h3 : c ∈ l.take k := by
      rcases hk with hk | hk
      · rw [List.take_of_length_le hk]; exact List.mem_of_mem_take hc
      · exact (List.take_subset_take_left l hk) hc
    have := h c h3
    omega
  rw [h2, Bool.or_false]

set_option maxHeartbeats 400000 in
theorem Great2_any (w : World) (v : Value) (l : List Act2) (ha : Acts2 w v l) :
    Calls Try.prog 11 #[v] w fun e w' => e = .returned (.bool (great2 l)) ∧ w = w' := by
  obtain ⟨p, cap, rfl, hmax⟩ := ha.form
  unfold maxLen at hmax
  go_enter Try.func11, Try.ntmps11
  go_wp2
  go_loop [3] (fun i => ∃ k : Nat, k ≤ l.length ∧ k ≤ 81 ∧ i = .int .i64 k ∧ Small2 l k) (fun i => l.length - (intOf i).toNat)
  case atStart => exact ⟨0, Nat.zero_le _, by omega, rfl, Small2.zero l⟩
  case round =>
    obtain ⟨k, hk, hk2, rfl, hs⟩ := hrel
    by_cases hlt : k < l.length
    · by_cases hlt2 : k ≤ 80
      · obtain ⟨b, o, c, rfl, hck, _, _, ⟨u, hcell, hrow⟩, _⟩ := ha.at_ k hlt
        obtain ⟨p', cap', rfl, hsz⟩ := hrow.form
        unfold maxLen at hsz
        by_cases hbig : 100 < c.l.length
        · have G := Lib.hid (great2_hit hlt2 hck hbig)
          have hd : decide ((100 : Int) < c.l.length) = true := decide_eq_true (by omega)
          clear ha hrow hs hck
          go_wp2
          go_ret
          exact ⟨by rw [G.out]; rfl, rfl⟩
        · have G := Lib.hid (hs.succ hck (by omega))
          have hd : decide ((100 : Int) < c.l.length) = false := decide_eq_false (by omega)
          clear ha hrow hs hck
          go_wp2
          go_round
          case rel => exact ⟨k + 1, by omega, by omega, by go_num, G.out⟩
          case measure => simp [intOf]; omega
      · have hd : decide ((k : Int) ≤ 80) = false := decide_eq_false (by omega)
        have G := Lib.hid (great2_end hs (.inr (by omega)))
        clear ha hs
        go_wp2
        go_ret
        exact ⟨by rw [G.out]; simp; omega, rfl⟩
    · have G := Lib.hid (great2_end hs (.inl (by omega)))
      have hd : decide ((k : Int) < l.length) = false := decide_eq_false (by omega)
      clear ha hs
      go_wp2
      go_ret
      exact ⟨by rw [G.out]; simp; omega, rfl⟩

/-- Free descriptors are at most n, and all n where nothing is out. -/
theorem free_le (cs : List Ch) (n : Nat) : (freeL cs n).length ≤ n := by
  unfold freeL
  rw [List.length_map]
  exact Nat.le_trans (List.length_filter_le _ _) (by simp)
theorem free_all (n : Nat) : (freeL [] n).length = n := by
  unfold freeL
  rw [List.length_map, List.filter_eq_self.2 (by intro i _; rfl), List.length_range]

end Go.Proofs.Ytjelgifijhcnnaa
