/-
  Layer 5: New, Next. Conditions: as said.
-/
import Derived.Test.YtbbmfgeagdblcaaWhA
namespace Go.Proofs.Ytbbmfgeagdblcaa
open Go.RowKit

/-- The least moment of timers. -/
def least {X : Type} (l : List (Tm X)) : Option Int := l.foldl (fun o t => match o with | none => some t.due | some d => some (if t.due < d then t.due else d)) none
theorem least_snoc {X : Type} (l : List (Tm X)) (t : Tm X) : least (l ++ [t]) = match least l with | none => some t.due | some d => some (if t.due < d then t.due else d) := by simp [least, List.foldl_append]
/-- The least moment, as two slots hold it. -/
def Best {X : Type} (l : List (Tm X)) (d o : Value) : Prop := (least l = none ∧ d = .int .i64 0 ∧ o = .bool false) ∨ ∃ m, least l = some m ∧ d = .int .i64 m ∧ o = .bool true
theorem Best.eq {X : Type} {l : List (Tm X)} {d o : Value} (h : Best l d o) : d = .int .i64 ((least l).getD 0) ∧ o = .bool (least l).isSome := by
  rcases h with ⟨h, rfl, rfl⟩ | ⟨m, h, rfl, rfl⟩ <;> rw [h] <;> exact ⟨rfl, rfl⟩
theorem Best.first {X : Type} {l l' : List (Tm X)} {t : Tm X} (h : least l = none) (hl : l' = l ++ [t]) : Best l' (.int .i64 t.due) (.bool true) :=
  .inr ⟨t.due, by rw [hl, least_snoc, h], rfl, rfl⟩
theorem Best.less {X : Type} {l l' : List (Tm X)} {t : Tm X} {m : Int} (h : least l = some m) (hl : l' = l ++ [t]) (hd : t.due < m) : Best l' (.int .i64 t.due) (.bool true) :=
  .inr ⟨t.due, by rw [hl, least_snoc, h]; simp [hd], rfl, rfl⟩
theorem Best.more {X : Type} {l l' : List (Tm X)} {t : Tm X} {m : Int} (h : least l = some m) (hl : l' = l ++ [t]) (hd : ¬ t.due < m) : Best l' (.int .i64 m) (.bool true) :=
  .inr ⟨m, by rw [hl, least_snoc, h]; simp [hd], rfl, rfl⟩
/-- The timers of the first slots. -/
def upto {X : Type} (ls : Nat → List (Tm X)) (n : Nat) : List (Tm X) := (List.range n).flatMap ls
theorem upto_succ {X : Type} (ls : Nat → List (Tm X)) (n : Nat) : upto ls (n + 1) = upto ls n ++ ls n := by simp [upto, List.range_succ]
theorem upto_length {X : Type} (ls : Nat → List (Tm X)) : ∀ n, (upto ls n).length = count ls n
  | 0 => rfl
  | n + 1 => by rw [upto_succ, count_succ, List.length_append, upto_length ls n]
theorem take_one {α : Type} (l : List α) (k : Nat) (h : k < l.length) : l.take (k + 1) = l.take k ++ [l[k]] := by
  rw [List.take_succ_eq_append_getElem h]

theorem Row.elem {X : Type} {TE : TypeId} {e : X → Value} {w : World} {v : Value} {l : List (Tm X)} (h : Row TE e w v l) (h0 : 0 < l.length) :
    ∃ b cap, v = .slice (some ⟨b, 0, none⟩) l.length cap ∧ l.length ≤ cap ∧ cap ≤ maxLen ∧ b < w.heap.size ∧ ∀ (j : Nat) (hj : j < l.length), w.rangeAt b (j * 3) (Tm.cells e l[j]) := by
  rcases h.2 with ⟨rfl, h0'⟩ | ⟨b, cap, cur, rfl, _, hb, hc, hm, _, _⟩
  · omega
  · refine ⟨b, cap, rfl, hc, hm, (Array.getElem?_eq_some_iff.1 hb).1, fun j hj i u hu => ?_⟩
    have hi : i < 3 := by have := (List.getElem?_eq_some_iff.1 hu).1; exact this
    have := h.cells (g := b) rfl (j * 3 + i) u (by rw [encL_at e l j i hj hi]; exact hu)
    have ha : (⟨b, 0, none⟩ : Addr).add (j * 3 + i) = ⟨b, j * 3 + i, none⟩ := by unfold Addr.add; split <;> simp_all
    rw [ha] at this
    exact this

/-- 'l[j]' of a slice of elements of three cells, where its block is known. -/
theorem run_at3 {P : Program} (t : TypeId) (p : Option Addr) (b n c j : Nat) (w : World) (hp : p = some ⟨b, 0, none⟩) (hj : j < n) (h : P.underlying t = some (.slice (P.elem t))) (hs : ∀ w, (sizeOf (P.elem t)).run P w = .ok 3 w) :
    (Instr.indexAt t (.slice p n c) (.int .i64 j)).run P w = .ok (.pointer (some ⟨b, j * 3, none⟩)) w := by
  subst hp
  have hn : (0 : Int) ≤ (j : Int) ∧ (j : Int) < (n : Int) := by omega
  rw [run_indexAt_slice w t _ n c .i64 j h, if_pos hn, hs]
  have ha : (⟨b, 0, none⟩ : Addr).add (j * 3) = ⟨b, j * 3, none⟩ := by unfold Addr.add; split <;> simp_all
  simp [Result.andThen, ha]

theorem zero_whI (g : Nat) : Try.zeroCells75.setIfInBounds 66 (.pointer (some ⟨g, 0, none⟩)) = wcells 0 0 (fun _ => .slice none 0 0) g := by kernel_rfl

set_option maxRecDepth 100000 in
set_option maxHeartbeats 1000000 in
theorem New_okI (w : World) :
    Calls Try.prog 10 #[] w fun e w' => e = .returned (.pointer (some ⟨w.heap.size, 0, none⟩)) ∧ WhI w' (fun k => k = w.heap.size) w.heap.size 0 0 (fun _ => []) ∧ Turn w w' (fun _ => False) := by
  go_enter Try.func10, Try.ntmps10
  go_wp2
  go_ret
  refine ⟨rfl, ?_, ?_⟩
  · refine ⟨fun _ => .slice none 0 0, ?_, rfl, fun i hi => ⟨World.ownsRow_nil _ _ _ _, fun k hk => by simp [Value.ownBlock] at hk⟩, fun i j hi hj hij k hk => by simp [Value.ownBlock] at hk⟩
    rw [heap_alloc_new]
    exact congrArg some (congrArg (fun cs => Obj.cells cs 75 (0, 0)) (zero_whI _))
  · exact Turn.of_grown (World.grownBy_alloc w _ none) (fun j h => by cases h)

set_option maxHeartbeats 400000 in
theorem next_noneI (w : World) (p : Option Addr) (hp : NoWh w p) :
    Calls Try.prog 19 #[.pointer p] w fun e w' => e = .returned (.tuple #[.int .i64 0, .bool false]) ∧ w = w' := by
  go_enter Try.func19, Try.ntmps19
  go_wp2_with (go_at_call 35; refine (none_yesI _ _ hp).mono ?_; rintro e w' ⟨rfl, rfl⟩)
  go_ret2
  exact ⟨rfl, rfl⟩

set_option maxRecDepth 100000 in
set_option maxHeartbeats 400000 in
theorem next_okI {w : World} {O : Nat → Prop} {g : Nat} {now last : Int} {ls : Nat → List (Tm Int)} (h : WhI w O g now last ls) (hb : count ls 64 ≤ 1000000) :
    Calls Try.prog 19 #[.pointer (some ⟨g, 0, none⟩)] w fun e w' => e = .returned (.tuple #[.int .i64 ((least (upto ls 64)).getD 0), .bool (least (upto ls 64)).isSome]) ∧ Turn w w' (fun _ => False) := by
  obtain ⟨vs, m⟩ := h
  have hr := m.range
  have HX := Lib.hid (fun (k : Nat) (hk : k < 64) (w : World) => run_index_agg (P := Try.prog) 73 72 vs k hk w Try.underlying73 (fun _ => by kernel_rfl) (fun _ => by kernel_rfl))
  have HL := Lib.hid (fun (k : Nat) (hk : k < 64) => m.len2 hk)
  go_enter Try.func19, Try.ntmps19
  go_wp2_with (first | (go_at_call 35; refine (none_noI m).mono ?_; rintro e w' ⟨rfl, rfl⟩) | (refine wpList_load_mid rfl _ _ rfl g 2 rfl (slotsL vs) _ hr Try.underlying73 rfl (by rw [slotsL_len]; kernel_rfl) ?_))
  have M := Lib.hid m
  clear hr m
  go_loopw [2, 3, 14] (fun d o i wr => ∃ k : Nat, k ≤ 64 ∧ i = .int .i64 k ∧ Best (upto ls k) d o ∧ Turn w wr (fun _ => False)) (fun _ _ i _ => 64 - (intOf i).toNat)
  case atStart => exact ⟨0, by omega, rfl, .inl ⟨rfl, rfl, rfl⟩, Turn.refl _ _⟩
  case round =>
    obtain ⟨k, hk, rfl, HB, T⟩ := hrel
    obtain ⟨wo, rfl⟩ : ∃ wo : World, wo = wr := ⟨_, rfl⟩
    by_cases hlt : k < 64
    · have h1 := HX.out k hlt wo
      have hcm := count_mono ls (n := k + 1) (m := 64) (by omega)
      have hcs := count_succ ls k
      have hlen : (ls k).length ≤ 1000000 := by omega
      have mk := (M.out.kept (w' := wo) (fun j hj _ => T.block j hj id)).2.2.1 k hlt
      have R := Lib.hid mk.1
      have hd : decide ((k : Int) < 64) = true := by simp; omega
      clear hcm hcs mk
      rcases HL.out k hlt with ⟨hp, hl0⟩ | ⟨b, c, hp⟩
      · rw [hp] at h1
        have HU : Hid (upto ls (k + 1) = upto ls k) := Lib.hid (by rw [upto_succ, hl0, List.append_nil])
        clear hp hl0 hlen R
        go_wp2
        go_loopw [2, 3, 19] (fun d o i w2 => i = .int .i64 0 ∧ Best (upto ls k) d o ∧ Turn wo w2 (fun _ => False)) (fun _ _ _ _ => 0)
        case atStart => exact ⟨rfl, HB, Turn.refl _ _⟩
        case round =>
          obtain ⟨rfl, HB2, T2⟩ := hrel
          have HB3 : Hid (Best (upto ls (k + 1)) _ _) := Lib.hid (by rw [HU.out]; exact HB2)
          clear HB2
          go_wp2
          go_roundw
          case rel => exact ⟨k + 1, by omega, by go_num, HB3.out, T.trans T2⟩
          case measure => simp [intOf]; omega
      · rw [hp] at h1
        have HP := Lib.hid hp
        clear hp
        go_wp2
        go_loopw [2, 3, 19] (fun d o i w2 => ∃ j : Nat, j ≤ (ls k).length ∧ i = .int .i64 j ∧ Best (upto ls k ++ (ls k).take j) d o ∧ Turn wo w2 (fun _ => False)) (fun _ _ i _ => (ls k).length - (intOf i).toNat)
        case atStart => exact ⟨0, by omega, rfl, by simpa using HB, Turn.refl _ _⟩
        case round =>
          obtain ⟨j, hj, rfl, HB2, T2⟩ := hrel
          by_cases hjl : j < (ls k).length
          · have R2 := R.out.kept (T2.grown (fun _ _ h => h)) (by cases (vs k).ownBlock <;> simp)
            obtain ⟨b', cap, hv, _, _, hbl, hE0⟩ := Row.elem R2 (by omega)
            have hE := hE0 j hjl
            clear hE0
            have hq := hv.symm.trans HP.out
            obtain rfl : b' = b := by injection hq with hq1; injection hq1 with hq1; injection hq1
            have HT : Hid (upto ls k ++ (ls k).take (j + 1) = upto ls k ++ (ls k).take j ++ [(ls k)[j]]) := by rw [take_one (ls k) j hjl, List.append_assoc]; exact Lib.hid rfl
            generalize (ls k)[j] = t at hE HT
            obtain ⟨ti, td, tx⟩ := t
            have HE := Lib.hid hE
            clear R2 hv hE hbl hq
            have hd2 : decide ((j : Int) < ((ls k).length : Int)) = true := by simp; omega
            rcases HB2 with ⟨hl, rfl, rfl⟩ | ⟨m, hl, rfl, rfl⟩
            · have HN := Lib.hid hl
              clear hl
              go_wp2_with (refine wpList_load_mid rfl 79 (.tmp 21) rfl b' (j * 3) rfl [.int .i64 ti, .int .i64 td, (Value.int .i64) tx] _ HE.out Try.underlying79 rfl (by kernel_rfl) ?_)
              go_roundw
              case rel => exact ⟨j + 1, by omega, by go_num, Best.first HN.out HT.out, T2.alloc _⟩
              case measure => simp [intOf]; omega
            · have HN := Lib.hid hl
              clear hl
              by_cases hdm : td < m
              · have hdm2 : decide (td < m) = true := by simpa using hdm
                go_wp2_with (refine wpList_load_mid rfl 79 (.tmp 21) rfl b' (j * 3) rfl [.int .i64 ti, .int .i64 td, (Value.int .i64) tx] _ HE.out Try.underlying79 rfl (by kernel_rfl) ?_)
                go_roundw
                case rel => exact ⟨j + 1, by omega, by go_num, Best.less HN.out HT.out hdm, T2.alloc _⟩
                case measure => simp [intOf]; omega
              · have hdm2 : decide (td < m) = false := by simpa using hdm
                go_wp2_with (refine wpList_load_mid rfl 79 (.tmp 21) rfl b' (j * 3) rfl [.int .i64 ti, .int .i64 td, (Value.int .i64) tx] _ HE.out Try.underlying79 rfl (by kernel_rfl) ?_)
                go_roundw
                case rel => exact ⟨j + 1, by omega, by go_num, Best.more HN.out HT.out hdm, T2.alloc _⟩
                case measure => simp [intOf]; omega
          · obtain rfl : j = (ls k).length := by omega
            have HB3 : Hid (Best (upto ls (k + 1)) _ _) := Lib.hid (by rw [upto_succ]; simpa using HB2)
            clear HB2
            go_wp2
            go_roundw
            case rel => exact ⟨k + 1, by omega, by go_num, HB3.out, T.trans T2⟩
            case measure => simp [intOf]; omega
    · obtain rfl : k = 64 := by omega
      obtain ⟨rfl, rfl⟩ := HB.eq
      go_wp2
      go_ret2
      exact ⟨rfl, T⟩
theorem zero_whS (g : Nat) : Try.zeroCells109.setIfInBounds 66 (.pointer (some ⟨g, 0, none⟩)) = wcells 0 0 (fun _ => .slice none 0 0) g := by kernel_rfl

set_option maxRecDepth 100000 in
set_option maxHeartbeats 1000000 in
theorem New_okS (w : World) :
    Calls Try.prog 32 #[] w fun e w' => e = .returned (.pointer (some ⟨w.heap.size, 0, none⟩)) ∧ WhS w' (fun k => k = w.heap.size) w.heap.size 0 0 (fun _ => []) ∧ Turn w w' (fun _ => False) := by
  go_enter Try.func32, Try.ntmps32
  go_wp2
  go_ret
  refine ⟨rfl, ?_, ?_⟩
  · refine ⟨fun _ => .slice none 0 0, ?_, rfl, fun i hi => ⟨World.ownsRow_nil _ _ _ _, fun k hk => by simp [Value.ownBlock] at hk⟩, fun i j hi hj hij k hk => by simp [Value.ownBlock] at hk⟩
    rw [heap_alloc_new]
    exact congrArg some (congrArg (fun cs => Obj.cells cs 109 (0, 0)) (zero_whS _))
  · exact Turn.of_grown (World.grownBy_alloc w _ none) (fun j h => by cases h)



end Go.Proofs.Ytbbmfgeagdblcaa
