/-
  WheelSteps: two wheels with the same timers, one advanced in steps, the other one at once, tell the same things, in the same order. No conditions: any due moments, any steps.
-/
import Derived.Test.YtpbhflnhblblfaaWhO
import Derived.ProofKit
import Derived.OpenShut
import Derived.ShutString
import Derived.ChangeOld
import Derived.Below
namespace Go.Proofs.Ytpbhflnhblblfaa.stp
open Go.ChangeShapes Go.WideShapes Go.ChangeAt Go.RowKit
open Go.ChangeMaps (open_string shut_string)
set_option linter.unusedVariables false

theorem own : ownKnob Try.prog.godebug = none := by kernel_rfl
theorem laidOut : laidOutB Try.prog = true := by kernel_rfl

/-- The things that are told. -/
def xs (N : Int) (L : List (Tm Int)) : List Int := (told N L).map (·.x)
theorem told_row {w : World} {B : Nat} {v : Value} {N : Int} {L : List (Tm Int)} (h : w.ownsRow B 3 1 v (told N L).length ((told N L).map fun t => Value.int .i64 t.x)) : w.ownsRow B 3 1 v (xs N L).length ((xs N L).map (Value.int .i64)) := by
  unfold xs
  rw [List.length_map, List.map_map]
  exact h
theorem xs_len (N : Int) (L : List (Tm Int)) : (xs N L).length ≤ L.length := by
  unfold xs
  rw [List.length_map, (told_perm N L).length_eq]
  exact dues_len N L
theorem ints_one (l : List Int) : ∀ u ∈ l.map (Value.int .i64), u.oneCell' = true := fun u hu => by
  obtain ⟨n, _, rfl⟩ := List.mem_map.1 hu
  rfl
theorem join {w' : World} {B : Nat} {v' : Value} {a b c : List Int} (hr : w'.ownsRow B 3 1 v' (a.length + b.length) (a.map (Value.int .i64) ++ b.map (Value.int .i64))) (hc : a ++ b = c) : w'.ownsRow B 3 1 v' c.length (c.map (Value.int .i64)) := by
  subst hc
  rw [List.length_append, List.map_append]
  exact hr
theorem map_x (l : List (Tm Int)) : (l.map fun t => Value.int .i64 t.x) = (l.map (·.x)).map (Value.int .i64) := by rw [List.map_map]; rfl

set_option maxRecDepth 100000 in
set_option maxHeartbeats 2000000 in
theorem walk (a0 : Option Addr) (len0 cap0 : Nat) (l0 : List Int) (a1 : Option Addr) (len1 cap1 : Nat) (l1 : List Int) (w : World) (w0 : IsDue w a0 len0 l0) (w1 : IsSteps w a1 len1 l1) :
    Calls Try.prog 7 #[.slice a0 len0 cap0, .slice a1 len1 cap1] w fun e w' => e = .returned (.bool true) ∧ Below w.heap.size w w' := by
  have hm0 := w0.2.1
  have hm1 := w1.2.1
  unfold maxLen at hm0 hm1
  by_cases g0 : (250 : Int) < len0
  · go_enter Try.func7, Try.ntmps7
    go_wp2_with (go_at_call 17; refine (awake_any _).mono ?_; rintro e w1 ⟨rfl, b1⟩)
    go_ret
    exact ⟨rfl, b1.below⟩
  have g0' : decide ((250 : Int) < len0) = false := decide_eq_false g0
  by_cases g1 : (100 : Int) < len1
  · go_enter Try.func7, Try.ntmps7
    go_wp2_with (go_at_call 17; refine (awake_any _).mono ?_; rintro e w1 ⟨rfl, b1⟩)
    go_ret
    exact ⟨rfl, b1.below⟩
  have g1' : decide ((100 : Int) < len1) = false := decide_eq_false g1
  have hl0 := w0.1
  have hl1 := w1.1
  have W0 := Lib.hid w0
  have W1 := Lib.hid w1
  have L0 := Lib.hid hl0
  have L1 := Lib.hid hl1
  obtain ⟨i0, z0, hi, hz0, hz1, hz2, hz3⟩ := info_xI
  have HI := Lib.hid hi
  have HZ0 := Lib.hid hz0
  have HZ1 := Lib.hid hz1
  have HZ2 := Lib.hid hz2
  have HZ3 := Lib.hid hz3
  have h64 : 8 ≤ 64 := by decide
  clear w0 w1 hl0 hl1 hi hz0 hz1 hz2 hz3
  go_enter Try.func7, Try.ntmps7
  go_wp2_with fail
  refine (awake_any _).mono ?_
  rintro e v1 ⟨rfl, t1⟩
  go_wp2_with fail
  refine (bNewI v1).mono ?_
  rintro e v2 ⟨rfl, i2, t2, z2⟩
  go_wp2_with fail
  refine (bNewI v2).mono ?_
  rintro e v3 ⟨rfl, i3, t3, z3⟩
  have S3 : SS w.heap.size v3 v1.heap.size 0 0 [] v2.heap.size 0 0 [] (.slice none 0 0) [] := by
    have y1 := t1.size
    refine ⟨fun k => k = v1.heap.size, fun k => k = v2.heap.size, i2.turn t3 (fun _ _ h => h), i3, fun j hj hx => by omega, fun j hj => by omega, World.ownsRow_nil _ _ _ _, fun j hj => by simp [Value.ownBlock] at hj, by omega⟩
  have T3 := (t1.trans t2).trans t3
  clear i2 i3 t1 t2 t3 z2 z3
  generalize v1.heap.size = ga at S3 ⊢
  generalize v2.heap.size = gb at S3 ⊢
  go_wp2_with fail
  go_loopw [7] (fun i wr => ∃ (k : Nat) (L : List (Tm Int)) (last : Int), k ≤ len0 ∧ i = .int .i64 k ∧ SS w.heap.size wr ga 0 last L gb 0 last L (.slice none 0 0) [] ∧ Turn w wr (fun _ => False) ∧ L.length ≤ k ∧ last ≤ k) (fun i _ => len0 - (intOf i).toNat)
  case atStart => exact ⟨0, [], 0, Nat.zero_le _, rfl, S3, T3, Nat.le_refl _, by omega⟩
  case round =>
    obtain ⟨k, L, last, hk, rfl, SA, T, hL, hla⟩ := hrel
    by_cases hlt : k < len0
    · have hd : decide ((k : Int) < (len0 : Int)) = true := by simp; omega
      obtain ⟨b, o, rfl, cell, wf⟩ := (W0.out.below T).at_ k (by rw [L0.out]; exact hlt)
      obtain ⟨hd0, hd1⟩ := wf_i64 wf
      have HW := Lib.hid (fun (w' : World) (t : Turn w w' (fun _ => False)) => (W0.out.below t).at_ k (by rw [L0.out]; exact hlt))
      generalize l0[k]'_ = d at cell wf hd0 hd1 HW
      obtain ⟨Oa, iA, nA⟩ := SA.step
      have NA := Lib.hid nA
      have CELL := Lib.hid cell
      by_cases hneg : d < 0
      · have HS := Lib.hid (bSetArgI iA d (k : Int) hneg)
        obtain ⟨Ob, iB, _⟩ := SA.swap.step
        have HS2 := Lib.hid (bSetArgI iB d (k : Int) hneg)
        clear wf nA iA iB NA
        go_wp2_with fail
        refine HS.out.mono ?_
        rintro e v4 ⟨rfl, rfl⟩
        go_wp2_with fail
        refine HS2.out.mono ?_
        rintro e v4 ⟨rfl, rfl⟩
        go_wp2_with fail
        go_roundw
        case rel => exact ⟨k + 1, L, last, by omega, by go_num, SA, T, by omega, by omega⟩
        case measure => simp [intOf]; omega
      · have HS := Lib.hid (bSetI iA d (k : Int) (by omega) hd1 (by omega) (by omega))
        clear wf nA iA SA
        go_wp2_with fail
        refine HS.out.mono ?_
        rintro e v4 ⟨rfl, i4, t4⟩
        obtain ⟨S4, bd⟩ := NA.out v4 _ _ _ i4 t4
        have T4 := T.step t4 bd
        obtain ⟨Ob, iB, nB⟩ := S4.swap.step
        have NB := Lib.hid nB
        have HS2 := Lib.hid (bSetI iB d (k : Int) (by omega) hd1 (by omega) (by omega))
        obtain ⟨b2, o2, e2, cell2, _⟩ := HW.out v4 T4
        injection e2 with e2
        injection e2 with e2 e3
        subst e2 e3
        clear iB nB NA HW i4 t4 bd S4 cell T
        go_wp2_with fail
        refine HS2.out.mono ?_
        rintro e v5 ⟨rfl, i5, t5⟩
        obtain ⟨S5, bd⟩ := NB.out v5 _ _ _ i5 t5
        have S6 := S5.swap
        have T5 := T4.step t5 bd
        clear i5 t5 bd S5 NB HS2 HS cell2 T4 CELL
        go_wp2_with fail
        go_roundw
        case rel => exact ⟨k + 1, L ++ [⟨last + 1, d, k⟩], last + 1, by omega, by go_num, S6, T5, by rw [List.length_append]; simp; omega, by omega⟩
        case measure => simp [intOf]; omega
    · obtain rfl : k = len0 := by omega
      have hd : decide ((k : Int) < (k : Int)) = false := by simp
      obtain ⟨Oa, iA, nA⟩ := SA.step
      have NA := Lib.hid nA
      have HS := Lib.hid (bAdvI iA 0 (by omega) (by omega) 0 (by omega))
      have iA0 := iA
      clear iA nA SA
      go_wp2_with fail
      refine HS.out.mono ?_
      rintro e v4 ⟨r4, rfl, o4, i4, t4⟩
      obtain ⟨S4, bd⟩ := NA.out v4 _ _ _ i4 t4
      have T4 := T.step t4 bd
      have O4 := Lib.hid (told_row o4)
      have X4 := Lib.hid S4.list
      have HSX := Lib.hid S4
      have HTX := Lib.hid T4
      have hxl := xs_len 0 L
      have hids := Lib.hid iA0.ids.1
      clear S4 T4 i4 t4 bd NA HS T o4 iA0
      go_wp2_with (refine wpList_append_told rfl (.tmp 61) (.tmp 63) 37 rfl 3 i0 z0 8 Try.underlying37 HI.out HZ0.out HZ1.out HZ2.out h64 HZ3.out w.heap.size _ _ _ rfl X4.out.1 X4.out.2 _ r4 _ _ rfl O4.out (ints_one _) (show 0 + (xs 0 L).length ≤ 100000000 by omega) ?_; intro r5 v5 hr hg hb; have S5 := Lib.hid (HSX.out.grown (join hr (List.nil_append _)) hg hb); have T5 := Lib.hid (HSX.out.growTurn HTX.out rfl hg); clear hr hg hb X4 HSX HTX O4)
      have S5' := S5.out
      have T5' := T5.out
      clear S5 T5
      go_loopw [12, 13, 14] (fun v to_ i wr => ∃ (k : Nat) (N : Int), k ≤ len1 ∧ i = .int .i64 k ∧ to_ = .int .i64 N ∧ 0 ≤ N ∧ N ≤ 255 * k ∧ SS w.heap.size wr ga N last (rests N L) gb 0 last L v (xs N L) ∧ Turn w wr (fun _ => False)) (fun _ _ i _ => len1 - (intOf i).toNat)
      case atStart => exact ⟨0, 0, Nat.zero_le _, rfl, rfl, by omega, by omega, S5', T5'⟩
      case round =>
        obtain ⟨j, N, hj, rfl, rfl, hN0, hN1, SB, T⟩ := hrel
        by_cases hlt : j < len1
        · have hd : decide ((j : Int) < (len1 : Int)) = true := by simp; omega
          obtain ⟨b, o, rfl, cell, wf⟩ := (W1.out.below T).at_ j (by rw [L1.out]; exact hlt)
          generalize l1[j]'_ = d at cell wf
          obtain ⟨hd0, hd1⟩ := wf_u8 wf
          obtain ⟨Oa, iA, nA⟩ := SB.step
          have NA := Lib.hid nA
          have hrl := rests_len N L
          have HS := Lib.hid (bAdvI iA (N + d) (by omega) (by omega) (N + d) (by omega))
          have hxs : Hid (xs N L ++ xs (N + d) (rests N L) = xs (N + d) L) := Lib.hid (by unfold xs; rw [← List.map_append, told_steps hids.out (by omega)])
          have hrr : Hid (rests (N + d) (rests N L) = rests (N + d) L) := Lib.hid (rests_steps L (by omega))
          have hx1 := xs_len N L
          have hx2 := xs_len (N + d) (rests N L)
          clear iA nA SB wf
          go_wp2_with fail
          refine HS.out.mono ?_
          rintro e v6 ⟨r6, rfl, o6, i6, t6⟩
          obtain ⟨S6, bd⟩ := NA.out v6 _ _ _ i6 t6
          have T6 := T.step t6 bd
          have O6 := Lib.hid (told_row o6)
          have X6 := Lib.hid S6.list
          have HSX := Lib.hid S6
          have HTX := Lib.hid T6
          clear S6 T6 i6 t6 bd NA HS T o6 cell
          go_wp2_with (refine wpList_append_told rfl (.tmp 78) (.tmp 81) 37 rfl 3 i0 z0 8 Try.underlying37 HI.out HZ0.out HZ1.out HZ2.out h64 HZ3.out w.heap.size _ _ _ rfl X6.out.1 X6.out.2 _ r6 _ _ rfl O6.out (ints_one _) (by omega) ?_; intro r7 v7 hr hg hb; have S7 := Lib.hid (HSX.out.grown (join hr hxs.out) hg hb); have T7 := Lib.hid (HSX.out.growTurn HTX.out rfl hg); clear hr hg hb X6 HSX HTX O6)
          go_roundw
          case rel => exact ⟨j + 1, N + d, by omega, by go_num, rfl, by omega, by omega, by have := S7.out; rw [hrr.out] at this; exact this, T7.out⟩
          case measure => simp [intOf]; omega
        · obtain rfl : j = len1 := by omega
          have hd : decide ((j : Int) < (j : Int)) = false := by simp
          obtain ⟨Ob, iB, nB⟩ := SB.swap.step
          have NB := Lib.hid nB
          have HS := Lib.hid (bAdvI iB N (by omega) (by omega) N (by omega))
          have hx1 := xs_len N L
          have hrl := rests_len N L
          clear iB nB SB
          go_wp2_with fail
          refine HS.out.mono ?_
          rintro e v8 ⟨r8, rfl, o8, i8, t8⟩
          obtain ⟨S8, bd⟩ := NB.out v8 _ _ _ i8 t8
          have T8 := T.step t8 bd
          have HSM := Lib.hid (same_any S8.list.1 (told_row o8) (by omega))
          clear i8 t8 bd NB HS T o8
          go_wp2_with fail
          refine HSM.out.mono ?_
          rintro e v9 ⟨rfl, t9⟩
          have S9 := S8.kept t9
          have T9 := T8.trans t9
          obtain ⟨Oa, iA, _⟩ := S9.swap.step
          obtain ⟨Ob, iB, _⟩ := S9.step
          have HLA := Lib.hid (bLenI iA (by omega))
          have HLB := Lib.hid (bLenI iB (by omega))
          have HNA := Lib.hid (bNowI iA)
          have HNB := Lib.hid (bNowI iB)
          clear S8 T8 t9 S9 iA iB HSM
          go_wp2_with fail
          refine HLA.out.mono ?_
          rintro e v10 ⟨rfl, rfl⟩
          go_wp2_with fail
          refine HLB.out.mono ?_
          rintro e v10 ⟨rfl, rfl⟩
          go_wp2_with fail
          refine HNA.out.mono ?_
          rintro e v10 ⟨rfl, rfl⟩
          go_wp2_with fail
          refine HNB.out.mono ?_
          rintro e v10 ⟨rfl, rfl⟩
          go_wp2_with fail
          go_ret
          exact ⟨rfl, T9.below⟩

set_option maxRecDepth 100000 in
theorem lifted (os : Os) (started : os.Started) (H : Type) (enc : TypeId × Value → H) :
    ReturnsInHanded {} Try.checked os 7 .any (Rows.wheelStepsSpec.pre6 enc Try.prog Try.f7 Rows.wheelStepsRow.domain false) (Rows.wheelStepsSpec.post enc Try.prog Try.f7 false true false false) := by
  refine returnsInHanded_of_change (C := Try.checked) own started (by kernel_rfl) Try.func7
    (ChangeSpec.witness6 (enc := enc) (C := Try.checked) false ⟨#[], #[.slice none 0 0, .slice none 0 0], []⟩ 8 (by kernel_rfl) (by kernel_rfl) (by kernel_rfl) (by kernel_rfl)) ?_
  intro W base args ds gs before hval0 hW hcnd _
  have hval : ∀ (j : Nat) t v, Try.f7.params[j]? = some t → args[j]? = some v → Value.okWide Try.prog W .any base t v := hval0
  have hW' := hW
  obtain ⟨p, q, hA0, hV, rfl, hfz, hnd⟩ := hW
  have hA : DataW.TrodAll enc Try.prog W 0 (fun _ => true) true Try.f7.params.toList args.toList ds p := hA0
  rw [Try.params7] at hA hval
  obtain ⟨v0, vs0, d0, ds0, p0, q0, hargs, rfl, rfl, h0, r0⟩ := trodAll_cons hA
  obtain ⟨v1, vs1, d1, ds1, p1, q1, rfl, rfl, rfl, h1, r1⟩ := trodAll_cons r0
  obtain ⟨rfl, rfl, rfl⟩ := trodAll_nil r1
  obtain rfl : args = #[v0, v1] := by cases args; simp_all
  obtain ⟨rfl, rfl⟩ := trodVars_none hV
  obtain ⟨a0, len0, cap0, rfl⟩ := okWide_slice Try.underlying37 (hval 0 37 v0 rfl rfl)
  have k0 := h0
  have lt0 : ∀ x ∈ p0, x.block < W.heap.size := by obtain ⟨m, hm⟩ := k0; exact DataW.trod_lt m _ _ _ hm
  obtain ⟨l0, w0⟩ : ∃ l, IsDue W a0 len0 l := by obtain ⟨fuel, hf⟩ := h0; exact open_due hf
  obtain ⟨a1, len1, cap1, rfl⟩ := okWide_slice Try.underlying59 (hval 1 59 v1 rfl rfl)
  have k1 := h1
  have lt1 : ∀ x ∈ p1, x.block < W.heap.size := by obtain ⟨m, hm⟩ := k1; exact DataW.trod_lt m _ _ _ hm
  obtain ⟨l1, w1⟩ : ∃ l, IsSteps W a1 len1 l := by obtain ⟨fuel, hf⟩ := h1; exact open_steps hf
  clear hA0 hval0
  refine (walk a0 len0 cap0 l0 a1 len1 cap1 l1 W w0 w1).mono fun e W' ⟨he, bel⟩ => ?_
  subst he
  exact ⟨_, rfl, _, _, _, [], _, [], hW', trodAll_mk1 (shut_bool Try.underlying4 _), (trodAll_cons_mk (Below.trod laidOut (by kernel_rfl) (of_decide_eq_true (by kernel_rfl)) k0 bel lt0) (trodAll_cons_mk (Below.trod laidOut (by kernel_rfl) (of_decide_eq_true (by kernel_rfl)) k1 bel lt1) trodAll_mk0)), rfl, bel.frame _, fun h => by cases h⟩

/-- THE STATEMENT. -/
theorem proved : Rows.WheelStepsSaid :=
  OpenClaim.holds_of_wide 7 Try.f7 rfl rfl rfl rfl rfl rfl rfl ⟨rfl, rfl, rfl, rfl, rfl⟩ rfl rfl rfl rfl rfl (by kernel_rfl) Try.func7 (by kernel_rfl)
    (of_decide_eq_true (by kernel_rfl)) (by unfold Func.isWrapper; first | (rw [if_pos (by decide +kernel)]; kernel_rfl) | (rw [if_neg (by decide +kernel)]; exact ⟨rfl, rfl⟩))
    (fun os started H enc _ => lifted os started H enc)
#print axioms proved

end Go.Proofs.Ytpbhflnhblblfaa.stp
