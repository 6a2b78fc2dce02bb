/-
  SegLens: a segment is as long as its data, and one more for each of Syn and Fin; what has bytes has 20 of them, or 24, ahead of its data. Conditions: more than 2000 bytes of data are not asked about, as the statement says.
-/
import Derived.Test.YtbjoibgkhooljaaSgI
import Derived.ProofKit
import Derived.OpenShut
import Derived.ShutString
import Derived.ChangeOld
import Derived.Below
namespace Go.Proofs.Ytbjoibgkhooljaa.sgl
open Go.ChangeShapes Go.WideShapes Go.ChangeAt Go.RowKit
open Go.ChangeMaps (open_string shut_string)
open Go.Sort (Holds)
set_option linter.unusedVariables false

set_option maxRecDepth 100000 in
set_option maxHeartbeats 4000000 in
theorem walk_long (f : Sg) (i j : Ip4)  (hm : f.da.size ≤ 9223372036854775807) (h : 2000 < f.da.size) (w : World) :
    Calls Try.prog 9 #[.agg (sgC f), .agg (ipC i), .agg (ipC j)] w fun e w' => e = .returned (.bool true) ∧ Below w.heap.size w w' := by
  go_enter Try.func9, Try.ntmps9
  go_upto_region 1 with fail
  obtain ⟨n, m, k, hn, hm, hk, fa, bl⟩ := sgbx_new w f i j
  have LO : Hid (n < w.heap.size + 3 ∧ m < w.heap.size + 3 ∧ k < w.heap.size + 3 ∧ n ≠ m ∧ n ≠ k ∧ m ≠ k) := Lib.hid (by omega)
  have F0 := Lib.hid fa
  have B0 := Lib.hid bl
  clear fa bl
  generalize World.alloc _ _ = W1 at F0 B0 ⊢
  try rw [hk]
  try rw [hm]
  try rw [hn]
  clear hn hm hk
  go_wp2_with fail
  refine (awakeS _).mono ?_
  rintro e w1 ⟨rfl, b1⟩
  have F1 := Lib.hid (F0.out.grow b1)
  have B1 := bstep B0 b1
  clear b1 F0 B0
  have c7 := F1.out.sg.da
  go_wp2_with fail
  go_ret
  exact ⟨rfl, B1.out⟩
theorem sgS_data (f : Sg) (i j : Ip4) (h : sgE f = 0) : (sgS i j f).extract (20 + opN f) (sgS i j f).size = f.da := by
  obtain ⟨x, y, hL⟩ := sgL_bytes i j f
  apply same_data
  rw [drop_data, sgS_list h, hL, show 20 + opN f = (opL f).length + 20 by rw [opL_length]; omega]
  show List.drop (opL f).length (opL f ++ f.da.data.toList) = _
  rw [List.drop_left]
set_option maxRecDepth 100000 in
set_option maxHeartbeats 8000000 in
theorem walk_err (f : Sg) (hf : f.ok) (i j : Ip4) (hz : f.da.size ≤ 2000) (hE : sgE f ≠ 0) (w : World) :
    Calls Try.prog 9 #[.agg (sgC f), .agg (ipC i), .agg (ipC j)] w fun e w' => e = .returned (.bool true) ∧ Below w.heap.size w w' := by
  have k1 := Lib.hid (fun w => sgBytes_any w f i j hf (by omega))
  have k2 := Lib.hid (fun w => Len10 w f (by omega))
  have a1 := and_1 f.fl
  have a2 := and_2 f.fl
  have u1 : IntKind.i64.wrap ((f.da.size : Int) + 1) = (f.da.size : Int) + 1 := IntWalk.i64_in _ (by omega)
  have u2 : IntKind.i64.wrap ((f.da.size : Int) + 1 + 1) = (f.da.size : Int) + 1 + 1 := IntWalk.i64_in _ (by omega)
  have hN : sgN f = (f.da.size : Int) + (if f.fl / 2 % 2 = 1 then 1 else 0) + (if f.fl % 2 = 1 then 1 else 0) := rfl
  obtain ⟨M, hM⟩ : ∃ M, M = sgN f := ⟨_, rfl⟩
  rw [← hM] at k2 hN
  obtain ⟨E, hEe⟩ : ∃ E, sgE f = E := ⟨_, rfl⟩
  rw [hEe] at k1 hE
  have HB : Hid ((E != 0) = true) := Lib.hid (by simpa using hE)
  generalize sgS i j f = T at k1
  clear hE hEe
  by_cases hms : 0 < f.ms
  · have d7 : decide (0 < f.ms) = true := decide_eq_true hms
    by_cases h2 : f.fl / 2 % 2 = 1 <;> by_cases h1 : f.fl % 2 = 1
    all_goals
      first | rw [if_pos h2] at hN a2 | rw [if_neg h2] at hN a2
      first | rw [if_pos h1] at hN a1 | rw [if_neg h1] at hN a1
      try rw [Int.add_zero] at hN
      try rw [Int.add_zero] at hN
      clear hM h1 h2
      have HM := Lib.hid hN
      clear hN
      go_enter Try.func9, Try.ntmps9
      go_upto_region 1 with fail
      obtain ⟨n, m, k, hn, hm, hk, fa, bl⟩ := sgbx_new w f i j
      have LO : Hid (n < w.heap.size + 3 ∧ m < w.heap.size + 3 ∧ k < w.heap.size + 3 ∧ n ≠ m ∧ n ≠ k ∧ m ≠ k) := Lib.hid (by omega)
      have F0 := Lib.hid fa
      have B0 := Lib.hid bl
      clear fa bl
      generalize World.alloc _ _ = W1 at F0 B0 ⊢
      try rw [hk]
      try rw [hm]
      try rw [hn]
      clear hn hm hk
      go_wp2_with fail
      refine (awakeS _).mono ?_
      rintro e w1 ⟨rfl, b1⟩
      have F1 := Lib.hid (F0.out.grow b1)
      have B1 := bstep B0 b1
      clear b1 F0 B0
      have c7 := F1.out.sg.da
      have c4 := F1.out.sg.fl
      go_upto_region 10 with fail
      clear a1 a2 u1 u2 c4 c7 hz
      rw [← HM.out]
      have hp := F1.out.sg
      have hi := F1.out.ia
      have hj := F1.out.ja
      go_wp2_with (first | (refine sg_ld (by rfl) (.tmp 3) rfl n rfl _ hp ?_) | (refine ipb_ld (by rfl) (.tmp 4) rfl m rfl _ hi ?_) | (refine ipb_ld (by rfl) (.tmp 5) rfl k rfl _ hj ?_))
      refine (k1.out _).mono ?_
      rintro e w2 ⟨rfl, b2⟩
      have F2 := Lib.hid (F1.out.grow b2)
      have B2 := bstep B1 b2
      clear b2 F1 B1
      clear hp hi hj
      have c6 := F2.out.sg.ms
      go_upto_region 14 with fail
      clear c6
      refine wp_region_noPanic ?_
      refine region_heldE (S := fun w' => SgAt w' n f) (by kernel_rfl) (fun V d => F2.out.sg.kept (d.block _)) (fun V d hS => ?_)
      have BV := bstep B2 d.below
      clear d B2
      refine wpAnyH_take (i := 0) (oi := ⟨some 42, Op.load 47 (Operand.tmp 3), _, _, _, none⟩) (v := (.agg (sgC f))) rfl (by kernel_rfl) (by kernel_rfl) (by kernel_rfl) (fun _ _ _ h => h) (yields_sg (by kernel_rfl) (Operand.tmp 3) (by kernel_rfl) n (by kernel_rfl) f (fun _ h => h)) hS ?_
      simp only [Act.put]
      refine wpAnyH_take (i := 2) (oi := ⟨some 44, Op.move (Operand.tmp 7), _, _, _, none⟩) (v := (.int .i64 M)) rfl (by kernel_rfl) (by kernel_rfl) (by kernel_rfl) (fun _ _ _ h => h) (Or.inl ⟨by rfl, fun w' h' => ?_⟩) hS ?_
      · clear h'
        go_simp
      simp only [Act.put]
      refine wpAnyH_ready (rs := [1]) (by kernel_rfl) (by simp) ?_
      refine AllReadyH.cons rfl (fun K hK => ?_) AllReadyH.nil
      go_simp
      refine (k2.out _).mono ?_
      rintro e v1 ⟨rfl, b1⟩
      have S1 := hS.grow b1
      have BV1 := bstep BV b1
      clear b1 BV
      go_simp
      refine hK.out _ _ S1 (fun _ => ?_)
      clear hK K
      refine wpAnyH_take (i := 3) (oi := ⟨some 45, Op.binOp BinOp.eql 3 (Operand.tmp 43) (Operand.tmp 44) 3, _, _, _, none⟩) (v := (.bool true)) rfl (by kernel_rfl) (by kernel_rfl) (by kernel_rfl) (fun _ _ _ h => h) (Or.inl ⟨by rfl, fun w' h' => ?_⟩) S1 ?_
      · clear h'
        go_simp
      simp only [Act.put]
      refine wpAnyH_take (i := 4) (oi := ⟨some 46, Op.move (Operand.tmp 45), _, _, _, none⟩) (v := (.bool true)) rfl (by kernel_rfl) (by kernel_rfl) (by kernel_rfl) (fun _ _ _ h => h) (Or.inl ⟨by rfl, fun w' h' => ?_⟩) S1 ?_
      · clear h'
        go_simp
      simp only [Act.put]
      refine wpAnyH_take (i := 5) (oi := ⟨some 47, Op.move (Operand.tmp 9), _, _, _, some (4, true)⟩) (v := (.int .i64 E)) rfl (by kernel_rfl) (by kernel_rfl) (by kernel_rfl) (fun _ _ _ h => h) (Or.inl ⟨by kernel_rfl, fun w' h' => ?_⟩) S1 ?_
      · clear h'
        go_simp
      simp only [Act.put]
      refine wpAnyH_take (i := 6) (oi := ⟨some 48, Op.binOp BinOp.neq 26 (Operand.tmp 47) (Operand.const (Value.int IntKind.i64 0)) 26, _, _, _, some (4, true)⟩) (v := (.bool true)) rfl (by kernel_rfl) (by kernel_rfl) (by kernel_rfl) (fun _ _ _ h => h) (Or.inl ⟨by kernel_rfl, fun w' h' => ?_⟩) S1 ?_
      · have c0 := HB.out
        clear h'
        go_simp
      simp only [Act.put]
      refine wpAnyH_take (i := 7) (oi := ⟨some 49, Op.move (Operand.tmp 48), _, _, _, some (4, true)⟩) (v := (.bool true)) rfl (by kernel_rfl) (by kernel_rfl) (by kernel_rfl) (fun _ _ _ h => h) (Or.inl ⟨by kernel_rfl, fun w' h' => ?_⟩) S1 ?_
      · clear h'
        go_simp
      simp only [Act.put]
      refine wpAnyH_take (i := 8) (oi := ⟨some 50, Op.move (Operand.tmp 8), _, _, _, some (7, false)⟩) (v := undef) rfl (by kernel_rfl) (by kernel_rfl) (by kernel_rfl) (fun _ _ _ h => h) (Or.inr ⟨by kernel_rfl, rfl⟩) S1 ?_
      simp only [Act.put]
      refine wpAnyH_take (i := 9) (oi := ⟨some 51, Op.call { callee := Callee.builtin Builtin.len, args := #[(Operand.tmp 50)], argTypes := #[9] }, _, _, _, some (7, false)⟩) (v := undef) rfl (by kernel_rfl) (by kernel_rfl) (by kernel_rfl) (fun _ _ _ h => h) (Or.inr ⟨by kernel_rfl, rfl⟩) S1 ?_
      simp only [Act.put]
      refine wpAnyH_take (i := 10) (oi := ⟨some 52, Op.move (Operand.tmp 10), _, _, _, some (7, false)⟩) (v := undef) rfl (by kernel_rfl) (by kernel_rfl) (by kernel_rfl) (fun _ _ _ h => h) (Or.inr ⟨by kernel_rfl, rfl⟩) S1 ?_
      simp only [Act.put]
      refine wpAnyH_take (i := 11) (oi := ⟨some 53, Op.binOp BinOp.add 3 (Operand.const (Value.int IntKind.i64 20)) (Operand.tmp 52) 3, _, _, _, some (7, false)⟩) (v := undef) rfl (by kernel_rfl) (by kernel_rfl) (by kernel_rfl) (fun _ _ _ h => h) (Or.inr ⟨by kernel_rfl, rfl⟩) S1 ?_
      simp only [Act.put]
      refine wpAnyH_take (i := 12) (oi := ⟨some 54, Op.fieldAddr 47 (Operand.tmp 3) 7, _, _, _, some (7, false)⟩) (v := undef) rfl (by kernel_rfl) (by kernel_rfl) (by kernel_rfl) (fun _ _ _ h => h) (Or.inr ⟨by kernel_rfl, rfl⟩) S1 ?_
      simp only [Act.put]
      refine wpAnyH_take (i := 13) (oi := ⟨some 55, Op.load 9 (Operand.tmp 54), _, _, _, some (7, false)⟩) (v := undef) rfl (by kernel_rfl) (by kernel_rfl) (by kernel_rfl) (fun _ _ _ h => h) (Or.inr ⟨by kernel_rfl, rfl⟩) S1 ?_
      simp only [Act.put]
      refine wpAnyH_take (i := 14) (oi := ⟨some 56, Op.call { callee := Callee.builtin Builtin.len, args := #[(Operand.tmp 55)], argTypes := #[9] }, _, _, _, some (7, false)⟩) (v := undef) rfl (by kernel_rfl) (by kernel_rfl) (by kernel_rfl) (fun _ _ _ h => h) (Or.inr ⟨by kernel_rfl, rfl⟩) S1 ?_
      simp only [Act.put]
      refine wpAnyH_take (i := 15) (oi := ⟨some 57, Op.binOp BinOp.add 3 (Operand.tmp 53) (Operand.tmp 56) 3, _, _, _, some (7, false)⟩) (v := undef) rfl (by kernel_rfl) (by kernel_rfl) (by kernel_rfl) (fun _ _ _ h => h) (Or.inr ⟨by kernel_rfl, rfl⟩) S1 ?_
      simp only [Act.put]
      refine wpAnyH_take (i := 16) (oi := ⟨some 58, Op.binOp BinOp.eql 3 (Operand.tmp 51) (Operand.tmp 57) 3, _, _, _, some (7, false)⟩) (v := undef) rfl (by kernel_rfl) (by kernel_rfl) (by kernel_rfl) (fun _ _ _ h => h) (Or.inr ⟨by kernel_rfl, rfl⟩) S1 ?_
      simp only [Act.put]
      refine wpAnyH_take (i := 17) (oi := ⟨some 59, Op.move (Operand.tmp 58), _, _, _, some (7, false)⟩) (v := undef) rfl (by kernel_rfl) (by kernel_rfl) (by kernel_rfl) (fun _ _ _ h => h) (Or.inr ⟨by kernel_rfl, rfl⟩) S1 ?_
      simp only [Act.put]
      refine wpAnyH_take (i := 18) (oi := ⟨some 60, Op.move (Operand.tmp 8), _, _, _, some (17, true)⟩) (v := undef) rfl (by kernel_rfl) (by kernel_rfl) (by kernel_rfl) (fun _ _ _ h => h) (Or.inr ⟨by kernel_rfl, rfl⟩) S1 ?_
      simp only [Act.put]
      refine wpAnyH_take (i := 19) (oi := ⟨some 61, Op.move (Operand.tmp 10), _, _, _, some (17, true)⟩) (v := undef) rfl (by kernel_rfl) (by kernel_rfl) (by kernel_rfl) (fun _ _ _ h => h) (Or.inr ⟨by kernel_rfl, rfl⟩) S1 ?_
      simp only [Act.put]
      refine wpAnyH_take (i := 20) (oi := ⟨some 62, Op.binOp BinOp.add 3 (Operand.const (Value.int IntKind.i64 20)) (Operand.tmp 61) 3, _, _, _, some (17, true)⟩) (v := undef) rfl (by kernel_rfl) (by kernel_rfl) (by kernel_rfl) (fun _ _ _ h => h) (Or.inr ⟨by kernel_rfl, rfl⟩) S1 ?_
      simp only [Act.put]
      refine wpAnyH_take (i := 21) (oi := ⟨some 63, Op.slice 9 (Operand.tmp 60) (some (Operand.tmp 62)) none none, _, _, _, some (17, true)⟩) (v := undef) rfl (by kernel_rfl) (by kernel_rfl) (by kernel_rfl) (fun _ _ _ h => h) (Or.inr ⟨by kernel_rfl, rfl⟩) S1 ?_
      simp only [Act.put]
      refine wpAnyH_take (i := 22) (oi := ⟨some 64, Op.fieldAddr 47 (Operand.tmp 3) 7, _, _, _, some (17, true)⟩) (v := undef) rfl (by kernel_rfl) (by kernel_rfl) (by kernel_rfl) (fun _ _ _ h => h) (Or.inr ⟨by kernel_rfl, rfl⟩) S1 ?_
      simp only [Act.put]
      refine wpAnyH_take (i := 23) (oi := ⟨some 65, Op.load 9 (Operand.tmp 64), _, _, _, some (17, true)⟩) (v := undef) rfl (by kernel_rfl) (by kernel_rfl) (by kernel_rfl) (fun _ _ _ h => h) (Or.inr ⟨by kernel_rfl, rfl⟩) S1 ?_
      simp only [Act.put]
      refine wpAnyH_take (i := 24) (oi := ⟨some 66, Op.binOp BinOp.eql 9 (Operand.tmp 63) (Operand.tmp 65) 9, _, _, _, some (17, true)⟩) (v := undef) rfl (by kernel_rfl) (by kernel_rfl) (by kernel_rfl) (fun _ _ _ h => h) (Or.inr ⟨by kernel_rfl, rfl⟩) S1 ?_
      simp only [Act.put]
      refine wpAnyH_take (i := 25) (oi := ⟨some 67, Op.pick (Operand.tmp 59) (Operand.tmp 66) (Operand.const (Value.bool false)), _, _, _, some (7, false)⟩) (v := undef) rfl (by kernel_rfl) (by kernel_rfl) (by kernel_rfl) (fun _ _ _ h => h) (Or.inr ⟨by kernel_rfl, rfl⟩) S1 ?_
      simp only [Act.put]
      refine wpAnyH_take (i := 26) (oi := ⟨some 68, Op.pick (Operand.tmp 49) (Operand.const (Value.bool true)) (Operand.tmp 67), _, _, _, some (4, true)⟩) (v := (.bool true)) rfl (by kernel_rfl) (by kernel_rfl) (by kernel_rfl) (fun _ _ _ h => h) (Or.inl ⟨by kernel_rfl, fun w' h' => ?_⟩) S1 ?_
      · clear h'
        go_simp
      simp only [Act.put]
      refine wpAnyH_take (i := 27) (oi := ⟨some 69, Op.pick (Operand.tmp 46) (Operand.tmp 68) (Operand.const (Value.bool false)), _, _, _, none⟩) (v := (.bool true)) rfl (by kernel_rfl) (by kernel_rfl) (by kernel_rfl) (fun _ _ _ h => h) (Or.inl ⟨by rfl, fun w' h' => ?_⟩) S1 ?_
      · clear h'
        go_simp
      simp only [Act.put]
      refine wpAnyH_take (i := 28) (oi := ⟨some 6, Op.assign (Operand.tmp 69), _, _, _, none⟩) (v := (.bool true)) rfl (by kernel_rfl) (by kernel_rfl) (by kernel_rfl) (fun _ _ _ h => h) (Or.inl ⟨by rfl, fun w' h' => ?_⟩) S1 ?_
      · clear h'
        go_simp
      simp only [Act.put]
      refine wpAnyH_done (by kernel_rfl) (NoPanic.normal ?_) _
      simp only [List.setIfInBounds_toArray, List.set_cons_zero, List.set_cons_succ]
      clear S1 hS
      go_wp2_with fail
      go_ret
      exact ⟨rfl, BV1.out⟩
  · have d7 : decide (0 < f.ms) = false := decide_eq_false hms
    by_cases h2 : f.fl / 2 % 2 = 1 <;> by_cases h1 : f.fl % 2 = 1
    all_goals
      first | rw [if_pos h2] at hN a2 | rw [if_neg h2] at hN a2
      first | rw [if_pos h1] at hN a1 | rw [if_neg h1] at hN a1
      try rw [Int.add_zero] at hN
      try rw [Int.add_zero] at hN
      clear hM h1 h2
      have HM := Lib.hid hN
      clear hN
      go_enter Try.func9, Try.ntmps9
      go_upto_region 1 with fail
      obtain ⟨n, m, k, hn, hm, hk, fa, bl⟩ := sgbx_new w f i j
      have LO : Hid (n < w.heap.size + 3 ∧ m < w.heap.size + 3 ∧ k < w.heap.size + 3 ∧ n ≠ m ∧ n ≠ k ∧ m ≠ k) := Lib.hid (by omega)
      have F0 := Lib.hid fa
      have B0 := Lib.hid bl
      clear fa bl
      generalize World.alloc _ _ = W1 at F0 B0 ⊢
      try rw [hk]
      try rw [hm]
      try rw [hn]
      clear hn hm hk
      go_wp2_with fail
      refine (awakeS _).mono ?_
      rintro e w1 ⟨rfl, b1⟩
      have F1 := Lib.hid (F0.out.grow b1)
      have B1 := bstep B0 b1
      clear b1 F0 B0
      have c7 := F1.out.sg.da
      have c4 := F1.out.sg.fl
      go_upto_region 10 with fail
      clear a1 a2 u1 u2 c4 c7 hz
      rw [← HM.out]
      have hp := F1.out.sg
      have hi := F1.out.ia
      have hj := F1.out.ja
      go_wp2_with (first | (refine sg_ld (by rfl) (.tmp 3) rfl n rfl _ hp ?_) | (refine ipb_ld (by rfl) (.tmp 4) rfl m rfl _ hi ?_) | (refine ipb_ld (by rfl) (.tmp 5) rfl k rfl _ hj ?_))
      refine (k1.out _).mono ?_
      rintro e w2 ⟨rfl, b2⟩
      have F2 := Lib.hid (F1.out.grow b2)
      have B2 := bstep B1 b2
      clear b2 F1 B1
      clear hp hi hj
      have c6 := F2.out.sg.ms
      go_upto_region 14 with fail
      clear c6
      refine wp_region_noPanic ?_
      refine region_heldE (S := fun w' => SgAt w' n f) (by kernel_rfl) (fun V d => F2.out.sg.kept (d.block _)) (fun V d hS => ?_)
      have BV := bstep B2 d.below
      clear d B2
      refine wpAnyH_take (i := 0) (oi := ⟨some 42, Op.load 47 (Operand.tmp 3), _, _, _, none⟩) (v := (.agg (sgC f))) rfl (by kernel_rfl) (by kernel_rfl) (by kernel_rfl) (fun _ _ _ h => h) (yields_sg (by kernel_rfl) (Operand.tmp 3) (by kernel_rfl) n (by kernel_rfl) f (fun _ h => h)) hS ?_
      simp only [Act.put]
      refine wpAnyH_take (i := 2) (oi := ⟨some 44, Op.move (Operand.tmp 7), _, _, _, none⟩) (v := (.int .i64 M)) rfl (by kernel_rfl) (by kernel_rfl) (by kernel_rfl) (fun _ _ _ h => h) (Or.inl ⟨by rfl, fun w' h' => ?_⟩) hS ?_
      · clear h'
        go_simp
      simp only [Act.put]
      refine wpAnyH_ready (rs := [1]) (by kernel_rfl) (by simp) ?_
      refine AllReadyH.cons rfl (fun K hK => ?_) AllReadyH.nil
      go_simp
      refine (k2.out _).mono ?_
      rintro e v1 ⟨rfl, b1⟩
      have S1 := hS.grow b1
      have BV1 := bstep BV b1
      clear b1 BV
      go_simp
      refine hK.out _ _ S1 (fun _ => ?_)
      clear hK K
      refine wpAnyH_take (i := 3) (oi := ⟨some 45, Op.binOp BinOp.eql 3 (Operand.tmp 43) (Operand.tmp 44) 3, _, _, _, none⟩) (v := (.bool true)) rfl (by kernel_rfl) (by kernel_rfl) (by kernel_rfl) (fun _ _ _ h => h) (Or.inl ⟨by rfl, fun w' h' => ?_⟩) S1 ?_
      · clear h'
        go_simp
      simp only [Act.put]
      refine wpAnyH_take (i := 4) (oi := ⟨some 46, Op.move (Operand.tmp 45), _, _, _, none⟩) (v := (.bool true)) rfl (by kernel_rfl) (by kernel_rfl) (by kernel_rfl) (fun _ _ _ h => h) (Or.inl ⟨by rfl, fun w' h' => ?_⟩) S1 ?_
      · clear h'
        go_simp
      simp only [Act.put]
      refine wpAnyH_take (i := 5) (oi := ⟨some 47, Op.move (Operand.tmp 9), _, _, _, some (4, true)⟩) (v := (.int .i64 E)) rfl (by kernel_rfl) (by kernel_rfl) (by kernel_rfl) (fun _ _ _ h => h) (Or.inl ⟨by kernel_rfl, fun w' h' => ?_⟩) S1 ?_
      · clear h'
        go_simp
      simp only [Act.put]
      refine wpAnyH_take (i := 6) (oi := ⟨some 48, Op.binOp BinOp.neq 26 (Operand.tmp 47) (Operand.const (Value.int IntKind.i64 0)) 26, _, _, _, some (4, true)⟩) (v := (.bool true)) rfl (by kernel_rfl) (by kernel_rfl) (by kernel_rfl) (fun _ _ _ h => h) (Or.inl ⟨by kernel_rfl, fun w' h' => ?_⟩) S1 ?_
      · have c0 := HB.out
        clear h'
        go_simp
      simp only [Act.put]
      refine wpAnyH_take (i := 7) (oi := ⟨some 49, Op.move (Operand.tmp 48), _, _, _, some (4, true)⟩) (v := (.bool true)) rfl (by kernel_rfl) (by kernel_rfl) (by kernel_rfl) (fun _ _ _ h => h) (Or.inl ⟨by kernel_rfl, fun w' h' => ?_⟩) S1 ?_
      · clear h'
        go_simp
      simp only [Act.put]
      refine wpAnyH_take (i := 8) (oi := ⟨some 50, Op.move (Operand.tmp 8), _, _, _, some (7, false)⟩) (v := undef) rfl (by kernel_rfl) (by kernel_rfl) (by kernel_rfl) (fun _ _ _ h => h) (Or.inr ⟨by kernel_rfl, rfl⟩) S1 ?_
      simp only [Act.put]
      refine wpAnyH_take (i := 9) (oi := ⟨some 51, Op.call { callee := Callee.builtin Builtin.len, args := #[(Operand.tmp 50)], argTypes := #[9] }, _, _, _, some (7, false)⟩) (v := undef) rfl (by kernel_rfl) (by kernel_rfl) (by kernel_rfl) (fun _ _ _ h => h) (Or.inr ⟨by kernel_rfl, rfl⟩) S1 ?_
      simp only [Act.put]
      refine wpAnyH_take (i := 10) (oi := ⟨some 52, Op.move (Operand.tmp 10), _, _, _, some (7, false)⟩) (v := undef) rfl (by kernel_rfl) (by kernel_rfl) (by kernel_rfl) (fun _ _ _ h => h) (Or.inr ⟨by kernel_rfl, rfl⟩) S1 ?_
      simp only [Act.put]
      refine wpAnyH_take (i := 11) (oi := ⟨some 53, Op.binOp BinOp.add 3 (Operand.const (Value.int IntKind.i64 20)) (Operand.tmp 52) 3, _, _, _, some (7, false)⟩) (v := undef) rfl (by kernel_rfl) (by kernel_rfl) (by kernel_rfl) (fun _ _ _ h => h) (Or.inr ⟨by kernel_rfl, rfl⟩) S1 ?_
      simp only [Act.put]
      refine wpAnyH_take (i := 12) (oi := ⟨some 54, Op.fieldAddr 47 (Operand.tmp 3) 7, _, _, _, some (7, false)⟩) (v := undef) rfl (by kernel_rfl) (by kernel_rfl) (by kernel_rfl) (fun _ _ _ h => h) (Or.inr ⟨by kernel_rfl, rfl⟩) S1 ?_
      simp only [Act.put]
      refine wpAnyH_take (i := 13) (oi := ⟨some 55, Op.load 9 (Operand.tmp 54), _, _, _, some (7, false)⟩) (v := undef) rfl (by kernel_rfl) (by kernel_rfl) (by kernel_rfl) (fun _ _ _ h => h) (Or.inr ⟨by kernel_rfl, rfl⟩) S1 ?_
      simp only [Act.put]
      refine wpAnyH_take (i := 14) (oi := ⟨some 56, Op.call { callee := Callee.builtin Builtin.len, args := #[(Operand.tmp 55)], argTypes := #[9] }, _, _, _, some (7, false)⟩) (v := undef) rfl (by kernel_rfl) (by kernel_rfl) (by kernel_rfl) (fun _ _ _ h => h) (Or.inr ⟨by kernel_rfl, rfl⟩) S1 ?_
      simp only [Act.put]
      refine wpAnyH_take (i := 15) (oi := ⟨some 57, Op.binOp BinOp.add 3 (Operand.tmp 53) (Operand.tmp 56) 3, _, _, _, some (7, false)⟩) (v := undef) rfl (by kernel_rfl) (by kernel_rfl) (by kernel_rfl) (fun _ _ _ h => h) (Or.inr ⟨by kernel_rfl, rfl⟩) S1 ?_
      simp only [Act.put]
      refine wpAnyH_take (i := 16) (oi := ⟨some 58, Op.binOp BinOp.eql 3 (Operand.tmp 51) (Operand.tmp 57) 3, _, _, _, some (7, false)⟩) (v := undef) rfl (by kernel_rfl) (by kernel_rfl) (by kernel_rfl) (fun _ _ _ h => h) (Or.inr ⟨by kernel_rfl, rfl⟩) S1 ?_
      simp only [Act.put]
      refine wpAnyH_take (i := 17) (oi := ⟨some 59, Op.move (Operand.tmp 58), _, _, _, some (7, false)⟩) (v := undef) rfl (by kernel_rfl) (by kernel_rfl) (by kernel_rfl) (fun _ _ _ h => h) (Or.inr ⟨by kernel_rfl, rfl⟩) S1 ?_
      simp only [Act.put]
      refine wpAnyH_take (i := 18) (oi := ⟨some 60, Op.move (Operand.tmp 8), _, _, _, some (17, true)⟩) (v := undef) rfl (by kernel_rfl) (by kernel_rfl) (by kernel_rfl) (fun _ _ _ h => h) (Or.inr ⟨by kernel_rfl, rfl⟩) S1 ?_
      simp only [Act.put]
      refine wpAnyH_take (i := 19) (oi := ⟨some 61, Op.move (Operand.tmp 10), _, _, _, some (17, true)⟩) (v := undef) rfl (by kernel_rfl) (by kernel_rfl) (by kernel_rfl) (fun _ _ _ h => h) (Or.inr ⟨by kernel_rfl, rfl⟩) S1 ?_
      simp only [Act.put]
      refine wpAnyH_take (i := 20) (oi := ⟨some 62, Op.binOp BinOp.add 3 (Operand.const (Value.int IntKind.i64 20)) (Operand.tmp 61) 3, _, _, _, some (17, true)⟩) (v := undef) rfl (by kernel_rfl) (by kernel_rfl) (by kernel_rfl) (fun _ _ _ h => h) (Or.inr ⟨by kernel_rfl, rfl⟩) S1 ?_
      simp only [Act.put]
      refine wpAnyH_take (i := 21) (oi := ⟨some 63, Op.slice 9 (Operand.tmp 60) (some (Operand.tmp 62)) none none, _, _, _, some (17, true)⟩) (v := undef) rfl (by kernel_rfl) (by kernel_rfl) (by kernel_rfl) (fun _ _ _ h => h) (Or.inr ⟨by kernel_rfl, rfl⟩) S1 ?_
      simp only [Act.put]
      refine wpAnyH_take (i := 22) (oi := ⟨some 64, Op.fieldAddr 47 (Operand.tmp 3) 7, _, _, _, some (17, true)⟩) (v := undef) rfl (by kernel_rfl) (by kernel_rfl) (by kernel_rfl) (fun _ _ _ h => h) (Or.inr ⟨by kernel_rfl, rfl⟩) S1 ?_
      simp only [Act.put]
      refine wpAnyH_take (i := 23) (oi := ⟨some 65, Op.load 9 (Operand.tmp 64), _, _, _, some (17, true)⟩) (v := undef) rfl (by kernel_rfl) (by kernel_rfl) (by kernel_rfl) (fun _ _ _ h => h) (Or.inr ⟨by kernel_rfl, rfl⟩) S1 ?_
      simp only [Act.put]
      refine wpAnyH_take (i := 24) (oi := ⟨some 66, Op.binOp BinOp.eql 9 (Operand.tmp 63) (Operand.tmp 65) 9, _, _, _, some (17, true)⟩) (v := undef) rfl (by kernel_rfl) (by kernel_rfl) (by kernel_rfl) (fun _ _ _ h => h) (Or.inr ⟨by kernel_rfl, rfl⟩) S1 ?_
      simp only [Act.put]
      refine wpAnyH_take (i := 25) (oi := ⟨some 67, Op.pick (Operand.tmp 59) (Operand.tmp 66) (Operand.const (Value.bool false)), _, _, _, some (7, false)⟩) (v := undef) rfl (by kernel_rfl) (by kernel_rfl) (by kernel_rfl) (fun _ _ _ h => h) (Or.inr ⟨by kernel_rfl, rfl⟩) S1 ?_
      simp only [Act.put]
      refine wpAnyH_take (i := 26) (oi := ⟨some 68, Op.pick (Operand.tmp 49) (Operand.const (Value.bool true)) (Operand.tmp 67), _, _, _, some (4, true)⟩) (v := (.bool true)) rfl (by kernel_rfl) (by kernel_rfl) (by kernel_rfl) (fun _ _ _ h => h) (Or.inl ⟨by kernel_rfl, fun w' h' => ?_⟩) S1 ?_
      · clear h'
        go_simp
      simp only [Act.put]
      refine wpAnyH_take (i := 27) (oi := ⟨some 69, Op.pick (Operand.tmp 46) (Operand.tmp 68) (Operand.const (Value.bool false)), _, _, _, none⟩) (v := (.bool true)) rfl (by kernel_rfl) (by kernel_rfl) (by kernel_rfl) (fun _ _ _ h => h) (Or.inl ⟨by rfl, fun w' h' => ?_⟩) S1 ?_
      · clear h'
        go_simp
      simp only [Act.put]
      refine wpAnyH_take (i := 28) (oi := ⟨some 6, Op.assign (Operand.tmp 69), _, _, _, none⟩) (v := (.bool true)) rfl (by kernel_rfl) (by kernel_rfl) (by kernel_rfl) (fun _ _ _ h => h) (Or.inl ⟨by rfl, fun w' h' => ?_⟩) S1 ?_
      · clear h'
        go_simp
      simp only [Act.put]
      refine wpAnyH_done (by kernel_rfl) (NoPanic.normal ?_) _
      simp only [List.setIfInBounds_toArray, List.set_cons_zero, List.set_cons_succ]
      clear S1 hS
      go_wp2_with fail
      go_ret
      exact ⟨rfl, BV1.out⟩
set_option maxRecDepth 100000 in
set_option maxHeartbeats 8000000 in
theorem walk_ok0 (f : Sg) (hf : f.ok) (i j : Ip4) (hz : f.da.size ≤ 2000) (hE : sgE f = 0) (ho : opN f = 0) (hms : f.ms = 0) (w : World) :
    Calls Try.prog 9 #[.agg (sgC f), .agg (ipC i), .agg (ipC j)] w fun e w' => e = .returned (.bool true) ∧ Below w.heap.size w w' := by
  have k1 := Lib.hid (fun w => sgBytes_any w f i j hf (by omega))
  have k2 := Lib.hid (fun w => Len10 w f (by omega))
  have a1 := and_1 f.fl
  have a2 := and_2 f.fl
  have u1 : IntKind.i64.wrap ((f.da.size : Int) + 1) = (f.da.size : Int) + 1 := IntWalk.i64_in _ (by omega)
  have u2 : IntKind.i64.wrap ((f.da.size : Int) + 1 + 1) = (f.da.size : Int) + 1 + 1 := IntWalk.i64_in _ (by omega)
  have hN : sgN f = (f.da.size : Int) + (if f.fl / 2 % 2 = 1 then 1 else 0) + (if f.fl % 2 = 1 then 1 else 0) := rfl
  obtain ⟨M, hM⟩ : ∃ M, M = sgN f := ⟨_, rfl⟩
  rw [← hM] at k2 hN
  have hT := sgS_size (i := i) (j := j) hE
  have hX := sgS_data f i j hE
  rw [ho] at hT hX
  rw [hE] at k1
  generalize sgS i j f = T at k1 hT hX
  have HT : Hid (((T.size : Int) == 20 + (f.da.size : Int)) = true) := Lib.hid (by rw [beq_iff_eq]; omega)
  have HW : Hid (IntKind.i64.wrap (20 + (f.da.size : Int)) = 20 + (f.da.size : Int)) := Lib.hid (IntWalk.i64_in _ (by omega))
  have HG : Hid (¬ (T.size : Int) < 20 ∧ 20 ≤ T.size) := Lib.hid ⟨by omega, by omega⟩
  have HX : Hid (T.extract 20 T.size = f.da) := Lib.hid hX
  have HMM : Hid (IntKind.i64.wrap 20 = 20) := Lib.hid (by decide)
  have d7 : decide (0 < f.ms) = false := decide_eq_false (by omega)
  clear hT hX hE ho hms
  by_cases h2 : f.fl / 2 % 2 = 1 <;> by_cases h1 : f.fl % 2 = 1
  all_goals
    first | rw [if_pos h2] at hN a2 | rw [if_neg h2] at hN a2
    first | rw [if_pos h1] at hN a1 | rw [if_neg h1] at hN a1
    try rw [Int.add_zero] at hN
    try rw [Int.add_zero] at hN
    clear hM h1 h2
    have HM := Lib.hid hN
    clear hN
    go_enter Try.func9, Try.ntmps9
    go_upto_region 1 with fail
    obtain ⟨n, m, k, hn, hm, hk, fa, bl⟩ := sgbx_new w f i j
    have LO : Hid (n < w.heap.size + 3 ∧ m < w.heap.size + 3 ∧ k < w.heap.size + 3 ∧ n ≠ m ∧ n ≠ k ∧ m ≠ k) := Lib.hid (by omega)
    have F0 := Lib.hid fa
    have B0 := Lib.hid bl
    clear fa bl
    generalize World.alloc _ _ = W1 at F0 B0 ⊢
    try rw [hk]
    try rw [hm]
    try rw [hn]
    clear hn hm hk
    go_wp2_with fail
    refine (awakeS _).mono ?_
    rintro e w1 ⟨rfl, b1⟩
    have F1 := Lib.hid (F0.out.grow b1)
    have B1 := bstep B0 b1
    clear b1 F0 B0
    have c7 := F1.out.sg.da
    have c4 := F1.out.sg.fl
    go_upto_region 10 with fail
    clear a1 a2 u1 u2 c4 c7 hz
    rw [← HM.out]
    have hp := F1.out.sg
    have hi := F1.out.ia
    have hj := F1.out.ja
    go_wp2_with (first | (refine sg_ld (by rfl) (.tmp 3) rfl n rfl _ hp ?_) | (refine ipb_ld (by rfl) (.tmp 4) rfl m rfl _ hi ?_) | (refine ipb_ld (by rfl) (.tmp 5) rfl k rfl _ hj ?_))
    refine (k1.out _).mono ?_
    rintro e w2 ⟨rfl, b2⟩
    have F2 := Lib.hid (F1.out.grow b2)
    have B2 := bstep B1 b2
    clear b2 F1 B1
    clear hp hi hj
    have c6 := F2.out.sg.ms
    go_upto_region 14 with fail
    clear c6
    refine wp_region_noPanic ?_
    refine region_heldE (S := fun w' => SgAt w' n f) (by kernel_rfl) (fun V d => F2.out.sg.kept (d.block _)) (fun V d hS => ?_)
    have BV := bstep B2 d.below
    clear d B2
    refine wpAnyH_take (i := 0) (oi := ⟨some 42, Op.load 47 (Operand.tmp 3), _, _, _, none⟩) (v := (.agg (sgC f))) rfl (by kernel_rfl) (by kernel_rfl) (by kernel_rfl) (fun _ _ _ h => h) (yields_sg (by kernel_rfl) (Operand.tmp 3) (by kernel_rfl) n (by kernel_rfl) f (fun _ h => h)) hS ?_
    simp only [Act.put]
    refine wpAnyH_take (i := 2) (oi := ⟨some 44, Op.move (Operand.tmp 7), _, _, _, none⟩) (v := (.int .i64 M)) rfl (by kernel_rfl) (by kernel_rfl) (by kernel_rfl) (fun _ _ _ h => h) (Or.inl ⟨by rfl, fun w' h' => ?_⟩) hS ?_
    · clear h'
      go_simp
    simp only [Act.put]
    refine wpAnyH_ready (rs := [1]) (by kernel_rfl) (by simp) ?_
    refine AllReadyH.cons rfl (fun K hK => ?_) AllReadyH.nil
    go_simp
    refine (k2.out _).mono ?_
    rintro e v1 ⟨rfl, b1⟩
    have S1 := hS.grow b1
    have BV1 := bstep BV b1
    clear b1 BV
    go_simp
    refine hK.out _ _ S1 (fun _ => ?_)
    clear hK K
    refine wpAnyH_take (i := 3) (oi := ⟨some 45, Op.binOp BinOp.eql 3 (Operand.tmp 43) (Operand.tmp 44) 3, _, _, _, none⟩) (v := (.bool true)) rfl (by kernel_rfl) (by kernel_rfl) (by kernel_rfl) (fun _ _ _ h => h) (Or.inl ⟨by rfl, fun w' h' => ?_⟩) S1 ?_
    · clear h'
      go_simp
    simp only [Act.put]
    refine wpAnyH_take (i := 4) (oi := ⟨some 46, Op.move (Operand.tmp 45), _, _, _, none⟩) (v := (.bool true)) rfl (by kernel_rfl) (by kernel_rfl) (by kernel_rfl) (fun _ _ _ h => h) (Or.inl ⟨by rfl, fun w' h' => ?_⟩) S1 ?_
    · clear h'
      go_simp
    simp only [Act.put]
    refine wpAnyH_take (i := 5) (oi := ⟨some 47, Op.move (Operand.tmp 9), _, _, _, some (4, true)⟩) (v := (.int .i64 0)) rfl (by kernel_rfl) (by kernel_rfl) (by kernel_rfl) (fun _ _ _ h => h) (Or.inl ⟨by kernel_rfl, fun w' h' => ?_⟩) S1 ?_
    · clear h'
      go_simp
    simp only [Act.put]
    refine wpAnyH_take (i := 6) (oi := ⟨some 48, Op.binOp BinOp.neq 26 (Operand.tmp 47) (Operand.const (Value.int IntKind.i64 0)) 26, _, _, _, some (4, true)⟩) (v := (.bool false)) rfl (by kernel_rfl) (by kernel_rfl) (by kernel_rfl) (fun _ _ _ h => h) (Or.inl ⟨by kernel_rfl, fun w' h' => ?_⟩) S1 ?_
    · clear h'
      go_simp
    simp only [Act.put]
    refine wpAnyH_take (i := 7) (oi := ⟨some 49, Op.move (Operand.tmp 48), _, _, _, some (4, true)⟩) (v := (.bool false)) rfl (by kernel_rfl) (by kernel_rfl) (by kernel_rfl) (fun _ _ _ h => h) (Or.inl ⟨by kernel_rfl, fun w' h' => ?_⟩) S1 ?_
    · clear h'
      go_simp
    simp only [Act.put]
    refine wpAnyH_take (i := 8) (oi := ⟨some 50, Op.move (Operand.tmp 8), _, _, _, some (7, false)⟩) (v := (.string T)) rfl (by kernel_rfl) (by kernel_rfl) (by kernel_rfl) (fun _ _ _ h => h) (Or.inl ⟨by kernel_rfl, fun w' h' => ?_⟩) S1 ?_
    · clear h'
      go_simp
    simp only [Act.put]
    refine wpAnyH_take (i := 9) (oi := ⟨some 51, Op.call { callee := Callee.builtin Builtin.len, args := #[(Operand.tmp 50)], argTypes := #[9] }, _, _, _, some (7, false)⟩) (v := (.int .i64 (T.size : Int))) rfl (by kernel_rfl) (by kernel_rfl) (by kernel_rfl) (fun _ _ _ h => h) (Or.inl ⟨by kernel_rfl, fun w' h' => ?_⟩) S1 ?_
    · clear h'
      go_simp
    simp only [Act.put]
    refine wpAnyH_take (i := 10) (oi := ⟨some 52, Op.move (Operand.tmp 10), _, _, _, some (7, false)⟩) (v := (.int .i64 0)) rfl (by kernel_rfl) (by kernel_rfl) (by kernel_rfl) (fun _ _ _ h => h) (Or.inl ⟨by kernel_rfl, fun w' h' => ?_⟩) S1 ?_
    · clear h'
      go_simp
    simp only [Act.put]
    refine wpAnyH_take (i := 11) (oi := ⟨some 53, Op.binOp BinOp.add 3 (Operand.const (Value.int IntKind.i64 20)) (Operand.tmp 52) 3, _, _, _, some (7, false)⟩) (v := (.int .i64 20)) rfl (by kernel_rfl) (by kernel_rfl) (by kernel_rfl) (fun _ _ _ h => h) (Or.inl ⟨by kernel_rfl, fun w' h' => ?_⟩) S1 ?_
    · have c0 := HMM.out
      clear h'
      go_simp
    simp only [Act.put]
    refine wpAnyH_take (i := 12) (oi := ⟨some 54, Op.fieldAddr 47 (Operand.tmp 3) 7, _, _, _, some (7, false)⟩) (v := (.pointer (some ⟨n, 7, none⟩))) rfl (by kernel_rfl) (by kernel_rfl) (by kernel_rfl) (fun _ _ _ h => h) (Or.inl ⟨by kernel_rfl, fun w' h' => ?_⟩) S1 ?_
    · clear h'
      go_simp
    simp only [Act.put]
    refine wpAnyH_take (i := 13) (oi := ⟨some 55, Op.load 9 (Operand.tmp 54), _, _, _, some (7, false)⟩) (v := (.string f.da)) rfl (by kernel_rfl) (by kernel_rfl) (by kernel_rfl) (fun _ _ _ h => h) (Or.inl ⟨by kernel_rfl, fun w' h' => ?_⟩) S1 ?_
    · have c0 := SgAt.da h'
      clear h'
      go_simp
    simp only [Act.put]
    refine wpAnyH_take (i := 14) (oi := ⟨some 56, Op.call { callee := Callee.builtin Builtin.len, args := #[(Operand.tmp 55)], argTypes := #[9] }, _, _, _, some (7, false)⟩) (v := (.int .i64 (f.da.size : Int))) rfl (by kernel_rfl) (by kernel_rfl) (by kernel_rfl) (fun _ _ _ h => h) (Or.inl ⟨by kernel_rfl, fun w' h' => ?_⟩) S1 ?_
    · clear h'
      go_simp
    simp only [Act.put]
    refine wpAnyH_take (i := 15) (oi := ⟨some 57, Op.binOp BinOp.add 3 (Operand.tmp 53) (Operand.tmp 56) 3, _, _, _, some (7, false)⟩) (v := (.int .i64 (20 + (f.da.size : Int)))) rfl (by kernel_rfl) (by kernel_rfl) (by kernel_rfl) (fun _ _ _ h => h) (Or.inl ⟨by kernel_rfl, fun w' h' => ?_⟩) S1 ?_
    · have c0 := HW.out
      clear h'
      go_simp
    simp only [Act.put]
    refine wpAnyH_take (i := 16) (oi := ⟨some 58, Op.binOp BinOp.eql 3 (Operand.tmp 51) (Operand.tmp 57) 3, _, _, _, some (7, false)⟩) (v := (.bool true)) rfl (by kernel_rfl) (by kernel_rfl) (by kernel_rfl) (fun _ _ _ h => h) (Or.inl ⟨by kernel_rfl, fun w' h' => ?_⟩) S1 ?_
    · have c0 := HT.out
      clear h'
      go_simp
    simp only [Act.put]
    refine wpAnyH_take (i := 17) (oi := ⟨some 59, Op.move (Operand.tmp 58), _, _, _, some (7, false)⟩) (v := (.bool true)) rfl (by kernel_rfl) (by kernel_rfl) (by kernel_rfl) (fun _ _ _ h => h) (Or.inl ⟨by kernel_rfl, fun w' h' => ?_⟩) S1 ?_
    · clear h'
      go_simp
    simp only [Act.put]
    refine wpAnyH_take (i := 18) (oi := ⟨some 60, Op.move (Operand.tmp 8), _, _, _, some (17, true)⟩) (v := (.string T)) rfl (by kernel_rfl) (by kernel_rfl) (by kernel_rfl) (fun _ _ _ h => h) (Or.inl ⟨by kernel_rfl, fun w' h' => ?_⟩) S1 ?_
    · clear h'
      go_simp
    simp only [Act.put]
    refine wpAnyH_take (i := 19) (oi := ⟨some 61, Op.move (Operand.tmp 10), _, _, _, some (17, true)⟩) (v := (.int .i64 0)) rfl (by kernel_rfl) (by kernel_rfl) (by kernel_rfl) (fun _ _ _ h => h) (Or.inl ⟨by kernel_rfl, fun w' h' => ?_⟩) S1 ?_
    · clear h'
      go_simp
    simp only [Act.put]
    refine wpAnyH_take (i := 20) (oi := ⟨some 62, Op.binOp BinOp.add 3 (Operand.const (Value.int IntKind.i64 20)) (Operand.tmp 61) 3, _, _, _, some (17, true)⟩) (v := (.int .i64 20)) rfl (by kernel_rfl) (by kernel_rfl) (by kernel_rfl) (fun _ _ _ h => h) (Or.inl ⟨by kernel_rfl, fun w' h' => ?_⟩) S1 ?_
    · have c0 := HMM.out
      clear h'
      go_simp
    simp only [Act.put]
    refine wpAnyH_take (i := 21) (oi := ⟨some 63, Op.slice 9 (Operand.tmp 60) (some (Operand.tmp 62)) none none, _, _, _, some (17, true)⟩) (v := (.string f.da)) rfl (by kernel_rfl) (by kernel_rfl) (by kernel_rfl) (fun _ _ _ h => h) (Or.inl ⟨by kernel_rfl, fun w' h' => ?_⟩) S1 ?_
    · have c0 := HG.out.1
      have c1 := HG.out.2
      have c2 := HX.out
      clear h'
      go_simp
    simp only [Act.put]
    refine wpAnyH_take (i := 22) (oi := ⟨some 64, Op.fieldAddr 47 (Operand.tmp 3) 7, _, _, _, some (17, true)⟩) (v := (.pointer (some ⟨n, 7, none⟩))) rfl (by kernel_rfl) (by kernel_rfl) (by kernel_rfl) (fun _ _ _ h => h) (Or.inl ⟨by kernel_rfl, fun w' h' => ?_⟩) S1 ?_
    · clear h'
      go_simp
    simp only [Act.put]
    refine wpAnyH_take (i := 23) (oi := ⟨some 65, Op.load 9 (Operand.tmp 64), _, _, _, some (17, true)⟩) (v := (.string f.da)) rfl (by kernel_rfl) (by kernel_rfl) (by kernel_rfl) (fun _ _ _ h => h) (Or.inl ⟨by kernel_rfl, fun w' h' => ?_⟩) S1 ?_
    · have c0 := SgAt.da h'
      clear h'
      go_simp
    simp only [Act.put]
    refine wpAnyH_take (i := 24) (oi := ⟨some 66, Op.binOp BinOp.eql 9 (Operand.tmp 63) (Operand.tmp 65) 9, _, _, _, some (17, true)⟩) (v := (.bool true)) rfl (by kernel_rfl) (by kernel_rfl) (by kernel_rfl) (fun _ _ _ h => h) (Or.inl ⟨by kernel_rfl, fun w' h' => ?_⟩) S1 ?_
    · clear h'
      go_simp
    simp only [Act.put]
    refine wpAnyH_take (i := 25) (oi := ⟨some 67, Op.pick (Operand.tmp 59) (Operand.tmp 66) (Operand.const (Value.bool false)), _, _, _, some (7, false)⟩) (v := (.bool true)) rfl (by kernel_rfl) (by kernel_rfl) (by kernel_rfl) (fun _ _ _ h => h) (Or.inl ⟨by kernel_rfl, fun w' h' => ?_⟩) S1 ?_
    · clear h'
      go_simp
    simp only [Act.put]
    refine wpAnyH_take (i := 26) (oi := ⟨some 68, Op.pick (Operand.tmp 49) (Operand.const (Value.bool true)) (Operand.tmp 67), _, _, _, some (4, true)⟩) (v := (.bool true)) rfl (by kernel_rfl) (by kernel_rfl) (by kernel_rfl) (fun _ _ _ h => h) (Or.inl ⟨by kernel_rfl, fun w' h' => ?_⟩) S1 ?_
    · clear h'
      go_simp
    simp only [Act.put]
    refine wpAnyH_take (i := 27) (oi := ⟨some 69, Op.pick (Operand.tmp 46) (Operand.tmp 68) (Operand.const (Value.bool false)), _, _, _, none⟩) (v := (.bool true)) rfl (by kernel_rfl) (by kernel_rfl) (by kernel_rfl) (fun _ _ _ h => h) (Or.inl ⟨by rfl, fun w' h' => ?_⟩) S1 ?_
    · clear h'
      go_simp
    simp only [Act.put]
    refine wpAnyH_take (i := 28) (oi := ⟨some 6, Op.assign (Operand.tmp 69), _, _, _, none⟩) (v := (.bool true)) rfl (by kernel_rfl) (by kernel_rfl) (by kernel_rfl) (fun _ _ _ h => h) (Or.inl ⟨by rfl, fun w' h' => ?_⟩) S1 ?_
    · clear h'
      go_simp
    simp only [Act.put]
    refine wpAnyH_done (by kernel_rfl) (NoPanic.normal ?_) _
    simp only [List.setIfInBounds_toArray, List.set_cons_zero, List.set_cons_succ]
    clear S1 hS
    go_wp2_with fail
    go_ret
    exact ⟨rfl, BV1.out⟩
set_option maxRecDepth 100000 in
set_option maxHeartbeats 8000000 in
theorem walk_ok4 (f : Sg) (hf : f.ok) (i j : Ip4) (hz : f.da.size ≤ 2000) (hE : sgE f = 0) (ho : opN f = 4) (hms : 0 < f.ms) (w : World) :
    Calls Try.prog 9 #[.agg (sgC f), .agg (ipC i), .agg (ipC j)] w fun e w' => e = .returned (.bool true) ∧ Below w.heap.size w w' := by
  have k1 := Lib.hid (fun w => sgBytes_any w f i j hf (by omega))
  have k2 := Lib.hid (fun w => Len10 w f (by omega))
  have a1 := and_1 f.fl
  have a2 := and_2 f.fl
  have u1 : IntKind.i64.wrap ((f.da.size : Int) + 1) = (f.da.size : Int) + 1 := IntWalk.i64_in _ (by omega)
  have u2 : IntKind.i64.wrap ((f.da.size : Int) + 1 + 1) = (f.da.size : Int) + 1 + 1 := IntWalk.i64_in _ (by omega)
  have hN : sgN f = (f.da.size : Int) + (if f.fl / 2 % 2 = 1 then 1 else 0) + (if f.fl % 2 = 1 then 1 else 0) := rfl
  obtain ⟨M, hM⟩ : ∃ M, M = sgN f := ⟨_, rfl⟩
  rw [← hM] at k2 hN
  have hT := sgS_size (i := i) (j := j) hE
  have hX := sgS_data f i j hE
  rw [ho] at hT hX
  rw [hE] at k1
  generalize sgS i j f = T at k1 hT hX
  have HT : Hid (((T.size : Int) == 24 + (f.da.size : Int)) = true) := Lib.hid (by rw [beq_iff_eq]; omega)
  have HW : Hid (IntKind.i64.wrap (24 + (f.da.size : Int)) = 24 + (f.da.size : Int)) := Lib.hid (IntWalk.i64_in _ (by omega))
  have HG : Hid (¬ (T.size : Int) < 24 ∧ 24 ≤ T.size) := Lib.hid ⟨by omega, by omega⟩
  have HX : Hid (T.extract 24 T.size = f.da) := Lib.hid hX
  have HMM : Hid (IntKind.i64.wrap 24 = 24) := Lib.hid (by decide)
  have d7 : decide (0 < f.ms) = true := decide_eq_true hms
  clear hT hX hE ho hms
  by_cases h2 : f.fl / 2 % 2 = 1 <;> by_cases h1 : f.fl % 2 = 1
  all_goals
    first | rw [if_pos h2] at hN a2 | rw [if_neg h2] at hN a2
    first | rw [if_pos h1] at hN a1 | rw [if_neg h1] at hN a1
    try rw [Int.add_zero] at hN
    try rw [Int.add_zero] at hN
    clear hM h1 h2
    have HM := Lib.hid hN
    clear hN
    go_enter Try.func9, Try.ntmps9
    go_upto_region 1 with fail
    obtain ⟨n, m, k, hn, hm, hk, fa, bl⟩ := sgbx_new w f i j
    have LO : Hid (n < w.heap.size + 3 ∧ m < w.heap.size + 3 ∧ k < w.heap.size + 3 ∧ n ≠ m ∧ n ≠ k ∧ m ≠ k) := Lib.hid (by omega)
    have F0 := Lib.hid fa
    have B0 := Lib.hid bl
    clear fa bl
    generalize World.alloc _ _ = W1 at F0 B0 ⊢
    try rw [hk]
    try rw [hm]
    try rw [hn]
    clear hn hm hk
    go_wp2_with fail
    refine (awakeS _).mono ?_
    rintro e w1 ⟨rfl, b1⟩
    have F1 := Lib.hid (F0.out.grow b1)
    have B1 := bstep B0 b1
    clear b1 F0 B0
    have c7 := F1.out.sg.da
    have c4 := F1.out.sg.fl
    go_upto_region 10 with fail
    clear a1 a2 u1 u2 c4 c7 hz
    rw [← HM.out]
    have hp := F1.out.sg
    have hi := F1.out.ia
    have hj := F1.out.ja
    go_wp2_with (first | (refine sg_ld (by rfl) (.tmp 3) rfl n rfl _ hp ?_) | (refine ipb_ld (by rfl) (.tmp 4) rfl m rfl _ hi ?_) | (refine ipb_ld (by rfl) (.tmp 5) rfl k rfl _ hj ?_))
    refine (k1.out _).mono ?_
    rintro e w2 ⟨rfl, b2⟩
    have F2 := Lib.hid (F1.out.grow b2)
    have B2 := bstep B1 b2
    clear b2 F1 B1
    clear hp hi hj
    have c6 := F2.out.sg.ms
    go_upto_region 14 with fail
    clear c6
    refine wp_region_noPanic ?_
    refine region_heldE (S := fun w' => SgAt w' n f) (by kernel_rfl) (fun V d => F2.out.sg.kept (d.block _)) (fun V d hS => ?_)
    have BV := bstep B2 d.below
    clear d B2
    refine wpAnyH_take (i := 0) (oi := ⟨some 42, Op.load 47 (Operand.tmp 3), _, _, _, none⟩) (v := (.agg (sgC f))) rfl (by kernel_rfl) (by kernel_rfl) (by kernel_rfl) (fun _ _ _ h => h) (yields_sg (by kernel_rfl) (Operand.tmp 3) (by kernel_rfl) n (by kernel_rfl) f (fun _ h => h)) hS ?_
    simp only [Act.put]
    refine wpAnyH_take (i := 2) (oi := ⟨some 44, Op.move (Operand.tmp 7), _, _, _, none⟩) (v := (.int .i64 M)) rfl (by kernel_rfl) (by kernel_rfl) (by kernel_rfl) (fun _ _ _ h => h) (Or.inl ⟨by rfl, fun w' h' => ?_⟩) hS ?_
    · clear h'
      go_simp
    simp only [Act.put]
    refine wpAnyH_ready (rs := [1]) (by kernel_rfl) (by simp) ?_
    refine AllReadyH.cons rfl (fun K hK => ?_) AllReadyH.nil
    go_simp
    refine (k2.out _).mono ?_
    rintro e v1 ⟨rfl, b1⟩
    have S1 := hS.grow b1
    have BV1 := bstep BV b1
    clear b1 BV
    go_simp
    refine hK.out _ _ S1 (fun _ => ?_)
    clear hK K
    refine wpAnyH_take (i := 3) (oi := ⟨some 45, Op.binOp BinOp.eql 3 (Operand.tmp 43) (Operand.tmp 44) 3, _, _, _, none⟩) (v := (.bool true)) rfl (by kernel_rfl) (by kernel_rfl) (by kernel_rfl) (fun _ _ _ h => h) (Or.inl ⟨by rfl, fun w' h' => ?_⟩) S1 ?_
    · clear h'
      go_simp
    simp only [Act.put]
    refine wpAnyH_take (i := 4) (oi := ⟨some 46, Op.move (Operand.tmp 45), _, _, _, none⟩) (v := (.bool true)) rfl (by kernel_rfl) (by kernel_rfl) (by kernel_rfl) (fun _ _ _ h => h) (Or.inl ⟨by rfl, fun w' h' => ?_⟩) S1 ?_
    · clear h'
      go_simp
    simp only [Act.put]
    refine wpAnyH_take (i := 5) (oi := ⟨some 47, Op.move (Operand.tmp 9), _, _, _, some (4, true)⟩) (v := (.int .i64 0)) rfl (by kernel_rfl) (by kernel_rfl) (by kernel_rfl) (fun _ _ _ h => h) (Or.inl ⟨by kernel_rfl, fun w' h' => ?_⟩) S1 ?_
    · clear h'
      go_simp
    simp only [Act.put]
    refine wpAnyH_take (i := 6) (oi := ⟨some 48, Op.binOp BinOp.neq 26 (Operand.tmp 47) (Operand.const (Value.int IntKind.i64 0)) 26, _, _, _, some (4, true)⟩) (v := (.bool false)) rfl (by kernel_rfl) (by kernel_rfl) (by kernel_rfl) (fun _ _ _ h => h) (Or.inl ⟨by kernel_rfl, fun w' h' => ?_⟩) S1 ?_
    · clear h'
      go_simp
    simp only [Act.put]
    refine wpAnyH_take (i := 7) (oi := ⟨some 49, Op.move (Operand.tmp 48), _, _, _, some (4, true)⟩) (v := (.bool false)) rfl (by kernel_rfl) (by kernel_rfl) (by kernel_rfl) (fun _ _ _ h => h) (Or.inl ⟨by kernel_rfl, fun w' h' => ?_⟩) S1 ?_
    · clear h'
      go_simp
    simp only [Act.put]
    refine wpAnyH_take (i := 8) (oi := ⟨some 50, Op.move (Operand.tmp 8), _, _, _, some (7, false)⟩) (v := (.string T)) rfl (by kernel_rfl) (by kernel_rfl) (by kernel_rfl) (fun _ _ _ h => h) (Or.inl ⟨by kernel_rfl, fun w' h' => ?_⟩) S1 ?_
    · clear h'
      go_simp
    simp only [Act.put]
    refine wpAnyH_take (i := 9) (oi := ⟨some 51, Op.call { callee := Callee.builtin Builtin.len, args := #[(Operand.tmp 50)], argTypes := #[9] }, _, _, _, some (7, false)⟩) (v := (.int .i64 (T.size : Int))) rfl (by kernel_rfl) (by kernel_rfl) (by kernel_rfl) (fun _ _ _ h => h) (Or.inl ⟨by kernel_rfl, fun w' h' => ?_⟩) S1 ?_
    · clear h'
      go_simp
    simp only [Act.put]
    refine wpAnyH_take (i := 10) (oi := ⟨some 52, Op.move (Operand.tmp 10), _, _, _, some (7, false)⟩) (v := (.int .i64 4)) rfl (by kernel_rfl) (by kernel_rfl) (by kernel_rfl) (fun _ _ _ h => h) (Or.inl ⟨by kernel_rfl, fun w' h' => ?_⟩) S1 ?_
    · clear h'
      go_simp
    simp only [Act.put]
    refine wpAnyH_take (i := 11) (oi := ⟨some 53, Op.binOp BinOp.add 3 (Operand.const (Value.int IntKind.i64 20)) (Operand.tmp 52) 3, _, _, _, some (7, false)⟩) (v := (.int .i64 24)) rfl (by kernel_rfl) (by kernel_rfl) (by kernel_rfl) (fun _ _ _ h => h) (Or.inl ⟨by kernel_rfl, fun w' h' => ?_⟩) S1 ?_
    · have c0 := HMM.out
      clear h'
      go_simp
    simp only [Act.put]
    refine wpAnyH_take (i := 12) (oi := ⟨some 54, Op.fieldAddr 47 (Operand.tmp 3) 7, _, _, _, some (7, false)⟩) (v := (.pointer (some ⟨n, 7, none⟩))) rfl (by kernel_rfl) (by kernel_rfl) (by kernel_rfl) (fun _ _ _ h => h) (Or.inl ⟨by kernel_rfl, fun w' h' => ?_⟩) S1 ?_
    · clear h'
      go_simp
    simp only [Act.put]
    refine wpAnyH_take (i := 13) (oi := ⟨some 55, Op.load 9 (Operand.tmp 54), _, _, _, some (7, false)⟩) (v := (.string f.da)) rfl (by kernel_rfl) (by kernel_rfl) (by kernel_rfl) (fun _ _ _ h => h) (Or.inl ⟨by kernel_rfl, fun w' h' => ?_⟩) S1 ?_
    · have c0 := SgAt.da h'
      clear h'
      go_simp
    simp only [Act.put]
    refine wpAnyH_take (i := 14) (oi := ⟨some 56, Op.call { callee := Callee.builtin Builtin.len, args := #[(Operand.tmp 55)], argTypes := #[9] }, _, _, _, some (7, false)⟩) (v := (.int .i64 (f.da.size : Int))) rfl (by kernel_rfl) (by kernel_rfl) (by kernel_rfl) (fun _ _ _ h => h) (Or.inl ⟨by kernel_rfl, fun w' h' => ?_⟩) S1 ?_
    · clear h'
      go_simp
    simp only [Act.put]
    refine wpAnyH_take (i := 15) (oi := ⟨some 57, Op.binOp BinOp.add 3 (Operand.tmp 53) (Operand.tmp 56) 3, _, _, _, some (7, false)⟩) (v := (.int .i64 (24 + (f.da.size : Int)))) rfl (by kernel_rfl) (by kernel_rfl) (by kernel_rfl) (fun _ _ _ h => h) (Or.inl ⟨by kernel_rfl, fun w' h' => ?_⟩) S1 ?_
    · have c0 := HW.out
      clear h'
      go_simp
    simp only [Act.put]
    refine wpAnyH_take (i := 16) (oi := ⟨some 58, Op.binOp BinOp.eql 3 (Operand.tmp 51) (Operand.tmp 57) 3, _, _, _, some (7, false)⟩) (v := (.bool true)) rfl (by kernel_rfl) (by kernel_rfl) (by kernel_rfl) (fun _ _ _ h => h) (Or.inl ⟨by kernel_rfl, fun w' h' => ?_⟩) S1 ?_
    · have c0 := HT.out
      clear h'
      go_simp
    simp only [Act.put]
    refine wpAnyH_take (i := 17) (oi := ⟨some 59, Op.move (Operand.tmp 58), _, _, _, some (7, false)⟩) (v := (.bool true)) rfl (by kernel_rfl) (by kernel_rfl) (by kernel_rfl) (fun _ _ _ h => h) (Or.inl ⟨by kernel_rfl, fun w' h' => ?_⟩) S1 ?_
    · clear h'
      go_simp
    simp only [Act.put]
    refine wpAnyH_take (i := 18) (oi := ⟨some 60, Op.move (Operand.tmp 8), _, _, _, some (17, true)⟩) (v := (.string T)) rfl (by kernel_rfl) (by kernel_rfl) (by kernel_rfl) (fun _ _ _ h => h) (Or.inl ⟨by kernel_rfl, fun w' h' => ?_⟩) S1 ?_
    · clear h'
      go_simp
    simp only [Act.put]
    refine wpAnyH_take (i := 19) (oi := ⟨some 61, Op.move (Operand.tmp 10), _, _, _, some (17, true)⟩) (v := (.int .i64 4)) rfl (by kernel_rfl) (by kernel_rfl) (by kernel_rfl) (fun _ _ _ h => h) (Or.inl ⟨by kernel_rfl, fun w' h' => ?_⟩) S1 ?_
    · clear h'
      go_simp
    simp only [Act.put]
    refine wpAnyH_take (i := 20) (oi := ⟨some 62, Op.binOp BinOp.add 3 (Operand.const (Value.int IntKind.i64 20)) (Operand.tmp 61) 3, _, _, _, some (17, true)⟩) (v := (.int .i64 24)) rfl (by kernel_rfl) (by kernel_rfl) (by kernel_rfl) (fun _ _ _ h => h) (Or.inl ⟨by kernel_rfl, fun w' h' => ?_⟩) S1 ?_
    · have c0 := HMM.out
      clear h'
      go_simp
    simp only [Act.put]
    refine wpAnyH_take (i := 21) (oi := ⟨some 63, Op.slice 9 (Operand.tmp 60) (some (Operand.tmp 62)) none none, _, _, _, some (17, true)⟩) (v := (.string f.da)) rfl (by kernel_rfl) (by kernel_rfl) (by kernel_rfl) (fun _ _ _ h => h) (Or.inl ⟨by kernel_rfl, fun w' h' => ?_⟩) S1 ?_
    · have c0 := HG.out.1
      have c1 := HG.out.2
      have c2 := HX.out
      clear h'
      go_simp
    simp only [Act.put]
    refine wpAnyH_take (i := 22) (oi := ⟨some 64, Op.fieldAddr 47 (Operand.tmp 3) 7, _, _, _, some (17, true)⟩) (v := (.pointer (some ⟨n, 7, none⟩))) rfl (by kernel_rfl) (by kernel_rfl) (by kernel_rfl) (fun _ _ _ h => h) (Or.inl ⟨by kernel_rfl, fun w' h' => ?_⟩) S1 ?_
    · clear h'
      go_simp
    simp only [Act.put]
    refine wpAnyH_take (i := 23) (oi := ⟨some 65, Op.load 9 (Operand.tmp 64), _, _, _, some (17, true)⟩) (v := (.string f.da)) rfl (by kernel_rfl) (by kernel_rfl) (by kernel_rfl) (fun _ _ _ h => h) (Or.inl ⟨by kernel_rfl, fun w' h' => ?_⟩) S1 ?_
    · have c0 := SgAt.da h'
      clear h'
      go_simp
    simp only [Act.put]
    refine wpAnyH_take (i := 24) (oi := ⟨some 66, Op.binOp BinOp.eql 9 (Operand.tmp 63) (Operand.tmp 65) 9, _, _, _, some (17, true)⟩) (v := (.bool true)) rfl (by kernel_rfl) (by kernel_rfl) (by kernel_rfl) (fun _ _ _ h => h) (Or.inl ⟨by kernel_rfl, fun w' h' => ?_⟩) S1 ?_
    · clear h'
      go_simp
    simp only [Act.put]
    refine wpAnyH_take (i := 25) (oi := ⟨some 67, Op.pick (Operand.tmp 59) (Operand.tmp 66) (Operand.const (Value.bool false)), _, _, _, some (7, false)⟩) (v := (.bool true)) rfl (by kernel_rfl) (by kernel_rfl) (by kernel_rfl) (fun _ _ _ h => h) (Or.inl ⟨by kernel_rfl, fun w' h' => ?_⟩) S1 ?_
    · clear h'
      go_simp
    simp only [Act.put]
    refine wpAnyH_take (i := 26) (oi := ⟨some 68, Op.pick (Operand.tmp 49) (Operand.const (Value.bool true)) (Operand.tmp 67), _, _, _, some (4, true)⟩) (v := (.bool true)) rfl (by kernel_rfl) (by kernel_rfl) (by kernel_rfl) (fun _ _ _ h => h) (Or.inl ⟨by kernel_rfl, fun w' h' => ?_⟩) S1 ?_
    · clear h'
      go_simp
    simp only [Act.put]
    refine wpAnyH_take (i := 27) (oi := ⟨some 69, Op.pick (Operand.tmp 46) (Operand.tmp 68) (Operand.const (Value.bool false)), _, _, _, none⟩) (v := (.bool true)) rfl (by kernel_rfl) (by kernel_rfl) (by kernel_rfl) (fun _ _ _ h => h) (Or.inl ⟨by rfl, fun w' h' => ?_⟩) S1 ?_
    · clear h'
      go_simp
    simp only [Act.put]
    refine wpAnyH_take (i := 28) (oi := ⟨some 6, Op.assign (Operand.tmp 69), _, _, _, none⟩) (v := (.bool true)) rfl (by kernel_rfl) (by kernel_rfl) (by kernel_rfl) (fun _ _ _ h => h) (Or.inl ⟨by rfl, fun w' h' => ?_⟩) S1 ?_
    · clear h'
      go_simp
    simp only [Act.put]
    refine wpAnyH_done (by kernel_rfl) (NoPanic.normal ?_) _
    simp only [List.setIfInBounds_toArray, List.set_cons_zero, List.set_cons_succ]
    clear S1 hS
    go_wp2_with fail
    go_ret
    exact ⟨rfl, BV1.out⟩
theorem walk (f : Sg) (i j : Ip4) (w0 : f.ok) (w : World) :
    Calls Try.prog 9 #[.agg (sgC f), .agg (ipC i), .agg (ipC j)] w fun e w' => e = .returned (.bool true) ∧ Below w.heap.size w w' := by
  have m0 : f.da.size ≤ 9223372036854775807 := by have := w0.2.2.2.2.2.2.2; unfold maxLen at this; omega
  by_cases h1 : 2000 < f.da.size
  · exact walk_long f i j m0 h1 w
  by_cases h2 : sgE f = 0
  · have hm := maySg_all (sgE_zero.1 h2).1
    by_cases h3 : f.ms = 0
    · exact walk_ok0 f w0 i j (by omega) h2 (by rw [opN, if_pos h3]) h3 w
    · exact walk_ok4 f w0 i j (by omega) h2 (by rw [opN, if_neg h3]) (by omega) w
  · exact walk_err f w0 i j (by omega) h2 w

set_option maxRecDepth 100000 in
theorem lifted (os : Os) (started : os.Started) (H : Type) (enc : TypeId × Value → H) :
    ReturnsInHanded {} Try.checked os 9 .any (Rows.segLensSpec.pre6 enc Try.prog Try.f9 Rows.segLensRow.domain false) (Rows.segLensSpec.post enc Try.prog Try.f9 false true false false) := by
  refine returnsInHanded_of_change (C := Try.checked) own started (by kernel_rfl) Try.func9
    (ChangeSpec.witness6 (enc := enc) (C := Try.checked) false ⟨#[], #[.agg #[.int .i64 0, .int .i64 0, .int .u32 0, .int .u32 0, .int .i64 0, .int .i64 0, .int .i64 0, .string ByteArray.empty], .agg #[.int .u8 0, .int .u8 0, .int .u8 0, .int .u8 0], .agg #[.int .u8 0, .int .u8 0, .int .u8 0, .int .u8 0]], []⟩ 8 (by kernel_rfl) (by kernel_rfl) (by kernel_rfl) (by kernel_rfl)) ?_
  intro W base args ds gs before hval0 hW hcnd _
  have hval : ∀ (j : Nat) t v, Try.f9.params[j]? = some t → args[j]? = some v → Value.okWide Try.prog W .any base t v := hval0
  have hW' := hW
  obtain ⟨p, q, hA0, hV, rfl, hfz, hnd⟩ := hW
  have hA : DataW.TrodAll enc Try.prog W 0 (fun _ => true) true Try.f9.params.toList args.toList ds p := hA0
  rw [Try.params9] at hA hval
  obtain ⟨v0, vs0, d0, ds0, p0, q0, hargs, rfl, rfl, h0, r0⟩ := trodAll_cons hA
  obtain ⟨v1, vs1, d1, ds1, p1, q1, rfl, rfl, rfl, h1, r1⟩ := trodAll_cons r0
  obtain ⟨v2, vs2, d2, ds2, p2, q2, rfl, rfl, rfl, h2, r2⟩ := trodAll_cons r1
  obtain ⟨rfl, rfl, rfl⟩ := trodAll_nil r2
  obtain rfl : args = #[v0, v1, v2] := by cases args; simp_all
  obtain ⟨rfl, rfl⟩ := trodVars_none hV
  obtain ⟨a0, rfl, w0⟩ := open_seg (hval 0 47 v0 rfl rfl) h0
  have k0 := h0
  have lt0 : ∀ x ∈ p0, x.block < W.heap.size := by obtain ⟨m, hm⟩ := k0; exact DataW.trod_lt m _ _ _ hm
  obtain ⟨a1, rfl⟩ := open_ip (hval 1 33 v1 rfl rfl) h1
  have k1 := h1
  have lt1 : ∀ x ∈ p1, x.block < W.heap.size := by obtain ⟨m, hm⟩ := k1; exact DataW.trod_lt m _ _ _ hm
  obtain ⟨a2, rfl⟩ := open_ip (hval 2 33 v2 rfl rfl) h2
  have k2 := h2
  have lt2 : ∀ x ∈ p2, x.block < W.heap.size := by obtain ⟨m, hm⟩ := k2; exact DataW.trod_lt m _ _ _ hm
  clear hA0 hval0
  refine (walk a0 a1 a2 w0 W).mono fun e W' ⟨he, bel⟩ => ?_
  subst he
  exact ⟨_, rfl, _, _, _, [], _, [], hW', trodAll_mk1 (shut_bool Try.underlying4 _), (trodAll_cons_mk (Below.trod laidOut (by kernel_rfl) (of_decide_eq_true (by kernel_rfl)) k0 bel lt0) (trodAll_cons_mk (Below.trod laidOut (by kernel_rfl) (of_decide_eq_true (by kernel_rfl)) k1 bel lt1) (trodAll_cons_mk (Below.trod laidOut (by kernel_rfl) (of_decide_eq_true (by kernel_rfl)) k2 bel lt2) trodAll_mk0))), rfl, bel.frame _, fun h => by cases h⟩

/-- THE STATEMENT. -/
theorem proved : Rows.SegLensSaid :=
  OpenClaim.holds_of_wide 9 Try.f9 rfl rfl rfl rfl rfl rfl rfl ⟨rfl, rfl, rfl, rfl, rfl⟩ rfl rfl rfl rfl rfl (by kernel_rfl) Try.func9 (by kernel_rfl)
    (of_decide_eq_true (by kernel_rfl)) (by unfold Func.isWrapper; first | (rw [if_pos (by decide +kernel)]; kernel_rfl) | (rw [if_neg (by decide +kernel)]; exact ⟨rfl, rfl⟩))
    (fun os started H enc _ => lifted os started H enc)
#print axioms proved

end Go.Proofs.Ytbjoibgkhooljaa.sgl
