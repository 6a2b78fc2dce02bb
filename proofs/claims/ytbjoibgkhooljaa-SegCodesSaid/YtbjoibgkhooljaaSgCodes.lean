/-
  SegCodes: a segment's bytes, its length, and what any bytes are read as, are the document's. Conditions: more than 2000 bytes of data, or of text, are not asked about, as the statement says.
-/
import Derived.Test.YtbjoibgkhooljaaSgI
import Derived.Test.YtbjoibgkhooljaaSgG
import Derived.Test.YtbjoibgkhooljaaSgJ
import Derived.ProofKit
import Derived.OpenShut
import Derived.ShutString
import Derived.ChangeOld
import Derived.Below
namespace Go.Proofs.Ytbjoibgkhooljaa.sgc
open Go.ChangeShapes Go.WideShapes Go.ChangeAt Go.RowKit
open Go.ChangeMaps (open_string shut_string)
open Go.Sort (Holds)
set_option linter.unusedVariables false

set_option maxRecDepth 100000 in
set_option maxHeartbeats 4000000 in
theorem walk_long (f : Sg) (s : ByteArray) (i j : Ip4) (hm : f.da.size ≤ 9223372036854775807) (hb : s.size ≤ 9223372036854775807) (h : 2000 < f.da.size ∨ (f.da.size ≤ 2000 ∧ 2000 < s.size)) (w : World) :
    Calls Try.prog 5 #[.agg (sgC f), .string s, .agg (ipC i), .agg (ipC j)] w fun e w' => e = .returned (.bool true) ∧ Below w.heap.size w w' := by
  rcases h with h | ⟨h, h2⟩
  all_goals
    go_enter Try.func5, Try.ntmps5
    go_upto_region 1 with fail
    obtain ⟨n, m, k, hn, hm, hk, fa, bl⟩ := sgbx_new w f i j
    have LO : Hid (n < w.heap.size + 3 ∧ m < w.heap.size + 3 ∧ k < w.heap.size + 3 ∧ n ≠ m ∧ n ≠ k ∧ m ≠ k) := Lib.hid (by omega)
    have F0 := Lib.hid fa
    have B0 := Lib.hid bl
    clear fa bl
    generalize World.alloc _ _ = W1 at F0 B0 ⊢
    try rw [hk]
    try rw [hm]
    try rw [hn]
    clear hn hm hk
    go_wp2_with fail
    refine (awakeS _).mono ?_
    rintro e w1 ⟨rfl, b1⟩
    have F1 := Lib.hid (F0.out.grow b1)
    have B1 := bstep B0 b1
    clear b1 F0 B0
    have c7 := F1.out.sg.da
    go_wp2_with fail
    go_ret
    exact ⟨rfl, B1.out⟩
set_option maxRecDepth 100000 in
set_option maxHeartbeats 8000000 in
theorem walk_main (f : Sg) (hf : f.ok) (s : ByteArray) (i j : Ip4) (hz : f.da.size ≤ 2000) (hs : s.size ≤ 2000) (w : World) :
    Calls Try.prog 5 #[.agg (sgC f), .string s, .agg (ipC i), .agg (ipC j)] w fun e w' => e = .returned (.bool true) ∧ Below w.heap.size w w' := by
  have k1 := Lib.hid (fun w => sgBytes_any w f i j hf (by omega))
  have k2 := Lib.hid (fun w => rBytes10_any w f i j hf (by omega))
  have k3 := Lib.hid (fun w => sgRead_any w s i j (by omega))
  have k4 := Lib.hid (fun w => rRead10_any w s i j (by omega))
  have k5 := Lib.hid (fun w => Len10 w f (by omega))
  have k6 := Lib.hid (fun w => rLen10 w f (by omega))
  have hok := srP_ok i j s (by unfold maxLen; omega)
  generalize sgS i j f = T at k1 k2
  generalize sgE f = E at k1 k2
  generalize srP i j s = X at k3 k4 hok
  generalize srE i j s = G at k3 k4
  generalize sgN f = M at k5 k6
  have hq := eqls X X hok hok true (decide_eq_true rfl)
  clear hok
  go_enter Try.func5, Try.ntmps5
  go_upto_region 1 with fail
  obtain ⟨n, m, k, hn, hm, hk, fa, bl⟩ := sgbx_new w f i j
  have LO : Hid (n < w.heap.size + 3 ∧ m < w.heap.size + 3 ∧ k < w.heap.size + 3 ∧ n ≠ m ∧ n ≠ k ∧ m ≠ k) := Lib.hid (by omega)
  have F0 := Lib.hid fa
  have B0 := Lib.hid bl
  clear fa bl
  generalize World.alloc _ _ = W1 at F0 B0 ⊢
  try rw [hk]
  try rw [hm]
  try rw [hn]
  clear hn hm hk
  go_wp2_with fail
  refine (awakeS _).mono ?_
  rintro e w1 ⟨rfl, b1⟩
  have F1 := Lib.hid (F0.out.grow b1)
  have B1 := bstep B0 b1
  clear b1 F0 B0
  have c7 := F1.out.sg.da
  have hp := F1.out.sg
  have hi := F1.out.ia
  have hj := F1.out.ja
  go_wp2_with (first | (refine sg_ld (by rfl) (.tmp 4) rfl n rfl _ hp ?_) | (refine ipb_ld (by rfl) (.tmp 6) rfl m rfl _ hi ?_) | (refine ipb_ld (by rfl) (.tmp 7) rfl k rfl _ hj ?_))
  refine (k1.out _).mono ?_
  rintro e w2 ⟨rfl, b2⟩
  have F2 := Lib.hid (F1.out.grow b2)
  have B2 := bstep B1 b2
  clear b2 F1 B1
  clear hp hi hj
  clear c7
  have hp := F2.out.sg
  have hi := F2.out.ia
  have hj := F2.out.ja
  go_wp2_with (first | (refine sg_ld (by rfl) (.tmp 4) rfl n rfl _ hp ?_) | (refine ipb_ld (by rfl) (.tmp 6) rfl m rfl _ hi ?_) | (refine ipb_ld (by rfl) (.tmp 7) rfl k rfl _ hj ?_))
  refine (k2.out _).mono ?_
  rintro e w3 ⟨rfl, b3⟩
  have F3 := Lib.hid (F2.out.grow b3)
  have B3 := bstep B2 b3
  clear b3 F2 B2
  clear hp hi hj
  have hi := F3.out.ia
  have hj := F3.out.ja
  go_wp2_with (first | (refine ipb_ld (by rfl) (.tmp 6) rfl m rfl _ hi ?_) | (refine ipb_ld (by rfl) (.tmp 7) rfl k rfl _ hj ?_))
  refine (k3.out _).mono ?_
  rintro e w4 ⟨rfl, b4⟩
  have F4 := Lib.hid (F3.out.grow b4)
  have B4 := bstep B3 b4
  clear b4 F3 B3
  clear hi hj
  have hst := sg_store w4 X
  go_upto_region 8 with (refine wpList_storeW 47 (.tmp 13) (.tmp 47) rfl rfl (.agg (sgC X)) w4.heap.size rfl rfl hst ?_)
  try simp only [Act.put]
  have Pp : Hid (SgAt (w4.alloc (.cells (sgC X) 47)) w4.heap.size X) := Lib.hid (sg_new _ _ _ rfl)
  have F4s := Lib.hid (F4.out.grow ((Below.refl w4.heap.size w4).alloc (Nat.le_refl _) (.cells (sgC X) 47)))
  have B4s := bstep B4 ((Below.refl w4.heap.size w4).alloc (Nat.le_refl _) (.cells (sgC X) 47))
  clear hst F4 B4
  obtain ⟨p, hnp⟩ : ∃ n, n = w4.heap.size := ⟨_, rfl⟩
  generalize w4.alloc _ = W4s at Pp F4s B4s ⊢
  rw [← hnp] at Pp ⊢
  clear hnp
  have hi := F4s.out.ia
  have hj := F4s.out.ja
  go_wp2_with (first | (refine ipb_ld (by rfl) (.tmp 6) rfl m rfl _ hi ?_) | (refine ipb_ld (by rfl) (.tmp 7) rfl k rfl _ hj ?_))
  refine (k4.out _).mono ?_
  rintro e w5 ⟨rfl, b5⟩
  have F5 := Lib.hid (F4s.out.grow b5)
  have B5 := bstep B4s b5
  have Q5 := Lib.hid (Pp.out.grow b5)
  clear b5 F4s B4s Pp
  clear hi hj
  have hst := sg_store w5 X
  go_upto_region 9 with (refine wpList_storeW 47 (.tmp 15) (.tmp 54) rfl rfl (.agg (sgC X)) w5.heap.size rfl rfl hst ?_)
  try simp only [Act.put]
  have Pq : Hid (SgAt (w5.alloc (.cells (sgC X) 47)) w5.heap.size X) := Lib.hid (sg_new _ _ _ rfl)
  have F5s := Lib.hid (F5.out.grow ((Below.refl w5.heap.size w5).alloc (Nat.le_refl _) (.cells (sgC X) 47)))
  have B5s := bstep B5 ((Below.refl w5.heap.size w5).alloc (Nat.le_refl _) (.cells (sgC X) 47))
  have Q6 := Lib.hid (Q5.out.grow ((Below.refl w5.heap.size w5).alloc (Nat.le_refl _) (.cells (sgC X) 47)))
  clear hst F5 B5 Q5
  obtain ⟨q, hnq⟩ : ∃ n, n = w5.heap.size := ⟨_, rfl⟩
  generalize w5.alloc _ = W5s at Pq F5s B5s Q6 ⊢
  rw [← hnq] at Pq ⊢
  clear hnq
  refine wp_region_noPanic ?_
  refine region_heldE (S := fun w' => SgAt w' n f ∧ SgAt w' p X ∧ SgAt w' q X) (by kernel_rfl) (fun V d => ⟨F5s.out.sg.kept (d.block _), Q6.out.kept (d.block _), Pq.out.kept (d.block _)⟩) (fun V d hS => ?_)
  have BV := bstep B5s d.below
  clear d B5s
  refine wpAnyH_take (i := 0) (oi := ⟨some 56, Op.move (Operand.tmp 9), _, _, _, none⟩) (v := (.string T)) rfl (by kernel_rfl) (by kernel_rfl) (by kernel_rfl) (fun _ _ _ h => h) (Or.inl ⟨by rfl, fun w' h' => ?_⟩) hS ?_
  · clear h'
    go_simp
  simp only [Act.put]
  refine wpAnyH_take (i := 1) (oi := ⟨some 57, Op.move (Operand.tmp 11), _, _, _, none⟩) (v := (.string T)) rfl (by kernel_rfl) (by kernel_rfl) (by kernel_rfl) (fun _ _ _ h => h) (Or.inl ⟨by rfl, fun w' h' => ?_⟩) hS ?_
  · clear h'
    go_simp
  simp only [Act.put]
  refine wpAnyH_take (i := 2) (oi := ⟨some 58, Op.binOp BinOp.eql 9 (Operand.tmp 56) (Operand.tmp 57) 9, _, _, _, none⟩) (v := (.bool true)) rfl (by kernel_rfl) (by kernel_rfl) (by kernel_rfl) (fun _ _ _ h => h) (Or.inl ⟨by rfl, fun w' h' => ?_⟩) hS ?_
  · clear h'
    go_simp
  simp only [Act.put]
  refine wpAnyH_take (i := 3) (oi := ⟨some 59, Op.move (Operand.tmp 58), _, _, _, none⟩) (v := (.bool true)) rfl (by kernel_rfl) (by kernel_rfl) (by kernel_rfl) (fun _ _ _ h => h) (Or.inl ⟨by rfl, fun w' h' => ?_⟩) hS ?_
  · clear h'
    go_simp
  simp only [Act.put]
  refine wpAnyH_take (i := 4) (oi := ⟨some 60, Op.move (Operand.tmp 10), _, _, _, some (3, true)⟩) (v := (.int .i64 E)) rfl (by kernel_rfl) (by kernel_rfl) (by kernel_rfl) (fun _ _ _ h => h) (Or.inl ⟨by kernel_rfl, fun w' h' => ?_⟩) hS ?_
  · clear h'
    go_simp
  simp only [Act.put]
  refine wpAnyH_take (i := 5) (oi := ⟨some 61, Op.move (Operand.tmp 12), _, _, _, some (3, true)⟩) (v := (.int .i64 E)) rfl (by kernel_rfl) (by kernel_rfl) (by kernel_rfl) (fun _ _ _ h => h) (Or.inl ⟨by kernel_rfl, fun w' h' => ?_⟩) hS ?_
  · clear h'
    go_simp
  simp only [Act.put]
  refine wpAnyH_take (i := 6) (oi := ⟨some 62, Op.binOp BinOp.eql 3 (Operand.tmp 60) (Operand.tmp 61) 3, _, _, _, some (3, true)⟩) (v := (.bool true)) rfl (by kernel_rfl) (by kernel_rfl) (by kernel_rfl) (fun _ _ _ h => h) (Or.inl ⟨by kernel_rfl, fun w' h' => ?_⟩) hS ?_
  · clear h'
    go_simp
  simp only [Act.put]
  refine wpAnyH_take (i := 7) (oi := ⟨some 63, Op.pick (Operand.tmp 59) (Operand.tmp 62) (Operand.const (Value.bool false)), _, _, _, none⟩) (v := (.bool true)) rfl (by kernel_rfl) (by kernel_rfl) (by kernel_rfl) (fun _ _ _ h => h) (Or.inl ⟨by rfl, fun w' h' => ?_⟩) hS ?_
  · clear h'
    go_simp
  simp only [Act.put]
  refine wpAnyH_take (i := 8) (oi := ⟨some 64, Op.move (Operand.tmp 63), _, _, _, none⟩) (v := (.bool true)) rfl (by kernel_rfl) (by kernel_rfl) (by kernel_rfl) (fun _ _ _ h => h) (Or.inl ⟨by rfl, fun w' h' => ?_⟩) hS ?_
  · clear h'
    go_simp
  simp only [Act.put]
  refine wpAnyH_take (i := 9) (oi := ⟨some 65, Op.load 47 (Operand.tmp 13), _, _, _, some (8, true)⟩) (v := (.agg (sgC X))) rfl (by kernel_rfl) (by kernel_rfl) (by kernel_rfl) (fun _ _ _ h => h) (yields_sg (by kernel_rfl) (Operand.tmp 13) (by kernel_rfl) p (by kernel_rfl) X (fun _ h => h.2.1)) hS ?_
  simp only [Act.put]
  refine wpAnyH_take (i := 10) (oi := ⟨some 66, Op.load 47 (Operand.tmp 15), _, _, _, some (8, true)⟩) (v := (.agg (sgC X))) rfl (by kernel_rfl) (by kernel_rfl) (by kernel_rfl) (fun _ _ _ h => h) (yields_sg (by kernel_rfl) (Operand.tmp 15) (by kernel_rfl) q (by kernel_rfl) X (fun _ h => h.2.2)) hS ?_
  simp only [Act.put]
  refine wpAnyH_take (i := 11) (oi := ⟨some 67, Op.binOp BinOp.eql 47 (Operand.tmp 65) (Operand.tmp 66) 47, _, _, _, some (8, true)⟩) (v := (.bool true)) rfl (by kernel_rfl) (by kernel_rfl) (by kernel_rfl) (fun _ _ _ h => h) (yields_eql (by kernel_rfl) 47 47 (Operand.tmp 65) (Operand.tmp 66) (by kernel_rfl) (sgC X) (sgC X) (by kernel_rfl) (by kernel_rfl) guard_sg true (fun w => hq w)) hS ?_
  simp only [Act.put]
  refine wpAnyH_take (i := 12) (oi := ⟨some 68, Op.pick (Operand.tmp 64) (Operand.tmp 67) (Operand.const (Value.bool false)), _, _, _, none⟩) (v := (.bool true)) rfl (by kernel_rfl) (by kernel_rfl) (by kernel_rfl) (fun _ _ _ h => h) (Or.inl ⟨by rfl, fun w' h' => ?_⟩) hS ?_
  · clear h'
    go_simp
  simp only [Act.put]
  refine wpAnyH_take (i := 13) (oi := ⟨some 69, Op.move (Operand.tmp 68), _, _, _, none⟩) (v := (.bool true)) rfl (by kernel_rfl) (by kernel_rfl) (by kernel_rfl) (fun _ _ _ h => h) (Or.inl ⟨by rfl, fun w' h' => ?_⟩) hS ?_
  · clear h'
    go_simp
  simp only [Act.put]
  refine wpAnyH_take (i := 14) (oi := ⟨some 70, Op.move (Operand.tmp 14), _, _, _, some (13, true)⟩) (v := (.int .i64 G)) rfl (by kernel_rfl) (by kernel_rfl) (by kernel_rfl) (fun _ _ _ h => h) (Or.inl ⟨by kernel_rfl, fun w' h' => ?_⟩) hS ?_
  · clear h'
    go_simp
  simp only [Act.put]
  refine wpAnyH_take (i := 15) (oi := ⟨some 71, Op.move (Operand.tmp 16), _, _, _, some (13, true)⟩) (v := (.int .i64 G)) rfl (by kernel_rfl) (by kernel_rfl) (by kernel_rfl) (fun _ _ _ h => h) (Or.inl ⟨by kernel_rfl, fun w' h' => ?_⟩) hS ?_
  · clear h'
    go_simp
  simp only [Act.put]
  refine wpAnyH_take (i := 16) (oi := ⟨some 72, Op.binOp BinOp.eql 3 (Operand.tmp 70) (Operand.tmp 71) 3, _, _, _, some (13, true)⟩) (v := (.bool true)) rfl (by kernel_rfl) (by kernel_rfl) (by kernel_rfl) (fun _ _ _ h => h) (Or.inl ⟨by kernel_rfl, fun w' h' => ?_⟩) hS ?_
  · clear h'
    go_simp
  simp only [Act.put]
  refine wpAnyH_take (i := 17) (oi := ⟨some 73, Op.pick (Operand.tmp 69) (Operand.tmp 72) (Operand.const (Value.bool false)), _, _, _, none⟩) (v := (.bool true)) rfl (by kernel_rfl) (by kernel_rfl) (by kernel_rfl) (fun _ _ _ h => h) (Or.inl ⟨by rfl, fun w' h' => ?_⟩) hS ?_
  · clear h'
    go_simp
  simp only [Act.put]
  refine wpAnyH_take (i := 18) (oi := ⟨some 74, Op.move (Operand.tmp 73), _, _, _, none⟩) (v := (.bool true)) rfl (by kernel_rfl) (by kernel_rfl) (by kernel_rfl) (fun _ _ _ h => h) (Or.inl ⟨by rfl, fun w' h' => ?_⟩) hS ?_
  · clear h'
    go_simp
  simp only [Act.put]
  refine wpAnyH_take (i := 19) (oi := ⟨some 75, Op.load 47 (Operand.tmp 4), _, _, _, some (18, true)⟩) (v := (.agg (sgC f))) rfl (by kernel_rfl) (by kernel_rfl) (by kernel_rfl) (fun _ _ _ h => h) (yields_sg (by kernel_rfl) (Operand.tmp 4) (by kernel_rfl) n (by kernel_rfl) f (fun _ h => h.1)) hS ?_
  simp only [Act.put]
  refine wpAnyH_take (i := 21) (oi := ⟨some 77, Op.load 47 (Operand.tmp 4), _, _, _, some (18, true)⟩) (v := (.agg (sgC f))) rfl (by kernel_rfl) (by kernel_rfl) (by kernel_rfl) (fun _ _ _ h => h) (yields_sg (by kernel_rfl) (Operand.tmp 4) (by kernel_rfl) n (by kernel_rfl) f (fun _ h => h.1)) hS ?_
  simp only [Act.put]
  refine wpAnyH_ready (rs := [20]) (by kernel_rfl) (by simp) ?_
  refine AllReadyH.cons rfl (fun K hK => ?_) AllReadyH.nil
  go_simp
  refine (k5.out _).mono ?_
  rintro e v1 ⟨rfl, b1⟩
  have S1 := And.intro (hS.1.grow b1) (And.intro (hS.2.1.grow b1) (hS.2.2.grow b1))
  have BV1 := bstep BV b1
  clear b1 BV
  go_simp
  refine hK.out _ _ S1 (fun _ => ?_)
  clear hK K
  refine wpAnyH_ready (rs := [22]) (by kernel_rfl) (by simp) ?_
  refine AllReadyH.cons rfl (fun K hK => ?_) AllReadyH.nil
  go_simp
  refine (k6.out _).mono ?_
  rintro e v2 ⟨rfl, b2⟩
  have S2 := And.intro (S1.1.grow b2) (And.intro (S1.2.1.grow b2) (S1.2.2.grow b2))
  have BV2 := bstep BV1 b2
  clear b2 BV1
  go_simp
  refine hK.out _ _ S2 (fun _ => ?_)
  clear hK K
  refine wpAnyH_take (i := 23) (oi := ⟨some 79, Op.binOp BinOp.eql 3 (Operand.tmp 76) (Operand.tmp 78) 3, _, _, _, some (18, true)⟩) (v := (.bool true)) rfl (by kernel_rfl) (by kernel_rfl) (by kernel_rfl) (fun _ _ _ h => h) (Or.inl ⟨by kernel_rfl, fun w' h' => ?_⟩) S2 ?_
  · clear h'
    go_simp
  simp only [Act.put]
  refine wpAnyH_take (i := 24) (oi := ⟨some 80, Op.pick (Operand.tmp 74) (Operand.tmp 79) (Operand.const (Value.bool false)), _, _, _, none⟩) (v := (.bool true)) rfl (by kernel_rfl) (by kernel_rfl) (by kernel_rfl) (fun _ _ _ h => h) (Or.inl ⟨by rfl, fun w' h' => ?_⟩) S2 ?_
  · clear h'
    go_simp
  simp only [Act.put]
  refine wpAnyH_take (i := 25) (oi := ⟨some 8, Op.assign (Operand.tmp 80), _, _, _, none⟩) (v := (.bool true)) rfl (by kernel_rfl) (by kernel_rfl) (by kernel_rfl) (fun _ _ _ h => h) (Or.inl ⟨by rfl, fun w' h' => ?_⟩) S2 ?_
  · clear h'
    go_simp
  simp only [Act.put]
  refine wpAnyH_done (by kernel_rfl) (NoPanic.normal ?_) _
  simp only [List.setIfInBounds_toArray, List.set_cons_zero, List.set_cons_succ]
  clear S1 S2 hS
  go_wp2_with fail
  go_ret
  exact ⟨rfl, BV2.out⟩

theorem walk (f : Sg) (s : ByteArray) (i j : Ip4) (w0 : f.ok) (w1 : s.size ≤ maxLen) (w : World) :
    Calls Try.prog 5 #[.agg (sgC f), .string s, .agg (ipC i), .agg (ipC j)] w fun e w' => e = .returned (.bool true) ∧ Below w.heap.size w w' := by
  have m0 : f.da.size ≤ 9223372036854775807 := by have := w0.2.2.2.2.2.2.2; unfold maxLen at this; omega
  have m1 : s.size ≤ 9223372036854775807 := by unfold maxLen at w1; omega
  by_cases h1 : 2000 < f.da.size
  · exact walk_long f s i j m0 m1 (.inl h1) w
  by_cases h2 : 2000 < s.size
  · exact walk_long f s i j m0 m1 (.inr ⟨by omega, h2⟩) w
  exact walk_main f w0 s i j (by omega) (by omega) w

set_option maxRecDepth 100000 in
theorem lifted (os : Os) (started : os.Started) (H : Type) (enc : TypeId × Value → H) :
    ReturnsInHanded {} Try.checked os 5 .any (Rows.segCodesSpec.pre6 enc Try.prog Try.f5 Rows.segCodesRow.domain false) (Rows.segCodesSpec.post enc Try.prog Try.f5 false true false false) := by
  refine returnsInHanded_of_change (C := Try.checked) own started (by kernel_rfl) Try.func5
    (ChangeSpec.witness6 (enc := enc) (C := Try.checked) false ⟨#[], #[.agg #[.int .i64 0, .int .i64 0, .int .u32 0, .int .u32 0, .int .i64 0, .int .i64 0, .int .i64 0, .string ByteArray.empty], .string ByteArray.empty, .agg #[.int .u8 0, .int .u8 0, .int .u8 0, .int .u8 0], .agg #[.int .u8 0, .int .u8 0, .int .u8 0, .int .u8 0]], []⟩ 8 (by kernel_rfl) (by kernel_rfl) (by kernel_rfl) (by kernel_rfl)) ?_
  intro W base args ds gs before hval0 hW hcnd _
  have hval : ∀ (j : Nat) t v, Try.f5.params[j]? = some t → args[j]? = some v → Value.okWide Try.prog W .any base t v := hval0
  have hW' := hW
  obtain ⟨p, q, hA0, hV, rfl, hfz, hnd⟩ := hW
  have hA : DataW.TrodAll enc Try.prog W 0 (fun _ => true) true Try.f5.params.toList args.toList ds p := hA0
  rw [Try.params5] at hA hval
  obtain ⟨v0, vs0, d0, ds0, p0, q0, hargs, rfl, rfl, h0, r0⟩ := trodAll_cons hA
  obtain ⟨v1, vs1, d1, ds1, p1, q1, rfl, rfl, rfl, h1, r1⟩ := trodAll_cons r0
  obtain ⟨v2, vs2, d2, ds2, p2, q2, rfl, rfl, rfl, h2, r2⟩ := trodAll_cons r1
  obtain ⟨v3, vs3, d3, ds3, p3, q3, rfl, rfl, rfl, h3, r3⟩ := trodAll_cons r2
  obtain ⟨rfl, rfl, rfl⟩ := trodAll_nil r3
  obtain rfl : args = #[v0, v1, v2, v3] := by cases args; simp_all
  obtain ⟨rfl, rfl⟩ := trodVars_none hV
  obtain ⟨a0, rfl, w0⟩ := open_seg (hval 0 47 v0 rfl rfl) h0
  have k0 := h0
  have lt0 : ∀ x ∈ p0, x.block < W.heap.size := by obtain ⟨m, hm⟩ := k0; exact DataW.trod_lt m _ _ _ hm
  obtain ⟨a1, rfl, rfl, rfl, w1⟩ := open_string Try.underlying9 (hval 1 9 v1 rfl rfl) h1
  obtain ⟨a2, rfl⟩ := open_ip (hval 2 33 v2 rfl rfl) h2
  have k2 := h2
  have lt2 : ∀ x ∈ p2, x.block < W.heap.size := by obtain ⟨m, hm⟩ := k2; exact DataW.trod_lt m _ _ _ hm
  obtain ⟨a3, rfl⟩ := open_ip (hval 3 33 v3 rfl rfl) h3
  have k3 := h3
  have lt3 : ∀ x ∈ p3, x.block < W.heap.size := by obtain ⟨m, hm⟩ := k3; exact DataW.trod_lt m _ _ _ hm
  clear hA0 hval0
  refine (walk a0 a1 a2 a3 w0 w1 W).mono fun e W' ⟨he, bel⟩ => ?_
  subst he
  exact ⟨_, rfl, _, _, _, [], _, [], hW', trodAll_mk1 (shut_bool Try.underlying4 _), (trodAll_cons_mk (Below.trod laidOut (by kernel_rfl) (of_decide_eq_true (by kernel_rfl)) k0 bel lt0) (trodAll_cons_mk (shut_string Try.underlying9 w1) (trodAll_cons_mk (Below.trod laidOut (by kernel_rfl) (of_decide_eq_true (by kernel_rfl)) k2 bel lt2) (trodAll_cons_mk (Below.trod laidOut (by kernel_rfl) (of_decide_eq_true (by kernel_rfl)) k3 bel lt3) trodAll_mk0)))), rfl, bel.frame _, fun h => by cases h⟩

/-- THE STATEMENT. -/
theorem proved : Rows.SegCodesSaid :=
  OpenClaim.holds_of_wide 5 Try.f5 rfl rfl rfl rfl rfl rfl rfl ⟨rfl, rfl, rfl, rfl, rfl⟩ rfl rfl rfl rfl rfl (by kernel_rfl) Try.func5 (by kernel_rfl)
    (of_decide_eq_true (by kernel_rfl)) (by unfold Func.isWrapper; first | (rw [if_pos (by decide +kernel)]; kernel_rfl) | (rw [if_neg (by decide +kernel)]; exact ⟨rfl, rfl⟩))
    (fun os started H enc _ => lifted os started H enc)
#print axioms proved

end Go.Proofs.Ytbjoibgkhooljaa.sgc
