/-
  Layer 9: the document's own reading of bytes, and what it says that nobody is there. Conditions: a text has at most 2^47 bytes (for its sum: 100,000).
-/
import Derived.Test.YtapfkhhabamndaaIcC
import Derived.Test.YtapfkhhabamndaaIpG
namespace Go.Proofs.Ytapfkhhabamndaa
open Go.RowKit Go.Sort
set_option linter.unusedVariables false

set_option maxRecDepth 100000 in
set_option maxHeartbeats 4000000 in
theorem rRead9_short (w : World) (s : ByteArray) (h : s.size < 8) :
    Calls Try.prog 25 #[.string s] w fun e w' => e = .returned (.tuple #[.agg (icC icZ), .int .i64 7]) ∧ Below w.heap.size w w' := by
  go_enter Try.func25, Try.ntmps25
  go_upto_region 1 with fail
  have RM : Hid (IcRoom (w.alloc (.cells #[.int .i64 0, .int .i64 0, .int .u32 0, .string ⟨#[]⟩] 49)) w.heap.size) := Lib.hid (icroom_new _ _ _ rfl rfl)
  have BL : Hid (Below w.heap.size w (w.alloc (.cells #[.int .i64 0, .int .i64 0, .int .u32 0, .string ⟨#[]⟩] 49))) := Lib.hid ((Below.refl _ _).alloc (Nat.le_refl _) _)
  generalize w.alloc _ = W1 at RM BL ⊢
  obtain ⟨hst, S6⟩ := RM.out.put icZ
  have S6 := Lib.hid S6
  have B6 := Lib.hid (below_setRow BL.out (Nat.le_refl _) (icC icZ))
  go_wp2_with (refine wpList_storeW 49 (.tmp 2) (.tmp 8) rfl rfl (.agg (icC icZ)) w.heap.size rfl rfl hst ?_)
  exact bodyPost_ret (v := .tuple #[.agg (icC icZ), .int .i64 7]) (results_row _ 2 3 49 (by kernel_rfl) _ w.heap.size _ _ _ _ rfl rfl S6.out Try.underlying49 rfl (by kernel_rfl)) rfl ⟨rfl, B6.out⟩
set_option maxRecDepth 100000 in
set_option maxHeartbeats 4000000 in
theorem rRead9_long (w : World) (s : ByteArray) (h : 566 < s.size) (hm : s.size ≤ 140737488355328) :
    Calls Try.prog 25 #[.string s] w fun e w' => e = .returned (.tuple #[.agg (icC icZ), .int .i64 3]) ∧ Below w.heap.size w w' := by
  go_enter Try.func25, Try.ntmps25
  go_upto_region 1 with fail
  have RM : Hid (IcRoom (w.alloc (.cells #[.int .i64 0, .int .i64 0, .int .u32 0, .string ⟨#[]⟩] 49)) w.heap.size) := Lib.hid (icroom_new _ _ _ rfl rfl)
  have BL : Hid (Below w.heap.size w (w.alloc (.cells #[.int .i64 0, .int .i64 0, .int .u32 0, .string ⟨#[]⟩] 49))) := Lib.hid ((Below.refl _ _).alloc (Nat.le_refl _) _)
  generalize w.alloc _ = W1 at RM BL ⊢
  obtain ⟨hst, S6⟩ := RM.out.put icZ
  have S6 := Lib.hid S6
  have B6 := Lib.hid (below_setRow BL.out (Nat.le_refl _) (icC icZ))
  go_wp2_with (refine wpList_storeW 49 (.tmp 2) (.tmp 12) rfl rfl (.agg (icC icZ)) w.heap.size rfl rfl hst ?_)
  exact bodyPost_ret (v := .tuple #[.agg (icC icZ), .int .i64 3]) (results_row _ 2 3 49 (by kernel_rfl) _ w.heap.size _ _ _ _ rfl rfl S6.out Try.underlying49 rfl (by kernel_rfl)) rfl ⟨rfl, B6.out⟩
set_option maxRecDepth 100000 in
set_option maxHeartbeats 4000000 in
theorem rRead9_sum (w : World) (s : ByteArray) (h : 8 ≤ s.size) (h2 : s.size ≤ 566) (K : Nat) (hK : sumT s.data.toList = K) (h0 : ¬ K = 0) :
    Calls Try.prog 25 #[.string s] w fun e w' => e = .returned (.tuple #[.agg (icC icZ), .int .i64 9]) ∧ Below w.heap.size w w' := by
  have kS := Lib.hid (fun w => rSum_any w s (by omega))
  rw [hK] at kS
  have hx : ((K : Int) != 0) = true := by simpa using h0
  clear h0 hK
  go_enter Try.func25, Try.ntmps25
  go_upto_region 1 with fail
  have RM : Hid (IcRoom (w.alloc (.cells #[.int .i64 0, .int .i64 0, .int .u32 0, .string ⟨#[]⟩] 49)) w.heap.size) := Lib.hid (icroom_new _ _ _ rfl rfl)
  have BL : Hid (Below w.heap.size w (w.alloc (.cells #[.int .i64 0, .int .i64 0, .int .u32 0, .string ⟨#[]⟩] 49))) := Lib.hid ((Below.refl _ _).alloc (Nat.le_refl _) _)
  generalize w.alloc _ = W1 at RM BL ⊢
  go_wp2_with fail
  refine (kS.out _).mono ?_
  rintro e w2 ⟨rfl, b2⟩
  have RM2 := Lib.hid (RM.out.grow b2)
  have BL2 := bstep BL b2
  clear b2 RM BL
  obtain ⟨hst, S6⟩ := RM2.out.put icZ
  have S6 := Lib.hid S6
  have B6 := Lib.hid (below_setRow BL2.out (Nat.le_refl _) (icC icZ))
  go_wp2_with (refine wpList_storeW 49 (.tmp 2) (.tmp 16) rfl rfl (.agg (icC icZ)) w.heap.size rfl rfl hst ?_)
  exact bodyPost_ret (v := .tuple #[.agg (icC icZ), .int .i64 9]) (results_row _ 2 3 49 (by kernel_rfl) _ w.heap.size _ _ _ _ rfl rfl S6.out Try.underlying49 rfl (by kernel_rfl)) rfl ⟨rfl, B6.out⟩
set_option maxRecDepth 100000 in
set_option maxHeartbeats 4000000 in
theorem rRead9_yes (w : World) (s : ByteArray) (h : 8 ≤ s.size) (h2 : s.size ≤ 566) (h0 : sumT s.data.toList = 0) (Q : Ic) (hQ : Q = irQ s) :
    Calls Try.prog 25 #[.string s] w fun e w' => e = .returned (.tuple #[.agg (icC Q), .int .i64 0]) ∧ Below w.heap.size w w' := by
  have kS := Lib.hid (fun w => rSum_any w s (by omega))
  rw [h0] at kS
  obtain ⟨X0, x0⟩ : ∃ X, X = b9 s.data.toList 0 := ⟨_, rfl⟩
  have l0 := b9_lt s.data.toList 0
  rw [← x0] at l0
  have i0 : 0 < s.size := by omega
  have HX0 : Hid ((s[0]'i0).toNat = X0) := Lib.hid (by rw [x0]; exact b9_at s 0 i0)
  obtain ⟨X1, x1⟩ : ∃ X, X = b9 s.data.toList 1 := ⟨_, rfl⟩
  have l1 := b9_lt s.data.toList 1
  rw [← x1] at l1
  have i1 : 1 < s.size := by omega
  have HX1 : Hid ((s[1]'i1).toNat = X1) := Lib.hid (by rw [x1]; exact b9_at s 1 i1)
  obtain ⟨X4, x4⟩ : ∃ X, X = b9 s.data.toList 4 := ⟨_, rfl⟩
  have l4 := b9_lt s.data.toList 4
  rw [← x4] at l4
  have i4 : 4 < s.size := by omega
  have HX4 : Hid ((s[4]'i4).toNat = X4) := Lib.hid (by rw [x4]; exact b9_at s 4 i4)
  obtain ⟨X5, x5⟩ : ∃ X, X = b9 s.data.toList 5 := ⟨_, rfl⟩
  have l5 := b9_lt s.data.toList 5
  rw [← x5] at l5
  have i5 : 5 < s.size := by omega
  have HX5 : Hid ((s[5]'i5).toNat = X5) := Lib.hid (by rw [x5]; exact b9_at s 5 i5)
  obtain ⟨X6, x6⟩ : ∃ X, X = b9 s.data.toList 6 := ⟨_, rfl⟩
  have l6 := b9_lt s.data.toList 6
  rw [← x6] at l6
  have i6 : 6 < s.size := by omega
  have HX6 : Hid ((s[6]'i6).toNat = X6) := Lib.hid (by rw [x6]; exact b9_at s 6 i6)
  obtain ⟨X7, x7⟩ : ∃ X, X = b9 s.data.toList 7 := ⟨_, rfl⟩
  have l7 := b9_lt s.data.toList 7
  rw [← x7] at l7
  have i7 : 7 < s.size := by omega
  have HX7 : Hid ((s[7]'i7).toNat = X7) := Lib.hid (by rw [x7]; exact b9_at s 7 i7)
  have WC4 : Hid (IntKind.u32.wrap (X4 : Int) = (X4 : Int)) := Lib.hid (IntWalk.u32_in _ (by omega))
  have WC5 : Hid (IntKind.u32.wrap (X5 : Int) = (X5 : Int)) := Lib.hid (IntWalk.u32_in _ (by omega))
  have WC6 : Hid (IntKind.u32.wrap (X6 : Int) = (X6 : Int)) := Lib.hid (IntWalk.u32_in _ (by omega))
  have WC7 : Hid (IntKind.u32.wrap (X7 : Int) = (X7 : Int)) := Lib.hid (IntWalk.u32_in _ (by omega))
  have WM4 : Hid (IntKind.u32.wrap ((X4 : Int) * 16777216) = (X4 : Int) * 16777216) := Lib.hid (IntWalk.u32_in _ (by omega))
  have WM5 : Hid (IntKind.u32.wrap ((X5 : Int) * 65536) = (X5 : Int) * 65536) := Lib.hid (IntWalk.u32_in _ (by omega))
  have WS5 : Hid (IntKind.u32.wrap ((X4 : Int) * 16777216 + (X5 : Int) * 65536) = (X4 : Int) * 16777216 + (X5 : Int) * 65536) := Lib.hid (IntWalk.u32_in _ (by omega))
  have WM6 : Hid (IntKind.u32.wrap ((X6 : Int) * 256) = (X6 : Int) * 256) := Lib.hid (IntWalk.u32_in _ (by omega))
  have WS6 : Hid (IntKind.u32.wrap ((X4 : Int) * 16777216 + (X5 : Int) * 65536 + (X6 : Int) * 256) = (X4 : Int) * 16777216 + (X5 : Int) * 65536 + (X6 : Int) * 256) := Lib.hid (IntWalk.u32_in _ (by omega))
  have hre : Q.re = (X4 : Int) * 16777216 + (X5 : Int) * 65536 + (X6 : Int) * 256 + (X7 : Int) := by
    rw [hQ]
    show ((r4 s.data.toList : Nat) : Int) = _
    rw [r4, ← x4, ← x5, ← x6, ← x7]
    omega
  have WS7 : Hid (IntKind.u32.wrap ((X4 : Int) * 16777216 + (X5 : Int) * 65536 + (X6 : Int) * 256 + (X7 : Int)) = Q.re) := Lib.hid (by rw [IntWalk.u32_in _ (by omega), hre])
  have G0 : Hid (7 < s.size) := Lib.hid i7
  have WA : Hid (IntKind.i64.wrap (X0 : Int) = Q.kd) := Lib.hid (by rw [IntWalk.i64_in _ (by omega), hQ, x0]; rfl)
  have WB : Hid (IntKind.i64.wrap (X1 : Int) = Q.co) := Lib.hid (by rw [IntWalk.i64_in _ (by omega), hQ, x1]; rfl)
  have g8 : Hid (¬ (s.size : Int) < 8) := Lib.hid (by omega)
  have HD : Hid (s.extract 8 s.size = Q.da) := Lib.hid (by rw [hQ]; rfl)
  clear hQ hre x0 x1 x4 x5 x6 x7 l0 l1 l4 l5 l6 l7 h0
  go_enter Try.func25, Try.ntmps25
  go_upto_region 1 with fail
  have RM : Hid (IcRoom (w.alloc (.cells #[.int .i64 0, .int .i64 0, .int .u32 0, .string ⟨#[]⟩] 49)) w.heap.size) := Lib.hid (icroom_new _ _ _ rfl rfl)
  have BL : Hid (Below w.heap.size w (w.alloc (.cells #[.int .i64 0, .int .i64 0, .int .u32 0, .string ⟨#[]⟩] 49))) := Lib.hid ((Below.refl _ _).alloc (Nat.le_refl _) _)
  generalize w.alloc _ = W1 at RM BL ⊢
  go_wp2_with fail
  refine (kS.out _).mono ?_
  rintro e w2 ⟨rfl, b2⟩
  have RM2 := Lib.hid (RM.out.grow b2)
  have BL2 := bstep BL b2
  clear b2 RM BL
  go_upto_region 7 with fail
  refine wp_region_noPanic ?_
  refine region_heldE (S := fun w' => IcRoom w' w.heap.size) (by kernel_rfl) (fun V d => RM2.out.kept (d.block _)) (fun V7 d hV => ?_)
  have BV7 := bstep BL2 d.below
  clear d BL2 RM2
  refine wpAnyH_take (i := 0) (oi := ⟨some 17, Op.move (Operand.tmp 0), _, _, _, none⟩) (v := (.string s)) rfl (by kernel_rfl) (by kernel_rfl) (by kernel_rfl) (fun _ _ _ h => h) (Or.inl ⟨by rfl, fun w' h' => ?_⟩) hV ?_
  · clear h'
    go_simp
  simp only [Act.put]
  refine wpAnyH_take (i := 1) (oi := ⟨some 18, Op.index 9 (Operand.tmp 17) (Operand.const (Value.int IntKind.i64 4)), _, _, _, none⟩) (v := (.int .u8 (X4 : Int))) rfl (by kernel_rfl) (by kernel_rfl) (by kernel_rfl) (fun _ _ _ h => h) (Or.inl ⟨by rfl, fun w' h' => ?_⟩) hV ?_
  · have c0 := HX4.out
    clear h'
    go_simp
    all_goals (intro hq; have := G0.out; omega)
  simp only [Act.put]
  refine wpAnyH_take (i := 2) (oi := ⟨some 19, Op.convert 5 47 (Operand.tmp 18), _, _, _, none⟩) (v := (.int .u32 (X4 : Int))) rfl (by kernel_rfl) (by kernel_rfl) (by kernel_rfl) (fun _ _ _ h => h) (Or.inl ⟨by rfl, fun w' h' => ?_⟩) hV ?_
  · have c0 := WC4.out
    clear h'
    go_simp
  simp only [Act.put]
  refine wpAnyH_take (i := 3) (oi := ⟨some 20, Op.binOp BinOp.mul 47 (Operand.tmp 19) (Operand.const (Value.int IntKind.u32 16777216)) 47, _, _, _, none⟩) (v := (.int .u32 ((X4 : Int) * 16777216))) rfl (by kernel_rfl) (by kernel_rfl) (by kernel_rfl) (fun _ _ _ h => h) (Or.inl ⟨by rfl, fun w' h' => ?_⟩) hV ?_
  · have c0 := WM4.out
    clear h'
    go_simp
  simp only [Act.put]
  refine wpAnyH_take (i := 4) (oi := ⟨some 21, Op.move (Operand.tmp 0), _, _, _, none⟩) (v := (.string s)) rfl (by kernel_rfl) (by kernel_rfl) (by kernel_rfl) (fun _ _ _ h => h) (Or.inl ⟨by rfl, fun w' h' => ?_⟩) hV ?_
  · clear h'
    go_simp
  simp only [Act.put]
  refine wpAnyH_take (i := 5) (oi := ⟨some 22, Op.index 9 (Operand.tmp 21) (Operand.const (Value.int IntKind.i64 5)), _, _, _, none⟩) (v := (.int .u8 (X5 : Int))) rfl (by kernel_rfl) (by kernel_rfl) (by kernel_rfl) (fun _ _ _ h => h) (Or.inl ⟨by rfl, fun w' h' => ?_⟩) hV ?_
  · have c0 := HX5.out
    clear h'
    go_simp
    all_goals (intro hq; have := G0.out; omega)
  simp only [Act.put]
  refine wpAnyH_take (i := 6) (oi := ⟨some 23, Op.convert 5 47 (Operand.tmp 22), _, _, _, none⟩) (v := (.int .u32 (X5 : Int))) rfl (by kernel_rfl) (by kernel_rfl) (by kernel_rfl) (fun _ _ _ h => h) (Or.inl ⟨by rfl, fun w' h' => ?_⟩) hV ?_
  · have c0 := WC5.out
    clear h'
    go_simp
  simp only [Act.put]
  refine wpAnyH_take (i := 7) (oi := ⟨some 24, Op.binOp BinOp.mul 47 (Operand.tmp 23) (Operand.const (Value.int IntKind.u32 65536)) 47, _, _, _, none⟩) (v := (.int .u32 ((X5 : Int) * 65536))) rfl (by kernel_rfl) (by kernel_rfl) (by kernel_rfl) (fun _ _ _ h => h) (Or.inl ⟨by rfl, fun w' h' => ?_⟩) hV ?_
  · have c0 := WM5.out
    clear h'
    go_simp
  simp only [Act.put]
  refine wpAnyH_take (i := 8) (oi := ⟨some 25, Op.binOp BinOp.add 47 (Operand.tmp 20) (Operand.tmp 24) 47, _, _, _, none⟩) (v := (.int .u32 ((X4 : Int) * 16777216 + (X5 : Int) * 65536))) rfl (by kernel_rfl) (by kernel_rfl) (by kernel_rfl) (fun _ _ _ h => h) (Or.inl ⟨by rfl, fun w' h' => ?_⟩) hV ?_
  · have c0 := WS5.out
    clear h'
    go_simp
  simp only [Act.put]
  refine wpAnyH_take (i := 9) (oi := ⟨some 26, Op.move (Operand.tmp 0), _, _, _, none⟩) (v := (.string s)) rfl (by kernel_rfl) (by kernel_rfl) (by kernel_rfl) (fun _ _ _ h => h) (Or.inl ⟨by rfl, fun w' h' => ?_⟩) hV ?_
  · clear h'
    go_simp
  simp only [Act.put]
  refine wpAnyH_take (i := 10) (oi := ⟨some 27, Op.index 9 (Operand.tmp 26) (Operand.const (Value.int IntKind.i64 6)), _, _, _, none⟩) (v := (.int .u8 (X6 : Int))) rfl (by kernel_rfl) (by kernel_rfl) (by kernel_rfl) (fun _ _ _ h => h) (Or.inl ⟨by rfl, fun w' h' => ?_⟩) hV ?_
  · have c0 := HX6.out
    clear h'
    go_simp
    all_goals (intro hq; have := G0.out; omega)
  simp only [Act.put]
  refine wpAnyH_take (i := 11) (oi := ⟨some 28, Op.convert 5 47 (Operand.tmp 27), _, _, _, none⟩) (v := (.int .u32 (X6 : Int))) rfl (by kernel_rfl) (by kernel_rfl) (by kernel_rfl) (fun _ _ _ h => h) (Or.inl ⟨by rfl, fun w' h' => ?_⟩) hV ?_
  · have c0 := WC6.out
    clear h'
    go_simp
  simp only [Act.put]
  refine wpAnyH_take (i := 12) (oi := ⟨some 29, Op.binOp BinOp.mul 47 (Operand.tmp 28) (Operand.const (Value.int IntKind.u32 256)) 47, _, _, _, none⟩) (v := (.int .u32 ((X6 : Int) * 256))) rfl (by kernel_rfl) (by kernel_rfl) (by kernel_rfl) (fun _ _ _ h => h) (Or.inl ⟨by rfl, fun w' h' => ?_⟩) hV ?_
  · have c0 := WM6.out
    clear h'
    go_simp
  simp only [Act.put]
  refine wpAnyH_take (i := 13) (oi := ⟨some 30, Op.binOp BinOp.add 47 (Operand.tmp 25) (Operand.tmp 29) 47, _, _, _, none⟩) (v := (.int .u32 ((X4 : Int) * 16777216 + (X5 : Int) * 65536 + (X6 : Int) * 256))) rfl (by kernel_rfl) (by kernel_rfl) (by kernel_rfl) (fun _ _ _ h => h) (Or.inl ⟨by rfl, fun w' h' => ?_⟩) hV ?_
  · have c0 := WS6.out
    clear h'
    go_simp
  simp only [Act.put]
  refine wpAnyH_take (i := 14) (oi := ⟨some 31, Op.move (Operand.tmp 0), _, _, _, none⟩) (v := (.string s)) rfl (by kernel_rfl) (by kernel_rfl) (by kernel_rfl) (fun _ _ _ h => h) (Or.inl ⟨by rfl, fun w' h' => ?_⟩) hV ?_
  · clear h'
    go_simp
  simp only [Act.put]
  refine wpAnyH_take (i := 15) (oi := ⟨some 32, Op.index 9 (Operand.tmp 31) (Operand.const (Value.int IntKind.i64 7)), _, _, _, none⟩) (v := (.int .u8 (X7 : Int))) rfl (by kernel_rfl) (by kernel_rfl) (by kernel_rfl) (fun _ _ _ h => h) (Or.inl ⟨by rfl, fun w' h' => ?_⟩) hV ?_
  · have c0 := HX7.out
    clear h'
    go_simp
    all_goals (intro hq; have := G0.out; omega)
  simp only [Act.put]
  refine wpAnyH_take (i := 16) (oi := ⟨some 33, Op.convert 5 47 (Operand.tmp 32), _, _, _, none⟩) (v := (.int .u32 (X7 : Int))) rfl (by kernel_rfl) (by kernel_rfl) (by kernel_rfl) (fun _ _ _ h => h) (Or.inl ⟨by rfl, fun w' h' => ?_⟩) hV ?_
  · have c0 := WC7.out
    clear h'
    go_simp
  simp only [Act.put]
  refine wpAnyH_take (i := 17) (oi := ⟨some 34, Op.binOp BinOp.add 47 (Operand.tmp 30) (Operand.tmp 33) 47, _, _, _, none⟩) (v := (.int .u32 (Q.re))) rfl (by kernel_rfl) (by kernel_rfl) (by kernel_rfl) (fun _ _ _ h => h) (Or.inl ⟨by rfl, fun w' h' => ?_⟩) hV ?_
  · have c0 := WS7.out
    clear h'
    go_simp
  simp only [Act.put]
  refine wpAnyH_take (i := 18) (oi := ⟨some 4, Op.assign (Operand.tmp 34), _, _, _, none⟩) (v := (.int .u32 (Q.re))) rfl (by kernel_rfl) (by kernel_rfl) (by kernel_rfl) (fun _ _ _ h => h) (Or.inl ⟨by rfl, fun w' h' => ?_⟩) hV ?_
  · clear h'
    go_simp
  simp only [Act.put]
  refine wpAnyH_done (by kernel_rfl) (NoPanic.normal ?_) _
  simp only [List.setIfInBounds_toArray, List.set_cons_zero, List.set_cons_succ]
  have RM3 := Lib.hid hV
  clear hV
  go_upto_region 8 with fail
  refine wp_region_noPanic ?_
  refine region_heldE (S := fun w' => IcRoom w' w.heap.size) (by kernel_rfl) (fun V d => RM3.out.kept (d.block _)) (fun V d hS => ?_)
  have BV0 := bstep BV7 d.below
  clear d BV7
  refine wpAnyH_take (i := 0) (oi := ⟨some 35, Op.move (Operand.tmp 0), _, _, _, none⟩) (v := (.string s)) rfl (by kernel_rfl) (by kernel_rfl) (by kernel_rfl) (fun _ _ _ h => h) (Or.inl ⟨by rfl, fun w' h' => ?_⟩) hS ?_
  · clear h'
    go_simp
  simp only [Act.put]
  refine wpAnyH_take (i := 1) (oi := ⟨some 36, Op.index 9 (Operand.tmp 35) (Operand.const (Value.int IntKind.i64 0)), _, _, _, none⟩) (v := (.int .u8 (X0 : Int))) rfl (by kernel_rfl) (by kernel_rfl) (by kernel_rfl) (fun _ _ _ h => h) (Or.inl ⟨by rfl, fun w' h' => ?_⟩) hS ?_
  · have c0 := HX0.out
    clear h'
    go_simp
    all_goals (intro hq; have := G0.out; omega)
  simp only [Act.put]
  refine wpAnyH_take (i := 2) (oi := ⟨some 37, Op.convert 5 3 (Operand.tmp 36), _, _, _, none⟩) (v := (.int .i64 Q.kd)) rfl (by kernel_rfl) (by kernel_rfl) (by kernel_rfl) (fun _ _ _ h => h) (Or.inl ⟨by rfl, fun w' h' => ?_⟩) hS ?_
  · have c0 := WA.out
    clear h'
    go_simp
  simp only [Act.put]
  refine wpAnyH_take (i := 3) (oi := ⟨some 38, Op.move (Operand.tmp 0), _, _, _, none⟩) (v := (.string s)) rfl (by kernel_rfl) (by kernel_rfl) (by kernel_rfl) (fun _ _ _ h => h) (Or.inl ⟨by rfl, fun w' h' => ?_⟩) hS ?_
  · clear h'
    go_simp
  simp only [Act.put]
  refine wpAnyH_take (i := 4) (oi := ⟨some 39, Op.index 9 (Operand.tmp 38) (Operand.const (Value.int IntKind.i64 1)), _, _, _, none⟩) (v := (.int .u8 (X1 : Int))) rfl (by kernel_rfl) (by kernel_rfl) (by kernel_rfl) (fun _ _ _ h => h) (Or.inl ⟨by rfl, fun w' h' => ?_⟩) hS ?_
  · have c0 := HX1.out
    clear h'
    go_simp
    all_goals (intro hq; have := G0.out; omega)
  simp only [Act.put]
  refine wpAnyH_take (i := 5) (oi := ⟨some 40, Op.convert 5 3 (Operand.tmp 39), _, _, _, none⟩) (v := (.int .i64 Q.co)) rfl (by kernel_rfl) (by kernel_rfl) (by kernel_rfl) (fun _ _ _ h => h) (Or.inl ⟨by rfl, fun w' h' => ?_⟩) hS ?_
  · have c0 := WB.out
    clear h'
    go_simp
  simp only [Act.put]
  refine wpAnyH_take (i := 6) (oi := ⟨some 41, Op.move (Operand.tmp 4), _, _, _, none⟩) (v := (.int .u32 Q.re)) rfl (by kernel_rfl) (by kernel_rfl) (by kernel_rfl) (fun _ _ _ h => h) (Or.inl ⟨by rfl, fun w' h' => ?_⟩) hS ?_
  · clear h'
    go_simp
  simp only [Act.put]
  refine wpAnyH_take (i := 7) (oi := ⟨some 42, Op.move (Operand.tmp 0), _, _, _, none⟩) (v := (.string s)) rfl (by kernel_rfl) (by kernel_rfl) (by kernel_rfl) (fun _ _ _ h => h) (Or.inl ⟨by rfl, fun w' h' => ?_⟩) hS ?_
  · clear h'
    go_simp
  simp only [Act.put]
  refine wpAnyH_take (i := 8) (oi := ⟨some 43, Op.slice 9 (Operand.tmp 42) (some (Operand.const (Value.int IntKind.i64 8))) none none, _, _, _, none⟩) (v := (.string Q.da)) rfl (by kernel_rfl) (by kernel_rfl) (by kernel_rfl) (fun _ _ _ h => h) (Or.inl ⟨by rfl, fun w' h' => ?_⟩) hS ?_
  · have c0 := g8.out
    have c1 := HD.out
    clear h'
    go_simp
  simp only [Act.put]
  refine wpAnyH_take (i := 9) (oi := ⟨some 44, Op.build 49 #[(0, (Operand.tmp 37)), (1, (Operand.tmp 40)), (2, (Operand.tmp 41)), (3, (Operand.tmp 43))], _, _, _, none⟩) (v := (.agg #[.int .i64 Q.kd, .int .i64 Q.co, .int .u32 Q.re, .string Q.da])) rfl (by kernel_rfl) (by kernel_rfl) (by kernel_rfl) (fun _ _ _ h => h) (Or.inl ⟨by rfl, fun w' h' => ?_⟩) hS ?_
  · clear h'
    go_simp
  simp only [Act.put]
  obtain ⟨hst, S9⟩ := hS.put Q
  have S10 : IcRoom (V.setRow w.heap.size (icC Q)) w.heap.size := S9.room
  have BV1 := Lib.hid (below_setRow BV0.out (Nat.le_refl _) (icC Q))
  refine wpAnyH_ready (rs := [10]) (by kernel_rfl) (by simp) ?_
  refine rdy_store9 (n := 10) rfl rfl 49 (Operand.tmp 2) (Operand.tmp 44) rfl rfl (.agg #[.int .i64 Q.kd, .int .i64 Q.co, .int .u32 Q.re, .string Q.da]) w.heap.size (by kernel_rfl) (by kernel_rfl) hst S10 ?_
  refine wpAnyH_take (i := 11) (oi := ⟨some 3, Op.assign (Operand.const (Value.int IntKind.i64 0)), _, _, _, none⟩) (v := (.int .i64 0)) rfl (by kernel_rfl) (by kernel_rfl) (by kernel_rfl) (fun _ _ _ h => h) (Or.inl ⟨by rfl, fun w' h' => ?_⟩) S10 ?_
  · clear h'
    go_simp
  simp only [Act.put]
  refine wpAnyH_done (by kernel_rfl) (NoPanic.normal ?_) _
  simp only [List.setIfInBounds_toArray, List.set_cons_zero, List.set_cons_succ]
  go_wp2_with fail
  exact bodyPost_ret (v := .tuple #[.agg (icC Q), .int .i64 0]) (results_row _ 2 3 49 (by kernel_rfl) _ w.heap.size _ _ _ _ rfl rfl S9 Try.underlying49 rfl (by kernel_rfl)) rfl ⟨rfl, BV1.out⟩
theorem rRead9_any (w : World) (s : ByteArray) (hm : s.size ≤ 140737488355328) :
    Calls Try.prog 25 #[.string s] w fun e w' => e = .returned (.tuple #[.agg (icC (irP s)), .int .i64 (irE s)]) ∧ Below w.heap.size w w' := by
  by_cases h1 : s.size < 8
  · have e1 : irE s = 7 := by rw [irE, if_pos h1]
    rw [irP, e1, if_neg (by decide)]
    exact rRead9_short w s h1
  by_cases h2 : 566 < s.size
  · have e1 : irE s = 3 := by rw [irE, if_neg h1, if_pos h2]
    rw [irP, e1, if_neg (by decide)]
    exact rRead9_long w s h2 hm
  by_cases h3 : sumT s.data.toList = 0
  · have e1 : irE s = 0 := by rw [irE, if_neg h1, if_neg h2, if_pos h3]
    rw [irP, e1, if_pos rfl]
    exact rRead9_yes w s (by omega) (by omega) h3 _ rfl
  · have e1 : irE s = 9 := by rw [irE, if_neg h1, if_neg h2, if_neg h3]
    rw [irP, e1, if_neg (by decide)]
    exact rRead9_sum w s (by omega) (by omega) _ rfl h3

set_option maxRecDepth 100000 in
set_option maxHeartbeats 2000000 in
theorem rUnreach_of (w : World) (c : Int) (s : ByteArray) (hm : s.size ≤ 140737488355328) (C : Int) (hC : C = c % 256) (q : Int) (hq : Int.tmod c 256 = q) (Q : Ic) (hQ : Q = ⟨3, C, 0, s.extract 0 (quN s)⟩) :
    Calls Try.prog 26 #[.int .i64 c, .string s] w fun e w' => e = .returned (.agg (icC Q)) ∧ Below w.heap.size w w' := by
  have HQ : Hid (icC Q = #[.int .i64 3, .int .i64 C, .int .u32 0, .string (s.extract 0 (quN s))]) := Lib.hid (by rw [hQ]; rfl)
  have hc : (q < 0 ∧ q + 256 = C) ∨ (0 ≤ q ∧ q = C) := by
    have := Int.emod_emod_of_dvd
    have h1 : q = c.tmod 256 := hq.symm
    rcases Int.le_total 0 c with h | h
    · rw [Int.tmod_eq_emod_of_nonneg h] at h1
      omega
    · obtain ⟨d, rfl⟩ : ∃ d, c = -d := ⟨-c, by omega⟩
      rw [Int.neg_tmod, Int.tmod_eq_emod_of_nonneg (by omega)] at h1
      omega
  have wq : IntKind.i64.wrap (q + 256) = q + 256 := IntWalk.i64_in _ (by omega)
  have HW := Lib.hid wq
  clear hQ hC wq
  by_cases h : s.size = 0
  · have hs : s = ⟨#[]⟩ := ByteArray.ext (Array.eq_empty_of_size_eq_zero h)
    subst hs
    have e0 : (⟨#[]⟩ : ByteArray).extract 0 (quN ⟨#[]⟩) = ByteArray.empty := by decide +kernel
    rw [e0] at HQ
    rcases hc with ⟨h1, h2⟩ | ⟨h1, h2⟩
    all_goals
      have h3 := HW.out
      subst h2
      go_enter Try.func26, Try.ntmps26
      go_upto_region 1 with fail
      have RM : Hid (IcRoom (w.alloc (.cells #[.int .i64 0, .int .i64 0, .int .u32 0, .string ⟨#[]⟩] 49)) w.heap.size) := Lib.hid (icroom_new _ _ _ rfl rfl)
      have BL : Hid (Below w.heap.size w (w.alloc (.cells #[.int .i64 0, .int .i64 0, .int .u32 0, .string ⟨#[]⟩] 49))) := Lib.hid ((Below.refl _ _).alloc (Nat.le_refl _) _)
      generalize w.alloc _ = W1 at RM BL ⊢
      obtain ⟨hst, S6⟩ := RM.out.put Q
      have S6 := Lib.hid S6
      have B6 := Lib.hid (below_setRow BL.out (Nat.le_refl _) (icC Q))
      rw [HQ.out] at hst
      go_wp2_with (refine wpList_storeW 49 (.tmp 4) (.tmp 32) rfl rfl _ w.heap.size rfl rfl hst ?_)
      rw [← HQ.out]
      exact bodyPost_ret (v := .agg (icC Q)) (results_row1 _ 4 49 (by kernel_rfl) _ w.heap.size _ _ _ rfl S6.out Try.underlying49 rfl (by kernel_rfl)) rfl ⟨rfl, B6.out⟩
  · have h0 : 0 < s.size := by omega
    obtain ⟨X, hX⟩ : ∃ X, X = b9 s.data.toList 0 := ⟨_, rfl⟩
    have hl := b9_lt s.data.toList 0
    rw [← hX] at hl
    have HX : (s[0]'h0).toNat = X := by rw [hX]; exact b9_at s 0 h0
    obtain ⟨Y, hY⟩ : ∃ Y, Y = quN s := ⟨_, rfl⟩
    have hY2 : Y = min (4 * (X % 16) + 8) s.size := by rw [hY, quN, if_neg h, ← hX]
    rw [← hY] at HQ
    obtain ⟨Z, hZ⟩ : ∃ Z, Z = X % 16 := ⟨_, rfl⟩
    obtain ⟨Y0, hY0⟩ : ∃ Y, Y = 4 * Z + 8 := ⟨_, rfl⟩
    rw [← hZ, ← hY0] at hY2
    have t0 : IntKind.i64.wrap (X : Int) = (X : Int) := IntWalk.i64_in _ (by omega)
    have t1 : Int.tmod (X : Int) 16 = (Z : Int) := by rw [Int.tmod_eq_emod_of_nonneg (by omega)]; omega
    have t2 : IntKind.i64.wrap (4 * (Z : Int)) = 4 * (Z : Int) := IntWalk.i64_in _ (by omega)
    have t3 : IntKind.i64.wrap (4 * (Z : Int) + 8) = (Y0 : Int) := by rw [IntWalk.i64_in _ (by omega)]; omega
    clear hX hl hY h hZ hY0
    by_cases hcut : Y0 ≤ s.size
    · have e1 : Y = Y0 := by omega
      clear hY2
      subst e1
      rcases hc with ⟨h1, h2⟩ | ⟨h1, h2⟩
      all_goals
        have h3 := HW.out
        subst h2
        go_enter Try.func26, Try.ntmps26
        go_upto_region 1 with fail
        have RM : Hid (IcRoom (w.alloc (.cells #[.int .i64 0, .int .i64 0, .int .u32 0, .string ⟨#[]⟩] 49)) w.heap.size) := Lib.hid (icroom_new _ _ _ rfl rfl)
        have BL : Hid (Below w.heap.size w (w.alloc (.cells #[.int .i64 0, .int .i64 0, .int .u32 0, .string ⟨#[]⟩] 49))) := Lib.hid ((Below.refl _ _).alloc (Nat.le_refl _) _)
        generalize w.alloc _ = W1 at RM BL ⊢
        go_upto_region 9 with fail
        clear HX h0 t0 t1 t2 t3
        obtain ⟨hst, S6⟩ := RM.out.put Q
        have S6 := Lib.hid S6
        have B6 := Lib.hid (below_setRow BL.out (Nat.le_refl _) (icC Q))
        rw [HQ.out] at hst
        go_wp2_with (refine wpList_storeW 49 (.tmp 4) (.tmp 32) rfl rfl _ w.heap.size rfl rfl hst ?_)
        rw [← HQ.out]
        exact bodyPost_ret (v := .agg (icC Q)) (results_row1 _ 4 49 (by kernel_rfl) _ w.heap.size _ _ _ rfl S6.out Try.underlying49 rfl (by kernel_rfl)) rfl ⟨rfl, B6.out⟩
    · have e1 : Y = s.size := by omega
      have e2 : s.extract 0 Y = s := by rw [e1]; simp
      rw [e2] at HQ
      clear hY2 e2
      subst e1
      rcases hc with ⟨h1, h2⟩ | ⟨h1, h2⟩
      all_goals
        have h3 := HW.out
        subst h2
        go_enter Try.func26, Try.ntmps26
        go_upto_region 1 with fail
        have RM : Hid (IcRoom (w.alloc (.cells #[.int .i64 0, .int .i64 0, .int .u32 0, .string ⟨#[]⟩] 49)) w.heap.size) := Lib.hid (icroom_new _ _ _ rfl rfl)
        have BL : Hid (Below w.heap.size w (w.alloc (.cells #[.int .i64 0, .int .i64 0, .int .u32 0, .string ⟨#[]⟩] 49))) := Lib.hid ((Below.refl _ _).alloc (Nat.le_refl _) _)
        generalize w.alloc _ = W1 at RM BL ⊢
        obtain ⟨hst, S6⟩ := RM.out.put Q
        have S6 := Lib.hid S6
        have B6 := Lib.hid (below_setRow BL.out (Nat.le_refl _) (icC Q))
        rw [HQ.out] at hst
        go_wp2_with (refine wpList_storeW 49 (.tmp 4) (.tmp 32) rfl rfl _ w.heap.size rfl rfl hst ?_)
        rw [← HQ.out]
        exact bodyPost_ret (v := .agg (icC Q)) (results_row1 _ 4 49 (by kernel_rfl) _ w.heap.size _ _ _ rfl S6.out Try.underlying49 rfl (by kernel_rfl)) rfl ⟨rfl, B6.out⟩
theorem rUnreach_any (w : World) (c : Int) (s : ByteArray) (hm : s.size ≤ 140737488355328) :
    Calls Try.prog 26 #[.int .i64 c, .string s] w fun e w' => e = .returned (.agg (icC (quC c s))) ∧ Below w.heap.size w w' :=
  rUnreach_of w c s hm _ rfl _ rfl _ rfl

end Go.Proofs.Ytapfkhhabamndaa
