/-
  Layer 10: the statements' example, their addresses, that the program is awake. No conditions.
-/
import Derived.Test.YtbjoibgkhooljaaSgE
import Derived.Test.YtbjoibgkhooljaaSgC
import Derived.Test.YtbjoibgkhooljaaArpE
namespace Go.Proofs.Ytbjoibgkhooljaa
open Go.ChangeShapes Go.WideShapes Go.ChangeAt Go.RowKit Go.Sort
set_option linter.unusedVariables false

/-- The chapter's segment and addresses. -/
def exS : Sg := ⟨1, 2, 3, 4, 16, 5, 0, ⟨#[104, 105]⟩⟩
def ip1 : Ip4 := ⟨10, 0, 0, 1⟩
def ip2 : Ip4 := ⟨10, 0, 0, 2⟩
theorem exS_ok : exS.ok := by
  refine ⟨?_, ?_, ?_, ?_, ?_, ?_, ?_, ?_⟩ <;> first | (show (Lit.int _ 1).wf = true; decide) | (show (Lit.int _ 2).wf = true; decide) | (show (Lit.int _ 3).wf = true; decide) | (show (Lit.int _ 4).wf = true; decide) | (show (Lit.int _ 16).wf = true; decide) | (show (Lit.int _ 5).wf = true; decide) | (show (Lit.int _ 0).wf = true; decide) | (show 2 ≤ maxLen; unfold maxLen; omega)
theorem ip_store (w : World) (i : Ip4) : (storeVar 33 ⟨w.heap.size, 0, none⟩ (.agg (ipC i))).run Try.prog (w.alloc (.cells #[.int .u8 0, .int .u8 0, .int .u8 0, .int .u8 0] 33)) = .ok () (w.alloc (.cells (ipC i) 33)) :=
  run_storeVar_new (P := Try.prog) w 33 #[.int .u8 0, .int .u8 0, .int .u8 0, .int .u8 0] (ipC i) (by kernel_rfl) rfl (by simp [ipC, Value.oneCell'])
set_option maxRecDepth 100000 in
theorem oneS (w : World) :
    Calls Try.prog 20 #[] w fun e w' => e = .returned (.agg (ipC ip1)) ∧ Below w.heap.size w w' := by
  go_enter Try.func20, Try.ntmps20
  have hst := ip_store w ip1
  go_wp2_with (refine wpList_storeW 33 _ _ rfl rfl (.agg (ipC ip1)) w.heap.size (by kernel_rfl) (by kernel_rfl) hst ?_)
  exact bodyPost_ret (v := .agg (ipC ip1)) (results_row1 _ 0 33 (by kernel_rfl) _ w.heap.size _ _ _ rfl (heap_alloc_new w _) Try.underlying33 rfl (by kernel_rfl)) rfl ⟨rfl, (Below.refl _ _).alloc (Nat.le_refl _) _⟩
set_option maxRecDepth 100000 in
theorem twoS (w : World) :
    Calls Try.prog 21 #[] w fun e w' => e = .returned (.agg (ipC ip2)) ∧ Below w.heap.size w w' := by
  go_enter Try.func21, Try.ntmps21
  have hst := ip_store w ip2
  go_wp2_with (refine wpList_storeW 33 _ _ rfl rfl (.agg (ipC ip2)) w.heap.size (by kernel_rfl) (by kernel_rfl) hst ?_)
  exact bodyPost_ret (v := .agg (ipC ip2)) (results_row1 _ 0 33 (by kernel_rfl) _ w.heap.size _ _ _ rfl (heap_alloc_new w _) Try.underlying33 rfl (by kernel_rfl)) rfl ⟨rfl, (Below.refl _ _).alloc (Nat.le_refl _) _⟩
set_option maxRecDepth 100000 in
set_option maxHeartbeats 400000 in
theorem exampleS (w : World) :
    Calls Try.prog 61 #[] w fun e w' => e = .returned (.agg (sgC exS)) ∧ Below w.heap.size w w' := by
  go_enter Try.func61, Try.ntmps61
  have hst := sg_store w exS
  go_wp2_with (refine wpList_storeW 47 _ _ rfl rfl (.agg (sgC exS)) w.heap.size (by kernel_rfl) (by kernel_rfl) hst ?_)
  exact bodyPost_ret (v := .agg (sgC exS)) (results_row1 _ 0 47 (by kernel_rfl) _ w.heap.size _ _ _ rfl (heap_alloc_new w _) Try.underlying47 rfl (by kernel_rfl)) rfl ⟨rfl, (Below.refl _ _).alloc (Nat.le_refl _) _⟩
theorem exs_b : sgS ip1 ip2 exS = ⟨#[0, 1, 0, 2, 0, 0, 0, 3, 0, 0, 0, 4, 80, 16, 0, 5, 51, 88, 0, 0, 104, 105]⟩ := by decide +kernel
theorem exs_e : sgE exS = 0 := by decide +kernel
theorem exs_r : srP ip1 ip2 ⟨#[0, 1, 0, 2, 0, 0, 0, 3, 0, 0, 0, 4, 80, 16, 0, 5, 51, 88, 0, 0, 104, 105]⟩ = exS := by decide +kernel
theorem exs_re : srE ip1 ip2 ⟨#[0, 1, 0, 2, 0, 0, 0, 3, 0, 0, 0, 4, 80, 16, 0, 5, 51, 88, 0, 0, 104, 105]⟩ = 0 := by decide +kernel
theorem exBytesS (w : World) :
    Calls Try.prog 22 #[.agg (sgC exS), .agg (ipC ip1), .agg (ipC ip2)] w fun e w' => e = .returned (.tuple #[.string ⟨#[0, 1, 0, 2, 0, 0, 0, 3, 0, 0, 0, 4, 80, 16, 0, 5, 51, 88, 0, 0, 104, 105]⟩, .int .i64 0]) ∧ Below w.heap.size w w' := by
  have h := sgBytes_any w exS ip1 ip2 exS_ok (by decide)
  rw [exs_b, exs_e] at h
  exact h
theorem exReadS (w : World) :
    Calls Try.prog 18 #[.string ⟨#[0, 1, 0, 2, 0, 0, 0, 3, 0, 0, 0, 4, 80, 16, 0, 5, 51, 88, 0, 0, 104, 105]⟩, .agg (ipC ip1), .agg (ipC ip2)] w fun e w' => e = .returned (.tuple #[.agg (sgC exS), .int .i64 0]) ∧ Below w.heap.size w w' := by
  have h := sgRead_any w ⟨#[0, 1, 0, 2, 0, 0, 0, 3, 0, 0, 0, 4, 80, 16, 0, 5, 51, 88, 0, 0, 104, 105]⟩ ip1 ip2 (by decide)
  rw [exs_r, exs_re] at h
  exact h
theorem eqlExS (w : World) : (Op.equalIn 10000 47 (.agg (sgC exS)) (.agg (sgC exS))).run Try.prog w = .ok true w := by
  have h := eql_sg w exS exS exS_ok exS_ok
  rw [decide_eq_true rfl] at h
  exact h

set_option maxRecDepth 100000 in
set_option maxHeartbeats 2000000 in
theorem awakeS (w : World) :
    Calls Try.prog 23 #[] w fun e w' => e = .returned (.bool true) ∧ Below w.heap.size w w' := by
  go_enter Try.func23, Try.ntmps23
  go_wp2_with fail
  refine (exampleS _).mono ?_
  rintro e w1 ⟨rfl, b1⟩
  have B1 := Lib.hid b1
  clear b1
  go_wp2_with fail
  refine (oneS _).mono ?_
  rintro e w2 ⟨rfl, b2⟩
  have B2 := bstep B1 b2
  clear b2 B1
  go_wp2_with fail
  refine (twoS _).mono ?_
  rintro e w3 ⟨rfl, b3⟩
  have B3 := bstep B2 b3
  clear b3 B2
  go_wp2_with fail
  refine (exBytesS _).mono ?_
  rintro e w4 ⟨rfl, b4⟩
  have B4 := bstep B3 b4
  clear b4 B3
  go_wp2_with fail
  refine (oneS _).mono ?_
  rintro e w5 ⟨rfl, b5⟩
  have B5 := bstep B4 b5
  clear b5 B4
  go_wp2_with fail
  refine (twoS _).mono ?_
  rintro e w6 ⟨rfl, b6⟩
  have B6 := bstep B5 b6
  clear b6 B5
  go_wp2_with fail
  refine (exReadS _).mono ?_
  rintro e w7 ⟨rfl, b7⟩
  have B7 := bstep B6 b7
  clear b7 B6
  have hst := sg_store w7 exS
  go_upto_region 3 with (refine wpList_storeW 47 _ _ rfl rfl _ w7.heap.size rfl rfl hst ?_)
  have PA : Hid (SgAt (w7.alloc (.cells (sgC exS) 47)) w7.heap.size exS) := Lib.hid (sg_new _ _ _ rfl)
  have B8 := bstep B7 ((Below.refl w7.heap.size w7).alloc (Nat.le_refl _) (.cells (sgC exS) 47))
  clear hst B7
  obtain ⟨n, hn⟩ : ∃ n, n = w7.heap.size := ⟨_, rfl⟩
  generalize w7.alloc _ = W8 at PA B8 ⊢
  rw [← hn] at PA ⊢
  clear hn
  refine wp_region_noPanic ?_
  refine region_heldE (S := fun w' => SgAt w' n exS) (by kernel_rfl) (fun V d => (d.block _).trans PA.out) (fun V d hS => ?_)
  have BV := bstep B8 d.below
  clear d
  refine wpAnyH_take (i := 0) (oi := ⟨some 19, Op.move (Operand.tmp 2), _, _, _, none⟩) (v := (.int .i64 0)) rfl (by kernel_rfl) (by kernel_rfl) (by kernel_rfl) (fun _ _ _ h => h) (Or.inl ⟨by rfl, fun w' h' => ?_⟩) hS ?_
  · clear h'
    go_simp
  simp only [Act.put]
  refine wpAnyH_take (i := 1) (oi := ⟨some 20, Op.binOp BinOp.eql 26 (Operand.tmp 19) (Operand.const (Value.int IntKind.i64 0)) 26, _, _, _, none⟩) (v := (.bool true)) rfl (by kernel_rfl) (by kernel_rfl) (by kernel_rfl) (fun _ _ _ h => h) (Or.inl ⟨by rfl, fun w' h' => ?_⟩) hS ?_
  · clear h'
    go_simp
  simp only [Act.put]
  refine wpAnyH_take (i := 2) (oi := ⟨some 21, Op.move (Operand.tmp 20), _, _, _, none⟩) (v := (.bool true)) rfl (by kernel_rfl) (by kernel_rfl) (by kernel_rfl) (fun _ _ _ h => h) (Or.inl ⟨by rfl, fun w' h' => ?_⟩) hS ?_
  · clear h'
    go_simp
  simp only [Act.put]
  refine wpAnyH_take (i := 3) (oi := ⟨some 22, Op.move (Operand.tmp 4), _, _, _, some (2, true)⟩) (v := (.int .i64 0)) rfl (by kernel_rfl) (by kernel_rfl) (by kernel_rfl) (fun _ _ _ h => h) (Or.inl ⟨by kernel_rfl, fun w' h' => ?_⟩) hS ?_
  · clear h'
    go_simp
  simp only [Act.put]
  refine wpAnyH_take (i := 4) (oi := ⟨some 23, Op.binOp BinOp.eql 26 (Operand.tmp 22) (Operand.const (Value.int IntKind.i64 0)) 26, _, _, _, some (2, true)⟩) (v := (.bool true)) rfl (by kernel_rfl) (by kernel_rfl) (by kernel_rfl) (fun _ _ _ h => h) (Or.inl ⟨by kernel_rfl, fun w' h' => ?_⟩) hS ?_
  · clear h'
    go_simp
  simp only [Act.put]
  refine wpAnyH_take (i := 5) (oi := ⟨some 24, Op.pick (Operand.tmp 21) (Operand.tmp 23) (Operand.const (Value.bool false)), _, _, _, none⟩) (v := (.bool true)) rfl (by kernel_rfl) (by kernel_rfl) (by kernel_rfl) (fun _ _ _ h => h) (Or.inl ⟨by rfl, fun w' h' => ?_⟩) hS ?_
  · clear h'
    go_simp
  simp only [Act.put]
  refine wpAnyH_take (i := 6) (oi := ⟨some 25, Op.move (Operand.tmp 24), _, _, _, none⟩) (v := (.bool true)) rfl (by kernel_rfl) (by kernel_rfl) (by kernel_rfl) (fun _ _ _ h => h) (Or.inl ⟨by rfl, fun w' h' => ?_⟩) hS ?_
  · clear h'
    go_simp
  simp only [Act.put]
  refine wpAnyH_take (i := 7) (oi := ⟨some 26, Op.load 47 (Operand.tmp 3), _, _, _, some (6, true)⟩) (v := (.agg (sgC exS))) rfl (by kernel_rfl) (by kernel_rfl) (by kernel_rfl) (fun _ _ _ h => h) (yields_sg (by kernel_rfl) (Operand.tmp 3) (by kernel_rfl) n (by kernel_rfl) exS (fun _ h => h)) hS ?_
  simp only [Act.put]
  refine wpAnyH_ready (rs := [8]) (by kernel_rfl) (by simp) ?_
  refine AllReadyH.cons rfl (fun K hK => ?_) AllReadyH.nil
  go_simp
  refine (exampleS V).mono ?_
  rintro e w9 ⟨rfl, b9⟩
  have S9 : SgAt w9 n exS := hS.grow b9
  have B10 := bstep BV b9
  clear b9 BV
  go_simp
  refine hK.out _ _ S9 (fun _ => ?_)
  clear hK K
  refine wpAnyH_take (i := 9) (oi := ⟨some 28, Op.binOp BinOp.eql 47 (Operand.tmp 26) (Operand.tmp 27) 47, _, _, _, some (6, true)⟩) (v := (.bool true)) rfl (by kernel_rfl) (by kernel_rfl) (by kernel_rfl) (fun _ _ _ h => h) (yields_eql (by kernel_rfl) 47 47 (Operand.tmp 26) (Operand.tmp 27) (by kernel_rfl) (sgC exS) (sgC exS) (by kernel_rfl) (by kernel_rfl) guard_sg true (fun w => eqlExS w)) S9 ?_
  simp only [Act.put]
  refine wpAnyH_take (i := 10) (oi := ⟨some 29, Op.pick (Operand.tmp 25) (Operand.tmp 28) (Operand.const (Value.bool false)), _, _, _, none⟩) (v := (.bool true)) rfl (by kernel_rfl) (by kernel_rfl) (by kernel_rfl) (fun _ _ _ h => h) (Or.inl ⟨by rfl, fun w' h' => ?_⟩) S9 ?_
  · clear h'
    go_simp
  simp only [Act.put]
  refine wpAnyH_take (i := 11) (oi := ⟨some 30, Op.move (Operand.tmp 29), _, _, _, none⟩) (v := (.bool true)) rfl (by kernel_rfl) (by kernel_rfl) (by kernel_rfl) (fun _ _ _ h => h) (Or.inl ⟨by rfl, fun w' h' => ?_⟩) S9 ?_
  · clear h'
    go_simp
  simp only [Act.put]
  refine wpAnyH_take (i := 12) (oi := ⟨some 31, Op.move (Operand.tmp 1), _, _, _, some (11, true)⟩) (v := (.string ⟨#[0, 1, 0, 2, 0, 0, 0, 3, 0, 0, 0, 4, 80, 16, 0, 5, 51, 88, 0, 0, 104, 105]⟩)) rfl (by kernel_rfl) (by kernel_rfl) (by kernel_rfl) (fun _ _ _ h => h) (Or.inl ⟨by kernel_rfl, fun w' h' => ?_⟩) S9 ?_
  · clear h'
    go_simp
  simp only [Act.put]
  refine wpAnyH_take (i := 13) (oi := ⟨some 32, Op.binOp BinOp.eql 9 (Operand.tmp 31) (Operand.const (Value.string { data := #[0, 1, 0, 2, 0, 0, 0, 3, 0, 0, 0, 4, 80, 16, 0, 5, 51, 88, 0, 0, 104, 105] })) 9, _, _, _, some (11, true)⟩) (v := (.bool true)) rfl (by kernel_rfl) (by kernel_rfl) (by kernel_rfl) (fun _ _ _ h => h) (Or.inl ⟨by kernel_rfl, fun w' h' => ?_⟩) S9 ?_
  · clear h'
    go_simp
  simp only [Act.put]
  refine wpAnyH_take (i := 14) (oi := ⟨some 33, Op.pick (Operand.tmp 30) (Operand.tmp 32) (Operand.const (Value.bool false)), _, _, _, none⟩) (v := (.bool true)) rfl (by kernel_rfl) (by kernel_rfl) (by kernel_rfl) (fun _ _ _ h => h) (Or.inl ⟨by rfl, fun w' h' => ?_⟩) S9 ?_
  · clear h'
    go_simp
  simp only [Act.put]
  refine wpAnyH_take (i := 15) (oi := ⟨some 0, Op.assign (Operand.tmp 33), _, _, _, none⟩) (v := (.bool true)) rfl (by kernel_rfl) (by kernel_rfl) (by kernel_rfl) (fun _ _ _ h => h) (Or.inl ⟨by rfl, fun w' h' => ?_⟩) S9 ?_
  · clear h'
    go_simp
  simp only [Act.put]
  refine wpAnyH_done (by kernel_rfl) (NoPanic.normal ?_) _
  simp only [List.setIfInBounds_toArray, List.set_cons_zero, List.set_cons_succ]
  go_wp2
  go_ret
  exact ⟨rfl, B10.out⟩

end Go.Proofs.Ytbjoibgkhooljaa
