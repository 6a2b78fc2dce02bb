/-
  Layer 9: the statements' example, that the program is awake. No conditions.
-/
import Derived.Test.YtapfkhhabamndaaIcC
import Derived.Test.YtapfkhhabamndaaArpE
namespace Go.Proofs.Ytapfkhhabamndaa
open Go.ChangeShapes Go.WideShapes Go.ChangeAt Go.RowKit Go.Sort
set_option linter.unusedVariables false

/-- The chapter's message. -/
def exI : Ic := ⟨8, 0, 1, ⟨#[104, 105]⟩⟩
theorem exI_ok : exI.ok := ⟨by show (Lit.int .i64 8).wf = true; decide, by show (Lit.int .i64 0).wf = true; decide, by show (Lit.int .u32 1).wf = true; decide, by show 2 ≤ maxLen; unfold maxLen; omega⟩
set_option maxRecDepth 100000 in
set_option maxHeartbeats 400000 in
theorem exampleI (w : World) :
    Calls Try.prog 19 #[] w fun e w' => e = .returned (.agg (icC exI)) ∧ Below w.heap.size w w' := by
  go_enter Try.func19, Try.ntmps19
  have hst := ic_store w exI
  go_wp2_with (refine wpList_storeW 49 _ _ rfl rfl (.agg (icC exI)) w.heap.size (by kernel_rfl) (by kernel_rfl) hst ?_)
  exact bodyPost_ret (v := .agg (icC exI)) (results_row1 _ 0 49 (by kernel_rfl) _ w.heap.size _ _ _ rfl (heap_alloc_new w _) Try.underlying49 rfl (by kernel_rfl)) rfl ⟨rfl, (Below.refl _ _).alloc (Nat.le_refl _) _⟩
theorem exi_b : icS exI = ⟨#[8, 0, 143, 149, 0, 0, 0, 1, 104, 105]⟩ := by decide +kernel
theorem exi_e : icE exI = 0 := by decide +kernel
theorem exi_r : irP ⟨#[8, 0, 143, 149, 0, 0, 0, 1, 104, 105]⟩ = exI := by decide +kernel
theorem exi_re : irE ⟨#[8, 0, 143, 149, 0, 0, 0, 1, 104, 105]⟩ = 0 := by decide +kernel
theorem exBytesI (w : World) :
    Calls Try.prog 18 #[.agg (icC exI)] w fun e w' => e = .returned (.tuple #[.string ⟨#[8, 0, 143, 149, 0, 0, 0, 1, 104, 105]⟩, .int .i64 0]) ∧ Below w.heap.size w w' := by
  have h := icBytes_any w exI exI_ok (by decide)
  rw [exi_b, exi_e] at h
  exact h
theorem exReadI (w : World) :
    Calls Try.prog 20 #[.string ⟨#[8, 0, 143, 149, 0, 0, 0, 1, 104, 105]⟩] w fun e w' => e = .returned (.tuple #[.agg (icC exI), .int .i64 0]) ∧ Below w.heap.size w w' := by
  have h := icRead_any w ⟨#[8, 0, 143, 149, 0, 0, 0, 1, 104, 105]⟩ (by decide)
  rw [exi_r, exi_re] at h
  exact h
theorem eqlExI (w : World) : (Op.equalIn 10000 49 (.agg (icC exI)) (.agg (icC exI))).run Try.prog w = .ok true w := by
  have h := eql_ic w exI exI exI_ok exI_ok
  rw [decide_eq_true rfl] at h
  exact h

set_option maxRecDepth 100000 in
set_option maxHeartbeats 2000000 in
theorem awakeI (w : World) :
    Calls Try.prog 23 #[] w fun e w' => e = .returned (.bool true) ∧ Below w.heap.size w w' := by
  go_enter Try.func23, Try.ntmps23
  go_wp2_with fail
  refine (exampleI _).mono ?_
  rintro e w1 ⟨rfl, b1⟩
  have B1 := Lib.hid b1
  clear b1
  go_wp2_with fail
  refine (exBytesI _).mono ?_
  rintro e w2 ⟨rfl, b2⟩
  have B2 := bstep B1 b2
  clear b2 B1
  go_wp2_with fail
  refine (exReadI _).mono ?_
  rintro e w3 ⟨rfl, b3⟩
  have B3 := bstep B2 b3
  clear b3 B2
  have hst := ic_store w3 exI
  go_upto_region 3 with (refine wpList_storeW 49 _ _ rfl rfl _ w3.heap.size rfl rfl hst ?_)
  have PA : Hid (IcAt (w3.alloc (.cells (icC exI) 49)) w3.heap.size exI) := Lib.hid (ic_new _ _ _ rfl)
  have B4 := bstep B3 ((Below.refl w3.heap.size w3).alloc (Nat.le_refl _) (.cells (icC exI) 49))
  clear hst B3
  obtain ⟨n, hn⟩ : ∃ n, n = w3.heap.size := ⟨_, rfl⟩
  generalize w3.alloc _ = W4 at PA B4 ⊢
  rw [← hn] at PA ⊢
  clear hn
  refine wp_region_noPanic ?_
  refine region_heldE (S := fun w' => IcAt w' n exI) (by kernel_rfl) (fun V d => (d.block _).trans PA.out) (fun V d hS => ?_)
  have BV := bstep B4 d.below
  clear d
  refine wpAnyH_take (i := 0) (oi := ⟨some 15, Op.move (Operand.tmp 1), _, _, _, none⟩) (v := (.string ⟨#[8, 0, 143, 149, 0, 0, 0, 1, 104, 105]⟩)) rfl (by kernel_rfl) (by kernel_rfl) (by kernel_rfl) (fun _ _ _ h => h) (Or.inl ⟨by rfl, fun w' h' => ?_⟩) hS ?_
  · clear h'
    go_simp
  simp only [Act.put]
  refine wpAnyH_take (i := 1) (oi := ⟨some 16, Op.binOp BinOp.eql 9 (Operand.tmp 15) (Operand.const (Value.string { data := #[8, 0, 143, 149, 0, 0, 0, 1, 104, 105] })) 9, _, _, _, none⟩) (v := (.bool true)) rfl (by kernel_rfl) (by kernel_rfl) (by kernel_rfl) (fun _ _ _ h => h) (Or.inl ⟨by rfl, fun w' h' => ?_⟩) hS ?_
  · clear h'
    go_simp
  simp only [Act.put]
  refine wpAnyH_take (i := 2) (oi := ⟨some 17, Op.move (Operand.tmp 16), _, _, _, none⟩) (v := (.bool true)) rfl (by kernel_rfl) (by kernel_rfl) (by kernel_rfl) (fun _ _ _ h => h) (Or.inl ⟨by rfl, fun w' h' => ?_⟩) hS ?_
  · clear h'
    go_simp
  simp only [Act.put]
  refine wpAnyH_take (i := 3) (oi := ⟨some 18, Op.move (Operand.tmp 2), _, _, _, some (2, true)⟩) (v := (.int .i64 0)) rfl (by kernel_rfl) (by kernel_rfl) (by kernel_rfl) (fun _ _ _ h => h) (Or.inl ⟨by kernel_rfl, fun w' h' => ?_⟩) hS ?_
  · clear h'
    go_simp
  simp only [Act.put]
  refine wpAnyH_take (i := 4) (oi := ⟨some 19, Op.binOp BinOp.eql 26 (Operand.tmp 18) (Operand.const (Value.int IntKind.i64 0)) 26, _, _, _, some (2, true)⟩) (v := (.bool true)) rfl (by kernel_rfl) (by kernel_rfl) (by kernel_rfl) (fun _ _ _ h => h) (Or.inl ⟨by kernel_rfl, fun w' h' => ?_⟩) hS ?_
  · clear h'
    go_simp
  simp only [Act.put]
  refine wpAnyH_take (i := 5) (oi := ⟨some 20, Op.pick (Operand.tmp 17) (Operand.tmp 19) (Operand.const (Value.bool false)), _, _, _, none⟩) (v := (.bool true)) rfl (by kernel_rfl) (by kernel_rfl) (by kernel_rfl) (fun _ _ _ h => h) (Or.inl ⟨by rfl, fun w' h' => ?_⟩) hS ?_
  · clear h'
    go_simp
  simp only [Act.put]
  refine wpAnyH_take (i := 6) (oi := ⟨some 21, Op.move (Operand.tmp 20), _, _, _, none⟩) (v := (.bool true)) rfl (by kernel_rfl) (by kernel_rfl) (by kernel_rfl) (fun _ _ _ h => h) (Or.inl ⟨by rfl, fun w' h' => ?_⟩) hS ?_
  · clear h'
    go_simp
  simp only [Act.put]
  refine wpAnyH_take (i := 7) (oi := ⟨some 22, Op.move (Operand.tmp 4), _, _, _, some (6, true)⟩) (v := (.int .i64 0)) rfl (by kernel_rfl) (by kernel_rfl) (by kernel_rfl) (fun _ _ _ h => h) (Or.inl ⟨by kernel_rfl, fun w' h' => ?_⟩) hS ?_
  · clear h'
    go_simp
  simp only [Act.put]
  refine wpAnyH_take (i := 8) (oi := ⟨some 23, Op.binOp BinOp.eql 26 (Operand.tmp 22) (Operand.const (Value.int IntKind.i64 0)) 26, _, _, _, some (6, true)⟩) (v := (.bool true)) rfl (by kernel_rfl) (by kernel_rfl) (by kernel_rfl) (fun _ _ _ h => h) (Or.inl ⟨by kernel_rfl, fun w' h' => ?_⟩) hS ?_
  · clear h'
    go_simp
  simp only [Act.put]
  refine wpAnyH_take (i := 9) (oi := ⟨some 24, Op.pick (Operand.tmp 21) (Operand.tmp 23) (Operand.const (Value.bool false)), _, _, _, none⟩) (v := (.bool true)) rfl (by kernel_rfl) (by kernel_rfl) (by kernel_rfl) (fun _ _ _ h => h) (Or.inl ⟨by rfl, fun w' h' => ?_⟩) hS ?_
  · clear h'
    go_simp
  simp only [Act.put]
  refine wpAnyH_take (i := 10) (oi := ⟨some 25, Op.move (Operand.tmp 24), _, _, _, none⟩) (v := (.bool true)) rfl (by kernel_rfl) (by kernel_rfl) (by kernel_rfl) (fun _ _ _ h => h) (Or.inl ⟨by rfl, fun w' h' => ?_⟩) hS ?_
  · clear h'
    go_simp
  simp only [Act.put]
  refine wpAnyH_take (i := 11) (oi := ⟨some 26, Op.load 49 (Operand.tmp 3), _, _, _, some (10, true)⟩) (v := (.agg (icC exI))) rfl (by kernel_rfl) (by kernel_rfl) (by kernel_rfl) (fun _ _ _ h => h) (yields_ic (by kernel_rfl) (Operand.tmp 3) (by kernel_rfl) n (by kernel_rfl) exI (fun _ h => h)) hS ?_
  simp only [Act.put]
  refine wpAnyH_ready (rs := [12]) (by kernel_rfl) (by simp) ?_
  refine AllReadyH.cons rfl (fun K hK => ?_) AllReadyH.nil
  go_simp
  refine (exampleI V).mono ?_
  rintro e w5 ⟨rfl, b5⟩
  have S5 : IcAt w5 n exI := hS.grow b5
  have B6 := bstep BV b5
  clear b5 BV
  go_simp
  refine hK.out _ _ S5 (fun _ => ?_)
  clear hK K
  refine wpAnyH_take (i := 13) (oi := ⟨some 28, Op.binOp BinOp.eql 49 (Operand.tmp 26) (Operand.tmp 27) 49, _, _, _, some (10, true)⟩) (v := (.bool true)) rfl (by kernel_rfl) (by kernel_rfl) (by kernel_rfl) (fun _ _ _ h => h) (yields_eql (by kernel_rfl) 49 49 (Operand.tmp 26) (Operand.tmp 27) (by kernel_rfl) (icC exI) (icC exI) (by kernel_rfl) (by kernel_rfl) guard_ic true (fun w => eqlExI w)) S5 ?_
  simp only [Act.put]
  refine wpAnyH_take (i := 14) (oi := ⟨some 29, Op.pick (Operand.tmp 25) (Operand.tmp 28) (Operand.const (Value.bool false)), _, _, _, none⟩) (v := (.bool true)) rfl (by kernel_rfl) (by kernel_rfl) (by kernel_rfl) (fun _ _ _ h => h) (Or.inl ⟨by rfl, fun w' h' => ?_⟩) S5 ?_
  · clear h'
    go_simp
  simp only [Act.put]
  refine wpAnyH_take (i := 15) (oi := ⟨some 0, Op.assign (Operand.tmp 29), _, _, _, none⟩) (v := (.bool true)) rfl (by kernel_rfl) (by kernel_rfl) (by kernel_rfl) (fun _ _ _ h => h) (Or.inl ⟨by rfl, fun w' h' => ?_⟩) S5 ?_
  · clear h'
    go_simp
  simp only [Act.put]
  refine wpAnyH_done (by kernel_rfl) (NoPanic.normal ?_) _
  simp only [List.setIfInBounds_toArray, List.set_cons_zero, List.set_cons_succ]
  go_wp2
  go_ret
  exact ⟨rfl, B6.out⟩

end Go.Proofs.Ytapfkhhabamndaa
