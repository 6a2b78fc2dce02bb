/-
  Layer 8: the statements' example, that the program is awake, packets that come in. No conditions.
-/
import Derived.Test.YtbjoibgkhooljaaIpF
import Derived.Test.YtbjoibgkhooljaaEthH
import Derived.Test.YtbjoibgkhooljaaArpH
namespace Go.Proofs.Ytbjoibgkhooljaa
open Go.ChangeShapes Go.WideShapes Go.ChangeAt Go.RowKit Go.Sort
set_option linter.unusedVariables false

theorem pd_storeZ (w : World) (f : Pd) : (storeVar 35 ⟨w.heap.size, 0, none⟩ (.agg (pdC f))).run Try.prog (w.alloc (.cells #[.int .i64 0, .int .u8 0, .int .u8 0, .int .u8 0, .int .u8 0, .int .u8 0, .int .u8 0, .int .u8 0, .int .u8 0, .int .i64 0, .int .i64 0, .int .i64 0, .bool false, .string ⟨#[]⟩] 35)) = .ok () (w.alloc (.cells (pdC f) 35)) := pd_store w f
/-- What a call answers that is a struct in a block of its own. -/
theorem results_one {P : Program} (fn : Func) (a : Nat) (t : TypeId) (hf : fn.results = #[.cell a t]) (tm : Array Value) (n : Nat) (cs : Array Value) (d : TypeDesc) (w : World)
    (ha : tm[a]?.getD undef = .pointer (some ⟨n, 0, none⟩)) (hb : w.heap[n]? = some (.cells cs t (0, 0))) (hd : P.underlying t = some d) (hr : (match d with | .struct _ | .array _ _ => true | _ => false) = true) (hi : (P.info? t).map (·.size) = some cs.size) :
    (results fn tm).run P w = .ok (.agg cs) w := by
  have hl := run_loadVar_row (P := P) w n t t cs (0, 0) d hb hd hr hi
  unfold results
  rw [hf]
  simp [ha, asAddr, hl]
/-- The chapter's packet. -/
def exD : Pd := ⟨1, ⟨10, 0, 0, 1⟩, ⟨10, 0, 0, 2⟩, 6, 64, 0, false, ⟨#[104, 105]⟩⟩
theorem exD_ok : exD.ok := ⟨by show (Lit.int .i64 1).wf = true; decide, by show (Lit.int .i64 6).wf = true; decide, by show (Lit.int .i64 64).wf = true; decide, by show (Lit.int .i64 0).wf = true; decide, by show 2 ≤ maxLen; unfold maxLen; omega⟩
theorem exD_cells : (#[.int .i64 1, .int .u8 10, .int .u8 0, .int .u8 0, .int .u8 1, .int .u8 10, .int .u8 0, .int .u8 0, .int .u8 2, .int .i64 6, .int .i64 64, .int .i64 0, .bool false, .string ⟨#[104, 105]⟩] : Array Value) = pdC exD := by kernel_rfl
set_option maxRecDepth 100000 in
set_option maxHeartbeats 400000 in
theorem exampleD (w : World) :
    Calls Try.prog 30 #[] w fun e w' => e = .returned (.agg (pdC exD)) ∧ Below w.heap.size w w' := by
  go_enter Try.func30, Try.ntmps30
  have hst := pd_storeZ w exD
  go_wp2_with (refine wpList_storeW 35 _ _ rfl rfl (.agg (pdC exD)) w.heap.size (by kernel_rfl) (by kernel_rfl) hst ?_)
  exact bodyPost_ret (v := .agg (pdC exD)) (results_one _ 0 35 (by kernel_rfl) _ w.heap.size _ _ _ rfl (heap_alloc_new w _) Try.underlying35 rfl (by kernel_rfl)) rfl ⟨rfl, (Below.refl _ _).alloc (Nat.le_refl _) _⟩
theorem ex_b : pdS exD = ⟨#[69, 0, 0, 22, 0, 1, 0, 0, 64, 6, 102, 223, 10, 0, 0, 1, 10, 0, 0, 2, 104, 105]⟩ := by decide +kernel
theorem ex_e : pdE exD = 0 := by decide +kernel
theorem ex_r : rqP ⟨#[69, 0, 0, 22, 0, 1, 0, 0, 64, 6, 102, 223, 10, 0, 0, 1, 10, 0, 0, 2, 104, 105]⟩ = exD := by decide +kernel
theorem ex_re : rqE ⟨#[69, 0, 0, 22, 0, 1, 0, 0, 64, 6, 102, 223, 10, 0, 0, 1, 10, 0, 0, 2, 104, 105]⟩ = 0 := by decide +kernel
theorem exBytesD (w : World) :
    Calls Try.prog 29 #[.agg (pdC exD)] w fun e w' => e = .returned (.tuple #[.string ⟨#[69, 0, 0, 22, 0, 1, 0, 0, 64, 6, 102, 223, 10, 0, 0, 1, 10, 0, 0, 2, 104, 105]⟩, .int .i64 0]) ∧ Below w.heap.size w w' := by
  have h := pdBytes_any w exD (by decide)
  rw [ex_b, ex_e] at h
  exact h
theorem exReadD (w : World) :
    Calls Try.prog 31 #[.string ⟨#[69, 0, 0, 22, 0, 1, 0, 0, 64, 6, 102, 223, 10, 0, 0, 1, 10, 0, 0, 2, 104, 105]⟩] w fun e w' => e = .returned (.tuple #[.agg (pdC exD), .int .i64 0]) ∧ Below w.heap.size w w' := by
  have h := pdRead_any w ⟨#[69, 0, 0, 22, 0, 1, 0, 0, 64, 6, 102, 223, 10, 0, 0, 1, 10, 0, 0, 2, 104, 105]⟩ (by decide)
  rw [ex_r, ex_re] at h
  exact h
theorem eqlExD (w : World) : (Op.equalIn 10000 35 (.agg (pdC exD)) (.agg (pdC exD))).run Try.prog w = .ok true w := by
  have h := eql_pd w exD exD exD_ok exD_ok
  rw [decide_eq_true rfl] at h
  exact h

set_option maxRecDepth 100000 in
set_option maxHeartbeats 2000000 in
theorem awakeD (w : World) :
    Calls Try.prog 10 #[] w fun e w' => e = .returned (.bool true) ∧ Below w.heap.size w w' := by
  go_enter Try.func10, Try.ntmps10
  go_wp2_with fail
  refine (exampleD _).mono ?_
  rintro e w1 ⟨rfl, b1⟩
  have B1 := Lib.hid b1
  clear b1
  go_wp2_with fail
  refine (exBytesD _).mono ?_
  rintro e w2 ⟨rfl, b2⟩
  have B2 := bstep B1 b2
  clear b2 B1
  go_wp2_with fail
  refine (exReadD _).mono ?_
  rintro e w3 ⟨rfl, b3⟩
  have B3 := bstep B2 b3
  clear b3 B2
  have hst := pd_storeZ w3 exD
  go_upto_region 3 with (refine wpList_storeW 35 _ _ rfl rfl _ w3.heap.size rfl rfl hst ?_)
  have PA : Hid (PdAt (w3.alloc (.cells (pdC exD) 35)) w3.heap.size exD) := Lib.hid (pd_new _ _ _ rfl)
  have B4 := bstep B3 ((Below.refl w3.heap.size w3).alloc (Nat.le_refl _) (.cells (pdC exD) 35))
  clear hst B3
  obtain ⟨n, hn⟩ : ∃ n, n = w3.heap.size := ⟨_, rfl⟩
  generalize w3.alloc _ = W4 at PA B4 ⊢
  rw [← hn] at PA ⊢
  clear hn
  refine wp_region_noPanic ?_
  refine region_heldE (S := fun w' => PdAt w' n exD) (by kernel_rfl) (fun V d => (d.block _).trans PA.out) (fun V d hS => ?_)
  have BV := bstep B4 d.below
  clear d
  refine wpAnyH_take (i := 0) (oi := ⟨some 15, Op.move (Operand.tmp 2), _, _, _, none⟩) (v := (.int .i64 0)) rfl (by kernel_rfl) (by kernel_rfl) (by kernel_rfl) (fun _ _ _ h => h) (Or.inl ⟨by rfl, fun w' h' => ?_⟩) hS ?_
  · clear h'
    go_simp
  simp only [Act.put]
  refine wpAnyH_take (i := 1) (oi := ⟨some 16, Op.binOp BinOp.eql 26 (Operand.tmp 15) (Operand.const (Value.int IntKind.i64 0)) 26, _, _, _, none⟩) (v := (.bool true)) rfl (by kernel_rfl) (by kernel_rfl) (by kernel_rfl) (fun _ _ _ h => h) (Or.inl ⟨by rfl, fun w' h' => ?_⟩) hS ?_
  · clear h'
    go_simp
  simp only [Act.put]
  refine wpAnyH_take (i := 2) (oi := ⟨some 17, Op.move (Operand.tmp 16), _, _, _, none⟩) (v := (.bool true)) rfl (by kernel_rfl) (by kernel_rfl) (by kernel_rfl) (fun _ _ _ h => h) (Or.inl ⟨by rfl, fun w' h' => ?_⟩) hS ?_
  · clear h'
    go_simp
  simp only [Act.put]
  refine wpAnyH_take (i := 3) (oi := ⟨some 18, Op.move (Operand.tmp 4), _, _, _, some (2, true)⟩) (v := (.int .i64 0)) rfl (by kernel_rfl) (by kernel_rfl) (by kernel_rfl) (fun _ _ _ h => h) (Or.inl ⟨by kernel_rfl, fun w' h' => ?_⟩) hS ?_
  · clear h'
    go_simp
  simp only [Act.put]
  refine wpAnyH_take (i := 4) (oi := ⟨some 19, Op.binOp BinOp.eql 26 (Operand.tmp 18) (Operand.const (Value.int IntKind.i64 0)) 26, _, _, _, some (2, true)⟩) (v := (.bool true)) rfl (by kernel_rfl) (by kernel_rfl) (by kernel_rfl) (fun _ _ _ h => h) (Or.inl ⟨by kernel_rfl, fun w' h' => ?_⟩) hS ?_
  · clear h'
    go_simp
  simp only [Act.put]
  refine wpAnyH_take (i := 5) (oi := ⟨some 20, Op.pick (Operand.tmp 17) (Operand.tmp 19) (Operand.const (Value.bool false)), _, _, _, none⟩) (v := (.bool true)) rfl (by kernel_rfl) (by kernel_rfl) (by kernel_rfl) (fun _ _ _ h => h) (Or.inl ⟨by rfl, fun w' h' => ?_⟩) hS ?_
  · clear h'
    go_simp
  simp only [Act.put]
  refine wpAnyH_take (i := 6) (oi := ⟨some 21, Op.move (Operand.tmp 20), _, _, _, none⟩) (v := (.bool true)) rfl (by kernel_rfl) (by kernel_rfl) (by kernel_rfl) (fun _ _ _ h => h) (Or.inl ⟨by rfl, fun w' h' => ?_⟩) hS ?_
  · clear h'
    go_simp
  simp only [Act.put]
  refine wpAnyH_take (i := 7) (oi := ⟨some 22, Op.load 35 (Operand.tmp 3), _, _, _, some (6, true)⟩) (v := (.agg (pdC exD))) rfl (by kernel_rfl) (by kernel_rfl) (by kernel_rfl) (fun _ _ _ h => h) (yields_pd (by kernel_rfl) _ rfl n rfl exD (fun _ h => h)) hS ?_
  simp only [Act.put]
  refine wpAnyH_ready (rs := [8]) (by kernel_rfl) (by simp) ?_
  refine AllReadyH.cons rfl (fun K hK => ?_) AllReadyH.nil
  go_simp
  refine (exampleD V).mono ?_
  rintro e w5 ⟨rfl, b5⟩
  have S5 : PdAt w5 n exD := hS.grow b5
  have B6 := bstep BV b5
  clear b5 BV
  go_simp
  refine hK.out _ _ S5 (fun _ => ?_)
  clear hK K
  refine wpAnyH_take (i := 9) (oi := ⟨some 24, Op.binOp BinOp.eql 35 (Operand.tmp 22) (Operand.tmp 23) 35, _, _, _, some (6, true)⟩) (v := (.bool true)) rfl (by kernel_rfl) (by kernel_rfl) (by kernel_rfl) (fun _ _ _ h => h) (yields_eql (by kernel_rfl) 35 _ _ _ rfl _ _ rfl rfl guard_pd true (fun w => eqlExD w)) S5 ?_
  simp only [Act.put]
  refine wpAnyH_take (i := 10) (oi := ⟨some 25, Op.pick (Operand.tmp 21) (Operand.tmp 24) (Operand.const (Value.bool false)), _, _, _, none⟩) (v := (.bool true)) rfl (by kernel_rfl) (by kernel_rfl) (by kernel_rfl) (fun _ _ _ h => h) (Or.inl ⟨by rfl, fun w' h' => ?_⟩) S5 ?_
  · clear h'
    go_simp
  simp only [Act.put]
  refine wpAnyH_take (i := 11) (oi := ⟨some 26, Op.move (Operand.tmp 25), _, _, _, none⟩) (v := (.bool true)) rfl (by kernel_rfl) (by kernel_rfl) (by kernel_rfl) (fun _ _ _ h => h) (Or.inl ⟨by rfl, fun w' h' => ?_⟩) S5 ?_
  · clear h'
    go_simp
  simp only [Act.put]
  refine wpAnyH_take (i := 12) (oi := ⟨some 27, Op.move (Operand.tmp 1), _, _, _, some (11, true)⟩) (v := (.string ⟨#[69, 0, 0, 22, 0, 1, 0, 0, 64, 6, 102, 223, 10, 0, 0, 1, 10, 0, 0, 2, 104, 105]⟩)) rfl (by kernel_rfl) (by kernel_rfl) (by kernel_rfl) (fun _ _ _ h => h) (Or.inl ⟨by kernel_rfl, fun w' h' => ?_⟩) S5 ?_
  · clear h'
    go_simp
  simp only [Act.put]
  refine wpAnyH_take (i := 13) (oi := ⟨some 28, Op.binOp BinOp.eql 9 (Operand.tmp 27) (Operand.const (Value.string { data := #[69, 0, 0, 22, 0, 1, 0, 0, 64, 6, 102, 223, 10, 0, 0, 1, 10, 0, 0, 2, 104, 105] })) 9, _, _, _, some (11, true)⟩) (v := (.bool true)) rfl (by kernel_rfl) (by kernel_rfl) (by kernel_rfl) (fun _ _ _ h => h) (Or.inl ⟨by kernel_rfl, fun w' h' => ?_⟩) S5 ?_
  · clear h'
    go_simp
  simp only [Act.put]
  refine wpAnyH_take (i := 14) (oi := ⟨some 29, Op.pick (Operand.tmp 26) (Operand.tmp 28) (Operand.const (Value.bool false)), _, _, _, none⟩) (v := (.bool true)) rfl (by kernel_rfl) (by kernel_rfl) (by kernel_rfl) (fun _ _ _ h => h) (Or.inl ⟨by rfl, fun w' h' => ?_⟩) S5 ?_
  · clear h'
    go_simp
  simp only [Act.put]
  refine wpAnyH_take (i := 15) (oi := ⟨some 0, Op.assign (Operand.tmp 29), _, _, _, none⟩) (v := (.bool true)) rfl (by kernel_rfl) (by kernel_rfl) (by kernel_rfl) (fun _ _ _ h => h) (Or.inl ⟨by rfl, fun w' h' => ?_⟩) S5 ?_
  · clear h'
    go_simp
  simp only [Act.put]
  refine wpAnyH_done (by kernel_rfl) (NoPanic.normal ?_) _
  simp only [List.setIfInBounds_toArray, List.set_cons_zero, List.set_cons_succ]
  go_wp2
  go_ret
  exact ⟨rfl, B6.out⟩

end Go.Proofs.Ytbjoibgkhooljaa
