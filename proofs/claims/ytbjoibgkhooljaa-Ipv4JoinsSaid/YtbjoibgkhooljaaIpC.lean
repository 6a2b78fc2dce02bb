/-
  Layer 8: whether a packet may be: the program's answer and the document's. Conditions: a packet's numbers are numbers of their kind, its data is no longer than 2^47 bytes.
-/
import Derived.Test.YtbjoibgkhooljaaIpB
namespace Go.Proofs.Ytbjoibgkhooljaa
open Go.RowKit Go.Sort
set_option linter.unusedVariables false

theorem within_is (w : World) (x n : Int) (b : Bool) (h : decide (0 ≤ x ∧ x ≤ n) = b) :
    Calls Try.prog 71 #[.int .i64 x, .int .i64 n] w fun e w' => e = .returned (.bool b) ∧ w = w' := by
  have := within_any w x n
  rw [h] at this
  exact this
theorem tmod8 (x : Int) : (x.tmod 8 == 0) = decide (x % 8 = 0) := by
  have h := Int.emod_add_mul_ediv x 8
  have h2 := Int.tmod_add_mul_tdiv x 8
  by_cases h0 : 0 ≤ x
  · rw [Int.tmod_eq_emod_of_nonneg h0]; rfl
  · have : x.tmod 8 = -((-x).tmod 8) := by rw [Int.neg_tmod, Int.neg_neg]
    rw [this, Int.tmod_eq_emod_of_nonneg (by omega), Bool.eq_iff_iff]
    simp only [beq_iff_eq, decide_eq_true_eq]
    omega
theorem tmod8n (k : Nat) : (k : Int).tmod 8 = ((k % 8 : Nat) : Int) := by rw [Int.tmod_eq_emod_of_nonneg (by omega)]; omega
set_option maxRecDepth 100000 in
set_option maxHeartbeats 2000000 in
theorem may_0 (w : World) (f : Pd) (hz : f.da.size ≤ 140737488355328) (h1 : ¬ (0 ≤ f.id ∧ f.id ≤ 65535)) :
    Calls Try.prog 37 #[.agg (pdC f)] w fun e w' => e = .returned (.bool false) ∧ Below w.heap.size w w' := by
  have d1 : decide (0 ≤ f.id ∧ f.id ≤ 65535) = false := by simpa using h1
  go_enter Try.func37, Try.ntmps37
  go_upto_region 1 with fail
  have FA : Hid (PdAt (w.alloc (.cells (pdC f) 35)) w.heap.size f) := Lib.hid (pd_new w _ f rfl)
  have BL : Hid (Below w.heap.size w (w.alloc (.cells (pdC f) 35))) := Lib.hid ((Below.refl _ _).alloc (Nat.le_refl _) _)
  generalize w.alloc _ = W1 at FA BL ⊢
  obtain ⟨c0, -, -, c9, c10, c11, c12, c13⟩ := FA.out.all
  clear h1
  go_wp2_with fail
  refine (within_is _ f.id 65535 _ d1).mono ?_
  rintro e w' ⟨rfl, rfl⟩
  go_wp2_with fail
  go_ret
  exact ⟨rfl, BL.out⟩
set_option maxRecDepth 100000 in
set_option maxHeartbeats 2000000 in
theorem may_1 (w : World) (f : Pd) (hz : f.da.size ≤ 140737488355328) (h1 : 0 ≤ f.id ∧ f.id ≤ 65535) (h2 : ¬ (0 ≤ f.pr ∧ f.pr ≤ 255)) :
    Calls Try.prog 37 #[.agg (pdC f)] w fun e w' => e = .returned (.bool false) ∧ Below w.heap.size w w' := by
  have d1 : decide (0 ≤ f.id ∧ f.id ≤ 65535) = true := by simpa using h1
  have d2 : decide (0 ≤ f.pr ∧ f.pr ≤ 255) = false := by simpa using h2
  go_enter Try.func37, Try.ntmps37
  go_upto_region 1 with fail
  have FA : Hid (PdAt (w.alloc (.cells (pdC f) 35)) w.heap.size f) := Lib.hid (pd_new w _ f rfl)
  have BL : Hid (Below w.heap.size w (w.alloc (.cells (pdC f) 35))) := Lib.hid ((Below.refl _ _).alloc (Nat.le_refl _) _)
  generalize w.alloc _ = W1 at FA BL ⊢
  obtain ⟨c0, -, -, c9, c10, c11, c12, c13⟩ := FA.out.all
  clear h1 h2
  go_wp2_with fail
  refine (within_is _ f.id 65535 _ d1).mono ?_
  rintro e w' ⟨rfl, rfl⟩
  go_wp2_with fail
  refine (within_is _ f.pr 255 _ d2).mono ?_
  rintro e w' ⟨rfl, rfl⟩
  go_wp2_with fail
  go_ret
  exact ⟨rfl, BL.out⟩
set_option maxRecDepth 100000 in
set_option maxHeartbeats 2000000 in
theorem may_2 (w : World) (f : Pd) (hz : f.da.size ≤ 140737488355328) (h1 : 0 ≤ f.id ∧ f.id ≤ 65535) (h2 : 0 ≤ f.pr ∧ f.pr ≤ 255) (h3 : ¬ (0 ≤ f.tl ∧ f.tl ≤ 255)) :
    Calls Try.prog 37 #[.agg (pdC f)] w fun e w' => e = .returned (.bool false) ∧ Below w.heap.size w w' := by
  have d1 : decide (0 ≤ f.id ∧ f.id ≤ 65535) = true := by simpa using h1
  have d2 : decide (0 ≤ f.pr ∧ f.pr ≤ 255) = true := by simpa using h2
  have d3 : decide (0 ≤ f.tl ∧ f.tl ≤ 255) = false := by simpa using h3
  go_enter Try.func37, Try.ntmps37
  go_upto_region 1 with fail
  have FA : Hid (PdAt (w.alloc (.cells (pdC f) 35)) w.heap.size f) := Lib.hid (pd_new w _ f rfl)
  have BL : Hid (Below w.heap.size w (w.alloc (.cells (pdC f) 35))) := Lib.hid ((Below.refl _ _).alloc (Nat.le_refl _) _)
  generalize w.alloc _ = W1 at FA BL ⊢
  obtain ⟨c0, -, -, c9, c10, c11, c12, c13⟩ := FA.out.all
  clear h1 h2 h3
  go_wp2_with fail
  refine (within_is _ f.id 65535 _ d1).mono ?_
  rintro e w' ⟨rfl, rfl⟩
  go_wp2_with fail
  refine (within_is _ f.pr 255 _ d2).mono ?_
  rintro e w' ⟨rfl, rfl⟩
  go_wp2_with fail
  refine (within_is _ f.tl 255 _ d3).mono ?_
  rintro e w' ⟨rfl, rfl⟩
  go_wp2_with fail
  go_ret
  exact ⟨rfl, BL.out⟩
set_option maxRecDepth 100000 in
set_option maxHeartbeats 2000000 in
theorem may_3 (w : World) (f : Pd) (hz : f.da.size ≤ 140737488355328) (h1 : 0 ≤ f.id ∧ f.id ≤ 65535) (h2 : 0 ≤ f.pr ∧ f.pr ≤ 255) (h3 : 0 ≤ f.tl ∧ f.tl ≤ 255) (h4 : ¬ (f.ps % 8 = 0)) :
    Calls Try.prog 37 #[.agg (pdC f)] w fun e w' => e = .returned (.bool false) ∧ Below w.heap.size w w' := by
  have d1 : decide (0 ≤ f.id ∧ f.id ≤ 65535) = true := by simpa using h1
  have d2 : decide (0 ≤ f.pr ∧ f.pr ≤ 255) = true := by simpa using h2
  have d3 : decide (0 ≤ f.tl ∧ f.tl ≤ 255) = true := by simpa using h3
  have d4 : (f.ps.tmod 8 == 0) = false := by rw [tmod8]; simpa using h4
  go_enter Try.func37, Try.ntmps37
  go_upto_region 1 with fail
  have FA : Hid (PdAt (w.alloc (.cells (pdC f) 35)) w.heap.size f) := Lib.hid (pd_new w _ f rfl)
  have BL : Hid (Below w.heap.size w (w.alloc (.cells (pdC f) 35))) := Lib.hid ((Below.refl _ _).alloc (Nat.le_refl _) _)
  generalize w.alloc _ = W1 at FA BL ⊢
  obtain ⟨c0, -, -, c9, c10, c11, c12, c13⟩ := FA.out.all
  clear h1 h2 h3 h4
  go_wp2_with fail
  refine (within_is _ f.id 65535 _ d1).mono ?_
  rintro e w' ⟨rfl, rfl⟩
  go_wp2_with fail
  refine (within_is _ f.pr 255 _ d2).mono ?_
  rintro e w' ⟨rfl, rfl⟩
  go_wp2_with fail
  refine (within_is _ f.tl 255 _ d3).mono ?_
  rintro e w' ⟨rfl, rfl⟩
  go_wp2_with fail
  go_ret
  exact ⟨rfl, BL.out⟩
set_option maxRecDepth 100000 in
set_option maxHeartbeats 2000000 in
theorem may_4 (w : World) (f : Pd) (hz : f.da.size ≤ 140737488355328) (h1 : 0 ≤ f.id ∧ f.id ≤ 65535) (h2 : 0 ≤ f.pr ∧ f.pr ≤ 255) (h3 : 0 ≤ f.tl ∧ f.tl ≤ 255) (h4 : f.ps % 8 = 0) (h5 : ¬ (0 ≤ f.ps ∧ f.ps ≤ 65528)) :
    Calls Try.prog 37 #[.agg (pdC f)] w fun e w' => e = .returned (.bool false) ∧ Below w.heap.size w w' := by
  have d1 : decide (0 ≤ f.id ∧ f.id ≤ 65535) = true := by simpa using h1
  have d2 : decide (0 ≤ f.pr ∧ f.pr ≤ 255) = true := by simpa using h2
  have d3 : decide (0 ≤ f.tl ∧ f.tl ≤ 255) = true := by simpa using h3
  have d4 : (f.ps.tmod 8 == 0) = true := by rw [tmod8]; simpa using h4
  have d5 : decide (0 ≤ f.ps ∧ f.ps ≤ 65528) = false := by simpa using h5
  go_enter Try.func37, Try.ntmps37
  go_upto_region 1 with fail
  have FA : Hid (PdAt (w.alloc (.cells (pdC f) 35)) w.heap.size f) := Lib.hid (pd_new w _ f rfl)
  have BL : Hid (Below w.heap.size w (w.alloc (.cells (pdC f) 35))) := Lib.hid ((Below.refl _ _).alloc (Nat.le_refl _) _)
  generalize w.alloc _ = W1 at FA BL ⊢
  obtain ⟨c0, -, -, c9, c10, c11, c12, c13⟩ := FA.out.all
  clear h1 h2 h3 h4 h5
  go_wp2_with fail
  refine (within_is _ f.id 65535 _ d1).mono ?_
  rintro e w' ⟨rfl, rfl⟩
  go_wp2_with fail
  refine (within_is _ f.pr 255 _ d2).mono ?_
  rintro e w' ⟨rfl, rfl⟩
  go_wp2_with fail
  refine (within_is _ f.tl 255 _ d3).mono ?_
  rintro e w' ⟨rfl, rfl⟩
  go_wp2_with fail
  refine (within_is _ f.ps 65528 _ d5).mono ?_
  rintro e w' ⟨rfl, rfl⟩
  go_wp2_with fail
  go_ret
  exact ⟨rfl, BL.out⟩
set_option maxRecDepth 100000 in
set_option maxHeartbeats 2000000 in
theorem may_5 (w : World) (f : Pd) (hz : f.da.size ≤ 140737488355328) (h1 : 0 ≤ f.id ∧ f.id ≤ 65535) (h2 : 0 ≤ f.pr ∧ f.pr ≤ 255) (h3 : 0 ≤ f.tl ∧ f.tl ≤ 255) (h4 : f.ps % 8 = 0) (h5 : 0 ≤ f.ps ∧ f.ps ≤ 65528) (h6 : ¬ (f.ps + f.da.size ≤ 65515)) :
    Calls Try.prog 37 #[.agg (pdC f)] w fun e w' => e = .returned (.bool false) ∧ Below w.heap.size w w' := by
  have d1 : decide (0 ≤ f.id ∧ f.id ≤ 65535) = true := by simpa using h1
  have d2 : decide (0 ≤ f.pr ∧ f.pr ≤ 255) = true := by simpa using h2
  have d3 : decide (0 ≤ f.tl ∧ f.tl ≤ 255) = true := by simpa using h3
  have d4 : (f.ps.tmod 8 == 0) = true := by rw [tmod8]; simpa using h4
  have d5 : decide (0 ≤ f.ps ∧ f.ps ≤ 65528) = true := by simpa using h5
  have q6 : IntKind.i64.wrap (f.ps + (f.da.size : Int)) = f.ps + (f.da.size : Int) := IntWalk.i64_in _ (by omega)
  have d6 : decide (f.ps + (f.da.size : Int) ≤ 65515) = false := by simpa using h6
  go_enter Try.func37, Try.ntmps37
  go_upto_region 1 with fail
  have FA : Hid (PdAt (w.alloc (.cells (pdC f) 35)) w.heap.size f) := Lib.hid (pd_new w _ f rfl)
  have BL : Hid (Below w.heap.size w (w.alloc (.cells (pdC f) 35))) := Lib.hid ((Below.refl _ _).alloc (Nat.le_refl _) _)
  generalize w.alloc _ = W1 at FA BL ⊢
  obtain ⟨c0, -, -, c9, c10, c11, c12, c13⟩ := FA.out.all
  clear h1 h2 h3 h4 h5 h6
  go_wp2_with fail
  refine (within_is _ f.id 65535 _ d1).mono ?_
  rintro e w' ⟨rfl, rfl⟩
  go_wp2_with fail
  refine (within_is _ f.pr 255 _ d2).mono ?_
  rintro e w' ⟨rfl, rfl⟩
  go_wp2_with fail
  refine (within_is _ f.tl 255 _ d3).mono ?_
  rintro e w' ⟨rfl, rfl⟩
  go_wp2_with fail
  refine (within_is _ f.ps 65528 _ d5).mono ?_
  rintro e w' ⟨rfl, rfl⟩
  go_wp2_with fail
  go_ret
  exact ⟨rfl, BL.out⟩
set_option maxRecDepth 100000 in
set_option maxHeartbeats 2000000 in
theorem may_6 (w : World) (f : Pd) (hz : f.da.size ≤ 140737488355328) (h1 : 0 ≤ f.id ∧ f.id ≤ 65535) (h2 : 0 ≤ f.pr ∧ f.pr ≤ 255) (h3 : 0 ≤ f.tl ∧ f.tl ≤ 255) (h4 : f.ps % 8 = 0) (h5 : 0 ≤ f.ps ∧ f.ps ≤ 65528) (h6 : f.ps + f.da.size ≤ 65515) (h7 : f.mo = false) :
    Calls Try.prog 37 #[.agg (pdC f)] w fun e w' => e = .returned (.bool true) ∧ Below w.heap.size w w' := by
  have d1 : decide (0 ≤ f.id ∧ f.id ≤ 65535) = true := by simpa using h1
  have d2 : decide (0 ≤ f.pr ∧ f.pr ≤ 255) = true := by simpa using h2
  have d3 : decide (0 ≤ f.tl ∧ f.tl ≤ 255) = true := by simpa using h3
  have d4 : (f.ps.tmod 8 == 0) = true := by rw [tmod8]; simpa using h4
  have d5 : decide (0 ≤ f.ps ∧ f.ps ≤ 65528) = true := by simpa using h5
  have q6 : IntKind.i64.wrap (f.ps + (f.da.size : Int)) = f.ps + (f.da.size : Int) := IntWalk.i64_in _ (by omega)
  have d6 : decide (f.ps + (f.da.size : Int) ≤ 65515) = true := by simpa using h6
  go_enter Try.func37, Try.ntmps37
  go_upto_region 1 with fail
  have FA : Hid (PdAt (w.alloc (.cells (pdC f) 35)) w.heap.size f) := Lib.hid (pd_new w _ f rfl)
  have BL : Hid (Below w.heap.size w (w.alloc (.cells (pdC f) 35))) := Lib.hid ((Below.refl _ _).alloc (Nat.le_refl _) _)
  generalize w.alloc _ = W1 at FA BL ⊢
  obtain ⟨c0, -, -, c9, c10, c11, c12, c13⟩ := FA.out.all
  rw [h7] at c12
  clear h1 h2 h3 h4 h5 h6 h7
  go_wp2_with fail
  refine (within_is _ f.id 65535 _ d1).mono ?_
  rintro e w' ⟨rfl, rfl⟩
  go_wp2_with fail
  refine (within_is _ f.pr 255 _ d2).mono ?_
  rintro e w' ⟨rfl, rfl⟩
  go_wp2_with fail
  refine (within_is _ f.tl 255 _ d3).mono ?_
  rintro e w' ⟨rfl, rfl⟩
  go_wp2_with fail
  refine (within_is _ f.ps 65528 _ d5).mono ?_
  rintro e w' ⟨rfl, rfl⟩
  go_wp2_with fail
  go_ret
  exact ⟨rfl, BL.out⟩
set_option maxRecDepth 100000 in
set_option maxHeartbeats 2000000 in
theorem may_7 (w : World) (f : Pd) (hz : f.da.size ≤ 140737488355328) (h1 : 0 ≤ f.id ∧ f.id ≤ 65535) (h2 : 0 ≤ f.pr ∧ f.pr ≤ 255) (h3 : 0 ≤ f.tl ∧ f.tl ≤ 255) (h4 : f.ps % 8 = 0) (h5 : 0 ≤ f.ps ∧ f.ps ≤ 65528) (h6 : f.ps + f.da.size ≤ 65515) (h7 : f.mo = true) (h8 : f.da.size = 0) :
    Calls Try.prog 37 #[.agg (pdC f)] w fun e w' => e = .returned (.bool false) ∧ Below w.heap.size w w' := by
  have d1 : decide (0 ≤ f.id ∧ f.id ≤ 65535) = true := by simpa using h1
  have d2 : decide (0 ≤ f.pr ∧ f.pr ≤ 255) = true := by simpa using h2
  have d3 : decide (0 ≤ f.tl ∧ f.tl ≤ 255) = true := by simpa using h3
  have d4 : (f.ps.tmod 8 == 0) = true := by rw [tmod8]; simpa using h4
  have d5 : decide (0 ≤ f.ps ∧ f.ps ≤ 65528) = true := by simpa using h5
  have q6 : IntKind.i64.wrap (f.ps + (f.da.size : Int)) = f.ps + (f.da.size : Int) := IntWalk.i64_in _ (by omega)
  have d6 : decide (f.ps + (f.da.size : Int) ≤ 65515) = true := by simpa using h6
  have d8 : decide (0 < f.da.size) = false := by simp [h8]
  go_enter Try.func37, Try.ntmps37
  go_upto_region 1 with fail
  have FA : Hid (PdAt (w.alloc (.cells (pdC f) 35)) w.heap.size f) := Lib.hid (pd_new w _ f rfl)
  have BL : Hid (Below w.heap.size w (w.alloc (.cells (pdC f) 35))) := Lib.hid ((Below.refl _ _).alloc (Nat.le_refl _) _)
  generalize w.alloc _ = W1 at FA BL ⊢
  obtain ⟨c0, -, -, c9, c10, c11, c12, c13⟩ := FA.out.all
  rw [h7] at c12
  clear h1 h2 h3 h4 h5 h6 h7 h8
  go_wp2_with fail
  refine (within_is _ f.id 65535 _ d1).mono ?_
  rintro e w' ⟨rfl, rfl⟩
  go_wp2_with fail
  refine (within_is _ f.pr 255 _ d2).mono ?_
  rintro e w' ⟨rfl, rfl⟩
  go_wp2_with fail
  refine (within_is _ f.tl 255 _ d3).mono ?_
  rintro e w' ⟨rfl, rfl⟩
  go_wp2_with fail
  refine (within_is _ f.ps 65528 _ d5).mono ?_
  rintro e w' ⟨rfl, rfl⟩
  go_wp2_with fail
  go_ret
  exact ⟨rfl, BL.out⟩
set_option maxRecDepth 100000 in
set_option maxHeartbeats 2000000 in
theorem may_8 (w : World) (f : Pd) (hz : f.da.size ≤ 140737488355328) (h1 : 0 ≤ f.id ∧ f.id ≤ 65535) (h2 : 0 ≤ f.pr ∧ f.pr ≤ 255) (h3 : 0 ≤ f.tl ∧ f.tl ≤ 255) (h4 : f.ps % 8 = 0) (h5 : 0 ≤ f.ps ∧ f.ps ≤ 65528) (h6 : f.ps + f.da.size ≤ 65515) (h7 : f.mo = true) (h8 : 0 < f.da.size) (h9 : ¬ f.da.size % 8 = 0) :
    Calls Try.prog 37 #[.agg (pdC f)] w fun e w' => e = .returned (.bool false) ∧ Below w.heap.size w w' := by
  have d1 : decide (0 ≤ f.id ∧ f.id ≤ 65535) = true := by simpa using h1
  have d2 : decide (0 ≤ f.pr ∧ f.pr ≤ 255) = true := by simpa using h2
  have d3 : decide (0 ≤ f.tl ∧ f.tl ≤ 255) = true := by simpa using h3
  have d4 : (f.ps.tmod 8 == 0) = true := by rw [tmod8]; simpa using h4
  have d5 : decide (0 ≤ f.ps ∧ f.ps ≤ 65528) = true := by simpa using h5
  have q6 : IntKind.i64.wrap (f.ps + (f.da.size : Int)) = f.ps + (f.da.size : Int) := IntWalk.i64_in _ (by omega)
  have d6 : decide (f.ps + (f.da.size : Int) ≤ 65515) = true := by simpa using h6
  have d8 : decide (0 < f.da.size) = true := by simpa using h8
  have d9 : ((f.da.size : Int) % 8 == 0) = false := by rw [Bool.eq_iff_iff]; simp; omega
  go_enter Try.func37, Try.ntmps37
  go_upto_region 1 with fail
  have FA : Hid (PdAt (w.alloc (.cells (pdC f) 35)) w.heap.size f) := Lib.hid (pd_new w _ f rfl)
  have BL : Hid (Below w.heap.size w (w.alloc (.cells (pdC f) 35))) := Lib.hid ((Below.refl _ _).alloc (Nat.le_refl _) _)
  generalize w.alloc _ = W1 at FA BL ⊢
  obtain ⟨c0, -, -, c9, c10, c11, c12, c13⟩ := FA.out.all
  rw [h7] at c12
  clear h1 h2 h3 h4 h5 h6 h7 h8 h9
  go_wp2_with fail
  refine (within_is _ f.id 65535 _ d1).mono ?_
  rintro e w' ⟨rfl, rfl⟩
  go_wp2_with fail
  refine (within_is _ f.pr 255 _ d2).mono ?_
  rintro e w' ⟨rfl, rfl⟩
  go_wp2_with fail
  refine (within_is _ f.tl 255 _ d3).mono ?_
  rintro e w' ⟨rfl, rfl⟩
  go_wp2_with fail
  refine (within_is _ f.ps 65528 _ d5).mono ?_
  rintro e w' ⟨rfl, rfl⟩
  go_wp2_with fail
  go_ret
  exact ⟨rfl, BL.out⟩
set_option maxRecDepth 100000 in
set_option maxHeartbeats 2000000 in
theorem may_9 (w : World) (f : Pd) (hz : f.da.size ≤ 140737488355328) (h1 : 0 ≤ f.id ∧ f.id ≤ 65535) (h2 : 0 ≤ f.pr ∧ f.pr ≤ 255) (h3 : 0 ≤ f.tl ∧ f.tl ≤ 255) (h4 : f.ps % 8 = 0) (h5 : 0 ≤ f.ps ∧ f.ps ≤ 65528) (h6 : f.ps + f.da.size ≤ 65515) (h7 : f.mo = true) (h8 : 0 < f.da.size) (h9 : f.da.size % 8 = 0) :
    Calls Try.prog 37 #[.agg (pdC f)] w fun e w' => e = .returned (.bool true) ∧ Below w.heap.size w w' := by
  have d1 : decide (0 ≤ f.id ∧ f.id ≤ 65535) = true := by simpa using h1
  have d2 : decide (0 ≤ f.pr ∧ f.pr ≤ 255) = true := by simpa using h2
  have d3 : decide (0 ≤ f.tl ∧ f.tl ≤ 255) = true := by simpa using h3
  have d4 : (f.ps.tmod 8 == 0) = true := by rw [tmod8]; simpa using h4
  have d5 : decide (0 ≤ f.ps ∧ f.ps ≤ 65528) = true := by simpa using h5
  have q6 : IntKind.i64.wrap (f.ps + (f.da.size : Int)) = f.ps + (f.da.size : Int) := IntWalk.i64_in _ (by omega)
  have d6 : decide (f.ps + (f.da.size : Int) ≤ 65515) = true := by simpa using h6
  have d8 : decide (0 < f.da.size) = true := by simpa using h8
  have d9 : ((f.da.size : Int) % 8 == 0) = true := by rw [Bool.eq_iff_iff]; simp; omega
  go_enter Try.func37, Try.ntmps37
  go_upto_region 1 with fail
  have FA : Hid (PdAt (w.alloc (.cells (pdC f) 35)) w.heap.size f) := Lib.hid (pd_new w _ f rfl)
  have BL : Hid (Below w.heap.size w (w.alloc (.cells (pdC f) 35))) := Lib.hid ((Below.refl _ _).alloc (Nat.le_refl _) _)
  generalize w.alloc _ = W1 at FA BL ⊢
  obtain ⟨c0, -, -, c9, c10, c11, c12, c13⟩ := FA.out.all
  rw [h7] at c12
  clear h1 h2 h3 h4 h5 h6 h7 h8 h9
  go_wp2_with fail
  refine (within_is _ f.id 65535 _ d1).mono ?_
  rintro e w' ⟨rfl, rfl⟩
  go_wp2_with fail
  refine (within_is _ f.pr 255 _ d2).mono ?_
  rintro e w' ⟨rfl, rfl⟩
  go_wp2_with fail
  refine (within_is _ f.tl 255 _ d3).mono ?_
  rintro e w' ⟨rfl, rfl⟩
  go_wp2_with fail
  refine (within_is _ f.ps 65528 _ d5).mono ?_
  rintro e w' ⟨rfl, rfl⟩
  go_wp2_with fail
  go_ret
  exact ⟨rfl, BL.out⟩

theorem pMay_any (w : World) (f : Pd) (hz : f.da.size ≤ 140737488355328) :
    Calls Try.prog 37 #[.agg (pdC f)] w fun e w' => e = .returned (.bool (mayB f)) ∧ Below w.heap.size w w' := by
  have hn : ∀ (h : ¬ (0 ≤ f.id ∧ f.id ≤ 65535 ∧ 0 ≤ f.pr ∧ f.pr ≤ 255 ∧ 0 ≤ f.tl ∧ f.tl ≤ 255 ∧ f.ps % 8 = 0 ∧ 0 ≤ f.ps ∧ f.ps ≤ 65528 ∧ f.ps + f.da.size ≤ 65515 ∧ (f.mo = false ∨ 0 < f.da.size ∧ f.da.size % 8 = 0))), mayB f = false := fun h => decide_eq_false h
  by_cases h1 : 0 ≤ f.id ∧ f.id ≤ 65535
  case neg => rw [hn (fun h => h1 ⟨h.1, h.2.1⟩)]; exact may_0 w f hz h1
  by_cases h2 : 0 ≤ f.pr ∧ f.pr ≤ 255
  case neg => rw [hn (fun h => h2 ⟨h.2.2.1, h.2.2.2.1⟩)]; exact may_1 w f hz h1 h2
  by_cases h3 : 0 ≤ f.tl ∧ f.tl ≤ 255
  case neg => rw [hn (fun h => h3 ⟨h.2.2.2.2.1, h.2.2.2.2.2.1⟩)]; exact may_2 w f hz h1 h2 h3
  by_cases h4 : f.ps % 8 = 0
  case neg => rw [hn (fun h => h4 h.2.2.2.2.2.2.1)]; exact may_3 w f hz h1 h2 h3 h4
  by_cases h5 : 0 ≤ f.ps ∧ f.ps ≤ 65528
  case neg => rw [hn (fun h => h5 ⟨h.2.2.2.2.2.2.2.1, h.2.2.2.2.2.2.2.2.1⟩)]; exact may_4 w f hz h1 h2 h3 h4 h5
  by_cases h6 : f.ps + f.da.size ≤ 65515
  case neg => rw [hn (fun h => h6 h.2.2.2.2.2.2.2.2.2.1)]; exact may_5 w f hz h1 h2 h3 h4 h5 h6
  have hy : ∀ (h : f.mo = false ∨ 0 < f.da.size ∧ f.da.size % 8 = 0), mayB f = true := fun h => decide_eq_true ⟨h1.1, h1.2, h2.1, h2.2, h3.1, h3.2, h4, h5.1, h5.2, h6, h⟩
  have hm : ∀ (h : ¬ (f.mo = false ∨ 0 < f.da.size ∧ f.da.size % 8 = 0)), mayB f = false := fun h => hn (fun g => h g.2.2.2.2.2.2.2.2.2.2)
  cases h7 : f.mo with
  | false => rw [hy (.inl h7)]; exact may_6 w f hz h1 h2 h3 h4 h5 h6 h7
  | true =>
    by_cases h8 : f.da.size = 0
    · rw [hm (by rw [h7]; rintro (h | h); cases h; omega)]; exact may_7 w f hz h1 h2 h3 h4 h5 h6 h7 h8
    · by_cases h9 : f.da.size % 8 = 0
      · rw [hy (.inr ⟨by omega, h9⟩)]; exact may_9 w f hz h1 h2 h3 h4 h5 h6 h7 (by omega) h9
      · rw [hm (by rw [h7]; rintro (h | h); cases h; exact h9 h.2)]; exact may_8 w f hz h1 h2 h3 h4 h5 h6 h7 (by omega) h9

set_option maxRecDepth 100000 in
set_option maxHeartbeats 2000000 in
theorem rmay_0 (w : World) (f : Pd) (hz : f.da.size ≤ 140737488355328) (g0 : f.id < 0) :
    Calls Try.prog 32 #[.agg (pdC f)] w fun e w' => e = .returned (.bool false) ∧ Below w.heap.size w w' := by
  go_enter Try.func32, Try.ntmps32
  go_upto_region 1 with fail
  have FA : Hid (PdAt (w.alloc (.cells (pdC f) 35)) w.heap.size f) := Lib.hid (pd_new w _ f rfl)
  have BL : Hid (Below w.heap.size w (w.alloc (.cells (pdC f) 35))) := Lib.hid ((Below.refl _ _).alloc (Nat.le_refl _) _)
  generalize w.alloc _ = W1 at FA BL ⊢
  obtain ⟨c0, -, -, c9, c10, c11, c12, c13⟩ := FA.out.all
  go_wp2_with fail
  go_ret
  exact ⟨rfl, BL.out⟩
set_option maxRecDepth 100000 in
set_option maxHeartbeats 2000000 in
theorem rmay_1 (w : World) (f : Pd) (hz : f.da.size ≤ 140737488355328) (g0 : 0 ≤ f.id) (g1 : 65535 < f.id) :
    Calls Try.prog 32 #[.agg (pdC f)] w fun e w' => e = .returned (.bool false) ∧ Below w.heap.size w w' := by
  go_enter Try.func32, Try.ntmps32
  go_upto_region 1 with fail
  have FA : Hid (PdAt (w.alloc (.cells (pdC f) 35)) w.heap.size f) := Lib.hid (pd_new w _ f rfl)
  have BL : Hid (Below w.heap.size w (w.alloc (.cells (pdC f) 35))) := Lib.hid ((Below.refl _ _).alloc (Nat.le_refl _) _)
  generalize w.alloc _ = W1 at FA BL ⊢
  obtain ⟨c0, -, -, c9, c10, c11, c12, c13⟩ := FA.out.all
  go_wp2_with fail
  go_ret
  exact ⟨rfl, BL.out⟩
set_option maxRecDepth 100000 in
set_option maxHeartbeats 2000000 in
theorem rmay_2 (w : World) (f : Pd) (hz : f.da.size ≤ 140737488355328) (g0 : 0 ≤ f.id) (g1 : f.id ≤ 65535) (g2 : f.pr < 0) :
    Calls Try.prog 32 #[.agg (pdC f)] w fun e w' => e = .returned (.bool false) ∧ Below w.heap.size w w' := by
  go_enter Try.func32, Try.ntmps32
  go_upto_region 1 with fail
  have FA : Hid (PdAt (w.alloc (.cells (pdC f) 35)) w.heap.size f) := Lib.hid (pd_new w _ f rfl)
  have BL : Hid (Below w.heap.size w (w.alloc (.cells (pdC f) 35))) := Lib.hid ((Below.refl _ _).alloc (Nat.le_refl _) _)
  generalize w.alloc _ = W1 at FA BL ⊢
  obtain ⟨c0, -, -, c9, c10, c11, c12, c13⟩ := FA.out.all
  go_wp2_with fail
  go_ret
  exact ⟨rfl, BL.out⟩
set_option maxRecDepth 100000 in
set_option maxHeartbeats 2000000 in
theorem rmay_3 (w : World) (f : Pd) (hz : f.da.size ≤ 140737488355328) (g0 : 0 ≤ f.id) (g1 : f.id ≤ 65535) (g2 : 0 ≤ f.pr) (g3 : 255 < f.pr) :
    Calls Try.prog 32 #[.agg (pdC f)] w fun e w' => e = .returned (.bool false) ∧ Below w.heap.size w w' := by
  go_enter Try.func32, Try.ntmps32
  go_upto_region 1 with fail
  have FA : Hid (PdAt (w.alloc (.cells (pdC f) 35)) w.heap.size f) := Lib.hid (pd_new w _ f rfl)
  have BL : Hid (Below w.heap.size w (w.alloc (.cells (pdC f) 35))) := Lib.hid ((Below.refl _ _).alloc (Nat.le_refl _) _)
  generalize w.alloc _ = W1 at FA BL ⊢
  obtain ⟨c0, -, -, c9, c10, c11, c12, c13⟩ := FA.out.all
  go_wp2_with fail
  go_ret
  exact ⟨rfl, BL.out⟩
set_option maxRecDepth 100000 in
set_option maxHeartbeats 2000000 in
theorem rmay_4 (w : World) (f : Pd) (hz : f.da.size ≤ 140737488355328) (g0 : 0 ≤ f.id) (g1 : f.id ≤ 65535) (g2 : 0 ≤ f.pr) (g3 : f.pr ≤ 255) (g4 : f.tl < 0) :
    Calls Try.prog 32 #[.agg (pdC f)] w fun e w' => e = .returned (.bool false) ∧ Below w.heap.size w w' := by
  go_enter Try.func32, Try.ntmps32
  go_upto_region 1 with fail
  have FA : Hid (PdAt (w.alloc (.cells (pdC f) 35)) w.heap.size f) := Lib.hid (pd_new w _ f rfl)
  have BL : Hid (Below w.heap.size w (w.alloc (.cells (pdC f) 35))) := Lib.hid ((Below.refl _ _).alloc (Nat.le_refl _) _)
  generalize w.alloc _ = W1 at FA BL ⊢
  obtain ⟨c0, -, -, c9, c10, c11, c12, c13⟩ := FA.out.all
  go_wp2_with fail
  go_ret
  exact ⟨rfl, BL.out⟩
set_option maxRecDepth 100000 in
set_option maxHeartbeats 2000000 in
theorem rmay_5 (w : World) (f : Pd) (hz : f.da.size ≤ 140737488355328) (g0 : 0 ≤ f.id) (g1 : f.id ≤ 65535) (g2 : 0 ≤ f.pr) (g3 : f.pr ≤ 255) (g4 : 0 ≤ f.tl) (g5 : 255 < f.tl) :
    Calls Try.prog 32 #[.agg (pdC f)] w fun e w' => e = .returned (.bool false) ∧ Below w.heap.size w w' := by
  go_enter Try.func32, Try.ntmps32
  go_upto_region 1 with fail
  have FA : Hid (PdAt (w.alloc (.cells (pdC f) 35)) w.heap.size f) := Lib.hid (pd_new w _ f rfl)
  have BL : Hid (Below w.heap.size w (w.alloc (.cells (pdC f) 35))) := Lib.hid ((Below.refl _ _).alloc (Nat.le_refl _) _)
  generalize w.alloc _ = W1 at FA BL ⊢
  obtain ⟨c0, -, -, c9, c10, c11, c12, c13⟩ := FA.out.all
  go_wp2_with fail
  go_ret
  exact ⟨rfl, BL.out⟩
set_option maxRecDepth 100000 in
set_option maxHeartbeats 2000000 in
theorem rmay_6 (w : World) (f : Pd) (hz : f.da.size ≤ 140737488355328) (g0 : 0 ≤ f.id) (g1 : f.id ≤ 65535) (g2 : 0 ≤ f.pr) (g3 : f.pr ≤ 255) (g4 : 0 ≤ f.tl) (g5 : f.tl ≤ 255) (g6 : f.ps < 0) :
    Calls Try.prog 32 #[.agg (pdC f)] w fun e w' => e = .returned (.bool false) ∧ Below w.heap.size w w' := by
  go_enter Try.func32, Try.ntmps32
  go_upto_region 1 with fail
  have FA : Hid (PdAt (w.alloc (.cells (pdC f) 35)) w.heap.size f) := Lib.hid (pd_new w _ f rfl)
  have BL : Hid (Below w.heap.size w (w.alloc (.cells (pdC f) 35))) := Lib.hid ((Below.refl _ _).alloc (Nat.le_refl _) _)
  generalize w.alloc _ = W1 at FA BL ⊢
  obtain ⟨c0, -, -, c9, c10, c11, c12, c13⟩ := FA.out.all
  go_wp2_with fail
  go_ret
  exact ⟨rfl, BL.out⟩
set_option maxRecDepth 100000 in
set_option maxHeartbeats 2000000 in
theorem rmay_7 (w : World) (f : Pd) (hz : f.da.size ≤ 140737488355328) (g0 : 0 ≤ f.id) (g1 : f.id ≤ 65535) (g2 : 0 ≤ f.pr) (g3 : f.pr ≤ 255) (g4 : 0 ≤ f.tl) (g5 : f.tl ≤ 255) (g6 : 0 ≤ f.ps) (g7 : 65528 < f.ps) :
    Calls Try.prog 32 #[.agg (pdC f)] w fun e w' => e = .returned (.bool false) ∧ Below w.heap.size w w' := by
  go_enter Try.func32, Try.ntmps32
  go_upto_region 1 with fail
  have FA : Hid (PdAt (w.alloc (.cells (pdC f) 35)) w.heap.size f) := Lib.hid (pd_new w _ f rfl)
  have BL : Hid (Below w.heap.size w (w.alloc (.cells (pdC f) 35))) := Lib.hid ((Below.refl _ _).alloc (Nat.le_refl _) _)
  generalize w.alloc _ = W1 at FA BL ⊢
  obtain ⟨c0, -, -, c9, c10, c11, c12, c13⟩ := FA.out.all
  go_wp2_with fail
  go_ret
  exact ⟨rfl, BL.out⟩
set_option maxRecDepth 100000 in
set_option maxHeartbeats 2000000 in
theorem rmay_8 (w : World) (f : Pd) (hz : f.da.size ≤ 140737488355328) (g0 : 0 ≤ f.id) (g1 : f.id ≤ 65535) (g2 : 0 ≤ f.pr) (g3 : f.pr ≤ 255) (g4 : 0 ≤ f.tl) (g5 : f.tl ≤ 255) (g6 : 0 ≤ f.ps) (g7 : f.ps ≤ 65528) (g8 : ¬ (f.ps % 8 = 0)) :
    Calls Try.prog 32 #[.agg (pdC f)] w fun e w' => e = .returned (.bool false) ∧ Below w.heap.size w w' := by
  have d8 : (f.ps.tmod 8 != 0) = true := by rw [bne, tmod8]; simpa using g8
  have d8' : (f.ps % 8 != 0) = true := by rw [bne, Bool.eq_iff_iff]; simp; omega
  clear g8
  go_enter Try.func32, Try.ntmps32
  go_upto_region 1 with fail
  have FA : Hid (PdAt (w.alloc (.cells (pdC f) 35)) w.heap.size f) := Lib.hid (pd_new w _ f rfl)
  have BL : Hid (Below w.heap.size w (w.alloc (.cells (pdC f) 35))) := Lib.hid ((Below.refl _ _).alloc (Nat.le_refl _) _)
  generalize w.alloc _ = W1 at FA BL ⊢
  obtain ⟨c0, -, -, c9, c10, c11, c12, c13⟩ := FA.out.all
  go_wp2_with fail
  go_ret
  exact ⟨rfl, BL.out⟩
set_option maxRecDepth 100000 in
set_option maxHeartbeats 2000000 in
theorem rmay_9 (w : World) (f : Pd) (hz : f.da.size ≤ 140737488355328) (g0 : 0 ≤ f.id) (g1 : f.id ≤ 65535) (g2 : 0 ≤ f.pr) (g3 : f.pr ≤ 255) (g4 : 0 ≤ f.tl) (g5 : f.tl ≤ 255) (g6 : 0 ≤ f.ps) (g7 : f.ps ≤ 65528) (g8 : f.ps % 8 = 0) (g9 : 65515 < f.ps + f.da.size) :
    Calls Try.prog 32 #[.agg (pdC f)] w fun e w' => e = .returned (.bool false) ∧ Below w.heap.size w w' := by
  have d8 : (f.ps.tmod 8 != 0) = false := by rw [bne, tmod8]; simpa using g8
  have d8' : (f.ps % 8 != 0) = false := by rw [bne, Bool.eq_iff_iff]; simp; omega
  clear g8
  have q6 : IntKind.i64.wrap (f.ps + (f.da.size : Int)) = f.ps + (f.da.size : Int) := IntWalk.i64_in _ (by omega)
  go_enter Try.func32, Try.ntmps32
  go_upto_region 1 with fail
  have FA : Hid (PdAt (w.alloc (.cells (pdC f) 35)) w.heap.size f) := Lib.hid (pd_new w _ f rfl)
  have BL : Hid (Below w.heap.size w (w.alloc (.cells (pdC f) 35))) := Lib.hid ((Below.refl _ _).alloc (Nat.le_refl _) _)
  generalize w.alloc _ = W1 at FA BL ⊢
  obtain ⟨c0, -, -, c9, c10, c11, c12, c13⟩ := FA.out.all
  go_wp2_with fail
  go_ret
  exact ⟨rfl, BL.out⟩
set_option maxRecDepth 100000 in
set_option maxHeartbeats 2000000 in
theorem rmay_10 (w : World) (f : Pd) (hz : f.da.size ≤ 140737488355328) (g0 : 0 ≤ f.id) (g1 : f.id ≤ 65535) (g2 : 0 ≤ f.pr) (g3 : f.pr ≤ 255) (g4 : 0 ≤ f.tl) (g5 : f.tl ≤ 255) (g6 : 0 ≤ f.ps) (g7 : f.ps ≤ 65528) (g8 : f.ps % 8 = 0) (g9 : f.ps + f.da.size ≤ 65515) (h7 : f.mo = false) :
    Calls Try.prog 32 #[.agg (pdC f)] w fun e w' => e = .returned (.bool true) ∧ Below w.heap.size w w' := by
  have d8 : (f.ps.tmod 8 != 0) = false := by rw [bne, tmod8]; simpa using g8
  have d8' : (f.ps % 8 != 0) = false := by rw [bne, Bool.eq_iff_iff]; simp; omega
  clear g8
  have q6 : IntKind.i64.wrap (f.ps + (f.da.size : Int)) = f.ps + (f.da.size : Int) := IntWalk.i64_in _ (by omega)
  go_enter Try.func32, Try.ntmps32
  go_upto_region 1 with fail
  have FA : Hid (PdAt (w.alloc (.cells (pdC f) 35)) w.heap.size f) := Lib.hid (pd_new w _ f rfl)
  have BL : Hid (Below w.heap.size w (w.alloc (.cells (pdC f) 35))) := Lib.hid ((Below.refl _ _).alloc (Nat.le_refl _) _)
  generalize w.alloc _ = W1 at FA BL ⊢
  obtain ⟨c0, -, -, c9, c10, c11, c12, c13⟩ := FA.out.all
  rw [h7] at c12
  clear h7
  go_wp2_with fail
  go_ret
  exact ⟨rfl, BL.out⟩
set_option maxRecDepth 100000 in
set_option maxHeartbeats 2000000 in
theorem rmay_11 (w : World) (f : Pd) (hz : f.da.size ≤ 140737488355328) (g0 : 0 ≤ f.id) (g1 : f.id ≤ 65535) (g2 : 0 ≤ f.pr) (g3 : f.pr ≤ 255) (g4 : 0 ≤ f.tl) (g5 : f.tl ≤ 255) (g6 : 0 ≤ f.ps) (g7 : f.ps ≤ 65528) (g8 : f.ps % 8 = 0) (g9 : f.ps + f.da.size ≤ 65515) (h7 : f.mo = true) (h8 : f.da.size = 0) :
    Calls Try.prog 32 #[.agg (pdC f)] w fun e w' => e = .returned (.bool false) ∧ Below w.heap.size w w' := by
  have d8 : (f.ps.tmod 8 != 0) = false := by rw [bne, tmod8]; simpa using g8
  have d8' : (f.ps % 8 != 0) = false := by rw [bne, Bool.eq_iff_iff]; simp; omega
  clear g8
  have q6 : IntKind.i64.wrap (f.ps + (f.da.size : Int)) = f.ps + (f.da.size : Int) := IntWalk.i64_in _ (by omega)
  have e8 : decide (0 < f.da.size) = false := by simp [h8]
  clear h8
  go_enter Try.func32, Try.ntmps32
  go_upto_region 1 with fail
  have FA : Hid (PdAt (w.alloc (.cells (pdC f) 35)) w.heap.size f) := Lib.hid (pd_new w _ f rfl)
  have BL : Hid (Below w.heap.size w (w.alloc (.cells (pdC f) 35))) := Lib.hid ((Below.refl _ _).alloc (Nat.le_refl _) _)
  generalize w.alloc _ = W1 at FA BL ⊢
  obtain ⟨c0, -, -, c9, c10, c11, c12, c13⟩ := FA.out.all
  rw [h7] at c12
  clear h7
  go_wp2_with fail
  go_ret
  exact ⟨rfl, BL.out⟩
set_option maxRecDepth 100000 in
set_option maxHeartbeats 2000000 in
theorem rmay_12 (w : World) (f : Pd) (hz : f.da.size ≤ 140737488355328) (g0 : 0 ≤ f.id) (g1 : f.id ≤ 65535) (g2 : 0 ≤ f.pr) (g3 : f.pr ≤ 255) (g4 : 0 ≤ f.tl) (g5 : f.tl ≤ 255) (g6 : 0 ≤ f.ps) (g7 : f.ps ≤ 65528) (g8 : f.ps % 8 = 0) (g9 : f.ps + f.da.size ≤ 65515) (h7 : f.mo = true) (h8 : 0 < f.da.size) (h9 : ¬ f.da.size % 8 = 0) :
    Calls Try.prog 32 #[.agg (pdC f)] w fun e w' => e = .returned (.bool false) ∧ Below w.heap.size w w' := by
  have d8 : (f.ps.tmod 8 != 0) = false := by rw [bne, tmod8]; simpa using g8
  have d8' : (f.ps % 8 != 0) = false := by rw [bne, Bool.eq_iff_iff]; simp; omega
  clear g8
  have q6 : IntKind.i64.wrap (f.ps + (f.da.size : Int)) = f.ps + (f.da.size : Int) := IntWalk.i64_in _ (by omega)
  have d9 : ((f.da.size : Int) % 8 == 0) = false := by rw [Bool.eq_iff_iff]; simp; omega
  clear h9
  go_enter Try.func32, Try.ntmps32
  go_upto_region 1 with fail
  have FA : Hid (PdAt (w.alloc (.cells (pdC f) 35)) w.heap.size f) := Lib.hid (pd_new w _ f rfl)
  have BL : Hid (Below w.heap.size w (w.alloc (.cells (pdC f) 35))) := Lib.hid ((Below.refl _ _).alloc (Nat.le_refl _) _)
  generalize w.alloc _ = W1 at FA BL ⊢
  obtain ⟨c0, -, -, c9, c10, c11, c12, c13⟩ := FA.out.all
  rw [h7] at c12
  clear h7
  go_wp2_with fail
  go_ret
  exact ⟨rfl, BL.out⟩
set_option maxRecDepth 100000 in
set_option maxHeartbeats 2000000 in
theorem rmay_13 (w : World) (f : Pd) (hz : f.da.size ≤ 140737488355328) (g0 : 0 ≤ f.id) (g1 : f.id ≤ 65535) (g2 : 0 ≤ f.pr) (g3 : f.pr ≤ 255) (g4 : 0 ≤ f.tl) (g5 : f.tl ≤ 255) (g6 : 0 ≤ f.ps) (g7 : f.ps ≤ 65528) (g8 : f.ps % 8 = 0) (g9 : f.ps + f.da.size ≤ 65515) (h7 : f.mo = true) (h8 : 0 < f.da.size) (h9 : f.da.size % 8 = 0) :
    Calls Try.prog 32 #[.agg (pdC f)] w fun e w' => e = .returned (.bool true) ∧ Below w.heap.size w w' := by
  have d8 : (f.ps.tmod 8 != 0) = false := by rw [bne, tmod8]; simpa using g8
  have d8' : (f.ps % 8 != 0) = false := by rw [bne, Bool.eq_iff_iff]; simp; omega
  clear g8
  have q6 : IntKind.i64.wrap (f.ps + (f.da.size : Int)) = f.ps + (f.da.size : Int) := IntWalk.i64_in _ (by omega)
  have d9 : ((f.da.size : Int) % 8 == 0) = true := by rw [Bool.eq_iff_iff]; simp; omega
  clear h9
  go_enter Try.func32, Try.ntmps32
  go_upto_region 1 with fail
  have FA : Hid (PdAt (w.alloc (.cells (pdC f) 35)) w.heap.size f) := Lib.hid (pd_new w _ f rfl)
  have BL : Hid (Below w.heap.size w (w.alloc (.cells (pdC f) 35))) := Lib.hid ((Below.refl _ _).alloc (Nat.le_refl _) _)
  generalize w.alloc _ = W1 at FA BL ⊢
  obtain ⟨c0, -, -, c9, c10, c11, c12, c13⟩ := FA.out.all
  rw [h7] at c12
  clear h7
  go_wp2_with fail
  go_ret
  exact ⟨rfl, BL.out⟩

theorem rMay_any (w : World) (f : Pd) (hz : f.da.size ≤ 140737488355328) :
    Calls Try.prog 32 #[.agg (pdC f)] w fun e w' => e = .returned (.bool (mayB f)) ∧ Below w.heap.size w w' := by
  have hn : ∀ (h : ¬ (0 ≤ f.id ∧ f.id ≤ 65535 ∧ 0 ≤ f.pr ∧ f.pr ≤ 255 ∧ 0 ≤ f.tl ∧ f.tl ≤ 255 ∧ f.ps % 8 = 0 ∧ 0 ≤ f.ps ∧ f.ps ≤ 65528 ∧ f.ps + f.da.size ≤ 65515 ∧ (f.mo = false ∨ 0 < f.da.size ∧ f.da.size % 8 = 0))), mayB f = false := fun h => decide_eq_false h
  by_cases g0 : 0 ≤ f.id
  case neg => rw [hn (by rintro ⟨h0, h1, h2, h3, h4, h5, h8, h6, h7, h9, h10⟩; exact g0 h0)]; exact rmay_0 w f hz (by omega)
  by_cases g1 : f.id ≤ 65535
  case neg => rw [hn (by rintro ⟨h0, h1, h2, h3, h4, h5, h8, h6, h7, h9, h10⟩; exact g1 h1)]; exact rmay_1 w f hz g0 (by omega)
  by_cases g2 : 0 ≤ f.pr
  case neg => rw [hn (by rintro ⟨h0, h1, h2, h3, h4, h5, h8, h6, h7, h9, h10⟩; exact g2 h2)]; exact rmay_2 w f hz g0 g1 (by omega)
  by_cases g3 : f.pr ≤ 255
  case neg => rw [hn (by rintro ⟨h0, h1, h2, h3, h4, h5, h8, h6, h7, h9, h10⟩; exact g3 h3)]; exact rmay_3 w f hz g0 g1 g2 (by omega)
  by_cases g4 : 0 ≤ f.tl
  case neg => rw [hn (by rintro ⟨h0, h1, h2, h3, h4, h5, h8, h6, h7, h9, h10⟩; exact g4 h4)]; exact rmay_4 w f hz g0 g1 g2 g3 (by omega)
  by_cases g5 : f.tl ≤ 255
  case neg => rw [hn (by rintro ⟨h0, h1, h2, h3, h4, h5, h8, h6, h7, h9, h10⟩; exact g5 h5)]; exact rmay_5 w f hz g0 g1 g2 g3 g4 (by omega)
  by_cases g6 : 0 ≤ f.ps
  case neg => rw [hn (by rintro ⟨h0, h1, h2, h3, h4, h5, h8, h6, h7, h9, h10⟩; exact g6 h6)]; exact rmay_6 w f hz g0 g1 g2 g3 g4 g5 (by omega)
  by_cases g7 : f.ps ≤ 65528
  case neg => rw [hn (by rintro ⟨h0, h1, h2, h3, h4, h5, h8, h6, h7, h9, h10⟩; exact g7 h7)]; exact rmay_7 w f hz g0 g1 g2 g3 g4 g5 g6 (by omega)
  by_cases g8 : f.ps % 8 = 0
  case neg => rw [hn (by rintro ⟨h0, h1, h2, h3, h4, h5, h8, h6, h7, h9, h10⟩; exact g8 h8)]; exact rmay_8 w f hz g0 g1 g2 g3 g4 g5 g6 g7 g8
  by_cases g9 : f.ps + f.da.size ≤ 65515
  case neg => rw [hn (by rintro ⟨h0, h1, h2, h3, h4, h5, h8, h6, h7, h9, h10⟩; exact g9 h9)]; exact rmay_9 w f hz g0 g1 g2 g3 g4 g5 g6 g7 g8 (by omega)
  have hy : ∀ (h : f.mo = false ∨ 0 < f.da.size ∧ f.da.size % 8 = 0), mayB f = true := fun h => decide_eq_true ⟨g0, g1, g2, g3, g4, g5, g8, g6, g7, g9, h⟩
  have hm : ∀ (h : ¬ (f.mo = false ∨ 0 < f.da.size ∧ f.da.size % 8 = 0)), mayB f = false := fun h => hn (fun g => h g.2.2.2.2.2.2.2.2.2.2)
  cases h7 : f.mo with
  | false => rw [hy (.inl h7)]; exact rmay_10 w f hz g0 g1 g2 g3 g4 g5 g6 g7 g8 g9 h7
  | true =>
    by_cases h8 : f.da.size = 0
    · rw [hm (by rw [h7]; rintro (h | h); cases h; omega)]; exact rmay_11 w f hz g0 g1 g2 g3 g4 g5 g6 g7 g8 g9 h7 h8
    · by_cases h9 : f.da.size % 8 = 0
      · rw [hy (.inr ⟨by omega, h9⟩)]; exact rmay_13 w f hz g0 g1 g2 g3 g4 g5 g6 g7 g8 g9 h7 (by omega) h9
      · rw [hm (by rw [h7]; rintro (h | h); cases h; exact h9 h.2)]; exact rmay_12 w f hz g0 g1 g2 g3 g4 g5 g6 g7 g8 g9 h7 (by omega) h9

end Go.Proofs.Ytbjoibgkhooljaa
