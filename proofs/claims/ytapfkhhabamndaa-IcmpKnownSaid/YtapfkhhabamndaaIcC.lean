/-
  Layer 9: what bytes are read as, the echo, what says that nobody is there, by the program. Conditions: a text has at most 2^47 bytes.
-/
import Derived.Test.YtapfkhhabamndaaIcB
import Derived.Test.YtapfkhhabamndaaRdy
namespace Go.Proofs.Ytapfkhhabamndaa
open Go.RowKit Go.Sort
set_option linter.unusedVariables false

set_option maxRecDepth 100000 in
set_option maxHeartbeats 4000000 in
theorem icRead_short (w : World) (s : ByteArray) (h : s.size < 8) :
    Calls Try.prog 20 #[.string s] w fun e w' => e = .returned (.tuple #[.agg (icC icZ), .int .i64 7]) ∧ Below w.heap.size w w' := by
  go_enter Try.func20, Try.ntmps20
  go_upto_region 1 with fail
  have RM : Hid (IcRoom (w.alloc (.cells #[.int .i64 0, .int .i64 0, .int .u32 0, .string ⟨#[]⟩] 49)) w.heap.size) := Lib.hid (icroom_new _ _ _ rfl rfl)
  have BL : Hid (Below w.heap.size w (w.alloc (.cells #[.int .i64 0, .int .i64 0, .int .u32 0, .string ⟨#[]⟩] 49))) := Lib.hid ((Below.refl _ _).alloc (Nat.le_refl _) _)
  generalize w.alloc _ = W1 at RM BL ⊢
  obtain ⟨hst, S6⟩ := RM.out.put icZ
  have S6 := Lib.hid S6
  have B6 := Lib.hid (below_setRow BL.out (Nat.le_refl _) (icC icZ))
  go_wp2_with (refine wpList_storeW 49 (.tmp 2) (.tmp 9) rfl rfl (.agg (icC icZ)) w.heap.size rfl rfl hst ?_)
  exact bodyPost_ret (v := .tuple #[.agg (icC icZ), .int .i64 7]) (results_row _ 2 3 49 (by kernel_rfl) _ w.heap.size _ _ _ _ rfl rfl S6.out Try.underlying49 rfl (by kernel_rfl)) rfl ⟨rfl, B6.out⟩
set_option maxRecDepth 100000 in
set_option maxHeartbeats 4000000 in
theorem icRead_long (w : World) (s : ByteArray) (h : 566 < s.size) (hm : s.size ≤ 140737488355328) :
    Calls Try.prog 20 #[.string s] w fun e w' => e = .returned (.tuple #[.agg (icC icZ), .int .i64 3]) ∧ Below w.heap.size w w' := by
  go_enter Try.func20, Try.ntmps20
  go_upto_region 1 with fail
  have RM : Hid (IcRoom (w.alloc (.cells #[.int .i64 0, .int .i64 0, .int .u32 0, .string ⟨#[]⟩] 49)) w.heap.size) := Lib.hid (icroom_new _ _ _ rfl rfl)
  have BL : Hid (Below w.heap.size w (w.alloc (.cells #[.int .i64 0, .int .i64 0, .int .u32 0, .string ⟨#[]⟩] 49))) := Lib.hid ((Below.refl _ _).alloc (Nat.le_refl _) _)
  generalize w.alloc _ = W1 at RM BL ⊢
  obtain ⟨hst, S6⟩ := RM.out.put icZ
  have S6 := Lib.hid S6
  have B6 := Lib.hid (below_setRow BL.out (Nat.le_refl _) (icC icZ))
  go_wp2_with (refine wpList_storeW 49 (.tmp 2) (.tmp 13) rfl rfl (.agg (icC icZ)) w.heap.size rfl rfl hst ?_)
  exact bodyPost_ret (v := .tuple #[.agg (icC icZ), .int .i64 3]) (results_row _ 2 3 49 (by kernel_rfl) _ w.heap.size _ _ _ _ rfl rfl S6.out Try.underlying49 rfl (by kernel_rfl)) rfl ⟨rfl, B6.out⟩
set_option maxRecDepth 100000 in
set_option maxHeartbeats 4000000 in
theorem icRead_sum (w : World) (s : ByteArray) (h : 8 ≤ s.size) (h2 : s.size ≤ 566) (K : Nat) (hK : sumT s.data.toList = K) (h0 : ¬ K = 0) :
    Calls Try.prog 20 #[.string s] w fun e w' => e = .returned (.tuple #[.agg (icC icZ), .int .i64 9]) ∧ Below w.heap.size w w' := by
  have kS := Lib.hid (fun w => Sum_any w s (by omega))
  rw [hK] at kS
  have hx : ((K : Int) != 0) = true := by simpa using h0
  clear h0 hK
  go_enter Try.func20, Try.ntmps20
  go_upto_region 1 with fail
  have RM : Hid (IcRoom (w.alloc (.cells #[.int .i64 0, .int .i64 0, .int .u32 0, .string ⟨#[]⟩] 49)) w.heap.size) := Lib.hid (icroom_new _ _ _ rfl rfl)
  have BL : Hid (Below w.heap.size w (w.alloc (.cells #[.int .i64 0, .int .i64 0, .int .u32 0, .string ⟨#[]⟩] 49))) := Lib.hid ((Below.refl _ _).alloc (Nat.le_refl _) _)
  generalize w.alloc _ = W1 at RM BL ⊢
  go_wp2_with fail
  refine (kS.out _).mono ?_
  rintro e w2 ⟨rfl, b2⟩
  have RM2 := Lib.hid (RM.out.grow b2)
  have BL2 := bstep BL b2
  clear b2 RM BL
  obtain ⟨hst, S6⟩ := RM2.out.put icZ
  have S6 := Lib.hid S6
  have B6 := Lib.hid (below_setRow BL2.out (Nat.le_refl _) (icC icZ))
  go_wp2_with (refine wpList_storeW 49 (.tmp 2) (.tmp 17) rfl rfl (.agg (icC icZ)) w.heap.size rfl rfl hst ?_)
  exact bodyPost_ret (v := .tuple #[.agg (icC icZ), .int .i64 9]) (results_row _ 2 3 49 (by kernel_rfl) _ w.heap.size _ _ _ _ rfl rfl S6.out Try.underlying49 rfl (by kernel_rfl)) rfl ⟨rfl, B6.out⟩
set_option maxRecDepth 100000 in
set_option maxHeartbeats 4000000 in
theorem icRead_yes (w : World) (s : ByteArray) (h : 8 ≤ s.size) (h2 : s.size ≤ 566) (h0 : sumT s.data.toList = 0) (Q : Ic) (hQ : Q = irQ s) :
    Calls Try.prog 20 #[.string s] w fun e w' => e = .returned (.tuple #[.agg (icC Q), .int .i64 0]) ∧ Below w.heap.size w w' := by
  have kS := Lib.hid (fun w => Sum_any w s (by omega))
  rw [h0] at kS
  obtain ⟨R, hR⟩ : ∃ R, R = r4 s.data.toList := ⟨_, rfl⟩
  have hn := num_cut4 s h
  rw [← hR] at hn
  have hr := r4_lt s.data.toList
  rw [← hR] at hr
  have hok : okR s.size 4 4 = true := decide_eq_true (by omega)
  have kN := Lib.hid (fun w => ReadBig_all w s 4 4 (by omega))
  rw [hn, hok] at kN
  obtain ⟨X0, x0⟩ : ∃ X, X = b9 s.data.toList 0 := ⟨_, rfl⟩
  obtain ⟨X1, x1⟩ : ∃ X, X = b9 s.data.toList 1 := ⟨_, rfl⟩
  have l0 := b9_lt s.data.toList 0
  have l1 := b9_lt s.data.toList 1
  rw [← x0] at l0
  rw [← x1] at l1
  have i0 : 0 < s.size := by omega
  have i1 : 1 < s.size := by omega
  have HX0 : Hid ((s[0]'i0).toNat = X0) := Lib.hid (by rw [x0]; exact b9_at s 0 i0)
  have HX1 : Hid ((s[1]'i1).toNat = X1) := Lib.hid (by rw [x1]; exact b9_at s 1 i1)
  have G0 : Hid (0 < s.size ∧ 1 < s.size) := Lib.hid ⟨i0, i1⟩
  have WZ : Hid (IntKind.i64.wrap (X0 : Int) = Q.kd) := Lib.hid (by rw [IntWalk.i64_in _ (by omega), hQ, x0]; rfl)
  have WA : Hid (IntKind.i64.wrap (X1 : Int) = Q.co) := Lib.hid (by rw [IntWalk.i64_in _ (by omega), hQ, x1]; rfl)
  have WB : Hid (IntKind.u32.wrap (R : Int) = Q.re) := Lib.hid (by rw [IntWalk.u32_in _ (by omega), hQ, hR]; rfl)
  have g8 : Hid (¬ (s.size : Int) < 8) := Lib.hid (by omega)
  have HD : Hid (s.extract 8 s.size = Q.da) := Lib.hid (by rw [hQ]; rfl)
  clear hQ hR hn hr hok x0 x1 l0 l1 h0
  go_enter Try.func20, Try.ntmps20
  go_upto_region 1 with fail
  have RM : Hid (IcRoom (w.alloc (.cells #[.int .i64 0, .int .i64 0, .int .u32 0, .string ⟨#[]⟩] 49)) w.heap.size) := Lib.hid (icroom_new _ _ _ rfl rfl)
  have BL : Hid (Below w.heap.size w (w.alloc (.cells #[.int .i64 0, .int .i64 0, .int .u32 0, .string ⟨#[]⟩] 49))) := Lib.hid ((Below.refl _ _).alloc (Nat.le_refl _) _)
  generalize w.alloc _ = W1 at RM BL ⊢
  go_wp2_with fail
  refine (kS.out _).mono ?_
  rintro e w2 ⟨rfl, b2⟩
  have RM2 := Lib.hid (RM.out.grow b2)
  have BL2 := bstep BL b2
  clear b2 RM BL
  go_wp2_with fail
  refine (kN.out _).mono ?_
  rintro e w3 ⟨rfl, b3⟩
  have RM3 := Lib.hid (RM2.out.grow (Below.of_none b3))
  have BL3 := bstep BL2 (Below.of_none b3)
  clear b3 RM2 BL2
  go_upto_region 8 with fail
  refine wp_region_noPanic ?_
  refine region_heldE (S := fun w' => IcRoom w' w.heap.size) (by kernel_rfl) (fun V d => RM3.out.kept (d.block _)) (fun V d hS => ?_)
  have BV0 := bstep BL3 d.below
  clear d BL3
  refine wpAnyH_take (i := 0) (oi := ⟨some 23, Op.move (Operand.tmp 0), _, _, _, none⟩) (v := (.string s)) rfl (by kernel_rfl) (by kernel_rfl) (by kernel_rfl) (fun _ _ _ h => h) (Or.inl ⟨by rfl, fun w' h' => ?_⟩) hS ?_
  · clear h'
    go_simp
  simp only [Act.put]
  refine wpAnyH_take (i := 1) (oi := ⟨some 24, Op.index 9 (Operand.tmp 23) (Operand.const (Value.int IntKind.i64 0)), _, _, _, none⟩) (v := (.int .u8 (X0 : Int))) rfl (by kernel_rfl) (by kernel_rfl) (by kernel_rfl) (fun _ _ _ h => h) (Or.inl ⟨by rfl, fun w' h' => ?_⟩) hS ?_
  · have c0 := HX0.out
    clear h'
    go_simp
    all_goals (intro hq; have := G0.out; omega)
  simp only [Act.put]
  refine wpAnyH_take (i := 2) (oi := ⟨some 25, Op.convert 5 3 (Operand.tmp 24), _, _, _, none⟩) (v := (.int .i64 Q.kd)) rfl (by kernel_rfl) (by kernel_rfl) (by kernel_rfl) (fun _ _ _ h => h) (Or.inl ⟨by rfl, fun w' h' => ?_⟩) hS ?_
  · have c0 := WZ.out
    clear h'
    go_simp
  simp only [Act.put]
  refine wpAnyH_take (i := 3) (oi := ⟨some 26, Op.move (Operand.tmp 0), _, _, _, none⟩) (v := (.string s)) rfl (by kernel_rfl) (by kernel_rfl) (by kernel_rfl) (fun _ _ _ h => h) (Or.inl ⟨by rfl, fun w' h' => ?_⟩) hS ?_
  · clear h'
    go_simp
  simp only [Act.put]
  refine wpAnyH_take (i := 4) (oi := ⟨some 27, Op.index 9 (Operand.tmp 26) (Operand.const (Value.int IntKind.i64 1)), _, _, _, none⟩) (v := (.int .u8 (X1 : Int))) rfl (by kernel_rfl) (by kernel_rfl) (by kernel_rfl) (fun _ _ _ h => h) (Or.inl ⟨by rfl, fun w' h' => ?_⟩) hS ?_
  · have c0 := HX1.out
    clear h'
    go_simp
    all_goals (intro hq; have := G0.out; omega)
  simp only [Act.put]
  refine wpAnyH_take (i := 5) (oi := ⟨some 28, Op.convert 5 3 (Operand.tmp 27), _, _, _, none⟩) (v := (.int .i64 Q.co)) rfl (by kernel_rfl) (by kernel_rfl) (by kernel_rfl) (fun _ _ _ h => h) (Or.inl ⟨by rfl, fun w' h' => ?_⟩) hS ?_
  · have c0 := WA.out
    clear h'
    go_simp
  simp only [Act.put]
  refine wpAnyH_take (i := 6) (oi := ⟨some 29, Op.move (Operand.tmp 4), _, _, _, none⟩) (v := (.int .u64 (R : Int))) rfl (by kernel_rfl) (by kernel_rfl) (by kernel_rfl) (fun _ _ _ h => h) (Or.inl ⟨by rfl, fun w' h' => ?_⟩) hS ?_
  · clear h'
    go_simp
  simp only [Act.put]
  refine wpAnyH_take (i := 7) (oi := ⟨some 30, Op.convert 95 47 (Operand.tmp 29), _, _, _, none⟩) (v := (.int .u32 Q.re)) rfl (by kernel_rfl) (by kernel_rfl) (by kernel_rfl) (fun _ _ _ h => h) (Or.inl ⟨by rfl, fun w' h' => ?_⟩) hS ?_
  · have c0 := WB.out
    clear h'
    go_simp
  simp only [Act.put]
  refine wpAnyH_take (i := 8) (oi := ⟨some 31, Op.move (Operand.tmp 0), _, _, _, none⟩) (v := (.string s)) rfl (by kernel_rfl) (by kernel_rfl) (by kernel_rfl) (fun _ _ _ h => h) (Or.inl ⟨by rfl, fun w' h' => ?_⟩) hS ?_
  · clear h'
    go_simp
  simp only [Act.put]
  refine wpAnyH_take (i := 9) (oi := ⟨some 32, Op.slice 9 (Operand.tmp 31) (some (Operand.const (Value.int IntKind.i64 8))) none none, _, _, _, none⟩) (v := (.string Q.da)) rfl (by kernel_rfl) (by kernel_rfl) (by kernel_rfl) (fun _ _ _ h => h) (Or.inl ⟨by rfl, fun w' h' => ?_⟩) hS ?_
  · have c0 := g8.out
    have c1 := HD.out
    clear h'
    go_simp
  simp only [Act.put]
  refine wpAnyH_take (i := 10) (oi := ⟨some 33, Op.build 49 #[(0, (Operand.tmp 25)), (1, (Operand.tmp 28)), (2, (Operand.tmp 30)), (3, (Operand.tmp 32))], _, _, _, none⟩) (v := (.agg #[.int .i64 Q.kd, .int .i64 Q.co, .int .u32 Q.re, .string Q.da])) rfl (by kernel_rfl) (by kernel_rfl) (by kernel_rfl) (fun _ _ _ h => h) (Or.inl ⟨by rfl, fun w' h' => ?_⟩) hS ?_
  · clear h'
    go_simp
  simp only [Act.put]
  obtain ⟨hst, S9⟩ := hS.put Q
  have S10 : IcRoom (V.setRow w.heap.size (icC Q)) w.heap.size := S9.room
  have BV1 := Lib.hid (below_setRow BV0.out (Nat.le_refl _) (icC Q))
  refine wpAnyH_ready (rs := [11]) (by kernel_rfl) (by simp) ?_
  refine rdy_store9 (n := 11) rfl rfl 49 (Operand.tmp 2) (Operand.tmp 33) rfl rfl (.agg #[.int .i64 Q.kd, .int .i64 Q.co, .int .u32 Q.re, .string Q.da]) w.heap.size (by kernel_rfl) (by kernel_rfl) hst S10 ?_
  refine wpAnyH_take (i := 12) (oi := ⟨some 3, Op.assign (Operand.const (Value.int IntKind.i64 0)), _, _, _, none⟩) (v := (.int .i64 0)) rfl (by kernel_rfl) (by kernel_rfl) (by kernel_rfl) (fun _ _ _ h => h) (Or.inl ⟨by rfl, fun w' h' => ?_⟩) S10 ?_
  · clear h'
    go_simp
  simp only [Act.put]
  refine wpAnyH_done (by kernel_rfl) (NoPanic.normal ?_) _
  simp only [List.setIfInBounds_toArray, List.set_cons_zero, List.set_cons_succ]
  go_wp2_with fail
  exact bodyPost_ret (v := .tuple #[.agg (icC Q), .int .i64 0]) (results_row _ 2 3 49 (by kernel_rfl) _ w.heap.size _ _ _ _ rfl rfl S9 Try.underlying49 rfl (by kernel_rfl)) rfl ⟨rfl, BV1.out⟩
theorem icRead_any (w : World) (s : ByteArray) (hm : s.size ≤ 140737488355328) :
    Calls Try.prog 20 #[.string s] w fun e w' => e = .returned (.tuple #[.agg (icC (irP s)), .int .i64 (irE s)]) ∧ Below w.heap.size w w' := by
  by_cases h1 : s.size < 8
  · have e1 : irE s = 7 := by rw [irE, if_pos h1]
    rw [irP, e1, if_neg (by decide)]
    exact icRead_short w s h1
  by_cases h2 : 566 < s.size
  · have e1 : irE s = 3 := by rw [irE, if_neg h1, if_pos h2]
    rw [irP, e1, if_neg (by decide)]
    exact icRead_long w s h2 hm
  by_cases h3 : sumT s.data.toList = 0
  · have e1 : irE s = 0 := by rw [irE, if_neg h1, if_neg h2, if_pos h3]
    rw [irP, e1, if_pos rfl]
    exact icRead_yes w s (by omega) (by omega) h3 _ rfl
  · have e1 : irE s = 9 := by rw [irE, if_neg h1, if_neg h2, if_neg h3]
    rw [irP, e1, if_neg (by decide)]
    exact icRead_sum w s (by omega) (by omega) _ rfl h3

set_option maxRecDepth 100000 in
set_option maxHeartbeats 2000000 in
theorem icEcho_no (w : World) (f : Ic) (h : ecB f = false) :
    Calls Try.prog 28 #[.agg (icC f)] w fun e w' => e = .returned (.tuple #[.agg (icC icZ), .bool false]) ∧ Below w.heap.size w w' := by
  by_cases hk : f.kd = 8
  · have hc : (f.co != 0) = true := by
      simp only [bne_iff_ne, ne_eq]
      intro e
      rw [ecB, decide_eq_true ⟨hk, e⟩] at h
      cases h
    have hk2 : (f.kd != 8) = false := by simp [hk]
    clear hk h
    go_enter Try.func28, Try.ntmps28
    go_upto_region 1 with fail
    have FA0 : IcAt (w.alloc (.cells (icC f) 49)) w.heap.size f := ic_new w _ f rfl
    have FA : Hid (IcAt ((w.alloc (.cells (icC f) 49)).alloc (.cells #[.int .i64 0, .int .i64 0, .int .u32 0, .string ⟨#[]⟩] 49)) w.heap.size f) := Lib.hid (FA0.grow ((Below.refl _ _).alloc (Nat.le_refl _) _))
    have RM : Hid (IcRoom ((w.alloc (.cells (icC f) 49)).alloc (.cells #[.int .i64 0, .int .i64 0, .int .u32 0, .string ⟨#[]⟩] 49)) (w.heap.size + 1)) := Lib.hid (icroom_new _ _ _ rfl (by simp))
    have BL : Hid (Below w.heap.size w ((w.alloc (.cells (icC f) 49)).alloc (.cells #[.int .i64 0, .int .i64 0, .int .u32 0, .string ⟨#[]⟩] 49))) := Lib.hid (((Below.refl _ _).alloc (Nat.le_refl _) _).alloc (by simp) _)
    clear FA0
    obtain ⟨n, hn⟩ : ∃ n, n = w.heap.size + 1 := ⟨_, rfl⟩
    have HN : Hid (w.heap.size ≤ n) := Lib.hid (by omega)
    generalize World.alloc _ _ = W1 at FA RM BL ⊢
    rw [← hn] at RM
    try rw [← hn]
    clear hn
    obtain ⟨c0, c1, c2, c3⟩ := FA.out.all
    obtain ⟨hst, S6⟩ := RM.out.put icZ
    have S6 := Lib.hid S6
    have B6 := Lib.hid (below_setRow BL.out HN.out (icC icZ))
    go_wp2_with (refine wpList_storeW 49 (.tmp 2) (.tmp 12) rfl rfl (.agg (icC icZ)) n rfl rfl hst ?_)
    exact bodyPost_ret (v := .tuple #[.agg (icC icZ), .bool false]) (results_row _ 2 3 49 (by kernel_rfl) _ n _ _ _ _ rfl rfl S6.out Try.underlying49 rfl (by kernel_rfl)) rfl ⟨rfl, B6.out⟩
  · have hk2 : (f.kd != 8) = true := by simpa using hk
    clear hk h
    go_enter Try.func28, Try.ntmps28
    go_upto_region 1 with fail
    have FA0 : IcAt (w.alloc (.cells (icC f) 49)) w.heap.size f := ic_new w _ f rfl
    have FA : Hid (IcAt ((w.alloc (.cells (icC f) 49)).alloc (.cells #[.int .i64 0, .int .i64 0, .int .u32 0, .string ⟨#[]⟩] 49)) w.heap.size f) := Lib.hid (FA0.grow ((Below.refl _ _).alloc (Nat.le_refl _) _))
    have RM : Hid (IcRoom ((w.alloc (.cells (icC f) 49)).alloc (.cells #[.int .i64 0, .int .i64 0, .int .u32 0, .string ⟨#[]⟩] 49)) (w.heap.size + 1)) := Lib.hid (icroom_new _ _ _ rfl (by simp))
    have BL : Hid (Below w.heap.size w ((w.alloc (.cells (icC f) 49)).alloc (.cells #[.int .i64 0, .int .i64 0, .int .u32 0, .string ⟨#[]⟩] 49))) := Lib.hid (((Below.refl _ _).alloc (Nat.le_refl _) _).alloc (by simp) _)
    clear FA0
    obtain ⟨n, hn⟩ : ∃ n, n = w.heap.size + 1 := ⟨_, rfl⟩
    have HN : Hid (w.heap.size ≤ n) := Lib.hid (by omega)
    generalize World.alloc _ _ = W1 at FA RM BL ⊢
    rw [← hn] at RM
    try rw [← hn]
    clear hn
    obtain ⟨c0, c1, c2, c3⟩ := FA.out.all
    obtain ⟨hst, S6⟩ := RM.out.put icZ
    have S6 := Lib.hid S6
    have B6 := Lib.hid (below_setRow BL.out HN.out (icC icZ))
    go_wp2_with (refine wpList_storeW 49 (.tmp 2) (.tmp 12) rfl rfl (.agg (icC icZ)) n rfl rfl hst ?_)
    exact bodyPost_ret (v := .tuple #[.agg (icC icZ), .bool false]) (results_row _ 2 3 49 (by kernel_rfl) _ n _ _ _ _ rfl rfl S6.out Try.underlying49 rfl (by kernel_rfl)) rfl ⟨rfl, B6.out⟩
set_option maxRecDepth 100000 in
set_option maxHeartbeats 2000000 in
theorem icEcho_yes (w : World) (f : Ic) (h : ecB f = true) (Q : Ic) (hQ : Q = ⟨0, 0, f.re, f.da⟩) :
    Calls Try.prog 28 #[.agg (icC f)] w fun e w' => e = .returned (.tuple #[.agg (icC Q), .bool true]) ∧ Below w.heap.size w w' := by
  obtain ⟨hk, hc⟩ : f.kd = 8 ∧ f.co = 0 := of_decide_eq_true h
  have hk2 : (f.kd != 8) = false := by simp [hk]
  have hc2 : (f.co != 0) = false := by simp [hc]
  subst hQ
  clear hk hc h
  go_enter Try.func28, Try.ntmps28
  go_upto_region 1 with fail
  have FA0 : IcAt (w.alloc (.cells (icC f) 49)) w.heap.size f := ic_new w _ f rfl
  have FA : Hid (IcAt ((w.alloc (.cells (icC f) 49)).alloc (.cells #[.int .i64 0, .int .i64 0, .int .u32 0, .string ⟨#[]⟩] 49)) w.heap.size f) := Lib.hid (FA0.grow ((Below.refl _ _).alloc (Nat.le_refl _) _))
  have RM : Hid (IcRoom ((w.alloc (.cells (icC f) 49)).alloc (.cells #[.int .i64 0, .int .i64 0, .int .u32 0, .string ⟨#[]⟩] 49)) (w.heap.size + 1)) := Lib.hid (icroom_new _ _ _ rfl (by simp))
  have BL : Hid (Below w.heap.size w ((w.alloc (.cells (icC f) 49)).alloc (.cells #[.int .i64 0, .int .i64 0, .int .u32 0, .string ⟨#[]⟩] 49))) := Lib.hid (((Below.refl _ _).alloc (Nat.le_refl _) _).alloc (by simp) _)
  clear FA0
  obtain ⟨n, hn⟩ : ∃ n, n = w.heap.size + 1 := ⟨_, rfl⟩
  have HN : Hid (w.heap.size ≤ n) := Lib.hid (by omega)
  generalize World.alloc _ _ = W1 at FA RM BL ⊢
  rw [← hn] at RM
  try rw [← hn]
  clear hn
  obtain ⟨c0, c1, c2, c3⟩ := FA.out.all
  obtain ⟨hst, S6⟩ := RM.out.put ⟨0, 0, f.re, f.da⟩
  have S6 := Lib.hid S6
  have B6 := Lib.hid (below_setRow BL.out HN.out (icC ⟨0, 0, f.re, f.da⟩))
  go_wp2_with (refine wpList_storeW 49 (.tmp 2) (.tmp 17) rfl rfl (.agg (icC ⟨0, 0, f.re, f.da⟩)) n rfl rfl hst ?_)
  exact bodyPost_ret (v := .tuple #[.agg (icC ⟨0, 0, f.re, f.da⟩), .bool true]) (results_row _ 2 3 49 (by kernel_rfl) _ n _ _ _ _ rfl rfl S6.out Try.underlying49 rfl (by kernel_rfl)) rfl ⟨rfl, B6.out⟩
theorem icEcho_any (w : World) (f : Ic) :
    Calls Try.prog 28 #[.agg (icC f)] w fun e w' => e = .returned (.tuple #[.agg (icC (ecC f)), .bool (ecB f)]) ∧ Below w.heap.size w w' := by
  cases h : ecB f with
  | false =>
    rw [ecC, if_neg (by rw [h]; decide)]
    exact icEcho_no w f h
  | true =>
    rw [ecC, if_pos h]
    exact icEcho_yes w f h _ rfl

theorem and_15 (X : Nat) (h : X < 256) : bits .and .u8 (X : Int) 15 = ((X % 16 : Nat) : Int) := by
  have : ∀ X : Fin 256, bits .and .u8 (X.1 : Int) 15 = ((X.1 % 16 : Nat) : Int) := by decide +kernel
  exact this ⟨X, h⟩
theorem and_255 (x : Int) : bits .and .i64 x 255 = x % 256 := by
  have h2 : (BitVec.ofInt 64 (255 : Int)).toNat = 255 := by decide
  have h1 : ((BitVec.ofInt 64 x).toNat : Int) = x % 18446744073709551616 := by
    rw [BitVec.toNat_ofInt, Int.toNat_of_nonneg (Int.emod_nonneg _ (by decide))]; rfl
  show IntKind.i64.wrap ((BitVec.ofInt 64 x &&& BitVec.ofInt 64 (255 : Int)).toNat : Int) = _
  rw [BitVec.toNat_and, h2, show ((BitVec.ofInt 64 x).toNat &&& 255) = (BitVec.ofInt 64 x).toNat % 256 from Nat.and_two_pow_sub_one_eq_mod _ 8]
  rw [IntWalk.i64_in _ (by omega)]
  omega
set_option maxRecDepth 100000 in
set_option maxHeartbeats 1000000 in
theorem quoted_any (w : World) (s : ByteArray) (hm : s.size ≤ 140737488355328) :
    Calls Try.prog 55 #[.string s] w fun e w' => e = .returned (.string (s.extract 0 (quN s))) ∧ w = w' := by
  by_cases h : s.size = 0
  · have hs : s = ⟨#[]⟩ := ByteArray.ext (Array.eq_empty_of_size_eq_zero h)
    subst hs
    have e0 : (⟨#[]⟩ : ByteArray).extract 0 (quN ⟨#[]⟩) = ⟨#[]⟩ := by decide +kernel
    rw [e0]
    go_enter Try.func55, Try.ntmps55
    go_wp2
    go_ret
    exact ⟨rfl, rfl⟩
  · have h0 : 0 < s.size := by omega
    obtain ⟨X, hX⟩ : ∃ X, X = b9 s.data.toList 0 := ⟨_, rfl⟩
    have hl := b9_lt s.data.toList 0
    rw [← hX] at hl
    have HX : (s[0]'h0).toNat = X := by rw [hX]; exact b9_at s 0 h0
    have hne : (s.toList == []) = false := by
      have : s.toList.length = s.size := by rw [ByteArray.toList_eq, Array.length_toList]; rfl
      cases hq : s.toList with
      | nil => rw [hq] at this; simp at this; omega
      | cons a b => rfl
    rw [quN, if_neg h, ← hX]
    have ha := and_15 X hl
    obtain ⟨Y, hY⟩ : ∃ Y, Y = X % 16 := ⟨_, rfl⟩
    rw [← hY] at ha ⊢
    have hy : Y < 16 := by omega
    have w1 : IntKind.i64.wrap (Y : Int) = (Y : Int) := IntWalk.i64_in _ (by omega)
    have w2 : IntKind.i64.wrap ((Y : Int) * 4) = (Y : Int) * 4 := IntWalk.i64_in _ (by omega)
    have w3 : IntKind.i64.wrap ((Y : Int) * 4 + 8) = (Y : Int) * 4 + 8 := IntWalk.i64_in _ (by omega)
    clear hX hl hY h
    by_cases hc : (Y : Int) * 4 + 8 ≤ s.size
    · have e1 : min (4 * Y + 8) s.size = 4 * Y + 8 := by omega
      have e2 : min ((Y : Int) * 4 + 8) (s.size : Int) = ((4 * Y + 8 : Nat) : Int) := by omega
      rw [e1]
      go_enter Try.func55, Try.ntmps55
      go_wp2
      go_ret
      exact ⟨by go_num, rfl⟩
    · have e1 : min (4 * Y + 8) s.size = s.size := by omega
      have e2 : min ((Y : Int) * 4 + 8) (s.size : Int) = (s.size : Int) := by omega
      rw [e1]
      go_enter Try.func55, Try.ntmps55
      go_wp2
      go_ret
      exact ⟨by go_num, rfl⟩
set_option maxRecDepth 100000 in
set_option maxHeartbeats 1000000 in
theorem unreach_any (w : World) (c : Int) (s : ByteArray) (hm : s.size ≤ 140737488355328) :
    Calls Try.prog 22 #[.int .i64 c, .string s] w fun e w' => e = .returned (.agg (icC (quC c s))) ∧ Below w.heap.size w w' := by
  have hb := and_255 c
  have kq := Lib.hid (fun w => quoted_any w s hm)
  obtain ⟨Q, hQ⟩ : ∃ Q, Q = quC c s := ⟨_, rfl⟩
  have HQ : Hid (icC Q = #[.int .i64 3, .int .i64 (c % 256), .int .u32 0, .string (s.extract 0 (quN s))]) := Lib.hid (by rw [hQ]; rfl)
  rw [← hQ]
  clear hQ
  generalize s.extract 0 (quN s) = D at kq HQ
  go_enter Try.func22, Try.ntmps22
  go_upto_region 1 with fail
  have RM : Hid (IcRoom (w.alloc (.cells #[.int .i64 0, .int .i64 0, .int .u32 0, .string ⟨#[]⟩] 49)) w.heap.size) := Lib.hid (icroom_new _ _ _ rfl rfl)
  have BL : Hid (Below w.heap.size w (w.alloc (.cells #[.int .i64 0, .int .i64 0, .int .u32 0, .string ⟨#[]⟩] 49))) := Lib.hid ((Below.refl _ _).alloc (Nat.le_refl _) _)
  generalize w.alloc _ = W1 at RM BL ⊢
  go_wp2_with fail
  refine (kq.out _).mono ?_
  rintro e w2 ⟨rfl, rfl⟩
  obtain ⟨hst, S6⟩ := RM.out.put Q
  have S6 := Lib.hid S6
  have B6 := Lib.hid (below_setRow BL.out (Nat.le_refl _) (icC Q))
  rw [HQ.out] at hst
  go_wp2_with (refine wpList_storeW 49 (.tmp 4) (.tmp 9) rfl rfl _ w.heap.size rfl rfl hst ?_)
  rw [← HQ.out]
  exact bodyPost_ret (v := .agg (icC Q)) (results_row1 _ 4 49 (by kernel_rfl) _ w.heap.size _ _ _ rfl S6.out Try.underlying49 rfl (by kernel_rfl)) rfl ⟨rfl, B6.out⟩

end Go.Proofs.Ytapfkhhabamndaa
