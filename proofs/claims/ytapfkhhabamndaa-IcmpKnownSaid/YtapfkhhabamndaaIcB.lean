/-
  Layer 9: the program's functions: a message's bytes, what bytes are read as, the echo, what says that nobody is there. Conditions: a text has at most 2^47 bytes.
-/
import Derived.Test.YtapfkhhabamndaaIcM
import Derived.Test.YtapfkhhabamndaaIpB
import Derived.Test.YtapfkhhabamndaaIpD
import Derived.Test.YtapfkhhabamndaaArpE
namespace Go.Proofs.Ytapfkhhabamndaa
open Go.RowKit Go.Sort
set_option linter.unusedVariables false

theorem data_lst9 (w : World) (x z : List UInt8) (y : ByteArray) (h : z = x ++ y.data.toList) (hl : z.length ≤ 70000) : (Op.stringOp .add ⟨x.toArray⟩ y).run Try.prog w = .ok (.string ⟨z.toArray⟩) w := by
  have := add_lst w x y.data.toList z h hl
  simpa using this
theorem isB_any (w : World) (x : Int) :
    Calls Try.prog 46 #[.int .i64 x] w fun e w' => e = .returned (.bool (decide (0 ≤ x ∧ x ≤ 255))) ∧ w = w' := by
  by_cases h : 0 ≤ x
  · have e : decide (0 ≤ x ∧ x ≤ 255) = decide (x ≤ 255) := by simp [h]
    rw [e]
    clear e
    go_enter Try.func46, Try.ntmps46
    go_wp2
    go_ret
    exact ⟨rfl, rfl⟩
  · have e : decide (0 ≤ x ∧ x ≤ 255) = false := decide_eq_false (fun g => h g.1)
    rw [e]
    clear e
    go_enter Try.func46, Try.ntmps46
    go_wp2
    go_ret
    exact ⟨rfl, rfl⟩
theorem big_any (w : World) (x n : Int) (hx : 0 ≤ x) (L : List UInt8) (hL : L = (leL x n).reverse) :
    Calls Try.prog 47 #[.int .u64 x, .int .i64 n] w fun e w' => e = .returned (.string ⟨L.toArray⟩) ∧ Below w.heap.size w w' := by
  subst hL
  refine (Big_all w x n hx).mono ?_
  rintro e w' ⟨rfl, k⟩
  exact ⟨rfl, Below.of_none k⟩
theorem num_cut4 (s : ByteArray) (h : 8 ≤ s.size) : num (cutS s 4 4).reverse = r4 s.data.toList := by
  have hL : s.data.toList.length = s.size := by rw [Array.length_toList]; rfl
  have hc : cutS s 4 4 = [s.data.toList.getD 4 0, s.data.toList.getD 5 0, s.data.toList.getD 6 0, s.data.toList.getD 7 0] := by
    unfold cutS okR
    rw [if_pos (decide_eq_true (by omega))]
    show (s.data.toList.drop 4).take 4 = _
    apply List.ext_getElem?
    intro i
    rw [List.getElem?_take, List.getElem?_drop]
    have h4 : 4 < s.data.toList.length := by omega
    have h5 : 5 < s.data.toList.length := by omega
    have h6 : 6 < s.data.toList.length := by omega
    have h7 : 7 < s.data.toList.length := by omega
    rcases i with _ | _ | _ | _ | i
    · simp [List.getD, List.getElem?_eq_getElem h4]
    · simp [List.getD, List.getElem?_eq_getElem h5]
    · simp [List.getD, List.getElem?_eq_getElem h6]
    · simp [List.getD, List.getElem?_eq_getElem h7]
    · simp; omega
  rw [hc]
  simp only [List.reverse_cons, List.reverse_nil, List.nil_append, List.cons_append, num, r4, b9]
  omega
theorem b9_at (s : ByteArray) (k : Nat) (h : k < s.size) : s[k].toNat = b9 s.data.toList k := by
  unfold b9
  have hL : s.data.toList[k]? = some s[k] := by
    rw [Array.getElem?_toList]
    exact Array.getElem?_eq_getElem h
  rw [List.getD_eq_getElem?_getD, hL]
  rfl

set_option maxRecDepth 100000 in
set_option maxHeartbeats 1000000 in
theorem icBytes_arg (w : World) (f : Ic) (h : mayI f = false) :
    Calls Try.prog 18 #[.agg (icC f)] w fun e w' => e = .returned (.tuple #[.string ⟨#[]⟩, .int .i64 1]) ∧ Below w.heap.size w w' := by
  have k1 := Lib.hid (fun w => isB_any w f.kd)
  have k2 := Lib.hid (fun w => isB_any w f.co)
  by_cases hk : 0 ≤ f.kd ∧ f.kd ≤ 255
  · have hc : ¬ (0 ≤ f.co ∧ f.co ≤ 255) := fun hc => by rw [mayI, decide_eq_true ⟨hk.1, hk.2, hc.1, hc.2⟩] at h; cases h
    rw [decide_eq_true hk] at k1
    rw [decide_eq_false hc] at k2
    clear hk hc h
    go_enter Try.func18, Try.ntmps18
    go_upto_region 1 with fail
    have FA : Hid (IcAt (w.alloc (.cells (icC f) 49)) w.heap.size f) := Lib.hid (ic_new w _ f rfl)
    have BL : Hid (Below w.heap.size w (w.alloc (.cells (icC f) 49))) := Lib.hid ((Below.refl _ _).alloc (Nat.le_refl _) _)
    generalize w.alloc _ = W1 at FA BL ⊢
    obtain ⟨c0, c1, c2, c3⟩ := FA.out.all
    go_wp2_with fail
    refine (k1.out _).mono ?_
    rintro e w2 ⟨rfl, rfl⟩
    go_wp2_with fail
    refine (k2.out _).mono ?_
    rintro e w3 ⟨rfl, rfl⟩
    go_wp2_with fail
    go_ret2
    exact ⟨rfl, BL.out⟩
  · rw [decide_eq_false hk] at k1
    clear hk h k2
    go_enter Try.func18, Try.ntmps18
    go_upto_region 1 with fail
    have FA : Hid (IcAt (w.alloc (.cells (icC f) 49)) w.heap.size f) := Lib.hid (ic_new w _ f rfl)
    have BL : Hid (Below w.heap.size w (w.alloc (.cells (icC f) 49))) := Lib.hid ((Below.refl _ _).alloc (Nat.le_refl _) _)
    generalize w.alloc _ = W1 at FA BL ⊢
    obtain ⟨c0, c1, c2, c3⟩ := FA.out.all
    go_wp2_with fail
    refine (k1.out _).mono ?_
    rintro e w2 ⟨rfl, rfl⟩
    go_wp2_with fail
    go_ret2
    exact ⟨rfl, BL.out⟩
set_option maxRecDepth 100000 in
set_option maxHeartbeats 1000000 in
theorem icBytes_long (w : World) (f : Ic) (h : mayI f = true) (hl : 558 < f.da.size) (hz : f.da.size ≤ 140737488355328) :
    Calls Try.prog 18 #[.agg (icC f)] w fun e w' => e = .returned (.tuple #[.string ⟨#[]⟩, .int .i64 3]) ∧ Below w.heap.size w w' := by
  obtain ⟨x0, x1, y0, y1⟩ := mayI_all h
  have k1 := Lib.hid (fun w => isB_any w f.kd)
  have k2 := Lib.hid (fun w => isB_any w f.co)
  rw [decide_eq_true ⟨x0, x1⟩] at k1
  rw [decide_eq_true ⟨y0, y1⟩] at k2
  clear x0 x1 y0 y1 h
  go_enter Try.func18, Try.ntmps18
  go_upto_region 1 with fail
  have FA : Hid (IcAt (w.alloc (.cells (icC f) 49)) w.heap.size f) := Lib.hid (ic_new w _ f rfl)
  have BL : Hid (Below w.heap.size w (w.alloc (.cells (icC f) 49))) := Lib.hid ((Below.refl _ _).alloc (Nat.le_refl _) _)
  generalize w.alloc _ = W1 at FA BL ⊢
  obtain ⟨c0, c1, c2, c3⟩ := FA.out.all
  go_wp2_with fail
  refine (k1.out _).mono ?_
  rintro e w2 ⟨rfl, rfl⟩
  go_wp2_with fail
  refine (k2.out _).mono ?_
  rintro e w3 ⟨rfl, rfl⟩
  go_wp2_with fail
  go_ret2
  exact ⟨rfl, BL.out⟩
set_option maxRecDepth 100000 in
set_option maxHeartbeats 4000000 in
theorem icBytes_yes (w : World) (f : Ic) (hf : 0 ≤ f.re ∧ f.re < 4294967296) (h : mayI f = true) (hl : f.da.size ≤ 558) (HL : List UInt8) (hHL : HL = icL f) :
    Calls Try.prog 18 #[.agg (icC f)] w fun e w' => e = .returned (.tuple #[.string ⟨HL.toArray⟩, .int .i64 0]) ∧ Below w.heap.size w w' := by
  obtain ⟨x0, x1, y0, y1⟩ := mayI_all h
  obtain ⟨e0, e1⟩ := hf
  have k1 := Lib.hid (fun w => isB_any w f.kd)
  have k2 := Lib.hid (fun w => isB_any w f.co)
  rw [decide_eq_true ⟨x0, x1⟩] at k1
  rw [decide_eq_true ⟨y0, y1⟩] at k2
  obtain ⟨N1, hN1⟩ : ∃ L : List UInt8, L = [UInt8.ofNat f.kd.toNat] := ⟨_, rfl⟩
  obtain ⟨N2, hN2⟩ : ∃ L : List UInt8, L = [UInt8.ofNat f.co.toNat] := ⟨_, rfl⟩
  obtain ⟨AH, hAH⟩ : ∃ L : List UInt8, L = icA f := ⟨_, rfl⟩
  obtain ⟨R4, hR4⟩ : ∃ L : List UInt8, L = four f.re.toNat := ⟨_, rfl⟩
  obtain ⟨BH, hBH⟩ : ∃ L : List UInt8, L = icH f := ⟨_, rfl⟩
  obtain ⟨Z, hZ⟩ : ∃ L, L = two 0 := ⟨_, rfl⟩
  obtain ⟨M1, m1⟩ : ∃ L, L = AH ++ Z := ⟨_, rfl⟩
  obtain ⟨M2, m2⟩ : ∃ L, L = M1 ++ BH := ⟨_, rfl⟩
  obtain ⟨K, hK⟩ : ∃ K, K = sumT M2 := ⟨_, rfl⟩
  obtain ⟨T, hT⟩ : ∃ L, L = two K := ⟨_, rfl⟩
  obtain ⟨M3, m3⟩ : ∃ L, L = AH ++ T := ⟨_, rfl⟩
  have lA : AH.length = 2 := by rw [hAH]; rfl
  have lB : BH.length = 4 + f.da.size := by rw [hBH, icH_length]
  have lZ : Z.length = 2 := by rw [hZ]; rfl
  have lT : T.length = 2 := by rw [hT]; rfl
  have l1 : M1.length = 4 := by rw [m1, List.length_append, lA, lZ]
  have l2 : M2.length = 8 + f.da.size := by rw [m2, List.length_append, l1, lB]; omega
  have l3 : M3.length = 4 := by rw [m3, List.length_append, lA, lT]
  have m4 : HL = M3 ++ BH := by rw [hHL, icL, m3, hT, hK, m2, m1, hZ, hBH, hAH]; rfl
  have l4 : HL.length = 8 + f.da.size := by rw [m4, List.length_append, l3, lB]; omega
  have hK2 : K ≤ 65535 := by rw [hK]; exact sumT_le _
  have C1 := Lib.hid (fun w => add_lst w N1 N2 AH (by rw [hAH, hN1, hN2]; rfl) (by omega))
  have C2 := Lib.hid (fun w => data_lst9 w R4 BH f.da (by rw [hBH, hR4]; rfl) (by omega))
  have D1 := Lib.hid (fun w => add_lst w AH Z M1 m1 (by omega))
  have D2 := Lib.hid (fun w => add_lst w M1 BH M2 m2 (by omega))
  have D3 := Lib.hid (fun w => add_lst w AH T M3 m3 (by omega))
  have D4 := Lib.hid (fun w => add_lst w M3 BH HL m4 (by omega))
  have WA : Hid (IntKind.u64.wrap f.kd = f.kd) := Lib.hid (IntWalk.u64_in _ (by omega))
  have WB : Hid (IntKind.u64.wrap f.co = f.co) := Lib.hid (IntWalk.u64_in _ (by omega))
  have WC : Hid (IntKind.u64.wrap f.re = f.re) := Lib.hid (IntWalk.u64_in _ (by omega))
  have WD : IntKind.u64.wrap (K : Int) = (K : Int) := IntWalk.u64_in _ (by omega)
  have k3 := Lib.hid (fun w => big_any w f.kd 1 x0 N1 (by rw [hN1, be1]))
  have k4 := Lib.hid (fun w => big_any w f.co 1 y0 N2 (by rw [hN2, be1]))
  have k5 := Lib.hid (fun w => big_any w f.re 4 e0 R4 (by rw [hR4, be4]))
  have k6 := Lib.hid (fun w => big_any w 0 2 (by decide) Z (by rw [hZ, be2]; rfl))
  have k7 := Lib.hid (fun w => Sum_any w ⟨M2.toArray⟩ (by show M2.toArray.size ≤ _; rw [List.size_toArray, l2]; omega))
  rw [show (⟨M2.toArray⟩ : ByteArray).data.toList = M2 from rfl, ← hK] at k7
  have k8 := Lib.hid (fun w => big_any w (K : Int) 2 (by omega) T (by rw [hT, be2]; rfl))
  clear x0 x1 y0 y1 e0 e1 h hN1 hN2 hAH hR4 hBH hZ m1 m2 hK hT m3 m4 lA lB lZ lT l1 l2 l3 l4 hHL hK2
  go_enter Try.func18, Try.ntmps18
  go_upto_region 1 with fail
  have FA : Hid (IcAt (w.alloc (.cells (icC f) 49)) w.heap.size f) := Lib.hid (ic_new w _ f rfl)
  have BL : Hid (Below w.heap.size w (w.alloc (.cells (icC f) 49))) := Lib.hid ((Below.refl _ _).alloc (Nat.le_refl _) _)
  generalize w.alloc _ = W1 at FA BL ⊢
  obtain ⟨c0, c1, c2, c3⟩ := FA.out.all
  go_wp2_with fail
  refine (k1.out _).mono ?_
  rintro e w2 ⟨rfl, rfl⟩
  go_wp2_with fail
  refine (k2.out _).mono ?_
  rintro e w3 ⟨rfl, rfl⟩
  go_upto_region 5 with fail
  clear c0 c1 c2 c3
  refine wp_region_noPanic ?_
  refine region_heldE (S := fun w' => IcAt w' w.heap.size f) (by kernel_rfl) (fun V d => (d.block _).trans FA.out) (fun V d hS => ?_)
  have BV0 := bstep BL d.below
  clear d BL
  refine wpAnyH_take (i := 0) (oi := ⟨some 21, Op.fieldAddr 49 (Operand.tmp 1) 0, _, _, _, none⟩) (v := (.pointer (some ⟨w.heap.size, 0, none⟩))) rfl (by kernel_rfl) (by kernel_rfl) (by kernel_rfl) (fun _ _ _ h => h) (Or.inl ⟨by rfl, fun w' h' => ?_⟩) hS ?_
  · clear h'
    go_simp
  simp only [Act.put]
  refine wpAnyH_take (i := 1) (oi := ⟨some 22, Op.load 3 (Operand.tmp 21), _, _, _, none⟩) (v := (.int .i64 f.kd)) rfl (by kernel_rfl) (by kernel_rfl) (by kernel_rfl) (fun _ _ _ h => h) (Or.inl ⟨by rfl, fun w' h' => ?_⟩) hS ?_
  · have c0 := IcAt.kd h'
    clear h'
    go_simp
  simp only [Act.put]
  refine wpAnyH_take (i := 2) (oi := ⟨some 23, Op.convert 3 95 (Operand.tmp 22), _, _, _, none⟩) (v := (.int .u64 f.kd)) rfl (by kernel_rfl) (by kernel_rfl) (by kernel_rfl) (fun _ _ _ h => h) (Or.inl ⟨by rfl, fun w' h' => ?_⟩) hS ?_
  · have c0 := WA.out
    clear h'
    go_simp
  simp only [Act.put]
  refine wpAnyH_take (i := 4) (oi := ⟨some 25, Op.fieldAddr 49 (Operand.tmp 1) 1, _, _, _, none⟩) (v := (.pointer (some ⟨w.heap.size, 1, none⟩))) rfl (by kernel_rfl) (by kernel_rfl) (by kernel_rfl) (fun _ _ _ h => h) (Or.inl ⟨by rfl, fun w' h' => ?_⟩) hS ?_
  · clear h'
    go_simp
  simp only [Act.put]
  refine wpAnyH_take (i := 5) (oi := ⟨some 26, Op.load 3 (Operand.tmp 25), _, _, _, none⟩) (v := (.int .i64 f.co)) rfl (by kernel_rfl) (by kernel_rfl) (by kernel_rfl) (fun _ _ _ h => h) (Or.inl ⟨by rfl, fun w' h' => ?_⟩) hS ?_
  · have c0 := IcAt.co h'
    clear h'
    go_simp
  simp only [Act.put]
  refine wpAnyH_take (i := 6) (oi := ⟨some 27, Op.convert 3 95 (Operand.tmp 26), _, _, _, none⟩) (v := (.int .u64 f.co)) rfl (by kernel_rfl) (by kernel_rfl) (by kernel_rfl) (fun _ _ _ h => h) (Or.inl ⟨by rfl, fun w' h' => ?_⟩) hS ?_
  · have c0 := WB.out
    clear h'
    go_simp
  simp only [Act.put]
  refine wpAnyH_ready (rs := [3]) (by kernel_rfl) (by simp) ?_
  refine AllReadyH.cons rfl (fun K hK => ?_) AllReadyH.nil
  go_simp
  refine (k3.out _).mono ?_
  rintro e v1 ⟨rfl, b1⟩
  have S1 : IcAt v1 w.heap.size f := hS.grow b1
  have BV1 := bstep BV0 b1
  clear b1 BV0
  go_simp
  refine hK.out _ _ S1 (fun _ => ?_)
  clear hK K
  refine wpAnyH_ready (rs := [7]) (by kernel_rfl) (by simp) ?_
  refine AllReadyH.cons rfl (fun K hK => ?_) AllReadyH.nil
  go_simp
  refine (k4.out _).mono ?_
  rintro e v2 ⟨rfl, b2⟩
  have S2 : IcAt v2 w.heap.size f := S1.grow b2
  have BV2 := bstep BV1 b2
  clear b2 BV1
  go_simp
  refine hK.out _ _ S2 (fun _ => ?_)
  clear hK K
  refine wpAnyH_take (i := 8) (oi := ⟨some 29, Op.binOp BinOp.add 9 (Operand.tmp 24) (Operand.tmp 28) 9, _, _, _, none⟩) (v := (.string ⟨AH.toArray⟩)) rfl (by kernel_rfl) (by kernel_rfl) (by kernel_rfl) (fun _ _ _ h => h) (Or.inl ⟨by rfl, fun w' h' => ?_⟩) S2 ?_
  · have c0 := C1.out w'
    clear h'
    go_simp
  simp only [Act.put]
  refine wpAnyH_take (i := 9) (oi := ⟨some 4, Op.assign (Operand.tmp 29), _, _, _, none⟩) (v := (.string ⟨AH.toArray⟩)) rfl (by kernel_rfl) (by kernel_rfl) (by kernel_rfl) (fun _ _ _ h => h) (Or.inl ⟨by rfl, fun w' h' => ?_⟩) S2 ?_
  · clear h'
    go_simp
  simp only [Act.put]
  refine wpAnyH_done (by kernel_rfl) (NoPanic.normal ?_) _
  simp only [List.setIfInBounds_toArray, List.set_cons_zero, List.set_cons_succ]
  have F5 := Lib.hid S2
  clear S1 S2 hS FA
  go_upto_region 6 with fail
  refine wp_region_noPanic ?_
  refine region_heldE (S := fun w' => IcAt w' w.heap.size f) (by kernel_rfl) (fun V d => (d.block _).trans F5.out) (fun X d hX => ?_)
  have BX := bstep BV2 d.below
  clear d BV2
  refine wpAnyH_take (i := 0) (oi := ⟨some 30, Op.fieldAddr 49 (Operand.tmp 1) 2, _, _, _, none⟩) (v := (.pointer (some ⟨w.heap.size, 2, none⟩))) rfl (by kernel_rfl) (by kernel_rfl) (by kernel_rfl) (fun _ _ _ h => h) (Or.inl ⟨by rfl, fun w' h' => ?_⟩) hX ?_
  · clear h'
    go_simp
  simp only [Act.put]
  refine wpAnyH_take (i := 1) (oi := ⟨some 31, Op.load 47 (Operand.tmp 30), _, _, _, none⟩) (v := (.int .u32 f.re)) rfl (by kernel_rfl) (by kernel_rfl) (by kernel_rfl) (fun _ _ _ h => h) (Or.inl ⟨by rfl, fun w' h' => ?_⟩) hX ?_
  · have c0 := IcAt.re h'
    clear h'
    go_simp
  simp only [Act.put]
  refine wpAnyH_take (i := 2) (oi := ⟨some 32, Op.convert 47 95 (Operand.tmp 31), _, _, _, none⟩) (v := (.int .u64 f.re)) rfl (by kernel_rfl) (by kernel_rfl) (by kernel_rfl) (fun _ _ _ h => h) (Or.inl ⟨by rfl, fun w' h' => ?_⟩) hX ?_
  · have c0 := WC.out
    clear h'
    go_simp
  simp only [Act.put]
  refine wpAnyH_take (i := 4) (oi := ⟨some 34, Op.fieldAddr 49 (Operand.tmp 1) 3, _, _, _, none⟩) (v := (.pointer (some ⟨w.heap.size, 3, none⟩))) rfl (by kernel_rfl) (by kernel_rfl) (by kernel_rfl) (fun _ _ _ h => h) (Or.inl ⟨by rfl, fun w' h' => ?_⟩) hX ?_
  · clear h'
    go_simp
  simp only [Act.put]
  refine wpAnyH_take (i := 5) (oi := ⟨some 35, Op.load 9 (Operand.tmp 34), _, _, _, none⟩) (v := (.string f.da)) rfl (by kernel_rfl) (by kernel_rfl) (by kernel_rfl) (fun _ _ _ h => h) (Or.inl ⟨by rfl, fun w' h' => ?_⟩) hX ?_
  · have c0 := IcAt.da h'
    clear h'
    go_simp
  simp only [Act.put]
  refine wpAnyH_ready (rs := [3]) (by kernel_rfl) (by simp) ?_
  refine AllReadyH.cons rfl (fun K hK => ?_) AllReadyH.nil
  go_simp
  refine (k5.out _).mono ?_
  rintro e v3 ⟨rfl, b3⟩
  have S3 : IcAt v3 w.heap.size f := hX.grow b3
  have BV3 := bstep BX b3
  clear b3 BX
  go_simp
  refine hK.out _ _ S3 (fun _ => ?_)
  clear hK K
  refine wpAnyH_take (i := 6) (oi := ⟨some 36, Op.binOp BinOp.add 9 (Operand.tmp 33) (Operand.tmp 35) 9, _, _, _, none⟩) (v := (.string ⟨BH.toArray⟩)) rfl (by kernel_rfl) (by kernel_rfl) (by kernel_rfl) (fun _ _ _ h => h) (Or.inl ⟨by rfl, fun w' h' => ?_⟩) S3 ?_
  · have c0 := C2.out w'
    clear h'
    go_simp
  simp only [Act.put]
  refine wpAnyH_take (i := 7) (oi := ⟨some 5, Op.assign (Operand.tmp 36), _, _, _, none⟩) (v := (.string ⟨BH.toArray⟩)) rfl (by kernel_rfl) (by kernel_rfl) (by kernel_rfl) (fun _ _ _ h => h) (Or.inl ⟨by rfl, fun w' h' => ?_⟩) S3 ?_
  · clear h'
    go_simp
  simp only [Act.put]
  refine wpAnyH_done (by kernel_rfl) (NoPanic.normal ?_) _
  simp only [List.setIfInBounds_toArray, List.set_cons_zero, List.set_cons_succ]
  clear S3 hX F5
  go_wp2_with fail
  refine (k6.out _).mono ?_
  rintro e u1 ⟨rfl, g1⟩
  have G1 := bstep BV3 g1
  have q1 := D1.out u1
  have q2 := D2.out u1
  go_wp2_with fail
  refine (k7.out _).mono ?_
  rintro e u2 ⟨rfl, g2⟩
  have G2 := bstep G1 g2
  clear q1 q2
  go_wp2_with fail
  refine (k8.out _).mono ?_
  rintro e u3 ⟨rfl, g3⟩
  have G3 := bstep G2 g3
  have q3 := D3.out u3
  have q4 := D4.out u3
  go_wp2_with fail
  go_ret2
  exact ⟨rfl, G3.out⟩
theorem icBytes_any (w : World) (f : Ic) (hf : f.ok) (hz : f.da.size ≤ 140737488355328) :
    Calls Try.prog 18 #[.agg (icC f)] w fun e w' => e = .returned (.tuple #[.string (icS f), .int .i64 (icE f)]) ∧ Below w.heap.size w w' := by
  cases h : mayI f with
  | false =>
    have e1 : icE f = 1 := by rw [icE, if_pos h]
    rw [icS, e1, if_neg (by decide)]
    exact icBytes_arg w f h
  | true =>
    by_cases h2 : 558 < f.da.size
    · have e1 : icE f = 3 := by rw [icE, if_neg (by rw [h]; decide), if_pos h2]
      rw [icS, e1, if_neg (by decide)]
      exact icBytes_long w f h h2 hz
    · have e1 : icE f = 0 := by rw [icE, if_neg (by rw [h]; decide), if_neg h2]
      rw [icS, e1, if_pos rfl]
      exact icBytes_yes w f (re_lt hf) h (by omega) _ rfl

end Go.Proofs.Ytapfkhhabamndaa
