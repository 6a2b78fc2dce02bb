/-
  Layer 10: the program's bytes of a segment. Conditions: a segment's numbers are numbers of their kind, its data has at most 2^47 bytes.
-/
import Derived.Test.YtbjoibgkhooljaaSgB
namespace Go.Proofs.Ytbjoibgkhooljaa
open Go.RowKit Go.Sort
set_option linter.unusedVariables false

set_option maxRecDepth 100000 in
set_option maxHeartbeats 1000000 in
theorem sgBytes_arg (w : World) (f : Sg) (i j : Ip4) (h : maySg f = false) :
    Calls Try.prog 22 #[.agg (sgC f), .agg (ipC i), .agg (ipC j)] w fun e w' => e = .returned (.tuple #[.string ⟨#[]⟩, .int .i64 1]) ∧ Below w.heap.size w w' := by
  have kM := Lib.hid (fun w => mayBe10 w f)
  rw [h] at kM
  go_enter Try.func22, Try.ntmps22
  go_upto_region 1 with fail
  obtain ⟨n, m, k, hn, hm, hk, fa, bl⟩ := sgbx_new w f i j
  have FA := Lib.hid fa
  have BL := Lib.hid bl
  clear fa bl
  generalize World.alloc _ _ = W1 at FA BL ⊢
  try rw [hk]
  try rw [hm]
  try rw [hn]
  clear hn hm hk
  have hp := FA.out.sg
  go_wp2_with (refine sg_ld (by rfl) (.tmp 3) rfl n rfl _ hp ?_)
  refine (kM.out _).mono ?_
  rintro e w2 ⟨rfl, b2⟩
  have F2 := Lib.hid (FA.out.grow b2)
  have B2 := bstep BL b2
  clear b2 hp FA BL
  go_wp2_with fail
  go_ret2
  exact ⟨rfl, B2.out⟩
set_option maxRecDepth 100000 in
set_option maxHeartbeats 1000000 in
theorem sgBytes_long (w : World) (f : Sg) (i j : Ip4) (h : maySg f = true) (hl : 546 < opN f + f.da.size) (hz : f.da.size ≤ 140737488355328) :
    Calls Try.prog 22 #[.agg (sgC f), .agg (ipC i), .agg (ipC j)] w fun e w' => e = .returned (.tuple #[.string ⟨#[]⟩, .int .i64 3]) ∧ Below w.heap.size w w' := by
  obtain ⟨O, hO⟩ : ∃ O, O = opL f := ⟨_, rfl⟩
  obtain ⟨oN, hoN⟩ : ∃ n, n = opN f := ⟨_, rfl⟩
  have hms := (maySg_all h).2.2.2.2.1
  have hlO : O.length = oN := by rw [hO, opL_length, hoN]
  have hoc : oN = 0 ∨ oN = 4 := by rw [hoN]; exact opN_le f
  have kO := Lib.hid (fun w => options_any w f hms O hO)
  have kM := Lib.hid (fun w => mayBe10 w f)
  rw [h] at kM
  have wz : IntKind.i64.wrap ((oN : Int) + (f.da.size : Int)) = (oN : Int) + (f.da.size : Int) := IntWalk.i64_in _ (by omega)
  have hgt : decide ((546 : Int) < (oN : Int) + (f.da.size : Int)) = true := decide_eq_true (by rw [hoN]; omega)
  have hgt2 : (546 : Int) < (oN : Int) + (f.da.size : Int) := by rw [hoN]; omega
  clear hoc hms hO hoN h hl hz
  go_enter Try.func22, Try.ntmps22
  go_upto_region 1 with fail
  obtain ⟨n, m, k, hn, hm, hk, fa, bl⟩ := sgbx_new w f i j
  have FA := Lib.hid fa
  have BL := Lib.hid bl
  clear fa bl
  generalize World.alloc _ _ = W1 at FA BL ⊢
  try rw [hk]
  try rw [hm]
  try rw [hn]
  clear hn hm hk
  have hp := FA.out.sg
  go_wp2_with (refine sg_ld (by rfl) (.tmp 3) rfl n rfl _ hp ?_)
  refine (kM.out _).mono ?_
  rintro e w2 ⟨rfl, b2⟩
  have F2 := Lib.hid (FA.out.grow b2)
  have B2 := bstep BL b2
  clear b2 hp FA BL
  have c6 := F2.out.sg.ms
  go_wp2_with fail
  refine (kO.out _).mono ?_
  rintro e w3 ⟨rfl, b3⟩
  have F3 := Lib.hid (F2.out.grow b3)
  have B3 := bstep B2 b3
  clear b3 F2 B2 c6
  have c7 := F3.out.sg.da
  have hsO : (O.toArray.size : Int) = (oN : Int) := by rw [List.size_toArray, hlO]
  go_wp2_with fail
  go_ret2
  exact ⟨rfl, B3.out⟩
set_option maxRecDepth 100000 in
set_option maxHeartbeats 8000000 in
theorem sgBytes_yes (w : World) (f : Sg) (i j : Ip4) (hf : (0 ≤ f.sq ∧ f.sq < 4294967296) ∧ (0 ≤ f.ak ∧ f.ak < 4294967296)) (h : maySg f = true) (hl : opN f + f.da.size ≤ 546) (HL : List UInt8) (hHL : HL = sgL i j f) :
    Calls Try.prog 22 #[.agg (sgC f), .agg (ipC i), .agg (ipC j)] w fun e w' => e = .returned (.tuple #[.string ⟨HL.toArray⟩, .int .i64 0]) ∧ Below w.heap.size w w' := by
  obtain ⟨O, hO⟩ : ∃ O, O = opL f := ⟨_, rfl⟩
  obtain ⟨oN, hoN⟩ : ∃ n, n = opN f := ⟨_, rfl⟩
  have hms := (maySg_all h).2.2.2.2.1
  have hlO : O.length = oN := by rw [hO, opL_length, hoN]
  have hoc : oN = 0 ∨ oN = 4 := by rw [hoN]; exact opN_le f
  have kO := Lib.hid (fun w => options_any w f hms O hO)
  have kM := Lib.hid (fun w => mayBe10 w f)
  rw [h] at kM
  have wz : IntKind.i64.wrap ((oN : Int) + (f.da.size : Int)) = (oN : Int) + (f.da.size : Int) := IntWalk.i64_in _ (by omega)
  obtain ⟨⟨a0, a1⟩, ⟨b0, b1⟩, ⟨g0, g1⟩, ⟨d0, d1⟩, ⟨e0, e1⟩, _⟩ := maySg_all h
  obtain ⟨⟨q0, q1⟩, ⟨p0, p1⟩⟩ := hf
  have hgt : decide ((546 : Int) < (oN : Int) + (f.da.size : Int)) = false := decide_eq_false (by rw [hoN]; omega)
  have hgt2 : ¬ (546 : Int) < (oN : Int) + (f.da.size : Int) := by rw [hoN]; omega
  have w20 : IntKind.i64.wrap ((20 : Int) + (oN : Int)) = 20 + (oN : Int) := IntWalk.i64_in _ (by omega)
  obtain ⟨U, hU⟩ : ∃ U : Int, Int.tdiv (20 + (oN : Int)) 4 = U := ⟨_, rfl⟩
  have hU2 : U = 5 ∨ U = 6 := by rw [← hU]; rcases hoc with e | e <;> rw [e]; exact .inl rfl; exact .inr rfl
  have wU : IntKind.i64.wrap U = U := IntWalk.i64_in _ (by omega)
  obtain ⟨V, hV⟩ : ∃ V : Int, V = ((80 + 4 * oN : Nat) : Int) := ⟨_, rfl⟩
  have HSH : Hid (IntKind.i64.wrap (U * 16) = V) := Lib.hid (by
    have hUV : U * 16 = V := by rw [hV, ← hU]; rcases hoc with e | e <;> rw [e] <;> rfl
    rw [hUV]; exact IntWalk.i64_in _ (by omega))
  obtain ⟨N1, hN1⟩ : ∃ L : List UInt8, L = two f.fr.toNat := ⟨_, rfl⟩
  obtain ⟨N2, hN2⟩ : ∃ L : List UInt8, L = two f.dt.toNat := ⟨_, rfl⟩
  obtain ⟨N3, hN3⟩ : ∃ L : List UInt8, L = four f.sq.toNat := ⟨_, rfl⟩
  obtain ⟨N4, hN4⟩ : ∃ L : List UInt8, L = four f.ak.toNat := ⟨_, rfl⟩
  obtain ⟨N5, hN5⟩ : ∃ L : List UInt8, L = [UInt8.ofNat (80 + 4 * oN)] := ⟨_, rfl⟩
  obtain ⟨N6, hN6⟩ : ∃ L : List UInt8, L = [UInt8.ofNat f.fl.toNat] := ⟨_, rfl⟩
  obtain ⟨N7, hN7⟩ : ∃ L : List UInt8, L = two f.wi.toNat := ⟨_, rfl⟩
  obtain ⟨Z, hZ⟩ : ∃ L, L = two 0 := ⟨_, rfl⟩
  obtain ⟨A2, hA2⟩ : ∃ L, L = N1 ++ N2 := ⟨_, rfl⟩
  obtain ⟨A3, hA3⟩ : ∃ L, L = A2 ++ N3 := ⟨_, rfl⟩
  obtain ⟨A4, hA4⟩ : ∃ L, L = A3 ++ N4 := ⟨_, rfl⟩
  obtain ⟨A5, hA5⟩ : ∃ L, L = A4 ++ N5 := ⟨_, rfl⟩
  obtain ⟨A6, hA6⟩ : ∃ L, L = A5 ++ N6 := ⟨_, rfl⟩
  obtain ⟨A7, hA7⟩ : ∃ L, L = A6 ++ N7 := ⟨_, rfl⟩
  obtain ⟨H1, hH1⟩ : ∃ L, L = Z ++ O := ⟨_, rfl⟩
  obtain ⟨H2, hH2⟩ : ∃ L, L = H1 ++ f.da.data.toList := ⟨_, rfl⟩
  obtain ⟨M1, hM1⟩ : ∃ L, L = A7 ++ Z := ⟨_, rfl⟩
  obtain ⟨M2, hM2⟩ : ∃ L, L = M1 ++ H2 := ⟨_, rfl⟩
  obtain ⟨K, hK⟩ : ∃ K, K = sumS i j M2 := ⟨_, rfl⟩
  obtain ⟨T, hT⟩ : ∃ L, L = two K := ⟨_, rfl⟩
  obtain ⟨M3, hM3⟩ : ∃ L, L = A7 ++ T := ⟨_, rfl⟩
  have l1 : N1.length = 2 := by rw [hN1]; rfl
  have l2 : N2.length = 2 := by rw [hN2]; rfl
  have l3 : N3.length = 4 := by rw [hN3]; rfl
  have l4 : N4.length = 4 := by rw [hN4]; rfl
  have l5 : N5.length = 1 := by rw [hN5]; rfl
  have l6 : N6.length = 1 := by rw [hN6]; rfl
  have l7 : N7.length = 2 := by rw [hN7]; rfl
  have lZ : Z.length = 2 := by rw [hZ]; rfl
  have lT : T.length = 2 := by rw [hT]; rfl
  have la2 : A2.length = 4 := by rw [hA2, List.length_append, l1, l2]
  have la3 : A3.length = 8 := by rw [hA3, List.length_append, la2, l3]
  have la4 : A4.length = 12 := by rw [hA4, List.length_append, la3, l4]
  have la5 : A5.length = 13 := by rw [hA5, List.length_append, la4, l5]
  have la6 : A6.length = 14 := by rw [hA6, List.length_append, la5, l6]
  have la7 : A7.length = 16 := by rw [hA7, List.length_append, la6, l7]
  have lh1 : H1.length = 2 + oN := by rw [hH1, List.length_append, lZ, hlO]
  have lh2 : H2.length = 2 + oN + f.da.size := by rw [hH2, List.length_append, lh1, list_size]
  have lm1 : M1.length = 18 := by rw [hM1, List.length_append, la7, lZ]
  have lm2 : M2.length = 20 + oN + f.da.size := by rw [hM2, List.length_append, lm1, lh2]; omega
  have lm3 : M3.length = 18 := by rw [hM3, List.length_append, la7, lT]
  have eA : A7 = ahS f := by rw [hA7, hA6, hA5, hA4, hA3, hA2, hN1, hN2, hN3, hN4, hN5, hN6, hN7, hoN]; rfl
  have eH : H2 = bhS f := by rw [hH2, hH1, hZ, hO]; rfl
  have eK : K = sgK i j f := by rw [hK, hM2, hM1, eA, eH, hZ]; rfl
  have m4 : HL = M3 ++ H2 := by rw [hHL, sgL, hM3, hT, eK, eA, eH]
  have lHL : HL.length = 20 + oN + f.da.size := by rw [m4, List.length_append, lm3, lh2]; omega
  have hK2 : K ≤ 65535 := by rw [hK]; exact sumS_le _ _ _
  have C2 := Lib.hid (fun w => add_lst w N1 N2 A2 hA2 (by omega))
  have C3 := Lib.hid (fun w => add_lst w A2 N3 A3 hA3 (by omega))
  have C4 := Lib.hid (fun w => add_lst w A3 N4 A4 hA4 (by omega))
  have C5 := Lib.hid (fun w => add_lst w A4 N5 A5 hA5 (by omega))
  have C6 := Lib.hid (fun w => add_lst w A5 N6 A6 hA6 (by omega))
  have C7 := Lib.hid (fun w => add_lst w A6 N7 A7 hA7 (by omega))
  have D1 := Lib.hid (fun w => add_lst w Z O H1 hH1 (by omega))
  have D2 := Lib.hid (fun w => data_lst9 w H1 H2 f.da hH2 (by omega))
  have E1 := Lib.hid (fun w => add_lst w A7 Z M1 hM1 (by omega))
  have E2 := Lib.hid (fun w => add_lst w M1 H2 M2 hM2 (by omega))
  have G1 := Lib.hid (fun w => add_lst w A7 T M3 hM3 (by omega))
  have G2 := Lib.hid (fun w => add_lst w M3 H2 HL m4 (by omega))
  have WA : Hid (IntKind.u64.wrap f.sq = f.sq) := Lib.hid (IntWalk.u64_in _ (by omega))
  have WB : Hid (IntKind.u64.wrap f.ak = f.ak) := Lib.hid (IntWalk.u64_in _ (by omega))
  have n1 := Lib.hid (fun w => number10 w f.fr 2 a0 (by omega) N1 (by rw [hN1, be2]))
  have n2 := Lib.hid (fun w => number10 w f.dt 2 b0 (by omega) N2 (by rw [hN2, be2]))
  have n3 := Lib.hid (fun w => big_any w f.sq 4 q0 N3 (by rw [hN3, be4]))
  have n4 := Lib.hid (fun w => big_any w f.ak 4 p0 N4 (by rw [hN4, be4]))
  have n5 := Lib.hid (fun w => number10 w V 1 (by omega) (by omega) N5 (by rw [hN5, be1, hV]; rfl))
  have n6 := Lib.hid (fun w => number10 w f.fl 1 g0 (by omega) N6 (by rw [hN6, be1]))
  have n7 := Lib.hid (fun w => number10 w f.wi 2 d0 (by omega) N7 (by rw [hN7, be2]))
  have n8 := Lib.hid (fun w => number10 w 0 2 (by decide) (by decide) Z (by rw [hZ, be2]; rfl))
  have nS := Lib.hid (fun w => sumOf_any w M2 i j (by omega) K hK)
  have n9 := Lib.hid (fun w => number10 w (K : Int) 2 (by omega) (by omega) T (by rw [hT, be2]; rfl))
  clear a0 a1 b0 b1 g0 g1 d0 d1 e0 e1 q0 q1 p0 p1 hms hO hoN h hl hU2 hV hN1 hN2 hN3 hN4 hN5 hN6 hN7 hZ hA2 hA3 hA4 hA5 hA6 hA7 hH1 hH2 hM1 hM2 hK hT hM3 l1 l2 l3 l4 l5 l6 l7 lZ lT la2 la3 la4 la5 la6 la7 lh1 lh2 lm1 lm2 lm3 eA eH eK m4 lHL hK2 hHL hoc
  go_enter Try.func22, Try.ntmps22
  go_upto_region 1 with fail
  obtain ⟨n, m, k, hn, hm, hk, fa, bl⟩ := sgbx_new w f i j
  have FA := Lib.hid fa
  have BL := Lib.hid bl
  clear fa bl
  generalize World.alloc _ _ = W1 at FA BL ⊢
  try rw [hk]
  try rw [hm]
  try rw [hn]
  clear hn hm hk
  have hp := FA.out.sg
  go_wp2_with (refine sg_ld (by rfl) (.tmp 3) rfl n rfl _ hp ?_)
  refine (kM.out _).mono ?_
  rintro e w2 ⟨rfl, b2⟩
  have F2 := Lib.hid (FA.out.grow b2)
  have B2 := bstep BL b2
  clear b2 hp FA BL
  have c6 := F2.out.sg.ms
  go_wp2_with fail
  refine (kO.out _).mono ?_
  rintro e w3 ⟨rfl, b3⟩
  have F3 := Lib.hid (F2.out.grow b3)
  have B3 := bstep B2 b3
  clear b3 F2 B2 c6
  have c7 := F3.out.sg.da
  have hsO : (O.toArray.size : Int) = (oN : Int) := by rw [List.size_toArray, hlO]
  go_upto_region 7 with fail
  have B4 := B3
  clear c7 hsO hgt hgt2 wz w20 hU wU B3 hlO
  refine wp_region_noPanic ?_
  refine region_heldE (S := fun w' => SgBx w' n m k f i j) (by kernel_rfl) (fun V d => F3.out.kept (fun p _ => d.block p)) (fun X7 d hX7 => ?_)
  have BX7 := bstep B4 d.below
  clear d B4
  refine wpAnyH_take (i := 0) (oi := ⟨some 30, Op.fieldAddr 47 (Operand.tmp 3) 0, _, _, _, none⟩) (v := (.pointer (some ⟨n, 0, none⟩))) rfl (by kernel_rfl) (by kernel_rfl) (by kernel_rfl) (fun _ _ _ h => h) (Or.inl ⟨by rfl, fun w' h' => ?_⟩) hX7 ?_
  · clear h'
    go_simp
  simp only [Act.put]
  refine wpAnyH_take (i := 1) (oi := ⟨some 31, Op.load 3 (Operand.tmp 30), _, _, _, none⟩) (v := (.int .i64 f.fr)) rfl (by kernel_rfl) (by kernel_rfl) (by kernel_rfl) (fun _ _ _ h => h) (Or.inl ⟨by rfl, fun w' h' => ?_⟩) hX7 ?_
  · have c0 := SgAt.fr h'.sg
    clear h'
    go_simp
  simp only [Act.put]
  refine wpAnyH_take (i := 3) (oi := ⟨some 33, Op.fieldAddr 47 (Operand.tmp 3) 1, _, _, _, none⟩) (v := (.pointer (some ⟨n, 1, none⟩))) rfl (by kernel_rfl) (by kernel_rfl) (by kernel_rfl) (fun _ _ _ h => h) (Or.inl ⟨by rfl, fun w' h' => ?_⟩) hX7 ?_
  · clear h'
    go_simp
  simp only [Act.put]
  refine wpAnyH_take (i := 4) (oi := ⟨some 34, Op.load 3 (Operand.tmp 33), _, _, _, none⟩) (v := (.int .i64 f.dt)) rfl (by kernel_rfl) (by kernel_rfl) (by kernel_rfl) (fun _ _ _ h => h) (Or.inl ⟨by rfl, fun w' h' => ?_⟩) hX7 ?_
  · have c0 := SgAt.dt h'.sg
    clear h'
    go_simp
  simp only [Act.put]
  refine wpAnyH_take (i := 7) (oi := ⟨some 37, Op.fieldAddr 47 (Operand.tmp 3) 2, _, _, _, none⟩) (v := (.pointer (some ⟨n, 2, none⟩))) rfl (by kernel_rfl) (by kernel_rfl) (by kernel_rfl) (fun _ _ _ h => h) (Or.inl ⟨by rfl, fun w' h' => ?_⟩) hX7 ?_
  · clear h'
    go_simp
  simp only [Act.put]
  refine wpAnyH_take (i := 8) (oi := ⟨some 38, Op.load 45 (Operand.tmp 37), _, _, _, none⟩) (v := (.int .u32 f.sq)) rfl (by kernel_rfl) (by kernel_rfl) (by kernel_rfl) (fun _ _ _ h => h) (Or.inl ⟨by rfl, fun w' h' => ?_⟩) hX7 ?_
  · have c0 := SgAt.sq h'.sg
    clear h'
    go_simp
  simp only [Act.put]
  refine wpAnyH_take (i := 9) (oi := ⟨some 39, Op.convert 45 118 (Operand.tmp 38), _, _, _, none⟩) (v := (.int .u64 f.sq)) rfl (by kernel_rfl) (by kernel_rfl) (by kernel_rfl) (fun _ _ _ h => h) (Or.inl ⟨by rfl, fun w' h' => ?_⟩) hX7 ?_
  · have c0 := WA.out
    clear h'
    go_simp
  simp only [Act.put]
  refine wpAnyH_take (i := 12) (oi := ⟨some 42, Op.fieldAddr 47 (Operand.tmp 3) 3, _, _, _, none⟩) (v := (.pointer (some ⟨n, 3, none⟩))) rfl (by kernel_rfl) (by kernel_rfl) (by kernel_rfl) (fun _ _ _ h => h) (Or.inl ⟨by rfl, fun w' h' => ?_⟩) hX7 ?_
  · clear h'
    go_simp
  simp only [Act.put]
  refine wpAnyH_take (i := 13) (oi := ⟨some 43, Op.load 45 (Operand.tmp 42), _, _, _, none⟩) (v := (.int .u32 f.ak)) rfl (by kernel_rfl) (by kernel_rfl) (by kernel_rfl) (fun _ _ _ h => h) (Or.inl ⟨by rfl, fun w' h' => ?_⟩) hX7 ?_
  · have c0 := SgAt.ak h'.sg
    clear h'
    go_simp
  simp only [Act.put]
  refine wpAnyH_take (i := 14) (oi := ⟨some 44, Op.convert 45 118 (Operand.tmp 43), _, _, _, none⟩) (v := (.int .u64 f.ak)) rfl (by kernel_rfl) (by kernel_rfl) (by kernel_rfl) (fun _ _ _ h => h) (Or.inl ⟨by rfl, fun w' h' => ?_⟩) hX7 ?_
  · have c0 := WB.out
    clear h'
    go_simp
  simp only [Act.put]
  refine wpAnyH_take (i := 17) (oi := ⟨some 47, Op.move (Operand.tmp 9), _, _, _, none⟩) (v := (.int .i64 U)) rfl (by kernel_rfl) (by kernel_rfl) (by kernel_rfl) (fun _ _ _ h => h) (Or.inl ⟨by rfl, fun w' h' => ?_⟩) hX7 ?_
  · clear h'
    go_simp
  simp only [Act.put]
  refine wpAnyH_take (i := 18) (oi := ⟨some 48, Op.binOp BinOp.shl 3 (Operand.tmp 47) (Operand.const (Value.int IntKind.u64 4)) 102, _, _, _, none⟩) (v := (.int .i64 V)) rfl (by kernel_rfl) (by kernel_rfl) (by kernel_rfl) (fun _ _ _ h => h) (Or.inl ⟨by rfl, fun w' h' => ?_⟩) hX7 ?_
  · have c0 := HSH.out
    clear h'
    go_simp
  simp only [Act.put]
  refine wpAnyH_take (i := 21) (oi := ⟨some 51, Op.fieldAddr 47 (Operand.tmp 3) 4, _, _, _, none⟩) (v := (.pointer (some ⟨n, 4, none⟩))) rfl (by kernel_rfl) (by kernel_rfl) (by kernel_rfl) (fun _ _ _ h => h) (Or.inl ⟨by rfl, fun w' h' => ?_⟩) hX7 ?_
  · clear h'
    go_simp
  simp only [Act.put]
  refine wpAnyH_take (i := 22) (oi := ⟨some 52, Op.load 3 (Operand.tmp 51), _, _, _, none⟩) (v := (.int .i64 f.fl)) rfl (by kernel_rfl) (by kernel_rfl) (by kernel_rfl) (fun _ _ _ h => h) (Or.inl ⟨by rfl, fun w' h' => ?_⟩) hX7 ?_
  · have c0 := SgAt.fl h'.sg
    clear h'
    go_simp
  simp only [Act.put]
  refine wpAnyH_take (i := 25) (oi := ⟨some 55, Op.fieldAddr 47 (Operand.tmp 3) 5, _, _, _, none⟩) (v := (.pointer (some ⟨n, 5, none⟩))) rfl (by kernel_rfl) (by kernel_rfl) (by kernel_rfl) (fun _ _ _ h => h) (Or.inl ⟨by rfl, fun w' h' => ?_⟩) hX7 ?_
  · clear h'
    go_simp
  simp only [Act.put]
  refine wpAnyH_take (i := 26) (oi := ⟨some 56, Op.load 3 (Operand.tmp 55), _, _, _, none⟩) (v := (.int .i64 f.wi)) rfl (by kernel_rfl) (by kernel_rfl) (by kernel_rfl) (fun _ _ _ h => h) (Or.inl ⟨by rfl, fun w' h' => ?_⟩) hX7 ?_
  · have c0 := SgAt.wi h'.sg
    clear h'
    go_simp
  simp only [Act.put]
  refine wpAnyH_ready (rs := [2]) (by kernel_rfl) (by simp) ?_
  refine AllReadyH.cons rfl (fun K hK => ?_) AllReadyH.nil
  go_simp
  refine (n1.out _).mono ?_
  rintro e v11 ⟨rfl, b11⟩
  have S11 : SgBx v11 n m k f i j := hX7.grow b11
  have BV11 := bstep BX7 b11
  clear b11 BX7
  go_simp
  refine hK.out _ _ S11 (fun _ => ?_)
  clear hK K
  refine wpAnyH_ready (rs := [5]) (by kernel_rfl) (by simp) ?_
  refine AllReadyH.cons rfl (fun K hK => ?_) AllReadyH.nil
  go_simp
  refine (n2.out _).mono ?_
  rintro e v12 ⟨rfl, b12⟩
  have S12 : SgBx v12 n m k f i j := S11.grow b12
  have BV12 := bstep BV11 b12
  clear b12 BV11
  go_simp
  refine hK.out _ _ S12 (fun _ => ?_)
  clear hK K
  refine wpAnyH_take (i := 6) (oi := ⟨some 36, Op.binOp BinOp.add 9 (Operand.tmp 32) (Operand.tmp 35) 9, _, _, _, none⟩) (v := (.string ⟨A2.toArray⟩)) rfl (by kernel_rfl) (by kernel_rfl) (by kernel_rfl) (fun _ _ _ h => h) (Or.inl ⟨by rfl, fun w' h' => ?_⟩) S12 ?_
  · have c0 := C2.out w'
    clear h'
    go_simp
  simp only [Act.put]
  refine wpAnyH_ready (rs := [10]) (by kernel_rfl) (by simp) ?_
  refine AllReadyH.cons rfl (fun K hK => ?_) AllReadyH.nil
  go_simp
  refine (n3.out _).mono ?_
  rintro e v13 ⟨rfl, b13⟩
  have S13 : SgBx v13 n m k f i j := S12.grow b13
  have BV13 := bstep BV12 b13
  clear b13 BV12
  go_simp
  refine hK.out _ _ S13 (fun _ => ?_)
  clear hK K
  refine wpAnyH_take (i := 11) (oi := ⟨some 41, Op.binOp BinOp.add 9 (Operand.tmp 36) (Operand.tmp 40) 9, _, _, _, none⟩) (v := (.string ⟨A3.toArray⟩)) rfl (by kernel_rfl) (by kernel_rfl) (by kernel_rfl) (fun _ _ _ h => h) (Or.inl ⟨by rfl, fun w' h' => ?_⟩) S13 ?_
  · have c0 := C3.out w'
    clear h'
    go_simp
  simp only [Act.put]
  refine wpAnyH_ready (rs := [15]) (by kernel_rfl) (by simp) ?_
  refine AllReadyH.cons rfl (fun K hK => ?_) AllReadyH.nil
  go_simp
  refine (n4.out _).mono ?_
  rintro e v14 ⟨rfl, b14⟩
  have S14 : SgBx v14 n m k f i j := S13.grow b14
  have BV14 := bstep BV13 b14
  clear b14 BV13
  go_simp
  refine hK.out _ _ S14 (fun _ => ?_)
  clear hK K
  refine wpAnyH_take (i := 16) (oi := ⟨some 46, Op.binOp BinOp.add 9 (Operand.tmp 41) (Operand.tmp 45) 9, _, _, _, none⟩) (v := (.string ⟨A4.toArray⟩)) rfl (by kernel_rfl) (by kernel_rfl) (by kernel_rfl) (fun _ _ _ h => h) (Or.inl ⟨by rfl, fun w' h' => ?_⟩) S14 ?_
  · have c0 := C4.out w'
    clear h'
    go_simp
  simp only [Act.put]
  refine wpAnyH_ready (rs := [19]) (by kernel_rfl) (by simp) ?_
  refine AllReadyH.cons rfl (fun K hK => ?_) AllReadyH.nil
  go_simp
  refine (n5.out _).mono ?_
  rintro e v15 ⟨rfl, b15⟩
  have S15 : SgBx v15 n m k f i j := S14.grow b15
  have BV15 := bstep BV14 b15
  clear b15 BV14
  go_simp
  refine hK.out _ _ S15 (fun _ => ?_)
  clear hK K
  refine wpAnyH_take (i := 20) (oi := ⟨some 50, Op.binOp BinOp.add 9 (Operand.tmp 46) (Operand.tmp 49) 9, _, _, _, none⟩) (v := (.string ⟨A5.toArray⟩)) rfl (by kernel_rfl) (by kernel_rfl) (by kernel_rfl) (fun _ _ _ h => h) (Or.inl ⟨by rfl, fun w' h' => ?_⟩) S15 ?_
  · have c0 := C5.out w'
    clear h'
    go_simp
  simp only [Act.put]
  refine wpAnyH_ready (rs := [23]) (by kernel_rfl) (by simp) ?_
  refine AllReadyH.cons rfl (fun K hK => ?_) AllReadyH.nil
  go_simp
  refine (n6.out _).mono ?_
  rintro e v16 ⟨rfl, b16⟩
  have S16 : SgBx v16 n m k f i j := S15.grow b16
  have BV16 := bstep BV15 b16
  clear b16 BV15
  go_simp
  refine hK.out _ _ S16 (fun _ => ?_)
  clear hK K
  refine wpAnyH_take (i := 24) (oi := ⟨some 54, Op.binOp BinOp.add 9 (Operand.tmp 50) (Operand.tmp 53) 9, _, _, _, none⟩) (v := (.string ⟨A6.toArray⟩)) rfl (by kernel_rfl) (by kernel_rfl) (by kernel_rfl) (fun _ _ _ h => h) (Or.inl ⟨by rfl, fun w' h' => ?_⟩) S16 ?_
  · have c0 := C6.out w'
    clear h'
    go_simp
  simp only [Act.put]
  refine wpAnyH_ready (rs := [27]) (by kernel_rfl) (by simp) ?_
  refine AllReadyH.cons rfl (fun K hK => ?_) AllReadyH.nil
  go_simp
  refine (n7.out _).mono ?_
  rintro e v17 ⟨rfl, b17⟩
  have S17 : SgBx v17 n m k f i j := S16.grow b17
  have BV17 := bstep BV16 b17
  clear b17 BV16
  go_simp
  refine hK.out _ _ S17 (fun _ => ?_)
  clear hK K
  refine wpAnyH_take (i := 28) (oi := ⟨some 58, Op.binOp BinOp.add 9 (Operand.tmp 54) (Operand.tmp 57) 9, _, _, _, none⟩) (v := (.string ⟨A7.toArray⟩)) rfl (by kernel_rfl) (by kernel_rfl) (by kernel_rfl) (fun _ _ _ h => h) (Or.inl ⟨by rfl, fun w' h' => ?_⟩) S17 ?_
  · have c0 := C7.out w'
    clear h'
    go_simp
  simp only [Act.put]
  refine wpAnyH_take (i := 29) (oi := ⟨some 10, Op.assign (Operand.tmp 58), _, _, _, none⟩) (v := (.string ⟨A7.toArray⟩)) rfl (by kernel_rfl) (by kernel_rfl) (by kernel_rfl) (fun _ _ _ h => h) (Or.inl ⟨by rfl, fun w' h' => ?_⟩) S17 ?_
  · clear h'
    go_simp
  simp only [Act.put]
  refine wpAnyH_done (by kernel_rfl) (NoPanic.normal ?_) _
  simp only [List.setIfInBounds_toArray, List.set_cons_zero, List.set_cons_succ]
  have F7 := Lib.hid S17
  clear S11 S12 S13 S14 S15 S16 S17 hX7 F3
  clear C2 C3 C4 C5 C6 C7 n1 n2 n3 n4 n5 n6 n7 WA WB HSH
  go_upto_region 8 with fail
  refine wp_region_noPanic ?_
  refine region_heldE (S := fun w' => SgBx w' n m k f i j) (by kernel_rfl) (fun V d => F7.out.kept (fun p _ => d.block p)) (fun X8 d hX8 => ?_)
  have BX8 := bstep BV17 d.below
  clear d BV17
  refine wpAnyH_take (i := 1) (oi := ⟨some 60, Op.move (Operand.tmp 8), _, _, _, none⟩) (v := (.string ⟨O.toArray⟩)) rfl (by kernel_rfl) (by kernel_rfl) (by kernel_rfl) (fun _ _ _ h => h) (Or.inl ⟨by rfl, fun w' h' => ?_⟩) hX8 ?_
  · clear h'
    go_simp
  simp only [Act.put]
  refine wpAnyH_take (i := 3) (oi := ⟨some 62, Op.fieldAddr 47 (Operand.tmp 3) 7, _, _, _, none⟩) (v := (.pointer (some ⟨n, 7, none⟩))) rfl (by kernel_rfl) (by kernel_rfl) (by kernel_rfl) (fun _ _ _ h => h) (Or.inl ⟨by rfl, fun w' h' => ?_⟩) hX8 ?_
  · clear h'
    go_simp
  simp only [Act.put]
  refine wpAnyH_take (i := 4) (oi := ⟨some 63, Op.load 9 (Operand.tmp 62), _, _, _, none⟩) (v := (.string f.da)) rfl (by kernel_rfl) (by kernel_rfl) (by kernel_rfl) (fun _ _ _ h => h) (Or.inl ⟨by rfl, fun w' h' => ?_⟩) hX8 ?_
  · have c0 := SgAt.da h'.sg
    clear h'
    go_simp
  simp only [Act.put]
  refine wpAnyH_ready (rs := [0]) (by kernel_rfl) (by simp) ?_
  refine AllReadyH.cons rfl (fun K hK => ?_) AllReadyH.nil
  go_simp
  refine (n8.out _).mono ?_
  rintro e v18 ⟨rfl, b18⟩
  have S18 : SgBx v18 n m k f i j := hX8.grow b18
  have BV18 := bstep BX8 b18
  clear b18 BX8
  go_simp
  refine hK.out _ _ S18 (fun _ => ?_)
  clear hK K
  refine wpAnyH_take (i := 2) (oi := ⟨some 61, Op.binOp BinOp.add 9 (Operand.tmp 59) (Operand.tmp 60) 9, _, _, _, none⟩) (v := (.string ⟨H1.toArray⟩)) rfl (by kernel_rfl) (by kernel_rfl) (by kernel_rfl) (fun _ _ _ h => h) (Or.inl ⟨by rfl, fun w' h' => ?_⟩) S18 ?_
  · have c0 := D1.out w'
    clear h'
    go_simp
  simp only [Act.put]
  refine wpAnyH_take (i := 5) (oi := ⟨some 64, Op.binOp BinOp.add 9 (Operand.tmp 61) (Operand.tmp 63) 9, _, _, _, none⟩) (v := (.string ⟨H2.toArray⟩)) rfl (by kernel_rfl) (by kernel_rfl) (by kernel_rfl) (fun _ _ _ h => h) (Or.inl ⟨by rfl, fun w' h' => ?_⟩) S18 ?_
  · have c0 := D2.out w'
    clear h'
    go_simp
  simp only [Act.put]
  refine wpAnyH_take (i := 6) (oi := ⟨some 11, Op.assign (Operand.tmp 64), _, _, _, none⟩) (v := (.string ⟨H2.toArray⟩)) rfl (by kernel_rfl) (by kernel_rfl) (by kernel_rfl) (fun _ _ _ h => h) (Or.inl ⟨by rfl, fun w' h' => ?_⟩) S18 ?_
  · clear h'
    go_simp
  simp only [Act.put]
  refine wpAnyH_done (by kernel_rfl) (NoPanic.normal ?_) _
  simp only [List.setIfInBounds_toArray, List.set_cons_zero, List.set_cons_succ]
  have F8 := Lib.hid S18
  clear S18 hX8 F7
  go_upto_region 9 with fail
  refine wp_region_noPanic ?_
  refine region_heldE (S := fun w' => SgBx w' n m k f i j) (by kernel_rfl) (fun V d => F8.out.kept (fun p _ => d.block p)) (fun X9 d hX9 => ?_)
  have BX9 := bstep BV18 d.below
  clear d BV18
  refine wpAnyH_take (i := 0) (oi := ⟨some 65, Op.move (Operand.tmp 10), _, _, _, none⟩) (v := (.string ⟨A7.toArray⟩)) rfl (by kernel_rfl) (by kernel_rfl) (by kernel_rfl) (fun _ _ _ h => h) (Or.inl ⟨by rfl, fun w' h' => ?_⟩) hX9 ?_
  · clear h'
    go_simp
  simp only [Act.put]
  refine wpAnyH_take (i := 3) (oi := ⟨some 68, Op.move (Operand.tmp 11), _, _, _, none⟩) (v := (.string ⟨H2.toArray⟩)) rfl (by kernel_rfl) (by kernel_rfl) (by kernel_rfl) (fun _ _ _ h => h) (Or.inl ⟨by rfl, fun w' h' => ?_⟩) hX9 ?_
  · clear h'
    go_simp
  simp only [Act.put]
  refine wpAnyH_take (i := 5) (oi := ⟨some 70, Op.load 33 (Operand.tmp 4), _, _, _, none⟩) (v := (.agg (ipC i))) rfl (by kernel_rfl) (by kernel_rfl) (by kernel_rfl) (fun _ _ _ h => h) (yields_ipb (by kernel_rfl) (Operand.tmp 4) (by kernel_rfl) m (by kernel_rfl) i (fun _ h => h.ia)) hX9 ?_
  simp only [Act.put]
  refine wpAnyH_take (i := 6) (oi := ⟨some 71, Op.load 33 (Operand.tmp 5), _, _, _, none⟩) (v := (.agg (ipC j))) rfl (by kernel_rfl) (by kernel_rfl) (by kernel_rfl) (fun _ _ _ h => h) (yields_ipb (by kernel_rfl) (Operand.tmp 5) (by kernel_rfl) k (by kernel_rfl) j (fun _ h => h.ja)) hX9 ?_
  simp only [Act.put]
  refine wpAnyH_ready (rs := [1]) (by kernel_rfl) (by simp) ?_
  refine AllReadyH.cons rfl (fun K hK => ?_) AllReadyH.nil
  go_simp
  refine (n8.out _).mono ?_
  rintro e v19 ⟨rfl, b19⟩
  have S19 : SgBx v19 n m k f i j := hX9.grow b19
  have BV19 := bstep BX9 b19
  clear b19 BX9
  go_simp
  refine hK.out _ _ S19 (fun _ => ?_)
  clear hK K
  refine wpAnyH_take (i := 2) (oi := ⟨some 67, Op.binOp BinOp.add 9 (Operand.tmp 65) (Operand.tmp 66) 9, _, _, _, none⟩) (v := (.string ⟨M1.toArray⟩)) rfl (by kernel_rfl) (by kernel_rfl) (by kernel_rfl) (fun _ _ _ h => h) (Or.inl ⟨by rfl, fun w' h' => ?_⟩) S19 ?_
  · have c0 := E1.out w'
    clear h'
    go_simp
  simp only [Act.put]
  refine wpAnyH_take (i := 4) (oi := ⟨some 69, Op.binOp BinOp.add 9 (Operand.tmp 67) (Operand.tmp 68) 9, _, _, _, none⟩) (v := (.string ⟨M2.toArray⟩)) rfl (by kernel_rfl) (by kernel_rfl) (by kernel_rfl) (fun _ _ _ h => h) (Or.inl ⟨by rfl, fun w' h' => ?_⟩) S19 ?_
  · have c0 := E2.out w'
    clear h'
    go_simp
  simp only [Act.put]
  refine wpAnyH_ready (rs := [7]) (by kernel_rfl) (by simp) ?_
  refine AllReadyH.cons rfl (fun K hK => ?_) AllReadyH.nil
  go_simp
  refine (nS.out _).mono ?_
  rintro e v20 ⟨rfl, b20⟩
  have S20 : SgBx v20 n m k f i j := S19.grow b20
  have BV20 := bstep BV19 b20
  clear b20 BV19
  go_simp
  refine hK.out _ _ S20 (fun _ => ?_)
  clear hK K
  refine wpAnyH_take (i := 8) (oi := ⟨some 12, Op.assign (Operand.tmp 72), _, _, _, none⟩) (v := (.int .i64 (K : Int))) rfl (by kernel_rfl) (by kernel_rfl) (by kernel_rfl) (fun _ _ _ h => h) (Or.inl ⟨by rfl, fun w' h' => ?_⟩) S20 ?_
  · clear h'
    go_simp
  simp only [Act.put]
  refine wpAnyH_done (by kernel_rfl) (NoPanic.normal ?_) _
  simp only [List.setIfInBounds_toArray, List.set_cons_zero, List.set_cons_succ]
  have F9 := Lib.hid S20
  clear S19 S20 hX9 F8
  go_wp2_with fail
  refine (n9.out _).mono ?_
  rintro e u1 ⟨rfl, g1⟩
  have Q1 := bstep BV20 g1
  have q1 := G1.out u1
  have q2 := G2.out u1
  go_wp2_with fail
  go_ret2
  exact ⟨rfl, Q1.out⟩
theorem sgBytes_any (w : World) (f : Sg) (i j : Ip4) (hf : f.ok) (hz : f.da.size ≤ 140737488355328) :
    Calls Try.prog 22 #[.agg (sgC f), .agg (ipC i), .agg (ipC j)] w fun e w' => e = .returned (.tuple #[.string (sgS i j f), .int .i64 (sgE f)]) ∧ Below w.heap.size w w' := by
  cases h : maySg f with
  | false =>
    have e1 : sgE f = 1 := by rw [sgE, if_pos h]
    rw [sgS, e1, if_neg (by decide)]
    exact sgBytes_arg w f i j h
  | true =>
    by_cases h2 : 546 < opN f + f.da.size
    · have e1 : sgE f = 3 := by rw [sgE, if_neg (by rw [h]; decide), if_pos h2]
      rw [sgS, e1, if_neg (by decide)]
      exact sgBytes_long w f i j h h2 hz
    · have e1 : sgE f = 0 := by rw [sgE, if_neg (by rw [h]; decide), if_neg h2]
      rw [sgS, e1, if_pos rfl]
      exact sgBytes_yes w f i j ⟨u32_lt hf.2.2.1, u32_lt hf.2.2.2.1⟩ h (by omega) _ rfl

end Go.Proofs.Ytbjoibgkhooljaa
