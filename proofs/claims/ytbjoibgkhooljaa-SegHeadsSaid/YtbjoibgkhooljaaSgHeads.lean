/-
  SegHeads: what stands in bytes that have their right sum is read as the document says, options of all kinds, too. Conditions: fewer than 20 bytes, or more than 566, are not asked about, as the statement says.
-/
import Derived.Test.YtbjoibgkhooljaaSgI
import Derived.Test.YtbjoibgkhooljaaSgJ
import Derived.ProofKit
import Derived.OpenShut
import Derived.ShutString
import Derived.ChangeOld
import Derived.Below
namespace Go.Proofs.Ytbjoibgkhooljaa.sgh
open Go.ChangeShapes Go.WideShapes Go.ChangeAt Go.RowKit
open Go.ChangeMaps (open_string shut_string)
open Go.Sort (Holds)
set_option linter.unusedVariables false

theorem add_bytes (w : World) (a b c : ByteArray) (h : c = a ++ b) (hl : c.size ≤ 70000) : (Op.stringOp .add a b).run Try.prog w = .ok (.string c) w := by
  have h2 := add_lst w a.data.toList b.data.toList c.data.toList (by rw [h]; simp) (by rw [list_size]; exact hl)
  simpa using h2
theorem conv_2 (w : World) (X Y : UInt8) (n : Nat) (hn : n = w.heap.size) (T : ByteArray) (hT : T = ⟨#[X, Y]⟩) :
    (convert 61 9 (.slice (some ⟨n, 0, none⟩) 2 2)).run Try.prog (w.alloc (.cells #[.int .u8 (X.toNat : Int), .int .u8 (Y.toNat : Int)] 5)) = .ok (.string T) (w.alloc (.cells #[.int .u8 (X.toNat : Int), .int .u8 (Y.toNat : Int)] 5)) := by
  subst hT hn
  exact conv_text _ w.heap.size 0 2 2 [X, Y] rfl (holds_alloc w [X, Y])
set_option maxRecDepth 100000 in
set_option maxHeartbeats 4000000 in
theorem walk_out (s : ByteArray) (i j : Ip4) (hm : s.size ≤ 9223372036854775807) (h : s.size < 20 ∨ (20 ≤ s.size ∧ 566 < s.size)) (w : World) :
    Calls Try.prog 6 #[.string s, .agg (ipC i), .agg (ipC j)] w fun e w' => e = .returned (.bool true) ∧ Below w.heap.size w w' := by
  rcases h with h | ⟨h, h2⟩
  all_goals
    go_enter Try.func6, Try.ntmps6
    go_upto_region 1 with fail
    obtain ⟨m, k, hm, hk, fa, bl⟩ := ipbx_new w i j
    have F0 := Lib.hid fa
    have B0 := Lib.hid bl
    clear fa bl
    generalize World.alloc _ _ = W1 at F0 B0 ⊢
    try rw [hk]
    try rw [hm]
    clear hm hk
    go_wp2_with fail
    refine (awakeS _).mono ?_
    rintro e w1 ⟨rfl, b1⟩
    have F1 := Lib.hid (And.intro (F0.out.1.grow b1) (F0.out.2.grow b1))
    have B1 := bstep B0 b1
    clear b1 F0 B0
    go_wp2_with fail
    go_ret
    exact ⟨rfl, B1.out⟩
set_option maxRecDepth 100000 in
set_option maxHeartbeats 8000000 in
theorem walk_main (s : ByteArray) (i j : Ip4) (h1 : 20 ≤ s.size) (h2 : s.size ≤ 566) (w : World) :
    Calls Try.prog 6 #[.string s, .agg (ipC i), .agg (ipC j)] w fun e w' => e = .returned (.bool true) ∧ Below w.heap.size w w' := by
  obtain ⟨A0, hA0⟩ : ∃ A, A = s.extract 0 16 := ⟨_, rfl⟩
  obtain ⟨A2, hA2⟩ : ∃ A, A = s.extract 18 s.size := ⟨_, rfl⟩
  obtain ⟨A1, hA1⟩ : ∃ A : ByteArray, A = A0 ++ ⟨#[0, 0]⟩ := ⟨_, rfl⟩
  obtain ⟨A3, hA3⟩ : ∃ A : ByteArray, A = A1 ++ A2 := ⟨_, rfl⟩
  obtain ⟨q, hq⟩ : ∃ q, q = A3.size := ⟨_, rfl⟩
  have z0 : A0.size = 16 := by rw [hA0, ByteArray.size_extract]; omega
  have z2 : A2.size = s.size - 18 := by rw [hA2, ByteArray.size_extract]; omega
  have z1 : A1.size = 18 := by rw [hA1, ByteArray.size_append, z0]; rfl
  have z3 : A3.size = s.size := by rw [hA3, ByteArray.size_append, z1, z2]; omega
  have hB0 : A3.extract 0 16 = A0 := by
    apply same_data
    rw [Lib.extract_data, List.drop_zero, hA3, hA1]
    simp only [ByteArray.data_append, Array.toList_append]
    rw [List.append_assoc, List.take_append_of_le_length (by rw [list_size, z0]; omega), List.take_of_length_le (by rw [list_size, z0]; omega)]
  have hB2 : A3.extract 18 A3.size = A2 := by
    apply same_data
    rw [drop_data, hA3]
    simp only [ByteArray.data_append, Array.toList_append]
    rw [List.drop_append_of_le_length (by rw [list_size, z1]; omega), List.drop_of_length_le (by rw [list_size, z1]; omega), List.nil_append]
  obtain ⟨V1, v1⟩ : ∃ U, U = UInt8.ofNat (q / 256) := ⟨_, rfl⟩
  obtain ⟨V2, v2⟩ : ∃ U, U = UInt8.ofNat (q % 256) := ⟨_, rfl⟩
  have Y1 : Hid (IntKind.u8.wrap ((q : Int) / 256) = (V1.toNat : Int)) := Lib.hid (by rw [v1, u8_of _ (by omega)]; congr 1)
  have Y2 : Hid (IntKind.u8.wrap ((q : Int) % 256) = (V2.toNat : Int)) := Lib.hid (by rw [v2, u8_of _ (by omega)]; congr 1)
  have WQ1 : Hid (IntKind.i64.wrap ((q : Int) / 256) = (q : Int) / 256) := Lib.hid (IntWalk.i64_in _ (by omega))
  have WM1 : Hid (Int.tmod (q : Int) 256 = (q : Int) % 256) := Lib.hid (Int.tmod_eq_emod_of_nonneg (by omega))
  obtain ⟨T1, t1⟩ : ∃ L, L = i.list ++ j.list := ⟨_, rfl⟩
  obtain ⟨T2, t2⟩ : ∃ L, L = T1 ++ [0, 6, V1, V2] := ⟨_, rfl⟩
  obtain ⟨T3, t3⟩ : ∃ T : ByteArray, T = ⟨T2.toArray⟩ ++ A3 := ⟨_, rfl⟩
  have y1 : T1.length = 8 := by rw [t1]; rfl
  have y2 : T2.length = 12 := by rw [t2, List.length_append, y1]; rfl
  have y3 : T3.size = 12 + s.size := by rw [t3, ByteArray.size_append, z3]; show T2.toArray.size + _ = _; rw [List.size_toArray, y2]
  obtain ⟨K, hK⟩ : ∃ K, K = sumT T3.data.toList := ⟨_, rfl⟩
  have hK2 : K ≤ 65535 := by rw [hK]; exact sumT_le _
  obtain ⟨U1, u1⟩ : ∃ U, U = UInt8.ofNat (K / 256) := ⟨_, rfl⟩
  obtain ⟨U2, u2⟩ : ∃ U, U = UInt8.ofNat (K % 256) := ⟨_, rfl⟩
  have Y3 : Hid (IntKind.u8.wrap ((K : Int) / 256) = (U1.toNat : Int)) := Lib.hid (by rw [u1, u8_of _ (by omega)]; congr 1)
  have Y4 : Hid (IntKind.u8.wrap ((K : Int) % 256) = (U2.toNat : Int)) := Lib.hid (by rw [u2, u8_of _ (by omega)]; congr 1)
  have W2 : Hid (IntKind.i64.wrap ((K : Int) / 256) = (K : Int) / 256) := Lib.hid (IntWalk.i64_in _ (by omega))
  have WM2 : Hid (Int.tmod (K : Int) 256 = (K : Int) % 256) := Lib.hid (Int.tmod_eq_emod_of_nonneg (by omega))
  obtain ⟨U12, u12⟩ : ∃ T : ByteArray, T = ⟨#[U1, U2]⟩ := ⟨_, rfl⟩
  obtain ⟨A4, hA4⟩ : ∃ T : ByteArray, T = A0 ++ U12 := ⟨_, rfl⟩
  obtain ⟨C, hC⟩ : ∃ T : ByteArray, T = A4 ++ A2 := ⟨_, rfl⟩
  have z4 : A4.size = 18 := by rw [hA4, ByteArray.size_append, z0, u12]; rfl
  have zC : C.size = s.size := by rw [hC, ByteArray.size_append, z4, z2]; omega
  have C1 := Lib.hid (fun w => add_bytes w A0 ⟨#[0, 0]⟩ A1 hA1 (by omega))
  have C2 := Lib.hid (fun w => add_bytes w A1 A2 A3 hA3 (by omega))
  have D1 := Lib.hid (fun w => add_lst w i.list j.list T1 t1 (by omega))
  have D2 := Lib.hid (fun w => add_lst w T1 [0, 6, V1, V2] T2 t2 (by omega))
  have D3 := Lib.hid (fun w => add_bytes w ⟨T2.toArray⟩ A3 T3 t3 (by omega))
  have E1 := Lib.hid (fun w => add_bytes w A0 U12 A4 hA4 (by omega))
  have E2 := Lib.hid (fun w => add_bytes w A4 A2 C hC (by omega))
  have kS := Lib.hid (fun w => rSum_any w T3 (by omega))
  rw [← hK] at kS
  have k1 := Lib.hid (fun w => sgRead_any w C i j (by omega))
  have k2 := Lib.hid (fun w => rRead10_any w C i j (by omega))
  have hok := srP_ok i j C (by unfold maxLen; omega)
  generalize srP i j C = X at k1 k2 hok
  generalize srE i j C = G at k1 k2
  have hqq := eqls X X hok hok true (decide_eq_true rfl)
  have G16 : Hid (¬ (s.size : Int) < 16 ∧ 16 ≤ s.size) := Lib.hid ⟨by omega, by omega⟩
  have G18 : Hid (¬ (s.size : Int) < 18 ∧ 18 ≤ s.size) := Lib.hid ⟨by omega, by omega⟩
  have G3 : Hid (¬ (A3.size : Int) < 16 ∧ 16 ≤ A3.size) := Lib.hid ⟨by omega, by omega⟩
  have G4 : Hid (¬ (A3.size : Int) < 18 ∧ 18 ≤ A3.size) := Lib.hid ⟨by omega, by omega⟩
  have HA0 : Hid (s.extract 0 16 = A0) := Lib.hid hA0.symm
  have HA2 : Hid (s.extract 18 s.size = A2) := Lib.hid hA2.symm
  have HB0 := Lib.hid hB0
  have HB2 := Lib.hid hB2
  have HU := Lib.hid u12
  have HQ : Hid (A3.size = q) := Lib.hid hq.symm
  clear hA0 hA2 hA1 hA3 hq z0 z2 z1 z3 hB0 hB2 v1 v2 t1 t2 t3 y1 y2 y3 hK hK2 u1 u2 u12 hA4 hC z4 zC hok
  go_enter Try.func6, Try.ntmps6
  go_upto_region 1 with fail
  obtain ⟨m, k, hm, hk, fa, bl⟩ := ipbx_new w i j
  have F0 := Lib.hid fa
  have B0 := Lib.hid bl
  clear fa bl
  generalize World.alloc _ _ = W1 at F0 B0 ⊢
  try rw [hk]
  try rw [hm]
  clear hm hk
  go_wp2_with fail
  refine (awakeS _).mono ?_
  rintro e w1 ⟨rfl, b1⟩
  have F1 := Lib.hid (And.intro (F0.out.1.grow b1) (F0.out.2.grow b1))
  have B1 := bstep B0 b1
  clear b1 F0 B0
  go_upto_region 5 with fail
  clear h1 h2
  refine wp_region_noPanic ?_
  refine region_heldE (S := fun w' => IpBx w' m i ∧ IpBx w' k j) (by kernel_rfl) (fun V d => ⟨F1.out.1.kept (d.block _), F1.out.2.kept (d.block _)⟩) (fun V5 d h5 => ?_)
  have BV5 := bstep B1 d.below
  clear d B1
  refine wpAnyH_take (i := 0) (oi := ⟨some 23, Op.move (Operand.tmp 0), _, _, _, none⟩) (v := (.string s)) rfl (by kernel_rfl) (by kernel_rfl) (by kernel_rfl) (fun _ _ _ h => h) (Or.inl ⟨by rfl, fun w' h' => ?_⟩) h5 ?_
  · clear h'
    go_simp
  simp only [Act.put]
  refine wpAnyH_take (i := 1) (oi := ⟨some 24, Op.slice 9 (Operand.tmp 23) none (some (Operand.const (Value.int IntKind.i64 16))) none, _, _, _, none⟩) (v := (.string A0)) rfl (by kernel_rfl) (by kernel_rfl) (by kernel_rfl) (fun _ _ _ h => h) (Or.inl ⟨by rfl, fun w' h' => ?_⟩) h5 ?_
  · have c0 := G16.out.1
    have c1 := G16.out.2
    have c2 := HA0.out
    clear h'
    go_simp
  simp only [Act.put]
  refine wpAnyH_take (i := 2) (oi := ⟨some 25, Op.binOp BinOp.add 9 (Operand.tmp 24) (Operand.const (Value.string { data := #[0, 0] })) 9, _, _, _, none⟩) (v := (.string A1)) rfl (by kernel_rfl) (by kernel_rfl) (by kernel_rfl) (fun _ _ _ h => h) (Or.inl ⟨by rfl, fun w' h' => ?_⟩) h5 ?_
  · have c0 := C1.out w'
    clear h'
    go_simp
  simp only [Act.put]
  refine wpAnyH_take (i := 3) (oi := ⟨some 26, Op.move (Operand.tmp 0), _, _, _, none⟩) (v := (.string s)) rfl (by kernel_rfl) (by kernel_rfl) (by kernel_rfl) (fun _ _ _ h => h) (Or.inl ⟨by rfl, fun w' h' => ?_⟩) h5 ?_
  · clear h'
    go_simp
  simp only [Act.put]
  refine wpAnyH_take (i := 4) (oi := ⟨some 27, Op.slice 9 (Operand.tmp 26) (some (Operand.const (Value.int IntKind.i64 18))) none none, _, _, _, none⟩) (v := (.string A2)) rfl (by kernel_rfl) (by kernel_rfl) (by kernel_rfl) (fun _ _ _ h => h) (Or.inl ⟨by rfl, fun w' h' => ?_⟩) h5 ?_
  · have c0 := G18.out.1
    have c1 := G18.out.2
    have c2 := HA2.out
    clear h'
    go_simp
  simp only [Act.put]
  refine wpAnyH_take (i := 5) (oi := ⟨some 28, Op.binOp BinOp.add 9 (Operand.tmp 25) (Operand.tmp 27) 9, _, _, _, none⟩) (v := (.string A3)) rfl (by kernel_rfl) (by kernel_rfl) (by kernel_rfl) (fun _ _ _ h => h) (Or.inl ⟨by rfl, fun w' h' => ?_⟩) h5 ?_
  · have c0 := C2.out w'
    clear h'
    go_simp
  simp only [Act.put]
  refine wpAnyH_take (i := 6) (oi := ⟨some 7, Op.assign (Operand.tmp 28), _, _, _, none⟩) (v := (.string A3)) rfl (by kernel_rfl) (by kernel_rfl) (by kernel_rfl) (fun _ _ _ h => h) (Or.inl ⟨by rfl, fun w' h' => ?_⟩) h5 ?_
  · clear h'
    go_simp
  simp only [Act.put]
  refine wpAnyH_done (by kernel_rfl) (NoPanic.normal ?_) _
  simp only [List.setIfInBounds_toArray, List.set_cons_zero, List.set_cons_succ]
  have F5 := Lib.hid h5
  clear h5 F1
  go_upto_region 6 with fail
  refine wp_region_noPanic ?_
  refine region_heldE (S := fun w' => IpBx w' m i ∧ IpBx w' k j) (by kernel_rfl) (fun V d => ⟨F5.out.1.kept (d.block _), F5.out.2.kept (d.block _)⟩) (fun V6 d h6 => ?_)
  have BV6 := bstep BV5 d.below
  clear d BV5
  refine wpAnyH_take (i := 0) (oi := ⟨some 29, Op.slice 33 (Operand.tmp 4) none none none, _, _, _, none⟩) (v := (.slice (some ⟨m, 0, none⟩) 4 4)) rfl (by kernel_rfl) (by kernel_rfl) (by kernel_rfl) (fun _ _ _ h => h) (Or.inl ⟨by rfl, fun w' h' => ?_⟩) h6 ?_
  · clear h'
    go_simp
  simp only [Act.put]
  refine wpAnyH_take (i := 1) (oi := ⟨some 30, Op.convert 61 9 (Operand.tmp 29), _, _, _, none⟩) (v := (.string ⟨i.list.toArray⟩)) rfl (by kernel_rfl) (by kernel_rfl) (by kernel_rfl) (fun _ _ _ h => h) (Or.inl ⟨by rfl, fun w' h' => ?_⟩) h6 ?_
  · have c0 := conv_text w' m 0 4 4 _ (ip_len i) (IpBx.holds h'.1)
    clear h'
    go_simp
  simp only [Act.put]
  refine wpAnyH_take (i := 2) (oi := ⟨some 31, Op.slice 33 (Operand.tmp 5) none none none, _, _, _, none⟩) (v := (.slice (some ⟨k, 0, none⟩) 4 4)) rfl (by kernel_rfl) (by kernel_rfl) (by kernel_rfl) (fun _ _ _ h => h) (Or.inl ⟨by rfl, fun w' h' => ?_⟩) h6 ?_
  · clear h'
    go_simp
  simp only [Act.put]
  refine wpAnyH_take (i := 3) (oi := ⟨some 32, Op.convert 61 9 (Operand.tmp 31), _, _, _, none⟩) (v := (.string ⟨j.list.toArray⟩)) rfl (by kernel_rfl) (by kernel_rfl) (by kernel_rfl) (fun _ _ _ h => h) (Or.inl ⟨by rfl, fun w' h' => ?_⟩) h6 ?_
  · have c0 := conv_text w' k 0 4 4 _ (ip_len j) (IpBx.holds h'.2)
    clear h'
    go_simp
  simp only [Act.put]
  refine wpAnyH_take (i := 4) (oi := ⟨some 33, Op.binOp BinOp.add 9 (Operand.tmp 30) (Operand.tmp 32) 9, _, _, _, none⟩) (v := (.string ⟨T1.toArray⟩)) rfl (by kernel_rfl) (by kernel_rfl) (by kernel_rfl) (fun _ _ _ h => h) (Or.inl ⟨by rfl, fun w' h' => ?_⟩) h6 ?_
  · have c0 := D1.out w'
    clear h'
    go_simp
  simp only [Act.put]
  refine wpAnyH_take (i := 5) (oi := ⟨some 34, Op.move (Operand.tmp 7), _, _, _, none⟩) (v := (.string A3)) rfl (by kernel_rfl) (by kernel_rfl) (by kernel_rfl) (fun _ _ _ h => h) (Or.inl ⟨by rfl, fun w' h' => ?_⟩) h6 ?_
  · clear h'
    go_simp
  simp only [Act.put]
  refine wpAnyH_take (i := 6) (oi := ⟨some 35, Op.call { callee := Callee.builtin Builtin.len, args := #[(Operand.tmp 34)], argTypes := #[9] }, _, _, _, none⟩) (v := (.int .i64 (q : Int))) rfl (by kernel_rfl) (by kernel_rfl) (by kernel_rfl) (fun _ _ _ h => h) (Or.inl ⟨by rfl, fun w' h' => ?_⟩) h6 ?_
  · have c0 := HQ.out
    clear h'
    go_simp
  simp only [Act.put]
  refine wpAnyH_take (i := 7) (oi := ⟨some 36, Op.binOp BinOp.quo 3 (Operand.tmp 35) (Operand.const (Value.int IntKind.i64 256)) 3, _, _, _, none⟩) (v := (.int .i64 ((q : Int) / 256))) rfl (by kernel_rfl) (by kernel_rfl) (by kernel_rfl) (fun _ _ _ h => h) (Or.inl ⟨by rfl, fun w' h' => ?_⟩) h6 ?_
  · have c0 := WQ1.out
    clear h'
    go_simp
  simp only [Act.put]
  refine wpAnyH_take (i := 8) (oi := ⟨some 37, Op.convert 3 5 (Operand.tmp 36), _, _, _, none⟩) (v := (.int .u8 (V1.toNat : Int))) rfl (by kernel_rfl) (by kernel_rfl) (by kernel_rfl) (fun _ _ _ h => h) (Or.inl ⟨by rfl, fun w' h' => ?_⟩) h6 ?_
  · have c0 := Y1.out
    clear h'
    go_simp
  simp only [Act.put]
  refine wpAnyH_take (i := 9) (oi := ⟨some 38, Op.move (Operand.tmp 7), _, _, _, none⟩) (v := (.string A3)) rfl (by kernel_rfl) (by kernel_rfl) (by kernel_rfl) (fun _ _ _ h => h) (Or.inl ⟨by rfl, fun w' h' => ?_⟩) h6 ?_
  · clear h'
    go_simp
  simp only [Act.put]
  refine wpAnyH_take (i := 10) (oi := ⟨some 39, Op.call { callee := Callee.builtin Builtin.len, args := #[(Operand.tmp 38)], argTypes := #[9] }, _, _, _, none⟩) (v := (.int .i64 (q : Int))) rfl (by kernel_rfl) (by kernel_rfl) (by kernel_rfl) (fun _ _ _ h => h) (Or.inl ⟨by rfl, fun w' h' => ?_⟩) h6 ?_
  · have c0 := HQ.out
    clear h'
    go_simp
  simp only [Act.put]
  refine wpAnyH_take (i := 11) (oi := ⟨some 40, Op.binOp BinOp.rem 3 (Operand.tmp 39) (Operand.const (Value.int IntKind.i64 256)) 3, _, _, _, none⟩) (v := (.int .i64 ((q : Int) % 256))) rfl (by kernel_rfl) (by kernel_rfl) (by kernel_rfl) (fun _ _ _ h => h) (Or.inl ⟨by rfl, fun w' h' => ?_⟩) h6 ?_
  · have c0 := WM1.out
    clear h'
    go_simp
  simp only [Act.put]
  refine wpAnyH_take (i := 12) (oi := ⟨some 41, Op.convert 3 5 (Operand.tmp 40), _, _, _, none⟩) (v := (.int .u8 (V2.toNat : Int))) rfl (by kernel_rfl) (by kernel_rfl) (by kernel_rfl) (fun _ _ _ h => h) (Or.inl ⟨by rfl, fun w' h' => ?_⟩) h6 ?_
  · have c0 := Y2.out
    clear h'
    go_simp
  simp only [Act.put]
  refine wpAnyH_take (i := 16) (oi := ⟨some 45, Op.move (Operand.tmp 7), _, _, _, none⟩) (v := (.string A3)) rfl (by kernel_rfl) (by kernel_rfl) (by kernel_rfl) (fun _ _ _ h => h) (Or.inl ⟨by rfl, fun w' h' => ?_⟩) h6 ?_
  · clear h'
    go_simp
  simp only [Act.put]
  refine wpAnyH_ready (rs := [13]) (by kernel_rfl) (by simp) ?_
  refine AllReadyH.cons rfl (fun K hK => ?_) AllReadyH.nil
  obtain ⟨x, hx⟩ : ∃ x, x = V6.heap.size := ⟨_, rfl⟩
  have S1 : IpBx (V6.alloc (.cells #[.int .u8 0, .int .u8 6, .int .u8 (V1.toNat : Int), .int .u8 (V2.toNat : Int)] 5)) m i ∧ IpBx (V6.alloc (.cells #[.int .u8 0, .int .u8 6, .int .u8 (V1.toNat : Int), .int .u8 (V2.toNat : Int)] 5)) k j := ⟨h6.1.grow ((Below.refl _ _).alloc (Nat.le_refl _) _), h6.2.grow ((Below.refl _ _).alloc (Nat.le_refl _) _)⟩
  have BV1 := bstep BV6 ((Below.refl V6.heap.size V6).alloc (Nat.le_refl _) (.cells #[.int .u8 0, .int .u8 6, .int .u8 (V1.toNat : Int), .int .u8 (V2.toNat : Int)] 5))
  have hcv := conv_06 V6 V1 V2
  rw [← hx] at hcv
  go_simp
  rw [← hx]
  generalize V6.alloc _ = v1 at S1 BV1 hcv ⊢
  clear hx
  refine hK.out _ _ S1 (fun _ => ?_)
  clear hK K
  refine wpAnyH_ready (rs := [14]) (by kernel_rfl) (by simp) ?_
  refine AllReadyH.cons rfl (fun K hK => ?_) AllReadyH.nil
  go_simp
  clear hcv
  refine hK.out _ _ S1 (fun _ => ?_)
  clear hK K
  refine wpAnyH_take (i := 15) (oi := ⟨some 44, Op.binOp BinOp.add 9 (Operand.tmp 33) (Operand.tmp 43) 9, _, _, _, none⟩) (v := (.string ⟨T2.toArray⟩)) rfl (by kernel_rfl) (by kernel_rfl) (by kernel_rfl) (fun _ _ _ h => h) (Or.inl ⟨by rfl, fun w' h' => ?_⟩) S1 ?_
  · have c0 := D2.out w'
    clear h'
    go_simp
  simp only [Act.put]
  refine wpAnyH_take (i := 17) (oi := ⟨some 46, Op.binOp BinOp.add 9 (Operand.tmp 44) (Operand.tmp 45) 9, _, _, _, none⟩) (v := (.string T3)) rfl (by kernel_rfl) (by kernel_rfl) (by kernel_rfl) (fun _ _ _ h => h) (Or.inl ⟨by rfl, fun w' h' => ?_⟩) S1 ?_
  · have c0 := D3.out w'
    clear h'
    go_simp
  simp only [Act.put]
  refine wpAnyH_ready (rs := [18]) (by kernel_rfl) (by simp) ?_
  refine AllReadyH.cons rfl (fun K hK => ?_) AllReadyH.nil
  go_simp
  refine (kS.out _).mono ?_
  rintro e v2 ⟨rfl, b2⟩
  have S2 : IpBx v2 m i ∧ IpBx v2 k j := ⟨S1.1.grow b2, S1.2.grow b2⟩
  have BV2 := bstep BV1 b2
  clear b2
  go_simp
  refine hK.out _ _ S2 (fun _ => ?_)
  clear hK K
  refine wpAnyH_take (i := 19) (oi := ⟨some 8, Op.assign (Operand.tmp 47), _, _, _, none⟩) (v := (.int .i64 (K : Int))) rfl (by kernel_rfl) (by kernel_rfl) (by kernel_rfl) (fun _ _ _ h => h) (Or.inl ⟨by rfl, fun w' h' => ?_⟩) S2 ?_
  · clear h'
    go_simp
  simp only [Act.put]
  refine wpAnyH_done (by kernel_rfl) (NoPanic.normal ?_) _
  simp only [List.setIfInBounds_toArray, List.set_cons_zero, List.set_cons_succ]
  have F6 := Lib.hid S2
  clear S1 S2 h6 F5 BV6 BV1
  go_upto_region 7 with fail
  refine wp_region_noPanic ?_
  refine region_heldE (S := fun w' => IpBx w' m i ∧ IpBx w' k j) (by kernel_rfl) (fun V d => ⟨F6.out.1.kept (d.block _), F6.out.2.kept (d.block _)⟩) (fun V7 d h7 => ?_)
  have BV7 := bstep BV2 d.below
  clear d BV2
  refine wpAnyH_take (i := 0) (oi := ⟨some 48, Op.move (Operand.tmp 7), _, _, _, none⟩) (v := (.string A3)) rfl (by kernel_rfl) (by kernel_rfl) (by kernel_rfl) (fun _ _ _ h => h) (Or.inl ⟨by rfl, fun w' h' => ?_⟩) h7 ?_
  · clear h'
    go_simp
  simp only [Act.put]
  refine wpAnyH_take (i := 1) (oi := ⟨some 49, Op.slice 9 (Operand.tmp 48) none (some (Operand.const (Value.int IntKind.i64 16))) none, _, _, _, none⟩) (v := (.string A0)) rfl (by kernel_rfl) (by kernel_rfl) (by kernel_rfl) (fun _ _ _ h => h) (Or.inl ⟨by rfl, fun w' h' => ?_⟩) h7 ?_
  · have c0 := G3.out.1
    have c1 := G3.out.2
    have c2 := HB0.out
    clear h'
    go_simp
  simp only [Act.put]
  refine wpAnyH_take (i := 2) (oi := ⟨some 50, Op.move (Operand.tmp 8), _, _, _, none⟩) (v := (.int .i64 (K : Int))) rfl (by kernel_rfl) (by kernel_rfl) (by kernel_rfl) (fun _ _ _ h => h) (Or.inl ⟨by rfl, fun w' h' => ?_⟩) h7 ?_
  · clear h'
    go_simp
  simp only [Act.put]
  refine wpAnyH_take (i := 3) (oi := ⟨some 51, Op.binOp BinOp.quo 3 (Operand.tmp 50) (Operand.const (Value.int IntKind.i64 256)) 3, _, _, _, none⟩) (v := (.int .i64 ((K : Int) / 256))) rfl (by kernel_rfl) (by kernel_rfl) (by kernel_rfl) (fun _ _ _ h => h) (Or.inl ⟨by rfl, fun w' h' => ?_⟩) h7 ?_
  · have c0 := W2.out
    clear h'
    go_simp
  simp only [Act.put]
  refine wpAnyH_take (i := 4) (oi := ⟨some 52, Op.convert 3 5 (Operand.tmp 51), _, _, _, none⟩) (v := (.int .u8 (U1.toNat : Int))) rfl (by kernel_rfl) (by kernel_rfl) (by kernel_rfl) (fun _ _ _ h => h) (Or.inl ⟨by rfl, fun w' h' => ?_⟩) h7 ?_
  · have c0 := Y3.out
    clear h'
    go_simp
  simp only [Act.put]
  refine wpAnyH_take (i := 5) (oi := ⟨some 53, Op.move (Operand.tmp 8), _, _, _, none⟩) (v := (.int .i64 (K : Int))) rfl (by kernel_rfl) (by kernel_rfl) (by kernel_rfl) (fun _ _ _ h => h) (Or.inl ⟨by rfl, fun w' h' => ?_⟩) h7 ?_
  · clear h'
    go_simp
  simp only [Act.put]
  refine wpAnyH_take (i := 6) (oi := ⟨some 54, Op.binOp BinOp.rem 3 (Operand.tmp 53) (Operand.const (Value.int IntKind.i64 256)) 3, _, _, _, none⟩) (v := (.int .i64 ((K : Int) % 256))) rfl (by kernel_rfl) (by kernel_rfl) (by kernel_rfl) (fun _ _ _ h => h) (Or.inl ⟨by rfl, fun w' h' => ?_⟩) h7 ?_
  · have c0 := WM2.out
    clear h'
    go_simp
  simp only [Act.put]
  refine wpAnyH_take (i := 7) (oi := ⟨some 55, Op.convert 3 5 (Operand.tmp 54), _, _, _, none⟩) (v := (.int .u8 (U2.toNat : Int))) rfl (by kernel_rfl) (by kernel_rfl) (by kernel_rfl) (fun _ _ _ h => h) (Or.inl ⟨by rfl, fun w' h' => ?_⟩) h7 ?_
  · have c0 := Y4.out
    clear h'
    go_simp
  simp only [Act.put]
  refine wpAnyH_take (i := 11) (oi := ⟨some 59, Op.move (Operand.tmp 7), _, _, _, none⟩) (v := (.string A3)) rfl (by kernel_rfl) (by kernel_rfl) (by kernel_rfl) (fun _ _ _ h => h) (Or.inl ⟨by rfl, fun w' h' => ?_⟩) h7 ?_
  · clear h'
    go_simp
  simp only [Act.put]
  refine wpAnyH_take (i := 12) (oi := ⟨some 60, Op.slice 9 (Operand.tmp 59) (some (Operand.const (Value.int IntKind.i64 18))) none none, _, _, _, none⟩) (v := (.string A2)) rfl (by kernel_rfl) (by kernel_rfl) (by kernel_rfl) (fun _ _ _ h => h) (Or.inl ⟨by rfl, fun w' h' => ?_⟩) h7 ?_
  · have c0 := G4.out.1
    have c1 := G4.out.2
    have c2 := HB2.out
    clear h'
    go_simp
  simp only [Act.put]
  refine wpAnyH_ready (rs := [8]) (by kernel_rfl) (by simp) ?_
  refine AllReadyH.cons rfl (fun K hK => ?_) AllReadyH.nil
  obtain ⟨x, hx⟩ : ∃ x, x = V7.heap.size := ⟨_, rfl⟩
  have S1 : IpBx (V7.alloc (.cells #[.int .u8 (U1.toNat : Int), .int .u8 (U2.toNat : Int)] 5)) m i ∧ IpBx (V7.alloc (.cells #[.int .u8 (U1.toNat : Int), .int .u8 (U2.toNat : Int)] 5)) k j := ⟨h7.1.grow ((Below.refl _ _).alloc (Nat.le_refl _) _), h7.2.grow ((Below.refl _ _).alloc (Nat.le_refl _) _)⟩
  have BV8 := bstep BV7 ((Below.refl V7.heap.size V7).alloc (Nat.le_refl _) (.cells #[.int .u8 (U1.toNat : Int), .int .u8 (U2.toNat : Int)] 5))
  have hcv := conv_2 V7 U1 U2 x hx U12 HU.out
  go_simp
  rw [← hx]
  generalize V7.alloc _ = v1 at S1 BV8 hcv ⊢
  clear hx
  refine hK.out _ _ S1 (fun _ => ?_)
  clear hK K
  refine wpAnyH_ready (rs := [9]) (by kernel_rfl) (by simp) ?_
  refine AllReadyH.cons rfl (fun K hK => ?_) AllReadyH.nil
  go_simp
  clear hcv
  refine hK.out _ _ S1 (fun _ => ?_)
  clear hK K
  refine wpAnyH_take (i := 10) (oi := ⟨some 58, Op.binOp BinOp.add 9 (Operand.tmp 49) (Operand.tmp 57) 9, _, _, _, none⟩) (v := (.string A4)) rfl (by kernel_rfl) (by kernel_rfl) (by kernel_rfl) (fun _ _ _ h => h) (Or.inl ⟨by rfl, fun w' h' => ?_⟩) S1 ?_
  · have c0 := E1.out w'
    clear h'
    go_simp
  simp only [Act.put]
  refine wpAnyH_take (i := 13) (oi := ⟨some 61, Op.binOp BinOp.add 9 (Operand.tmp 58) (Operand.tmp 60) 9, _, _, _, none⟩) (v := (.string C)) rfl (by kernel_rfl) (by kernel_rfl) (by kernel_rfl) (fun _ _ _ h => h) (Or.inl ⟨by rfl, fun w' h' => ?_⟩) S1 ?_
  · have c0 := E2.out w'
    clear h'
    go_simp
  simp only [Act.put]
  refine wpAnyH_take (i := 14) (oi := ⟨some 7, Op.assign (Operand.tmp 61), _, _, _, none⟩) (v := (.string C)) rfl (by kernel_rfl) (by kernel_rfl) (by kernel_rfl) (fun _ _ _ h => h) (Or.inl ⟨by rfl, fun w' h' => ?_⟩) S1 ?_
  · clear h'
    go_simp
  simp only [Act.put]
  refine wpAnyH_done (by kernel_rfl) (NoPanic.normal ?_) _
  simp only [List.setIfInBounds_toArray, List.set_cons_zero, List.set_cons_succ]
  have F7 := Lib.hid S1
  clear S1 h7 F6 BV7
  have hi := F7.out.1
  have hj := F7.out.2
  go_wp2_with (first | (refine ipb_ld (by rfl) (.tmp 4) rfl m rfl _ hi ?_) | (refine ipb_ld (by rfl) (.tmp 5) rfl k rfl _ hj ?_))
  refine (k1.out _).mono ?_
  rintro e w4 ⟨rfl, b4⟩
  have F14 := Lib.hid (And.intro (F7.out.1.grow b4) (F7.out.2.grow b4))
  have B14 := bstep BV8 b4
  clear b4 F7 hi hj
  have hst := sg_store w4 X
  go_upto_region 9 with (refine wpList_storeW 47 (.tmp 9) (.tmp 67) rfl rfl (.agg (sgC X)) w4.heap.size rfl rfl hst ?_)
  try simp only [Act.put]
  have al := (Below.refl w4.heap.size w4).alloc (Nat.le_refl _) (.cells (sgC X) 47)
  have PP : Hid (SgAt (w4.alloc (.cells (sgC X) 47)) w4.heap.size X) := Lib.hid (sg_new _ _ _ rfl)
  have F14s := Lib.hid (And.intro (F14.out.1.grow al) (F14.out.2.grow al))
  have B14s := bstep B14 al
  clear hst F14 B14 al
  obtain ⟨p, hp⟩ : ∃ n, n = w4.heap.size := ⟨_, rfl⟩
  generalize w4.alloc _ = W4s at PP F14s B14s ⊢
  rw [← hp] at PP ⊢
  clear hp
  have hi := F14s.out.1
  have hj := F14s.out.2
  go_wp2_with (first | (refine ipb_ld (by rfl) (.tmp 4) rfl m rfl _ hi ?_) | (refine ipb_ld (by rfl) (.tmp 5) rfl k rfl _ hj ?_))
  refine (k2.out _).mono ?_
  rintro e w5 ⟨rfl, b5⟩
  have F15 := Lib.hid (And.intro (F14s.out.1.grow b5) (F14s.out.2.grow b5))
  have B15 := bstep B14s b5
  have PQ := Lib.hid (PP.out.grow b5)
  clear b5 F14s hi hj PP F15
  have hst := sg_store w5 X
  go_upto_region 10 with (refine wpList_storeW 47 (.tmp 11) (.tmp 74) rfl rfl (.agg (sgC X)) w5.heap.size rfl rfl hst ?_)
  try simp only [Act.put]
  have al := (Below.refl w5.heap.size w5).alloc (Nat.le_refl _) (.cells (sgC X) 47)
  have PU : Hid (SgAt (w5.alloc (.cells (sgC X) 47)) w5.heap.size X) := Lib.hid (sg_new _ _ _ rfl)
  have PR := Lib.hid (PQ.out.grow al)
  have B15s := bstep B15 al
  clear hst B15 al PQ
  obtain ⟨u, hu⟩ : ∃ n, n = w5.heap.size := ⟨_, rfl⟩
  generalize w5.alloc _ = W5s at PU PR B15s ⊢
  rw [← hu] at PU ⊢
  clear hu
  have ha := PR.out
  have hb := PU.out
  go_wp2_with (first | (refine sg_ld (by rfl) _ rfl _ rfl _ (by first | exact ha | exact hb) ?_) | (refine sg_eq (by rfl) _ _ _ rfl X X rfl rfl true hqq ?_))
  go_ret
  exact ⟨rfl, B15s.out⟩
theorem walk (s : ByteArray) (i j : Ip4) (w0 : s.size ≤ maxLen) (w : World) :
    Calls Try.prog 6 #[.string s, .agg (ipC i), .agg (ipC j)] w fun e w' => e = .returned (.bool true) ∧ Below w.heap.size w w' := by
  have m0 : s.size ≤ 9223372036854775807 := by unfold maxLen at w0; omega
  by_cases h1 : s.size < 20
  · exact walk_out s i j m0 (.inl h1) w
  by_cases h2 : 566 < s.size
  · exact walk_out s i j m0 (.inr ⟨by omega, h2⟩) w
  exact walk_main s i j (by omega) (by omega) w

set_option maxRecDepth 100000 in
theorem lifted (os : Os) (started : os.Started) (H : Type) (enc : TypeId × Value → H) :
    ReturnsInHanded {} Try.checked os 6 .any (Rows.segHeadsSpec.pre6 enc Try.prog Try.f6 Rows.segHeadsRow.domain false) (Rows.segHeadsSpec.post enc Try.prog Try.f6 false true false false) := by
  refine returnsInHanded_of_change (C := Try.checked) own started (by kernel_rfl) Try.func6
    (ChangeSpec.witness6 (enc := enc) (C := Try.checked) false ⟨#[], #[.string ByteArray.empty, .agg #[.int .u8 0, .int .u8 0, .int .u8 0, .int .u8 0], .agg #[.int .u8 0, .int .u8 0, .int .u8 0, .int .u8 0]], []⟩ 8 (by kernel_rfl) (by kernel_rfl) (by kernel_rfl) (by kernel_rfl)) ?_
  intro W base args ds gs before hval0 hW hcnd _
  have hval : ∀ (j : Nat) t v, Try.f6.params[j]? = some t → args[j]? = some v → Value.okWide Try.prog W .any base t v := hval0
  have hW' := hW
  obtain ⟨p, q, hA0, hV, rfl, hfz, hnd⟩ := hW
  have hA : DataW.TrodAll enc Try.prog W 0 (fun _ => true) true Try.f6.params.toList args.toList ds p := hA0
  rw [Try.params6] at hA hval
  obtain ⟨v0, vs0, d0, ds0, p0, q0, hargs, rfl, rfl, h0, r0⟩ := trodAll_cons hA
  obtain ⟨v1, vs1, d1, ds1, p1, q1, rfl, rfl, rfl, h1, r1⟩ := trodAll_cons r0
  obtain ⟨v2, vs2, d2, ds2, p2, q2, rfl, rfl, rfl, h2, r2⟩ := trodAll_cons r1
  obtain ⟨rfl, rfl, rfl⟩ := trodAll_nil r2
  obtain rfl : args = #[v0, v1, v2] := by cases args; simp_all
  obtain ⟨rfl, rfl⟩ := trodVars_none hV
  obtain ⟨a0, rfl, rfl, rfl, w0⟩ := open_string Try.underlying9 (hval 0 9 v0 rfl rfl) h0
  obtain ⟨a1, rfl⟩ := open_ip (hval 1 33 v1 rfl rfl) h1
  have k1 := h1
  have lt1 : ∀ x ∈ p1, x.block < W.heap.size := by obtain ⟨m, hm⟩ := k1; exact DataW.trod_lt m _ _ _ hm
  obtain ⟨a2, rfl⟩ := open_ip (hval 2 33 v2 rfl rfl) h2
  have k2 := h2
  have lt2 : ∀ x ∈ p2, x.block < W.heap.size := by obtain ⟨m, hm⟩ := k2; exact DataW.trod_lt m _ _ _ hm
  clear hA0 hval0
  refine (walk a0 a1 a2 w0 W).mono fun e W' ⟨he, bel⟩ => ?_
  subst he
  exact ⟨_, rfl, _, _, _, [], _, [], hW', trodAll_mk1 (shut_bool Try.underlying4 _), (trodAll_cons_mk (shut_string Try.underlying9 w0) (trodAll_cons_mk (Below.trod laidOut (by kernel_rfl) (of_decide_eq_true (by kernel_rfl)) k1 bel lt1) (trodAll_cons_mk (Below.trod laidOut (by kernel_rfl) (of_decide_eq_true (by kernel_rfl)) k2 bel lt2) trodAll_mk0))), rfl, bel.frame _, fun h => by cases h⟩

/-- THE STATEMENT. -/
theorem proved : Rows.SegHeadsSaid :=
  OpenClaim.holds_of_wide 6 Try.f6 rfl rfl rfl rfl rfl rfl rfl ⟨rfl, rfl, rfl, rfl, rfl⟩ rfl rfl rfl rfl rfl (by kernel_rfl) Try.func6 (by kernel_rfl)
    (of_decide_eq_true (by kernel_rfl)) (by unfold Func.isWrapper; first | (rw [if_pos (by decide +kernel)]; kernel_rfl) | (rw [if_neg (by decide +kernel)]; exact ⟨rfl, rfl⟩))
    (fun os started H enc _ => lifted os started H enc)
#print axioms proved

end Go.Proofs.Ytbjoibgkhooljaa.sgh
