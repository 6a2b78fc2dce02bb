/-
  Layer 8: the document's own sum and bytes. Conditions: a text has at most 100,000 bytes; a packet's numbers are numbers of their kind.
-/
import Derived.Test.YtbjoibgkhooljaaIpK
import Derived.Test.YtbjoibgkhooljaaArpF
namespace Go.Proofs.Ytbjoibgkhooljaa
open Go.RowKit Go.Sort
set_option linter.unusedVariables false

theorem tot_nought (l : List UInt8) : tot (l ++ [0]) = tot l := by
  rw [tot_push]
  split <;> rfl
theorem tot_pair (l : List UInt8) (k : Nat) (X Y : UInt8) (hk : k % 2 = 0) (h1 : l[k]? = some X) (h2 : l[k + 1]? = some Y) : tot (l.take (k + 2)) = tot (l.take k) + (256 * X.toNat + Y.toNat) := by
  rw [tot_next l (k + 1) Y h2, if_neg (by omega), tot_next l k X h1, if_pos hk]
  omega
theorem wrap_nat (n : Nat) (h : n < 9223372036854775808) : IntKind.i64.wrap (n : Int) = (n : Int) := IntWalk.i64_in _ (by omega)

set_option maxRecDepth 100000 in
set_option maxHeartbeats 4000000 in
theorem rSum_any (w : World) (s : ByteArray) (hs : s.size ≤ 100000) :
    Calls Try.prog 28 #[.string s] w fun e w' => e = .returned (.int .i64 (sumT s.data.toList)) ∧ Below w.heap.size w w' := by
  obtain ⟨R, hR⟩ : ∃ R, R = sumT s.data.toList := ⟨_, rfl⟩
  rw [← hR]
  have HR := Lib.hid hR
  clear hR
  have hv := conv_one w 0 (by decide) (by decide)
  by_cases ho : s.size % 2 = 1
  · have e1 : ((s.size : Int) % 2 == 1) = true := by simp; omega
    have s1 : ¬ 9223372036854775807 < s.size + 1 := by omega
    have zT : (s ++ ⟨#[0]⟩ : ByteArray).size = s.size + 1 := by rw [ByteArray.size_append]; rfl
    have lT : (s ++ ⟨#[0]⟩ : ByteArray).data.toList = s.data.toList ++ [0] := by simp
    go_enter Try.func28, Try.ntmps28
    go_upto_region 3 with fail
    have BL : Hid (Below w.heap.size w (w.alloc (.cells #[.int .u8 0] 5))) := Lib.hid ((Below.refl _ _).alloc (Nat.le_refl _) _)
    generalize w.alloc _ = W1 at BL ⊢
    generalize s ++ ⟨#[0]⟩ = T at zT lT ⊢
    have hz : T.size % 2 = 0 := by omega
    have hm : T.size ≤ 100001 := by omega
    have HT : Hid (R = 65535 - cm (tot T.data.toList)) := Lib.hid (by rw [HR.out, lT, sumT, tot_nought])
    clear zT lT e1 s1 ho hv hs
    have hl := size_list T
    have HL := Lib.hid hl
    clear hl
    go_wp2
    go_loopw [3, 4] (fun x i wr => ∃ j : Nat, j % 2 = 0 ∧ j ≤ T.size ∧ i = .int .i64 j ∧ x = .int .i64 (tot (T.data.toList.take j)) ∧ Hid (Below w.heap.size w wr)) (fun _ i _ => T.size - (intOf i).toNat)
    case atStart => exact ⟨0, rfl, by omega, rfl, rfl, BL⟩
    case round =>
      obtain ⟨j, hj2, hj, rfl, rfl, bl⟩ := hrel
      clear BL
      by_cases hlt : j < T.size
      · have hlt2 : j + 1 < T.size := by omega
        obtain ⟨X, hX⟩ : ∃ X : Nat, (T[j]'hlt).toNat = X := ⟨_, rfl⟩
        obtain ⟨Y, hY⟩ : ∃ Y : Nat, (T[j + 1]'hlt2).toNat = Y := ⟨_, rfl⟩
        have hp := tot_pair T.data.toList j T[j] T[j + 1] hj2 (by rw [Array.getElem?_toList]; exact Array.getElem?_eq_getElem hlt) (by rw [Array.getElem?_toList]; exact Array.getElem?_eq_getElem hlt2)
        rw [hX, hY] at hp
        have hX2 : X < 256 := by rw [← hX]; exact UInt8.toNat_lt _
        have hY2 : Y < 256 := by rw [← hY]; exact UInt8.toNat_lt _
        have hb := tot_take_le T.data.toList j 100001 (by omega)
        obtain ⟨Z, hZ⟩ : ∃ Z, tot (T.data.toList.take j) = Z := ⟨_, rfl⟩
        rw [hZ] at hp hb ⊢
        have HP := Lib.hid hp
        have HX := Lib.hid hX
        have HY := Lib.hid hY
        have w1 := Lib.hid (wrap_nat X (by omega))
        have w2 : Hid (IntKind.i64.wrap (256 * (X : Int)) = 256 * (X : Int)) := Lib.hid (IntWalk.i64_in _ (by omega))
        have w3 : Hid (IntKind.i64.wrap ((Z : Int) + 256 * (X : Int)) = (Z : Int) + 256 * (X : Int)) := Lib.hid (IntWalk.i64_in _ (by omega))
        have w4 : Hid (IntKind.i64.wrap ((j : Int) + 1) = (j : Int) + 1) := Lib.hid (IntWalk.i64_in _ (by omega))
        have w5 := Lib.hid (wrap_nat Y (by omega))
        have w6 : Hid (IntKind.i64.wrap ((Z : Int) + 256 * (X : Int) + (Y : Int)) = (Z : Int) + 256 * (X : Int) + (Y : Int)) := Lib.hid (IntWalk.i64_in _ (by omega))
        have hN : ((j : Int) + 1).toNat = j + 1 := by omega
        have HN := Lib.hid hN
        clear hp hX hY hZ hb hN
        go_upto_region 7 with fail
        refine wp_region_noPanic ?_
        refine region_heldE (S := fun _ => True) (by kernel_rfl) (fun V d => trivial) (fun V d hS => ?_)
        have BV := bstep bl d.below
        clear d
        refine wpAnyH_take (i := 0) (oi := ⟨some 19, Op.move (Operand.tmp 3), _, _, _, none⟩) (v := (.int .i64 (Z : Int))) rfl (by kernel_rfl) (by kernel_rfl) (by kernel_rfl) (fun _ _ _ h => h) (Or.inl ⟨by rfl, fun w' h' => ?_⟩) hS ?_
        · clear h'
          go_simp
        simp only [Act.put]
        refine wpAnyH_take (i := 1) (oi := ⟨some 20, Op.move (Operand.tmp 0), _, _, _, none⟩) (v := (.string T)) rfl (by kernel_rfl) (by kernel_rfl) (by kernel_rfl) (fun _ _ _ h => h) (Or.inl ⟨by rfl, fun w' h' => ?_⟩) hS ?_
        · clear h'
          go_simp
        simp only [Act.put]
        refine wpAnyH_take (i := 2) (oi := ⟨some 21, Op.move (Operand.tmp 4), _, _, _, none⟩) (v := (.int .i64 (j : Int))) rfl (by kernel_rfl) (by kernel_rfl) (by kernel_rfl) (fun _ _ _ h => h) (Or.inl ⟨by rfl, fun w' h' => ?_⟩) hS ?_
        · clear h'
          go_simp
        simp only [Act.put]
        refine wpAnyH_take (i := 3) (oi := ⟨some 22, Op.index 9 (Operand.tmp 20) (Operand.tmp 21), _, _, _, none⟩) (v := (.int .u8 (X : Int))) rfl (by kernel_rfl) (by kernel_rfl) (by kernel_rfl) (fun _ _ _ h => h) (Or.inl ⟨by rfl, fun w' h' => ?_⟩) hS ?_
        · have c0 := HX.out
          clear h'
          go_simp
          try intro hq
          try omega
        simp only [Act.put]
        refine wpAnyH_take (i := 4) (oi := ⟨some 23, Op.convert 5 3 (Operand.tmp 22), _, _, _, none⟩) (v := (.int .i64 (X : Int))) rfl (by kernel_rfl) (by kernel_rfl) (by kernel_rfl) (fun _ _ _ h => h) (Or.inl ⟨by rfl, fun w' h' => ?_⟩) hS ?_
        · have c0 := w1.out
          clear h'
          go_simp
        simp only [Act.put]
        refine wpAnyH_take (i := 5) (oi := ⟨some 24, Op.binOp BinOp.mul 3 (Operand.const (Value.int IntKind.i64 256)) (Operand.tmp 23) 3, _, _, _, none⟩) (v := (.int .i64 (256 * (X : Int)))) rfl (by kernel_rfl) (by kernel_rfl) (by kernel_rfl) (fun _ _ _ h => h) (Or.inl ⟨by rfl, fun w' h' => ?_⟩) hS ?_
        · have c0 := w2.out
          clear h'
          go_simp
        simp only [Act.put]
        refine wpAnyH_take (i := 6) (oi := ⟨some 25, Op.binOp BinOp.add 3 (Operand.tmp 19) (Operand.tmp 24) 3, _, _, _, none⟩) (v := (.int .i64 ((Z : Int) + 256 * (X : Int)))) rfl (by kernel_rfl) (by kernel_rfl) (by kernel_rfl) (fun _ _ _ h => h) (Or.inl ⟨by rfl, fun w' h' => ?_⟩) hS ?_
        · have c0 := w3.out
          clear h'
          go_simp
        simp only [Act.put]
        refine wpAnyH_take (i := 7) (oi := ⟨some 26, Op.move (Operand.tmp 0), _, _, _, none⟩) (v := (.string T)) rfl (by kernel_rfl) (by kernel_rfl) (by kernel_rfl) (fun _ _ _ h => h) (Or.inl ⟨by rfl, fun w' h' => ?_⟩) hS ?_
        · clear h'
          go_simp
        simp only [Act.put]
        refine wpAnyH_take (i := 8) (oi := ⟨some 27, Op.move (Operand.tmp 4), _, _, _, none⟩) (v := (.int .i64 (j : Int))) rfl (by kernel_rfl) (by kernel_rfl) (by kernel_rfl) (fun _ _ _ h => h) (Or.inl ⟨by rfl, fun w' h' => ?_⟩) hS ?_
        · clear h'
          go_simp
        simp only [Act.put]
        refine wpAnyH_take (i := 9) (oi := ⟨some 28, Op.binOp BinOp.add 3 (Operand.tmp 27) (Operand.const (Value.int IntKind.i64 1)) 3, _, _, _, none⟩) (v := (.int .i64 ((j : Int) + 1))) rfl (by kernel_rfl) (by kernel_rfl) (by kernel_rfl) (fun _ _ _ h => h) (Or.inl ⟨by rfl, fun w' h' => ?_⟩) hS ?_
        · have c0 := w4.out
          clear h'
          go_simp
        simp only [Act.put]
        refine wpAnyH_take (i := 10) (oi := ⟨some 29, Op.index 9 (Operand.tmp 26) (Operand.tmp 28), _, _, _, none⟩) (v := (.int .u8 (Y : Int))) rfl (by kernel_rfl) (by kernel_rfl) (by kernel_rfl) (fun _ _ _ h => h) (Or.inl ⟨by rfl, fun w' h' => ?_⟩) hS ?_
        · have c0 := HY.out
          have c1 := HN.out
          clear h'
          go_simp
          try intro hq
          try omega
        simp only [Act.put]
        refine wpAnyH_take (i := 11) (oi := ⟨some 30, Op.convert 5 3 (Operand.tmp 29), _, _, _, none⟩) (v := (.int .i64 (Y : Int))) rfl (by kernel_rfl) (by kernel_rfl) (by kernel_rfl) (fun _ _ _ h => h) (Or.inl ⟨by rfl, fun w' h' => ?_⟩) hS ?_
        · have c0 := w5.out
          clear h'
          go_simp
        simp only [Act.put]
        refine wpAnyH_take (i := 12) (oi := ⟨some 31, Op.binOp BinOp.add 3 (Operand.tmp 25) (Operand.tmp 30) 3, _, _, _, none⟩) (v := (.int .i64 ((Z : Int) + 256 * (X : Int) + (Y : Int)))) rfl (by kernel_rfl) (by kernel_rfl) (by kernel_rfl) (fun _ _ _ h => h) (Or.inl ⟨by rfl, fun w' h' => ?_⟩) hS ?_
        · have c0 := w6.out
          clear h'
          go_simp
        simp only [Act.put]
        refine wpAnyH_take (i := 13) (oi := ⟨some 3, Op.assign (Operand.tmp 31), _, _, _, none⟩) (v := (.int .i64 ((Z : Int) + 256 * (X : Int) + (Y : Int)))) rfl (by kernel_rfl) (by kernel_rfl) (by kernel_rfl) (fun _ _ _ h => h) (Or.inl ⟨by rfl, fun w' h' => ?_⟩) hS ?_
        · clear h'
          go_simp
        simp only [Act.put]
        refine wpAnyH_done (by kernel_rfl) (NoPanic.normal ?_) _
        
        simp only [List.setIfInBounds_toArray, List.set_cons_zero, List.set_cons_succ]
        go_wp2_with fail
        go_roundw
        case rel => exact ⟨j + 2, by omega, by omega, by go_num, by rw [HP.out]; go_num, BV⟩
        case measure => simp [intOf]; omega
      · have hz2 : j = T.size := by omega
        have htk : T.data.toList.take j = T.data.toList := List.take_of_length_le (by rw [HL.out]; omega)
        have hb := tot_take_le T.data.toList j 100001 (by omega)
        rw [htk] at hb ⊢
        clear htk
        generalize tot T.data.toList = V at hb HT ⊢
        subst hz2
        go_wp2
        go_loopw [3] (fun x wr => ∃ m : Nat, m ≤ V ∧ cm m = cm V ∧ x = .int .i64 m ∧ Hid (Below w.heap.size w wr)) (fun x _ => (intOf x).toNat)
        case atStart => exact ⟨V, Nat.le_refl _, rfl, rfl, bl⟩
        case round =>
          obtain ⟨m, hmV, hcm, rfl, bm⟩ := hrel
          have HC := Lib.hid hcm
          clear hcm bl
          by_cases h65 : 65535 < m
          · go_wp2
            go_roundw
            case rel => exact ⟨m / 65536 + m % 65536, by omega, by rw [cm_step h65, HC.out], by go_num, bm⟩
            case measure => simp [intOf]; omega
          · have e3 : cm m = m := cm_small (by omega)
            have e4 := HC.out
            rw [e3] at e4
            have hRm : Hid (R = 65535 - m) := Lib.hid (by rw [HT.out, ← e4])
            clear e3 e4
            go_wp2
            go_ret
            exact ⟨by rw [hRm.out]; go_num, bm.out⟩
  · have e1 : ((s.size : Int) % 2 == 1) = false := by simp; omega
    go_enter Try.func28, Try.ntmps28
    go_upto_region 3 with fail
    have BL : Hid (Below w.heap.size w w) := Lib.hid (Below.refl _ _)
    have hz : s.size % 2 = 0 := by omega
    have hm : s.size ≤ 100001 := by omega
    have HT : Hid (R = 65535 - cm (tot s.data.toList)) := Lib.hid (by rw [HR.out, sumT])
    clear e1 ho hv hs
    have hl := size_list s
    have HL := Lib.hid hl
    clear hl
    go_wp2
    go_loopw [3, 4] (fun x i wr => ∃ j : Nat, j % 2 = 0 ∧ j ≤ s.size ∧ i = .int .i64 j ∧ x = .int .i64 (tot (s.data.toList.take j)) ∧ Hid (Below w.heap.size w wr)) (fun _ i _ => s.size - (intOf i).toNat)
    case atStart => exact ⟨0, rfl, by omega, rfl, rfl, BL⟩
    case round =>
      obtain ⟨j, hj2, hj, rfl, rfl, bl⟩ := hrel
      clear BL
      by_cases hlt : j < s.size
      · have hlt2 : j + 1 < s.size := by omega
        obtain ⟨X, hX⟩ : ∃ X : Nat, (s[j]'hlt).toNat = X := ⟨_, rfl⟩
        obtain ⟨Y, hY⟩ : ∃ Y : Nat, (s[j + 1]'hlt2).toNat = Y := ⟨_, rfl⟩
        have hp := tot_pair s.data.toList j s[j] s[j + 1] hj2 (by rw [Array.getElem?_toList]; exact Array.getElem?_eq_getElem hlt) (by rw [Array.getElem?_toList]; exact Array.getElem?_eq_getElem hlt2)
        rw [hX, hY] at hp
        have hX2 : X < 256 := by rw [← hX]; exact UInt8.toNat_lt _
        have hY2 : Y < 256 := by rw [← hY]; exact UInt8.toNat_lt _
        have hb := tot_take_le s.data.toList j 100001 (by omega)
        obtain ⟨Z, hZ⟩ : ∃ Z, tot (s.data.toList.take j) = Z := ⟨_, rfl⟩
        rw [hZ] at hp hb ⊢
        have HP := Lib.hid hp
        have HX := Lib.hid hX
        have HY := Lib.hid hY
        have w1 := Lib.hid (wrap_nat X (by omega))
        have w2 : Hid (IntKind.i64.wrap (256 * (X : Int)) = 256 * (X : Int)) := Lib.hid (IntWalk.i64_in _ (by omega))
        have w3 : Hid (IntKind.i64.wrap ((Z : Int) + 256 * (X : Int)) = (Z : Int) + 256 * (X : Int)) := Lib.hid (IntWalk.i64_in _ (by omega))
        have w4 : Hid (IntKind.i64.wrap ((j : Int) + 1) = (j : Int) + 1) := Lib.hid (IntWalk.i64_in _ (by omega))
        have w5 := Lib.hid (wrap_nat Y (by omega))
        have w6 : Hid (IntKind.i64.wrap ((Z : Int) + 256 * (X : Int) + (Y : Int)) = (Z : Int) + 256 * (X : Int) + (Y : Int)) := Lib.hid (IntWalk.i64_in _ (by omega))
        have hN : ((j : Int) + 1).toNat = j + 1 := by omega
        have HN := Lib.hid hN
        clear hp hX hY hZ hb hN
        go_upto_region 7 with fail
        refine wp_region_noPanic ?_
        refine region_heldE (S := fun _ => True) (by kernel_rfl) (fun V d => trivial) (fun V d hS => ?_)
        have BV := bstep bl d.below
        clear d
        refine wpAnyH_take (i := 0) (oi := ⟨some 19, Op.move (Operand.tmp 3), _, _, _, none⟩) (v := (.int .i64 (Z : Int))) rfl (by kernel_rfl) (by kernel_rfl) (by kernel_rfl) (fun _ _ _ h => h) (Or.inl ⟨by rfl, fun w' h' => ?_⟩) hS ?_
        · clear h'
          go_simp
        simp only [Act.put]
        refine wpAnyH_take (i := 1) (oi := ⟨some 20, Op.move (Operand.tmp 0), _, _, _, none⟩) (v := (.string s)) rfl (by kernel_rfl) (by kernel_rfl) (by kernel_rfl) (fun _ _ _ h => h) (Or.inl ⟨by rfl, fun w' h' => ?_⟩) hS ?_
        · clear h'
          go_simp
        simp only [Act.put]
        refine wpAnyH_take (i := 2) (oi := ⟨some 21, Op.move (Operand.tmp 4), _, _, _, none⟩) (v := (.int .i64 (j : Int))) rfl (by kernel_rfl) (by kernel_rfl) (by kernel_rfl) (fun _ _ _ h => h) (Or.inl ⟨by rfl, fun w' h' => ?_⟩) hS ?_
        · clear h'
          go_simp
        simp only [Act.put]
        refine wpAnyH_take (i := 3) (oi := ⟨some 22, Op.index 9 (Operand.tmp 20) (Operand.tmp 21), _, _, _, none⟩) (v := (.int .u8 (X : Int))) rfl (by kernel_rfl) (by kernel_rfl) (by kernel_rfl) (fun _ _ _ h => h) (Or.inl ⟨by rfl, fun w' h' => ?_⟩) hS ?_
        · have c0 := HX.out
          clear h'
          go_simp
          try intro hq
          try omega
        simp only [Act.put]
        refine wpAnyH_take (i := 4) (oi := ⟨some 23, Op.convert 5 3 (Operand.tmp 22), _, _, _, none⟩) (v := (.int .i64 (X : Int))) rfl (by kernel_rfl) (by kernel_rfl) (by kernel_rfl) (fun _ _ _ h => h) (Or.inl ⟨by rfl, fun w' h' => ?_⟩) hS ?_
        · have c0 := w1.out
          clear h'
          go_simp
        simp only [Act.put]
        refine wpAnyH_take (i := 5) (oi := ⟨some 24, Op.binOp BinOp.mul 3 (Operand.const (Value.int IntKind.i64 256)) (Operand.tmp 23) 3, _, _, _, none⟩) (v := (.int .i64 (256 * (X : Int)))) rfl (by kernel_rfl) (by kernel_rfl) (by kernel_rfl) (fun _ _ _ h => h) (Or.inl ⟨by rfl, fun w' h' => ?_⟩) hS ?_
        · have c0 := w2.out
          clear h'
          go_simp
        simp only [Act.put]
        refine wpAnyH_take (i := 6) (oi := ⟨some 25, Op.binOp BinOp.add 3 (Operand.tmp 19) (Operand.tmp 24) 3, _, _, _, none⟩) (v := (.int .i64 ((Z : Int) + 256 * (X : Int)))) rfl (by kernel_rfl) (by kernel_rfl) (by kernel_rfl) (fun _ _ _ h => h) (Or.inl ⟨by rfl, fun w' h' => ?_⟩) hS ?_
        · have c0 := w3.out
          clear h'
          go_simp
        simp only [Act.put]
        refine wpAnyH_take (i := 7) (oi := ⟨some 26, Op.move (Operand.tmp 0), _, _, _, none⟩) (v := (.string s)) rfl (by kernel_rfl) (by kernel_rfl) (by kernel_rfl) (fun _ _ _ h => h) (Or.inl ⟨by rfl, fun w' h' => ?_⟩) hS ?_
        · clear h'
          go_simp
        simp only [Act.put]
        refine wpAnyH_take (i := 8) (oi := ⟨some 27, Op.move (Operand.tmp 4), _, _, _, none⟩) (v := (.int .i64 (j : Int))) rfl (by kernel_rfl) (by kernel_rfl) (by kernel_rfl) (fun _ _ _ h => h) (Or.inl ⟨by rfl, fun w' h' => ?_⟩) hS ?_
        · clear h'
          go_simp
        simp only [Act.put]
        refine wpAnyH_take (i := 9) (oi := ⟨some 28, Op.binOp BinOp.add 3 (Operand.tmp 27) (Operand.const (Value.int IntKind.i64 1)) 3, _, _, _, none⟩) (v := (.int .i64 ((j : Int) + 1))) rfl (by kernel_rfl) (by kernel_rfl) (by kernel_rfl) (fun _ _ _ h => h) (Or.inl ⟨by rfl, fun w' h' => ?_⟩) hS ?_
        · have c0 := w4.out
          clear h'
          go_simp
        simp only [Act.put]
        refine wpAnyH_take (i := 10) (oi := ⟨some 29, Op.index 9 (Operand.tmp 26) (Operand.tmp 28), _, _, _, none⟩) (v := (.int .u8 (Y : Int))) rfl (by kernel_rfl) (by kernel_rfl) (by kernel_rfl) (fun _ _ _ h => h) (Or.inl ⟨by rfl, fun w' h' => ?_⟩) hS ?_
        · have c0 := HY.out
          have c1 := HN.out
          clear h'
          go_simp
          try intro hq
          try omega
        simp only [Act.put]
        refine wpAnyH_take (i := 11) (oi := ⟨some 30, Op.convert 5 3 (Operand.tmp 29), _, _, _, none⟩) (v := (.int .i64 (Y : Int))) rfl (by kernel_rfl) (by kernel_rfl) (by kernel_rfl) (fun _ _ _ h => h) (Or.inl ⟨by rfl, fun w' h' => ?_⟩) hS ?_
        · have c0 := w5.out
          clear h'
          go_simp
        simp only [Act.put]
        refine wpAnyH_take (i := 12) (oi := ⟨some 31, Op.binOp BinOp.add 3 (Operand.tmp 25) (Operand.tmp 30) 3, _, _, _, none⟩) (v := (.int .i64 ((Z : Int) + 256 * (X : Int) + (Y : Int)))) rfl (by kernel_rfl) (by kernel_rfl) (by kernel_rfl) (fun _ _ _ h => h) (Or.inl ⟨by rfl, fun w' h' => ?_⟩) hS ?_
        · have c0 := w6.out
          clear h'
          go_simp
        simp only [Act.put]
        refine wpAnyH_take (i := 13) (oi := ⟨some 3, Op.assign (Operand.tmp 31), _, _, _, none⟩) (v := (.int .i64 ((Z : Int) + 256 * (X : Int) + (Y : Int)))) rfl (by kernel_rfl) (by kernel_rfl) (by kernel_rfl) (fun _ _ _ h => h) (Or.inl ⟨by rfl, fun w' h' => ?_⟩) hS ?_
        · clear h'
          go_simp
        simp only [Act.put]
        refine wpAnyH_done (by kernel_rfl) (NoPanic.normal ?_) _
        
        simp only [List.setIfInBounds_toArray, List.set_cons_zero, List.set_cons_succ]
        go_wp2_with fail
        go_roundw
        case rel => exact ⟨j + 2, by omega, by omega, by go_num, by rw [HP.out]; go_num, BV⟩
        case measure => simp [intOf]; omega
      · have hz2 : j = s.size := by omega
        have htk : s.data.toList.take j = s.data.toList := List.take_of_length_le (by rw [HL.out]; omega)
        have hb := tot_take_le s.data.toList j 100001 (by omega)
        rw [htk] at hb ⊢
        clear htk
        generalize tot s.data.toList = V at hb HT ⊢
        subst hz2
        go_wp2
        go_loopw [3] (fun x wr => ∃ m : Nat, m ≤ V ∧ cm m = cm V ∧ x = .int .i64 m ∧ Hid (Below w.heap.size w wr)) (fun x _ => (intOf x).toNat)
        case atStart => exact ⟨V, Nat.le_refl _, rfl, rfl, bl⟩
        case round =>
          obtain ⟨m, hmV, hcm, rfl, bm⟩ := hrel
          have HC := Lib.hid hcm
          clear hcm bl
          by_cases h65 : 65535 < m
          · go_wp2
            go_roundw
            case rel => exact ⟨m / 65536 + m % 65536, by omega, by rw [cm_step h65, HC.out], by go_num, bm⟩
            case measure => simp [intOf]; omega
          · have e3 : cm m = m := cm_small (by omega)
            have e4 := HC.out
            rw [e3] at e4
            have hRm : Hid (R = 65535 - m) := Lib.hid (by rw [HT.out, ← e4])
            clear e3 e4
            go_wp2
            go_ret
            exact ⟨by rw [hRm.out]; go_num, bm.out⟩

end Go.Proofs.Ytbjoibgkhooljaa
