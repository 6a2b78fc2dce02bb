/-
  Layer 2, act 0 of both sides beside one another: what it answers, and what it leaves. Conditions: as said.
-/
import Derived.Test.YtjelgifijhcnnaaVDz
namespace Go.Proofs.Ytjelgifijhcnnaa
open Go.RowKit Go.Sort
set_option linter.unusedVariables false

set_option maxRecDepth 100000 in
set_option maxHeartbeats 8000000 in
theorem does1 {w W : World} {x q g h : Nat} {base : Int} {n sz : Nat} {s : St} {d : Dt} (D : DS w W x q g h base n sz s d) (v : Value) (hd ln f a k y : Int) :
    Calls Try.prog 16 #[.pointer (some ⟨x, 0, none⟩), .agg #[.int .i64 1, v, .int .u32 hd, .int .u32 ln, .int .i64 f, .int .i64 a, .int .i64 k, .int .u64 y]] W (DP w x q g h base n sz d) := by
  obtain ⟨R, hR⟩ : ∃ R, R = popF s.lm base n d.l s.back s.br := ⟨_, rfl⟩
  have HR := Lib.hid hR
  clear hR
  have B0 := Lib.hid D.bs
  have TIE := Lib.hid D.tie
  clear D
  go_enter Try.func16, Try.ntmps16
  go_upto_region 1 with fail
  have B1 := Lib.hid (B0.out.alloc (.cells (acC 1 v hd ln f a k y) 51))
  have Z1 := Lib.hid (Beside.new B0.out (t := 51) (acC 1 v hd ln f a k y))
  have G1 : Hid (Below W.heap.size W (W.alloc (.cells (acC 1 v hd ln f a k y) 51))) := Lib.hid ((Below.refl _ _).alloc (Nat.le_refl _) _)
  obtain ⟨z, hz⟩ : ∃ z, z = W.heap.size := ⟨_, rfl⟩
  generalize W.alloc _ = W1 at B1 Z1 G1 ⊢
  rw [← hz] at Z1 ⊢
  clear hz B0
  have L1 : Hid (Below W1.heap.size W1 W1) := Lib.hid (Below.refl _ _)
  have c0 := ac_c0 Z1.out.at_
  clear G1
  go_upto_region 8 with fail
  clear c0
  go_cut [11, 12, 13, 14] from 80 to 93 (fun p11 a12 a13 a14 wx => ∃ y5 op oc, p11 = .pointer (some ⟨y5, 0, none⟩) ∧ a12 = .int .i64 R.2.2.2.1 ∧ a13 = .int .i64 R.2.2.2.2.1 ∧ a14 = .int .i64 R.2.2.2.2.2 ∧ Hid (BS w wx x q g h base n sz s { d with l := R.1, op := op, oc := oc } (wdOf s d) ∧ Beside wx z (acO 1 v hd ln f a k y) x q s.p h s.mb ∧ Beside wx y5 (quO base n (.slice op (List.length R.1) oc) s.off R.2.1 R.2.2.1) x q s.p h s.mb ∧ Below W1.heap.size W1 wx))
  case first =>
    refine wp_region_noPanic ?_
    refine region_held (S := SX x z g q base n (wdOf s d) 1 v hd ln f a k y) (by kernel_rfl) (fun V d => ⟨(d.block _).trans B1.out.bx, (d.block _).trans Z1.out.at_⟩) (fun V d' hS => ?_)
    have BV := Lib.hid (B1.out.grow (Below.of_none d'.grown))
    have ZV := Lib.hid (Z1.out.grow (Below.of_none d'.grown))
    have LV := Lib.hid (L1.out.trans ((Below.of_none d'.grown).mono L1.out.size))
    clear d' B1 Z1 L1
    refine wpAnyH_take (i := 0) (oi := ⟨some 81, Op.move (Operand.tmp 0), _, _, _, none⟩) (v := (.pointer (some ⟨x, 0, none⟩))) rfl (by kernel_rfl) (by kernel_rfl) (by kernel_rfl) (fun _ _ _ h => h) (Or.inl ⟨by rfl, fun w' h' => ?_⟩) hS ?_
    · clear h'
      go_simp
    simp only [Act.put]
    refine wpAnyH_take (i := 1) (oi := ⟨some 82, Op.nilCheck (Operand.tmp 81), _, _, _, none⟩) (v := (.pointer (some ⟨x, 0, none⟩))) rfl (by kernel_rfl) (by kernel_rfl) (by kernel_rfl) (fun _ _ _ h => h) (Or.inl ⟨by rfl, fun w' h' => ?_⟩) hS ?_
    · clear h'
      go_simp
    simp only [Act.put]
    refine wpAnyH_take (i := 2) (oi := ⟨some 83, Op.fieldAddr 45 (Operand.tmp 82) 4, _, _, _, none⟩) (v := (.pointer (some ⟨x, 4, none⟩))) rfl (by kernel_rfl) (by kernel_rfl) (by kernel_rfl) (fun _ _ _ h => h) (Or.inl ⟨by rfl, fun w' h' => ?_⟩) hS ?_
    · clear h'
      go_simp
    simp only [Act.put]
    refine wpAnyH_take (i := 3) (oi := ⟨some 84, Op.load 40 (Operand.tmp 83), _, _, _, none⟩) (v := (.agg #[.int .i64 base, .int .i64 n, .slice d.op d.l.length d.oc, .int .i64 s.off, .int .i64 s.back, .bool s.br])) rfl (by kernel_rfl) (by kernel_rfl) (by kernel_rfl) (fun _ _ _ h => h) (Or.inl ⟨by rfl, fun w' h' => ?_⟩) hS ?_
    · have c0 := (show w'.cell? ⟨x, 4, none⟩ = some (.int .i64 base) from wd_c4 h'.1)
      have c1 := (show w'.cell? ⟨x, 5, none⟩ = some (.int .i64 n) from wd_c5 h'.1)
      have c2 := (show w'.cell? ⟨x, 6, none⟩ = some (.slice d.op d.l.length d.oc) from wd_c6 h'.1)
      have c3 := (show w'.cell? ⟨x, 7, none⟩ = some (.int .i64 s.off) from wd_c7 h'.1)
      have c4 := (show w'.cell? ⟨x, 8, none⟩ = some (.int .i64 s.back) from wd_c8 h'.1)
      have c5 := (show w'.cell? ⟨x, 9, none⟩ = some (.bool s.br) from wd_c9 h'.1)
      clear h'
      go_simp
    simp only [Act.put]
    refine wpAnyH_take (i := 4) (oi := ⟨some 85, Op.move (Operand.tmp 0), _, _, _, none⟩) (v := (.pointer (some ⟨x, 0, none⟩))) rfl (by kernel_rfl) (by kernel_rfl) (by kernel_rfl) (fun _ _ _ h => h) (Or.inl ⟨by rfl, fun w' h' => ?_⟩) hS ?_
    · clear h'
      go_simp
    simp only [Act.put]
    refine wpAnyH_take (i := 5) (oi := ⟨some 86, Op.nilCheck (Operand.tmp 85), _, _, _, none⟩) (v := (.pointer (some ⟨x, 0, none⟩))) rfl (by kernel_rfl) (by kernel_rfl) (by kernel_rfl) (fun _ _ _ h => h) (Or.inl ⟨by rfl, fun w' h' => ?_⟩) hS ?_
    · clear h'
      go_simp
    simp only [Act.put]
    refine wpAnyH_take (i := 6) (oi := ⟨some 87, Op.fieldAddr 45 (Operand.tmp 86) 3, _, _, _, none⟩) (v := (.pointer (some ⟨x, 3, none⟩))) rfl (by kernel_rfl) (by kernel_rfl) (by kernel_rfl) (fun _ _ _ h => h) (Or.inl ⟨by rfl, fun w' h' => ?_⟩) hS ?_
    · clear h'
      go_simp
    simp only [Act.put]
    refine wpAnyH_take (i := 7) (oi := ⟨some 88, Op.load 9 (Operand.tmp 87), _, _, _, none⟩) (v := (.string ⟨s.lm.toArray⟩)) rfl (by kernel_rfl) (by kernel_rfl) (by kernel_rfl) (fun _ _ _ h => h) (Or.inl ⟨by rfl, fun w' h' => ?_⟩) hS ?_
    · have c0 := (show w'.cell? ⟨x, 3, none⟩ = some (.string ⟨s.lm.toArray⟩) from wd_c3 h'.1)
      clear h'
      go_simp
    simp only [Act.put]
    refine wpAnyH_ready (rs := [8, 14]) (by kernel_rfl) (by simp) ?_
    refine AllReadyH.cons rfl (fun K hK => ?_) (AllReadyH.cons rfl (fun K hK => ?_) AllReadyH.nil)
    · go_simp
      refine (BS.rPop BV.out TIE.out R HR.out).mono ?_
      rintro e w1 ⟨op, oc, rfl, kk, bl, hnew⟩
      have B19 := Lib.hid kk
      have Z19 := Lib.hid (ZV.out.grow bl)
      have L19 := Lib.hid (LV.out.trans (bl.mono LV.out.size))
      have S19 := SX.grow hS bl
      clear kk ZV LV BV
      go_simp
      refine hK.out _ _ S19 (fun _ => ?_)
      clear hK K
      refine wpAnyH_take (i := 9) (oi := ⟨some 80, Op.move (Operand.tmp 89), _, _, _, none⟩) (v := (.tuple #[.agg #[.int .i64 base, .int .i64 n, .slice op (List.length R.1) oc, .int .i64 s.off, .int .i64 R.2.1, .bool R.2.2.1], .int .i64 R.2.2.2.1, .int .i64 R.2.2.2.2.1, .int .i64 R.2.2.2.2.2])) rfl (by kernel_rfl) (by kernel_rfl) (by kernel_rfl) (fun _ _ _ h => h) (Or.inl ⟨by rfl, fun w' h' => ?_⟩) S19 ?_
      · clear h'
        go_simp
      simp only [Act.put]
      refine wpAnyH_take (i := 10) (oi := ⟨some 90, Op.extract (Operand.tmp 80) 0, _, _, _, none⟩) (v := (.agg #[.int .i64 base, .int .i64 n, .slice op (List.length R.1) oc, .int .i64 s.off, .int .i64 R.2.1, .bool R.2.2.1])) rfl (by kernel_rfl) (by kernel_rfl) (by kernel_rfl) (fun _ _ _ h => h) (Or.inl ⟨by rfl, fun w' h' => ?_⟩) S19 ?_
      · clear h'
        go_simp
      simp only [Act.put]
      refine wpAnyH_take (i := 11) (oi := ⟨some 91, Op.extract (Operand.tmp 80) 1, _, _, _, none⟩) (v := (.int .i64 R.2.2.2.1)) rfl (by kernel_rfl) (by kernel_rfl) (by kernel_rfl) (fun _ _ _ h => h) (Or.inl ⟨by rfl, fun w' h' => ?_⟩) S19 ?_
      · clear h'
        go_simp
      simp only [Act.put]
      refine wpAnyH_take (i := 12) (oi := ⟨some 92, Op.extract (Operand.tmp 80) 2, _, _, _, none⟩) (v := (.int .i64 R.2.2.2.2.1)) rfl (by kernel_rfl) (by kernel_rfl) (by kernel_rfl) (fun _ _ _ h => h) (Or.inl ⟨by rfl, fun w' h' => ?_⟩) S19 ?_
      · clear h'
        go_simp
      simp only [Act.put]
      refine wpAnyH_take (i := 13) (oi := ⟨some 93, Op.extract (Operand.tmp 80) 3, _, _, _, none⟩) (v := (.int .i64 R.2.2.2.2.2)) rfl (by kernel_rfl) (by kernel_rfl) (by kernel_rfl) (fun _ _ _ h => h) (Or.inl ⟨by rfl, fun w' h' => ?_⟩) S19 ?_
      · clear h'
        go_simp
      simp only [Act.put]
      refine wpAnyH_ready (rs := [14]) (by kernel_rfl) (by simp) ?_
      refine AllReadyH.cons rfl (fun K hK => ?_) AllReadyH.nil
      obtain ⟨y5, hy5⟩ : ∃ x, x = w1.heap.size := ⟨_, rfl⟩
      have B29 := Lib.hid (B19.out.alloc (.cells (qCells 0 0 (.slice none 0 0) 0 0 false) 40))
      have Y29 := Lib.hid (Beside.new B19.out (t := 40) (qCells 0 0 (.slice none 0 0) 0 0 false))
      have HZ5 := Lib.hid (Nat.ne_of_lt Z19.out.lt)
      have Z29 := Lib.hid (Z19.out.alloc (.cells (qCells 0 0 (.slice none 0 0) 0 0 false) 40))
      have L29 := Lib.hid (L19.out.alloc L19.out.size (.cells (qCells 0 0 (.slice none 0 0) 0 0 false) 40))
      have S29 := SX.grow S19 ((Below.refl _ _).alloc (Nat.le_refl _) (.cells (qCells 0 0 (.slice none 0 0) 0 0 false) 40))
      have HY5 := Lib.hid hy5
      have HLY := Lib.hid L19.out.size
      have HW5 : Hid ((w1.alloc (.cells (qCells 0 0 (.slice none 0 0) 0 0 false) 40)).heap.size = w1.heap.size + 1) := Lib.hid (by simp)
      go_simp
      rw [← hy5] at Y29 HZ5 HW5 HLY
      rw [← hy5]
      clear hy5
      generalize w1.alloc _ = w2 at B29 Y29 Z29 L29 S29 HW5 ⊢
      clear Z19 L19
      refine hK.out _ _ S29 (fun _ => ?_)
      clear hK K
      have hst := run_storeVar_row (P := Try.prog) w2 y5 40 40 _ #[.int .i64 base, .int .i64 n, .slice op (List.length R.1) oc, .int .i64 s.off, .int .i64 R.2.1, .bool R.2.2.1] Y29.out.at_ (by kernel_rfl) rfl (by simp [Value.oneCell'])
      have B39 := Lib.hid (BS.box B19.out (l' := R.1) B29.out HY5.out Y29.out.at_ (by decide) (fun yy hyy => .inl hyy) #[.int .i64 base, .int .i64 n, .slice op (List.length R.1) oc, .int .i64 s.off, .int .i64 R.2.1, .bool R.2.2.1])
      have Y39 := Lib.hid (Y29.out.set (o' := quO base n (.slice op (List.length R.1) oc) s.off R.2.1 R.2.2.1) (setRow_heap _ _ _ #[.int .i64 base, .int .i64 n, .slice op (List.length R.1) oc, .int .i64 s.off, .int .i64 R.2.1, .bool R.2.2.1] _ _ Y29.out.at_))
      have Z39 := Lib.hid (Z29.out.row HZ5.out #[.int .i64 base, .int .i64 n, .slice op (List.length R.1) oc, .int .i64 s.off, .int .i64 R.2.1, .bool R.2.2.1])
      have L39 := Lib.hid (below_setRow L29.out HLY.out #[.int .i64 base, .int .i64 n, .slice op (List.length R.1) oc, .int .i64 s.off, .int .i64 R.2.1, .bool R.2.2.1])
      have S39 := SX.of B39.out Z39.out
      refine wpAnyH_ready (rs := [15]) (by kernel_rfl) (by simp) ?_
      refine rdy_store_at (n := 15) rfl rfl 40 (Operand.tmp 11) (Operand.tmp 90) rfl rfl (.agg #[.int .i64 base, .int .i64 n, .slice op (List.length R.1) oc, .int .i64 s.off, .int .i64 R.2.1, .bool R.2.2.1]) y5 0 (by kernel_rfl) (by kernel_rfl) hst S39 ?_
      clear hst B29 Y29 Z29 L29
      generalize w2.setRow _ _ = w3 at B39 Y39 Z39 L39 S39 ⊢
      refine wpAnyH_take (i := 16) (oi := ⟨some 12, Op.assign (Operand.tmp 91), _, _, _, none⟩) (v := (.int .i64 R.2.2.2.1)) rfl (by kernel_rfl) (by kernel_rfl) (by kernel_rfl) (fun _ _ _ h => h) (Or.inl ⟨by rfl, fun w' h' => ?_⟩) S39 ?_
      · clear h'
        go_simp
      simp only [Act.put]
      refine wpAnyH_take (i := 17) (oi := ⟨some 13, Op.assign (Operand.tmp 92), _, _, _, none⟩) (v := (.int .i64 R.2.2.2.2.1)) rfl (by kernel_rfl) (by kernel_rfl) (by kernel_rfl) (fun _ _ _ h => h) (Or.inl ⟨by rfl, fun w' h' => ?_⟩) S39 ?_
      · clear h'
        go_simp
      simp only [Act.put]
      refine wpAnyH_take (i := 18) (oi := ⟨some 14, Op.assign (Operand.tmp 93), _, _, _, none⟩) (v := (.int .i64 R.2.2.2.2.2)) rfl (by kernel_rfl) (by kernel_rfl) (by kernel_rfl) (fun _ _ _ h => h) (Or.inl ⟨by rfl, fun w' h' => ?_⟩) S39 ?_
      · clear h'
        go_simp
      simp only [Act.put]
      refine wpAnyH_done (by kernel_rfl) (NoPanic.normal ?_) _
      go_wp2_with fail
      try simp only [List.setIfInBounds_toArray, List.set_cons_zero, List.set_cons_succ]
      go_meet
      case rel => exact ⟨y5, op, oc, rfl, rfl, rfl, rfl, Lib.hid ⟨B39.out, Z39.out, Y39.out, L39.out⟩⟩
    · obtain ⟨y5, hy5⟩ : ∃ x, x = V.heap.size := ⟨_, rfl⟩
      have B19 := Lib.hid (BV.out.alloc (.cells (qCells 0 0 (.slice none 0 0) 0 0 false) 40))
      have Y19 := Lib.hid (Beside.new BV.out (t := 40) (qCells 0 0 (.slice none 0 0) 0 0 false))
      have HZ5 := Lib.hid (Nat.ne_of_lt ZV.out.lt)
      have Z19 := Lib.hid (ZV.out.alloc (.cells (qCells 0 0 (.slice none 0 0) 0 0 false) 40))
      have L19 := Lib.hid (LV.out.alloc LV.out.size (.cells (qCells 0 0 (.slice none 0 0) 0 0 false) 40))
      have S19 := SX.grow hS ((Below.refl _ _).alloc (Nat.le_refl _) (.cells (qCells 0 0 (.slice none 0 0) 0 0 false) 40))
      have HY5 := Lib.hid hy5
      have HLY := Lib.hid LV.out.size
      have HW5 : Hid ((V.alloc (.cells (qCells 0 0 (.slice none 0 0) 0 0 false) 40)).heap.size = V.heap.size + 1) := Lib.hid (by simp)
      go_simp
      rw [← hy5] at Y19 HZ5 HW5 HLY
      rw [← hy5]
      clear hy5
      generalize V.alloc _ = w1 at B19 Y19 Z19 L19 S19 HW5 ⊢
      clear ZV LV
      refine hK.out _ _ S19 (fun _ => ?_)
      clear hK K
      refine wpAnyH_ready (rs := [8]) (by kernel_rfl) (by simp) ?_
      refine AllReadyH.cons rfl (fun K hK => ?_) AllReadyH.nil
      go_simp
      refine (BS.rPop B19.out TIE.out R HR.out).mono ?_
      rintro e w2 ⟨op, oc, rfl, kk, bl, hnew⟩
      have B29 := Lib.hid kk
      have Z29 := Lib.hid (Z19.out.grow bl)
      have L29 := Lib.hid (L19.out.trans (bl.mono L19.out.size))
      have S29 := SX.grow S19 bl
      have Y29 := Lib.hid (Y19.out.grow bl)
      clear kk Z19 L19
      go_simp
      refine hK.out _ _ S29 (fun _ => ?_)
      clear hK K
      refine wpAnyH_take (i := 9) (oi := ⟨some 80, Op.move (Operand.tmp 89), _, _, _, none⟩) (v := (.tuple #[.agg #[.int .i64 base, .int .i64 n, .slice op (List.length R.1) oc, .int .i64 s.off, .int .i64 R.2.1, .bool R.2.2.1], .int .i64 R.2.2.2.1, .int .i64 R.2.2.2.2.1, .int .i64 R.2.2.2.2.2])) rfl (by kernel_rfl) (by kernel_rfl) (by kernel_rfl) (fun _ _ _ h => h) (Or.inl ⟨by rfl, fun w' h' => ?_⟩) S29 ?_
      · clear h'
        go_simp
      simp only [Act.put]
      refine wpAnyH_take (i := 10) (oi := ⟨some 90, Op.extract (Operand.tmp 80) 0, _, _, _, none⟩) (v := (.agg #[.int .i64 base, .int .i64 n, .slice op (List.length R.1) oc, .int .i64 s.off, .int .i64 R.2.1, .bool R.2.2.1])) rfl (by kernel_rfl) (by kernel_rfl) (by kernel_rfl) (fun _ _ _ h => h) (Or.inl ⟨by rfl, fun w' h' => ?_⟩) S29 ?_
      · clear h'
        go_simp
      simp only [Act.put]
      refine wpAnyH_take (i := 11) (oi := ⟨some 91, Op.extract (Operand.tmp 80) 1, _, _, _, none⟩) (v := (.int .i64 R.2.2.2.1)) rfl (by kernel_rfl) (by kernel_rfl) (by kernel_rfl) (fun _ _ _ h => h) (Or.inl ⟨by rfl, fun w' h' => ?_⟩) S29 ?_
      · clear h'
        go_simp
      simp only [Act.put]
      refine wpAnyH_take (i := 12) (oi := ⟨some 92, Op.extract (Operand.tmp 80) 2, _, _, _, none⟩) (v := (.int .i64 R.2.2.2.2.1)) rfl (by kernel_rfl) (by kernel_rfl) (by kernel_rfl) (fun _ _ _ h => h) (Or.inl ⟨by rfl, fun w' h' => ?_⟩) S29 ?_
      · clear h'
        go_simp
      simp only [Act.put]
      refine wpAnyH_take (i := 13) (oi := ⟨some 93, Op.extract (Operand.tmp 80) 3, _, _, _, none⟩) (v := (.int .i64 R.2.2.2.2.2)) rfl (by kernel_rfl) (by kernel_rfl) (by kernel_rfl) (fun _ _ _ h => h) (Or.inl ⟨by rfl, fun w' h' => ?_⟩) S29 ?_
      · clear h'
        go_simp
      simp only [Act.put]
      have hst := run_storeVar_row (P := Try.prog) w2 y5 40 40 _ #[.int .i64 base, .int .i64 n, .slice op (List.length R.1) oc, .int .i64 s.off, .int .i64 R.2.1, .bool R.2.2.1] Y29.out.at_ (by kernel_rfl) rfl (by simp [Value.oneCell'])
      have B39 := Lib.hid (BS.box BV.out (l' := R.1) B29.out HY5.out Y29.out.at_ (by decide) (fun yy hyy => (hnew yy hyy).imp id (fun ⟨b, h1, h2⟩ => ⟨b, h1, by have := HW5.out; have := HY5.out; omega⟩)) #[.int .i64 base, .int .i64 n, .slice op (List.length R.1) oc, .int .i64 s.off, .int .i64 R.2.1, .bool R.2.2.1])
      have Y39 := Lib.hid (Y29.out.set (o' := quO base n (.slice op (List.length R.1) oc) s.off R.2.1 R.2.2.1) (setRow_heap _ _ _ #[.int .i64 base, .int .i64 n, .slice op (List.length R.1) oc, .int .i64 s.off, .int .i64 R.2.1, .bool R.2.2.1] _ _ Y29.out.at_))
      have Z39 := Lib.hid (Z29.out.row HZ5.out #[.int .i64 base, .int .i64 n, .slice op (List.length R.1) oc, .int .i64 s.off, .int .i64 R.2.1, .bool R.2.2.1])
      have L39 := Lib.hid (below_setRow L29.out HLY.out #[.int .i64 base, .int .i64 n, .slice op (List.length R.1) oc, .int .i64 s.off, .int .i64 R.2.1, .bool R.2.2.1])
      have S39 := SX.of B39.out Z39.out
      refine wpAnyH_ready (rs := [15]) (by kernel_rfl) (by simp) ?_
      refine rdy_store_at (n := 15) rfl rfl 40 (Operand.tmp 11) (Operand.tmp 90) rfl rfl (.agg #[.int .i64 base, .int .i64 n, .slice op (List.length R.1) oc, .int .i64 s.off, .int .i64 R.2.1, .bool R.2.2.1]) y5 0 (by kernel_rfl) (by kernel_rfl) hst S39 ?_
      clear hst B29 Y29 Z29 L29
      generalize w2.setRow _ _ = w3 at B39 Y39 Z39 L39 S39 ⊢
      refine wpAnyH_take (i := 16) (oi := ⟨some 12, Op.assign (Operand.tmp 91), _, _, _, none⟩) (v := (.int .i64 R.2.2.2.1)) rfl (by kernel_rfl) (by kernel_rfl) (by kernel_rfl) (fun _ _ _ h => h) (Or.inl ⟨by rfl, fun w' h' => ?_⟩) S39 ?_
      · clear h'
        go_simp
      simp only [Act.put]
      refine wpAnyH_take (i := 17) (oi := ⟨some 13, Op.assign (Operand.tmp 92), _, _, _, none⟩) (v := (.int .i64 R.2.2.2.2.1)) rfl (by kernel_rfl) (by kernel_rfl) (by kernel_rfl) (fun _ _ _ h => h) (Or.inl ⟨by rfl, fun w' h' => ?_⟩) S39 ?_
      · clear h'
        go_simp
      simp only [Act.put]
      refine wpAnyH_take (i := 18) (oi := ⟨some 14, Op.assign (Operand.tmp 93), _, _, _, none⟩) (v := (.int .i64 R.2.2.2.2.2)) rfl (by kernel_rfl) (by kernel_rfl) (by kernel_rfl) (fun _ _ _ h => h) (Or.inl ⟨by rfl, fun w' h' => ?_⟩) S39 ?_
      · clear h'
        go_simp
      simp only [Act.put]
      refine wpAnyH_done (by kernel_rfl) (NoPanic.normal ?_) _
      go_wp2_with fail
      try simp only [List.setIfInBounds_toArray, List.set_cons_zero, List.set_cons_succ]
      go_meet
      case rel => exact ⟨y5, op, oc, rfl, rfl, rfl, rfl, Lib.hid ⟨B39.out, Z39.out, Y39.out, L39.out⟩⟩
  case rest =>
    obtain ⟨y5, op, oc, rfl, rfl, rfl, rfl, HC⟩ := hcut
    have B3 := Lib.hid HC.out.1
    have Z3 := Lib.hid HC.out.2.1
    have Y3 := Lib.hid HC.out.2.2.1
    clear HC B1 Z1 L1
    have c1 := (show wc.cell? ⟨x, 1, none⟩ = some (.pointer (some ⟨q, 0, none⟩)) from wd_c1 B3.out.bx)
    go_wp2_with fail
    refine (B3.out.cPop d.l TIE.out R HR.out).mono ?_
    rintro e w5 ⟨cs', rfl, kk, htc, t5⟩
    have t5' : ∀ j, QB q h s.mb j → j = x ∨ j = q ∨ j = s.p ∨ j = h ∨ j = s.mb := fun j hj => by
      rcases hj with e | e | e
      · exact .inr (.inr (.inr (.inl e)))
      · exact .inr (.inl e)
      · exact .inr (.inr (.inr (.inr e)))
    have B5 := Lib.hid kk
    have Y5 := Lib.hid (Y3.out.turned t5 t5')
    have HTC := Lib.hid htc
    clear kk B3 Z3 Y3 c1 htc t5 t5'
    obtain ⟨q0, q1, q2, q3, q4, q5⟩ := qu_all (show QuAt w5 y5 base n (.slice op (List.length R.1) oc) s.off R.2.1 R.2.2.1 from Y5.out.at_)
    have hst := (wd_queue B5.out.bx op (List.length R.1) oc s.off R.2.1 R.2.2.1).1
    have B6 := Lib.hid (B5.out.putQ op (List.length R.1) oc s.off R.2.1 R.2.2.1)
    have g1 : (R.2.2.2.1 == R.2.2.2.1) = true := by simp
    have g2 : (R.2.2.2.2.1 == R.2.2.2.2.1) = true := by simp
    have g3 : (R.2.2.2.2.2 == R.2.2.2.2.2) = true := by simp
    go_wp2_with (refine wpl_store_at 40 _ _ rfl rfl rfl _ x 4 rfl rfl hst ?_; clear hst q0 q1 q2 q3 q4 q5 B5 Y5; generalize World.setCells _ _ _ _ = W6 at B6 ⊢)
    go_ret
    exact ⟨rfl, _, _, ⟨B6.out, HTC.out⟩, Nat.le_succ _⟩

end Go.Proofs.Ytjelgifijhcnnaa

namespace Go.Proofs.Ytjelgifijhcnnaa
open Go.RowKit Go.Sort
set_option linter.unusedVariables false

set_option maxRecDepth 100000 in
set_option maxHeartbeats 8000000 in
theorem does5 {w W : World} {x q g h : Nat} {base : Int} {n sz : Nat} {s : St} {d : Dt} (D : DS w W x q g h base n sz s d) (v : Value) (hd ln f a k y : Int) (hy0 : 0 ≤ y) (hy1 : y < 18446744073709551616) :
    Calls Try.prog 16 #[.pointer (some ⟨x, 0, none⟩), .agg #[.int .i64 5, v, .int .u32 hd, .int .u32 ln, .int .i64 f, .int .i64 a, .int .i64 k, .int .u64 y]] W (DP w x q g h base n sz d) := by
  have HY1 := Lib.hid hy1
  obtain ⟨E, hE⟩ : ∃ E, E = putE s.lm a k := ⟨_, rfl⟩
  obtain ⟨M, hM⟩ : ∃ M, M = putL s.lm a k y := ⟨_, rfl⟩
  have HE := Lib.hid hE
  have HM := Lib.hid hM
  clear hy1 hE hM
  have B0 := Lib.hid D.bs
  have TIE := Lib.hid D.tie
  clear D
  go_enter Try.func16, Try.ntmps16
  go_upto_region 1 with fail
  have B1 := Lib.hid (B0.out.alloc (.cells (acC 5 v hd ln f a k y) 51))
  have Z1 := Lib.hid (Beside.new B0.out (t := 51) (acC 5 v hd ln f a k y))
  have G1 : Hid (Below W.heap.size W (W.alloc (.cells (acC 5 v hd ln f a k y) 51))) := Lib.hid ((Below.refl _ _).alloc (Nat.le_refl _) _)
  obtain ⟨z, hz⟩ : ∃ z, z = W.heap.size := ⟨_, rfl⟩
  generalize W.alloc _ = W1 at B1 Z1 G1 ⊢
  rw [← hz] at Z1 ⊢
  clear hz B0
  have L1 : Hid (Below W1.heap.size W1 W1) := Lib.hid (Below.refl _ _)
  have c0 := ac_c0 Z1.out.at_
  clear G1
  go_upto_region 32 with fail
  clear c0
  refine wp_region_noPanic ?_
  refine region_held (S := SX x z g q base n (wdOf s d) 5 v hd ln f a k y) (by kernel_rfl) (fun V d => ⟨(d.block _).trans B1.out.bx, (d.block _).trans Z1.out.at_⟩) (fun V d' hS => ?_)
  have BV := Lib.hid (B1.out.grow (Below.of_none d'.grown))
  have ZV := Lib.hid (Z1.out.grow (Below.of_none d'.grown))
  have LV := Lib.hid (L1.out.trans ((Below.of_none d'.grown).mono L1.out.size))
  clear d' B1 Z1 L1
  refine wpAnyH_take (i := 0) (oi := ⟨some 298, Op.move (Operand.tmp 0), _, _, _, none⟩) (v := (.pointer (some ⟨x, 0, none⟩))) rfl (by kernel_rfl) (by kernel_rfl) (by kernel_rfl) (fun _ _ _ h => h) (Or.inl ⟨by rfl, fun w' h' => ?_⟩) hS ?_
  · clear h'
    go_simp
  simp only [Act.put]
  refine wpAnyH_take (i := 1) (oi := ⟨some 299, Op.nilCheck (Operand.tmp 298), _, _, _, none⟩) (v := (.pointer (some ⟨x, 0, none⟩))) rfl (by kernel_rfl) (by kernel_rfl) (by kernel_rfl) (fun _ _ _ h => h) (Or.inl ⟨by rfl, fun w' h' => ?_⟩) hS ?_
  · clear h'
    go_simp
  simp only [Act.put]
  refine wpAnyH_take (i := 2) (oi := ⟨some 300, Op.fieldAddr 45 (Operand.tmp 299) 3, _, _, _, none⟩) (v := (.pointer (some ⟨x, 3, none⟩))) rfl (by kernel_rfl) (by kernel_rfl) (by kernel_rfl) (fun _ _ _ h => h) (Or.inl ⟨by rfl, fun w' h' => ?_⟩) hS ?_
  · clear h'
    go_simp
  simp only [Act.put]
  refine wpAnyH_take (i := 3) (oi := ⟨some 301, Op.load 9 (Operand.tmp 300), _, _, _, none⟩) (v := (.string ⟨s.lm.toArray⟩)) rfl (by kernel_rfl) (by kernel_rfl) (by kernel_rfl) (fun _ _ _ h => h) (Or.inl ⟨by rfl, fun w' h' => ?_⟩) hS ?_
  · have c0 := (show w'.cell? ⟨x, 3, none⟩ = some (.string ⟨s.lm.toArray⟩) from wd_c3 h'.1)
    clear h'
    go_simp
  simp only [Act.put]
  refine wpAnyH_take (i := 4) (oi := ⟨some 302, Op.fieldAddr 51 (Operand.tmp 3) 5, _, _, _, none⟩) (v := (.pointer (some ⟨z, 5, none⟩))) rfl (by kernel_rfl) (by kernel_rfl) (by kernel_rfl) (fun _ _ _ h => h) (Or.inl ⟨by rfl, fun w' h' => ?_⟩) hS ?_
  · clear h'
    go_simp
  simp only [Act.put]
  refine wpAnyH_take (i := 5) (oi := ⟨some 303, Op.load 3 (Operand.tmp 302), _, _, _, none⟩) (v := (.int .i64 a)) rfl (by kernel_rfl) (by kernel_rfl) (by kernel_rfl) (fun _ _ _ h => h) (Or.inl ⟨by rfl, fun w' h' => ?_⟩) hS ?_
  · have c0 := ac_c5 h'.2
    clear h'
    go_simp
  simp only [Act.put]
  refine wpAnyH_take (i := 6) (oi := ⟨some 304, Op.fieldAddr 51 (Operand.tmp 3) 6, _, _, _, none⟩) (v := (.pointer (some ⟨z, 6, none⟩))) rfl (by kernel_rfl) (by kernel_rfl) (by kernel_rfl) (fun _ _ _ h => h) (Or.inl ⟨by rfl, fun w' h' => ?_⟩) hS ?_
  · clear h'
    go_simp
  simp only [Act.put]
  refine wpAnyH_take (i := 7) (oi := ⟨some 305, Op.load 3 (Operand.tmp 304), _, _, _, none⟩) (v := (.int .i64 k)) rfl (by kernel_rfl) (by kernel_rfl) (by kernel_rfl) (fun _ _ _ h => h) (Or.inl ⟨by rfl, fun w' h' => ?_⟩) hS ?_
  · have c0 := ac_c6 h'.2
    clear h'
    go_simp
  simp only [Act.put]
  refine wpAnyH_take (i := 8) (oi := ⟨some 306, Op.fieldAddr 51 (Operand.tmp 3) 7, _, _, _, none⟩) (v := (.pointer (some ⟨z, 7, none⟩))) rfl (by kernel_rfl) (by kernel_rfl) (by kernel_rfl) (fun _ _ _ h => h) (Or.inl ⟨by rfl, fun w' h' => ?_⟩) hS ?_
  · clear h'
    go_simp
  simp only [Act.put]
  refine wpAnyH_take (i := 9) (oi := ⟨some 307, Op.load 49 (Operand.tmp 306), _, _, _, none⟩) (v := (.int .u64 y)) rfl (by kernel_rfl) (by kernel_rfl) (by kernel_rfl) (fun _ _ _ h => h) (Or.inl ⟨by rfl, fun w' h' => ?_⟩) hS ?_
  · have c0 := ac_c7 h'.2
    clear h'
    go_simp
  simp only [Act.put]
  refine wpAnyH_ready (rs := [10]) (by kernel_rfl) (by simp) ?_
  refine AllReadyH.cons rfl (fun K hK => ?_) AllReadyH.nil
  go_simp
  have hx := BS.rPut BV.out a k y hy0 HY1
  rw [← HE.out, ← HM.out] at hx
  refine hx.mono ?_
  rintro e w5 ⟨rfl, kk, bl⟩
  have B5 := Lib.hid kk
  have Z5 := Lib.hid (ZV.out.grow bl)
  have S9 := SX.of B5.out Z5.out
  have L5 := Lib.hid (LV.out.trans (bl.mono LV.out.size))
  clear kk BV ZV LV bl hx
  go_simp
  refine hK.out _ _ S9 (fun _ => ?_)
  clear hK K
  refine wpAnyH_take (i := 11) (oi := ⟨some 297, Op.move (Operand.tmp 308), _, _, _, none⟩) (v := (.tuple #[.string ⟨M.toArray⟩, .int .i64 E])) rfl (by kernel_rfl) (by kernel_rfl) (by kernel_rfl) (fun _ _ _ h => h) (Or.inl ⟨by rfl, fun w' h' => ?_⟩) S9 ?_
  · clear h'
    go_simp
  simp only [Act.put]
  refine wpAnyH_take (i := 12) (oi := ⟨some 309, Op.extract (Operand.tmp 297) 0, _, _, _, none⟩) (v := (.string ⟨M.toArray⟩)) rfl (by kernel_rfl) (by kernel_rfl) (by kernel_rfl) (fun _ _ _ h => h) (Or.inl ⟨by rfl, fun w' h' => ?_⟩) S9 ?_
  · clear h'
    go_simp
  simp only [Act.put]
  refine wpAnyH_take (i := 13) (oi := ⟨some 310, Op.extract (Operand.tmp 297) 1, _, _, _, none⟩) (v := (.int .i64 E)) rfl (by kernel_rfl) (by kernel_rfl) (by kernel_rfl) (fun _ _ _ h => h) (Or.inl ⟨by rfl, fun w' h' => ?_⟩) S9 ?_
  · clear h'
    go_simp
  simp only [Act.put]
  refine wpAnyH_take (i := 14) (oi := ⟨some 30, Op.assign (Operand.tmp 309), _, _, _, none⟩) (v := (.string ⟨M.toArray⟩)) rfl (by kernel_rfl) (by kernel_rfl) (by kernel_rfl) (fun _ _ _ h => h) (Or.inl ⟨by rfl, fun w' h' => ?_⟩) S9 ?_
  · clear h'
    go_simp
  simp only [Act.put]
  refine wpAnyH_take (i := 15) (oi := ⟨some 31, Op.assign (Operand.tmp 310), _, _, _, none⟩) (v := (.int .i64 E)) rfl (by kernel_rfl) (by kernel_rfl) (by kernel_rfl) (fun _ _ _ h => h) (Or.inl ⟨by rfl, fun w' h' => ?_⟩) S9 ?_
  · clear h'
    go_simp
  simp only [Act.put]
  refine wpAnyH_done (by kernel_rfl) (NoPanic.normal ?_) _
  clear hS S9
  have c0 := ac_c0 Z5.out.at_
  have e3 := (show w5.cell? ⟨x, 3, none⟩ = some (.string ⟨s.lm.toArray⟩) from wd_c3 B5.out.bx)
  have f3 := B5.out.bx.free 3
  go_upto_region 34 with fail
  have B6 := Lib.hid (B5.out.putB M)
  have Z6 := Lib.hid (Z5.out.put (setCell_grown w5 x 3 (.string ⟨M.toArray⟩)))
  generalize World.setCell _ _ _ = W6 at B6 Z6 ⊢
  have L6 : Hid (Below W6.heap.size W6 W6) := Lib.hid (Below.refl _ _)
  clear e3 f3 B5 Z5 L5 c0
  have hee : (E == E) = true := by simp
  refine wp_region_noPanic ?_
  refine region_held (S := SX x z g q base n { wdOf s d with lm := M } 5 v hd ln f a k y) (by kernel_rfl) (fun V d => ⟨(d.block _).trans B6.out.bx, (d.block _).trans Z6.out.at_⟩) (fun V d' hS => ?_)
  have BV := Lib.hid (B6.out.grow (Below.of_none d'.grown))
  have ZV := Lib.hid (Z6.out.grow (Below.of_none d'.grown))
  have LV := Lib.hid (L6.out.trans ((Below.of_none d'.grown).mono L6.out.size))
  clear d' B6 Z6 L6
  refine wpAnyH_take (i := 0) (oi := ⟨some 315, Op.move (Operand.tmp 0), _, _, _, none⟩) (v := (.pointer (some ⟨x, 0, none⟩))) rfl (by kernel_rfl) (by kernel_rfl) (by kernel_rfl) (fun _ _ _ h => h) (Or.inl ⟨by rfl, fun w' h' => ?_⟩) hS ?_
  · clear h'
    go_simp
  simp only [Act.put]
  refine wpAnyH_take (i := 1) (oi := ⟨some 316, Op.nilCheck (Operand.tmp 315), _, _, _, none⟩) (v := (.pointer (some ⟨x, 0, none⟩))) rfl (by kernel_rfl) (by kernel_rfl) (by kernel_rfl) (fun _ _ _ h => h) (Or.inl ⟨by rfl, fun w' h' => ?_⟩) hS ?_
  · clear h'
    go_simp
  simp only [Act.put]
  refine wpAnyH_take (i := 2) (oi := ⟨some 317, Op.fieldAddr 45 (Operand.tmp 316) 0, _, _, _, none⟩) (v := (.pointer (some ⟨x, 0, none⟩))) rfl (by kernel_rfl) (by kernel_rfl) (by kernel_rfl) (fun _ _ _ h => h) (Or.inl ⟨by rfl, fun w' h' => ?_⟩) hS ?_
  · clear h'
    go_simp
  simp only [Act.put]
  refine wpAnyH_take (i := 3) (oi := ⟨some 318, Op.load 25 (Operand.tmp 317), _, _, _, none⟩) (v := (.pointer (some ⟨g, 0, none⟩))) rfl (by kernel_rfl) (by kernel_rfl) (by kernel_rfl) (fun _ _ _ h => h) (Or.inl ⟨by rfl, fun w' h' => ?_⟩) hS ?_
  · have c0 := (show w'.cell? ⟨x, 0, none⟩ = some (.pointer (some ⟨g, 0, none⟩)) from wd_c0 h'.1)
    clear h'
    go_simp
  simp only [Act.put]
  refine wpAnyH_take (i := 4) (oi := ⟨some 319, Op.fieldAddr 51 (Operand.tmp 3) 5, _, _, _, none⟩) (v := (.pointer (some ⟨z, 5, none⟩))) rfl (by kernel_rfl) (by kernel_rfl) (by kernel_rfl) (fun _ _ _ h => h) (Or.inl ⟨by rfl, fun w' h' => ?_⟩) hS ?_
  · clear h'
    go_simp
  simp only [Act.put]
  refine wpAnyH_take (i := 5) (oi := ⟨some 320, Op.load 3 (Operand.tmp 319), _, _, _, none⟩) (v := (.int .i64 a)) rfl (by kernel_rfl) (by kernel_rfl) (by kernel_rfl) (fun _ _ _ h => h) (Or.inl ⟨by rfl, fun w' h' => ?_⟩) hS ?_
  · have c0 := ac_c5 h'.2
    clear h'
    go_simp
  simp only [Act.put]
  refine wpAnyH_take (i := 6) (oi := ⟨some 321, Op.fieldAddr 51 (Operand.tmp 3) 6, _, _, _, none⟩) (v := (.pointer (some ⟨z, 6, none⟩))) rfl (by kernel_rfl) (by kernel_rfl) (by kernel_rfl) (fun _ _ _ h => h) (Or.inl ⟨by rfl, fun w' h' => ?_⟩) hS ?_
  · clear h'
    go_simp
  simp only [Act.put]
  refine wpAnyH_take (i := 7) (oi := ⟨some 322, Op.load 3 (Operand.tmp 321), _, _, _, none⟩) (v := (.int .i64 k)) rfl (by kernel_rfl) (by kernel_rfl) (by kernel_rfl) (fun _ _ _ h => h) (Or.inl ⟨by rfl, fun w' h' => ?_⟩) hS ?_
  · have c0 := ac_c6 h'.2
    clear h'
    go_simp
  simp only [Act.put]
  refine wpAnyH_take (i := 8) (oi := ⟨some 323, Op.fieldAddr 51 (Operand.tmp 3) 7, _, _, _, none⟩) (v := (.pointer (some ⟨z, 7, none⟩))) rfl (by kernel_rfl) (by kernel_rfl) (by kernel_rfl) (fun _ _ _ h => h) (Or.inl ⟨by rfl, fun w' h' => ?_⟩) hS ?_
  · clear h'
    go_simp
  simp only [Act.put]
  refine wpAnyH_take (i := 9) (oi := ⟨some 324, Op.load 49 (Operand.tmp 323), _, _, _, none⟩) (v := (.int .u64 y)) rfl (by kernel_rfl) (by kernel_rfl) (by kernel_rfl) (fun _ _ _ h => h) (Or.inl ⟨by rfl, fun w' h' => ?_⟩) hS ?_
  · have c0 := ac_c7 h'.2
    clear h'
    go_simp
  simp only [Act.put]
  refine wpAnyH_take (i := 11) (oi := ⟨some 326, Op.move (Operand.tmp 31), _, _, _, none⟩) (v := (.int .i64 E)) rfl (by kernel_rfl) (by kernel_rfl) (by kernel_rfl) (fun _ _ _ h => h) (Or.inl ⟨by rfl, fun w' h' => ?_⟩) hS ?_
  · clear h'
    go_simp
  simp only [Act.put]
  refine wpAnyH_ready (rs := [10]) (by kernel_rfl) (by simp) ?_
  refine AllReadyH.cons rfl (fun K hK => ?_) AllReadyH.nil
  go_simp
  have hx := BS.cPut BV.out a k y hy0
  rw [← HE.out] at hx
  refine hx.mono ?_
  rintro e w7 ⟨rfl, kk, t5⟩
  have t5' : ∀ j, j = h → j = x ∨ j = q ∨ j = s.p ∨ j = h ∨ j = s.mb := fun j hj => .inr (.inr (.inr (.inl hj)))
  have B7 := Lib.hid kk
  have Z7 := Lib.hid (ZV.out.turned t5 t5')
  have S9 := SX.of B7.out Z7.out
  clear kk BV ZV LV hx t5 t5'
  go_simp
  refine hK.out _ _ S9 (fun _ => ?_)
  clear hK K
  refine wpAnyH_take (i := 12) (oi := ⟨some 327, Op.binOp BinOp.eql 3 (Operand.tmp 325) (Operand.tmp 326) 3, _, _, _, none⟩) (v := (.bool true)) rfl (by kernel_rfl) (by kernel_rfl) (by kernel_rfl) (fun _ _ _ h => h) (Or.inl ⟨by rfl, fun w' h' => ?_⟩) S9 ?_
  · clear h'
    go_simp
  simp only [Act.put]
  refine wpAnyH_take (i := 13) (oi := ⟨some 4, Op.assign (Operand.tmp 327), _, _, _, none⟩) (v := (.bool true)) rfl (by kernel_rfl) (by kernel_rfl) (by kernel_rfl) (fun _ _ _ h => h) (Or.inl ⟨by rfl, fun w' h' => ?_⟩) S9 ?_
  · clear h'
    go_simp
  simp only [Act.put]
  refine wpAnyH_done (by kernel_rfl) (NoPanic.normal ?_) _
  clear hS S9
  go_wp2_with fail
  go_ret
  refine ⟨rfl, { s with lm := M }, d, ⟨?_, TIE.out⟩, Nat.le_succ _⟩
  have h9 := B7.out
  rw [← HM.out] at h9
  exact h9

end Go.Proofs.Ytjelgifijhcnnaa

namespace Go.Proofs.Ytjelgifijhcnnaa
open Go.RowKit Go.Sort
set_option linter.unusedVariables false

set_option maxRecDepth 100000 in
set_option maxHeartbeats 8000000 in
theorem does6 {w W : World} {x q g h : Nat} {base : Int} {n sz : Nat} {s : St} {d : Dt} (D : DS w W x q g h base n sz s d) (dd : Int) (v : Value) (hd ln f a k y : Int) (h0 : (dd == 0) = false) (h1 : (dd == 1) = false) (h2 : (dd == 2) = false) (h3 : (dd == 3) = false) (h4 : (dd == 4) = false) (h5 : (dd == 5) = false) :
    Calls Try.prog 16 #[.pointer (some ⟨x, 0, none⟩), .agg #[.int .i64 dd, v, .int .u32 hd, .int .u32 ln, .int .i64 f, .int .i64 a, .int .i64 k, .int .u64 y]] W (DP w x q g h base n sz d) := by
  have B0 := Lib.hid D.bs
  have TIE := Lib.hid D.tie
  clear D
  go_enter Try.func16, Try.ntmps16
  go_upto_region 1 with fail
  have B1 := Lib.hid (B0.out.alloc (.cells (acC dd v hd ln f a k y) 51))
  have Z1 := Lib.hid (Beside.new B0.out (t := 51) (acC dd v hd ln f a k y))
  have G1 : Hid (Below W.heap.size W (W.alloc (.cells (acC dd v hd ln f a k y) 51))) := Lib.hid ((Below.refl _ _).alloc (Nat.le_refl _) _)
  obtain ⟨z, hz⟩ : ∃ z, z = W.heap.size := ⟨_, rfl⟩
  generalize W.alloc _ = W1 at B1 Z1 G1 ⊢
  rw [← hz] at Z1 ⊢
  clear hz B0
  have L1 : Hid (Below W1.heap.size W1 W1) := Lib.hid (Below.refl _ _)
  have c0 := ac_c0 Z1.out.at_
  clear G1
  go_wp2_with fail
  go_ret
  exact ⟨rfl, s, d, ⟨B1.out, TIE.out⟩, Nat.le_succ _⟩

end Go.Proofs.Ytjelgifijhcnnaa

namespace Go.Proofs.Ytjelgifijhcnnaa
open Go.RowKit Go.Sort
set_option linter.unusedVariables false

set_option maxRecDepth 100000 in
set_option maxHeartbeats 8000000 in
theorem does0 {w W : World} {x q g h : Nat} {base : Int} {n sz : Nat} {s : St} {d : Dt} (D : DS w W x q g h base n sz s d) (v : Value) (hd ln f a k y : Int) (l : List Bf) (hv : IsBufs W v l) (hbl : l.length ≤ 100) (hbd : ∀ x ∈ l, x.n ≤ 9223372036854775807) :
    Calls Try.prog 16 #[.pointer (some ⟨x, 0, none⟩), .agg #[.int .i64 0, v, .int .u32 hd, .int .u32 ln, .int .i64 f, .int .i64 a, .int .i64 k, .int .u64 y]] W (DP w x q g h base n sz d) := by
  obtain ⟨A, hA⟩ : ∃ A, A = addA s.lm base n (s.cs.map Oc.c) s.off s.br l := ⟨_, rfl⟩
  have HA := Lib.hid hA
  have HBL := Lib.hid hbl
  have HBD := Lib.hid hbd
  have HV0 := Lib.hid hv
  clear hA hbl hbd hv
  have B0 := Lib.hid D.bs
  have TIE := Lib.hid D.tie
  clear D
  go_enter Try.func16, Try.ntmps16
  go_upto_region 1 with fail
  have B1 := Lib.hid (B0.out.alloc (.cells (acC 0 v hd ln f a k y) 51))
  have Z1 := Lib.hid (Beside.new B0.out (t := 51) (acC 0 v hd ln f a k y))
  have G1 : Hid (Below W.heap.size W (W.alloc (.cells (acC 0 v hd ln f a k y) 51))) := Lib.hid ((Below.refl _ _).alloc (Nat.le_refl _) _)
  obtain ⟨z, hz⟩ : ∃ z, z = W.heap.size := ⟨_, rfl⟩
  generalize W.alloc _ = W1 at B1 Z1 G1 ⊢
  rw [← hz] at Z1 ⊢
  clear hz B0
  have L1 : Hid (Below W1.heap.size W1 W1) := Lib.hid (Below.refl _ _)
  have c0 := ac_c0 Z1.out.at_
  have HV := Lib.hid (HV0.out.grown (below_none G1.out))
  clear G1 HV0
  go_upto_region 3 with fail
  clear c0
  go_cut [5, 6, 7, 8] from 36 to 51 (fun p5 b6 h7 e8 wx => ∃ y5 op oc l', p5 = .pointer (some ⟨y5, 0, none⟩) ∧ b6 = .string ⟨A.2.2.1.toArray⟩ ∧ h7 = .int .i64 A.2.1 ∧ e8 = .int .i64 A.1 ∧ Hid (BS w wx x q g h base n sz s { d with l := l', op := op, oc := oc } (wdOf s d) ∧ Beside wx z (acO 0 v hd ln f a k y) x q s.p h s.mb ∧ Beside wx y5 (quO base n (.slice op (List.length l') oc) A.2.2.2.1 s.back s.br) x q s.p h s.mb ∧ Below W1.heap.size W1 wx ∧ l'.map toCh = s.cs.map Oc.c ++ A.2.2.2.2))
  case first =>
    refine wp_region_noPanic ?_
    refine region_held (S := SX x z g q base n (wdOf s d) 0 v hd ln f a k y) (by kernel_rfl) (fun V d => ⟨(d.block _).trans B1.out.bx, (d.block _).trans Z1.out.at_⟩) (fun V d' hS => ?_)
    have BV := Lib.hid (B1.out.grow (Below.of_none d'.grown))
    have ZV := Lib.hid (Z1.out.grow (Below.of_none d'.grown))
    have LV := Lib.hid (L1.out.trans ((Below.of_none d'.grown).mono L1.out.size))
    clear d' B1 Z1 L1
    refine wpAnyH_take (i := 0) (oi := ⟨some 37, Op.move (Operand.tmp 0), _, _, _, none⟩) (v := (.pointer (some ⟨x, 0, none⟩))) rfl (by kernel_rfl) (by kernel_rfl) (by kernel_rfl) (fun _ _ _ h => h) (Or.inl ⟨by rfl, fun w' h' => ?_⟩) hS ?_
    · clear h'
      go_simp
    simp only [Act.put]
    refine wpAnyH_take (i := 1) (oi := ⟨some 38, Op.nilCheck (Operand.tmp 37), _, _, _, none⟩) (v := (.pointer (some ⟨x, 0, none⟩))) rfl (by kernel_rfl) (by kernel_rfl) (by kernel_rfl) (fun _ _ _ h => h) (Or.inl ⟨by rfl, fun w' h' => ?_⟩) hS ?_
    · clear h'
      go_simp
    simp only [Act.put]
    refine wpAnyH_take (i := 2) (oi := ⟨some 39, Op.fieldAddr 45 (Operand.tmp 38) 4, _, _, _, none⟩) (v := (.pointer (some ⟨x, 4, none⟩))) rfl (by kernel_rfl) (by kernel_rfl) (by kernel_rfl) (fun _ _ _ h => h) (Or.inl ⟨by rfl, fun w' h' => ?_⟩) hS ?_
    · clear h'
      go_simp
    simp only [Act.put]
    refine wpAnyH_take (i := 3) (oi := ⟨some 40, Op.load 40 (Operand.tmp 39), _, _, _, none⟩) (v := (.agg #[.int .i64 base, .int .i64 n, .slice d.op d.l.length d.oc, .int .i64 s.off, .int .i64 s.back, .bool s.br])) rfl (by kernel_rfl) (by kernel_rfl) (by kernel_rfl) (fun _ _ _ h => h) (Or.inl ⟨by rfl, fun w' h' => ?_⟩) hS ?_
    · have c0 := (show w'.cell? ⟨x, 4, none⟩ = some (.int .i64 base) from wd_c4 h'.1)
      have c1 := (show w'.cell? ⟨x, 5, none⟩ = some (.int .i64 n) from wd_c5 h'.1)
      have c2 := (show w'.cell? ⟨x, 6, none⟩ = some (.slice d.op d.l.length d.oc) from wd_c6 h'.1)
      have c3 := (show w'.cell? ⟨x, 7, none⟩ = some (.int .i64 s.off) from wd_c7 h'.1)
      have c4 := (show w'.cell? ⟨x, 8, none⟩ = some (.int .i64 s.back) from wd_c8 h'.1)
      have c5 := (show w'.cell? ⟨x, 9, none⟩ = some (.bool s.br) from wd_c9 h'.1)
      clear h'
      go_simp
    simp only [Act.put]
    refine wpAnyH_take (i := 4) (oi := ⟨some 41, Op.move (Operand.tmp 0), _, _, _, none⟩) (v := (.pointer (some ⟨x, 0, none⟩))) rfl (by kernel_rfl) (by kernel_rfl) (by kernel_rfl) (fun _ _ _ h => h) (Or.inl ⟨by rfl, fun w' h' => ?_⟩) hS ?_
    · clear h'
      go_simp
    simp only [Act.put]
    refine wpAnyH_take (i := 5) (oi := ⟨some 42, Op.nilCheck (Operand.tmp 41), _, _, _, none⟩) (v := (.pointer (some ⟨x, 0, none⟩))) rfl (by kernel_rfl) (by kernel_rfl) (by kernel_rfl) (fun _ _ _ h => h) (Or.inl ⟨by rfl, fun w' h' => ?_⟩) hS ?_
    · clear h'
      go_simp
    simp only [Act.put]
    refine wpAnyH_take (i := 6) (oi := ⟨some 43, Op.fieldAddr 45 (Operand.tmp 42) 3, _, _, _, none⟩) (v := (.pointer (some ⟨x, 3, none⟩))) rfl (by kernel_rfl) (by kernel_rfl) (by kernel_rfl) (fun _ _ _ h => h) (Or.inl ⟨by rfl, fun w' h' => ?_⟩) hS ?_
    · clear h'
      go_simp
    simp only [Act.put]
    refine wpAnyH_take (i := 7) (oi := ⟨some 44, Op.load 9 (Operand.tmp 43), _, _, _, none⟩) (v := (.string ⟨s.lm.toArray⟩)) rfl (by kernel_rfl) (by kernel_rfl) (by kernel_rfl) (fun _ _ _ h => h) (Or.inl ⟨by rfl, fun w' h' => ?_⟩) hS ?_
    · have c0 := (show w'.cell? ⟨x, 3, none⟩ = some (.string ⟨s.lm.toArray⟩) from wd_c3 h'.1)
      clear h'
      go_simp
    simp only [Act.put]
    refine wpAnyH_take (i := 8) (oi := ⟨some 45, Op.fieldAddr 51 (Operand.tmp 3) 1, _, _, _, none⟩) (v := (.pointer (some ⟨z, 1, none⟩))) rfl (by kernel_rfl) (by kernel_rfl) (by kernel_rfl) (fun _ _ _ h => h) (Or.inl ⟨by rfl, fun w' h' => ?_⟩) hS ?_
    · clear h'
      go_simp
    simp only [Act.put]
    refine wpAnyH_take (i := 9) (oi := ⟨some 46, Op.load 47 (Operand.tmp 45), _, _, _, none⟩) (v := v) rfl (by kernel_rfl) (by kernel_rfl) (by kernel_rfl) (fun _ _ _ h => h) (Or.inl ⟨by rfl, fun w' h' => ?_⟩) hS ?_
    · have c0 := ac_c1 h'.2
      clear h'
      go_simp
    simp only [Act.put]
    refine wpAnyH_ready (rs := [10, 16]) (by kernel_rfl) (by simp) ?_
    refine AllReadyH.cons rfl (fun K hK => ?_) (AllReadyH.cons rfl (fun K hK => ?_) AllReadyH.nil)
    · go_simp
      refine (BS.rAdd BV.out v l (HV.out.grown (below_none LV.out)) HBL.out HBD.out TIE.out A HA.out).mono ?_
      rintro e w1 ⟨op, oc, l', rfl, kk, bl, ht, hnew⟩
      have B19 := Lib.hid kk
      have Z19 := Lib.hid (ZV.out.grow bl)
      have L19 := Lib.hid (LV.out.trans (bl.mono LV.out.size))
      have S19 := SX.grow hS bl
      clear kk ZV LV BV
      go_simp
      refine hK.out _ _ S19 (fun _ => ?_)
      clear hK K
      refine wpAnyH_take (i := 11) (oi := ⟨some 36, Op.move (Operand.tmp 47), _, _, _, none⟩) (v := (.tuple #[.agg #[.int .i64 base, .int .i64 n, .slice op (List.length l') oc, .int .i64 A.2.2.2.1, .int .i64 s.back, .bool s.br], .string ⟨A.2.2.1.toArray⟩, .int .i64 A.2.1, .int .i64 A.1])) rfl (by kernel_rfl) (by kernel_rfl) (by kernel_rfl) (fun _ _ _ h => h) (Or.inl ⟨by rfl, fun w' h' => ?_⟩) S19 ?_
      · clear h'
        go_simp
      simp only [Act.put]
      refine wpAnyH_take (i := 12) (oi := ⟨some 48, Op.extract (Operand.tmp 36) 0, _, _, _, none⟩) (v := (.agg #[.int .i64 base, .int .i64 n, .slice op (List.length l') oc, .int .i64 A.2.2.2.1, .int .i64 s.back, .bool s.br])) rfl (by kernel_rfl) (by kernel_rfl) (by kernel_rfl) (fun _ _ _ h => h) (Or.inl ⟨by rfl, fun w' h' => ?_⟩) S19 ?_
      · clear h'
        go_simp
      simp only [Act.put]
      refine wpAnyH_take (i := 13) (oi := ⟨some 49, Op.extract (Operand.tmp 36) 1, _, _, _, none⟩) (v := (.string ⟨A.2.2.1.toArray⟩)) rfl (by kernel_rfl) (by kernel_rfl) (by kernel_rfl) (fun _ _ _ h => h) (Or.inl ⟨by rfl, fun w' h' => ?_⟩) S19 ?_
      · clear h'
        go_simp
      simp only [Act.put]
      refine wpAnyH_take (i := 14) (oi := ⟨some 50, Op.extract (Operand.tmp 36) 2, _, _, _, none⟩) (v := (.int .i64 A.2.1)) rfl (by kernel_rfl) (by kernel_rfl) (by kernel_rfl) (fun _ _ _ h => h) (Or.inl ⟨by rfl, fun w' h' => ?_⟩) S19 ?_
      · clear h'
        go_simp
      simp only [Act.put]
      refine wpAnyH_take (i := 15) (oi := ⟨some 51, Op.extract (Operand.tmp 36) 3, _, _, _, none⟩) (v := (.int .i64 A.1)) rfl (by kernel_rfl) (by kernel_rfl) (by kernel_rfl) (fun _ _ _ h => h) (Or.inl ⟨by rfl, fun w' h' => ?_⟩) S19 ?_
      · clear h'
        go_simp
      simp only [Act.put]
      refine wpAnyH_ready (rs := [16]) (by kernel_rfl) (by simp) ?_
      refine AllReadyH.cons rfl (fun K hK => ?_) AllReadyH.nil
      obtain ⟨y5, hy5⟩ : ∃ x, x = w1.heap.size := ⟨_, rfl⟩
      have B29 := Lib.hid (B19.out.alloc (.cells (qCells 0 0 (.slice none 0 0) 0 0 false) 40))
      have Y29 := Lib.hid (Beside.new B19.out (t := 40) (qCells 0 0 (.slice none 0 0) 0 0 false))
      have HZ5 := Lib.hid (Nat.ne_of_lt Z19.out.lt)
      have Z29 := Lib.hid (Z19.out.alloc (.cells (qCells 0 0 (.slice none 0 0) 0 0 false) 40))
      have L29 := Lib.hid (L19.out.alloc L19.out.size (.cells (qCells 0 0 (.slice none 0 0) 0 0 false) 40))
      have S29 := SX.grow S19 ((Below.refl _ _).alloc (Nat.le_refl _) (.cells (qCells 0 0 (.slice none 0 0) 0 0 false) 40))
      have HY5 := Lib.hid hy5
      have HLY := Lib.hid L19.out.size
      have HW5 : Hid ((w1.alloc (.cells (qCells 0 0 (.slice none 0 0) 0 0 false) 40)).heap.size = w1.heap.size + 1) := Lib.hid (by simp)
      go_simp
      rw [← hy5] at Y29 HZ5 HW5 HLY
      rw [← hy5]
      clear hy5
      generalize w1.alloc _ = w2 at B29 Y29 Z29 L29 S29 HW5 ⊢
      clear Z19 L19
      refine hK.out _ _ S29 (fun _ => ?_)
      clear hK K
      have hst := run_storeVar_row (P := Try.prog) w2 y5 40 40 _ #[.int .i64 base, .int .i64 n, .slice op (List.length l') oc, .int .i64 A.2.2.2.1, .int .i64 s.back, .bool s.br] Y29.out.at_ (by kernel_rfl) rfl (by simp [Value.oneCell'])
      have B39 := Lib.hid (BS.box B19.out (l' := l') B29.out HY5.out Y29.out.at_ (by decide) (fun yy hyy => .inl hyy) #[.int .i64 base, .int .i64 n, .slice op (List.length l') oc, .int .i64 A.2.2.2.1, .int .i64 s.back, .bool s.br])
      have Y39 := Lib.hid (Y29.out.set (o' := quO base n (.slice op (List.length l') oc) A.2.2.2.1 s.back s.br) (setRow_heap _ _ _ #[.int .i64 base, .int .i64 n, .slice op (List.length l') oc, .int .i64 A.2.2.2.1, .int .i64 s.back, .bool s.br] _ _ Y29.out.at_))
      have Z39 := Lib.hid (Z29.out.row HZ5.out #[.int .i64 base, .int .i64 n, .slice op (List.length l') oc, .int .i64 A.2.2.2.1, .int .i64 s.back, .bool s.br])
      have L39 := Lib.hid (below_setRow L29.out HLY.out #[.int .i64 base, .int .i64 n, .slice op (List.length l') oc, .int .i64 A.2.2.2.1, .int .i64 s.back, .bool s.br])
      have S39 := SX.of B39.out Z39.out
      refine wpAnyH_ready (rs := [17]) (by kernel_rfl) (by simp) ?_
      refine rdy_store_at (n := 17) rfl rfl 40 (Operand.tmp 5) (Operand.tmp 48) rfl rfl (.agg #[.int .i64 base, .int .i64 n, .slice op (List.length l') oc, .int .i64 A.2.2.2.1, .int .i64 s.back, .bool s.br]) y5 0 (by kernel_rfl) (by kernel_rfl) hst S39 ?_
      clear hst B29 Y29 Z29 L29
      generalize w2.setRow _ _ = w3 at B39 Y39 Z39 L39 S39 ⊢
      refine wpAnyH_take (i := 18) (oi := ⟨some 6, Op.assign (Operand.tmp 49), _, _, _, none⟩) (v := (.string ⟨A.2.2.1.toArray⟩)) rfl (by kernel_rfl) (by kernel_rfl) (by kernel_rfl) (fun _ _ _ h => h) (Or.inl ⟨by rfl, fun w' h' => ?_⟩) S39 ?_
      · clear h'
        go_simp
      simp only [Act.put]
      refine wpAnyH_take (i := 19) (oi := ⟨some 7, Op.assign (Operand.tmp 50), _, _, _, none⟩) (v := (.int .i64 A.2.1)) rfl (by kernel_rfl) (by kernel_rfl) (by kernel_rfl) (fun _ _ _ h => h) (Or.inl ⟨by rfl, fun w' h' => ?_⟩) S39 ?_
      · clear h'
        go_simp
      simp only [Act.put]
      refine wpAnyH_take (i := 20) (oi := ⟨some 8, Op.assign (Operand.tmp 51), _, _, _, none⟩) (v := (.int .i64 A.1)) rfl (by kernel_rfl) (by kernel_rfl) (by kernel_rfl) (fun _ _ _ h => h) (Or.inl ⟨by rfl, fun w' h' => ?_⟩) S39 ?_
      · clear h'
        go_simp
      simp only [Act.put]
      refine wpAnyH_done (by kernel_rfl) (NoPanic.normal ?_) _
      go_wp2_with fail
      try simp only [List.setIfInBounds_toArray, List.set_cons_zero, List.set_cons_succ]
      go_meet
      case rel => exact ⟨y5, op, oc, l', rfl, rfl, rfl, rfl, Lib.hid ⟨B39.out, Z39.out, Y39.out, L39.out, ht⟩⟩
    · obtain ⟨y5, hy5⟩ : ∃ x, x = V.heap.size := ⟨_, rfl⟩
      have B19 := Lib.hid (BV.out.alloc (.cells (qCells 0 0 (.slice none 0 0) 0 0 false) 40))
      have Y19 := Lib.hid (Beside.new BV.out (t := 40) (qCells 0 0 (.slice none 0 0) 0 0 false))
      have HZ5 := Lib.hid (Nat.ne_of_lt ZV.out.lt)
      have Z19 := Lib.hid (ZV.out.alloc (.cells (qCells 0 0 (.slice none 0 0) 0 0 false) 40))
      have L19 := Lib.hid (LV.out.alloc LV.out.size (.cells (qCells 0 0 (.slice none 0 0) 0 0 false) 40))
      have S19 := SX.grow hS ((Below.refl _ _).alloc (Nat.le_refl _) (.cells (qCells 0 0 (.slice none 0 0) 0 0 false) 40))
      have HY5 := Lib.hid hy5
      have HLY := Lib.hid LV.out.size
      have HW5 : Hid ((V.alloc (.cells (qCells 0 0 (.slice none 0 0) 0 0 false) 40)).heap.size = V.heap.size + 1) := Lib.hid (by simp)
      go_simp
      rw [← hy5] at Y19 HZ5 HW5 HLY
      rw [← hy5]
      clear hy5
      generalize V.alloc _ = w1 at B19 Y19 Z19 L19 S19 HW5 ⊢
      clear ZV LV
      refine hK.out _ _ S19 (fun _ => ?_)
      clear hK K
      refine wpAnyH_ready (rs := [10]) (by kernel_rfl) (by simp) ?_
      refine AllReadyH.cons rfl (fun K hK => ?_) AllReadyH.nil
      go_simp
      refine (BS.rAdd B19.out v l (HV.out.grown (below_none L19.out)) HBL.out HBD.out TIE.out A HA.out).mono ?_
      rintro e w2 ⟨op, oc, l', rfl, kk, bl, ht, hnew⟩
      have B29 := Lib.hid kk
      have Z29 := Lib.hid (Z19.out.grow bl)
      have L29 := Lib.hid (L19.out.trans (bl.mono L19.out.size))
      have S29 := SX.grow S19 bl
      have Y29 := Lib.hid (Y19.out.grow bl)
      clear kk Z19 L19
      go_simp
      refine hK.out _ _ S29 (fun _ => ?_)
      clear hK K
      refine wpAnyH_take (i := 11) (oi := ⟨some 36, Op.move (Operand.tmp 47), _, _, _, none⟩) (v := (.tuple #[.agg #[.int .i64 base, .int .i64 n, .slice op (List.length l') oc, .int .i64 A.2.2.2.1, .int .i64 s.back, .bool s.br], .string ⟨A.2.2.1.toArray⟩, .int .i64 A.2.1, .int .i64 A.1])) rfl (by kernel_rfl) (by kernel_rfl) (by kernel_rfl) (fun _ _ _ h => h) (Or.inl ⟨by rfl, fun w' h' => ?_⟩) S29 ?_
      · clear h'
        go_simp
      simp only [Act.put]
      refine wpAnyH_take (i := 12) (oi := ⟨some 48, Op.extract (Operand.tmp 36) 0, _, _, _, none⟩) (v := (.agg #[.int .i64 base, .int .i64 n, .slice op (List.length l') oc, .int .i64 A.2.2.2.1, .int .i64 s.back, .bool s.br])) rfl (by kernel_rfl) (by kernel_rfl) (by kernel_rfl) (fun _ _ _ h => h) (Or.inl ⟨by rfl, fun w' h' => ?_⟩) S29 ?_
      · clear h'
        go_simp
      simp only [Act.put]
      refine wpAnyH_take (i := 13) (oi := ⟨some 49, Op.extract (Operand.tmp 36) 1, _, _, _, none⟩) (v := (.string ⟨A.2.2.1.toArray⟩)) rfl (by kernel_rfl) (by kernel_rfl) (by kernel_rfl) (fun _ _ _ h => h) (Or.inl ⟨by rfl, fun w' h' => ?_⟩) S29 ?_
      · clear h'
        go_simp
      simp only [Act.put]
      refine wpAnyH_take (i := 14) (oi := ⟨some 50, Op.extract (Operand.tmp 36) 2, _, _, _, none⟩) (v := (.int .i64 A.2.1)) rfl (by kernel_rfl) (by kernel_rfl) (by kernel_rfl) (fun _ _ _ h => h) (Or.inl ⟨by rfl, fun w' h' => ?_⟩) S29 ?_
      · clear h'
        go_simp
      simp only [Act.put]
      refine wpAnyH_take (i := 15) (oi := ⟨some 51, Op.extract (Operand.tmp 36) 3, _, _, _, none⟩) (v := (.int .i64 A.1)) rfl (by kernel_rfl) (by kernel_rfl) (by kernel_rfl) (fun _ _ _ h => h) (Or.inl ⟨by rfl, fun w' h' => ?_⟩) S29 ?_
      · clear h'
        go_simp
      simp only [Act.put]
      have hst := run_storeVar_row (P := Try.prog) w2 y5 40 40 _ #[.int .i64 base, .int .i64 n, .slice op (List.length l') oc, .int .i64 A.2.2.2.1, .int .i64 s.back, .bool s.br] Y29.out.at_ (by kernel_rfl) rfl (by simp [Value.oneCell'])
      have B39 := Lib.hid (BS.box BV.out (l' := l') B29.out HY5.out Y29.out.at_ (by decide) (fun yy hyy => (hnew yy hyy).imp id (fun ⟨b, h1, h2⟩ => ⟨b, h1, by have := HW5.out; have := HY5.out; omega⟩)) #[.int .i64 base, .int .i64 n, .slice op (List.length l') oc, .int .i64 A.2.2.2.1, .int .i64 s.back, .bool s.br])
      have Y39 := Lib.hid (Y29.out.set (o' := quO base n (.slice op (List.length l') oc) A.2.2.2.1 s.back s.br) (setRow_heap _ _ _ #[.int .i64 base, .int .i64 n, .slice op (List.length l') oc, .int .i64 A.2.2.2.1, .int .i64 s.back, .bool s.br] _ _ Y29.out.at_))
      have Z39 := Lib.hid (Z29.out.row HZ5.out #[.int .i64 base, .int .i64 n, .slice op (List.length l') oc, .int .i64 A.2.2.2.1, .int .i64 s.back, .bool s.br])
      have L39 := Lib.hid (below_setRow L29.out HLY.out #[.int .i64 base, .int .i64 n, .slice op (List.length l') oc, .int .i64 A.2.2.2.1, .int .i64 s.back, .bool s.br])
      have S39 := SX.of B39.out Z39.out
      refine wpAnyH_ready (rs := [17]) (by kernel_rfl) (by simp) ?_
      refine rdy_store_at (n := 17) rfl rfl 40 (Operand.tmp 5) (Operand.tmp 48) rfl rfl (.agg #[.int .i64 base, .int .i64 n, .slice op (List.length l') oc, .int .i64 A.2.2.2.1, .int .i64 s.back, .bool s.br]) y5 0 (by kernel_rfl) (by kernel_rfl) hst S39 ?_
      clear hst B29 Y29 Z29 L29
      generalize w2.setRow _ _ = w3 at B39 Y39 Z39 L39 S39 ⊢
      refine wpAnyH_take (i := 18) (oi := ⟨some 6, Op.assign (Operand.tmp 49), _, _, _, none⟩) (v := (.string ⟨A.2.2.1.toArray⟩)) rfl (by kernel_rfl) (by kernel_rfl) (by kernel_rfl) (fun _ _ _ h => h) (Or.inl ⟨by rfl, fun w' h' => ?_⟩) S39 ?_
      · clear h'
        go_simp
      simp only [Act.put]
      refine wpAnyH_take (i := 19) (oi := ⟨some 7, Op.assign (Operand.tmp 50), _, _, _, none⟩) (v := (.int .i64 A.2.1)) rfl (by kernel_rfl) (by kernel_rfl) (by kernel_rfl) (fun _ _ _ h => h) (Or.inl ⟨by rfl, fun w' h' => ?_⟩) S39 ?_
      · clear h'
        go_simp
      simp only [Act.put]
      refine wpAnyH_take (i := 20) (oi := ⟨some 8, Op.assign (Operand.tmp 51), _, _, _, none⟩) (v := (.int .i64 A.1)) rfl (by kernel_rfl) (by kernel_rfl) (by kernel_rfl) (fun _ _ _ h => h) (Or.inl ⟨by rfl, fun w' h' => ?_⟩) S39 ?_
      · clear h'
        go_simp
      simp only [Act.put]
      refine wpAnyH_done (by kernel_rfl) (NoPanic.normal ?_) _
      go_wp2_with fail
      try simp only [List.setIfInBounds_toArray, List.set_cons_zero, List.set_cons_succ]
      go_meet
      case rel => exact ⟨y5, op, oc, l', rfl, rfl, rfl, rfl, Lib.hid ⟨B39.out, Z39.out, Y39.out, L39.out, ht⟩⟩
  case rest =>
    obtain ⟨y5, op, oc, l', rfl, rfl, rfl, rfl, HC⟩ := hcut
    have B3 := Lib.hid HC.out.1
    have Z3 := Lib.hid HC.out.2.1
    have Y3 := Lib.hid HC.out.2.2.1
    have L3 := Lib.hid HC.out.2.2.2.1
    have HT := Lib.hid HC.out.2.2.2.2
    clear HC B1 Z1 L1
    go_upto_region 4 with fail
    refine wp_region_noPanic ?_
    refine region_held (S := SX x z g q base n (wdOf s d) 0 v hd ln f a k y) (by kernel_rfl) (fun V d => ⟨(d.block _).trans B3.out.bx, (d.block _).trans Z3.out.at_⟩) (fun V d' hS => ?_)
    have BV := Lib.hid (B3.out.grow (Below.of_none d'.grown))
    have ZV := Lib.hid (Z3.out.grow (Below.of_none d'.grown))
    have LV := Lib.hid (L3.out.trans ((Below.of_none d'.grown).mono L3.out.size))
    have YV := Lib.hid (Y3.out.grow (Below.of_none d'.grown))
    clear d' B3 Z3 L3 Y3
    refine wpAnyH_take (i := 0) (oi := ⟨some 53, Op.move (Operand.tmp 0), _, _, _, none⟩) (v := (.pointer (some ⟨x, 0, none⟩))) rfl (by kernel_rfl) (by kernel_rfl) (by kernel_rfl) (fun _ _ _ h => h) (Or.inl ⟨by rfl, fun w' h' => ?_⟩) hS ?_
    · clear h'
      go_simp
    simp only [Act.put]
    refine wpAnyH_take (i := 1) (oi := ⟨some 54, Op.nilCheck (Operand.tmp 53), _, _, _, none⟩) (v := (.pointer (some ⟨x, 0, none⟩))) rfl (by kernel_rfl) (by kernel_rfl) (by kernel_rfl) (fun _ _ _ h => h) (Or.inl ⟨by rfl, fun w' h' => ?_⟩) hS ?_
    · clear h'
      go_simp
    simp only [Act.put]
    refine wpAnyH_take (i := 2) (oi := ⟨some 55, Op.fieldAddr 45 (Operand.tmp 54) 1, _, _, _, none⟩) (v := (.pointer (some ⟨x, 1, none⟩))) rfl (by kernel_rfl) (by kernel_rfl) (by kernel_rfl) (fun _ _ _ h => h) (Or.inl ⟨by rfl, fun w' h' => ?_⟩) hS ?_
    · clear h'
      go_simp
    simp only [Act.put]
    refine wpAnyH_take (i := 3) (oi := ⟨some 56, Op.load 29 (Operand.tmp 55), _, _, _, none⟩) (v := (.pointer (some ⟨q, 0, none⟩))) rfl (by kernel_rfl) (by kernel_rfl) (by kernel_rfl) (fun _ _ _ h => h) (Or.inl ⟨by rfl, fun w' h' => ?_⟩) hS ?_
    · have c0 := (show w'.cell? ⟨x, 1, none⟩ = some (.pointer (some ⟨q, 0, none⟩)) from wd_c1 h'.1)
      clear h'
      go_simp
    simp only [Act.put]
    refine wpAnyH_take (i := 4) (oi := ⟨some 57, Op.fieldAddr 51 (Operand.tmp 3) 1, _, _, _, none⟩) (v := (.pointer (some ⟨z, 1, none⟩))) rfl (by kernel_rfl) (by kernel_rfl) (by kernel_rfl) (fun _ _ _ h => h) (Or.inl ⟨by rfl, fun w' h' => ?_⟩) hS ?_
    · clear h'
      go_simp
    simp only [Act.put]
    refine wpAnyH_take (i := 5) (oi := ⟨some 58, Op.load 47 (Operand.tmp 57), _, _, _, none⟩) (v := v) rfl (by kernel_rfl) (by kernel_rfl) (by kernel_rfl) (fun _ _ _ h => h) (Or.inl ⟨by rfl, fun w' h' => ?_⟩) hS ?_
    · have c0 := ac_c1 h'.2
      clear h'
      go_simp
    simp only [Act.put]
    refine wpAnyH_ready (rs := [6]) (by kernel_rfl) (by simp) ?_
    refine AllReadyH.cons rfl (fun K hK => ?_) AllReadyH.nil
    go_simp
    refine (BS.cAdd BV.out v l (HV.out.grown (below_none LV.out)) HBD.out A HA.out).mono ?_
    rintro e w5 ⟨cs', rfl, kk, htc, t5⟩
    have t5' : ∀ j, QB q h s.mb j → j = x ∨ j = q ∨ j = s.p ∨ j = h ∨ j = s.mb := fun j hj => by
      rcases hj with e | e | e
      · exact .inr (.inr (.inr (.inl e)))
      · exact .inr (.inl e)
      · exact .inr (.inr (.inr (.inr e)))
    have B5 := Lib.hid kk
    have Z5 := Lib.hid (ZV.out.turned t5 t5')
    have Y5 := Lib.hid (YV.out.turned t5 t5')
    have S9 := SX.of B5.out Z5.out
    clear kk BV ZV YV LV
    go_simp
    refine hK.out _ _ S9 (fun _ => ?_)
    clear hK K
    refine wpAnyH_take (i := 7) (oi := ⟨some 52, Op.move (Operand.tmp 59), _, _, _, none⟩) (v := (.tuple #[.int .i64 A.2.1, .int .i64 A.1])) rfl (by kernel_rfl) (by kernel_rfl) (by kernel_rfl) (fun _ _ _ h => h) (Or.inl ⟨by rfl, fun w' h' => ?_⟩) S9 ?_
    · clear h'
      go_simp
    simp only [Act.put]
    refine wpAnyH_take (i := 8) (oi := ⟨some 60, Op.extract (Operand.tmp 52) 0, _, _, _, none⟩) (v := (.int .i64 A.2.1)) rfl (by kernel_rfl) (by kernel_rfl) (by kernel_rfl) (fun _ _ _ h => h) (Or.inl ⟨by rfl, fun w' h' => ?_⟩) S9 ?_
    · clear h'
      go_simp
    simp only [Act.put]
    refine wpAnyH_take (i := 9) (oi := ⟨some 61, Op.extract (Operand.tmp 52) 1, _, _, _, none⟩) (v := (.int .i64 A.1)) rfl (by kernel_rfl) (by kernel_rfl) (by kernel_rfl) (fun _ _ _ h => h) (Or.inl ⟨by rfl, fun w' h' => ?_⟩) S9 ?_
    · clear h'
      go_simp
    simp only [Act.put]
    refine wpAnyH_take (i := 10) (oi := ⟨some 9, Op.assign (Operand.tmp 60), _, _, _, none⟩) (v := (.int .i64 A.2.1)) rfl (by kernel_rfl) (by kernel_rfl) (by kernel_rfl) (fun _ _ _ h => h) (Or.inl ⟨by rfl, fun w' h' => ?_⟩) S9 ?_
    · clear h'
      go_simp
    simp only [Act.put]
    refine wpAnyH_take (i := 11) (oi := ⟨some 10, Op.assign (Operand.tmp 61), _, _, _, none⟩) (v := (.int .i64 A.1)) rfl (by kernel_rfl) (by kernel_rfl) (by kernel_rfl) (fun _ _ _ h => h) (Or.inl ⟨by rfl, fun w' h' => ?_⟩) S9 ?_
    · clear h'
      go_simp
    simp only [Act.put]
    refine wpAnyH_done (by kernel_rfl) (NoPanic.normal ?_) _
    clear hS
    have HTC := Lib.hid htc
    clear htc t5 t5' S9
    obtain ⟨q0, q1, q2, q3, q4, q5⟩ := qu_all (show QuAt w5 y5 base n (.slice op (List.length l') oc) A.2.2.2.1 s.back s.br from Y5.out.at_)
    have hst := (wd_queue B5.out.bx op (List.length l') oc A.2.2.2.1 s.back s.br).1
    have B6 := Lib.hid (B5.out.putQ op (List.length l') oc A.2.2.2.1 s.back s.br)
    go_upto_region 6 with (refine wpl_store_at 40 _ _ rfl rfl rfl _ x 4 rfl rfl hst ?_; clear hst q0 q1 q2 q3 q4 q5; generalize World.setCells _ _ _ _ = W6 at B6 ⊢; have e3 := wd_c3 B6.out.bx; have f3 := B6.out.bx.free 3)
    have B7 := Lib.hid (B6.out.putB A.2.2.1)
    clear e3 f3 B5 B6 Z5 Y5
    generalize World.setCell _ _ _ = W7 at B7 ⊢
    have g1 : (A.2.1 == A.2.1) = true := by simp
    have g2 : (A.1 == A.1) = true := by simp
    go_wp2_with fail
    go_ret
    exact ⟨rfl, _, _, ⟨B7.out, HT.out.trans HTC.out.symm⟩, Nat.le_succ _⟩

end Go.Proofs.Ytjelgifijhcnnaa
