/-
  Layer 2, act 3 of both sides beside one another: what it answers, and what it leaves. Conditions: as said.
-/
import Derived.Test.YtjelgifijhcnnaaVDz
namespace Go.Proofs.Ytjelgifijhcnnaa
open Go.RowKit Go.Sort
set_option linter.unusedVariables false

/-- The head that is told of. -/
def headOf (H : List Int) (f hd : Int) : Int := if 0 < f ∧ f ≤ H.length then H.getD (H.length - f.toNat) 0 else hd
set_option maxRecDepth 100000 in
set_option maxHeartbeats 8000000 in
theorem does3 {w W : World} {x q g h : Nat} {base : Int} {n sz : Nat} {s : St} {d : Dt} (D : DS w W x q g h base n sz s d) (v : Value) (hd ln f a k y : Int) (h0 : 0 ≤ hd ∧ hd ≤ 4294967295) (l0 : 0 ≤ ln ∧ ln ≤ 4294967295) (hf : -9223372036854775808 ≤ f ∧ f ≤ 9223372036854775807) :
    Calls Try.prog 16 #[.pointer (some ⟨x, 0, none⟩), .agg #[.int .i64 3, v, .int .u32 hd, .int .u32 ln, .int .i64 f, .int .i64 a, .int .i64 k, .int .u64 y]] W (DP w x q g h base n sz d) := by
  obtain ⟨HD, hHD⟩ : ∃ z, z = headOf d.H f hd := ⟨_, rfl⟩
  have HHD := Lib.hid hHD
  have HB := Lib.hid D.bs.hb
  have HF := Lib.hid hf
  have HD0 : Hid (0 ≤ HD ∧ HD ≤ 4294967295) := Lib.hid (by
    rw [hHD, headOf]
    split
    · rename_i hc
      have hlt : d.H.length - f.toNat < d.H.length := by omega
      have hm := D.bs.hb (d.H.getD (d.H.length - f.toNat) 0) (by rw [List.getD_eq_getElem?_getD, List.getElem?_eq_getElem hlt]; exact List.getElem_mem _)
      omega
    · exact h0)
  have HL0 := Lib.hid l0
  clear hHD l0
  obtain ⟨TD, hTD⟩ : ∃ z, z = (s.td + 1) % 65536 := ⟨_, rfl⟩
  obtain ⟨M, hM⟩ : ∃ M, M = vdoneL s.lm base n s.td HD ln := ⟨_, rfl⟩
  have HM := Lib.hid hM
  have HTD := Lib.hid hTD
  clear hM hTD
  have B0 := Lib.hid D.bs
  have TIE := Lib.hid D.tie
  clear D
  go_enter Try.func16, Try.ntmps16
  go_upto_region 1 with fail
  have B1 := Lib.hid (B0.out.alloc (.cells (acC 3 v hd ln f a k y) 51))
  have Z1 := Lib.hid (Beside.new B0.out (t := 51) (acC 3 v hd ln f a k y))
  have G1 : Hid (Below W.heap.size W (W.alloc (.cells (acC 3 v hd ln f a k y) 51))) := Lib.hid ((Below.refl _ _).alloc (Nat.le_refl _) _)
  obtain ⟨z, hz⟩ : ∃ z, z = W.heap.size := ⟨_, rfl⟩
  generalize W.alloc _ = W1 at B1 Z1 G1 ⊢
  rw [← hz] at Z1 ⊢
  clear hz B0
  have L1 : Hid (Below W1.heap.size W1 W1) := Lib.hid (Below.refl _ _)
  have c0 := ac_c0 Z1.out.at_
  clear G1
  have c2 := ac_c2 Z1.out.at_
  go_upto_region 21 with fail
  clear c0 c2
  obtain ⟨G, hG⟩ : ∃ G, G = (decide (0 < f) && decide (f ≤ (d.H.length : Int))) := ⟨_, rfl⟩
  have HG := Lib.hid hG
  clear hG
  go_cut [190] from 178 to 189 (fun b190 wx => b190 = .bool G ∧ Hid (BS w wx x q g h base n sz s d (wdOf s d) ∧ Beside wx z (acO 3 v hd ln f a k y) x q s.p h s.mb))
  case first =>
    have c4 := ac_c4 Z1.out.at_
    have c14 := (show W1.cell? ⟨x, 14, none⟩ = some (.slice d.hp d.H.length d.hc) from wd_c14 B1.out.bx)
    by_cases hf0 : 0 < f
    · have d0 : decide (0 < f) = true := decide_eq_true hf0
      by_cases hf1 : f ≤ (d.H.length : Int)
      · have d1 : decide (f ≤ (d.H.length : Int)) = true := decide_eq_true hf1
        have hg : G = true := by rw [HG.out, d0, d1]; rfl
        go_quiet (fail)
        have B2 := Lib.hid (B1.out.grow (below_drewN (Below.refl W1.heap.size W1) nq))
        have Z2 := Lib.hid (Z1.out.grow (below_drewN (Below.refl W1.heap.size W1) nq))
        try go_wp2_with fail
        try simp only [List.setIfInBounds_toArray, List.set_cons_zero, List.set_cons_succ]
        go_meet
        case rel => exact ⟨by rw [hg], Lib.hid ⟨B2.out, Z2.out⟩⟩
      · have d1 : decide (f ≤ (d.H.length : Int)) = false := decide_eq_false hf1
        have hg : G = false := by rw [HG.out, d0, d1]; rfl
        go_quiet (fail)
        have B2 := Lib.hid (B1.out.grow (below_drewN (Below.refl W1.heap.size W1) nq))
        have Z2 := Lib.hid (Z1.out.grow (below_drewN (Below.refl W1.heap.size W1) nq))
        try go_wp2_with fail
        try simp only [List.setIfInBounds_toArray, List.set_cons_zero, List.set_cons_succ]
        go_meet
        case rel => exact ⟨by rw [hg], Lib.hid ⟨B2.out, Z2.out⟩⟩
    · have d0 : decide (0 < f) = false := decide_eq_false hf0
      have hg : G = false := by rw [HG.out, d0]; rfl
      go_quiet (fail)
      have B2 := Lib.hid (B1.out.grow (below_drewN (Below.refl W1.heap.size W1) nq))
      have Z2 := Lib.hid (Z1.out.grow (below_drewN (Below.refl W1.heap.size W1) nq))
      try go_wp2_with fail
      try simp only [List.setIfInBounds_toArray, List.set_cons_zero, List.set_cons_succ]
      go_meet
      case rel => exact ⟨by rw [hg], Lib.hid ⟨B2.out, Z2.out⟩⟩
  case rest =>
  obtain ⟨rfl, HC⟩ := hcut
  rename World => W2
  have B2 := Lib.hid HC.out.1
  have Z2 := Lib.hid HC.out.2
  clear HC B1 Z1 L1
  go_upto_if 190 with fail
  go_cut [25, 190] from 191 to 205 (fun h25 b190 wx => b190 = .bool G ∧ h25 = .int .u32 HD ∧ Hid (BS w wx x q g h base n sz s d (wdOf s d) ∧ Beside wx z (acO 3 v hd ln f a k y) x q s.p h s.mb))
  case first =>
    cases hG2 : G with
    | true =>
      have hc : 0 < f ∧ f ≤ (d.H.length : Int) := by
        have := HG.out
        rw [hG2] at this
        have h9 := this.symm
        rw [Bool.and_eq_true, decide_eq_true_eq, decide_eq_true_eq] at h9
        exact h9
      go_upto_region 22 with fail
      obtain ⟨gh, cap, eh, h1, h2, h3, h4, hcell⟩ := B2.out.heads.at_ 0 (by omega)
      have hl100 := B2.out.heads.2
      have hlt : d.H.length - f.toNat < d.H.length := by omega
      obtain ⟨K, hK⟩ : ∃ K, K = d.H.length - f.toNat := ⟨_, rfl⟩
      rw [← hK] at hlt
      have hcK := hcell K hlt
      have hval : d.H[K] = HD := by
        rw [HHD.out, headOf, if_pos hc, List.getD_eq_getElem?_getD, ← hK, List.getElem?_eq_getElem hlt]; rfl
      rw [hval] at hcK
      have c14 : W2.cell? ⟨x, 14, none⟩ = some (.slice (some ⟨gh, 0, none⟩) d.H.length cap) := by rw [← eh]; exact wd_c14 B2.out.bx
      have c4 := ac_c4 Z2.out.at_
      have hw : IntKind.i64.wrap ((d.H.length : Int) - f) = (K : Int) := by rw [IntWalk.i64_in _ (by omega)]; omega
      have hkb : (K : Int) < (d.H.length : Int) := by omega
      have hk0 : (0 : Int) ≤ (K : Int) := by omega
      have hu : IntKind.u32.wrap HD = HD := IntWalk.u32_in _ (by have := HD0.out; omega)
      clear hcell hval hK eh h1 h2 h3 h4 hlt hc hl100
      go_quiet (fail)
      have B3 := Lib.hid (B2.out.grow (below_drewN (Below.refl W2.heap.size W2) nq))
      have Z3 := Lib.hid (Z2.out.grow (below_drewN (Below.refl W2.heap.size W2) nq))
      try go_wp2_with fail
      try simp only [List.setIfInBounds_toArray, List.set_cons_zero, List.set_cons_succ]
      go_meet
      case rel => exact ⟨by rw [hG2], rfl, Lib.hid ⟨B3.out, Z3.out⟩⟩
    | false =>
      have hv : HD = hd := by
        rw [HHD.out, headOf, if_neg (fun h => by
          have := HG.out
          rw [hG2, decide_eq_true h.1, decide_eq_true h.2] at this
          cases this)]
      go_wp2_with fail
      try go_wp2_with fail
      try simp only [List.setIfInBounds_toArray, List.set_cons_zero, List.set_cons_succ]
      go_meet
      case rel => exact ⟨by rw [hG2], by rw [hv], Lib.hid ⟨B2.out, Z2.out⟩⟩
  case rest =>
    obtain ⟨rfl, rfl, HC⟩ := hcut
    rename World => W4
    have B4 := Lib.hid HC.out.1
    have Z4 := Lib.hid HC.out.2
    clear HC B2 Z2
    go_upto_region 23 with fail
    go_cut [25] from 206 to 226 (fun h25 wx => h25 = .int .u32 HD ∧ Hid (BS w wx x q g h base n sz s d { ({ wdOf s d with tk := s.tk, td := TD } : Wd) with lm := M } ∧ Beside wx z (acO 3 v hd ln f a k y) x q s.p h s.mb))
    case first =>
      refine wp_region_noPanic ?_
      refine region_held (S := fun _ => True) (by kernel_rfl) (fun V d => trivial) (fun V d' hS => ?_)
      have BV := Lib.hid (B4.out.grow (Below.of_none d'.grown))
      have ZV := Lib.hid (Z4.out.grow (Below.of_none d'.grown))
      clear d' B4 Z4
      refine wpAnyH_take (i := 0) (oi := ⟨some 207, Op.move (Operand.tmp 0), _, _, _, none⟩) (v := (.pointer (some ⟨x, 0, none⟩))) rfl (by kernel_rfl) (by kernel_rfl) (by kernel_rfl) (fun _ _ _ h => h) (Or.inl ⟨by rfl, fun w' h' => ?_⟩) trivial ?_
      · clear h'
        go_simp
      simp only [Act.put]
      refine wpAnyH_take (i := 1) (oi := ⟨some 208, Op.move (Operand.tmp 0), _, _, _, none⟩) (v := (.pointer (some ⟨x, 0, none⟩))) rfl (by kernel_rfl) (by kernel_rfl) (by kernel_rfl) (fun _ _ _ h => h) (Or.inl ⟨by rfl, fun w' h' => ?_⟩) trivial ?_
      · clear h'
        go_simp
      simp only [Act.put]
      refine wpAnyH_take (i := 2) (oi := ⟨some 209, Op.move (Operand.tmp 0), _, _, _, none⟩) (v := (.pointer (some ⟨x, 0, none⟩))) rfl (by kernel_rfl) (by kernel_rfl) (by kernel_rfl) (fun _ _ _ h => h) (Or.inl ⟨by rfl, fun w' h' => ?_⟩) trivial ?_
      · clear h'
        go_simp
      simp only [Act.put]
      refine wpAnyH_take (i := 3) (oi := ⟨some 210, Op.nilCheck (Operand.tmp 209), _, _, _, none⟩) (v := (.pointer (some ⟨x, 0, none⟩))) rfl (by kernel_rfl) (by kernel_rfl) (by kernel_rfl) (fun _ _ _ h => h) (Or.inl ⟨by rfl, fun w' h' => ?_⟩) trivial ?_
      · clear h'
        go_simp
      simp only [Act.put]
      refine wpAnyH_take (i := 4) (oi := ⟨some 211, Op.fieldAddr 45 (Operand.tmp 210) 5, _, _, _, none⟩) (v := (.pointer (some ⟨x, 10, none⟩))) rfl (by kernel_rfl) (by kernel_rfl) (by kernel_rfl) (fun _ _ _ h => h) (Or.inl ⟨by rfl, fun w' h' => ?_⟩) trivial ?_
      · clear h'
        go_simp
      simp only [Act.put]
      refine wpAnyH_take (i := 6) (oi := ⟨some 213, Op.move (Operand.tmp 0), _, _, _, none⟩) (v := (.pointer (some ⟨x, 0, none⟩))) rfl (by kernel_rfl) (by kernel_rfl) (by kernel_rfl) (fun _ _ _ h => h) (Or.inl ⟨by rfl, fun w' h' => ?_⟩) trivial ?_
      · clear h'
        go_simp
      simp only [Act.put]
      refine wpAnyH_take (i := 7) (oi := ⟨some 214, Op.nilCheck (Operand.tmp 213), _, _, _, none⟩) (v := (.pointer (some ⟨x, 0, none⟩))) rfl (by kernel_rfl) (by kernel_rfl) (by kernel_rfl) (fun _ _ _ h => h) (Or.inl ⟨by rfl, fun w' h' => ?_⟩) trivial ?_
      · clear h'
        go_simp
      simp only [Act.put]
      refine wpAnyH_take (i := 8) (oi := ⟨some 215, Op.fieldAddr 45 (Operand.tmp 214) 3, _, _, _, none⟩) (v := (.pointer (some ⟨x, 3, none⟩))) rfl (by kernel_rfl) (by kernel_rfl) (by kernel_rfl) (fun _ _ _ h => h) (Or.inl ⟨by rfl, fun w' h' => ?_⟩) trivial ?_
      · clear h'
        go_simp
      simp only [Act.put]
      refine wpAnyH_take (i := 10) (oi := ⟨some 217, Op.move (Operand.tmp 25), _, _, _, none⟩) (v := (.int .u32 HD)) rfl (by kernel_rfl) (by kernel_rfl) (by kernel_rfl) (fun _ _ _ h => h) (Or.inl ⟨by rfl, fun w' h' => ?_⟩) trivial ?_
      · clear h'
        go_simp
      simp only [Act.put]
      refine wpAnyH_take (i := 11) (oi := ⟨some 218, Op.fieldAddr 51 (Operand.tmp 3) 3, _, _, _, none⟩) (v := (.pointer (some ⟨z, 3, none⟩))) rfl (by kernel_rfl) (by kernel_rfl) (by kernel_rfl) (fun _ _ _ h => h) (Or.inl ⟨by rfl, fun w' h' => ?_⟩) trivial ?_
      · clear h'
        go_simp
      simp only [Act.put]
      refine wpAnyH_ready (rs := [5, 9, 12]) (by kernel_rfl) (by simp) ?_
      refine AllReadyH.cons rfl (fun K hK => ?_) (AllReadyH.cons rfl (fun K hK => ?_) (AllReadyH.cons rfl (fun K hK => ?_) AllReadyH.nil))
      · have c0 := (show V.cell? ⟨x, 10, none⟩ = some (.int .i64 base) from wd_c10 BV.out.bx)
        have c1 := (show V.cell? ⟨x, 11, none⟩ = some (.int .i64 n) from wd_c11 BV.out.bx)
        have c2 := (show V.cell? ⟨x, 12, none⟩ = some (.int .i64 s.tk) from wd_c12 BV.out.bx)
        have c3 := (show V.cell? ⟨x, 13, none⟩ = some (.int .i64 s.td) from wd_c13 BV.out.bx)
        go_simp
        clear c0 c1 c2 c3
        refine hK.out _ _ trivial (fun _ => ?_)
        clear hK K
        refine wpAnyH_ready (rs := [9, 12]) (by kernel_rfl) (by simp) ?_
        refine AllReadyH.cons rfl (fun K hK => ?_) (AllReadyH.cons rfl (fun K hK => ?_) AllReadyH.nil)
        · have c0 := (show V.cell? ⟨x, 3, none⟩ = some (.string ⟨s.lm.toArray⟩) from wd_c3 BV.out.bx)
          go_simp
          clear c0
          refine hK.out _ _ trivial (fun _ => ?_)
          clear hK K
          refine wpAnyH_ready (rs := [12]) (by kernel_rfl) (by simp) ?_
          refine AllReadyH.cons rfl (fun K hK => ?_) AllReadyH.nil
          have c0 := ac_c3 ZV.out.at_
          go_simp
          clear c0
          refine hK.out _ _ trivial (fun _ => ?_)
          clear hK K
          refine wpAnyH_ready (rs := [13]) (by kernel_rfl) (by simp) ?_
          refine AllReadyH.cons rfl (fun K hK => ?_) AllReadyH.nil
          go_simp
          have hx := BS.rDone BV.out HD ln HD0.out.1 HD0.out.2 HL0.out.1 HL0.out.2
          rw [← HM.out, ← HTD.out] at hx
          refine hx.mono ?_
          rintro e w6 ⟨rfl, kk, bl⟩
          have B6 := Lib.hid kk
          have Z6 := Lib.hid (ZV.out.grow bl)
          clear kk bl hx BV ZV
          go_simp
          refine hK.out _ _ trivial (fun _ => ?_)
          clear hK K
          refine wpAnyH_take (i := 14) (oi := ⟨some 206, Op.move (Operand.tmp 220), _, _, _, none⟩) (v := (.tuple #[.agg #[.int .i64 base, .int .i64 n, .int .i64 s.tk, .int .i64 TD], .string ⟨M.toArray⟩])) rfl (by kernel_rfl) (by kernel_rfl) (by kernel_rfl) (fun _ _ _ h => h) (Or.inl ⟨by rfl, fun w' h' => ?_⟩) trivial ?_
          · clear h'
            go_simp
          simp only [Act.put]
          refine wpAnyH_take (i := 15) (oi := ⟨some 221, Op.extract (Operand.tmp 206) 0, _, _, _, none⟩) (v := (.agg #[.int .i64 base, .int .i64 n, .int .i64 s.tk, .int .i64 TD])) rfl (by kernel_rfl) (by kernel_rfl) (by kernel_rfl) (fun _ _ _ h => h) (Or.inl ⟨by rfl, fun w' h' => ?_⟩) trivial ?_
          · clear h'
            go_simp
          simp only [Act.put]
          refine wpAnyH_take (i := 16) (oi := ⟨some 222, Op.extract (Operand.tmp 206) 1, _, _, _, none⟩) (v := (.string ⟨M.toArray⟩)) rfl (by kernel_rfl) (by kernel_rfl) (by kernel_rfl) (fun _ _ _ h => h) (Or.inl ⟨by rfl, fun w' h' => ?_⟩) trivial ?_
          · clear h'
            go_simp
          simp only [Act.put]
          refine wpAnyH_take (i := 17) (oi := ⟨some 223, Op.nilCheck (Operand.tmp 207), _, _, _, none⟩) (v := (.pointer (some ⟨x, 0, none⟩))) rfl (by kernel_rfl) (by kernel_rfl) (by kernel_rfl) (fun _ _ _ h => h) (Or.inl ⟨by rfl, fun w' h' => ?_⟩) trivial ?_
          · clear h'
            go_simp
          simp only [Act.put]
          refine wpAnyH_take (i := 18) (oi := ⟨some 224, Op.fieldAddr 45 (Operand.tmp 223) 5, _, _, _, none⟩) (v := (.pointer (some ⟨x, 10, none⟩))) rfl (by kernel_rfl) (by kernel_rfl) (by kernel_rfl) (fun _ _ _ h => h) (Or.inl ⟨by rfl, fun w' h' => ?_⟩) trivial ?_
          · clear h'
            go_simp
          simp only [Act.put]
          have hst := (wd_vport B6.out.bx s.tk TD).1
          have B7 := Lib.hid (B6.out.putV s.tk TD)
          have Z7 := Lib.hid (Z6.out.put (setCells_grown w6 x [.int .i64 base, .int .i64 n, .int .i64 s.tk, .int .i64 TD] 10))
          refine wpAnyH_ready (rs := [19]) (by kernel_rfl) (by simp) ?_
          refine rdy_store_at (n := 19) rfl rfl 42 (Operand.tmp 224) (Operand.tmp 221) rfl rfl (.agg #[.int .i64 base, .int .i64 n, .int .i64 s.tk, .int .i64 TD]) x 10 (by kernel_rfl) (by kernel_rfl) hst trivial ?_
          clear hst B6 Z6
          generalize World.setCells _ _ _ _ = W7 at B7 Z7 ⊢
          refine wpAnyH_take (i := 20) (oi := ⟨some 225, Op.nilCheck (Operand.tmp 208), _, _, _, none⟩) (v := (.pointer (some ⟨x, 0, none⟩))) rfl (by kernel_rfl) (by kernel_rfl) (by kernel_rfl) (fun _ _ _ h => h) (Or.inl ⟨by rfl, fun w' h' => ?_⟩) trivial ?_
          · clear h'
            go_simp
          simp only [Act.put]
          refine wpAnyH_take (i := 21) (oi := ⟨some 226, Op.fieldAddr 45 (Operand.tmp 225) 3, _, _, _, none⟩) (v := (.pointer (some ⟨x, 3, none⟩))) rfl (by kernel_rfl) (by kernel_rfl) (by kernel_rfl) (fun _ _ _ h => h) (Or.inl ⟨by rfl, fun w' h' => ?_⟩) trivial ?_
          · clear h'
            go_simp
          simp only [Act.put]
          refine wpAnyH_ready (rs := [22]) (by kernel_rfl) (by simp) ?_
          refine AllReadyH.cons rfl (fun K hK => ?_) AllReadyH.nil
          have e3 := wd_c3 B7.out.bx
          have f3 := B7.out.bx.free 3
          go_simp
          have B8 := Lib.hid (B7.out.putB M)
          have Z8 := Lib.hid (Z7.out.put (setCell_grown W7 x 3 (.string ⟨M.toArray⟩)))
          clear e3 f3 B7 Z7
          generalize World.setCell _ _ _ = W8 at B8 Z8 ⊢
          refine hK.out _ _ trivial (fun _ => ?_)
          clear hK K
          refine wpAnyH_done (by kernel_rfl) (NoPanic.normal ?_) _
          go_wp2_with fail
          try simp only [List.setIfInBounds_toArray, List.set_cons_zero, List.set_cons_succ]
          go_meet
          case rel => exact ⟨rfl, Lib.hid ⟨B8.out, Z8.out⟩⟩
        · have c0 := ac_c3 ZV.out.at_
          go_simp
          clear c0
          refine hK.out _ _ trivial (fun _ => ?_)
          clear hK K
          refine wpAnyH_ready (rs := [9]) (by kernel_rfl) (by simp) ?_
          refine AllReadyH.cons rfl (fun K hK => ?_) AllReadyH.nil
          have c0 := (show V.cell? ⟨x, 3, none⟩ = some (.string ⟨s.lm.toArray⟩) from wd_c3 BV.out.bx)
          go_simp
          clear c0
          refine hK.out _ _ trivial (fun _ => ?_)
          clear hK K
          refine wpAnyH_ready (rs := [13]) (by kernel_rfl) (by simp) ?_
          refine AllReadyH.cons rfl (fun K hK => ?_) AllReadyH.nil
          go_simp
          have hx := BS.rDone BV.out HD ln HD0.out.1 HD0.out.2 HL0.out.1 HL0.out.2
          rw [← HM.out, ← HTD.out] at hx
          refine hx.mono ?_
          rintro e w6 ⟨rfl, kk, bl⟩
          have B6 := Lib.hid kk
          have Z6 := Lib.hid (ZV.out.grow bl)
          clear kk bl hx BV ZV
          go_simp
          refine hK.out _ _ trivial (fun _ => ?_)
          clear hK K
          refine wpAnyH_take (i := 14) (oi := ⟨some 206, Op.move (Operand.tmp 220), _, _, _, none⟩) (v := (.tuple #[.agg #[.int .i64 base, .int .i64 n, .int .i64 s.tk, .int .i64 TD], .string ⟨M.toArray⟩])) rfl (by kernel_rfl) (by kernel_rfl) (by kernel_rfl) (fun _ _ _ h => h) (Or.inl ⟨by rfl, fun w' h' => ?_⟩) trivial ?_
          · clear h'
            go_simp
          simp only [Act.put]
          refine wpAnyH_take (i := 15) (oi := ⟨some 221, Op.extract (Operand.tmp 206) 0, _, _, _, none⟩) (v := (.agg #[.int .i64 base, .int .i64 n, .int .i64 s.tk, .int .i64 TD])) rfl (by kernel_rfl) (by kernel_rfl) (by kernel_rfl) (fun _ _ _ h => h) (Or.inl ⟨by rfl, fun w' h' => ?_⟩) trivial ?_
          · clear h'
            go_simp
          simp only [Act.put]
          refine wpAnyH_take (i := 16) (oi := ⟨some 222, Op.extract (Operand.tmp 206) 1, _, _, _, none⟩) (v := (.string ⟨M.toArray⟩)) rfl (by kernel_rfl) (by kernel_rfl) (by kernel_rfl) (fun _ _ _ h => h) (Or.inl ⟨by rfl, fun w' h' => ?_⟩) trivial ?_
          · clear h'
            go_simp
          simp only [Act.put]
          refine wpAnyH_take (i := 17) (oi := ⟨some 223, Op.nilCheck (Operand.tmp 207), _, _, _, none⟩) (v := (.pointer (some ⟨x, 0, none⟩))) rfl (by kernel_rfl) (by kernel_rfl) (by kernel_rfl) (fun _ _ _ h => h) (Or.inl ⟨by rfl, fun w' h' => ?_⟩) trivial ?_
          · clear h'
            go_simp
          simp only [Act.put]
          refine wpAnyH_take (i := 18) (oi := ⟨some 224, Op.fieldAddr 45 (Operand.tmp 223) 5, _, _, _, none⟩) (v := (.pointer (some ⟨x, 10, none⟩))) rfl (by kernel_rfl) (by kernel_rfl) (by kernel_rfl) (fun _ _ _ h => h) (Or.inl ⟨by rfl, fun w' h' => ?_⟩) trivial ?_
          · clear h'
            go_simp
          simp only [Act.put]
          have hst := (wd_vport B6.out.bx s.tk TD).1
          have B7 := Lib.hid (B6.out.putV s.tk TD)
          have Z7 := Lib.hid (Z6.out.put (setCells_grown w6 x [.int .i64 base, .int .i64 n, .int .i64 s.tk, .int .i64 TD] 10))
          refine wpAnyH_ready (rs := [19]) (by kernel_rfl) (by simp) ?_
          refine rdy_store_at (n := 19) rfl rfl 42 (Operand.tmp 224) (Operand.tmp 221) rfl rfl (.agg #[.int .i64 base, .int .i64 n, .int .i64 s.tk, .int .i64 TD]) x 10 (by kernel_rfl) (by kernel_rfl) hst trivial ?_
          clear hst B6 Z6
          generalize World.setCells _ _ _ _ = W7 at B7 Z7 ⊢
          refine wpAnyH_take (i := 20) (oi := ⟨some 225, Op.nilCheck (Operand.tmp 208), _, _, _, none⟩) (v := (.pointer (some ⟨x, 0, none⟩))) rfl (by kernel_rfl) (by kernel_rfl) (by kernel_rfl) (fun _ _ _ h => h) (Or.inl ⟨by rfl, fun w' h' => ?_⟩) trivial ?_
          · clear h'
            go_simp
          simp only [Act.put]
          refine wpAnyH_take (i := 21) (oi := ⟨some 226, Op.fieldAddr 45 (Operand.tmp 225) 3, _, _, _, none⟩) (v := (.pointer (some ⟨x, 3, none⟩))) rfl (by kernel_rfl) (by kernel_rfl) (by kernel_rfl) (fun _ _ _ h => h) (Or.inl ⟨by rfl, fun w' h' => ?_⟩) trivial ?_
          · clear h'
            go_simp
          simp only [Act.put]
          refine wpAnyH_ready (rs := [22]) (by kernel_rfl) (by simp) ?_
          refine AllReadyH.cons rfl (fun K hK => ?_) AllReadyH.nil
          have e3 := wd_c3 B7.out.bx
          have f3 := B7.out.bx.free 3
          go_simp
          have B8 := Lib.hid (B7.out.putB M)
          have Z8 := Lib.hid (Z7.out.put (setCell_grown W7 x 3 (.string ⟨M.toArray⟩)))
          clear e3 f3 B7 Z7
          generalize World.setCell _ _ _ = W8 at B8 Z8 ⊢
          refine hK.out _ _ trivial (fun _ => ?_)
          clear hK K
          refine wpAnyH_done (by kernel_rfl) (NoPanic.normal ?_) _
          go_wp2_with fail
          try simp only [List.setIfInBounds_toArray, List.set_cons_zero, List.set_cons_succ]
          go_meet
          case rel => exact ⟨rfl, Lib.hid ⟨B8.out, Z8.out⟩⟩
      · have c0 := (show V.cell? ⟨x, 3, none⟩ = some (.string ⟨s.lm.toArray⟩) from wd_c3 BV.out.bx)
        go_simp
        clear c0
        refine hK.out _ _ trivial (fun _ => ?_)
        clear hK K
        refine wpAnyH_ready (rs := [5, 12]) (by kernel_rfl) (by simp) ?_
        refine AllReadyH.cons rfl (fun K hK => ?_) (AllReadyH.cons rfl (fun K hK => ?_) AllReadyH.nil)
        · have c0 := (show V.cell? ⟨x, 10, none⟩ = some (.int .i64 base) from wd_c10 BV.out.bx)
          have c1 := (show V.cell? ⟨x, 11, none⟩ = some (.int .i64 n) from wd_c11 BV.out.bx)
          have c2 := (show V.cell? ⟨x, 12, none⟩ = some (.int .i64 s.tk) from wd_c12 BV.out.bx)
          have c3 := (show V.cell? ⟨x, 13, none⟩ = some (.int .i64 s.td) from wd_c13 BV.out.bx)
          go_simp
          clear c0 c1 c2 c3
          refine hK.out _ _ trivial (fun _ => ?_)
          clear hK K
          refine wpAnyH_ready (rs := [12]) (by kernel_rfl) (by simp) ?_
          refine AllReadyH.cons rfl (fun K hK => ?_) AllReadyH.nil
          have c0 := ac_c3 ZV.out.at_
          go_simp
          clear c0
          refine hK.out _ _ trivial (fun _ => ?_)
          clear hK K
          refine wpAnyH_ready (rs := [13]) (by kernel_rfl) (by simp) ?_
          refine AllReadyH.cons rfl (fun K hK => ?_) AllReadyH.nil
          go_simp
          have hx := BS.rDone BV.out HD ln HD0.out.1 HD0.out.2 HL0.out.1 HL0.out.2
          rw [← HM.out, ← HTD.out] at hx
          refine hx.mono ?_
          rintro e w6 ⟨rfl, kk, bl⟩
          have B6 := Lib.hid kk
          have Z6 := Lib.hid (ZV.out.grow bl)
          clear kk bl hx BV ZV
          go_simp
          refine hK.out _ _ trivial (fun _ => ?_)
          clear hK K
          refine wpAnyH_take (i := 14) (oi := ⟨some 206, Op.move (Operand.tmp 220), _, _, _, none⟩) (v := (.tuple #[.agg #[.int .i64 base, .int .i64 n, .int .i64 s.tk, .int .i64 TD], .string ⟨M.toArray⟩])) rfl (by kernel_rfl) (by kernel_rfl) (by kernel_rfl) (fun _ _ _ h => h) (Or.inl ⟨by rfl, fun w' h' => ?_⟩) trivial ?_
          · clear h'
            go_simp
          simp only [Act.put]
          refine wpAnyH_take (i := 15) (oi := ⟨some 221, Op.extract (Operand.tmp 206) 0, _, _, _, none⟩) (v := (.agg #[.int .i64 base, .int .i64 n, .int .i64 s.tk, .int .i64 TD])) rfl (by kernel_rfl) (by kernel_rfl) (by kernel_rfl) (fun _ _ _ h => h) (Or.inl ⟨by rfl, fun w' h' => ?_⟩) trivial ?_
          · clear h'
            go_simp
          simp only [Act.put]
          refine wpAnyH_take (i := 16) (oi := ⟨some 222, Op.extract (Operand.tmp 206) 1, _, _, _, none⟩) (v := (.string ⟨M.toArray⟩)) rfl (by kernel_rfl) (by kernel_rfl) (by kernel_rfl) (fun _ _ _ h => h) (Or.inl ⟨by rfl, fun w' h' => ?_⟩) trivial ?_
          · clear h'
            go_simp
          simp only [Act.put]
          refine wpAnyH_take (i := 17) (oi := ⟨some 223, Op.nilCheck (Operand.tmp 207), _, _, _, none⟩) (v := (.pointer (some ⟨x, 0, none⟩))) rfl (by kernel_rfl) (by kernel_rfl) (by kernel_rfl) (fun _ _ _ h => h) (Or.inl ⟨by rfl, fun w' h' => ?_⟩) trivial ?_
          · clear h'
            go_simp
          simp only [Act.put]
          refine wpAnyH_take (i := 18) (oi := ⟨some 224, Op.fieldAddr 45 (Operand.tmp 223) 5, _, _, _, none⟩) (v := (.pointer (some ⟨x, 10, none⟩))) rfl (by kernel_rfl) (by kernel_rfl) (by kernel_rfl) (fun _ _ _ h => h) (Or.inl ⟨by rfl, fun w' h' => ?_⟩) trivial ?_
          · clear h'
            go_simp
          simp only [Act.put]
          have hst := (wd_vport B6.out.bx s.tk TD).1
          have B7 := Lib.hid (B6.out.putV s.tk TD)
          have Z7 := Lib.hid (Z6.out.put (setCells_grown w6 x [.int .i64 base, .int .i64 n, .int .i64 s.tk, .int .i64 TD] 10))
          refine wpAnyH_ready (rs := [19]) (by kernel_rfl) (by simp) ?_
          refine rdy_store_at (n := 19) rfl rfl 42 (Operand.tmp 224) (Operand.tmp 221) rfl rfl (.agg #[.int .i64 base, .int .i64 n, .int .i64 s.tk, .int .i64 TD]) x 10 (by kernel_rfl) (by kernel_rfl) hst trivial ?_
          clear hst B6 Z6
          generalize World.setCells _ _ _ _ = W7 at B7 Z7 ⊢
          refine wpAnyH_take (i := 20) (oi := ⟨some 225, Op.nilCheck (Operand.tmp 208), _, _, _, none⟩) (v := (.pointer (some ⟨x, 0, none⟩))) rfl (by kernel_rfl) (by kernel_rfl) (by kernel_rfl) (fun _ _ _ h => h) (Or.inl ⟨by rfl, fun w' h' => ?_⟩) trivial ?_
          · clear h'
            go_simp
          simp only [Act.put]
          refine wpAnyH_take (i := 21) (oi := ⟨some 226, Op.fieldAddr 45 (Operand.tmp 225) 3, _, _, _, none⟩) (v := (.pointer (some ⟨x, 3, none⟩))) rfl (by kernel_rfl) (by kernel_rfl) (by kernel_rfl) (fun _ _ _ h => h) (Or.inl ⟨by rfl, fun w' h' => ?_⟩) trivial ?_
          · clear h'
            go_simp
          simp only [Act.put]
          refine wpAnyH_ready (rs := [22]) (by kernel_rfl) (by simp) ?_
          refine AllReadyH.cons rfl (fun K hK => ?_) AllReadyH.nil
          have e3 := wd_c3 B7.out.bx
          have f3 := B7.out.bx.free 3
          go_simp
          have B8 := Lib.hid (B7.out.putB M)
          have Z8 := Lib.hid (Z7.out.put (setCell_grown W7 x 3 (.string ⟨M.toArray⟩)))
          clear e3 f3 B7 Z7
          generalize World.setCell _ _ _ = W8 at B8 Z8 ⊢
          refine hK.out _ _ trivial (fun _ => ?_)
          clear hK K
          refine wpAnyH_done (by kernel_rfl) (NoPanic.normal ?_) _
          go_wp2_with fail
          try simp only [List.setIfInBounds_toArray, List.set_cons_zero, List.set_cons_succ]
          go_meet
          case rel => exact ⟨rfl, Lib.hid ⟨B8.out, Z8.out⟩⟩
        · have c0 := ac_c3 ZV.out.at_
          go_simp
          clear c0
          refine hK.out _ _ trivial (fun _ => ?_)
          clear hK K
          refine wpAnyH_ready (rs := [5]) (by kernel_rfl) (by simp) ?_
          refine AllReadyH.cons rfl (fun K hK => ?_) AllReadyH.nil
          have c0 := (show V.cell? ⟨x, 10, none⟩ = some (.int .i64 base) from wd_c10 BV.out.bx)
          have c1 := (show V.cell? ⟨x, 11, none⟩ = some (.int .i64 n) from wd_c11 BV.out.bx)
          have c2 := (show V.cell? ⟨x, 12, none⟩ = some (.int .i64 s.tk) from wd_c12 BV.out.bx)
          have c3 := (show V.cell? ⟨x, 13, none⟩ = some (.int .i64 s.td) from wd_c13 BV.out.bx)
          go_simp
          clear c0 c1 c2 c3
          refine hK.out _ _ trivial (fun _ => ?_)
          clear hK K
          refine wpAnyH_ready (rs := [13]) (by kernel_rfl) (by simp) ?_
          refine AllReadyH.cons rfl (fun K hK => ?_) AllReadyH.nil
          go_simp
          have hx := BS.rDone BV.out HD ln HD0.out.1 HD0.out.2 HL0.out.1 HL0.out.2
          rw [← HM.out, ← HTD.out] at hx
          refine hx.mono ?_
          rintro e w6 ⟨rfl, kk, bl⟩
          have B6 := Lib.hid kk
          have Z6 := Lib.hid (ZV.out.grow bl)
          clear kk bl hx BV ZV
          go_simp
          refine hK.out _ _ trivial (fun _ => ?_)
          clear hK K
          refine wpAnyH_take (i := 14) (oi := ⟨some 206, Op.move (Operand.tmp 220), _, _, _, none⟩) (v := (.tuple #[.agg #[.int .i64 base, .int .i64 n, .int .i64 s.tk, .int .i64 TD], .string ⟨M.toArray⟩])) rfl (by kernel_rfl) (by kernel_rfl) (by kernel_rfl) (fun _ _ _ h => h) (Or.inl ⟨by rfl, fun w' h' => ?_⟩) trivial ?_
          · clear h'
            go_simp
          simp only [Act.put]
          refine wpAnyH_take (i := 15) (oi := ⟨some 221, Op.extract (Operand.tmp 206) 0, _, _, _, none⟩) (v := (.agg #[.int .i64 base, .int .i64 n, .int .i64 s.tk, .int .i64 TD])) rfl (by kernel_rfl) (by kernel_rfl) (by kernel_rfl) (fun _ _ _ h => h) (Or.inl ⟨by rfl, fun w' h' => ?_⟩) trivial ?_
          · clear h'
            go_simp
          simp only [Act.put]
          refine wpAnyH_take (i := 16) (oi := ⟨some 222, Op.extract (Operand.tmp 206) 1, _, _, _, none⟩) (v := (.string ⟨M.toArray⟩)) rfl (by kernel_rfl) (by kernel_rfl) (by kernel_rfl) (fun _ _ _ h => h) (Or.inl ⟨by rfl, fun w' h' => ?_⟩) trivial ?_
          · clear h'
            go_simp
          simp only [Act.put]
          refine wpAnyH_take (i := 17) (oi := ⟨some 223, Op.nilCheck (Operand.tmp 207), _, _, _, none⟩) (v := (.pointer (some ⟨x, 0, none⟩))) rfl (by kernel_rfl) (by kernel_rfl) (by kernel_rfl) (fun _ _ _ h => h) (Or.inl ⟨by rfl, fun w' h' => ?_⟩) trivial ?_
          · clear h'
            go_simp
          simp only [Act.put]
          refine wpAnyH_take (i := 18) (oi := ⟨some 224, Op.fieldAddr 45 (Operand.tmp 223) 5, _, _, _, none⟩) (v := (.pointer (some ⟨x, 10, none⟩))) rfl (by kernel_rfl) (by kernel_rfl) (by kernel_rfl) (fun _ _ _ h => h) (Or.inl ⟨by rfl, fun w' h' => ?_⟩) trivial ?_
          · clear h'
            go_simp
          simp only [Act.put]
          have hst := (wd_vport B6.out.bx s.tk TD).1
          have B7 := Lib.hid (B6.out.putV s.tk TD)
          have Z7 := Lib.hid (Z6.out.put (setCells_grown w6 x [.int .i64 base, .int .i64 n, .int .i64 s.tk, .int .i64 TD] 10))
          refine wpAnyH_ready (rs := [19]) (by kernel_rfl) (by simp) ?_
          refine rdy_store_at (n := 19) rfl rfl 42 (Operand.tmp 224) (Operand.tmp 221) rfl rfl (.agg #[.int .i64 base, .int .i64 n, .int .i64 s.tk, .int .i64 TD]) x 10 (by kernel_rfl) (by kernel_rfl) hst trivial ?_
          clear hst B6 Z6
          generalize World.setCells _ _ _ _ = W7 at B7 Z7 ⊢
          refine wpAnyH_take (i := 20) (oi := ⟨some 225, Op.nilCheck (Operand.tmp 208), _, _, _, none⟩) (v := (.pointer (some ⟨x, 0, none⟩))) rfl (by kernel_rfl) (by kernel_rfl) (by kernel_rfl) (fun _ _ _ h => h) (Or.inl ⟨by rfl, fun w' h' => ?_⟩) trivial ?_
          · clear h'
            go_simp
          simp only [Act.put]
          refine wpAnyH_take (i := 21) (oi := ⟨some 226, Op.fieldAddr 45 (Operand.tmp 225) 3, _, _, _, none⟩) (v := (.pointer (some ⟨x, 3, none⟩))) rfl (by kernel_rfl) (by kernel_rfl) (by kernel_rfl) (fun _ _ _ h => h) (Or.inl ⟨by rfl, fun w' h' => ?_⟩) trivial ?_
          · clear h'
            go_simp
          simp only [Act.put]
          refine wpAnyH_ready (rs := [22]) (by kernel_rfl) (by simp) ?_
          refine AllReadyH.cons rfl (fun K hK => ?_) AllReadyH.nil
          have e3 := wd_c3 B7.out.bx
          have f3 := B7.out.bx.free 3
          go_simp
          have B8 := Lib.hid (B7.out.putB M)
          have Z8 := Lib.hid (Z7.out.put (setCell_grown W7 x 3 (.string ⟨M.toArray⟩)))
          clear e3 f3 B7 Z7
          generalize World.setCell _ _ _ = W8 at B8 Z8 ⊢
          refine hK.out _ _ trivial (fun _ => ?_)
          clear hK K
          refine wpAnyH_done (by kernel_rfl) (NoPanic.normal ?_) _
          go_wp2_with fail
          try simp only [List.setIfInBounds_toArray, List.set_cons_zero, List.set_cons_succ]
          go_meet
          case rel => exact ⟨rfl, Lib.hid ⟨B8.out, Z8.out⟩⟩
      · have c0 := ac_c3 ZV.out.at_
        go_simp
        clear c0
        refine hK.out _ _ trivial (fun _ => ?_)
        clear hK K
        refine wpAnyH_ready (rs := [5, 9]) (by kernel_rfl) (by simp) ?_
        refine AllReadyH.cons rfl (fun K hK => ?_) (AllReadyH.cons rfl (fun K hK => ?_) AllReadyH.nil)
        · have c0 := (show V.cell? ⟨x, 10, none⟩ = some (.int .i64 base) from wd_c10 BV.out.bx)
          have c1 := (show V.cell? ⟨x, 11, none⟩ = some (.int .i64 n) from wd_c11 BV.out.bx)
          have c2 := (show V.cell? ⟨x, 12, none⟩ = some (.int .i64 s.tk) from wd_c12 BV.out.bx)
          have c3 := (show V.cell? ⟨x, 13, none⟩ = some (.int .i64 s.td) from wd_c13 BV.out.bx)
          go_simp
          clear c0 c1 c2 c3
          refine hK.out _ _ trivial (fun _ => ?_)
          clear hK K
          refine wpAnyH_ready (rs := [9]) (by kernel_rfl) (by simp) ?_
          refine AllReadyH.cons rfl (fun K hK => ?_) AllReadyH.nil
          have c0 := (show V.cell? ⟨x, 3, none⟩ = some (.string ⟨s.lm.toArray⟩) from wd_c3 BV.out.bx)
          go_simp
          clear c0
          refine hK.out _ _ trivial (fun _ => ?_)
          clear hK K
          refine wpAnyH_ready (rs := [13]) (by kernel_rfl) (by simp) ?_
          refine AllReadyH.cons rfl (fun K hK => ?_) AllReadyH.nil
          go_simp
          have hx := BS.rDone BV.out HD ln HD0.out.1 HD0.out.2 HL0.out.1 HL0.out.2
          rw [← HM.out, ← HTD.out] at hx
          refine hx.mono ?_
          rintro e w6 ⟨rfl, kk, bl⟩
          have B6 := Lib.hid kk
          have Z6 := Lib.hid (ZV.out.grow bl)
          clear kk bl hx BV ZV
          go_simp
          refine hK.out _ _ trivial (fun _ => ?_)
          clear hK K
          refine wpAnyH_take (i := 14) (oi := ⟨some 206, Op.move (Operand.tmp 220), _, _, _, none⟩) (v := (.tuple #[.agg #[.int .i64 base, .int .i64 n, .int .i64 s.tk, .int .i64 TD], .string ⟨M.toArray⟩])) rfl (by kernel_rfl) (by kernel_rfl) (by kernel_rfl) (fun _ _ _ h => h) (Or.inl ⟨by rfl, fun w' h' => ?_⟩) trivial ?_
          · clear h'
            go_simp
          simp only [Act.put]
          refine wpAnyH_take (i := 15) (oi := ⟨some 221, Op.extract (Operand.tmp 206) 0, _, _, _, none⟩) (v := (.agg #[.int .i64 base, .int .i64 n, .int .i64 s.tk, .int .i64 TD])) rfl (by kernel_rfl) (by kernel_rfl) (by kernel_rfl) (fun _ _ _ h => h) (Or.inl ⟨by rfl, fun w' h' => ?_⟩) trivial ?_
          · clear h'
            go_simp
          simp only [Act.put]
          refine wpAnyH_take (i := 16) (oi := ⟨some 222, Op.extract (Operand.tmp 206) 1, _, _, _, none⟩) (v := (.string ⟨M.toArray⟩)) rfl (by kernel_rfl) (by kernel_rfl) (by kernel_rfl) (fun _ _ _ h => h) (Or.inl ⟨by rfl, fun w' h' => ?_⟩) trivial ?_
          · clear h'
            go_simp
          simp only [Act.put]
          refine wpAnyH_take (i := 17) (oi := ⟨some 223, Op.nilCheck (Operand.tmp 207), _, _, _, none⟩) (v := (.pointer (some ⟨x, 0, none⟩))) rfl (by kernel_rfl) (by kernel_rfl) (by kernel_rfl) (fun _ _ _ h => h) (Or.inl ⟨by rfl, fun w' h' => ?_⟩) trivial ?_
          · clear h'
            go_simp
          simp only [Act.put]
          refine wpAnyH_take (i := 18) (oi := ⟨some 224, Op.fieldAddr 45 (Operand.tmp 223) 5, _, _, _, none⟩) (v := (.pointer (some ⟨x, 10, none⟩))) rfl (by kernel_rfl) (by kernel_rfl) (by kernel_rfl) (fun _ _ _ h => h) (Or.inl ⟨by rfl, fun w' h' => ?_⟩) trivial ?_
          · clear h'
            go_simp
          simp only [Act.put]
          have hst := (wd_vport B6.out.bx s.tk TD).1
          have B7 := Lib.hid (B6.out.putV s.tk TD)
          have Z7 := Lib.hid (Z6.out.put (setCells_grown w6 x [.int .i64 base, .int .i64 n, .int .i64 s.tk, .int .i64 TD] 10))
          refine wpAnyH_ready (rs := [19]) (by kernel_rfl) (by simp) ?_
          refine rdy_store_at (n := 19) rfl rfl 42 (Operand.tmp 224) (Operand.tmp 221) rfl rfl (.agg #[.int .i64 base, .int .i64 n, .int .i64 s.tk, .int .i64 TD]) x 10 (by kernel_rfl) (by kernel_rfl) hst trivial ?_
          clear hst B6 Z6
          generalize World.setCells _ _ _ _ = W7 at B7 Z7 ⊢
          refine wpAnyH_take (i := 20) (oi := ⟨some 225, Op.nilCheck (Operand.tmp 208), _, _, _, none⟩) (v := (.pointer (some ⟨x, 0, none⟩))) rfl (by kernel_rfl) (by kernel_rfl) (by kernel_rfl) (fun _ _ _ h => h) (Or.inl ⟨by rfl, fun w' h' => ?_⟩) trivial ?_
          · clear h'
            go_simp
          simp only [Act.put]
          refine wpAnyH_take (i := 21) (oi := ⟨some 226, Op.fieldAddr 45 (Operand.tmp 225) 3, _, _, _, none⟩) (v := (.pointer (some ⟨x, 3, none⟩))) rfl (by kernel_rfl) (by kernel_rfl) (by kernel_rfl) (fun _ _ _ h => h) (Or.inl ⟨by rfl, fun w' h' => ?_⟩) trivial ?_
          · clear h'
            go_simp
          simp only [Act.put]
          refine wpAnyH_ready (rs := [22]) (by kernel_rfl) (by simp) ?_
          refine AllReadyH.cons rfl (fun K hK => ?_) AllReadyH.nil
          have e3 := wd_c3 B7.out.bx
          have f3 := B7.out.bx.free 3
          go_simp
          have B8 := Lib.hid (B7.out.putB M)
          have Z8 := Lib.hid (Z7.out.put (setCell_grown W7 x 3 (.string ⟨M.toArray⟩)))
          clear e3 f3 B7 Z7
          generalize World.setCell _ _ _ = W8 at B8 Z8 ⊢
          refine hK.out _ _ trivial (fun _ => ?_)
          clear hK K
          refine wpAnyH_done (by kernel_rfl) (NoPanic.normal ?_) _
          go_wp2_with fail
          try simp only [List.setIfInBounds_toArray, List.set_cons_zero, List.set_cons_succ]
          go_meet
          case rel => exact ⟨rfl, Lib.hid ⟨B8.out, Z8.out⟩⟩
        · have c0 := (show V.cell? ⟨x, 3, none⟩ = some (.string ⟨s.lm.toArray⟩) from wd_c3 BV.out.bx)
          go_simp
          clear c0
          refine hK.out _ _ trivial (fun _ => ?_)
          clear hK K
          refine wpAnyH_ready (rs := [5]) (by kernel_rfl) (by simp) ?_
          refine AllReadyH.cons rfl (fun K hK => ?_) AllReadyH.nil
          have c0 := (show V.cell? ⟨x, 10, none⟩ = some (.int .i64 base) from wd_c10 BV.out.bx)
          have c1 := (show V.cell? ⟨x, 11, none⟩ = some (.int .i64 n) from wd_c11 BV.out.bx)
          have c2 := (show V.cell? ⟨x, 12, none⟩ = some (.int .i64 s.tk) from wd_c12 BV.out.bx)
          have c3 := (show V.cell? ⟨x, 13, none⟩ = some (.int .i64 s.td) from wd_c13 BV.out.bx)
          go_simp
          clear c0 c1 c2 c3
          refine hK.out _ _ trivial (fun _ => ?_)
          clear hK K
          refine wpAnyH_ready (rs := [13]) (by kernel_rfl) (by simp) ?_
          refine AllReadyH.cons rfl (fun K hK => ?_) AllReadyH.nil
          go_simp
          have hx := BS.rDone BV.out HD ln HD0.out.1 HD0.out.2 HL0.out.1 HL0.out.2
          rw [← HM.out, ← HTD.out] at hx
          refine hx.mono ?_
          rintro e w6 ⟨rfl, kk, bl⟩
          have B6 := Lib.hid kk
          have Z6 := Lib.hid (ZV.out.grow bl)
          clear kk bl hx BV ZV
          go_simp
          refine hK.out _ _ trivial (fun _ => ?_)
          clear hK K
          refine wpAnyH_take (i := 14) (oi := ⟨some 206, Op.move (Operand.tmp 220), _, _, _, none⟩) (v := (.tuple #[.agg #[.int .i64 base, .int .i64 n, .int .i64 s.tk, .int .i64 TD], .string ⟨M.toArray⟩])) rfl (by kernel_rfl) (by kernel_rfl) (by kernel_rfl) (fun _ _ _ h => h) (Or.inl ⟨by rfl, fun w' h' => ?_⟩) trivial ?_
          · clear h'
            go_simp
          simp only [Act.put]
          refine wpAnyH_take (i := 15) (oi := ⟨some 221, Op.extract (Operand.tmp 206) 0, _, _, _, none⟩) (v := (.agg #[.int .i64 base, .int .i64 n, .int .i64 s.tk, .int .i64 TD])) rfl (by kernel_rfl) (by kernel_rfl) (by kernel_rfl) (fun _ _ _ h => h) (Or.inl ⟨by rfl, fun w' h' => ?_⟩) trivial ?_
          · clear h'
            go_simp
          simp only [Act.put]
          refine wpAnyH_take (i := 16) (oi := ⟨some 222, Op.extract (Operand.tmp 206) 1, _, _, _, none⟩) (v := (.string ⟨M.toArray⟩)) rfl (by kernel_rfl) (by kernel_rfl) (by kernel_rfl) (fun _ _ _ h => h) (Or.inl ⟨by rfl, fun w' h' => ?_⟩) trivial ?_
          · clear h'
            go_simp
          simp only [Act.put]
          refine wpAnyH_take (i := 17) (oi := ⟨some 223, Op.nilCheck (Operand.tmp 207), _, _, _, none⟩) (v := (.pointer (some ⟨x, 0, none⟩))) rfl (by kernel_rfl) (by kernel_rfl) (by kernel_rfl) (fun _ _ _ h => h) (Or.inl ⟨by rfl, fun w' h' => ?_⟩) trivial ?_
          · clear h'
            go_simp
          simp only [Act.put]
          refine wpAnyH_take (i := 18) (oi := ⟨some 224, Op.fieldAddr 45 (Operand.tmp 223) 5, _, _, _, none⟩) (v := (.pointer (some ⟨x, 10, none⟩))) rfl (by kernel_rfl) (by kernel_rfl) (by kernel_rfl) (fun _ _ _ h => h) (Or.inl ⟨by rfl, fun w' h' => ?_⟩) trivial ?_
          · clear h'
            go_simp
          simp only [Act.put]
          have hst := (wd_vport B6.out.bx s.tk TD).1
          have B7 := Lib.hid (B6.out.putV s.tk TD)
          have Z7 := Lib.hid (Z6.out.put (setCells_grown w6 x [.int .i64 base, .int .i64 n, .int .i64 s.tk, .int .i64 TD] 10))
          refine wpAnyH_ready (rs := [19]) (by kernel_rfl) (by simp) ?_
          refine rdy_store_at (n := 19) rfl rfl 42 (Operand.tmp 224) (Operand.tmp 221) rfl rfl (.agg #[.int .i64 base, .int .i64 n, .int .i64 s.tk, .int .i64 TD]) x 10 (by kernel_rfl) (by kernel_rfl) hst trivial ?_
          clear hst B6 Z6
          generalize World.setCells _ _ _ _ = W7 at B7 Z7 ⊢
          refine wpAnyH_take (i := 20) (oi := ⟨some 225, Op.nilCheck (Operand.tmp 208), _, _, _, none⟩) (v := (.pointer (some ⟨x, 0, none⟩))) rfl (by kernel_rfl) (by kernel_rfl) (by kernel_rfl) (fun _ _ _ h => h) (Or.inl ⟨by rfl, fun w' h' => ?_⟩) trivial ?_
          · clear h'
            go_simp
          simp only [Act.put]
          refine wpAnyH_take (i := 21) (oi := ⟨some 226, Op.fieldAddr 45 (Operand.tmp 225) 3, _, _, _, none⟩) (v := (.pointer (some ⟨x, 3, none⟩))) rfl (by kernel_rfl) (by kernel_rfl) (by kernel_rfl) (fun _ _ _ h => h) (Or.inl ⟨by rfl, fun w' h' => ?_⟩) trivial ?_
          · clear h'
            go_simp
          simp only [Act.put]
          refine wpAnyH_ready (rs := [22]) (by kernel_rfl) (by simp) ?_
          refine AllReadyH.cons rfl (fun K hK => ?_) AllReadyH.nil
          have e3 := wd_c3 B7.out.bx
          have f3 := B7.out.bx.free 3
          go_simp
          have B8 := Lib.hid (B7.out.putB M)
          have Z8 := Lib.hid (Z7.out.put (setCell_grown W7 x 3 (.string ⟨M.toArray⟩)))
          clear e3 f3 B7 Z7
          generalize World.setCell _ _ _ = W8 at B8 Z8 ⊢
          refine hK.out _ _ trivial (fun _ => ?_)
          clear hK K
          refine wpAnyH_done (by kernel_rfl) (NoPanic.normal ?_) _
          go_wp2_with fail
          try simp only [List.setIfInBounds_toArray, List.set_cons_zero, List.set_cons_succ]
          go_meet
          case rel => exact ⟨rfl, Lib.hid ⟨B8.out, Z8.out⟩⟩
    case rest =>
      obtain ⟨rfl, HC⟩ := hcut
      rename World => W5
      have B5 := Lib.hid HC.out.1
      have Z5 := Lib.hid HC.out.2
      have L5 : Hid (Below W5.heap.size W5 W5) := Lib.hid (Below.refl _ _)
      clear HC B4 Z4
      go_upto_region 24 with fail
      refine wp_region_noPanic ?_
      refine region_held (S := SX x z g q base n { ({ wdOf s d with tk := s.tk, td := TD } : Wd) with lm := M } 3 v hd ln f a k y) (by kernel_rfl) (fun V d => ⟨(d.block _).trans B5.out.bx, (d.block _).trans Z5.out.at_⟩) (fun V d' hS => ?_)
      have BV := Lib.hid (B5.out.grow (Below.of_none d'.grown))
      have ZV := Lib.hid (Z5.out.grow (Below.of_none d'.grown))
      have LV := Lib.hid (L5.out.trans ((Below.of_none d'.grown).mono L5.out.size))
      clear d' B5 Z5 L5
      refine wpAnyH_take (i := 0) (oi := ⟨some 227, Op.move (Operand.tmp 0), _, _, _, none⟩) (v := (.pointer (some ⟨x, 0, none⟩))) rfl (by kernel_rfl) (by kernel_rfl) (by kernel_rfl) (fun _ _ _ h => h) (Or.inl ⟨by rfl, fun w' h' => ?_⟩) hS ?_
      · clear h'
        go_simp
      simp only [Act.put]
      refine wpAnyH_take (i := 1) (oi := ⟨some 228, Op.nilCheck (Operand.tmp 227), _, _, _, none⟩) (v := (.pointer (some ⟨x, 0, none⟩))) rfl (by kernel_rfl) (by kernel_rfl) (by kernel_rfl) (fun _ _ _ h => h) (Or.inl ⟨by rfl, fun w' h' => ?_⟩) hS ?_
      · clear h'
        go_simp
      simp only [Act.put]
      refine wpAnyH_take (i := 2) (oi := ⟨some 229, Op.fieldAddr 45 (Operand.tmp 228) 2, _, _, _, none⟩) (v := (.pointer (some ⟨x, 2, none⟩))) rfl (by kernel_rfl) (by kernel_rfl) (by kernel_rfl) (fun _ _ _ h => h) (Or.inl ⟨by rfl, fun w' h' => ?_⟩) hS ?_
      · clear h'
        go_simp
      simp only [Act.put]
      refine wpAnyH_take (i := 3) (oi := ⟨some 230, Op.load 32 (Operand.tmp 229), _, _, _, none⟩) (v := (.pointer (some ⟨s.p, 0, none⟩))) rfl (by kernel_rfl) (by kernel_rfl) (by kernel_rfl) (fun _ _ _ h => h) (Or.inl ⟨by rfl, fun w' h' => ?_⟩) hS ?_
      · have c0 := (show w'.cell? ⟨x, 2, none⟩ = some (.pointer (some ⟨s.p, 0, none⟩)) from wd_c2 h'.1)
        clear h'
        go_simp
      simp only [Act.put]
      refine wpAnyH_take (i := 4) (oi := ⟨some 231, Op.move (Operand.tmp 25), _, _, _, none⟩) (v := (.int .u32 HD)) rfl (by kernel_rfl) (by kernel_rfl) (by kernel_rfl) (fun _ _ _ h => h) (Or.inl ⟨by rfl, fun w' h' => ?_⟩) hS ?_
      · clear h'
        go_simp
      simp only [Act.put]
      refine wpAnyH_take (i := 5) (oi := ⟨some 232, Op.fieldAddr 51 (Operand.tmp 3) 3, _, _, _, none⟩) (v := (.pointer (some ⟨z, 3, none⟩))) rfl (by kernel_rfl) (by kernel_rfl) (by kernel_rfl) (fun _ _ _ h => h) (Or.inl ⟨by rfl, fun w' h' => ?_⟩) hS ?_
      · clear h'
        go_simp
      simp only [Act.put]
      refine wpAnyH_take (i := 6) (oi := ⟨some 233, Op.load 48 (Operand.tmp 232), _, _, _, none⟩) (v := (.int .u32 ln)) rfl (by kernel_rfl) (by kernel_rfl) (by kernel_rfl) (fun _ _ _ h => h) (Or.inl ⟨by rfl, fun w' h' => ?_⟩) hS ?_
      · have c0 := ac_c3 h'.2
        clear h'
        go_simp
      simp only [Act.put]
      refine wpAnyH_ready (rs := [7]) (by kernel_rfl) (by simp) ?_
      refine AllReadyH.cons rfl (fun K hK => ?_) AllReadyH.nil
      go_simp
      have hx := BS.cDone BV.out HD ln HD0.out.1 HD0.out.2 HL0.out.1 HL0.out.2
      rw [← HM.out, ← HTD.out] at hx
      refine hx.mono ?_
      rintro e w9 ⟨rfl, kk, t5⟩
      have t5' : ∀ j, (j = h ∨ j = s.p) → j = x ∨ j = q ∨ j = s.p ∨ j = h ∨ j = s.mb := fun j hj => by
        rcases hj with e | e
        · exact .inr (.inr (.inr (.inl e)))
        · exact .inr (.inr (.inl e))
      have B9 := Lib.hid kk
      have Z9 := Lib.hid (ZV.out.turned t5 t5')
      have S9 := SX.of B9.out Z9.out
      clear kk BV ZV LV hx t5 t5'
      go_simp
      refine hK.out _ _ S9 (fun _ => ?_)
      clear hK K
      refine wpAnyH_take (i := 8) (oi := ⟨some 235, Op.binOp BinOp.eql 26 (Operand.tmp 234) (Operand.const (Value.int IntKind.i64 0)) 26, _, _, _, none⟩) (v := (.bool true)) rfl (by kernel_rfl) (by kernel_rfl) (by kernel_rfl) (fun _ _ _ h => h) (Or.inl ⟨by rfl, fun w' h' => ?_⟩) S9 ?_
      · clear h'
        go_simp
      simp only [Act.put]
      refine wpAnyH_take (i := 9) (oi := ⟨some 4, Op.assign (Operand.tmp 235), _, _, _, none⟩) (v := (.bool true)) rfl (by kernel_rfl) (by kernel_rfl) (by kernel_rfl) (fun _ _ _ h => h) (Or.inl ⟨by rfl, fun w' h' => ?_⟩) S9 ?_
      · clear h'
        go_simp
      simp only [Act.put]
      refine wpAnyH_done (by kernel_rfl) (NoPanic.normal ?_) _
      clear hS S9
      go_wp2_with fail
      go_ret
      exact ⟨rfl, _, _, ⟨B9.out, TIE.out⟩, Nat.le_succ _⟩

end Go.Proofs.Ytjelgifijhcnnaa
