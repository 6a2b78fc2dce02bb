/-
  Layer 8: a packet's head and its bytes, by the program. Conditions: as said.
-/
import Derived.Test.YtbjoibgkhooljaaIpC
namespace Go.Proofs.Ytbjoibgkhooljaa
open Go.RowKit Go.Sort
set_option linter.unusedVariables false

theorem bstep {w W W' : World} (h : Hid (Below w.heap.size w W)) (hb : Below W.heap.size W W') : Hid (Below w.heap.size w W') := Lib.hid (h.out.trans (hb.mono h.out.size))
theorem mayB_all {f : Pd} (h : mayB f = true) : 0 ≤ f.id ∧ f.id ≤ 65535 ∧ 0 ≤ f.pr ∧ f.pr ≤ 255 ∧ 0 ≤ f.tl ∧ f.tl ≤ 255 ∧ f.ps % 8 = 0 ∧ 0 ≤ f.ps ∧ f.ps ≤ 65528 ∧ f.ps + f.da.size ≤ 65515 ∧ (f.mo = false ∨ 0 < f.da.size ∧ f.da.size % 8 = 0) := of_decide_eq_true h
theorem be1 (x : Int) : (leL x 1).reverse = [UInt8.ofNat x.toNat] := by simp [leL, le, List.range_succ]
theorem be2 (x : Int) : (leL x 2).reverse = two x.toNat := by simp [leL, le, List.range_succ, two, ofNat_mod]
theorem num1 (w : World) (x : Int) (h0 : 0 ≤ x) (h1 : x ≤ 65535) (L : List UInt8) (hL : L = [UInt8.ofNat x.toNat]) :
    Calls Try.prog 90 #[.int .i64 x, .int .i64 1] w fun e w' => e = .returned (.string ⟨L.toArray⟩) ∧ Below w.heap.size w w' := by
  rw [hL, ← be1]; exact number_any w x 1 h0 (by omega)
theorem num2 (w : World) (x : Int) (h0 : 0 ≤ x) (h1 : x ≤ 65535) (L : List UInt8) (hL : L = two x.toNat) :
    Calls Try.prog 90 #[.int .i64 x, .int .i64 2] w fun e w' => e = .returned (.string ⟨L.toArray⟩) ∧ Below w.heap.size w w' := by
  rw [hL, ← be2]; exact number_any w x 2 h0 (by omega)
theorem two_length (n : Nat) : (two n).length = 2 := rfl
theorem or_more (a : Nat) (h : a < 8192) : bits .or .i64 (a : Int) 8192 = ((a + 8192 : Nat) : Int) := by
  have := bits_or_i64 a 8192 (by omega) (by decide)
  have e : a ||| 8192 = a + 8192 := by
    have h2 : 8192 + a = 8192 ||| a := Nat.two_pow_add_eq_or_of_lt (i := 13) (b := a) (by omega) 1
    rw [Nat.or_comm, ← h2, Nat.add_comm]
  rw [e] at this
  exact this
theorem add_lst (w : World) (x y z : List UInt8) (h : z = x ++ y) (hl : z.length ≤ 70000) : (Op.stringOp .add ⟨x.toArray⟩ ⟨y.toArray⟩).run Try.prog w = .ok (.string ⟨z.toArray⟩) w := by
  subst h
  rw [List.length_append] at hl
  exact add_lists w x y (by omega)

/-- The number that tells a packet's place. -/
def plN (f : Pd) : Nat := f.ps.toNat / 8 + (if f.mo = true then 8192 else 0)
/-- What stands ahead of the sum, behind it, the head, the bytes, and why there are none. -/
def ahL (f : Pd) : List UInt8 := [69] ++ [0] ++ two (20 + f.da.size) ++ two f.id.toNat ++ two (plN f) ++ [UInt8.ofNat f.tl.toNat] ++ [UInt8.ofNat f.pr.toNat]
def bhL (f : Pd) : List UInt8 := f.sr.list ++ f.ds.list
def hdL (f : Pd) : List UInt8 := ahL f ++ two (sumT (ahL f ++ two 0 ++ bhL f)) ++ bhL f
def pdE (f : Pd) : Int := if mayB f = false then 1 else if 566 < f.da.size then 3 else 0
def pdS (f : Pd) : ByteArray := if pdE f = 0 then ⟨(hdL f ++ f.da.data.toList).toArray⟩ else ⟨#[]⟩
theorem ahL_length (f : Pd) : (ahL f).length = 10 := rfl
theorem bhL_length (f : Pd) : (bhL f).length = 8 := rfl
theorem hdL_length (f : Pd) : (hdL f).length = 20 := rfl

set_option maxRecDepth 100000 in
set_option maxHeartbeats 4000000 in
theorem pHead_of (w : World) (f : Pd) (h : mayB f = true) (hz : f.da.size ≤ 566) (b : Bool) (hb : f.mo = b) (HL : List UInt8) (hHL : HL = hdL f) :
    Calls Try.prog 67 #[.agg (pdC f)] w fun e w' => e = .returned (.string ⟨HL.toArray⟩) ∧ Below w.heap.size w w' := by
  obtain ⟨i0, i1, r0, r1, t0, t1, p8, p0, p1, ps, -⟩ := mayB_all h
  obtain ⟨P, hP⟩ : ∃ P, P = plN f := ⟨_, rfl⟩
  have hP2 : P < 16384 := by rw [hP, plN]; split <;> omega
  obtain ⟨D, hD⟩ : ∃ D, D = f.ps.toNat / 8 := ⟨_, rfl⟩
  have hq : f.ps / 8 = (D : Int) := by omega
  have hp1 : f.mo = false → (D : Int) = (P : Int) := by intro hm; rw [hP, plN, hm, ← hD]; rfl
  have hp2 : f.mo = true → bits .or .i64 (D : Int) 8192 = (P : Int) := by intro hm; rw [hP, plN, hm, or_more _ (by omega), ← hD]; rfl
  obtain ⟨N1, hN1⟩ : ∃ L : List UInt8, L = [69] := ⟨_, rfl⟩
  obtain ⟨N2, hN2⟩ : ∃ L : List UInt8, L = [0] := ⟨_, rfl⟩
  obtain ⟨N3, hN3⟩ : ∃ L, L = two (20 + f.da.size) := ⟨_, rfl⟩
  obtain ⟨N4, hN4⟩ : ∃ L, L = two f.id.toNat := ⟨_, rfl⟩
  obtain ⟨N5, hN5⟩ : ∃ L, L = two P := ⟨_, rfl⟩
  obtain ⟨N6, hN6⟩ : ∃ L, L = [UInt8.ofNat f.tl.toNat] := ⟨_, rfl⟩
  obtain ⟨N7, hN7⟩ : ∃ L, L = [UInt8.ofNat f.pr.toNat] := ⟨_, rfl⟩
  obtain ⟨L2, e2⟩ : ∃ L, L = N1 ++ N2 := ⟨_, rfl⟩
  obtain ⟨L3, e3⟩ : ∃ L, L = L2 ++ N3 := ⟨_, rfl⟩
  obtain ⟨L4, e4⟩ : ∃ L, L = L3 ++ N4 := ⟨_, rfl⟩
  obtain ⟨L5, e5⟩ : ∃ L, L = L4 ++ N5 := ⟨_, rfl⟩
  obtain ⟨L6, e6⟩ : ∃ L, L = L5 ++ N6 := ⟨_, rfl⟩
  obtain ⟨L7, e7⟩ : ∃ L, L = L6 ++ N7 := ⟨_, rfl⟩
  have hA : Hid (L7 = ahL f) := Lib.hid (by rw [e7, e6, e5, e4, e3, e2, hN1, hN2, hN3, hN4, hN5, hN6, hN7, hP]; rfl)
  have hl7 : L7.length = 10 := by rw [hA.out]; rfl
  have l6 : L6.length ≤ 10 := by rw [e7, List.length_append] at hl7; omega
  have l5 : L5.length ≤ 10 := by rw [e6, List.length_append] at l6; omega
  have l4 : L4.length ≤ 10 := by rw [e5, List.length_append] at l5; omega
  have l3 : L3.length ≤ 10 := by rw [e4, List.length_append] at l4; omega
  have l2 : L2.length ≤ 10 := by rw [e3, List.length_append] at l3; omega
  obtain ⟨BH, hBH⟩ : ∃ L, L = bhL f := ⟨_, rfl⟩
  have lB : BH.length = 8 := by rw [hBH]; rfl
  obtain ⟨Z, hZ⟩ : ∃ L, L = two 0 := ⟨_, rfl⟩
  have lZ : Z.length = 2 := by rw [hZ]; rfl
  obtain ⟨M1, m1⟩ : ∃ L, L = L7 ++ Z := ⟨_, rfl⟩
  obtain ⟨M2, m2⟩ : ∃ L, L = M1 ++ BH := ⟨_, rfl⟩
  have lM1 : M1.length = 12 := by rw [m1, List.length_append, hl7, lZ]
  have lM2 : M2.length = 20 := by rw [m2, List.length_append, lM1, lB]
  obtain ⟨K, hK⟩ : ∃ K, K = sumT M2 := ⟨_, rfl⟩
  have hK2 : K ≤ 65535 := by rw [hK]; exact sumT_le _
  obtain ⟨T, hT⟩ : ∃ L, L = two K := ⟨_, rfl⟩
  have lT : T.length = 2 := by rw [hT]; rfl
  obtain ⟨M3, m3⟩ : ∃ L, L = L7 ++ T := ⟨_, rfl⟩
  have lM3 : M3.length = 12 := by rw [m3, List.length_append, hl7, lT]
  have m4 : HL = M3 ++ BH := by rw [hHL, hdL, m3, hT, hK, m2, m1, hZ, hBH, hA.out]
  have lHL : HL.length = 20 := by rw [m4, List.length_append, lM3, lB]
  have C2 := Lib.hid (fun w => add_lst w N1 N2 L2 e2 (by omega))
  have C3 := Lib.hid (fun w => add_lst w L2 N3 L3 e3 (by omega))
  have C4 := Lib.hid (fun w => add_lst w L3 N4 L4 e4 (by omega))
  have C5 := Lib.hid (fun w => add_lst w L4 N5 L5 e5 (by omega))
  have C6 := Lib.hid (fun w => add_lst w L5 N6 L6 e6 (by omega))
  have C7 := Lib.hid (fun w => add_lst w L6 N7 L7 e7 (by omega))
  have CB := Lib.hid (fun w => add_lst w f.sr.list f.ds.list BH hBH (by omega))
  have D1 := Lib.hid (fun w => add_lst w L7 Z M1 m1 (by omega))
  have D2 := Lib.hid (fun w => add_lst w M1 BH M2 m2 (by omega))
  have D3 := Lib.hid (fun w => add_lst w L7 T M3 m3 (by omega))
  have D4 := Lib.hid (fun w => add_lst w M3 BH HL m4 (by omega))
  have k1 := Lib.hid (fun w => num1 w 69 (by decide) (by decide) N1 (by rw [hN1]; rfl))
  have k2 := Lib.hid (fun w => num1 w 0 (by decide) (by decide) N2 (by rw [hN2]; rfl))
  have hw : IntKind.i64.wrap (20 + (f.da.size : Int)) = 20 + (f.da.size : Int) := IntWalk.i64_in _ (by omega)
  have k3 := Lib.hid (fun w => num2 w (20 + (f.da.size : Int)) (by omega) (by omega) N3 (by rw [hN3]; congr 1))
  have k4 := Lib.hid (fun w => num2 w f.id i0 i1 N4 hN4)
  have k5 := Lib.hid (fun w => num2 w (P : Int) (by omega) (by omega) N5 (by rw [hN5]; congr 1))
  have k6 := Lib.hid (fun w => num1 w f.tl t0 (by omega) N6 hN6)
  have k7 := Lib.hid (fun w => num1 w f.pr r0 (by omega) N7 hN7)
  have k8 := Lib.hid (fun w => num2 w 0 (by decide) (by decide) Z hZ)
  have hds : (⟨M2.toArray⟩ : ByteArray).data.toList = M2 := rfl
  have k9 := Lib.hid (fun w => Sum_any w ⟨M2.toArray⟩ (by show M2.toArray.size ≤ _; rw [List.size_toArray, lM2]; decide))
  rw [← hK] at k9
  have k10 := Lib.hid (fun w => num2 w (K : Int) (by omega) (by omega) T (by rw [hT]; congr 1))
  clear hD hds hN1 hN2 hN3 hN4 hN5 hN6 hN7 e2 e3 e4 e5 e6 e7 l2 l3 l4 l5 l6 hl7 hBH lB hZ lZ m1 m2 m3 m4 lM1 lM2 lM3 lT lHL hHL hT hK hP hA h
  have HW := Lib.hid hw
  clear hw
  go_enter Try.func67, Try.ntmps67
  go_upto_region 1 with fail
  have FA : Hid (PdAt (w.alloc (.cells (pdC f) 35)) w.heap.size f) := Lib.hid (pd_new w _ f rfl)
  have BL : Hid (Below w.heap.size w (w.alloc (.cells (pdC f) 35))) := Lib.hid ((Below.refl _ _).alloc (Nat.le_refl _) _)
  generalize w.alloc _ = W1 at FA BL ⊢
  obtain ⟨c0, -, -, c9, c10, c11, c12, c13⟩ := FA.out.all
  rw [hb] at c12
  have HP : Hid (b = false → (D : Int) = (P : Int)) := Lib.hid (by rw [← hb]; exact hp1)
  have HP2 : Hid (b = true → bits .or .i64 (D : Int) 8192 = (P : Int)) := Lib.hid (by rw [← hb]; exact hp2)
  clear hp1 hp2 hb c0 c9 c10 c13
  cases b
  all_goals
    go_upto_region 4 with fail
    try rw [hq]
    first | rw [HP.out rfl] | rw [HP2.out rfl]
    clear c11 c12 HP HP2
    refine wp_region_noPanic ?_
    refine region_heldE (S := fun w' => PdAt w' w.heap.size f) (by kernel_rfl) (fun V d => (d.block _).trans FA.out) (fun V d hS => ?_)
    have BV0 := bstep BL d.below
    clear d BL
    refine wpAnyH_take (i := 3) (oi := ⟨some 16, Op.fieldAddr 35 (Operand.tmp 1) 7, _, _, _, none⟩) (v := (.pointer (some ⟨w.heap.size, 13, none⟩))) rfl (by kernel_rfl) (by kernel_rfl) (by kernel_rfl) (fun _ _ _ h => h) (Or.inl ⟨by rfl, fun w' h' => ?_⟩) hS ?_
    · clear h'
      go_simp
    simp only [Act.put]
    refine wpAnyH_take (i := 4) (oi := ⟨some 17, Op.load 9 (Operand.tmp 16), _, _, _, none⟩) (v := (.string f.da)) rfl (by kernel_rfl) (by kernel_rfl) (by kernel_rfl) (fun _ _ _ h => h) (Or.inl ⟨by rfl, fun w' h' => ?_⟩) hS ?_
    · have c0 := PdAt.da h'
      clear h'
      go_simp
    simp only [Act.put]
    refine wpAnyH_take (i := 5) (oi := ⟨some 18, Op.call { callee := Callee.builtin Builtin.len, args := #[(Operand.tmp 17)], argTypes := #[9] }, _, _, _, none⟩) (v := (.int .i64 f.da.size)) rfl (by kernel_rfl) (by kernel_rfl) (by kernel_rfl) (fun _ _ _ h => h) (Or.inl ⟨by rfl, fun w' h' => ?_⟩) hS ?_
    · clear h'
      go_simp
    simp only [Act.put]
    refine wpAnyH_take (i := 6) (oi := ⟨some 19, Op.binOp BinOp.add 3 (Operand.const (Value.int IntKind.i64 20)) (Operand.tmp 18) 3, _, _, _, none⟩) (v := (.int .i64 (20 + (f.da.size : Int)))) rfl (by kernel_rfl) (by kernel_rfl) (by kernel_rfl) (fun _ _ _ h => h) (Or.inl ⟨by rfl, fun w' h' => ?_⟩) hS ?_
    · have c0 := HW.out
      clear h'
      go_simp
    simp only [Act.put]
    refine wpAnyH_take (i := 9) (oi := ⟨some 22, Op.fieldAddr 35 (Operand.tmp 1) 0, _, _, _, none⟩) (v := (.pointer (some ⟨w.heap.size, 0, none⟩))) rfl (by kernel_rfl) (by kernel_rfl) (by kernel_rfl) (fun _ _ _ h => h) (Or.inl ⟨by rfl, fun w' h' => ?_⟩) hS ?_
    · clear h'
      go_simp
    simp only [Act.put]
    refine wpAnyH_take (i := 10) (oi := ⟨some 23, Op.load 3 (Operand.tmp 22), _, _, _, none⟩) (v := (.int .i64 f.id)) rfl (by kernel_rfl) (by kernel_rfl) (by kernel_rfl) (fun _ _ _ h => h) (Or.inl ⟨by rfl, fun w' h' => ?_⟩) hS ?_
    · have c0 := PdAt.id h'
      clear h'
      go_simp
    simp only [Act.put]
    refine wpAnyH_take (i := 13) (oi := ⟨some 26, Op.move (Operand.tmp 3), _, _, _, none⟩) (v := (.int .i64 P)) rfl (by kernel_rfl) (by kernel_rfl) (by kernel_rfl) (fun _ _ _ h => h) (Or.inl ⟨by rfl, fun w' h' => ?_⟩) hS ?_
    · clear h'
      go_simp
    simp only [Act.put]
    refine wpAnyH_take (i := 16) (oi := ⟨some 29, Op.fieldAddr 35 (Operand.tmp 1) 4, _, _, _, none⟩) (v := (.pointer (some ⟨w.heap.size, 10, none⟩))) rfl (by kernel_rfl) (by kernel_rfl) (by kernel_rfl) (fun _ _ _ h => h) (Or.inl ⟨by rfl, fun w' h' => ?_⟩) hS ?_
    · clear h'
      go_simp
    simp only [Act.put]
    refine wpAnyH_take (i := 17) (oi := ⟨some 30, Op.load 3 (Operand.tmp 29), _, _, _, none⟩) (v := (.int .i64 f.tl)) rfl (by kernel_rfl) (by kernel_rfl) (by kernel_rfl) (fun _ _ _ h => h) (Or.inl ⟨by rfl, fun w' h' => ?_⟩) hS ?_
    · have c0 := PdAt.tl h'
      clear h'
      go_simp
    simp only [Act.put]
    refine wpAnyH_take (i := 20) (oi := ⟨some 33, Op.fieldAddr 35 (Operand.tmp 1) 3, _, _, _, none⟩) (v := (.pointer (some ⟨w.heap.size, 9, none⟩))) rfl (by kernel_rfl) (by kernel_rfl) (by kernel_rfl) (fun _ _ _ h => h) (Or.inl ⟨by rfl, fun w' h' => ?_⟩) hS ?_
    · clear h'
      go_simp
    simp only [Act.put]
    refine wpAnyH_take (i := 21) (oi := ⟨some 34, Op.load 3 (Operand.tmp 33), _, _, _, none⟩) (v := (.int .i64 f.pr)) rfl (by kernel_rfl) (by kernel_rfl) (by kernel_rfl) (fun _ _ _ h => h) (Or.inl ⟨by rfl, fun w' h' => ?_⟩) hS ?_
    · have c0 := PdAt.pr h'
      clear h'
      go_simp
    simp only [Act.put]
    refine wpAnyH_ready (rs := [0]) (by kernel_rfl) (by simp) ?_
    refine AllReadyH.cons rfl (fun K hK => ?_) AllReadyH.nil
    go_simp
    refine (k1.out _).mono ?_
    rintro e v1 ⟨rfl, b1⟩
    have S1 : PdAt v1 w.heap.size f := hS.grow b1
    have BV1 := bstep BV0 b1
    clear b1 BV0
    go_simp
    refine hK.out _ _ S1 (fun _ => ?_)
    clear hK K
    refine wpAnyH_ready (rs := [1]) (by kernel_rfl) (by simp) ?_
    refine AllReadyH.cons rfl (fun K hK => ?_) AllReadyH.nil
    go_simp
    refine (k2.out _).mono ?_
    rintro e v2 ⟨rfl, b2⟩
    have S2 : PdAt v2 w.heap.size f := S1.grow b2
    have BV2 := bstep BV1 b2
    clear b2 BV1
    go_simp
    refine hK.out _ _ S2 (fun _ => ?_)
    clear hK K
    refine wpAnyH_take (i := 2) (oi := ⟨some 15, Op.binOp BinOp.add 9 (Operand.tmp 13) (Operand.tmp 14) 9, _, _, _, none⟩) (v := (.string ⟨L2.toArray⟩)) rfl (by kernel_rfl) (by kernel_rfl) (by kernel_rfl) (fun _ _ _ h => h) (Or.inl ⟨by rfl, fun w' h' => ?_⟩) S2 ?_
    · have c0 := C2.out w'
      clear h'
      go_simp
    simp only [Act.put]
    refine wpAnyH_ready (rs := [7]) (by kernel_rfl) (by simp) ?_
    refine AllReadyH.cons rfl (fun K hK => ?_) AllReadyH.nil
    go_simp
    refine (k3.out _).mono ?_
    rintro e v3 ⟨rfl, b3⟩
    have S3 : PdAt v3 w.heap.size f := S2.grow b3
    have BV3 := bstep BV2 b3
    clear b3 BV2
    go_simp
    refine hK.out _ _ S3 (fun _ => ?_)
    clear hK K
    refine wpAnyH_take (i := 8) (oi := ⟨some 21, Op.binOp BinOp.add 9 (Operand.tmp 15) (Operand.tmp 20) 9, _, _, _, none⟩) (v := (.string ⟨L3.toArray⟩)) rfl (by kernel_rfl) (by kernel_rfl) (by kernel_rfl) (fun _ _ _ h => h) (Or.inl ⟨by rfl, fun w' h' => ?_⟩) S3 ?_
    · have c0 := C3.out w'
      clear h'
      go_simp
    simp only [Act.put]
    refine wpAnyH_ready (rs := [11]) (by kernel_rfl) (by simp) ?_
    refine AllReadyH.cons rfl (fun K hK => ?_) AllReadyH.nil
    go_simp
    refine (k4.out _).mono ?_
    rintro e v4 ⟨rfl, b4⟩
    have S4 : PdAt v4 w.heap.size f := S3.grow b4
    have BV4 := bstep BV3 b4
    clear b4 BV3
    go_simp
    refine hK.out _ _ S4 (fun _ => ?_)
    clear hK K
    refine wpAnyH_take (i := 12) (oi := ⟨some 25, Op.binOp BinOp.add 9 (Operand.tmp 21) (Operand.tmp 24) 9, _, _, _, none⟩) (v := (.string ⟨L4.toArray⟩)) rfl (by kernel_rfl) (by kernel_rfl) (by kernel_rfl) (fun _ _ _ h => h) (Or.inl ⟨by rfl, fun w' h' => ?_⟩) S4 ?_
    · have c0 := C4.out w'
      clear h'
      go_simp
    simp only [Act.put]
    refine wpAnyH_ready (rs := [14]) (by kernel_rfl) (by simp) ?_
    refine AllReadyH.cons rfl (fun K hK => ?_) AllReadyH.nil
    go_simp
    refine (k5.out _).mono ?_
    rintro e v5 ⟨rfl, b5⟩
    have S5 : PdAt v5 w.heap.size f := S4.grow b5
    have BV5 := bstep BV4 b5
    clear b5 BV4
    go_simp
    refine hK.out _ _ S5 (fun _ => ?_)
    clear hK K
    refine wpAnyH_take (i := 15) (oi := ⟨some 28, Op.binOp BinOp.add 9 (Operand.tmp 25) (Operand.tmp 27) 9, _, _, _, none⟩) (v := (.string ⟨L5.toArray⟩)) rfl (by kernel_rfl) (by kernel_rfl) (by kernel_rfl) (fun _ _ _ h => h) (Or.inl ⟨by rfl, fun w' h' => ?_⟩) S5 ?_
    · have c0 := C5.out w'
      clear h'
      go_simp
    simp only [Act.put]
    refine wpAnyH_ready (rs := [18]) (by kernel_rfl) (by simp) ?_
    refine AllReadyH.cons rfl (fun K hK => ?_) AllReadyH.nil
    go_simp
    refine (k6.out _).mono ?_
    rintro e v6 ⟨rfl, b6⟩
    have S6 : PdAt v6 w.heap.size f := S5.grow b6
    have BV6 := bstep BV5 b6
    clear b6 BV5
    go_simp
    refine hK.out _ _ S6 (fun _ => ?_)
    clear hK K
    refine wpAnyH_take (i := 19) (oi := ⟨some 32, Op.binOp BinOp.add 9 (Operand.tmp 28) (Operand.tmp 31) 9, _, _, _, none⟩) (v := (.string ⟨L6.toArray⟩)) rfl (by kernel_rfl) (by kernel_rfl) (by kernel_rfl) (fun _ _ _ h => h) (Or.inl ⟨by rfl, fun w' h' => ?_⟩) S6 ?_
    · have c0 := C6.out w'
      clear h'
      go_simp
    simp only [Act.put]
    refine wpAnyH_ready (rs := [22]) (by kernel_rfl) (by simp) ?_
    refine AllReadyH.cons rfl (fun K hK => ?_) AllReadyH.nil
    go_simp
    refine (k7.out _).mono ?_
    rintro e v7 ⟨rfl, b7⟩
    have S7 : PdAt v7 w.heap.size f := S6.grow b7
    have BV7 := bstep BV6 b7
    clear b7 BV6
    go_simp
    refine hK.out _ _ S7 (fun _ => ?_)
    clear hK K
    refine wpAnyH_take (i := 23) (oi := ⟨some 36, Op.binOp BinOp.add 9 (Operand.tmp 32) (Operand.tmp 35) 9, _, _, _, none⟩) (v := (.string ⟨L7.toArray⟩)) rfl (by kernel_rfl) (by kernel_rfl) (by kernel_rfl) (fun _ _ _ h => h) (Or.inl ⟨by rfl, fun w' h' => ?_⟩) S7 ?_
    · have c0 := C7.out w'
      clear h'
      go_simp
    simp only [Act.put]
    refine wpAnyH_take (i := 24) (oi := ⟨some 4, Op.assign (Operand.tmp 36), _, _, _, none⟩) (v := (.string ⟨L7.toArray⟩)) rfl (by kernel_rfl) (by kernel_rfl) (by kernel_rfl) (fun _ _ _ h => h) (Or.inl ⟨by rfl, fun w' h' => ?_⟩) S7 ?_
    · clear h'
      go_simp
    simp only [Act.put]
    refine wpAnyH_done (by kernel_rfl) (NoPanic.normal ?_) _
    simp only [List.setIfInBounds_toArray, List.set_cons_zero, List.set_cons_succ]
    clear S1 S2 S3 S4 S5 S6
    clear FA hS
    go_upto_region 5 with fail
    refine wp_region_noPanic ?_
    refine region_heldE (S := fun w' => PdAt w' w.heap.size f) (by kernel_rfl) (fun V d => (d.block _).trans S7) (fun X d hX => ?_)
    have BX := bstep BV7 d.below
    clear d BV7
    refine wpAnyH_take (i := 0) (oi := ⟨some 37, Op.fieldAddr 35 (Operand.tmp 1) 1, _, _, _, none⟩) (v := (.pointer (some ⟨w.heap.size, 1, none⟩))) rfl (by kernel_rfl) (by kernel_rfl) (by kernel_rfl) (fun _ _ _ h => h) (Or.inl ⟨by rfl, fun w' h' => ?_⟩) hX ?_
    · clear h'
      go_simp
    simp only [Act.put]
    refine wpAnyH_take (i := 1) (oi := ⟨some 38, Op.slice 33 (Operand.tmp 37) none none none, _, _, _, none⟩) (v := (.slice (some ⟨w.heap.size, 1, none⟩) 4 4)) rfl (by kernel_rfl) (by kernel_rfl) (by kernel_rfl) (fun _ _ _ h => h) (Or.inl ⟨by rfl, fun w' h' => ?_⟩) hX ?_
    · clear h'
      go_simp
    simp only [Act.put]
    refine wpAnyH_take (i := 2) (oi := ⟨some 39, Op.convert 61 9 (Operand.tmp 38), _, _, _, none⟩) (v := (.string ⟨(f.sr.list).toArray⟩)) rfl (by kernel_rfl) (by kernel_rfl) (by kernel_rfl) (fun _ _ _ h => h) (Or.inl ⟨by rfl, fun w' h' => ?_⟩) hX ?_
    · have c0 := conv_text w' w.heap.size 1 4 4 _ (ip_len f.sr) (PdAt.sr h')
      clear h'
      go_simp
    simp only [Act.put]
    refine wpAnyH_take (i := 3) (oi := ⟨some 40, Op.fieldAddr 35 (Operand.tmp 1) 2, _, _, _, none⟩) (v := (.pointer (some ⟨w.heap.size, 5, none⟩))) rfl (by kernel_rfl) (by kernel_rfl) (by kernel_rfl) (fun _ _ _ h => h) (Or.inl ⟨by rfl, fun w' h' => ?_⟩) hX ?_
    · clear h'
      go_simp
    simp only [Act.put]
    refine wpAnyH_take (i := 4) (oi := ⟨some 41, Op.slice 33 (Operand.tmp 40) none none none, _, _, _, none⟩) (v := (.slice (some ⟨w.heap.size, 5, none⟩) 4 4)) rfl (by kernel_rfl) (by kernel_rfl) (by kernel_rfl) (fun _ _ _ h => h) (Or.inl ⟨by rfl, fun w' h' => ?_⟩) hX ?_
    · clear h'
      go_simp
    simp only [Act.put]
    refine wpAnyH_take (i := 5) (oi := ⟨some 42, Op.convert 61 9 (Operand.tmp 41), _, _, _, none⟩) (v := (.string ⟨(f.ds.list).toArray⟩)) rfl (by kernel_rfl) (by kernel_rfl) (by kernel_rfl) (fun _ _ _ h => h) (Or.inl ⟨by rfl, fun w' h' => ?_⟩) hX ?_
    · have c0 := conv_text w' w.heap.size 5 4 4 _ (ip_len f.ds) (PdAt.ds h')
      clear h'
      go_simp
    simp only [Act.put]
    refine wpAnyH_take (i := 6) (oi := ⟨some 43, Op.binOp BinOp.add 9 (Operand.tmp 39) (Operand.tmp 42) 9, _, _, _, none⟩) (v := (.string ⟨BH.toArray⟩)) rfl (by kernel_rfl) (by kernel_rfl) (by kernel_rfl) (fun _ _ _ h => h) (Or.inl ⟨by rfl, fun w' h' => ?_⟩) hX ?_
    · have c0 := CB.out w'
      clear h'
      go_simp
    simp only [Act.put]
    refine wpAnyH_take (i := 7) (oi := ⟨some 5, Op.assign (Operand.tmp 43), _, _, _, none⟩) (v := (.string ⟨BH.toArray⟩)) rfl (by kernel_rfl) (by kernel_rfl) (by kernel_rfl) (fun _ _ _ h => h) (Or.inl ⟨by rfl, fun w' h' => ?_⟩) hX ?_
    · clear h'
      go_simp
    simp only [Act.put]
    refine wpAnyH_done (by kernel_rfl) (NoPanic.normal ?_) _
    simp only [List.setIfInBounds_toArray, List.set_cons_zero, List.set_cons_succ]
    have BV7 := BX
    clear BX hX S7
    go_wp2_with fail
    refine (k8.out _).mono ?_
    rintro e u1 ⟨rfl, g1⟩
    have G1 := bstep BV7 g1
    have q1 := D1.out u1
    have q2 := D2.out u1
    go_wp2_with fail
    refine (k9.out _).mono ?_
    rintro e u2 ⟨rfl, g2⟩
    have G2 := bstep G1 g2
    clear q1 q2
    go_wp2_with fail
    refine (k10.out _).mono ?_
    rintro e u3 ⟨rfl, g3⟩
    have G3 := bstep G2 g3
    have q3 := D3.out u3
    have q4 := D4.out u3
    go_wp2_with fail
    go_ret
    exact ⟨rfl, G3.out⟩

end Go.Proofs.Ytbjoibgkhooljaa
