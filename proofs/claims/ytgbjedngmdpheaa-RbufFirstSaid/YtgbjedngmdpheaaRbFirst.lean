/-
  RbufFirst: another byte of the same number changes nothing; what lies outside of the window is let go. Conditions: none beyond the kinds of the arguments.
-/
import Derived.Test.YtgbjedngmdpheaaRbI
import Derived.Test.YtgbjedngmdpheaaRbH
import Derived.ProofKit
import Derived.OpenShut
import Derived.ShutString
import Derived.ChangeOld
import Derived.Below
namespace Go.Proofs.Ytgbjedngmdpheaa.rbf
open Go.ChangeShapes Go.WideShapes Go.ChangeAt Go.RowKit
open Go.ChangeMaps (open_string shut_string)
set_option linter.unusedVariables false

theorem own : ownKnob Try.prog.godebug = none := by kernel_rfl
set_option maxRecDepth 100000 in
set_option maxHeartbeats 8000000 in
theorem walk_a (nx rm : Int) (A B : ByteArray) (t : Int) (h : 300 < A.size) (w : World) :
    Calls Try.prog 7 #[.int .u32 nx, .int .u16 rm, .string A, .string B, .int .u16 t] w fun e w' => e = .returned (.bool true) ∧ Below w.heap.size w w' := by
  have q : decide (300 < (A.size : Int)) = true := decide_eq_true (by omega)
  clear h
  go_enter Try.func7, Try.ntmps7
  go_wp2_with fail
  refine (awakeR _).mono ?_
  rintro e w2 ⟨rfl, bl⟩
  go_wp2_with fail
  go_ret
  exact ⟨rfl, bl⟩
set_option maxRecDepth 100000 in
set_option maxHeartbeats 8000000 in
theorem walk_b (nx rm : Int) (A B : ByteArray) (t : Int) (h : A.size ≤ 300 ∧ 300 < B.size) (w : World) :
    Calls Try.prog 7 #[.int .u32 nx, .int .u16 rm, .string A, .string B, .int .u16 t] w fun e w' => e = .returned (.bool true) ∧ Below w.heap.size w w' := by
  have q : decide (300 < (A.size : Int)) = false := decide_eq_false (by omega)
  have q2 : decide (300 < (B.size : Int)) = true := decide_eq_true (by omega)
  clear h
  go_enter Try.func7, Try.ntmps7
  go_wp2_with fail
  refine (awakeR _).mono ?_
  rintro e w2 ⟨rfl, bl⟩
  go_wp2_with fail
  go_ret
  exact ⟨rfl, bl⟩
theorem first_nums (al bl m h1 h2 : Nat) (l1 : h1 = min al m) (l2 : h2 = min m (h1 + (bl - h1))) : min (al : Int) (m : Int) = (h1 : Int) ∧ max (h1 : Int) (min (bl : Int) (m : Int)) = (h2 : Int) ∧ h1 ≤ h2 ∧ h2 ≤ m ∧ h1 ≤ al := by
  refine ⟨by omega, by omega, by omega, by omega, by omega⟩
theorem extract_list (S : ByteArray) (l : List UInt8) (h : S.data.toList = l) (a b : Nat) : (S.extract a b).data.toList = (l.take b).drop a := by
  rw [ByteArray.data_extract, Array.toList_extract, h, List.extract_eq_take_drop, List.drop_take]
theorem eq_of_lists {X Y : ByteArray} (h : X.data.toList = Y.data.toList) : (X.toList == Y.toList) = true := by
  obtain ⟨x⟩ := X
  obtain ⟨y⟩ := Y
  have : x = y := Array.ext' h
  subst this
  simp
set_option maxRecDepth 100000 in
set_option maxHeartbeats 8000000 in
theorem walk_main (nx rm : Int) (A B : ByteArray) (t : Int) (n k m : Nat) (q p : Int) (hn : 0 ≤ nx ∧ nx < 4294967296) (hq : Int.tmod rm 300 = q) (hq2 : 0 ≤ q ∧ q < 300) (hnq : (n : Int) = 1 + q) (ht : 0 ≤ t ∧ t < 65536) (hp : Int.tmod t n = p) (hp2 : 0 ≤ p ∧ p < n) (hkp : (k : Int) = 1 + p) (hm : n = k + m)
    (a b c1 c2 : List UInt8) (ha : A.data.toList = a) (hb : B.data.toList = b) (hal : a.length ≤ 300) (hbl : b.length ≤ 300) (hc1 : c1 = a.take m) (hc2 : c2 = (c1 ++ b.drop c1.length).take m) (w : World) :
    Calls Try.prog 7 #[.int .u32 nx, .int .u16 rm, .string A, .string B, .int .u16 t] w fun e w' => e = .returned (.bool true) ∧ Below w.heap.size w w' := by
  have hAs : A.size = a.length := by rw [← ha, Array.length_toList]; rfl
  have hBs : B.size = b.length := by rw [← hb, Array.length_toList]; rfl
  obtain ⟨h1, hh1⟩ : ∃ h, c1.length = h := ⟨_, rfl⟩
  obtain ⟨h2, hh2⟩ : ∃ h, c2.length = h := ⟨_, rfl⟩
  have l1 : h1 = min a.length m := by rw [← hh1, hc1, List.length_take]; omega
  have l2 : h2 = min m (h1 + (b.length - h1)) := by rw [← hh2, hc2, List.length_take, List.length_append, List.length_drop, hh1]
  obtain ⟨u3, u4, u5, u6, u7⟩ := first_nums _ _ _ _ _ l1 l2
  have U3 := Lib.hid u3
  have U4 := Lib.hid u4
  clear u3 u4
  have L1 := Lib.hid l1
  clear l1 l2
  obtain ⟨s, hs⟩ : ∃ s, (nx + k) % 4294967296 = s := ⟨_, rfl⟩
  have hs2 : 0 ≤ s ∧ s < 4294967296 := by omega
  -- the windows
  have w0 : List.replicate n (none : Option UInt8) = padW k [] m := by rw [pad_none n k (by omega), show n - k = m by omega]
  have w1 : padW k c1 m = holdW nx s a (padW k [] m) := by rw [← hs, hold_pad hn (by omega) (Nat.zero_le _) hal, hc1]; rfl
  have w2 : padW k c2 m = holdW nx s b (padW k c1 m) := by rw [← hs, hold_pad hn (by omega) (by omega) hbl, hc2]
  have w3 : (List.replicate k 0 ++ c2).map some ++ List.replicate (m - c2.length) none = holdW nx nx (List.replicate k 0) (padW k c2 m) := (hold_fill hn (by omega) (by omega)).symm
  have r3 : runW ((List.replicate k 0 ++ c2).map some ++ List.replicate (m - c2.length) none) = k + h2 := by rw [runW_somes, List.length_append, List.length_replicate, hh2]
  have g3 : ([] : List UInt8) ++ gotW ((List.replicate k 0 ++ c2).map some ++ List.replicate (m - c2.length) none) = List.replicate k 0 ++ c2 := by rw [gotW_somes]; rfl
  have p1 := padW_run (m := m) (c := c1) (show 1 ≤ k by omega)
  have p2 := padW_run (m := m) (c := c2) (show 1 ≤ k by omega)
  have p3 : ([] : List UInt8) = [] ++ gotW (padW k c1 m) := by rw [padW_got (by omega)]; rfl
  have p4 : ([] : List UInt8) = [] ++ gotW (padW k c2 m) := by rw [padW_got (by omega)]; rfl
  have p5 : heldW (padW k c1 m) = h1 := by rw [padW_held, hh1]
  have p6 : heldW (padW k c2 m) = h2 := by rw [padW_held, hh2]
  have tA : A.data.toList.take 65536 = a := by rw [ha, List.take_of_length_le (by omega)]
  have tB : B.data.toList.take 65536 = b := by rw [hb, List.take_of_length_le (by omega)]
  have n0 : nx = (nx + (0 : Nat)) % 4294967296 := by omega
  obtain ⟨S, hS⟩ : ∃ S : ByteArray, S = ⟨(List.replicate k 0 ++ c2).toArray⟩ := ⟨_, rfl⟩
  have hSl : S.data.toList = List.replicate k 0 ++ c2 := by rw [hS]
  have hSs : S.size = k + h2 := by rw [← hh2]; show S.data.size = _; rw [← Array.length_toList, hSl]; simp
  have EQ : Hid (((S.extract k (k + h1)).toList == (A.extract 0 h1).toList) = true) := Lib.hid (eq_of_lists (by
    rw [extract_list S _ hSl, extract_list A _ ha, List.take_append, List.length_replicate, List.drop_append, List.length_take, List.length_replicate, List.drop_eq_nil_of_le (by simp)]
    have e1 : c2.take h1 = c1 := by
      rw [hc2, List.take_take, Nat.min_eq_left (by omega), ← hh1, List.take_left']
      rfl
    have e2 : a.take h1 = c1 := by
      rw [hc1, L1.out]
      by_cases hc : a.length ≤ m
      · rw [Nat.min_eq_left hc, List.take_of_length_le (Nat.le_refl _), List.take_of_length_le hc]
      · rw [Nat.min_eq_right (by omega)]
    simp only [Nat.add_sub_cancel_left, List.nil_append, List.drop_zero]
    rw [show k - min (k + h1) k = 0 by omega, List.drop_zero, e1, e2]))
  -- the numbers
  have x1 : IntKind.u16.wrap q = q := by rw [IntKind.wrap_u16]; omega
  have x2 : IntKind.i64.wrap q = q := IntWalk.i64_in _ (by omega)
  have x3 : IntKind.i64.wrap (1 + q) = (n : Int) := by rw [IntWalk.i64_in _ (by omega)]; omega
  have x4 : IntKind.i64.wrap t = t := IntWalk.i64_in _ (by omega)
  have x5 : IntKind.i64.wrap p = p := IntWalk.i64_in _ (by omega)
  have x6 : IntKind.i64.wrap (1 + p) = (k : Int) := by rw [IntWalk.i64_in _ (by omega)]; omega
  have x7 : ¬ (n : Int) = 0 := by omega
  have x8 : IntKind.u32.wrap (k : Int) = (k : Int) := by rw [IntKind.wrap_u32]; omega
  have x9 : IntKind.u32.wrap (nx + k) = s := by rw [IntKind.wrap_u32, hs]
  have y1 : IntKind.i64.wrap ((n : Int) - k) = (m : Int) := by rw [IntWalk.i64_in _ (by omega)]; omega
  have y6 : decide ((S.size : Int) < (k : Int)) = false := decide_eq_false (by omega)
  have y7 : IntKind.i64.wrap ((k : Int) + h1) = ((k + h1 : Nat) : Int) := by rw [IntWalk.i64_in _ (by omega)]; omega
  have y8 : decide ((S.size : Int) < ((k + h1 : Nat) : Int)) = false := decide_eq_false (by omega)
  have y9 : decide ((n : Int) < (k : Int)) = false := decide_eq_false (by omega)
  have q1 : decide (300 < (A.size : Int)) = false := decide_eq_false (by omega)
  have q2 : decide (300 < (B.size : Int)) = false := decide_eq_false (by omega)
  have y2 : max (m : Int) 0 = (m : Int) := Int.max_eq_left (by omega)
  have y5 : min (k : Int) (n : Int) = (k : Int) := Int.min_eq_left (by omega)
  have y3 : min (A.size : Int) (m : Int) = (h1 : Int) := by rw [hAs]; exact U3.out
  obtain ⟨z, hz⟩ : ∃ z, min (B.size : Int) (m : Int) = z := ⟨_, rfl⟩
  have y4 : max (h1 : Int) z = (h2 : Int) := by rw [← hz, hBs]; exact U4.out
  have HMM := Lib.hid (And.intro y2 (And.intro y5 (And.intro y3 (And.intro hz y4))))
  clear y2 y5 y3 hz y4
  have z1 : ((k : Nat) : Int) ≤ ((k + h1 : Nat) : Int) := by omega
  have z2 : ((k + h1 : Nat) : Int) ≤ (S.size : Int) := by omega
  have z3 : (0 : Int) ≤ (k : Int) := by omega
  have z4 : (0 : Int) ≤ (h1 : Int) := by omega
  have z5 : (h1 : Int) ≤ (A.size : Int) := by omega
  have HK : Hid (1 ≤ k ∧ k + m = n ∧ n ≤ 300 ∧ h2 ≤ m) := Lib.hid ⟨by omega, by omega, by omega, by omega⟩
  have HN := Lib.hid hn
  have HS2 := Lib.hid hs2
  have W0 := Lib.hid w0
  have W1 := Lib.hid w1
  have W2 := Lib.hid w2
  have W3 := Lib.hid w3
  have R3 := Lib.hid r3
  have G3 := Lib.hid g3
  have P1 := Lib.hid p1
  have P2 := Lib.hid p2
  have P3 := Lib.hid p3
  have P4 := Lib.hid p4
  have P5 := Lib.hid p5
  have P6 := Lib.hid p6
  have TA := Lib.hid tA
  have TB := Lib.hid tB
  have N0 := Lib.hid n0
  have HS := Lib.hid hS
  have HL2 := Lib.hid hh2
  obtain ⟨y2, y5, y3, hz, y4⟩ := HMM.out
  clear HMM U3 U4 L1 u5 u6 u7
  clear hAs hBs hh1 hh2 hs hs2 w0 w1 w2 w3 r3 g3 p1 p2 p3 p4 p5 p6 tA tB n0 hS hSl hSs hnq hkp hm ha hb hal hbl hc1 hc2 hn hq2 ht hp2
  go_enter Try.func7, Try.ntmps7
  go_wp2_with fail
  refine (awakeR _).mono ?_
  rintro e w2 ⟨rfl, bl⟩
  have BL0 := Lib.hid bl
  clear bl
  go_wp2_with fail
  refine (sNew _ nx n (by have := HK.out; omega) (by have := HK.out; omega) HN.out.1 HN.out.2).mono ?_
  rintro e w3 ⟨g, gb, rfl, h⟩
  rw [W0.out] at h
  have H0 := Lib.hid h
  clear h
  go_wp2_with fail
  refine (sPut H0.out s HS2.out A a TA.out (padW k c1 m) W1.out 0 P1.out nx N0.out [] P3.out (padW k c1 m) rfl).mono ?_
  rintro e w4 ⟨rfl, h⟩
  have H1 := Lib.hid h
  clear h H0
  go_wp2_with fail
  refine (sHeld H1.out h1 (by rw [P5.out])).mono ?_
  rintro e w5 ⟨rfl, h⟩
  have H2 := Lib.hid h
  clear h H1
  go_wp2_with fail
  refine (sPut H2.out s HS2.out B b TB.out (padW k c2 m) W2.out 0 P2.out nx N0.out [] P4.out (padW k c2 m) rfl).mono ?_
  rintro e w6 ⟨rfl, h⟩
  have H3 := Lib.hid h
  clear h H2
  go_wp2_with fail
  refine (sHeld H3.out h2 (by rw [P6.out])).mono ?_
  rintro e w7 ⟨rfl, h⟩
  have H4 := Lib.hid h
  clear h H3
  have mk := make_fill [] k (by have := HK.out; omega) w7
  have hbk := heap_alloc_new w7 (.cells (fillR [] 0 k).toArray 5)
  have efr : fillR [] 0 k = (List.replicate k (0 : UInt8)).map (fun b => Value.int .u8 (b.toNat : Int)) := by simp [fillR]
  rw [efr] at mk hbk
  have hcv := conv_bytesR (w7.alloc (.cells ((List.replicate k (0 : UInt8)).map (fun b => Value.int .u8 (b.toNat : Int))).toArray 5)) w7.heap.size k (List.replicate k 0) List.length_replicate hbk
  have H5 := Lib.hid (H4.out.grow ((Below.refl _ _).alloc (Nat.le_refl _) (.cells ((List.replicate k (0 : UInt8)).map (fun b => Value.int .u8 (b.toNat : Int))).toArray 5)))
  clear efr hbk H4
  generalize (w7.alloc (.cells ((List.replicate k (0 : UInt8)).map (fun b => Value.int .u8 (b.toNat : Int))).toArray 5)) = w8 at mk hcv H5
  have TF : Hid ((⟨(List.replicate k (0 : UInt8)).toArray⟩ : ByteArray).data.toList.take 65536 = List.replicate k 0) := Lib.hid (List.take_of_length_le (by have := HK.out; simp; omega))
  generalize (⟨(List.replicate k (0 : UInt8)).toArray⟩ : ByteArray) = F at hcv TF
  go_wp2_with fail
  refine (sPut H5.out nx HN.out F (List.replicate k 0) TF.out _ W3.out (k + h2) R3.out _ rfl (List.replicate k 0 ++ c2) G3.out.symm _ rfl).mono ?_
  rintro e w9 ⟨rfl, h⟩
  have H6 := Lib.hid h
  clear h H5
  go_wp2_with fail
  refine (sRead H6.out 3000 (k + h2) (by have := HK.out; rw [List.length_append, List.length_replicate, HL2.out, Int.min_eq_right (by omega), Int.max_eq_right (by omega)]) S (by rw [HS.out, List.take_of_length_le (by rw [List.length_append, List.length_replicate, HL2.out]; omega)]) _ rfl _ rfl).mono ?_
  rintro e w10 ⟨rfl, h⟩
  have H7 := Lib.hid h
  clear h H6
  by_cases hz0 : h1 = 0
  · have z6 : ((h1 : Int) == 0) = true := by rw [hz0]; rfl
    clear hz0
    go_upto_region 22 with fail
    have y9 : decide (n < k) = false := decide_eq_false (by have := HK.out; omega)
    go_quiet (fail)
    go_wp2_with fail
    go_ret
    exact ⟨rfl, below_drewN (BL0.out.trans (H7.out.bl.mono BL0.out.size)) _⟩
  · have z6 : ((h1 : Int) == 0) = false := beq_eq_false_iff_ne.2 (by omega)
    go_upto_region 22 with fail
    have y9 : decide (n < k) = false := decide_eq_false (by have := HK.out; omega)
    go_quiet (fail)
    go_wp2_with fail
    go_ret
    exact ⟨by show Ending.returned (.bool ((S.extract k (k + h1)).toList == (A.extract 0 h1).toList)) = _; rw [EQ.out], below_drewN (BL0.out.trans (H7.out.bl.mono BL0.out.size)) _⟩
theorem walk (a0 a1 : Int) (a2 a3 : ByteArray) (a4 : Int) (w0 : (Lit.int .u32 a0).wf = true) (w1 : (Lit.int .u16 a1).wf = true) (w2 : a2.size ≤ maxLen) (w3 : a3.size ≤ maxLen) (w4 : (Lit.int .u16 a4).wf = true) (w : World) :
    Calls Try.prog 7 #[.int .u32 a0, .int .u16 a1, .string a2, .string a3, .int .u16 a4] w fun e w' => e = .returned (.bool true) ∧ Below w.heap.size w w' := by
  have b0 := sq_u32 w0
  have b1 := wf_u16 w1
  have b4 := wf_u16 w4
  by_cases h2 : 300 < a2.size
  · exact walk_a a0 a1 a2 a3 a4 h2 w
  by_cases h3 : 300 < a3.size
  · exact walk_b a0 a1 a2 a3 a4 ⟨by omega, h3⟩ w
  have s2 : a2.data.toList.length = a2.size := by rw [Array.length_toList]; rfl
  have s3 : a3.data.toList.length = a3.size := by rw [Array.length_toList]; rfl
  have hq : Int.tmod a1 300 = a1 % 300 := Int.tmod_eq_emod_of_nonneg b1.1
  obtain ⟨n, hn⟩ : ∃ n : Nat, (n : Int) = 1 + a1 % 300 := ⟨(1 + a1 % 300).toNat, by omega⟩
  have hp : Int.tmod a4 n = a4 % n := Int.tmod_eq_emod_of_nonneg b4.1
  have hp2 : 0 ≤ a4 % (n : Int) ∧ a4 % (n : Int) < n := ⟨Int.emod_nonneg _ (by omega), Int.emod_lt_of_pos _ (by omega)⟩
  obtain ⟨k, hk⟩ : ∃ k : Nat, (k : Int) = 1 + a4 % n := ⟨(1 + a4 % n).toNat, by omega⟩
  exact walk_main a0 a1 a2 a3 a4 n k (n - k) _ _ b0 hq (by omega) hn b4 hp hp2 hk (by omega) _ _ _ _ rfl rfl (by omega) (by omega) rfl rfl w
set_option maxRecDepth 100000 in
theorem lifted (os : Os) (started : os.Started) (H : Type) (enc : TypeId × Value → H) :
    ReturnsInHanded {} Try.checked os 7 .any (Rows.rbufFirstSpec.pre6 enc Try.prog Try.f7 Rows.rbufFirstRow.domain false) (Rows.rbufFirstSpec.post enc Try.prog Try.f7 false true false false) := by
  refine returnsInHanded_of_change (C := Try.checked) own started (by kernel_rfl) Try.func7
    (ChangeSpec.witness6 (enc := enc) (C := Try.checked) false ⟨#[], #[.int .u32 0, .int .u16 0, .string ByteArray.empty, .string ByteArray.empty, .int .u16 0], []⟩ 8 (by kernel_rfl) (by kernel_rfl) (by kernel_rfl) (by kernel_rfl)) ?_
  intro W base args ds gs before hval0 hW hcnd _
  have hval : ∀ (j : Nat) t v, Try.f7.params[j]? = some t → args[j]? = some v → Value.okWide Try.prog W .any base t v := hval0
  have hW' := hW
  obtain ⟨p, q, hA0, hV, rfl, hfz, hnd⟩ := hW
  have hA : DataW.TrodAll enc Try.prog W 0 (fun _ => true) true Try.f7.params.toList args.toList ds p := hA0
  rw [Try.params7] at hA hval
  obtain ⟨v0, vs0, d0, ds0, p0, q0, hargs, rfl, rfl, h0, r0⟩ := trodAll_cons hA
  obtain ⟨v1, vs1, d1, ds1, p1, q1, rfl, rfl, rfl, h1, r1⟩ := trodAll_cons r0
  obtain ⟨v2, vs2, d2, ds2, p2, q2, rfl, rfl, rfl, h2, r2⟩ := trodAll_cons r1
  obtain ⟨v3, vs3, d3, ds3, p3, q3, rfl, rfl, rfl, h3, r3⟩ := trodAll_cons r2
  obtain ⟨v4, vs4, d4, ds4, p4, q4, rfl, rfl, rfl, h4, r4⟩ := trodAll_cons r3
  obtain ⟨rfl, rfl, rfl⟩ := trodAll_nil r4
  obtain rfl : args = #[v0, v1, v2, v3, v4] := by cases args; simp_all
  obtain ⟨rfl, rfl⟩ := trodVars_none hV
  obtain ⟨a0, rfl, rfl, rfl, w0⟩ := open_int Try.underlying26 (hval 0 26 v0 rfl rfl) h0
  obtain ⟨a1, rfl, rfl, rfl, w1⟩ := open_int Try.underlying48 (hval 1 48 v1 rfl rfl) h1
  obtain ⟨a2, rfl, rfl, rfl, w2⟩ := open_string Try.underlying9 (hval 2 9 v2 rfl rfl) h2
  obtain ⟨a3, rfl, rfl, rfl, w3⟩ := open_string Try.underlying9 (hval 3 9 v3 rfl rfl) h3
  obtain ⟨a4, rfl, rfl, rfl, w4⟩ := open_int Try.underlying48 (hval 4 48 v4 rfl rfl) h4
  clear hA0 hval0
  refine (walk a0 a1 a2 a3 a4 w0 w1 w2 w3 w4 W).mono fun e W' ⟨he, bel⟩ => ?_
  subst he
  exact ⟨_, rfl, _, _, _, [], _, [], hW', trodAll_mk1 (shut_bool Try.underlying4 _), (trodAll_cons_mk (shut_int Try.underlying26 w0) (trodAll_cons_mk (shut_int Try.underlying48 w1) (trodAll_cons_mk (shut_string Try.underlying9 w2) (trodAll_cons_mk (shut_string Try.underlying9 w3) (trodAll_cons_mk (shut_int Try.underlying48 w4) trodAll_mk0))))), rfl, bel.frame _, fun h => by cases h⟩

/-- THE STATEMENT. -/
theorem proved : Rows.RbufFirstSaid :=
  OpenClaim.holds_of_wide 7 Try.f7 rfl rfl rfl rfl rfl rfl rfl ⟨rfl, rfl, rfl, rfl, rfl⟩ rfl rfl rfl rfl rfl (by kernel_rfl) Try.func7 (by kernel_rfl)
    (of_decide_eq_true (by kernel_rfl)) (by unfold Func.isWrapper; first | (rw [if_pos (by decide +kernel)]; kernel_rfl) | (rw [if_neg (by decide +kernel)]; exact ⟨rfl, rfl⟩))
    (fun os started H enc _ => lifted os started H enc)
#print axioms proved

end Go.Proofs.Ytgbjedngmdpheaa.rbf
