/-
  IcmpKnown: the chapter's examples hold. A closed statement: no conditions.
-/
import Derived.Test.YtapfkhhabamndaaIcE
import Derived.Test.YtapfkhhabamndaaShelfR
import Derived.ProofKit
import Derived.OpenShut
import Derived.ShutString
import Derived.ChangeOld
import Derived.Below
namespace Go.Proofs.Ytapfkhhabamndaa.ick
open Go.ChangeShapes Go.WideShapes Go.ChangeAt Go.RowKit
open Go.ChangeMaps (open_string shut_string)
set_option linter.unusedVariables false

theorem rep_any (c : Nat) (w : World) (hc : c ≤ 1000) :
    Calls Try.prog 21 #[.string ⟨#[120]⟩, .int .i64 (c : Int)] w fun e w' => ∃ X : ByteArray, e = .returned (.string X) ∧ X.size = c ∧ Below w.heap.size w w' := by
  refine (Try.strings_Repeat ⟨#[120]⟩ c w (by omega) (by show 1 * c ≤ _; omega)).mono ?_
  rintro e w' ⟨rfl, b⟩
  refine ⟨_, rfl, ?_, b⟩
  show (Lib.repeatL [120] c).toArray.size = c
  rw [List.size_toArray, Lib.repeatL_length]
  show c * 1 = c
  omega
theorem rd9 (w : World) : Calls Try.prog 20 #[.string ((⟨#[8, 0, 143, 149, 0, 0, 0, 1, 104, 105]⟩ : ByteArray).extract 0 9)] w fun e w' => e = .returned (.tuple #[.agg (icC icZ), .int .i64 9]) ∧ Below w.heap.size w w' := by
  have h := icRead_any w ((⟨#[8, 0, 143, 149, 0, 0, 0, 1, 104, 105]⟩ : ByteArray).extract 0 9) (by decide +kernel)
  rw [show irE ((⟨#[8, 0, 143, 149, 0, 0, 0, 1, 104, 105]⟩ : ByteArray).extract 0 9) = 9 by decide +kernel, show irP ((⟨#[8, 0, 143, 149, 0, 0, 0, 1, 104, 105]⟩ : ByteArray).extract 0 9) = icZ by decide +kernel] at h
  exact h
theorem rd7 (w : World) : Calls Try.prog 20 #[.string ((⟨#[8, 0, 143, 149, 0, 0, 0, 1, 104, 105]⟩ : ByteArray).extract 0 7)] w fun e w' => e = .returned (.tuple #[.agg (icC icZ), .int .i64 7]) ∧ Below w.heap.size w w' := by
  have h := icRead_any w ((⟨#[8, 0, 143, 149, 0, 0, 0, 1, 104, 105]⟩ : ByteArray).extract 0 7) (by decide +kernel)
  rw [show irE ((⟨#[8, 0, 143, 149, 0, 0, 0, 1, 104, 105]⟩ : ByteArray).extract 0 7) = 7 by decide +kernel, show irP ((⟨#[8, 0, 143, 149, 0, 0, 0, 1, 104, 105]⟩ : ByteArray).extract 0 7) = icZ by decide +kernel] at h
  exact h
theorem quN_40 (P : ByteArray) (h : P.size = 40) (h0 : b9 P.data.toList 0 = 69) : quN P = 28 := by
  rw [quN, if_neg (by omega), h0, h]; rfl
theorem un_any (w : World) (c d : Int) (P : ByteArray) (h : P.size = 40) (h0 : b9 P.data.toList 0 = 69) (hd : c % 256 = d) : Calls Try.prog 22 #[.int .i64 c, .string P] w fun e w' => e = .returned (.agg (icC ⟨3, d, 0, P.extract 0 28⟩)) ∧ Below w.heap.size w w' := by
  have h2 := unreach_any w c P (by omega)
  rw [quC, quN_40 P h h0, hd] at h2
  exact h2
theorem un_0 (w : World) : Calls Try.prog 22 #[.int .i64 0, .string ⟨#[]⟩] w fun e w' => e = .returned (.agg (icC ⟨3, 0, 0, ⟨#[]⟩⟩)) ∧ Below w.heap.size w w' := by
  have h2 := unreach_any w 0 ⟨#[]⟩ (by decide)
  rw [show quC 0 ⟨#[]⟩ = ⟨3, 0, 0, ⟨#[]⟩⟩ by decide +kernel] at h2
  exact h2
theorem by_any (w : World) (k : Int) (X : ByteArray) (hk : 0 ≤ k ∧ k ≤ 1000) (hx : X.size ≤ 1000) (E : Int) (hE : icE ⟨k, 0, 0, X⟩ = E) : Calls Try.prog 18 #[.agg #[.int .i64 k, .int .i64 0, .int .u32 0, .string X]] w fun e w' => ∃ S, e = .returned (.tuple #[.string S, .int .i64 E]) ∧ Below w.heap.size w w' := by
  have h := icBytes_any w ⟨k, 0, 0, X⟩ ⟨Go.WalkArith.wf_i64 ⟨by show _ ≤ k; omega, by show k ≤ _; omega⟩, by show (Lit.int .i64 0).wf = true; decide, by show (Lit.int .u32 0).wf = true; decide, by show X.size ≤ maxLen; unfold maxLen; omega⟩ (by show X.size ≤ _; omega)
  rw [hE] at h
  refine h.mono ?_
  rintro e w' ⟨rfl, b⟩
  exact ⟨_, rfl, b⟩
theorem ex3 (X : ByteArray) (h : X.size = 559) : icE ⟨0, 0, 0, X⟩ = 3 := by
  rw [icE, if_neg (by show ¬ mayI ⟨0, 0, 0, X⟩ = false; simp [mayI]), if_pos (by show 558 < X.size; omega)]
theorem ex0 (X : ByteArray) (h : X.size = 558) : icE ⟨0, 0, 0, X⟩ = 0 := by
  rw [icE, if_neg (by show ¬ mayI ⟨0, 0, 0, X⟩ = false; simp [mayI]), if_neg (by show ¬ 558 < X.size; omega)]
set_option maxRecDepth 100000 in
set_option maxHeartbeats 8000000 in
theorem walk (w : World) :
    Calls Try.prog 4 #[] w fun e w' => e = .returned (.bool true) ∧ Below w.heap.size w w' := by
  go_enter Try.func4, Try.ntmps4
  go_wp2_with fail
  refine (exampleI _).mono ?_
  rintro e w1 ⟨rfl, b1⟩
  have B1 := Lib.hid b1
  clear b1
  go_wp2_with fail
  refine (exBytesI _).mono ?_
  rintro e w2 ⟨rfl, b2⟩
  have B2 := bstep B1 b2
  clear b2 B1
  go_wp2_with fail
  refine (rd9 _).mono ?_
  rintro e w3 ⟨rfl, b3⟩
  have B3 := bstep B2 b3
  clear b3
  have hst := ic_store w3 icZ
  go_upto_region 5 with (refine wpList_storeW 49 (.tmp 3) (.tmp 28) rfl rfl (.agg (icC icZ)) w3.heap.size rfl rfl hst ?_)
  try simp only [Act.put]
  have Pn3 : Hid (IcAt (w3.alloc (.cells (icC icZ) 49)) w3.heap.size icZ) := Lib.hid (ic_new _ _ _ rfl)
  have B3s := bstep B3 ((Below.refl w3.heap.size w3).alloc (Nat.le_refl _) (.cells (icC icZ) 49))
  clear hst
  obtain ⟨n3, hnn3⟩ : ∃ n, n = w3.heap.size := ⟨_, rfl⟩
  generalize w3.alloc _ = W3s at Pn3 B3s ⊢
  rw [← hnn3] at Pn3 ⊢
  clear hnn3
  clear Pn3
  go_wp2_with fail
  refine (rd7 _).mono ?_
  rintro e w4 ⟨rfl, b4⟩
  have B4 := bstep B3s b4
  clear b4
  have hst := ic_store w4 icZ
  go_upto_region 6 with (refine wpList_storeW 49 (.tmp 5) (.tmp 34) rfl rfl (.agg (icC icZ)) w4.heap.size rfl rfl hst ?_)
  try simp only [Act.put]
  have Pn5 : Hid (IcAt (w4.alloc (.cells (icC icZ) 49)) w4.heap.size icZ) := Lib.hid (ic_new _ _ _ rfl)
  have B4s := bstep B4 ((Below.refl w4.heap.size w4).alloc (Nat.le_refl _) (.cells (icC icZ) 49))
  clear hst
  obtain ⟨n5, hnn5⟩ : ∃ n, n = w4.heap.size := ⟨_, rfl⟩
  generalize w4.alloc _ = W4s at Pn5 B4s ⊢
  rw [← hnn5] at Pn5 ⊢
  clear hnn5
  clear Pn5
  go_wp2_with fail
  refine (rep_any 39 _ (by decide)).mono ?_
  rintro e w5 ⟨X, rfl, hX, b5⟩
  have B5 := bstep B4s b5
  clear b5
  have hs : ¬ 9223372036854775807 < 1 + X.size := by omega
  go_upto_region 7 with fail
  have hP : ((⟨#[69]⟩ : ByteArray) ++ X).size = 40 := by rw [ByteArray.size_append, hX]; rfl
  have hP0 : b9 ((⟨#[69]⟩ : ByteArray) ++ X).data.toList 0 = 69 := by simp [b9]
  generalize (⟨#[69]⟩ : ByteArray) ++ X = P at hP hP0 ⊢
  have HP0 := Lib.hid hP0
  have HP := Lib.hid hP
  clear hP0 hP hs hX
  go_wp2_with fail
  refine (un_any _ 2 2 P HP.out HP0.out rfl).mono ?_
  rintro e w6 ⟨rfl, b6⟩
  have B6 := bstep B5 b6
  clear b6
  obtain ⟨Q, hQ⟩ : ∃ Q : Ic, Q = ⟨3, 2, 0, P.extract 0 28⟩ := ⟨_, rfl⟩
  rw [← hQ]
  have HQ := Lib.hid hQ
  clear hQ
  have hst := ic_store w6 Q
  go_upto_region 8 with (refine wpList_storeW 49 (.tmp 8) (.tmp 39) rfl rfl (.agg (icC Q)) w6.heap.size rfl rfl hst ?_)
  try simp only [Act.put]
  have Pn8 : Hid (IcAt (w6.alloc (.cells (icC Q) 49)) w6.heap.size Q) := Lib.hid (ic_new _ _ _ rfl)
  have B6s := bstep B6 ((Below.refl w6.heap.size w6).alloc (Nat.le_refl _) (.cells (icC Q) 49))
  clear hst
  obtain ⟨n8, hnn8⟩ : ∃ n, n = w6.heap.size := ⟨_, rfl⟩
  generalize w6.alloc _ = W6s at Pn8 B6s ⊢
  rw [← hnn8] at Pn8 ⊢
  clear hnn8
  go_wp2_with fail
  refine (un_any _ (-1) 255 P HP.out HP0.out rfl).mono ?_
  rintro e w7 ⟨rfl, b7⟩
  have B7 := bstep B6s b7
  have P8 := Lib.hid (Pn8.out.grow b7)
  clear b7 Pn8
  obtain ⟨T, hT⟩ : ∃ Q : Ic, Q = ⟨3, 255, 0, P.extract 0 28⟩ := ⟨_, rfl⟩
  rw [← hT]
  have HT := Lib.hid hT
  clear hT
  have hst := ic_store w7 T
  go_upto_region 9 with (refine wpList_storeW 49 (.tmp 9) (.tmp 41) rfl rfl (.agg (icC T)) w7.heap.size rfl rfl hst ?_)
  try simp only [Act.put]
  have Pn9 : Hid (IcAt (w7.alloc (.cells (icC T) 49)) w7.heap.size T) := Lib.hid (ic_new _ _ _ rfl)
  have B7s := bstep B7 ((Below.refl w7.heap.size w7).alloc (Nat.le_refl _) (.cells (icC T) 49))
  have Q8 := Lib.hid (P8.out.grow ((Below.refl w7.heap.size w7).alloc (Nat.le_refl _) (.cells (icC T) 49)))
  clear hst P8
  obtain ⟨n9, hnn9⟩ : ∃ n, n = w7.heap.size := ⟨_, rfl⟩
  generalize w7.alloc _ = W7s at Pn9 B7s Q8 ⊢
  rw [← hnn9] at Pn9 ⊢
  clear hnn9
  go_wp2_with fail
  refine (by_any _ 256 ⟨#[]⟩ ⟨by decide, by decide⟩ (by decide) 1 (by decide +kernel)).mono ?_
  rintro e w8 ⟨S8, rfl, b8⟩
  have B8 := bstep B7s b8
  have Q8a := Lib.hid (Q8.out.grow b8)
  have Q9a := Lib.hid (Pn9.out.grow b8)
  clear b8 Q8 Pn9
  go_wp2_with fail
  refine (rep_any 559 _ (by decide)).mono ?_
  rintro e w9 ⟨X9, rfl, hX9, b9⟩
  have B9 := bstep B8 b9
  have Q8b := Lib.hid (Q8a.out.grow b9)
  have Q9b := Lib.hid (Q9a.out.grow b9)
  clear b9 Q8a Q9a
  have HX9 := Lib.hid hX9
  clear hX9
  go_wp2_with fail
  refine (by_any _ 0 X9 ⟨by decide, by decide⟩ (by rw [HX9.out]; decide) 3 (ex3 X9 HX9.out)).mono ?_
  rintro e w10 ⟨S10, rfl, b10⟩
  have B10 := bstep B9 b10
  have Q8c := Lib.hid (Q8b.out.grow b10)
  have Q9c := Lib.hid (Q9b.out.grow b10)
  clear b10 Q8b Q9b
  go_wp2_with fail
  refine (rep_any 558 _ (by decide)).mono ?_
  rintro e w11 ⟨X11, rfl, hX11, b11⟩
  have B11 := bstep B10 b11
  have Q8d := Lib.hid (Q8c.out.grow b11)
  have Q9d := Lib.hid (Q9c.out.grow b11)
  clear b11 Q8c Q9c
  have HX11 := Lib.hid hX11
  clear hX11
  go_wp2_with fail
  refine (by_any _ 0 X11 ⟨by decide, by decide⟩ (by rw [HX11.out]; decide) 0 (ex0 X11 HX11.out)).mono ?_
  rintro e w12 ⟨S12, rfl, b12⟩
  have B12 := bstep B11 b12
  have Q8e := Lib.hid (Q8d.out.grow b12)
  have Q9e := Lib.hid (Q9d.out.grow b12)
  clear b12 Q8d Q9d
  go_upto_region 12 with fail
  have hQ := HQ.out
  have hT := HT.out
  have qT : Hid ((T.co == 255) = true) := Lib.hid (by rw [hT]; rfl)
  have hQok : Q.ok := by rw [hQ]; exact ⟨by show (Lit.int .i64 3).wf = true; decide, by show (Lit.int .i64 2).wf = true; decide, by show (Lit.int .u32 0).wf = true; decide, by show (P.extract 0 28).size ≤ maxLen; rw [ByteArray.size_extract, HP.out]; decide +kernel⟩
  have hq0 := eqli Q Q hQok hQok true (decide_eq_true rfl)
  have hq1 : Hid (∀ w, (Op.equalIn 10000 49 (.agg (icC Q)) (.agg #[.int .i64 3, .int .i64 2, .int .u32 0, .string (P.extract 0 28)])).run Try.prog w = .ok true w) := Lib.hid (fun w => by
    have h := hq0 w
    rw [show icC Q = #[.int .i64 3, .int .i64 2, .int .u32 0, .string (P.extract 0 28)] by rw [hQ]; rfl] at h ⊢
    exact h)
  have hU : (⟨3, 0, 0, ⟨#[]⟩⟩ : Ic).ok := ⟨by show (Lit.int .i64 3).wf = true; decide, by show (Lit.int .i64 0).wf = true; decide, by show (Lit.int .u32 0).wf = true; decide, by show 0 ≤ maxLen; decide⟩
  have hq2 := Lib.hid (eqli _ _ hU hU true (decide_eq_true rfl))
  have h28 : Hid (¬ (P.size : Int) < 28) := Lib.hid (by rw [HP.out]; decide)
  clear hQ hT hQok hq0 hU
  refine wp_region_noPanic ?_
  refine region_heldE (S := fun w' => IcAt w' n8 Q ∧ IcAt w' n9 T) (by kernel_rfl) (fun V d => ⟨(d.block _).trans Q8e.out, (d.block _).trans Q9e.out⟩) (fun V d hS => ?_)
  have BV0 := bstep B12 d.below
  clear d
  refine wpAnyH_ready (rs := [0]) (by kernel_rfl) (by simp) ?_
  refine AllReadyH.cons rfl (fun K hK => ?_) AllReadyH.nil
  go_simp
  refine (awakeI _).mono ?_
  rintro e v1 ⟨rfl, b1⟩
  have S1 : IcAt v1 n8 Q ∧ IcAt v1 n9 T := ⟨hS.1.grow b1, hS.2.grow b1⟩
  have BV1 := bstep BV0 b1
  clear b1 BV0
  go_simp
  refine hK.out _ _ S1 (fun _ => ?_)
  clear hK K
  refine wpAnyH_take (i := 1) (oi := ⟨some 60, Op.move (Operand.tmp 59), _, _, _, none⟩) (v := (.bool true)) rfl (by kernel_rfl) (by kernel_rfl) (by kernel_rfl) (fun _ _ _ h => h) (Or.inl ⟨by rfl, fun w' h' => ?_⟩) S1 ?_
  · clear h'
    go_simp
  simp only [Act.put]
  refine wpAnyH_take (i := 2) (oi := ⟨some 61, Op.move (Operand.tmp 4), _, _, _, some (1, true)⟩) (v := (.int .i64 9)) rfl (by kernel_rfl) (by kernel_rfl) (by kernel_rfl) (fun _ _ _ h => h) (Or.inl ⟨by kernel_rfl, fun w' h' => ?_⟩) S1 ?_
  · clear h'
    go_simp
  simp only [Act.put]
  refine wpAnyH_take (i := 3) (oi := ⟨some 62, Op.binOp BinOp.eql 26 (Operand.tmp 61) (Operand.const (Value.int IntKind.i64 9)) 26, _, _, _, some (1, true)⟩) (v := (.bool true)) rfl (by kernel_rfl) (by kernel_rfl) (by kernel_rfl) (fun _ _ _ h => h) (Or.inl ⟨by kernel_rfl, fun w' h' => ?_⟩) S1 ?_
  · clear h'
    go_simp
  simp only [Act.put]
  refine wpAnyH_take (i := 4) (oi := ⟨some 63, Op.pick (Operand.tmp 60) (Operand.tmp 62) (Operand.const (Value.bool false)), _, _, _, none⟩) (v := (.bool true)) rfl (by kernel_rfl) (by kernel_rfl) (by kernel_rfl) (fun _ _ _ h => h) (Or.inl ⟨by rfl, fun w' h' => ?_⟩) S1 ?_
  · clear h'
    go_simp
  simp only [Act.put]
  refine wpAnyH_take (i := 5) (oi := ⟨some 64, Op.move (Operand.tmp 63), _, _, _, none⟩) (v := (.bool true)) rfl (by kernel_rfl) (by kernel_rfl) (by kernel_rfl) (fun _ _ _ h => h) (Or.inl ⟨by rfl, fun w' h' => ?_⟩) S1 ?_
  · clear h'
    go_simp
  simp only [Act.put]
  refine wpAnyH_take (i := 6) (oi := ⟨some 65, Op.move (Operand.tmp 6), _, _, _, some (5, true)⟩) (v := (.int .i64 7)) rfl (by kernel_rfl) (by kernel_rfl) (by kernel_rfl) (fun _ _ _ h => h) (Or.inl ⟨by kernel_rfl, fun w' h' => ?_⟩) S1 ?_
  · clear h'
    go_simp
  simp only [Act.put]
  refine wpAnyH_take (i := 7) (oi := ⟨some 66, Op.binOp BinOp.eql 26 (Operand.tmp 65) (Operand.const (Value.int IntKind.i64 7)) 26, _, _, _, some (5, true)⟩) (v := (.bool true)) rfl (by kernel_rfl) (by kernel_rfl) (by kernel_rfl) (fun _ _ _ h => h) (Or.inl ⟨by kernel_rfl, fun w' h' => ?_⟩) S1 ?_
  · clear h'
    go_simp
  simp only [Act.put]
  refine wpAnyH_take (i := 8) (oi := ⟨some 67, Op.pick (Operand.tmp 64) (Operand.tmp 66) (Operand.const (Value.bool false)), _, _, _, none⟩) (v := (.bool true)) rfl (by kernel_rfl) (by kernel_rfl) (by kernel_rfl) (fun _ _ _ h => h) (Or.inl ⟨by rfl, fun w' h' => ?_⟩) S1 ?_
  · clear h'
    go_simp
  simp only [Act.put]
  refine wpAnyH_take (i := 9) (oi := ⟨some 68, Op.move (Operand.tmp 67), _, _, _, none⟩) (v := (.bool true)) rfl (by kernel_rfl) (by kernel_rfl) (by kernel_rfl) (fun _ _ _ h => h) (Or.inl ⟨by rfl, fun w' h' => ?_⟩) S1 ?_
  · clear h'
    go_simp
  simp only [Act.put]
  refine wpAnyH_take (i := 10) (oi := ⟨some 69, Op.load 49 (Operand.tmp 8), _, _, _, some (9, true)⟩) (v := (.agg (icC Q))) rfl (by kernel_rfl) (by kernel_rfl) (by kernel_rfl) (fun _ _ _ h => h) (yields_ic (by kernel_rfl) (Operand.tmp 8) (by kernel_rfl) n8 (by kernel_rfl) Q (fun _ h => h.1)) S1 ?_
  simp only [Act.put]
  refine wpAnyH_take (i := 11) (oi := ⟨some 70, Op.move (Operand.tmp 7), _, _, _, some (9, true)⟩) (v := (.string P)) rfl (by kernel_rfl) (by kernel_rfl) (by kernel_rfl) (fun _ _ _ h => h) (Or.inl ⟨by kernel_rfl, fun w' h' => ?_⟩) S1 ?_
  · clear h'
    go_simp
  simp only [Act.put]
  refine wpAnyH_take (i := 12) (oi := ⟨some 71, Op.slice 9 (Operand.tmp 70) none (some (Operand.const (Value.int IntKind.i64 28))) none, _, _, _, some (9, true)⟩) (v := (.string (P.extract 0 28))) rfl (by kernel_rfl) (by kernel_rfl) (by kernel_rfl) (fun _ _ _ h => h) (Or.inl ⟨by kernel_rfl, fun w' h' => ?_⟩) S1 ?_
  · have c0 := h28.out
    clear h'
    go_simp
  simp only [Act.put]
  refine wpAnyH_take (i := 13) (oi := ⟨some 72, Op.build 49 #[(0, Operand.const (Value.int IntKind.i64 3)), (1, Operand.const (Value.int IntKind.i64 2)), (3, (Operand.tmp 71))], _, _, _, some (9, true)⟩) (v := (.agg #[.int .i64 3, .int .i64 2, .int .u32 0, .string (P.extract 0 28)])) rfl (by kernel_rfl) (by kernel_rfl) (by kernel_rfl) (fun _ _ _ h => h) (Or.inl ⟨by kernel_rfl, fun w' h' => ?_⟩) S1 ?_
  · clear h'
    go_simp
  simp only [Act.put]
  refine wpAnyH_take (i := 14) (oi := ⟨some 73, Op.binOp BinOp.eql 49 (Operand.tmp 69) (Operand.tmp 72) 49, _, _, _, some (9, true)⟩) (v := (.bool true)) rfl (by kernel_rfl) (by kernel_rfl) (by kernel_rfl) (fun _ _ _ h => h) (yields_eql (by kernel_rfl) 49 49 (Operand.tmp 69) (Operand.tmp 72) (by kernel_rfl) _ _ (by kernel_rfl) (by kernel_rfl) guard_ic true hq1.out) S1 ?_
  simp only [Act.put]
  refine wpAnyH_take (i := 15) (oi := ⟨some 74, Op.pick (Operand.tmp 68) (Operand.tmp 73) (Operand.const (Value.bool false)), _, _, _, none⟩) (v := (.bool true)) rfl (by kernel_rfl) (by kernel_rfl) (by kernel_rfl) (fun _ _ _ h => h) (Or.inl ⟨by rfl, fun w' h' => ?_⟩) S1 ?_
  · clear h'
    go_simp
  simp only [Act.put]
  refine wpAnyH_take (i := 16) (oi := ⟨some 75, Op.move (Operand.tmp 74), _, _, _, none⟩) (v := (.bool true)) rfl (by kernel_rfl) (by kernel_rfl) (by kernel_rfl) (fun _ _ _ h => h) (Or.inl ⟨by rfl, fun w' h' => ?_⟩) S1 ?_
  · clear h'
    go_simp
  simp only [Act.put]
  refine wpAnyH_take (i := 17) (oi := ⟨some 76, Op.fieldAddr 49 (Operand.tmp 9) 1, _, _, _, some (16, true)⟩) (v := (.pointer (some ⟨n9, 1, none⟩))) rfl (by kernel_rfl) (by kernel_rfl) (by kernel_rfl) (fun _ _ _ h => h) (Or.inl ⟨by kernel_rfl, fun w' h' => ?_⟩) S1 ?_
  · clear h'
    go_simp
  simp only [Act.put]
  refine wpAnyH_take (i := 18) (oi := ⟨some 77, Op.load 3 (Operand.tmp 76), _, _, _, some (16, true)⟩) (v := (.int .i64 T.co)) rfl (by kernel_rfl) (by kernel_rfl) (by kernel_rfl) (fun _ _ _ h => h) (Or.inl ⟨by kernel_rfl, fun w' h' => ?_⟩) S1 ?_
  · have c0 := IcAt.co h'.2
    clear h'
    go_simp
  simp only [Act.put]
  refine wpAnyH_take (i := 19) (oi := ⟨some 78, Op.binOp BinOp.eql 3 (Operand.tmp 77) (Operand.const (Value.int IntKind.i64 255)) 3, _, _, _, some (16, true)⟩) (v := (.bool true)) rfl (by kernel_rfl) (by kernel_rfl) (by kernel_rfl) (fun _ _ _ h => h) (Or.inl ⟨by kernel_rfl, fun w' h' => ?_⟩) S1 ?_
  · have c0 := qT.out
    clear h'
    go_simp
  simp only [Act.put]
  refine wpAnyH_take (i := 20) (oi := ⟨some 79, Op.pick (Operand.tmp 75) (Operand.tmp 78) (Operand.const (Value.bool false)), _, _, _, none⟩) (v := (.bool true)) rfl (by kernel_rfl) (by kernel_rfl) (by kernel_rfl) (fun _ _ _ h => h) (Or.inl ⟨by rfl, fun w' h' => ?_⟩) S1 ?_
  · clear h'
    go_simp
  simp only [Act.put]
  refine wpAnyH_take (i := 21) (oi := ⟨some 80, Op.move (Operand.tmp 79), _, _, _, none⟩) (v := (.bool true)) rfl (by kernel_rfl) (by kernel_rfl) (by kernel_rfl) (fun _ _ _ h => h) (Or.inl ⟨by rfl, fun w' h' => ?_⟩) S1 ?_
  · clear h'
    go_simp
  simp only [Act.put]
  refine wpAnyH_take (i := 22) (oi := ⟨some 81, Op.move (Operand.tmp 11), _, _, _, some (21, true)⟩) (v := (.int .i64 1)) rfl (by kernel_rfl) (by kernel_rfl) (by kernel_rfl) (fun _ _ _ h => h) (Or.inl ⟨by kernel_rfl, fun w' h' => ?_⟩) S1 ?_
  · clear h'
    go_simp
  simp only [Act.put]
  refine wpAnyH_take (i := 23) (oi := ⟨some 82, Op.binOp BinOp.eql 26 (Operand.tmp 81) (Operand.const (Value.int IntKind.i64 1)) 26, _, _, _, some (21, true)⟩) (v := (.bool true)) rfl (by kernel_rfl) (by kernel_rfl) (by kernel_rfl) (fun _ _ _ h => h) (Or.inl ⟨by kernel_rfl, fun w' h' => ?_⟩) S1 ?_
  · clear h'
    go_simp
  simp only [Act.put]
  refine wpAnyH_take (i := 24) (oi := ⟨some 83, Op.pick (Operand.tmp 80) (Operand.tmp 82) (Operand.const (Value.bool false)), _, _, _, none⟩) (v := (.bool true)) rfl (by kernel_rfl) (by kernel_rfl) (by kernel_rfl) (fun _ _ _ h => h) (Or.inl ⟨by rfl, fun w' h' => ?_⟩) S1 ?_
  · clear h'
    go_simp
  simp only [Act.put]
  refine wpAnyH_take (i := 25) (oi := ⟨some 84, Op.move (Operand.tmp 83), _, _, _, none⟩) (v := (.bool true)) rfl (by kernel_rfl) (by kernel_rfl) (by kernel_rfl) (fun _ _ _ h => h) (Or.inl ⟨by rfl, fun w' h' => ?_⟩) S1 ?_
  · clear h'
    go_simp
  simp only [Act.put]
  refine wpAnyH_take (i := 26) (oi := ⟨some 85, Op.move (Operand.tmp 13), _, _, _, some (25, true)⟩) (v := (.int .i64 3)) rfl (by kernel_rfl) (by kernel_rfl) (by kernel_rfl) (fun _ _ _ h => h) (Or.inl ⟨by kernel_rfl, fun w' h' => ?_⟩) S1 ?_
  · clear h'
    go_simp
  simp only [Act.put]
  refine wpAnyH_take (i := 27) (oi := ⟨some 86, Op.binOp BinOp.eql 26 (Operand.tmp 85) (Operand.const (Value.int IntKind.i64 3)) 26, _, _, _, some (25, true)⟩) (v := (.bool true)) rfl (by kernel_rfl) (by kernel_rfl) (by kernel_rfl) (fun _ _ _ h => h) (Or.inl ⟨by kernel_rfl, fun w' h' => ?_⟩) S1 ?_
  · clear h'
    go_simp
  simp only [Act.put]
  refine wpAnyH_take (i := 28) (oi := ⟨some 87, Op.pick (Operand.tmp 84) (Operand.tmp 86) (Operand.const (Value.bool false)), _, _, _, none⟩) (v := (.bool true)) rfl (by kernel_rfl) (by kernel_rfl) (by kernel_rfl) (fun _ _ _ h => h) (Or.inl ⟨by rfl, fun w' h' => ?_⟩) S1 ?_
  · clear h'
    go_simp
  simp only [Act.put]
  refine wpAnyH_take (i := 29) (oi := ⟨some 88, Op.move (Operand.tmp 87), _, _, _, none⟩) (v := (.bool true)) rfl (by kernel_rfl) (by kernel_rfl) (by kernel_rfl) (fun _ _ _ h => h) (Or.inl ⟨by rfl, fun w' h' => ?_⟩) S1 ?_
  · clear h'
    go_simp
  simp only [Act.put]
  refine wpAnyH_take (i := 30) (oi := ⟨some 89, Op.move (Operand.tmp 15), _, _, _, some (29, true)⟩) (v := (.int .i64 0)) rfl (by kernel_rfl) (by kernel_rfl) (by kernel_rfl) (fun _ _ _ h => h) (Or.inl ⟨by kernel_rfl, fun w' h' => ?_⟩) S1 ?_
  · clear h'
    go_simp
  simp only [Act.put]
  refine wpAnyH_take (i := 31) (oi := ⟨some 90, Op.binOp BinOp.eql 26 (Operand.tmp 89) (Operand.const (Value.int IntKind.i64 0)) 26, _, _, _, some (29, true)⟩) (v := (.bool true)) rfl (by kernel_rfl) (by kernel_rfl) (by kernel_rfl) (fun _ _ _ h => h) (Or.inl ⟨by kernel_rfl, fun w' h' => ?_⟩) S1 ?_
  · clear h'
    go_simp
  simp only [Act.put]
  refine wpAnyH_take (i := 32) (oi := ⟨some 91, Op.pick (Operand.tmp 88) (Operand.tmp 90) (Operand.const (Value.bool false)), _, _, _, none⟩) (v := (.bool true)) rfl (by kernel_rfl) (by kernel_rfl) (by kernel_rfl) (fun _ _ _ h => h) (Or.inl ⟨by rfl, fun w' h' => ?_⟩) S1 ?_
  · clear h'
    go_simp
  simp only [Act.put]
  refine wpAnyH_take (i := 33) (oi := ⟨some 92, Op.move (Operand.tmp 91), _, _, _, none⟩) (v := (.bool true)) rfl (by kernel_rfl) (by kernel_rfl) (by kernel_rfl) (fun _ _ _ h => h) (Or.inl ⟨by rfl, fun w' h' => ?_⟩) S1 ?_
  · clear h'
    go_simp
  simp only [Act.put]
  refine wpAnyH_take (i := 34) (oi := ⟨some 93, Op.pick (Operand.tmp 92) (Operand.const (Value.bool true)) (Operand.const (Value.bool false)), _, _, _, none⟩) (v := (.bool true)) rfl (by kernel_rfl) (by kernel_rfl) (by kernel_rfl) (fun _ _ _ h => h) (Or.inl ⟨by rfl, fun w' h' => ?_⟩) S1 ?_
  · clear h'
    go_simp
  simp only [Act.put]
  refine wpAnyH_take (i := 35) (oi := ⟨some 94, Op.move (Operand.tmp 93), _, _, _, none⟩) (v := (.bool true)) rfl (by kernel_rfl) (by kernel_rfl) (by kernel_rfl) (fun _ _ _ h => h) (Or.inl ⟨by rfl, fun w' h' => ?_⟩) S1 ?_
  · clear h'
    go_simp
  simp only [Act.put]
  refine wpAnyH_take (i := 37) (oi := ⟨some 96, Op.build 49 #[(0, Operand.const (Value.int IntKind.i64 3))], _, _, _, some (35, true)⟩) (v := (.agg #[.int .i64 3, .int .i64 0, .int .u32 0, .string ⟨#[]⟩])) rfl (by kernel_rfl) (by kernel_rfl) (by kernel_rfl) (fun _ _ _ h => h) (Or.inl ⟨by kernel_rfl, fun w' h' => ?_⟩) S1 ?_
  · clear h'
    go_simp
  simp only [Act.put]
  refine wpAnyH_ready (rs := [36]) (by kernel_rfl) (by simp) ?_
  refine AllReadyH.cons rfl (fun K hK => ?_) AllReadyH.nil
  go_simp
  refine (un_0 _).mono ?_
  rintro e v2 ⟨rfl, b2⟩
  have S2 : IcAt v2 n8 Q ∧ IcAt v2 n9 T := ⟨S1.1.grow b2, S1.2.grow b2⟩
  have BV2 := bstep BV1 b2
  clear b2 BV1
  go_simp
  refine hK.out _ _ S2 (fun _ => ?_)
  clear hK K
  refine wpAnyH_take (i := 38) (oi := ⟨some 97, Op.binOp BinOp.eql 49 (Operand.tmp 95) (Operand.tmp 96) 49, _, _, _, some (35, true)⟩) (v := (.bool true)) rfl (by kernel_rfl) (by kernel_rfl) (by kernel_rfl) (fun _ _ _ h => h) (yields_eql (by kernel_rfl) 49 49 (Operand.tmp 95) (Operand.tmp 96) (by kernel_rfl) (icC ⟨3, 0, 0, ⟨#[]⟩⟩) (icC ⟨3, 0, 0, ⟨#[]⟩⟩) (by kernel_rfl) (by kernel_rfl) guard_ic true hq2.out) S2 ?_
  simp only [Act.put]
  refine wpAnyH_take (i := 39) (oi := ⟨some 98, Op.pick (Operand.tmp 94) (Operand.tmp 97) (Operand.const (Value.bool false)), _, _, _, none⟩) (v := (.bool true)) rfl (by kernel_rfl) (by kernel_rfl) (by kernel_rfl) (fun _ _ _ h => h) (Or.inl ⟨by rfl, fun w' h' => ?_⟩) S2 ?_
  · clear h'
    go_simp
  simp only [Act.put]
  refine wpAnyH_take (i := 40) (oi := ⟨some 0, Op.assign (Operand.tmp 98), _, _, _, none⟩) (v := (.bool true)) rfl (by kernel_rfl) (by kernel_rfl) (by kernel_rfl) (fun _ _ _ h => h) (Or.inl ⟨by rfl, fun w' h' => ?_⟩) S2 ?_
  · clear h'
    go_simp
  simp only [Act.put]
  refine wpAnyH_done (by kernel_rfl) (NoPanic.normal ?_) _
  simp only [List.setIfInBounds_toArray, List.set_cons_zero, List.set_cons_succ]
  go_wp2
  go_ret
  exact ⟨rfl, BV2.out⟩

set_option maxRecDepth 100000 in
theorem lifted (os : Os) (started : os.Started) (H : Type) (enc : TypeId × Value → H) :
    ReturnsInHanded {} Try.checked os 4 .any (Rows.icmpKnownSpec.pre6 enc Try.prog Try.f4 Rows.icmpKnownRow.domain false) (Rows.icmpKnownSpec.post enc Try.prog Try.f4 false true false false) := by
  refine returnsInHanded_of_change (C := Try.checked) own started (by kernel_rfl) Try.func4
    (ChangeSpec.witness6 (enc := enc) (C := Try.checked) false ⟨#[], #[], []⟩ 8 (by kernel_rfl) (by kernel_rfl) (by kernel_rfl) (by kernel_rfl)) ?_
  intro W base args ds gs before hval0 hW hcnd _
  have hval : ∀ (j : Nat) t v, Try.f4.params[j]? = some t → args[j]? = some v → Value.okWide Try.prog W .any base t v := hval0
  have hW' := hW
  obtain ⟨p, q, hA0, hV, rfl, hfz, hnd⟩ := hW
  have hA : DataW.TrodAll enc Try.prog W 0 (fun _ => true) true Try.f4.params.toList args.toList ds p := hA0
  rw [Try.params4] at hA hval
  obtain ⟨rfl, rfl, rfl⟩ := trodAll_none hA
  obtain ⟨rfl, rfl⟩ := trodVars_none hV
  clear hA0 hval0
  refine (walk W).mono fun e W' ⟨he, bel⟩ => ?_
  subst he
  exact ⟨_, rfl, _, _, _, [], _, [], hW', trodAll_mk1 (shut_bool Try.underlying4 _), trodAll_mk0, rfl, bel.frame _, fun h => by cases h⟩

/-- THE STATEMENT. -/
theorem proved : Rows.IcmpKnownSaid :=
  OpenClaim.holds_of_wide 4 Try.f4 rfl rfl rfl rfl rfl rfl rfl ⟨rfl, rfl, rfl, rfl, rfl⟩ rfl rfl rfl rfl rfl (by kernel_rfl) Try.func4 (by kernel_rfl)
    (of_decide_eq_true (by kernel_rfl)) (by unfold Func.isWrapper; first | (rw [if_pos (by decide +kernel)]; kernel_rfl) | (rw [if_neg (by decide +kernel)]; exact ⟨rfl, rfl⟩))
    (fun os started H enc _ => lifted os started H enc)
#print axioms proved

end Go.Proofs.Ytapfkhhabamndaa.ick
